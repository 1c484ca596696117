/- Contracts of chapter 1's functions on numbers, of the program and of the model. -/
import Derived.Test.YtfnhfpahdgbfgaaProg
import Derived.WalkKit
import Derived.ProofKit
import Derived.OpenShut
import Derived.Handy
import Derived.Lib.Hide
namespace Go.Proofs.Ytfnhfpahdgbfgaa
open Go.ChangeShapes Go.WideShapes Go.ChangeAt Go.RowKit
set_option linter.unusedVariables false
/-- the remainder of the document -/
def modf (p q : Int) : Int := if 1 ≤ q ∧ q ≤ 1000000000000 then p % q else 0
/-- the quotient, rounded up, of the document -/
def cdf (a b : Int) : Int := if 0 ≤ a ∧ a ≤ 1000000000000 ∧ 1 ≤ b ∧ b ≤ 1000000000000 then (a + b - 1) / b else 0
def mnf (a b : Int) : Int := if b < a then b else a
def mxf (a b : Int) : Int := if a < b then b else a
theorem ret_int {k : IntKind} {a b : Int} (h : a = b) : Ending.returned (.int k a) = .returned (.int k b) := by rw [h]
theorem tmod_bd (p q : Int) (h : 1 ≤ q) : -q < p.tmod q ∧ p.tmod q < q := by
  have h1 := Int.tmod_lt_of_pos p (b := q) (by omega)
  have h2 := Int.lt_tmod_of_pos p (b := q) (by omega)
  omega
theorem emod_uniq {p q r k : Int} (h : p = q * k + r) (h0 : 0 ≤ r) (h1 : r < q) : r = p % q := by
  subst h
  rw [Int.mul_add_emod_self_left, Int.emod_eq_of_lt h0 h1]
theorem tmod_neg (p q : Int) (h : 1 ≤ q) (hn : p.tmod q < 0) : p.tmod q + q = p % q := by
  have h1 := tmod_bd p q h
  have h2 := Int.mul_tdiv_add_tmod p q
  refine emod_uniq (k := p.tdiv q - 1) ?_ (by omega) (by omega)
  rw [Int.mul_sub]; omega
theorem tmod_pos (p q : Int) (h : 1 ≤ q) (hn : 0 ≤ p.tmod q) : p.tmod q = p % q := by
  have h1 := tmod_bd p q h
  have h2 := Int.mul_tdiv_add_tmod p q
  exact emod_uniq (k := p.tdiv q) (by omega) (by omega) (by omega)
theorem iinr_t (n lo hi : Int) (w : World) (h1 : lo ≤ n) (h2 : n ≤ hi) :
    Calls Try.prog 88 #[.int .i64 n, .int .i64 lo, .int .i64 hi] w fun e w' => e = .returned (.bool true) ∧ w = w' := by
  go_enter Try.func88, Try.ntmps88
  go_wp2
  go_ret
  exact ⟨rfl, rfl⟩
theorem iinr_f (n lo hi : Int) (w : World) (h : ¬ (lo ≤ n ∧ n ≤ hi)) :
    Calls Try.prog 88 #[.int .i64 n, .int .i64 lo, .int .i64 hi] w fun e w' => e = .returned (.bool false) ∧ w = w' := by
  by_cases h1 : lo ≤ n <;> by_cases h2 : n ≤ hi
  all_goals first | (exfalso; omega) | skip
  all_goals
    clear h
    go_enter Try.func88, Try.ntmps88
    go_wp2
    go_ret
    exact ⟨rfl, rfl⟩
theorem imod (p q : Int) (w : World) :
    Calls Try.prog 75 #[.int .i64 p, .int .i64 q] w fun e w' => e = .returned (.int .i64 (modf p q)) ∧ w = w' := by
  by_cases h1 : 1 ≤ q
  · by_cases h2 : q ≤ 1000000000000
    · have hb := tmod_bd p q h1
      by_cases h3 : p.tmod q < 0
      · go_enter Try.func75, Try.ntmps75
        go_wp2
        go_ret
        refine ⟨ret_int ?_, rfl⟩
        unfold modf; rw [if_pos ⟨h1, h2⟩, ← tmod_neg p q h1 h3]
      · go_enter Try.func75, Try.ntmps75
        go_wp2
        go_ret
        refine ⟨ret_int ?_, rfl⟩
        unfold modf; rw [if_pos ⟨h1, h2⟩, ← tmod_pos p q h1 (by omega)]
    · go_enter Try.func75, Try.ntmps75
      go_wp2
      go_ret
      refine ⟨ret_int ?_, rfl⟩
      unfold modf; rw [if_neg (by omega)]
  · go_enter Try.func75, Try.ntmps75
    go_wp2
    go_ret
    refine ⟨ret_int ?_, rfl⟩
    unfold modf; rw [if_neg (by omega)]
theorem lag (a b : Int) (w : World) (p : Addr) (hp : w.cell? p = some (.int .i64 b)) :
    Calls Try.prog 70 #[.int .i64 a, .slice (some p) 1 1] w fun e w' => e = .returned (.tuple #[.int .i64 (mnf a b), .int .i64 (mxf a b)]) ∧ w = w' := by
  unfold mnf mxf
  by_cases h1 : b < a <;> by_cases h2 : a < b
  all_goals first | (exfalso; omega) | skip
  all_goals
    go_enter Try.func70, Try.ntmps70
    go_wp2
    go_rounds 2
    go_ret2
    exact ⟨by simp [*], rfl⟩
theorem imin (a b : Int) (w : World) :
    Calls Try.prog 69 #[.int .i64 a, .int .i64 b] w fun e w' => e = .returned (.int .i64 (mnf a b)) ∧ Grown w w' := by
  have hc : (w.alloc (Obj.cells #[.int .i64 b] 3)).cell? ⟨w.heap.size, 0, none⟩ = some (.int .i64 b) := by go_cell
  go_enter Try.func69, Try.ntmps69
  go_wp2_with (go_at_call 70; refine (lag _ _ _ _ hc).mono ?_; rintro e w' ⟨rfl, rfl⟩)
  go_ret
  exact ⟨rfl, by go_grown⟩
theorem imax (a b : Int) (w : World) :
    Calls Try.prog 57 #[.int .i64 a, .int .i64 b] w fun e w' => e = .returned (.int .i64 (mxf a b)) ∧ Grown w w' := by
  have hc : (w.alloc (Obj.cells #[.int .i64 b] 3)).cell? ⟨w.heap.size, 0, none⟩ = some (.int .i64 b) := by go_cell
  go_enter Try.func57, Try.ntmps57
  go_wp2_with (go_at_call 70; refine (lag _ _ _ _ hc).mono ?_; rintro e w' ⟨rfl, rfl⟩)
  go_ret
  exact ⟨rfl, by go_grown⟩
theorem smin (a b : Int) (w : World) :
    Calls Try.prog 65 #[.int .i64 a, .int .i64 b] w fun e w' => e = .returned (.int .i64 (mnf a b)) ∧ w = w' := by
  unfold mnf
  by_cases h : b < a
  all_goals
    go_enter Try.func65, Try.ntmps65
    go_wp2
    go_ret
    exact ⟨by simp [*], rfl⟩
theorem smax (a b : Int) (w : World) :
    Calls Try.prog 66 #[.int .i64 a, .int .i64 b] w fun e w' => e = .returned (.int .i64 (mxf a b)) ∧ w = w' := by
  unfold mxf
  by_cases h : a < b
  all_goals
    go_enter Try.func66, Try.ntmps66
    go_wp2
    go_ret
    exact ⟨by simp [*], rfl⟩
end Go.Proofs.Ytfnhfpahdgbfgaa
