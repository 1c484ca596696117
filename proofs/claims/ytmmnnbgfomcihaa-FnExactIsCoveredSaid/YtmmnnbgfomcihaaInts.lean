/- Contracts of chapter 1's functions on numbers, of the program and of the model. -/
import Derived.Test.YtmmnnbgfomcihaaProg
import Derived.WalkKit
import Derived.ProofKit
import Derived.OpenShut
import Derived.Handy
import Derived.Lib.Hide
namespace Go.Proofs.Ytmmnnbgfomcihaa
open Go.ChangeShapes Go.WideShapes Go.ChangeAt Go.RowKit
set_option linter.unusedVariables false
/-- the remainder of the document -/
def modf (p q : Int) : Int := if 1 ≤ q ∧ q ≤ 1000000000000 then p % q else 0
/-- the quotient, rounded up, of the document -/
def cdf (a b : Int) : Int := if 0 ≤ a ∧ a ≤ 1000000000000 ∧ 1 ≤ b ∧ b ≤ 1000000000000 then (a + b - 1) / b else 0
def mnf (a b : Int) : Int := if b < a then b else a
def mxf (a b : Int) : Int := if a < b then b else a
theorem ret_int {k : IntKind} {a b : Int} (h : a = b) : Ending.returned (.int k a) = .returned (.int k b) := by rw [h]
theorem tmod_bd (p q : Int) (h : 1 ≤ q) : -q < p.tmod q ∧ p.tmod q < q := by
  have h1 := Int.tmod_lt_of_pos p (b := q) (by omega)
  have h2 := Int.lt_tmod_of_pos p (b := q) (by omega)
  omega
theorem emod_uniq {p q r k : Int} (h : p = q * k + r) (h0 : 0 ≤ r) (h1 : r < q) : r = p % q := by
  subst h
  rw [Int.mul_add_emod_self_left, Int.emod_eq_of_lt h0 h1]
theorem tmod_neg (p q : Int) (h : 1 ≤ q) (hn : p.tmod q < 0) : p.tmod q + q = p % q := by
  have h1 := tmod_bd p q h
  have h2 := Int.mul_tdiv_add_tmod p q
  refine emod_uniq (k := p.tdiv q - 1) ?_ (by omega) (by omega)
  rw [Int.mul_sub]; omega
theorem tmod_pos (p q : Int) (h : 1 ≤ q) (hn : 0 ≤ p.tmod q) : p.tmod q = p % q := by
  have h1 := tmod_bd p q h
  have h2 := Int.mul_tdiv_add_tmod p q
  exact emod_uniq (k := p.tdiv q) (by omega) (by omega) (by omega)
theorem lag (a b : Int) (w : World) (p : Addr) (hp : w.cell? p = some (.int .i64 b)) :
    Calls Try.prog 44 #[.int .i64 a, .slice (some p) 1 1] w fun e w' => e = .returned (.tuple #[.int .i64 (mnf a b), .int .i64 (mxf a b)]) ∧ w = w' := by
  unfold mnf mxf
  by_cases h1 : b < a <;> by_cases h2 : a < b
  all_goals first | (exfalso; omega) | skip
  all_goals
    go_enter Try.func44, Try.ntmps44
    go_wp2
    go_rounds 2
    go_ret2
    exact ⟨by simp [*], rfl⟩
theorem imax (a b : Int) (w : World) :
    Calls Try.prog 64 #[.int .i64 a, .int .i64 b] w fun e w' => e = .returned (.int .i64 (mxf a b)) ∧ Grown w w' := by
  have hc : (w.alloc (Obj.cells #[.int .i64 b] 3)).cell? ⟨w.heap.size, 0, none⟩ = some (.int .i64 b) := by go_cell
  go_enter Try.func64, Try.ntmps64
  go_wp2_with (go_at_call 44; refine (lag _ _ _ _ hc).mono ?_; rintro e w' ⟨rfl, rfl⟩)
  go_ret
  exact ⟨rfl, by go_grown⟩
theorem smin (a b : Int) (w : World) :
    Calls Try.prog 70 #[.int .i64 a, .int .i64 b] w fun e w' => e = .returned (.int .i64 (mnf a b)) ∧ w = w' := by
  unfold mnf
  by_cases h : b < a
  all_goals
    go_enter Try.func70, Try.ntmps70
    go_wp2
    go_ret
    exact ⟨by simp [*], rfl⟩
theorem smax (a b : Int) (w : World) :
    Calls Try.prog 74 #[.int .i64 a, .int .i64 b] w fun e w' => e = .returned (.int .i64 (mxf a b)) ∧ w = w' := by
  unfold mxf
  by_cases h : a < b
  all_goals
    go_enter Try.func74, Try.ntmps74
    go_wp2
    go_ret
    exact ⟨by simp [*], rfl⟩
end Go.Proofs.Ytmmnnbgfomcihaa
