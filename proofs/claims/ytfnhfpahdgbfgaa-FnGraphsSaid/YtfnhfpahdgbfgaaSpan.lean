/- The contracts of IsSpan, InSpan and InSpans, of the program and of the model. -/
import Derived.Test.YtfnhfpahdgbfgaaProg
import Derived.Test.YtfnhfpahdgbfgaaSpans
import Derived.WalkKit
import Derived.ProofKit
import Derived.OpenShut
import Derived.Handy
import Derived.Lib.Hide
import Derived.LoopTactic
namespace Go.Proofs.Ytfnhfpahdgbfgaa
open Go.ChangeShapes Go.WideShapes Go.ChangeAt Go.RowKit
set_option linter.unusedVariables false
theorem add_two (a : Addr) (j : Nat) : (⟨(a.add j).block, (a.add j).off + 1, none⟩ : Addr) = a.add (j + 1) := by
  rw [← add_of_add]; rfl
/-- the cells of an element -/
theorem Sl.two {w : World} {B n c : Nat} {A : Option Addr} {l : List (Int × Int)} (h : Sl w B 2 A n c (sv l)) {k : Nat} (hk : k < n) :
    ∃ (ad : Addr) (hx : k < l.length), A = some ad ∧ ad.block < B ∧ w.cell? (ad.add (k * 2)) = some (.int .i64 l[k].1) ∧ w.cell? ⟨(ad.add (k * 2)).block, (ad.add (k * 2)).off + 1, none⟩ = some (.int .i64 l[k].2) := by
  have hl := h.len
  rw [sv_len] at hl
  have hx : k < l.length := by omega
  obtain ⟨ad, e, hb, hc⟩ := h.rd (by rw [sv_len]; omega)
  refine ⟨ad, hx, e, hb, hc _ _ (sv_get0 l k hx), ?_⟩
  rw [add_two]
  exact hc _ _ (sv_get1 l k hx)
theorem bcell {W w1 : World} (hb : Below W.heap.size W w1) : (∀ b o, b < W.heap.size → w1.cell? ⟨b, o, none⟩ = W.cell? ⟨b, o, none⟩) ∧ (∀ b o, b < W.heap.size → w1.frozen? ⟨b, o, none⟩ = W.frozen? ⟨b, o, none⟩) :=
  ⟨fun b o h => hb.cell (p := ⟨b, o, none⟩) h, fun b o h => hb.frozen (p := ⟨b, o, none⟩) h⟩
theorem ret_bool {a b : Bool} (h : a = b) : Ending.returned (.bool a) = .returned (.bool b) := by rw [h]
/-- a call that answers a Bool and makes memory of its own at most -/
def Says (w : World) (b : Bool) (e : Ending) (w' : World) : Prop := e = .returned (.bool b) ∧ Below w.heap.size w w'
theorem iisspan (w : World) (x y : Int) (b : Bool) (h : isS (x, y) = b) :
    Calls Try.prog 13 #[.agg #[.int .i64 x, .int .i64 y]] w (Says w b) := by
  by_cases h1 : 0 ≤ x <;> by_cases h2 : y ≤ 1000 <;> by_cases h3 : x < y
  all_goals first | (exfalso; omega) | skip
  all_goals
    have HR := Lib.hid h
    clear h
    go_enter Try.func13, Try.ntmps13
    go_wp2
    go_ret
    exact ⟨ret_bool (HR.out.symm.trans (by simp [isS]; first | omega | (intros; omega))).symm, (Below.refl _ _).alloc (Nat.le_refl _) _⟩
theorem sisspan (w : World) (x y : Int) (b : Bool) (h : isS (x, y) = b) :
    Calls Try.prog 51 #[.agg #[.int .i64 x, .int .i64 y]] w (Says w b) := by
  by_cases h1 : 0 ≤ x <;> by_cases h2 : y ≤ 1000 <;> by_cases h3 : x < y
  all_goals first | (exfalso; omega) | skip
  all_goals
    have HR := Lib.hid h
    clear h
    go_enter Try.func51, Try.ntmps51
    go_wp2
    go_ret
    exact ⟨ret_bool (HR.out.symm.trans (by simp [isS]; first | omega | (intros; omega))).symm, (Below.refl _ _).alloc (Nat.le_refl _) _⟩
theorem iinspan (w : World) (x y t : Int) (b : Bool) (h : inS (x, y) t = b) :
    Calls Try.prog 39 #[.agg #[.int .i64 x, .int .i64 y], .int .i64 t] w (Says w b) := by
  by_cases h0 : isS (x, y) = true
  · have h0' := (isS_iff _).1 h0
    by_cases h1 : x ≤ t <;> by_cases h2 : t < y
    all_goals
      have HR := Lib.hid h; have HQ := Lib.hid h0'
      clear h h0'
      have H0 := Lib.hid h0; clear h0
      go_enter Try.func39, Try.ntmps39
      go_wp2_with fail
      refine (iisspan _ _ _ _ H0.out).mono ?_
      rintro e w1 ⟨rfl, b⟩
      obtain ⟨hc, hf⟩ := bcell b
      have B := Lib.hid b; clear b
      go_wp2
      go_ret
      exact ⟨ret_bool (HR.out.symm.trans (by have := HQ.out; rw [Bool.eq_iff_iff]; simp [inS]; first | omega | (intros; omega))).symm, ((Below.refl _ _).alloc (Nat.le_refl _) _).trans (B.out.mono (by simp))⟩
  · obtain rfl : b = false := by
      rw [← h]
      cases hi : inS (x, y) t
      · rfl
      · exact absurd ((isS_iff _).2 ((inS_iff _ _).1 hi).1) h0
    have H0 : Hid (isS (x, y) = false) := Lib.hid (by simpa using h0)
    clear h h0
    go_enter Try.func39, Try.ntmps39
    go_wp2_with fail
    refine (iisspan _ _ _ _ H0.out).mono ?_
    rintro e w1 ⟨rfl, b⟩
    obtain ⟨hc, hf⟩ := bcell b
    have B := Lib.hid b; clear b
    go_wp2
    go_ret
    exact ⟨rfl, ((Below.refl _ _).alloc (Nat.le_refl _) _).trans (B.out.mono (by simp))⟩
theorem sinspan (w : World) (x y t : Int) (b : Bool) (h : inS (x, y) t = b) :
    Calls Try.prog 46 #[.agg #[.int .i64 x, .int .i64 y], .int .i64 t] w (Says w b) := by
  by_cases h0 : isS (x, y) = true
  · have h0' := (isS_iff _).1 h0
    by_cases h1 : x ≤ t <;> by_cases h2 : t < y
    all_goals
      have HR := Lib.hid h; have HQ := Lib.hid h0'
      clear h h0'
      have H0 := Lib.hid h0; clear h0
      go_enter Try.func46, Try.ntmps46
      go_wp2_with fail
      refine (sisspan _ _ _ _ H0.out).mono ?_
      rintro e w1 ⟨rfl, b⟩
      obtain ⟨hc, hf⟩ := bcell b
      have B := Lib.hid b; clear b
      go_wp2
      go_ret
      exact ⟨ret_bool (HR.out.symm.trans (by have := HQ.out; rw [Bool.eq_iff_iff]; simp [inS]; first | omega | (intros; omega))).symm, ((Below.refl _ _).alloc (Nat.le_refl _) _).trans (B.out.mono (by simp))⟩
  · obtain rfl : b = false := by
      rw [← h]
      cases hi : inS (x, y) t
      · rfl
      · exact absurd ((isS_iff _).2 ((inS_iff _ _).1 hi).1) h0
    have H0 : Hid (isS (x, y) = false) := Lib.hid (by simpa using h0)
    clear h h0
    go_enter Try.func46, Try.ntmps46
    go_wp2_with fail
    refine (sisspan _ _ _ _ H0.out).mono ?_
    rintro e w1 ⟨rfl, b⟩
    obtain ⟨hc, hf⟩ := bcell b
    have B := Lib.hid b; clear b
    go_wp2
    go_ret
    exact ⟨rfl, ((Below.refl _ _).alloc (Nat.le_refl _) _).trans (B.out.mono (by simp))⟩
end Go.Proofs.Ytfnhfpahdgbfgaa
