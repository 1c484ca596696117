/- The contracts of the program's JoinSpans, MeetSpans, CutSpans and TicksOf, and of the model's TicksOf. -/
import Derived.Test.YtffjkdbnkljmhaaDoorMerge
import Derived.Deep.QuietTactic
import Derived.BigQuiet
namespace Go.Proofs.YtffjkdbnkljmhaaDoor
open Go.ChangeShapes Go.WideShapes Go.ChangeAt Go.RowKit
set_option linter.unusedVariables false
theorem below_drewN {B : Nat} {a w : World} (h : Below B a w) (n : Nat) : Below B a (w.drewN n) := by
  induction n with
  | zero => exact h
  | succ n ih => exact ih.drew
theorem or_nil (l : List (Int × Int)) : runs (fun k => tk l k || tk [] k) 1000 = joinOf l := by
  unfold joinOf
  congr 1
  funext k
  show (tk l k || false) = _
  rw [Bool.or_false]
theorem ijoin (w : World) (D : Nat) (A : Option Addr) (n c : Nat) (l : List (Int × Int)) (h : Sl w D 2 A n c (sv l)) (hD : D ≤ w.heap.size) :
    Calls Tryd.prog 92 #[.slice A n c] w (GivesS w (joinOf l)) := by
  have HJ : Hid (Calls Tryd.prog 114 #[.int .i64 0, .slice A n c, .slice none 0 0] w (GivesS w (joinOf l))) := Lib.hid (by
    have h1 := imerge0 w D w.heap.size A none n 0 c 0 l [] h (Sl.nil_ w w.heap.size 2) hD (Nat.le_refl _)
    rw [or_nil] at h1; exact h1)
  clear h
  go_enter Tryd.func92, Tryd.ntmps92
  go_wp2_with fail
  refine HJ.out.mono ?_
  rintro e w1 ⟨A1, n1, c1, rfl, o, b⟩
  have HF : Hid (GivesS w (joinOf l) (.returned (.slice A1 n1 c1)) w1) := Lib.hid ⟨_, _, _, rfl, o, b⟩
  clear o b
  go_wp2
  go_ret
  exact HF.out
theorem sumL_bd (l : List (Int × Int)) (h : ∀ p ∈ l, 0 ≤ p.1 ∧ p.1 < p.2 ∧ p.2 ≤ 1000) : 0 ≤ sumL l ∧ sumL l ≤ 1000 * l.length := by
  suffices hh : ∀ (l : List (Int × Int)) (s : Int), (∀ p ∈ l, 0 ≤ p.1 ∧ p.1 < p.2 ∧ p.2 ≤ 1000) → s ≤ l.foldl (fun s p => s + p.2 - p.1) s ∧ l.foldl (fun s p => s + p.2 - p.1) s ≤ s + 1000 * l.length by
    have := hh l 0 h; unfold sumL; omega
  intro l
  induction l with
  | nil => intro s _; simp
  | cons q l ih =>
    intro s hl
    have h1 := hl q (by simp)
    have h2 := ih (s + q.2 - q.1) (fun p hp => hl p (by simp [hp]))
    simp only [List.foldl_cons, List.length_cons]
    omega
end Go.Proofs.YtffjkdbnkljmhaaDoor
