/- The model's SameLinks and LinksAt. -/
import Derived.Test.YtjobjjmeneddnaaGraphFacts
import Derived.Test.YtjobjjmeneddnaaSpanPut
import Derived.Test.YtjobjjmeneddnaaSpan
import Derived.Test.YtjobjjmeneddnaaApart
import Derived.BigQuiet
import Derived.Laws.StructEq
import Derived.Deep.RegionHeld3
import Derived.Deep.Cut
import Derived.Deep.DeepCutAuto
import Derived.Deep.CutRange
namespace Go.Proofs.Ytjobjjmeneddnaa
open Go.ChangeShapes Go.WideShapes Go.ChangeAt Go.RowKit
set_option linter.unusedVariables false
theorem take_all_eq {α : Type} {l m : List α} (h : l.length = m.length) (h2 : l.take l.length = m.take l.length) : l = m := by
  rw [List.take_length, h, List.take_length] at h2; exact h2
theorem memTake (L : List (Int × Int)) (r : Int × Int) (j : Nat) (h : j < L.length) : decide (r ∈ L.take (j + 1)) = (decide (r ∈ L.take j) || decide (L[j] = r)) := by
  rw [List.take_succ_eq_append_getElem h, Bool.eq_iff_iff]
  simp only [decide_eq_true_eq, Bool.or_eq_true, List.mem_append, List.mem_singleton]
  constructor
  · rintro (h | h)
    · exact .inl h
    · exact .inr h.symm
  · rintro (h | h)
    · exact .inl h
    · exact .inr h.symm
theorem take_eq_step {α : Type} {l m : List α} {k : Nat} (hl : k < l.length) (hm : k < m.length) : l.take (k + 1) = m.take (k + 1) ↔ l.take k = m.take k ∧ l[k] = m[k] := by
  rw [List.take_succ_eq_append_getElem hl, List.take_succ_eq_append_getElem hm]
  constructor
  · intro h
    have := List.append_inj h (by simp; omega)
    exact ⟨this.1, by simpa using this.2⟩
  · rintro ⟨h1, h2⟩; rw [h1, h2]
/-- what a function that answers a list of links answers -/
def GivesK (w : World) (l : List (Int × Int)) (e : Ending) (w' : World) : Prop := ∃ A' n' c', e = .returned (.slice A' n' c') ∧ Own w' w.heap.size 80 2 A' n' c' (sv l) ∧ Below w.heap.size w w'
theorem linkK_info : (Try.prog.info? 80).map (fun i => (i.zero, i.size, i.bytes)) = some (some (.agg #[.int .i64 0, .int .i64 0]), 2, 16) := by kernel_rfl
theorem below_drawnK {B : Nat} {a w : World} (h : Below B a w) (n : Nat) : Below B a (w.drewN n) := ⟨h.os, h.tape, h.output, h.size, h.block⟩
end Go.Proofs.Ytjobjjmeneddnaa
