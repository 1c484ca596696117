/- The contracts of the model's l4Last and l4Put. The contracts of the model's JoinSpans, MeetSpans, CutSpans, TicksOf and ShortenSpans. The contracts of the model's MeetSpans and CutSpans. -/
import Derived.Test.YtjobjjmeneddnaaSpan
import Derived.Test.YtjobjjmeneddnaaInts
import Derived.IntWalk
namespace Go.Proofs.Ytjobjjmeneddnaa
open Go.ChangeShapes Go.WideShapes Go.ChangeAt Go.RowKit
set_option linter.unusedVariables false
/-- a call that answers a number and makes memory of its own at most -/
def NumB (w : World) (z : Int) (e : Ending) (w' : World) : Prop := e = .returned (.int .i64 z) ∧ Below w.heap.size w w'
theorem Sl.one2 (w : World) (u v : Value) (t : TypeId) : Sl (w.alloc (.cells #[u, v] t)) (w.heap.size + 1) 2 (some ⟨w.heap.size, 0, none⟩) 1 1 [u, v] :=
  ⟨rfl, fun _ => ⟨_, rfl, by simp, fun j x hx => by
    have e : (⟨w.heap.size, 0, none⟩ : Addr).add j = ⟨w.heap.size, j, none⟩ := by unfold Addr.add; split <;> simp_all
    rw [e, cell_of_row _ _ _ _ _ _ (heap_alloc_new w _), ← hx]
    simp⟩, Nat.le_refl _, by omega, fun h => by cases h⟩
end Go.Proofs.Ytjobjjmeneddnaa
namespace Go.Proofs.Ytjobjjmeneddnaa
open Go.ChangeShapes Go.WideShapes Go.ChangeAt Go.RowKit
set_option linter.unusedVariables false
/-- what a function that answers a list of spans answers -/
theorem Own.made0 (w : World) (B : Nat) (E : TypeId) (hB : B ≤ w.heap.size) : Own (w.alloc (.cells #[] E)) B E 2 (some ⟨w.heap.size, 0, none⟩) 0 0 [] := ⟨World.ownsRow_made w #[] 0 hB (by unfold maxLen; omega) rfl⟩
end Go.Proofs.Ytjobjjmeneddnaa
namespace Go.Proofs.Ytjobjjmeneddnaa
open Go.ChangeShapes Go.WideShapes Go.ChangeAt Go.RowKit
set_option linter.unusedVariables false
end Go.Proofs.Ytjobjjmeneddnaa
