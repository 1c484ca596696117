/- The contracts of the model's JoinSpans, MeetSpans, CutSpans, TicksOf and ShortenSpans. -/
import Derived.Test.YtffjkdbnkljmhaaDoorSpanPut
import Derived.IntWalk
namespace Go.Proofs.YtffjkdbnkljmhaaDoor
open Go.ChangeShapes Go.WideShapes Go.ChangeAt Go.RowKit
set_option linter.unusedVariables false
/-- what a function that answers a list of spans answers -/
def GivesS (w : World) (l : List (Int × Int)) (e : Ending) (w' : World) : Prop := ∃ A' n' c', e = .returned (.slice A' n' c') ∧ Own w' w.heap.size 105 2 A' n' c' (sv l) ∧ Below w.heap.size w w'
theorem Own.made0 (w : World) (B : Nat) (E : TypeId) (hB : B ≤ w.heap.size) : Own (w.alloc (.cells #[] E)) B E 2 (some ⟨w.heap.size, 0, none⟩) 0 0 [] := ⟨World.ownsRow_made w #[] 0 hB (by unfold maxLen; omega) rfl⟩
end Go.Proofs.YtffjkdbnkljmhaaDoor
