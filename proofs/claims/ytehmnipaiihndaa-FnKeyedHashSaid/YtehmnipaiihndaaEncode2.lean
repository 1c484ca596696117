/- The contracts of chapter 2's encoders (AppendUvarint, AppendBytes, EncodeInts), of the program and of the model. -/
import Derived.Test.YtehmnipaiihndaaEncode
import Derived.Laws.BitsLemmas
namespace Go.Proofs.Ytehmnipaiihndaa
open Go.ChangeShapes Go.WideShapes Go.ChangeAt Go.RowKit
set_option linter.unusedVariables false
/-- what an encoder answers: a slice of the call's own with these bytes -/
def Gives (w : World) (l : List Nat) (e : Ending) (w' : World) : Prop := (∃ A' n' c', e = .returned (.slice A' n' c') ∧ Own w' w.heap.size 5 1 A' n' c' (bv l)) ∧ Below w.heap.size w w'
end Go.Proofs.Ytehmnipaiihndaa
