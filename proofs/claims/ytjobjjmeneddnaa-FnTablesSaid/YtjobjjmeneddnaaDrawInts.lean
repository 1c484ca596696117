/- The contracts of chapter 1's draws: what they yield, for whatever code. -/
import Derived.Test.YtjobjjmeneddnaaDraw
namespace Go.Proofs.Ytjobjjmeneddnaa
open Go.ChangeShapes Go.WideShapes Go.ChangeAt Go.RowKit
set_option linter.unusedVariables false
theorem i64_all {l : List Int} (h : l.all (fun z => decide (-9223372036854775808 ≤ z) && decide (z ≤ 9223372036854775807)) = true) : ∀ z ∈ l, -9223372036854775808 ≤ z ∧ z ≤ 9223372036854775807 := by
  rw [List.all_eq_true] at h
  intro z hz; have := h z hz; simpa using this
/-- some integer of 64 bits -/
def SomeI64 (e : Ending) : Prop := ∃ z : Int, (-9223372036854775808 ≤ z ∧ z ≤ 9223372036854775807) ∧ e = .returned (.int .i64 z)
end Go.Proofs.Ytjobjjmeneddnaa
