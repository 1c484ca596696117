/- The program's IsContact, IsPlan, CanSpeak and ContactTicks. -/
import Derived.Test.YtfnhfpahdgbfgaaContactFacts
import Derived.Test.YtfnhfpahdgbfgaaSpan
import Derived.Test.YtfnhfpahdgbfgaaInts
import Derived.Test.YtfnhfpahdgbfgaaApart
import Derived.BigQuiet
namespace Go.Proofs.Ytfnhfpahdgbfgaa
open Go.ChangeShapes Go.WideShapes Go.ChangeAt Go.RowKit
set_option linter.unusedVariables false
theorem ispan (w : World) (p q f t : Int) :
    Calls Try.prog 40 #[.agg #[.int .i64 p, .int .i64 q, .int .i64 f, .int .i64 t]] w fun e w' => e = .returned (.agg #[.int .i64 f, .int .i64 t]) ∧ Below w.heap.size w w' := by
  go_enter Try.func40, Try.ntmps40
  go_wp2
  (try simp only [Exit.inBlock, Exit.then])
  refine bodyPost_ret (v := .agg #[.int .i64 f, .int .i64 t]) (by simp [results, Try.results40, go_sem]; try rfl) rfl ⟨rfl, ?_⟩
  exact ((Below.refl _ _).alloc (Nat.le_refl _) _).alloc (by simp) _
end Go.Proofs.Ytfnhfpahdgbfgaa
