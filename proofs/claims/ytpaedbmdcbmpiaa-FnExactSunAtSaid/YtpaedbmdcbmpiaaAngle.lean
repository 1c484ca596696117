/- What chapter 5's functions on angles answer, of the program and of the model. -/
import Derived.Test.YtpaedbmdcbmpiaaProg
import Derived.Test.YtpaedbmdcbmpiaaInts
import Derived.WalkKit
import Derived.ProofKit
import Derived.OpenShut
import Derived.Handy
import Derived.Lib.Hide
namespace Go.Proofs.Ytpaedbmdcbmpiaa
open Go.ChangeShapes Go.WideShapes Go.ChangeAt Go.RowKit
set_option linter.unusedVariables false
/-- the angle of a number -/
def ang (n : Int) : Int := n % 360
theorem ang_eq (n : Int) : modf n 360 = ang n := by unfold modf ang; rw [if_pos (by omega)]
theorem ang_lo (n : Int) : 0 ≤ ang n := by unfold ang; omega
theorem ang_hi (n : Int) : ang n < 360 := by unfold ang; omega
/-- the gap between two angles -/
def gapf (a b : Int) : Int := mnf (ang (ang a - ang b)) (ang (ang b - ang a))
theorem gapf_eq (a b : Int) : mnf (ang (ang a - ang b)) (360 - ang (ang a - ang b)) = gapf a b := by
  unfold gapf mnf ang; split <;> split <;> omega
theorem iang (n : Int) (w : World) :
    Calls Try.prog 27 #[.int .i64 n] w fun e w' => e = .returned (.int .i64 (ang n)) ∧ w = w' := by
  go_enter Try.func27, Try.ntmps27
  go_wp2_with fail
  refine (imod _ _ _).mono ?_
  rintro e w' ⟨rfl, rfl⟩
  go_wp2
  go_ret
  exact ⟨ret_int (ang_eq n), rfl⟩
theorem sang (n : Int) (w : World) :
    Calls Try.prog 21 #[.int .i64 n] w fun e w' => e = .returned (.int .i64 (ang n)) ∧ w = w' := by
  go_enter Try.func21, Try.ntmps21
  go_wp2_with fail
  refine (smod _ _ _).mono ?_
  rintro e w' ⟨rfl, rfl⟩
  go_wp2
  go_ret
  exact ⟨ret_int (ang_eq n), rfl⟩
end Go.Proofs.Ytpaedbmdcbmpiaa
