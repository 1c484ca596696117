/- The laws' test of a code's length, and their byte of a code. -/
import Derived.Test.YtjobjjmeneddnaaProg
import Derived.Test.YtjobjjmeneddnaaSlices
import Derived.WalkKit
import Derived.ProofKit
import Derived.OpenShut
import Derived.Handy
import Derived.Lib.Hide
namespace Go.Proofs.Ytjobjjmeneddnaa
open Go.ChangeShapes Go.WideShapes Go.ChangeAt Go.RowKit
set_option linter.unusedVariables false
theorem big_no (w : World) (A : Option Addr) (c n : Nat) (h : n ≤ 1048576) (hm : c ≤ 9223372036854775807) (hn : n ≤ c) :
    Calls Try.prog 10 #[.slice A n c] w fun e w' => e = .returned (.bool false) ∧ w = w' := by
  go_enter Try.func10, Try.ntmps10
  go_wp2
  go_ret
  exact ⟨by simp; omega, rfl⟩
end Go.Proofs.Ytjobjjmeneddnaa
