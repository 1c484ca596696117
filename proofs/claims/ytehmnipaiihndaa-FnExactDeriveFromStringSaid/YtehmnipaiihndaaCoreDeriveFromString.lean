/- The walk of law FnExactDeriveFromString, its arguments known as lists. -/
import Derived.Test.YtehmnipaiihndaaCrypto
import Derived.Test.YtehmnipaiihndaaExact
namespace Go.Proofs.Ytehmnipaiihndaa
open Go.ChangeShapes Go.WideShapes Go.ChangeAt Go.RowKit
set_option linter.unusedVariables false
set_option maxHeartbeats 800000 in
set_option maxRecDepth 100000 in
theorem coreDeriveFromString (w : World) (z0 : Int) (p0 : -9223372036854775808 ≤ z0) (q0 : z0 ≤ 9223372036854775807) (t1 : ByteArray) (m1 : t1.size ≤ 1048576) :
    Calls Try.prog 11 #[.int .i64 z0, .string t1] w fun e w' => e = .returned (.bool true) ∧ Below w.heap.size w w' := by
  have TB := Lib.hid (Below.refl w.heap.size w)
  go_enter Try.func11, Try.ntmps11
  go_wp2_with fail
  refine (sderive _ z0 t1 (by omega)).mono ?_
  rintro e w1 ⟨rfl, b⟩
  obtain ⟨zv, hzv⟩ : ∃ z, z = dvs z0 t1 := ⟨_, rfl⟩
  rw [← hzv]; replace hzv := Lib.hid hzv
  replace TB := Lib.hid (TB.out.trans (b.mono TB.out.size))
  clear b
  go_wp2_with fail
  refine (iderive _ z0 t1 (by omega)).mono ?_
  rintro e w2 ⟨rfl, b⟩
  rw [← hzv.out]
  replace TB := Lib.hid (TB.out.trans (b.mono TB.out.size))
  clear b
  go_wp2_with fail
  go_ret
  exact ⟨rfl, TB.out⟩
end Go.Proofs.Ytehmnipaiihndaa
