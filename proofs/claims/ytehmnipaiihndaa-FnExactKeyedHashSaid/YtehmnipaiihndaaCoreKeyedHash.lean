/- The walk of law FnExactKeyedHash, its arguments known as lists. -/
import Derived.Test.YtehmnipaiihndaaCrypto
import Derived.Test.YtehmnipaiihndaaExact
namespace Go.Proofs.Ytehmnipaiihndaa
open Go.ChangeShapes Go.WideShapes Go.ChangeAt Go.RowKit
set_option linter.unusedVariables false
set_option maxHeartbeats 800000 in
set_option maxRecDepth 100000 in
theorem coreKeyedHash (w : World) (z0 : Int) (p0 : -9223372036854775808 ≤ z0) (q0 : z0 ≤ 9223372036854775807) (A1 : Option Addr) (n1 c1 : Nat) (l1 : List Int) (r1 : Sl w w.heap.size 1 A1 n1 c1 (iv l1)) (m1 : n1 ≤ 1048576) (H1 : ∀ z ∈ l1, -9223372036854775808 ≤ z ∧ z ≤ 9223372036854775807) :
    Calls Try.prog 6 #[.int .i64 z0, .slice A1 n1 c1] w fun e w' => e = .returned (.bool true) ∧ Below w.heap.size w w' := by
  have TB := Lib.hid (Below.refl w.heap.size w)
  have cap1 := r1.cap; have capm1 := r1.capm
  replace r1 := Lib.hid r1; replace H1 := Lib.hid H1
  have len1 := Lib.hid (r1.out.len)
  go_enter Try.func6, Try.ntmps6
  go_wp2_with fail
  refine (toints _ _ A1 n1 c1 l1 r1.out TB.out.size (by omega) H1.out).mono ?_
  rintro e w1 ⟨⟨At1, ct1, rfl, o⟩, b⟩
  have ot1 := Lib.hid (o.fewer TB.out.size); clear o
  replace r1 := Lib.hid (r1.out.below (b.mono TB.out.size) (Nat.le_refl _))
  replace TB := Lib.hid (TB.out.trans (b.mono TB.out.size))
  clear b
  go_wp2_with fail
  refine (skeyed _ _ z0 At1 n1 ct1 l1 ot1.out.sl (Nat.le_refl _) (by omega)).mono ?_
  rintro e w2 ⟨rfl, b⟩
  obtain ⟨zv, hzv⟩ : ∃ z, z = kh z0 l1 := ⟨_, rfl⟩
  rw [← hzv]; replace hzv := Lib.hid hzv
  replace ot1 := Lib.hid (ot1.out.on b)
  replace r1 := Lib.hid (r1.out.below (b.mono TB.out.size) (Nat.le_refl _))
  replace TB := Lib.hid (TB.out.trans (b.mono TB.out.size))
  clear b
  clear ot1
  go_wp2_with fail
  refine (toints _ _ A1 n1 c1 l1 r1.out TB.out.size (by omega) H1.out).mono ?_
  rintro e w3 ⟨⟨Ax1, cx1, rfl, o⟩, b⟩
  have ox1 := Lib.hid (o.fewer TB.out.size); clear o
  replace r1 := Lib.hid (r1.out.below (b.mono TB.out.size) (Nat.le_refl _))
  replace TB := Lib.hid (TB.out.trans (b.mono TB.out.size))
  clear b
  go_wp2_with fail
  refine (ikeyed _ _ z0 Ax1 n1 cx1 l1 ox1.out.sl (Nat.le_refl _) (by omega)).mono ?_
  rintro e w4 ⟨rfl, b⟩
  rw [← hzv.out]
  replace ox1 := Lib.hid (ox1.out.on b)
  replace r1 := Lib.hid (r1.out.below (b.mono TB.out.size) (Nat.le_refl _))
  replace TB := Lib.hid (TB.out.trans (b.mono TB.out.size))
  clear b
  go_wp2_with fail
  refine (toints _ _ A1 n1 c1 l1 r1.out TB.out.size (by omega) H1.out).mono ?_
  rintro e w5 ⟨⟨Ay1, cy1, rfl, o⟩, b⟩
  have apx1_y1 := Lib.hid (ox1.out.apart o (Nat.le_refl _)); have apy1_x1 := Lib.hid (ox1.out.apart' o (Nat.le_refl _))
  have oy1 := Lib.hid (o.fewer TB.out.size); clear o
  replace ox1 := Lib.hid (ox1.out.on b)
  replace r1 := Lib.hid (r1.out.below (b.mono TB.out.size) (Nat.le_refl _))
  replace TB := Lib.hid (TB.out.trans (b.mono TB.out.size))
  clear b
  go_wp2_with fail
  refine (eqints _ _ _ Ax1 Ay1 n1 n1 cx1 cy1 _ ox1.out.sl oy1.out.sl (iv_kind _ H1.out)).mono ?_
  rintro e w6 ⟨rfl, b⟩
  replace ox1 := Lib.hid (ox1.out.on b)
  replace oy1 := Lib.hid (oy1.out.on b)
  replace r1 := Lib.hid (r1.out.below (b.mono TB.out.size) (Nat.le_refl _))
  replace TB := Lib.hid (TB.out.trans (b.mono TB.out.size))
  clear b
  clear oy1
  go_wp2_with fail
  go_ret
  exact ⟨rfl, TB.out⟩
end Go.Proofs.Ytehmnipaiihndaa
