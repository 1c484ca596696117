/- The walk of law FnExactTicksOf, its arguments known as lists. -/
import Derived.Test.YtnonlmgjbmllnaaShorten2
import Derived.Test.YtnonlmgjbmllnaaSpanCopies
import Derived.Test.YtnonlmgjbmllnaaExact
namespace Go.Proofs.Ytnonlmgjbmllnaa
open Go.ChangeShapes Go.WideShapes Go.ChangeAt Go.RowKit
set_option linter.unusedVariables false
set_option maxHeartbeats 800000 in
set_option maxRecDepth 100000 in
theorem coreTicksOf (w : World) (A0 : Option Addr) (n0 c0 : Nat) (l0 : List (Int × Int)) (r0 : Sl w w.heap.size 2 A0 n0 c0 (sv l0)) (m0 : n0 ≤ 1048576) (H0 : Rng l0) :
    Calls Try.prog 10 #[.slice A0 n0 c0] w fun e w' => e = .returned (.bool true) ∧ Below w.heap.size w w' := by
  have TB := Lib.hid (Below.refl w.heap.size w)
  have cap0 := r0.cap; have capm0 := r0.capm
  replace r0 := Lib.hid r0; replace H0 := Lib.hid H0
  have len0 := Lib.hid (r0.out.len)
  go_enter Try.func10, Try.ntmps10
  go_wp2_with fail
  refine (szspans _ A0 n0 c0 (1048576) (by omega) (by omega) (by omega)).mono ?_
  rintro e wz0 ⟨rfl, rfl⟩
  rw [if_neg (show ¬ ((1048576 : Int) < (n0 : Int)) by omega)]
  have hpos0 : ¬ (1048576 - (n0 : Int) < 0) := by omega
  go_wp2_with fail
  refine (tospans _ _ A0 n0 c0 l0 r0.out TB.out.size (by omega)).mono ?_
  rintro e w1 ⟨⟨At0, ct0, rfl, o⟩, b⟩
  have ot0 := Lib.hid (o.fewer TB.out.size); clear o
  replace r0 := Lib.hid (r0.out.below (b.mono TB.out.size) (Nat.le_refl _))
  replace TB := Lib.hid (TB.out.trans (b.mono TB.out.size))
  clear b
  go_wp2_with fail
  refine (sticksOf _ _ At0 n0 ct0 l0 ot0.out.sl (Nat.le_refl _)).mono ?_
  rintro e w2 ⟨rfl, b⟩
  obtain ⟨zv, hzv⟩ : ∃ z, z = ticksOf l0 := ⟨_, rfl⟩
  rw [← hzv]; replace hzv := Lib.hid hzv
  replace ot0 := Lib.hid (ot0.out.on b)
  replace r0 := Lib.hid (r0.out.below (b.mono TB.out.size) (Nat.le_refl _))
  replace TB := Lib.hid (TB.out.trans (b.mono TB.out.size))
  clear b
  clear ot0
  go_wp2_with fail
  refine (tospans _ _ A0 n0 c0 l0 r0.out TB.out.size (by omega)).mono ?_
  rintro e w3 ⟨⟨Ax0, cx0, rfl, o⟩, b⟩
  have ox0 := Lib.hid (o.fewer TB.out.size); clear o
  replace r0 := Lib.hid (r0.out.below (b.mono TB.out.size) (Nat.le_refl _))
  replace TB := Lib.hid (TB.out.trans (b.mono TB.out.size))
  clear b
  go_wp2_with fail
  refine (iticksOf _ _ Ax0 n0 cx0 l0 ox0.out.sl (Nat.le_refl _)).mono ?_
  rintro e w4 ⟨rfl, b⟩
  rw [← hzv.out]
  replace ox0 := Lib.hid (ox0.out.on b)
  replace r0 := Lib.hid (r0.out.below (b.mono TB.out.size) (Nat.le_refl _))
  replace TB := Lib.hid (TB.out.trans (b.mono TB.out.size))
  clear b
  go_wp2_with fail
  refine (tospans _ _ A0 n0 c0 l0 r0.out TB.out.size (by omega)).mono ?_
  rintro e w5 ⟨⟨Ay0, cy0, rfl, o⟩, b⟩
  have apx0_y0 := Lib.hid (ox0.out.apart o (Nat.le_refl _)); have apy0_x0 := Lib.hid (ox0.out.apart' o (Nat.le_refl _))
  have oy0 := Lib.hid (o.fewer TB.out.size); clear o
  replace ox0 := Lib.hid (ox0.out.on b)
  replace r0 := Lib.hid (r0.out.below (b.mono TB.out.size) (Nat.le_refl _))
  replace TB := Lib.hid (TB.out.trans (b.mono TB.out.size))
  clear b
  go_wp2_with fail
  refine (eqspans _ _ _ Ax0 Ay0 n0 n0 cx0 cy0 _ ox0.out.sl oy0.out.sl (Nat.le_refl _) (Nat.le_refl _)).mono ?_
  rintro e w6 ⟨rfl, b⟩
  replace ox0 := Lib.hid (ox0.out.on b)
  replace oy0 := Lib.hid (oy0.out.on b)
  replace r0 := Lib.hid (r0.out.below (b.mono TB.out.size) (Nat.le_refl _))
  replace TB := Lib.hid (TB.out.trans (b.mono TB.out.size))
  clear b
  clear oy0
  go_wp2_with fail
  go_ret
  exact ⟨rfl, TB.out⟩
end Go.Proofs.Ytnonlmgjbmllnaa
