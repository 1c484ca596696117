/- The walk of law FnExactCountReaching, its arguments known as lists. -/
import Derived.Test.YtclillkneadplaaPath
import Derived.Test.YtclillkneadplaaExact
namespace Go.Proofs.Ytclillkneadplaa
open Go.ChangeShapes Go.WideShapes Go.ChangeAt Go.RowKit
set_option linter.unusedVariables false
set_option maxHeartbeats 800000 in
set_option maxRecDepth 100000 in
theorem coreCountReaching (w : World) (A0 : Option Addr) (n0 c0 : Nat) (l0 : List Int) (r0 : Sl w w.heap.size 1 A0 n0 c0 (iv l0)) (m0 : n0 ≤ 1048576) (H0 : ∀ z ∈ l0, -9223372036854775808 ≤ z ∧ z ≤ 9223372036854775807) :
    Calls Try.prog 8 #[.slice A0 n0 c0] w fun e w' => e = .returned (.bool true) ∧ Below w.heap.size w w' := by
  have TB := Lib.hid (Below.refl w.heap.size w)
  have cap0 := r0.cap; have capm0 := r0.capm
  replace r0 := Lib.hid r0; replace H0 := Lib.hid H0
  have len0 := Lib.hid (r0.out.len)
  go_enter Try.func8, Try.ntmps8
  go_wp2_with fail
  refine (toints _ _ A0 n0 c0 l0 r0.out TB.out.size (by omega) H0.out).mono ?_
  rintro e w1 ⟨⟨At0, ct0, rfl, o⟩, b⟩
  have ot0 := Lib.hid (o.fewer TB.out.size); clear o
  replace r0 := Lib.hid (r0.out.below (b.mono TB.out.size) (Nat.le_refl _))
  replace TB := Lib.hid (TB.out.trans (b.mono TB.out.size))
  clear b
  go_wp2_with fail
  refine (scountB _ _ At0 n0 ct0 l0 ot0.out.sl (by omega)).mono ?_
  rintro e w2 ⟨rfl, b⟩
  obtain ⟨zv, hzv⟩ : ∃ z, z = ((cntL l0 : Nat) : Int) := ⟨_, rfl⟩
  rw [← hzv]; replace hzv := Lib.hid hzv
  replace ot0 := Lib.hid (ot0.out.on b)
  replace r0 := Lib.hid (r0.out.below (b.mono TB.out.size) (Nat.le_refl _))
  replace TB := Lib.hid (TB.out.trans (b.mono TB.out.size))
  clear b
  clear ot0
  go_wp2_with fail
  refine (toints _ _ A0 n0 c0 l0 r0.out TB.out.size (by omega) H0.out).mono ?_
  rintro e w3 ⟨⟨Ax0, cx0, rfl, o⟩, b⟩
  have ox0 := Lib.hid (o.fewer TB.out.size); clear o
  replace r0 := Lib.hid (r0.out.below (b.mono TB.out.size) (Nat.le_refl _))
  replace TB := Lib.hid (TB.out.trans (b.mono TB.out.size))
  clear b
  go_wp2_with fail
  refine (icount _ _ Ax0 n0 cx0 l0 ox0.out.sl (Nat.le_refl _) (by omega)).mono ?_
  rintro e w4 ⟨rfl, b⟩
  rw [← hzv.out]
  replace ox0 := Lib.hid (ox0.out.on b)
  replace r0 := Lib.hid (r0.out.below (b.mono TB.out.size) (Nat.le_refl _))
  replace TB := Lib.hid (TB.out.trans (b.mono TB.out.size))
  clear b
  go_wp2_with fail
  refine (toints _ _ A0 n0 c0 l0 r0.out TB.out.size (by omega) H0.out).mono ?_
  rintro e w5 ⟨⟨Ay0, cy0, rfl, o⟩, b⟩
  have apx0_y0 := Lib.hid (ox0.out.apart o (Nat.le_refl _)); have apy0_x0 := Lib.hid (ox0.out.apart' o (Nat.le_refl _))
  have oy0 := Lib.hid (o.fewer TB.out.size); clear o
  replace ox0 := Lib.hid (ox0.out.on b)
  replace r0 := Lib.hid (r0.out.below (b.mono TB.out.size) (Nat.le_refl _))
  replace TB := Lib.hid (TB.out.trans (b.mono TB.out.size))
  clear b
  go_wp2_with fail
  refine (eqints _ _ _ Ax0 Ay0 n0 n0 cx0 cy0 _ ox0.out.sl oy0.out.sl (iv_kind _ H0.out)).mono ?_
  rintro e w6 ⟨rfl, b⟩
  replace ox0 := Lib.hid (ox0.out.on b)
  replace oy0 := Lib.hid (oy0.out.on b)
  replace r0 := Lib.hid (r0.out.below (b.mono TB.out.size) (Nat.le_refl _))
  replace TB := Lib.hid (TB.out.trans (b.mono TB.out.size))
  clear b
  clear oy0
  go_wp2_with fail
  go_ret
  exact ⟨rfl, TB.out⟩
end Go.Proofs.Ytclillkneadplaa
