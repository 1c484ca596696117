/- The walk of law FnExactSameLinks, its arguments known as lists. -/
import Derived.Test.YtfnhfpahdgbfgaaGraph
import Derived.Test.YtfnhfpahdgbfgaaLinkCopies
import Derived.Test.YtfnhfpahdgbfgaaExact
namespace Go.Proofs.Ytfnhfpahdgbfgaa
open Go.ChangeShapes Go.WideShapes Go.ChangeAt Go.RowKit
set_option linter.unusedVariables false
set_option maxHeartbeats 800000 in
set_option maxRecDepth 100000 in
theorem coreSameLinks (w : World) (A0 : Option Addr) (n0 c0 : Nat) (l0 : List (Int × Int)) (r0 : Sl w w.heap.size 2 A0 n0 c0 (sv l0)) (m0 : n0 ≤ 1048576) (H0 : Rng l0) (A1 : Option Addr) (n1 c1 : Nat) (l1 : List (Int × Int)) (r1 : Sl w w.heap.size 2 A1 n1 c1 (sv l1)) (m1 : n1 ≤ 1048576) (H1 : Rng l1) (ms : n0 + n1 ≤ 1048576) :
    Calls Try.prog 5 #[.slice A0 n0 c0, .slice A1 n1 c1] w fun e w' => e = .returned (.bool true) ∧ Below w.heap.size w w' := by
  have TB := Lib.hid (Below.refl w.heap.size w)
  have cap0 := r0.cap; have capm0 := r0.capm
  replace r0 := Lib.hid r0; replace H0 := Lib.hid H0
  have len0 := Lib.hid (r0.out.len)
  have cap1 := r1.cap; have capm1 := r1.capm
  replace r1 := Lib.hid r1; replace H1 := Lib.hid H1
  have len1 := Lib.hid (r1.out.len)
  go_enter Try.func5, Try.ntmps5
  go_wp2_with fail
  refine (szlinks _ A0 n0 c0 (1048576) (by omega) (by omega) (by omega)).mono ?_
  rintro e wz0 ⟨rfl, rfl⟩
  rw [if_neg (show ¬ ((1048576 : Int) < (n0 : Int)) by omega)]
  have hpos0 : ¬ (1048576 - (n0 : Int) < 0) := by omega
  go_wp2_with fail
  refine (szlinks _ A1 n1 c1 (1048576 - (n0 : Int)) (by omega) (by omega) (by omega)).mono ?_
  rintro e wz1 ⟨rfl, rfl⟩
  rw [if_neg (show ¬ ((1048576 - (n0 : Int) : Int) < (n1 : Int)) by omega)]
  have hpos1 : ¬ (1048576 - (n0 : Int) - (n1 : Int) < 0) := by omega
  obtain ⟨bv, hbv⟩ : ∃ b, decide (l0 = l1) = b := ⟨_, rfl⟩
  have HBV := Lib.hid hbv; clear hbv
  go_wp2_with fail
  refine (tolinks _ _ A0 n0 c0 l0 r0.out TB.out.size (by omega)).mono ?_
  rintro e w1 ⟨⟨At0, ct0, rfl, o⟩, b⟩
  have ot0 := Lib.hid (o.fewer TB.out.size); clear o
  replace r0 := Lib.hid (r0.out.below (b.mono TB.out.size) (Nat.le_refl _))
  replace r1 := Lib.hid (r1.out.below (b.mono TB.out.size) (Nat.le_refl _))
  replace TB := Lib.hid (TB.out.trans (b.mono TB.out.size))
  clear b
  go_wp2_with fail
  refine (tolinks _ _ A1 n1 c1 l1 r1.out TB.out.size (by omega)).mono ?_
  rintro e w2 ⟨⟨At1, ct1, rfl, o⟩, b⟩
  have apt0_t1 := Lib.hid (ot0.out.apart o (Nat.le_refl _)); have apt1_t0 := Lib.hid (ot0.out.apart' o (Nat.le_refl _))
  have ot1 := Lib.hid (o.fewer TB.out.size); clear o
  replace ot0 := Lib.hid (ot0.out.on b)
  replace r0 := Lib.hid (r0.out.below (b.mono TB.out.size) (Nat.le_refl _))
  replace r1 := Lib.hid (r1.out.below (b.mono TB.out.size) (Nat.le_refl _))
  replace TB := Lib.hid (TB.out.trans (b.mono TB.out.size))
  clear b
  go_wp2_with fail
  refine (ssame _ _ _ At0 At1 n0 n1 ct0 ct1 l0 l1 ot0.out.sl ot1.out.sl (Nat.le_refl _) (Nat.le_refl _) bv HBV.out).mono ?_
  rintro e w3 ⟨rfl, b⟩
  replace ot0 := Lib.hid (ot0.out.on b)
  replace ot1 := Lib.hid (ot1.out.on b)
  replace r0 := Lib.hid (r0.out.below (b.mono TB.out.size) (Nat.le_refl _))
  replace r1 := Lib.hid (r1.out.below (b.mono TB.out.size) (Nat.le_refl _))
  replace TB := Lib.hid (TB.out.trans (b.mono TB.out.size))
  clear b
  clear ot0
  clear ot1
  go_wp2_with fail
  refine (tolinks _ _ A0 n0 c0 l0 r0.out TB.out.size (by omega)).mono ?_
  rintro e w4 ⟨⟨Ax0, cx0, rfl, o⟩, b⟩
  have ox0 := Lib.hid (o.fewer TB.out.size); clear o
  replace r0 := Lib.hid (r0.out.below (b.mono TB.out.size) (Nat.le_refl _))
  replace r1 := Lib.hid (r1.out.below (b.mono TB.out.size) (Nat.le_refl _))
  replace TB := Lib.hid (TB.out.trans (b.mono TB.out.size))
  clear b
  go_wp2_with fail
  refine (tolinks _ _ A1 n1 c1 l1 r1.out TB.out.size (by omega)).mono ?_
  rintro e w5 ⟨⟨Ax1, cx1, rfl, o⟩, b⟩
  have apx0_x1 := Lib.hid (ox0.out.apart o (Nat.le_refl _)); have apx1_x0 := Lib.hid (ox0.out.apart' o (Nat.le_refl _))
  have ox1 := Lib.hid (o.fewer TB.out.size); clear o
  replace ox0 := Lib.hid (ox0.out.on b)
  replace r0 := Lib.hid (r0.out.below (b.mono TB.out.size) (Nat.le_refl _))
  replace r1 := Lib.hid (r1.out.below (b.mono TB.out.size) (Nat.le_refl _))
  replace TB := Lib.hid (TB.out.trans (b.mono TB.out.size))
  clear b
  go_wp2_with fail
  refine (isame _ _ _ Ax0 Ax1 n0 n1 cx0 cx1 l0 l1 ox0.out.sl ox1.out.sl (Nat.le_refl _) (Nat.le_refl _) bv HBV.out).mono ?_
  rintro e w6 ⟨rfl, b⟩
  replace ox0 := Lib.hid (ox0.out.on b)
  replace ox1 := Lib.hid (ox1.out.on b)
  replace r0 := Lib.hid (r0.out.below (b.mono TB.out.size) (Nat.le_refl _))
  replace r1 := Lib.hid (r1.out.below (b.mono TB.out.size) (Nat.le_refl _))
  replace TB := Lib.hid (TB.out.trans (b.mono TB.out.size))
  clear b
  skip
  go_wp2_with fail
  refine (tolinks _ _ A0 n0 c0 l0 r0.out TB.out.size (by omega)).mono ?_
  rintro e w7 ⟨⟨Ay0, cy0, rfl, o⟩, b⟩
  have apx0_y0 := Lib.hid (ox0.out.apart o (Nat.le_refl _)); have apy0_x0 := Lib.hid (ox0.out.apart' o (Nat.le_refl _))
  have apx1_y0 := Lib.hid (ox1.out.apart o (Nat.le_refl _)); have apy0_x1 := Lib.hid (ox1.out.apart' o (Nat.le_refl _))
  have oy0 := Lib.hid (o.fewer TB.out.size); clear o
  replace ox0 := Lib.hid (ox0.out.on b)
  replace ox1 := Lib.hid (ox1.out.on b)
  replace r0 := Lib.hid (r0.out.below (b.mono TB.out.size) (Nat.le_refl _))
  replace r1 := Lib.hid (r1.out.below (b.mono TB.out.size) (Nat.le_refl _))
  replace TB := Lib.hid (TB.out.trans (b.mono TB.out.size))
  clear b
  go_wp2_with fail
  refine (eqlinks _ _ _ Ax0 Ay0 n0 n0 cx0 cy0 _ ox0.out.sl oy0.out.sl (Nat.le_refl _) (Nat.le_refl _)).mono ?_
  rintro e w8 ⟨rfl, b⟩
  replace ox0 := Lib.hid (ox0.out.on b)
  replace ox1 := Lib.hid (ox1.out.on b)
  replace oy0 := Lib.hid (oy0.out.on b)
  replace r0 := Lib.hid (r0.out.below (b.mono TB.out.size) (Nat.le_refl _))
  replace r1 := Lib.hid (r1.out.below (b.mono TB.out.size) (Nat.le_refl _))
  replace TB := Lib.hid (TB.out.trans (b.mono TB.out.size))
  clear b
  clear oy0
  go_wp2_with fail
  refine (tolinks _ _ A1 n1 c1 l1 r1.out TB.out.size (by omega)).mono ?_
  rintro e w9 ⟨⟨Ay1, cy1, rfl, o⟩, b⟩
  have apx0_y1 := Lib.hid (ox0.out.apart o (Nat.le_refl _)); have apy1_x0 := Lib.hid (ox0.out.apart' o (Nat.le_refl _))
  have apx1_y1 := Lib.hid (ox1.out.apart o (Nat.le_refl _)); have apy1_x1 := Lib.hid (ox1.out.apart' o (Nat.le_refl _))
  have oy1 := Lib.hid (o.fewer TB.out.size); clear o
  replace ox0 := Lib.hid (ox0.out.on b)
  replace ox1 := Lib.hid (ox1.out.on b)
  replace r0 := Lib.hid (r0.out.below (b.mono TB.out.size) (Nat.le_refl _))
  replace r1 := Lib.hid (r1.out.below (b.mono TB.out.size) (Nat.le_refl _))
  replace TB := Lib.hid (TB.out.trans (b.mono TB.out.size))
  clear b
  go_wp2_with fail
  refine (eqlinks _ _ _ Ax1 Ay1 n1 n1 cx1 cy1 _ ox1.out.sl oy1.out.sl (Nat.le_refl _) (Nat.le_refl _)).mono ?_
  rintro e w10 ⟨rfl, b⟩
  replace ox0 := Lib.hid (ox0.out.on b)
  replace ox1 := Lib.hid (ox1.out.on b)
  replace oy1 := Lib.hid (oy1.out.on b)
  replace r0 := Lib.hid (r0.out.below (b.mono TB.out.size) (Nat.le_refl _))
  replace r1 := Lib.hid (r1.out.below (b.mono TB.out.size) (Nat.le_refl _))
  replace TB := Lib.hid (TB.out.trans (b.mono TB.out.size))
  clear b
  clear oy1
  go_wp2_with fail
  go_ret
  exact ⟨rfl, TB.out⟩
end Go.Proofs.Ytfnhfpahdgbfgaa
