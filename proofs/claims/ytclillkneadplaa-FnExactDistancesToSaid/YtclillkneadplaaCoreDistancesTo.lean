/- The walk of law FnExactDistancesTo, its arguments known as lists. -/
import Derived.Test.YtclillkneadplaaPath
import Derived.Test.YtclillkneadplaaLinkCopies
import Derived.Test.YtclillkneadplaaExact
namespace Go.Proofs.Ytclillkneadplaa
open Go.ChangeShapes Go.WideShapes Go.ChangeAt Go.RowKit
set_option linter.unusedVariables false
set_option maxHeartbeats 800000 in
set_option maxRecDepth 100000 in
theorem coreDistancesTo (w : World) (A0 : Option Addr) (n0 c0 : Nat) (l0 : List (Int × Int)) (r0 : Sl w w.heap.size 2 A0 n0 c0 (sv l0)) (m0 : n0 ≤ 1048576) (H0 : Rng l0) (z1 : Int) (p1 : -9223372036854775808 ≤ z1) (q1 : z1 ≤ 9223372036854775807) (z2 : Int) (p2 : -9223372036854775808 ≤ z2) (q2 : z2 ≤ 9223372036854775807) (z3 : Int) (p3 : -9223372036854775808 ≤ z3) (q3 : z3 ≤ 9223372036854775807) :
    Calls Try.prog 4 #[.slice A0 n0 c0, .int .i64 z1, .int .i64 z2, .int .i64 z3] w fun e w' => e = .returned (.bool true) ∧ Below w.heap.size w w' := by
  have TB := Lib.hid (Below.refl w.heap.size w)
  have cap0 := r0.cap; have capm0 := r0.capm
  replace r0 := Lib.hid r0; replace H0 := Lib.hid H0
  have len0 := Lib.hid (r0.out.len)
  go_enter Try.func4, Try.ntmps4
  go_wp2_with fail
  refine (szlinks _ A0 n0 c0 (1048576) (by omega) (by omega) (by omega)).mono ?_
  rintro e wz0 ⟨rfl, rfl⟩
  rw [if_neg (show ¬ ((1048576 : Int) < (n0 : Int)) by omega)]
  have hpos0 : ¬ (1048576 - (n0 : Int) < 0) := by omega
  go_wp2_with fail
  refine (tolinks _ _ A0 n0 c0 l0 r0.out TB.out.size (by omega)).mono ?_
  rintro e w1 ⟨⟨At0, ct0, rfl, o⟩, b⟩
  have ot0 := Lib.hid (o.fewer TB.out.size); clear o
  replace r0 := Lib.hid (r0.out.below (b.mono TB.out.size) (Nat.le_refl _))
  replace TB := Lib.hid (TB.out.trans (b.mono TB.out.size))
  clear b
  go_wp2_with fail
  refine (sdist _ _ At0 n0 ct0 l0 ot0.out.sl (Nat.le_refl _) (by omega) z1 z2 z3 ⟨⟨p1, q1⟩, ⟨p2, q2⟩, ⟨p3, q3⟩⟩).mono ?_
  rintro e w2 ⟨Aw, nw, cw, rfl, o, b⟩
  have apt0_w := Lib.hid (ot0.out.apart o (Nat.le_refl _)); have apw_t0 := Lib.hid (ot0.out.apart' o (Nat.le_refl _))
  have ow := Lib.hid (o.fewer TB.out.size); clear o
  have sw := ow.out.capm; have ew := Lib.hid ow.out.len
  replace ot0 := Lib.hid (ot0.out.on b)
  replace r0 := Lib.hid (r0.out.below (b.mono TB.out.size) (Nat.le_refl _))
  replace TB := Lib.hid (TB.out.trans (b.mono TB.out.size))
  clear b
  have KD : Hid (Kind .i64 (iv (distA l0 z1 z2 z3))) := Lib.hid (iv_kind _ (distA_rng l0 z1 z2 z3))
  clear ot0
  go_wp2_with fail
  refine (tolinks _ _ A0 n0 c0 l0 r0.out TB.out.size (by omega)).mono ?_
  rintro e w3 ⟨⟨Ax0, cx0, rfl, o⟩, b⟩
  have apw_x0 := Lib.hid (ow.out.apart o (Nat.le_refl _)); have apx0_w := Lib.hid (ow.out.apart' o (Nat.le_refl _))
  have ox0 := Lib.hid (o.fewer TB.out.size); clear o
  replace ow := Lib.hid (ow.out.on b)
  replace r0 := Lib.hid (r0.out.below (b.mono TB.out.size) (Nat.le_refl _))
  replace TB := Lib.hid (TB.out.trans (b.mono TB.out.size))
  clear b
  go_wp2_with fail
  refine (idist _ _ Ax0 n0 cx0 l0 ox0.out.sl (Nat.le_refl _) (by omega) z1 z2 z3 ⟨⟨p1, q1⟩, ⟨p2, q2⟩, ⟨p3, q3⟩⟩).mono ?_
  rintro e w4 ⟨Ag, ng, cg, rfl, o, b⟩
  have apw_g := Lib.hid (ow.out.apart o (Nat.le_refl _)); have apg_w := Lib.hid (ow.out.apart' o (Nat.le_refl _))
  have apx0_g := Lib.hid (ox0.out.apart o (Nat.le_refl _)); have apg_x0 := Lib.hid (ox0.out.apart' o (Nat.le_refl _))
  have og := Lib.hid (o.fewer TB.out.size); clear o
  have sg := og.out.capm; have eg := Lib.hid og.out.len
  replace ow := Lib.hid (ow.out.on b)
  replace ox0 := Lib.hid (ox0.out.on b)
  replace r0 := Lib.hid (r0.out.below (b.mono TB.out.size) (Nat.le_refl _))
  replace TB := Lib.hid (TB.out.trans (b.mono TB.out.size))
  clear b
  go_wp2_with fail
  refine (eqints _ _ _ Ag Aw ng nw cg cw _ og.out.sl ow.out.sl KD.out).mono ?_
  rintro e w5 ⟨rfl, b⟩
  replace ow := Lib.hid (ow.out.on b)
  replace ox0 := Lib.hid (ox0.out.on b)
  replace og := Lib.hid (og.out.on b)
  replace r0 := Lib.hid (r0.out.below (b.mono TB.out.size) (Nat.le_refl _))
  replace TB := Lib.hid (TB.out.trans (b.mono TB.out.size))
  clear b
  go_wp2_with fail
  refine (tolinks _ _ A0 n0 c0 l0 r0.out TB.out.size (by omega)).mono ?_
  rintro e w6 ⟨⟨Ay0, cy0, rfl, o⟩, b⟩
  have apw_y0 := Lib.hid (ow.out.apart o (Nat.le_refl _)); have apy0_w := Lib.hid (ow.out.apart' o (Nat.le_refl _))
  have apx0_y0 := Lib.hid (ox0.out.apart o (Nat.le_refl _)); have apy0_x0 := Lib.hid (ox0.out.apart' o (Nat.le_refl _))
  have apg_y0 := Lib.hid (og.out.apart o (Nat.le_refl _)); have apy0_g := Lib.hid (og.out.apart' o (Nat.le_refl _))
  have oy0 := Lib.hid (o.fewer TB.out.size); clear o
  replace ow := Lib.hid (ow.out.on b)
  replace ox0 := Lib.hid (ox0.out.on b)
  replace og := Lib.hid (og.out.on b)
  replace r0 := Lib.hid (r0.out.below (b.mono TB.out.size) (Nat.le_refl _))
  replace TB := Lib.hid (TB.out.trans (b.mono TB.out.size))
  clear b
  go_wp2_with fail
  refine (eqlinks _ _ _ Ax0 Ay0 n0 n0 cx0 cy0 _ ox0.out.sl oy0.out.sl (Nat.le_refl _) (Nat.le_refl _)).mono ?_
  rintro e w7 ⟨rfl, b⟩
  replace ow := Lib.hid (ow.out.on b)
  replace ox0 := Lib.hid (ox0.out.on b)
  replace og := Lib.hid (og.out.on b)
  replace oy0 := Lib.hid (oy0.out.on b)
  replace r0 := Lib.hid (r0.out.below (b.mono TB.out.size) (Nat.le_refl _))
  replace TB := Lib.hid (TB.out.trans (b.mono TB.out.size))
  clear b
  clear oy0
  go_wp2_with fail
  refine (marklinks _ _ Ax0 n0 cx0 _ ox0.out 1 (by omega) (by omega)).mono ?_
  rintro e w8 ⟨rfl, o, g⟩
  have b := ox0.out.below (Below.refl w.heap.size _) TB.out.size g
  replace ow := Lib.hid (ow.out.kept g apw_x0.out)
  replace og := Lib.hid (og.out.kept g apg_x0.out)
  replace ox0 := Lib.hid o; clear o g
  replace r0 := Lib.hid (r0.out.below b (Nat.le_refl _))
  replace TB := Lib.hid (TB.out.trans b); clear b
  go_wp2_with fail
  refine (eqints _ _ _ Ag Aw ng nw cg cw _ og.out.sl ow.out.sl KD.out).mono ?_
  rintro e w9 ⟨rfl, b⟩
  replace ow := Lib.hid (ow.out.on b)
  replace ox0 := Lib.hid (ox0.out.on b)
  replace og := Lib.hid (og.out.on b)
  replace r0 := Lib.hid (r0.out.below (b.mono TB.out.size) (Nat.le_refl _))
  replace TB := Lib.hid (TB.out.trans (b.mono TB.out.size))
  clear b
  have sg2 : ng ≤ 100000000 := by
    have h2 : (iv (distA l0 z1 z2 z3)).length ≤ 100000000 := by
      rw [iv_len]
      have h3 := distA_len l0 z1 z2 z3
      omega
    have h1 := eg.out
    omega
  go_wp2_with fail
  refine (markints _ _ Ag ng cg _ og.out 1 (by omega) (by omega)).mono ?_
  rintro e w10 ⟨rfl, o, g⟩
  have b := og.out.below (Below.refl w.heap.size _) TB.out.size g
  replace ow := Lib.hid (ow.out.kept g apw_g.out)
  replace ox0 := Lib.hid (ox0.out.kept g apx0_g.out)
  replace og := Lib.hid o; clear o g
  replace r0 := Lib.hid (r0.out.below b (Nat.le_refl _))
  replace TB := Lib.hid (TB.out.trans b); clear b
  go_wp2_with fail
  refine (heldints _ _ Ag ng cg 1 og.out.sl (by omega) (by omega)).mono ?_
  rintro e w11 ⟨rfl, rfl⟩
  clear ox0
  go_wp2_with fail
  refine (tolinks _ _ A0 n0 c0 l0 r0.out TB.out.size (by omega)).mono ?_
  rintro e w12 ⟨⟨Au0, cu0, rfl, o⟩, b⟩
  have apw_u0 := Lib.hid (ow.out.apart o (Nat.le_refl _)); have apu0_w := Lib.hid (ow.out.apart' o (Nat.le_refl _))
  have apg_u0 := Lib.hid (og.out.apart o (Nat.le_refl _)); have apu0_g := Lib.hid (og.out.apart' o (Nat.le_refl _))
  have ou0 := Lib.hid (o.fewer TB.out.size); clear o
  replace ow := Lib.hid (ow.out.on b)
  replace og := Lib.hid (og.out.on b)
  replace r0 := Lib.hid (r0.out.below (b.mono TB.out.size) (Nat.le_refl _))
  replace TB := Lib.hid (TB.out.trans (b.mono TB.out.size))
  clear b
  go_wp2_with fail
  refine (idist _ _ Au0 n0 cu0 l0 ou0.out.sl (Nat.le_refl _) (by omega) z1 z2 z3 ⟨⟨p1, q1⟩, ⟨p2, q2⟩, ⟨p3, q3⟩⟩).mono ?_
  rintro e w13 ⟨Ah, nh, ch, rfl, o, b⟩
  have apw_h := Lib.hid (ow.out.apart o (Nat.le_refl _)); have aph_w := Lib.hid (ow.out.apart' o (Nat.le_refl _))
  have apg_h := Lib.hid (og.out.apart o (Nat.le_refl _)); have aph_g := Lib.hid (og.out.apart' o (Nat.le_refl _))
  have apu0_h := Lib.hid (ou0.out.apart o (Nat.le_refl _)); have aph_u0 := Lib.hid (ou0.out.apart' o (Nat.le_refl _))
  have oh := Lib.hid (o.fewer TB.out.size); clear o
  have sh := oh.out.capm; have eh := Lib.hid oh.out.len
  replace ow := Lib.hid (ow.out.on b)
  replace og := Lib.hid (og.out.on b)
  replace ou0 := Lib.hid (ou0.out.on b)
  replace r0 := Lib.hid (r0.out.below (b.mono TB.out.size) (Nat.le_refl _))
  replace TB := Lib.hid (TB.out.trans (b.mono TB.out.size))
  clear b
  go_wp2_with fail
  refine (eqints _ _ _ Ah Aw nh nw ch cw _ oh.out.sl ow.out.sl KD.out).mono ?_
  rintro e w14 ⟨rfl, b⟩
  replace ow := Lib.hid (ow.out.on b)
  replace og := Lib.hid (og.out.on b)
  replace ou0 := Lib.hid (ou0.out.on b)
  replace oh := Lib.hid (oh.out.on b)
  replace r0 := Lib.hid (r0.out.below (b.mono TB.out.size) (Nat.le_refl _))
  replace TB := Lib.hid (TB.out.trans (b.mono TB.out.size))
  clear b
  go_wp2_with fail
  refine (heldints _ _ Ag ng cg 1 og.out.sl (by omega) (by omega)).mono ?_
  rintro e w15 ⟨rfl, rfl⟩
  go_wp2_with fail
  go_ret
  exact ⟨rfl, TB.out⟩
end Go.Proofs.Ytclillkneadplaa
