/- The walk of law FnExactTableOf, its arguments known as lists. -/
import Derived.Test.YtjobjjmeneddnaaTableM
import Derived.Test.YtjobjjmeneddnaaTableCopies
import Derived.Test.YtjobjjmeneddnaaTable
import Derived.Test.YtjobjjmeneddnaaExact
import Derived.Test.YtjobjjmeneddnaaLinkCopies
import Derived.Deep.RegionHeld3
import Derived.Deep.CutBlock
namespace Go.Proofs.Ytjobjjmeneddnaa
open Go.ChangeShapes Go.WideShapes Go.ChangeAt Go.RowKit
set_option linter.unusedVariables false
set_option maxHeartbeats 1600000 in
set_option maxRecDepth 100000 in
theorem coreTableOf (w : World) (A0 : Option Addr) (n0 c0 : Nat) (l0 : List (Int × Int)) (r0 : Sl w w.heap.size 2 A0 n0 c0 (sv l0)) (H0 : Rng l0) (z1 : Int) (p1 : -9223372036854775808 ≤ z1) (q1 : z1 ≤ 9223372036854775807) (z2 : Int) (p2 : -9223372036854775808 ≤ z2) (q2 : z2 ≤ 9223372036854775807) (z3 : Int) (p3 : -9223372036854775808 ≤ z3) (q3 : z3 ≤ 9223372036854775807) (ms : n0 ≤ 1048576) :
    Calls Try.prog 4 #[.slice A0 n0 c0, .int .i64 z1, .int .i64 z2, .int .i64 z3] w fun e w' => e = .returned (.bool true) ∧ Below w.heap.size w w' := by
  have TB := Lib.hid (Below.refl w.heap.size w)
  have cap0 := r0.cap; have capm0 := r0.capm
  replace r0 := Lib.hid r0; replace H0 := Lib.hid H0
  go_enter Try.func4, Try.ntmps4
  go_wp2_with fail
  refine (szlinks _ A0 n0 c0 (1048576) (by omega) (by omega) (by omega)).mono ?_
  rintro e wz0 ⟨rfl, rfl⟩
  rw [if_neg (show ¬ ((1048576 : Int) < (n0 : Int)) by omega)]
  have hpos0 : ¬ (1048576 - (n0 : Int) < 0) := by omega
  go_wp2_with fail
  refine (tolinks _ _ A0 n0 c0 l0 r0.out TB.out.size (by omega)).mono ?_
  rintro e w1 ⟨⟨At0, ct0, rfl, o⟩, b⟩
  have ot0 := Lib.hid (o.fewer TB.out.size); clear o
  replace r0 := Lib.hid (r0.out.below (b.mono TB.out.size) (Nat.le_refl _))
  replace TB := Lib.hid (TB.out.trans (b.mono TB.out.size)); clear b
  go_wp2_with fail
  refine (stable _ _ At0 n0 ct0 l0 ot0.out.sl (Nat.le_refl _) (by omega) z1 z2 z3 ⟨⟨p1, q1⟩, ⟨p2, q2⟩, ⟨p3, q3⟩⟩).mono ?_
  rintro e w2 ⟨Adw, ndw, cdw, Anw, nnw, cnw, rfl, o, b, hxw⟩
  clear hxw
  have hdw : ndw ≤ 12 := by have h1 := o.d.len; have h2 := distA_len l0 z1 z2 z3; rw [iv_len] at h1; omega
  have hnw : nnw ≤ 12 := by have h1 := o.n.len; have h2 := nextA_len l0 z1 z2 z3; rw [iv_len] at h1; omega
  have apt0_wd := Lib.hid (Own.apart ot0.out o.d (Nat.le_refl _)); have apwd_t0 := Lib.hid (Own.apart' ot0.out o.d (Nat.le_refl _))
  have apt0_wn := Lib.hid (Own.apart ot0.out o.n (Nat.le_refl _)); have apwn_t0 := Lib.hid (Own.apart' ot0.out o.n (Nat.le_refl _))
  have ow := Lib.hid (o.fewer TB.out.size); clear o
  replace ot0 := Lib.hid (ot0.out.on b)
  replace r0 := Lib.hid (r0.out.below (b.mono TB.out.size) (Nat.le_refl _))
  replace TB := Lib.hid (TB.out.trans (b.mono TB.out.size)); clear b
  have KD : Hid (OkTab z3 (distA l0 z1 z2 z3) (nextA l0 z1 z2 z3)) := Lib.hid ⟨⟨p3, q3⟩, distA_rng l0 z1 z2 z3, nextA_rng l0 z1 z2 z3⟩
  obtain ⟨Ww, hWw⟩ : ∃ W, W = w2.alloc (.cells #[.int .i64 z3, .slice Adw ndw cdw, .slice Anw nnw cnw] 29) := ⟨_, rfl⟩
  have b : Below w2.heap.size w2 Ww := by rw [hWw]; exact (Below.refl _ _).alloc (Nat.le_refl _) _
  have ntbw_t0 := Lib.hid (Own.notAt ot0.out (Nat.le_refl _))
  have ntbw_wd := Lib.hid (Own.notAt ow.out.d (Nat.le_refl _))
  have ntbw_wn := Lib.hid (Own.notAt ow.out.n (Nat.le_refl _))
  have oNEW : Hid (Blk Ww w2.heap.size 29 #[.int .i64 z3, .slice Adw ndw cdw, .slice Anw nnw cnw]) := Lib.hid (by rw [hWw]; exact Blk.new _ _ _)
  have HWw := Lib.hid hWw; clear hWw
  replace ot0 := Lib.hid (ot0.out.on b)
  replace ow := Lib.hid (ow.out.on b)
  replace r0 := Lib.hid (r0.out.below (b.mono TB.out.size) (Nat.le_refl _))
  replace TB := Lib.hid (TB.out.trans (b.mono TB.out.size)); clear b
  have obw := oNEW; clear oNEW
  go_upto_region 6 with fail
  rw [← HWw.out]; clear HWw
  clear ot0
  go_wp2_with fail
  refine (tolinks _ _ A0 n0 c0 l0 r0.out TB.out.size (by omega)).mono ?_
  rintro e w3 ⟨⟨Ax0, cx0, rfl, o⟩, b⟩
  have apwd_x0 := Lib.hid (Own.apart ow.out.d o (Nat.le_refl _)); have apx0_wd := Lib.hid (Own.apart' ow.out.d o (Nat.le_refl _))
  have apwn_x0 := Lib.hid (Own.apart ow.out.n o (Nat.le_refl _)); have apx0_wn := Lib.hid (Own.apart' ow.out.n o (Nat.le_refl _))
  have ntbw_x0 := Lib.hid (Own.low o obw.out.lt)
  have ox0 := Lib.hid (o.fewer TB.out.size); clear o
  replace ow := Lib.hid (ow.out.on b)
  replace obw := Lib.hid (obw.out.below b obw.out.lt)
  replace r0 := Lib.hid (r0.out.below (b.mono TB.out.size) (Nat.le_refl _))
  replace TB := Lib.hid (TB.out.trans (b.mono TB.out.size)); clear b
  go_wp2_with fail
  refine (itable _ _ Ax0 n0 cx0 l0 ox0.out.sl (Nat.le_refl _) (by omega) z1 z2 z3 ⟨⟨p1, q1⟩, ⟨p2, q2⟩, ⟨p3, q3⟩⟩).mono ?_
  rintro e w4 ⟨Adg, ndg, cdg, Ang, nng, cng, rfl, o, b⟩
  have hdg : ndg ≤ 12 := by have h1 := o.d.len; have h2 := distA_len l0 z1 z2 z3; rw [iv_len] at h1; omega
  have hng : nng ≤ 12 := by have h1 := o.n.len; have h2 := nextA_len l0 z1 z2 z3; rw [iv_len] at h1; omega
  have apwd_gd := Lib.hid (Own.apart ow.out.d o.d (Nat.le_refl _)); have apgd_wd := Lib.hid (Own.apart' ow.out.d o.d (Nat.le_refl _))
  have apwn_gd := Lib.hid (Own.apart ow.out.n o.d (Nat.le_refl _)); have apgd_wn := Lib.hid (Own.apart' ow.out.n o.d (Nat.le_refl _))
  have apwd_gn := Lib.hid (Own.apart ow.out.d o.n (Nat.le_refl _)); have apgn_wd := Lib.hid (Own.apart' ow.out.d o.n (Nat.le_refl _))
  have apwn_gn := Lib.hid (Own.apart ow.out.n o.n (Nat.le_refl _)); have apgn_wn := Lib.hid (Own.apart' ow.out.n o.n (Nat.le_refl _))
  have ntbw_gd := Lib.hid (Own.low o.d obw.out.lt)
  have ntbw_gn := Lib.hid (Own.low o.n obw.out.lt)
  have apx0_gd := Lib.hid (Own.apart ox0.out o.d (Nat.le_refl _)); have apgd_x0 := Lib.hid (Own.apart' ox0.out o.d (Nat.le_refl _))
  have apx0_gn := Lib.hid (Own.apart ox0.out o.n (Nat.le_refl _)); have apgn_x0 := Lib.hid (Own.apart' ox0.out o.n (Nat.le_refl _))
  have og := Lib.hid (o.fewer TB.out.size); clear o
  replace ow := Lib.hid (ow.out.on b)
  replace obw := Lib.hid (obw.out.below b obw.out.lt)
  replace ox0 := Lib.hid (ox0.out.on b)
  replace r0 := Lib.hid (r0.out.below (b.mono TB.out.size) (Nat.le_refl _))
  replace TB := Lib.hid (TB.out.trans (b.mono TB.out.size)); clear b
  obtain ⟨Wg, hWg⟩ : ∃ W, W = w4.alloc (.cells #[.int .i64 z3, .slice Adg ndg cdg, .slice Ang nng cng] 29) := ⟨_, rfl⟩
  have b : Below w4.heap.size w4 Wg := by rw [hWg]; exact (Below.refl _ _).alloc (Nat.le_refl _) _
  have ntbg_wd := Lib.hid (Own.notAt ow.out.d (Nat.le_refl _))
  have ntbg_wn := Lib.hid (Own.notAt ow.out.n (Nat.le_refl _))
  have ntbg_x0 := Lib.hid (Own.notAt ox0.out (Nat.le_refl _))
  have ntbg_gd := Lib.hid (Own.notAt og.out.d (Nat.le_refl _))
  have ntbg_gn := Lib.hid (Own.notAt og.out.n (Nat.le_refl _))
  have oNEW : Hid (Blk Wg w4.heap.size 29 #[.int .i64 z3, .slice Adg ndg cdg, .slice Ang nng cng]) := Lib.hid (by rw [hWg]; exact Blk.new _ _ _)
  have HWg := Lib.hid hWg; clear hWg
  replace ow := Lib.hid (ow.out.on b)
  replace obw := Lib.hid (obw.out.below b obw.out.lt)
  replace ox0 := Lib.hid (ox0.out.on b)
  replace og := Lib.hid (og.out.on b)
  replace r0 := Lib.hid (r0.out.below (b.mono TB.out.size) (Nat.le_refl _))
  replace TB := Lib.hid (TB.out.trans (b.mono TB.out.size)); clear b
  have obg := oNEW; clear oNEW
  go_upto_region 8 with fail
  rw [← HWg.out]; clear HWg
  obtain ⟨cbg0, cbg1, cbg2⟩ := obg.out.three
  obtain ⟨cbw0, cbw1, cbw2⟩ := obw.out.three
  go_wp2_with fail
  refine (eqtable _ _ _ z3 Adg ndg cdg Ang nng cng (distA l0 z1 z2 z3) (nextA l0 z1 z2 z3) og.out.sl (Nat.le_refl _) z3 Adw ndw cdw Anw nnw cnw (distA l0 z1 z2 z3) (nextA l0 z1 z2 z3) ow.out.sl (Nat.le_refl _) rfl rfl rfl KD.out).mono ?_
  rintro e w5 ⟨rfl, b⟩
  clear cbg0 cbg1 cbg2 cbw0 cbw1 cbw2
  replace ow := Lib.hid (ow.out.on b)
  replace obw := Lib.hid (obw.out.below b obw.out.lt)
  replace ox0 := Lib.hid (ox0.out.on b)
  replace og := Lib.hid (og.out.on b)
  replace obg := Lib.hid (obg.out.below b obg.out.lt)
  replace r0 := Lib.hid (r0.out.below (b.mono TB.out.size) (Nat.le_refl _))
  replace TB := Lib.hid (TB.out.trans (b.mono TB.out.size)); clear b
  go_wp2_with fail
  refine (tolinks _ _ A0 n0 c0 l0 r0.out TB.out.size (by omega)).mono ?_
  rintro e w6 ⟨⟨Ay0, cy0, rfl, o⟩, b⟩
  have apwd_y0 := Lib.hid (Own.apart ow.out.d o (Nat.le_refl _)); have apy0_wd := Lib.hid (Own.apart' ow.out.d o (Nat.le_refl _))
  have apwn_y0 := Lib.hid (Own.apart ow.out.n o (Nat.le_refl _)); have apy0_wn := Lib.hid (Own.apart' ow.out.n o (Nat.le_refl _))
  have ntbw_y0 := Lib.hid (Own.low o obw.out.lt)
  have apx0_y0 := Lib.hid (Own.apart ox0.out o (Nat.le_refl _)); have apy0_x0 := Lib.hid (Own.apart' ox0.out o (Nat.le_refl _))
  have apgd_y0 := Lib.hid (Own.apart og.out.d o (Nat.le_refl _)); have apy0_gd := Lib.hid (Own.apart' og.out.d o (Nat.le_refl _))
  have apgn_y0 := Lib.hid (Own.apart og.out.n o (Nat.le_refl _)); have apy0_gn := Lib.hid (Own.apart' og.out.n o (Nat.le_refl _))
  have ntbg_y0 := Lib.hid (Own.low o obg.out.lt)
  have oy0 := Lib.hid (o.fewer TB.out.size); clear o
  replace ow := Lib.hid (ow.out.on b)
  replace obw := Lib.hid (obw.out.below b obw.out.lt)
  replace ox0 := Lib.hid (ox0.out.on b)
  replace og := Lib.hid (og.out.on b)
  replace obg := Lib.hid (obg.out.below b obg.out.lt)
  replace r0 := Lib.hid (r0.out.below (b.mono TB.out.size) (Nat.le_refl _))
  replace TB := Lib.hid (TB.out.trans (b.mono TB.out.size)); clear b
  go_wp2_with fail
  refine (eqlinks _ _ _ Ax0 Ay0 n0 n0 cx0 cy0 _ ox0.out.sl oy0.out.sl (Nat.le_refl _) (Nat.le_refl _)).mono ?_
  rintro e w7 ⟨rfl, b⟩
  replace ow := Lib.hid (ow.out.on b)
  replace obw := Lib.hid (obw.out.below b obw.out.lt)
  replace ox0 := Lib.hid (ox0.out.on b)
  replace og := Lib.hid (og.out.on b)
  replace obg := Lib.hid (obg.out.below b obg.out.lt)
  replace oy0 := Lib.hid (oy0.out.on b)
  replace r0 := Lib.hid (r0.out.below (b.mono TB.out.size) (Nat.le_refl _))
  replace TB := Lib.hid (TB.out.trans (b.mono TB.out.size)); clear b
  clear oy0
  go_wp2_with fail
  refine (marklinks _ _ Ax0 n0 cx0 _ ox0.out 1 (by omega) (by omega)).mono ?_
  rintro e w8 ⟨rfl, o, g⟩
  have b := ox0.out.below (Below.refl w.heap.size _) TB.out.size g
  replace ow := Lib.hid (show OwnTab _ _ _ _ _ _ _ _ _ _ from ⟨(Own.kept ow.out.d g apwd_x0.out), (Own.kept ow.out.n g apwn_x0.out), ow.out.ap, ow.out.ap'⟩)
  replace obw := Lib.hid (obw.out.grown' ntbw_x0.out g)
  replace og := Lib.hid (show OwnTab _ _ _ _ _ _ _ _ _ _ from ⟨(Own.kept og.out.d g apgd_x0.out), (Own.kept og.out.n g apgn_x0.out), og.out.ap, og.out.ap'⟩)
  replace obg := Lib.hid (obg.out.grown' ntbg_x0.out g)
  replace ox0 := Lib.hid o; clear o g
  replace r0 := Lib.hid (r0.out.below b (Nat.le_refl _))
  replace TB := Lib.hid (TB.out.trans b); clear b
  obtain ⟨cbg0, cbg1, cbg2⟩ := obg.out.three
  obtain ⟨cbw0, cbw1, cbw2⟩ := obw.out.three
  go_wp2_with fail
  refine (eqtable _ _ _ z3 Adg ndg cdg Ang nng cng (distA l0 z1 z2 z3) (nextA l0 z1 z2 z3) og.out.sl (Nat.le_refl _) z3 Adw ndw cdw Anw nnw cnw (distA l0 z1 z2 z3) (nextA l0 z1 z2 z3) ow.out.sl (Nat.le_refl _) rfl rfl rfl KD.out).mono ?_
  rintro e w9 ⟨rfl, b⟩
  clear cbg0 cbg1 cbg2 cbw0 cbw1 cbw2
  replace ow := Lib.hid (ow.out.on b)
  replace obw := Lib.hid (obw.out.below b obw.out.lt)
  replace ox0 := Lib.hid (ox0.out.on b)
  replace og := Lib.hid (og.out.on b)
  replace obg := Lib.hid (obg.out.below b obg.out.lt)
  replace r0 := Lib.hid (r0.out.below (b.mono TB.out.size) (Nat.le_refl _))
  replace TB := Lib.hid (TB.out.trans (b.mono TB.out.size)); clear b
  obtain ⟨cbg0, cbg1, cbg2⟩ := obg.out.three
  go_wp2_with fail
  refine (marktable _ _ z3 Adg ndg cdg Ang nng cng _ _ og.out 1 (by omega) (by omega)).mono ?_
  rintro e w10 ⟨rfl, o, ⟨uw10, g1, g2⟩⟩
  clear cbg0 cbg1 cbg2
  have b1 := og.out.d.below (Below.refl w.heap.size _) TB.out.size g1
  have b := (og.out.n.kept g1 og.out.ap').below b1 (Nat.le_trans TB.out.size g1.size) g2
  clear b1
  replace ow := Lib.hid (show OwnTab _ _ _ _ _ _ _ _ _ _ from ⟨((Own.kept ow.out.d g1 apwd_gd.out).kept g2 apwd_gn.out), ((Own.kept ow.out.n g1 apwn_gd.out).kept g2 apwn_gn.out), ow.out.ap, ow.out.ap'⟩)
  replace obw := Lib.hid ((obw.out.grown' ntbw_gd.out g1).grown' ntbw_gn.out g2)
  replace ox0 := Lib.hid ((Own.kept ox0.out g1 apx0_gd.out).kept g2 apx0_gn.out)
  replace obg := Lib.hid ((obg.out.grown' ntbg_gd.out g1).grown' ntbg_gn.out g2)
  replace og := Lib.hid o; clear o g1 g2
  replace r0 := Lib.hid (r0.out.below b (Nat.le_refl _))
  replace TB := Lib.hid (TB.out.trans b); clear b
  obtain ⟨cbg0, cbg1, cbg2⟩ := obg.out.three
  go_wp2_with fail
  refine (heldtable _ _ z3 Adg ndg cdg Ang nng cng 1 og.out.d.sl og.out.n.sl (Nat.le_refl _) (by omega) (by omega)).mono ?_
  rintro e w11 ⟨rfl, b⟩
  clear cbg0 cbg1 cbg2
  replace ow := Lib.hid (ow.out.on b)
  replace obw := Lib.hid (obw.out.below b obw.out.lt)
  replace ox0 := Lib.hid (ox0.out.on b)
  replace og := Lib.hid (og.out.on b)
  replace obg := Lib.hid (obg.out.below b obg.out.lt)
  replace r0 := Lib.hid (r0.out.below (b.mono TB.out.size) (Nat.le_refl _))
  replace TB := Lib.hid (TB.out.trans (b.mono TB.out.size)); clear b
  clear ox0
  go_wp2_with fail
  refine (tolinks _ _ A0 n0 c0 l0 r0.out TB.out.size (by omega)).mono ?_
  rintro e w12 ⟨⟨Au0, cu0, rfl, o⟩, b⟩
  have apwd_u0 := Lib.hid (Own.apart ow.out.d o (Nat.le_refl _)); have apu0_wd := Lib.hid (Own.apart' ow.out.d o (Nat.le_refl _))
  have apwn_u0 := Lib.hid (Own.apart ow.out.n o (Nat.le_refl _)); have apu0_wn := Lib.hid (Own.apart' ow.out.n o (Nat.le_refl _))
  have ntbw_u0 := Lib.hid (Own.low o obw.out.lt)
  have apgd_u0 := Lib.hid (Own.apart og.out.d o (Nat.le_refl _)); have apu0_gd := Lib.hid (Own.apart' og.out.d o (Nat.le_refl _))
  have apgn_u0 := Lib.hid (Own.apart og.out.n o (Nat.le_refl _)); have apu0_gn := Lib.hid (Own.apart' og.out.n o (Nat.le_refl _))
  have ntbg_u0 := Lib.hid (Own.low o obg.out.lt)
  have ou0 := Lib.hid (o.fewer TB.out.size); clear o
  replace ow := Lib.hid (ow.out.on b)
  replace obw := Lib.hid (obw.out.below b obw.out.lt)
  replace og := Lib.hid (og.out.on b)
  replace obg := Lib.hid (obg.out.below b obg.out.lt)
  replace r0 := Lib.hid (r0.out.below (b.mono TB.out.size) (Nat.le_refl _))
  replace TB := Lib.hid (TB.out.trans (b.mono TB.out.size)); clear b
  go_wp2_with fail
  refine (itable _ _ Au0 n0 cu0 l0 ou0.out.sl (Nat.le_refl _) (by omega) z1 z2 z3 ⟨⟨p1, q1⟩, ⟨p2, q2⟩, ⟨p3, q3⟩⟩).mono ?_
  rintro e w13 ⟨Adh, ndh, cdh, Anh, nnh, cnh, rfl, o, b⟩
  have hdh : ndh ≤ 12 := by have h1 := o.d.len; have h2 := distA_len l0 z1 z2 z3; rw [iv_len] at h1; omega
  have hnh : nnh ≤ 12 := by have h1 := o.n.len; have h2 := nextA_len l0 z1 z2 z3; rw [iv_len] at h1; omega
  have apwd_hd := Lib.hid (Own.apart ow.out.d o.d (Nat.le_refl _)); have aphd_wd := Lib.hid (Own.apart' ow.out.d o.d (Nat.le_refl _))
  have apwn_hd := Lib.hid (Own.apart ow.out.n o.d (Nat.le_refl _)); have aphd_wn := Lib.hid (Own.apart' ow.out.n o.d (Nat.le_refl _))
  have apwd_hn := Lib.hid (Own.apart ow.out.d o.n (Nat.le_refl _)); have aphn_wd := Lib.hid (Own.apart' ow.out.d o.n (Nat.le_refl _))
  have apwn_hn := Lib.hid (Own.apart ow.out.n o.n (Nat.le_refl _)); have aphn_wn := Lib.hid (Own.apart' ow.out.n o.n (Nat.le_refl _))
  have ntbw_hd := Lib.hid (Own.low o.d obw.out.lt)
  have ntbw_hn := Lib.hid (Own.low o.n obw.out.lt)
  have apgd_hd := Lib.hid (Own.apart og.out.d o.d (Nat.le_refl _)); have aphd_gd := Lib.hid (Own.apart' og.out.d o.d (Nat.le_refl _))
  have apgn_hd := Lib.hid (Own.apart og.out.n o.d (Nat.le_refl _)); have aphd_gn := Lib.hid (Own.apart' og.out.n o.d (Nat.le_refl _))
  have apgd_hn := Lib.hid (Own.apart og.out.d o.n (Nat.le_refl _)); have aphn_gd := Lib.hid (Own.apart' og.out.d o.n (Nat.le_refl _))
  have apgn_hn := Lib.hid (Own.apart og.out.n o.n (Nat.le_refl _)); have aphn_gn := Lib.hid (Own.apart' og.out.n o.n (Nat.le_refl _))
  have ntbg_hd := Lib.hid (Own.low o.d obg.out.lt)
  have ntbg_hn := Lib.hid (Own.low o.n obg.out.lt)
  have apu0_hd := Lib.hid (Own.apart ou0.out o.d (Nat.le_refl _)); have aphd_u0 := Lib.hid (Own.apart' ou0.out o.d (Nat.le_refl _))
  have apu0_hn := Lib.hid (Own.apart ou0.out o.n (Nat.le_refl _)); have aphn_u0 := Lib.hid (Own.apart' ou0.out o.n (Nat.le_refl _))
  have oh := Lib.hid (o.fewer TB.out.size); clear o
  replace ow := Lib.hid (ow.out.on b)
  replace obw := Lib.hid (obw.out.below b obw.out.lt)
  replace og := Lib.hid (og.out.on b)
  replace obg := Lib.hid (obg.out.below b obg.out.lt)
  replace ou0 := Lib.hid (ou0.out.on b)
  replace r0 := Lib.hid (r0.out.below (b.mono TB.out.size) (Nat.le_refl _))
  replace TB := Lib.hid (TB.out.trans (b.mono TB.out.size)); clear b
  obtain ⟨Wh, hWh⟩ : ∃ W, W = w13.alloc (.cells #[.int .i64 z3, .slice Adh ndh cdh, .slice Anh nnh cnh] 29) := ⟨_, rfl⟩
  have b : Below w13.heap.size w13 Wh := by rw [hWh]; exact (Below.refl _ _).alloc (Nat.le_refl _) _
  have ntbh_wd := Lib.hid (Own.notAt ow.out.d (Nat.le_refl _))
  have ntbh_wn := Lib.hid (Own.notAt ow.out.n (Nat.le_refl _))
  have ntbh_gd := Lib.hid (Own.notAt og.out.d (Nat.le_refl _))
  have ntbh_gn := Lib.hid (Own.notAt og.out.n (Nat.le_refl _))
  have ntbh_u0 := Lib.hid (Own.notAt ou0.out (Nat.le_refl _))
  have ntbh_hd := Lib.hid (Own.notAt oh.out.d (Nat.le_refl _))
  have ntbh_hn := Lib.hid (Own.notAt oh.out.n (Nat.le_refl _))
  have oNEW : Hid (Blk Wh w13.heap.size 29 #[.int .i64 z3, .slice Adh ndh cdh, .slice Anh nnh cnh]) := Lib.hid (by rw [hWh]; exact Blk.new _ _ _)
  have HWh := Lib.hid hWh; clear hWh
  replace ow := Lib.hid (ow.out.on b)
  replace obw := Lib.hid (obw.out.below b obw.out.lt)
  replace og := Lib.hid (og.out.on b)
  replace obg := Lib.hid (obg.out.below b obg.out.lt)
  replace ou0 := Lib.hid (ou0.out.on b)
  replace oh := Lib.hid (oh.out.on b)
  replace r0 := Lib.hid (r0.out.below (b.mono TB.out.size) (Nat.le_refl _))
  replace TB := Lib.hid (TB.out.trans (b.mono TB.out.size)); clear b
  have obh := oNEW; clear oNEW
  go_upto_region 25 with fail
  rw [← HWh.out]; clear HWh
  obtain ⟨cbh0, cbh1, cbh2⟩ := obh.out.three
  obtain ⟨cbw0, cbw1, cbw2⟩ := obw.out.three
  go_wp2_with fail
  refine (eqtable _ _ _ z3 Adh ndh cdh Anh nnh cnh (distA l0 z1 z2 z3) (nextA l0 z1 z2 z3) oh.out.sl (Nat.le_refl _) z3 Adw ndw cdw Anw nnw cnw (distA l0 z1 z2 z3) (nextA l0 z1 z2 z3) ow.out.sl (Nat.le_refl _) rfl rfl rfl KD.out).mono ?_
  rintro e w14 ⟨rfl, b⟩
  clear cbh0 cbh1 cbh2 cbw0 cbw1 cbw2
  replace ow := Lib.hid (ow.out.on b)
  replace obw := Lib.hid (obw.out.below b obw.out.lt)
  replace og := Lib.hid (og.out.on b)
  replace obg := Lib.hid (obg.out.below b obg.out.lt)
  replace ou0 := Lib.hid (ou0.out.on b)
  replace oh := Lib.hid (oh.out.on b)
  replace obh := Lib.hid (obh.out.below b obh.out.lt)
  replace r0 := Lib.hid (r0.out.below (b.mono TB.out.size) (Nat.le_refl _))
  replace TB := Lib.hid (TB.out.trans (b.mono TB.out.size)); clear b
  obtain ⟨cbg0, cbg1, cbg2⟩ := obg.out.three
  go_wp2_with fail
  refine (heldtable _ _ z3 Adg ndg cdg Ang nng cng 1 og.out.d.sl og.out.n.sl (Nat.le_refl _) (by omega) (by omega)).mono ?_
  rintro e w15 ⟨rfl, b⟩
  clear cbg0 cbg1 cbg2
  replace ow := Lib.hid (ow.out.on b)
  replace obw := Lib.hid (obw.out.below b obw.out.lt)
  replace og := Lib.hid (og.out.on b)
  replace obg := Lib.hid (obg.out.below b obg.out.lt)
  replace ou0 := Lib.hid (ou0.out.on b)
  replace oh := Lib.hid (oh.out.on b)
  replace obh := Lib.hid (obh.out.below b obh.out.lt)
  replace r0 := Lib.hid (r0.out.below (b.mono TB.out.size) (Nat.le_refl _))
  replace TB := Lib.hid (TB.out.trans (b.mono TB.out.size)); clear b
  go_wp2_with fail
  go_ret
  exact ⟨rfl, TB.out⟩
end Go.Proofs.Ytjobjjmeneddnaa
