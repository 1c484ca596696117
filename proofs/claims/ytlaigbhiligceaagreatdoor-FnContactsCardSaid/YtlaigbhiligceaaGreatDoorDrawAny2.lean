/- The contract of chapter 7's draw l7Any: the walk. -/
import Derived.Test.YtlaigbhiligceaaGreatDoorDrawSky2
import Derived.Deep.Cut
namespace Go.Proofs.YtlaigbhiligceaaGreatDoor
open Go.ChangeShapes Go.WideShapes Go.ChangeAt Go.RowKit
set_option linter.unusedVariables false
set_option maxRecDepth 100000 in
set_option maxHeartbeats 3000000 in
theorem danysky (w : World) (p : Nat) (A : Option Addr) (cap : Nat) (xs : List Value) (hc : Cur w p A cap xs) :
    Calls Tryz.prog 31 #[.pointer (some ⟨p, 0, none⟩)] w (GotAny w p A cap xs) := by
  obtain ⟨i0, hi, hy0, hy1, hy2⟩ := info_parts zone_info
  have hr0 := Lib.hid (i64_all (l := [0, 1, 4, 5, -9223372036854775808]) (by decide))
  have hr3 := Lib.hid (i64_all (l := [-1, 180, 181]) (by decide))
  have hr4 := Lib.hid (i64_all (l := [-1, 20, 21]) (by decide))
  have hr7 := Lib.hid (i64_all (l := [61, -60]) (by decide))
  have hp2 : ¬ (w.heap.size = p) := by have := hc.lt; omega
  have K1 := Lib.hid ((Dr.start hc).alloc (.cells #[.int .i64 0, .slice none 0 0, .slice none 0 0, .int .i64 0, .int .i64 0, .int .i64 0, .int .i64 0, .int .i64 0, .slice none 0 0, .int .i64 0] 28))
  have R1 : Hid (Blk (w.alloc (.cells #[.int .i64 0, .slice none 0 0, .slice none 0 0, .int .i64 0, .int .i64 0, .int .i64 0, .int .i64 0, .int .i64 0, .slice none 0 0, .int .i64 0] 28)) w.heap.size 28 #[.int .i64 0, .slice none 0 0, .slice none 0 0, .int .i64 0, .int .i64 0, .int .i64 0, .int .i64 0, .int .i64 0, .slice none 0 0, .int .i64 0]) := Lib.hid (Blk.new _ _ _)
  clear hc
  go_enter Tryz.func31, Tryz.ntmps31
  go_wp2_with fail
  refine (dsky _ _ _ _ _ K1.out.cur).mono ?_
  rintro e w1 ⟨⟨P, R, X, V, U, D, Q, ns, ni, nz, ls, li, lz, As, cs, Ai, ci, Az, cz, rfl, ho, ⟨hn1, hn2, rfl, hn4⟩, ⟨ha1, ha2, ha3⟩, hj, hk1, hk2⟩, c1, u1⟩
  have HJ := Lib.hid hj
  have R2 := u1.blk R1.out hp2
  have hlt1 : w.heap.size < w1.heap.size := R2.lt
  have hol : OwnSky w1 (w.heap.size + 1) As ns cs Ai 2 ci Az nz cz ls li lz := by simpa using ho
  obtain ⟨s, hs⟩ : ∃ s, s = w1.heap.size := ⟨_, rfl⟩
  have G1 : Hid (StA w p A cap xs s P R X V U D Q ns 2 nz ls li lz As cs Ai ci Az cz (w1.alloc (.cells #[.int .i64 P, .slice As ns cs, .slice Ai 2 ci, .int .i64 R, .int .i64 X, .int .i64 V, .int .i64 U, .int .i64 D, .slice Az nz cz, .int .i64 Q] 28))) :=
    Lib.hid ⟨(K1.out.call c1 u1).alloc _, R2.alloc _, by rw [hs]; exact Blk.new _ _ _, hol.alloc _, by rw [hs]; exact hol.s.notAt (Nat.le_refl _), by rw [hs]; exact hol.i.notAt (Nat.le_refl _), by rw [hs]; exact hol.z.notAt (Nat.le_refl _), fun x hx => (hk1 x hx).1, fun x hx => (hk2 x hx).1, by rw [hs]; exact hlt1, ha1, ha2, ha3⟩
  clear ho hol hj hk1 hk2 c1 u1 R2 K1 R1 ha1 ha2 ha3
  go_wp2_with fail
  refine (dbelow _ _ _ _ _ _ G1.out.dr.cur (by omega)).mono ?_
  rintro e w2 ⟨⟨f, hf, rfl⟩, c1, u1⟩
  have hf1 := hf.1 (by omega)
  have G2 := Lib.hid (G1.out.call c1 u1)
  rw [← hs]
  clear hf c1 u1 G1 hs hlt1
  by_cases q0 : f = 0
  · subst q0
    go_wp2_with fail
    refine (dlist _ _ _ _ _ [0, 1, 4, 5, -9223372036854775808] _ _ _ rfl rfl G2.out.dr.cur (by decide) (by decide) hr0.out).mono ?_
    rintro e w3 ⟨⟨v, hv, rfl⟩, c1, u1⟩
    have hv1 : Hid (J64 v) := Lib.hid (hr0.out v hv)
    have G3 := Lib.hid (G2.out.call c1 u1)
    have G9 := G3.out.set0 v
    have d0 : w3.cell? ⟨s, 0, none⟩ = some (.int .i64 P) := G3.out.b.cell 0
    have e0 := G3.out.b.frozen 0
    clear hv c1 u1 G2 G3
    go_upto_region 19 with fail
    obtain ⟨W9, hW9⟩ : ∃ W, W = w3.setCell ⟨s, 0, none⟩ (.int .i64 v) := ⟨_, rfl⟩
    rw [← hW9] at G9
    rw [← hW9]
    clear hW9
    have G9 := Lib.hid G9
    obtain ⟨hcs, hr, hf⟩ := G9.out.cells
    obtain ⟨c0, c1, c2, c3, c4, c5, c6, c7, c8, c9⟩ := hcs
    obtain ⟨r0, r1, r2, r3, r4, r5, r6, r7, r8, r9⟩ := hr
    obtain ⟨f0, f1, f2, f3, f4, f5, f6, f7, f8, f9⟩ := hf
    have KF := Lib.hid G9.out.fin
    have HK := Lib.hid (And.intro G9.out.ks G9.out.ki)
    have hlt9 := G9.out.lt
    clear G9
    go_wp2
    obtain ⟨k0, k1, k2, k3, k4, k5, k6, k7, k8, k9⟩ := KF.out.1.ten
    refine bodyPost_ret (v := .agg #[.int .i64 v, .slice As ns cs, .slice Ai 2 ci, .int .i64 R, .int .i64 X, .int .i64 V, .int .i64 U, .int .i64 D, .slice Az nz cz, .int .i64 Q]) (by simp [results, Tryz.results31, go_sem, k0, k1, k2, k3, k4, k5, k6, k7, k8, k9]) rfl ?_
    exact ⟨⟨_, _, _, _, _, _, _, _, _, _, _, _, _, _, _, _, _, _, _, rfl, KF.out.2.2.fewer (by omega), ⟨by omega, by omega, by omega⟩, ⟨hv1.out, HJ.out.2.1, HJ.out.2.2.1, HJ.out.2.2.2.1, HJ.out.2.2.2.2.1, HJ.out.2.2.2.2.2.1, HJ.out.2.2.2.2.2.2⟩, HK.out.1, HK.out.2⟩, KF.out.2.1.cur, KF.out.2.1.turn⟩
  have q0' : ((f : Int) == 0) = false := by simp; omega
  by_cases q1 : f = 1
  · subst q1
    obtain ⟨g, rfl⟩ : ∃ g, As = some ⟨g, 0, none⟩ := by rcases G2.out.o.s.form with ⟨_, h1, _⟩ | ⟨g, h1, _⟩; (· omega); (· exact ⟨g, h1⟩)
    have c0 : w2.cell? ⟨s, 1, none⟩ = some (.slice (some ⟨g, 0, none⟩) ns cs) := G2.out.b.cell 1
    have SD := Lib.hid (G2.out.below (Below.refl w2.heap.size w2).drew)
    have f2 : 0 < ns := by omega
    go_wp2_with fail
    go_region_law (first
      | (go_simp; go_at_call 67; refine (dsatany _ _ _ _ _ SD.out.dr.cur).mono ?_; rintro e wA ⟨⟨x, y, z, u, rfl, hq⟩, cA, uA⟩; have SA := Lib.hid (SD.out.call cA uA); have cA0 : wA.cell? ⟨s, 1, none⟩ = some (.slice (some ⟨g, 0, none⟩) ns cs) := SA.out.b.cell 1; have m0 := SA.out.o.s.row.frozenAt 0; have m1 := SA.out.o.s.row.frozenAt 1; have m2 := SA.out.o.s.row.frozenAt 2; have m3 := SA.out.o.s.row.frozenAt 3; obtain ⟨v0, l0⟩ := SA.out.o.s.cellS 0 (by omega); obtain ⟨v1, l1⟩ := SA.out.o.s.cellS 1 (by omega); obtain ⟨v2, l2⟩ := SA.out.o.s.cellS 2 (by omega); obtain ⟨v3, l3⟩ := SA.out.o.s.cellS 3 (by omega); have G9 := Lib.hid (SA.out.sat0 (by omega) ⟨x, y, z, u⟩ hq); clear hq cA uA))
    all_goals
      have G9 := G9.out
      clear SD SA G2
      go_upto_region 19 with fail
      obtain ⟨W9, hW9⟩ : ∃ W, W = (((wA.setCell ⟨g, 0, none⟩ (.int .i64 x)).setCell ⟨g, 1, none⟩ (.int .i64 y)).setCell ⟨g, 2, none⟩ (.int .i64 z)).setCell ⟨g, 3, none⟩ (.int .i64 u) := ⟨_, rfl⟩
      rw [← hW9] at G9
      rw [← hW9]
      clear hW9
      have G9 := Lib.hid G9
      obtain ⟨hcs, hr, hf⟩ := G9.out.cells
      obtain ⟨c0, c1, c2, c3, c4, c5, c6, c7, c8, c9⟩ := hcs
      obtain ⟨r0, r1, r2, r3, r4, r5, r6, r7, r8, r9⟩ := hr
      obtain ⟨f0, f1, f2, f3, f4, f5, f6, f7, f8, f9⟩ := hf
      have KF := Lib.hid G9.out.fin
      have HK := Lib.hid (And.intro G9.out.ks G9.out.ki)
      have hlt9 := G9.out.lt
      clear G9
      go_wp2
      obtain ⟨k0, k1, k2, k3, k4, k5, k6, k7, k8, k9⟩ := KF.out.1.ten
      refine bodyPost_ret (v := .agg #[.int .i64 P, .slice (some ⟨g, 0, none⟩) ns cs, .slice Ai 2 ci, .int .i64 R, .int .i64 X, .int .i64 V, .int .i64 U, .int .i64 D, .slice Az nz cz, .int .i64 Q]) (by simp [results, Tryz.results31, go_sem, k0, k1, k2, k3, k4, k5, k6, k7, k8, k9]) rfl ?_
      exact ⟨⟨_, _, _, _, _, _, _, _, _, _, _, _, _, _, _, _, _, _, _, rfl, KF.out.2.2.fewer (by omega), ⟨by omega, by omega, by omega⟩, HJ.out, HK.out.1, HK.out.2⟩, KF.out.2.1.cur, KF.out.2.1.turn⟩
  have q1' : ((f : Int) == 1) = false := by simp; omega
  by_cases q2 : f = 2
  · subst q2
    obtain ⟨g, rfl⟩ : ∃ g, Ai = some ⟨g, 0, none⟩ := by rcases G2.out.o.i.form with ⟨_, h1, _⟩ | ⟨g, h1, _⟩; (· omega); (· exact ⟨g, h1⟩)
    have c0 : w2.cell? ⟨s, 2, none⟩ = some (.slice (some ⟨g, 0, none⟩) 2 ci) := G2.out.b.cell 2
    have SD := Lib.hid (G2.out.below (Below.refl w2.heap.size w2).drew)
    go_wp2_with fail
    go_region_law (first
      | (go_simp; go_at_call 68; refine (dangle _ _ _ _ _ SD.out.dr.cur).mono ?_; rintro e wA ⟨⟨z, hz, rfl⟩, cA, uA⟩; have SA := Lib.hid (SD.out.call cA uA); have cA0 : wA.cell? ⟨s, 2, none⟩ = some (.slice (some ⟨g, 0, none⟩) 2 ci) := SA.out.b.cell 2; have m1 := SA.out.o.i.row.frozenAt 1; obtain ⟨v1, l1⟩ := SA.out.o.i.cellS 1 (by omega); have G9 := Lib.hid (SA.out.site0 (by omega) z hz); clear hz cA uA))
    all_goals
      have G9 := G9.out
      clear SD SA G2
      go_upto_region 19 with fail
      obtain ⟨W9, hW9⟩ : ∃ W, W = wA.setCell ⟨g, 1, none⟩ (.int .i64 z) := ⟨_, rfl⟩
      rw [← hW9] at G9
      rw [← hW9]
      clear hW9
      have G9 := Lib.hid G9
      obtain ⟨hcs, hr, hf⟩ := G9.out.cells
      obtain ⟨c0, c1, c2, c3, c4, c5, c6, c7, c8, c9⟩ := hcs
      obtain ⟨r0, r1, r2, r3, r4, r5, r6, r7, r8, r9⟩ := hr
      obtain ⟨f0, f1, f2, f3, f4, f5, f6, f7, f8, f9⟩ := hf
      have KF := Lib.hid G9.out.fin
      have HK := Lib.hid (And.intro G9.out.ks G9.out.ki)
      have hlt9 := G9.out.lt
      clear G9
      go_wp2
      obtain ⟨k0, k1, k2, k3, k4, k5, k6, k7, k8, k9⟩ := KF.out.1.ten
      refine bodyPost_ret (v := .agg #[.int .i64 P, .slice As ns cs, .slice (some ⟨g, 0, none⟩) 2 ci, .int .i64 R, .int .i64 X, .int .i64 V, .int .i64 U, .int .i64 D, .slice Az nz cz, .int .i64 Q]) (by simp [results, Tryz.results31, go_sem, k0, k1, k2, k3, k4, k5, k6, k7, k8, k9]) rfl ?_
      exact ⟨⟨_, _, _, _, _, _, _, _, _, _, _, _, _, _, _, _, _, _, _, rfl, KF.out.2.2.fewer (by omega), ⟨by omega, by omega, by omega⟩, HJ.out, HK.out.1, HK.out.2⟩, KF.out.2.1.cur, KF.out.2.1.turn⟩
  have q2' : ((f : Int) == 2) = false := by simp; omega
  by_cases q3 : f = 3
  · subst q3
    go_wp2_with fail
    refine (dlist _ _ _ _ _ [-1, 180, 181] _ _ _ rfl rfl G2.out.dr.cur (by decide) (by decide) hr3.out).mono ?_
    rintro e w3 ⟨⟨v, hv, rfl⟩, c1, u1⟩
    have hv1 : Hid (J64 v) := Lib.hid (hr3.out v hv)
    have G3 := Lib.hid (G2.out.call c1 u1)
    have G9 := G3.out.set3 v
    have d0 : w3.cell? ⟨s, 3, none⟩ = some (.int .i64 R) := G3.out.b.cell 3
    have e0 := G3.out.b.frozen 3
    clear hv c1 u1 G2 G3
    go_upto_region 19 with fail
    obtain ⟨W9, hW9⟩ : ∃ W, W = w3.setCell ⟨s, 3, none⟩ (.int .i64 v) := ⟨_, rfl⟩
    rw [← hW9] at G9
    rw [← hW9]
    clear hW9
    have G9 := Lib.hid G9
    obtain ⟨hcs, hr, hf⟩ := G9.out.cells
    obtain ⟨c0, c1, c2, c3, c4, c5, c6, c7, c8, c9⟩ := hcs
    obtain ⟨r0, r1, r2, r3, r4, r5, r6, r7, r8, r9⟩ := hr
    obtain ⟨f0, f1, f2, f3, f4, f5, f6, f7, f8, f9⟩ := hf
    have KF := Lib.hid G9.out.fin
    have HK := Lib.hid (And.intro G9.out.ks G9.out.ki)
    have hlt9 := G9.out.lt
    clear G9
    go_wp2
    obtain ⟨k0, k1, k2, k3, k4, k5, k6, k7, k8, k9⟩ := KF.out.1.ten
    refine bodyPost_ret (v := .agg #[.int .i64 P, .slice As ns cs, .slice Ai 2 ci, .int .i64 v, .int .i64 X, .int .i64 V, .int .i64 U, .int .i64 D, .slice Az nz cz, .int .i64 Q]) (by simp [results, Tryz.results31, go_sem, k0, k1, k2, k3, k4, k5, k6, k7, k8, k9]) rfl ?_
    exact ⟨⟨_, _, _, _, _, _, _, _, _, _, _, _, _, _, _, _, _, _, _, rfl, KF.out.2.2.fewer (by omega), ⟨by omega, by omega, by omega⟩, ⟨HJ.out.1, hv1.out, HJ.out.2.2.1, HJ.out.2.2.2.1, HJ.out.2.2.2.2.1, HJ.out.2.2.2.2.2.1, HJ.out.2.2.2.2.2.2⟩, HK.out.1, HK.out.2⟩, KF.out.2.1.cur, KF.out.2.1.turn⟩
  have q3' : ((f : Int) == 3) = false := by simp; omega
  by_cases q4 : f = 4
  · subst q4
    go_wp2_with fail
    refine (dlist _ _ _ _ _ [-1, 20, 21] _ _ _ rfl rfl G2.out.dr.cur (by decide) (by decide) hr4.out).mono ?_
    rintro e w3 ⟨⟨v, hv, rfl⟩, c1, u1⟩
    have hv1 : Hid (J64 v) := Lib.hid (hr4.out v hv)
    have G3 := Lib.hid (G2.out.call c1 u1)
    have G9 := G3.out.set9 v
    have d0 : w3.cell? ⟨s, 9, none⟩ = some (.int .i64 Q) := G3.out.b.cell 9
    have e0 := G3.out.b.frozen 9
    clear hv c1 u1 G2 G3
    go_upto_region 19 with fail
    obtain ⟨W9, hW9⟩ : ∃ W, W = w3.setCell ⟨s, 9, none⟩ (.int .i64 v) := ⟨_, rfl⟩
    rw [← hW9] at G9
    rw [← hW9]
    clear hW9
    have G9 := Lib.hid G9
    obtain ⟨hcs, hr, hf⟩ := G9.out.cells
    obtain ⟨c0, c1, c2, c3, c4, c5, c6, c7, c8, c9⟩ := hcs
    obtain ⟨r0, r1, r2, r3, r4, r5, r6, r7, r8, r9⟩ := hr
    obtain ⟨f0, f1, f2, f3, f4, f5, f6, f7, f8, f9⟩ := hf
    have KF := Lib.hid G9.out.fin
    have HK := Lib.hid (And.intro G9.out.ks G9.out.ki)
    have hlt9 := G9.out.lt
    clear G9
    go_wp2
    obtain ⟨k0, k1, k2, k3, k4, k5, k6, k7, k8, k9⟩ := KF.out.1.ten
    refine bodyPost_ret (v := .agg #[.int .i64 P, .slice As ns cs, .slice Ai 2 ci, .int .i64 R, .int .i64 X, .int .i64 V, .int .i64 U, .int .i64 D, .slice Az nz cz, .int .i64 v]) (by simp [results, Tryz.results31, go_sem, k0, k1, k2, k3, k4, k5, k6, k7, k8, k9]) rfl ?_
    exact ⟨⟨_, _, _, _, _, _, _, _, _, _, _, _, _, _, _, _, _, _, _, rfl, KF.out.2.2.fewer (by omega), ⟨by omega, by omega, by omega⟩, ⟨HJ.out.1, HJ.out.2.1, HJ.out.2.2.1, HJ.out.2.2.2.1, HJ.out.2.2.2.2.1, HJ.out.2.2.2.2.2.1, hv1.out⟩, HK.out.1, HK.out.2⟩, KF.out.2.1.cur, KF.out.2.1.turn⟩
  have q4' : ((f : Int) == 4) = false := by simp; omega
  by_cases q5 : f = 5
  · subst q5
    have c0 : w2.cell? ⟨s, 8, none⟩ = some (.slice Az nz cz) := G2.out.b.cell 8
    have SD := Lib.hid (G2.out.below (Below.refl w2.heap.size w2).drew)
    go_wp2_with fail
    go_region_law (first
      | (go_simp; go_at_call 38; refine (dbelow _ _ _ _ _ _ SD.out.dr.cur (by omega)).mono ?_; rintro e wA ⟨⟨ta, hxA, rfl⟩, cA, uA⟩; have hta := hxA.1 (by omega); have SA := Lib.hid (SD.out.call cA uA); have cA0 : wA.cell? ⟨s, 8, none⟩ = some (.slice Az nz cz) := SA.out.b.cell 8; clear hxA cA uA)
      | (go_simp; go_at_call 69; refine (darc _ _ _ _ _ SA.out.dr.cur).mono ?_; rintro e wB ⟨⟨x, y, rfl⟩, cB, uB⟩; have SB := Lib.hid (SA.out.call cB uB); have cB0 : wB.cell? ⟨s, 8, none⟩ = some (.slice Az nz cz) := SB.out.b.cell 8; have SC := Lib.hid (SB.out.below ((Below.refl wB.heap.size wB).alloc (Nat.le_refl _) (.cells #[.int .i64 (ta : Int), .int .i64 x, .int .i64 y] 118))); have hsB := SB.out.b.lt; clear cB uB)
      | (refine step_append_sl _ (by rfl) _ _ 26 (by rfl) (w.heap.size + 1) 118 i0 _ 3 24 Tryz.underlying26 hi hy0 hy1 hy2 rfl (by omega) Az nz cz _ (by rfl) SC.out.o.z (wB.heap.size + 1) _ 1 1 [.int .i64 (ta : Int), .int .i64 x, .int .i64 y] (by rfl) (Sl.one3 wB _ _ _ _) (by simp [Value.oneCell']) (by omega) (by omega) (by have := SC.out.r.lt; omega) ?_; intro A3 cc3 w3 hown3 hg3 hat3; have SF := Lib.hid (SC.out.zone (x := ⟨ta, x, y⟩) hown3 hg3 hat3); have BB := (SC.out.b.grown' SC.out.dz hg3); have d1 : w3.cell? ⟨s, 8, none⟩ = some (.slice Az nz cz) := BB.cell 8; have f1 := BB.frozen 8; clear hown3 hg3 hat3 BB))
    all_goals
      obtain ⟨lz2, G9⟩ := SF.out
      clear SD SA SB SC G2 SF
      go_upto_region 19 with fail
      obtain ⟨W9, hW9⟩ : ∃ W, W = w3.setCell ⟨s, 8, none⟩ (.slice A3 (nz + 1) cc3) := ⟨_, rfl⟩
      rw [← hW9] at G9
      rw [← hW9]
      clear hW9
      have G9 := Lib.hid G9
      obtain ⟨hcs, hr, hf⟩ := G9.out.cells
      obtain ⟨c0, c1, c2, c3, c4, c5, c6, c7, c8, c9⟩ := hcs
      obtain ⟨r0, r1, r2, r3, r4, r5, r6, r7, r8, r9⟩ := hr
      obtain ⟨f0, f1, f2, f3, f4, f5, f6, f7, f8, f9⟩ := hf
      have KF := Lib.hid G9.out.fin
      have HK := Lib.hid (And.intro G9.out.ks G9.out.ki)
      have hlt9 := G9.out.lt
      clear G9
      go_wp2
      obtain ⟨k0, k1, k2, k3, k4, k5, k6, k7, k8, k9⟩ := KF.out.1.ten
      refine bodyPost_ret (v := .agg #[.int .i64 P, .slice As ns cs, .slice Ai 2 ci, .int .i64 R, .int .i64 X, .int .i64 V, .int .i64 U, .int .i64 D, .slice A3 (nz + 1) cc3, .int .i64 Q]) (by simp [results, Tryz.results31, go_sem, k0, k1, k2, k3, k4, k5, k6, k7, k8, k9]) rfl ?_
      exact ⟨⟨_, _, _, _, _, _, _, _, _, _, _, _, _, _, _, _, _, _, _, rfl, KF.out.2.2.fewer (by omega), ⟨by omega, by omega, by omega⟩, HJ.out, HK.out.1, HK.out.2⟩, KF.out.2.1.cur, KF.out.2.1.turn⟩
  have q5' : ((f : Int) == 5) = false := by simp; omega
  by_cases q6 : f = 6
  · subst q6
    have G9 := G2.out.set1
    have d0 : w2.cell? ⟨s, 1, none⟩ = some (.slice As ns cs) := G2.out.b.cell 1
    have e0 := G2.out.b.frozen 1
    clear G2
    go_upto_region 19 with fail
    obtain ⟨W9, hW9⟩ : ∃ W, W = w2.setCell ⟨s, 1, none⟩ (.slice none 0 0) := ⟨_, rfl⟩
    rw [← hW9] at G9
    rw [← hW9]
    clear hW9
    have G9 := Lib.hid G9
    obtain ⟨hcs, hr, hf⟩ := G9.out.cells
    obtain ⟨c0, c1, c2, c3, c4, c5, c6, c7, c8, c9⟩ := hcs
    obtain ⟨r0, r1, r2, r3, r4, r5, r6, r7, r8, r9⟩ := hr
    obtain ⟨f0, f1, f2, f3, f4, f5, f6, f7, f8, f9⟩ := hf
    have KF := Lib.hid G9.out.fin
    have HK := Lib.hid (And.intro G9.out.ks G9.out.ki)
    have hlt9 := G9.out.lt
    clear G9
    go_wp2
    obtain ⟨k0, k1, k2, k3, k4, k5, k6, k7, k8, k9⟩ := KF.out.1.ten
    refine bodyPost_ret (v := .agg #[.int .i64 P, .slice none 0 0, .slice Ai 2 ci, .int .i64 R, .int .i64 X, .int .i64 V, .int .i64 U, .int .i64 D, .slice Az nz cz, .int .i64 Q]) (by simp [results, Tryz.results31, go_sem, k0, k1, k2, k3, k4, k5, k6, k7, k8, k9]) rfl ?_
    exact ⟨⟨_, _, _, _, _, _, _, _, _, _, _, _, _, _, _, _, _, _, _, rfl, KF.out.2.2.fewer (by omega), ⟨by omega, by omega, by omega⟩, HJ.out, HK.out.1, HK.out.2⟩, KF.out.2.1.cur, KF.out.2.1.turn⟩
  have q6' : ((f : Int) == 6) = false := by simp; omega
  by_cases q7 : f = 7
  · subst q7
    go_wp2_with fail
    refine (dlist _ _ _ _ _ [61, -60] _ _ _ rfl rfl G2.out.dr.cur (by decide) (by decide) hr7.out).mono ?_
    rintro e w3 ⟨⟨v, hv, rfl⟩, c1, u1⟩
    have hv1 : Hid (J64 v) := Lib.hid (hr7.out v hv)
    have G3 := Lib.hid (G2.out.call c1 u1)
    have G9 := G3.out.set6 v
    have d0 : w3.cell? ⟨s, 6, none⟩ = some (.int .i64 U) := G3.out.b.cell 6
    have e0 := G3.out.b.frozen 6
    clear hv c1 u1 G2 G3
    go_upto_region 19 with fail
    obtain ⟨W9, hW9⟩ : ∃ W, W = w3.setCell ⟨s, 6, none⟩ (.int .i64 v) := ⟨_, rfl⟩
    rw [← hW9] at G9
    rw [← hW9]
    clear hW9
    have G9 := Lib.hid G9
    obtain ⟨hcs, hr, hf⟩ := G9.out.cells
    obtain ⟨c0, c1, c2, c3, c4, c5, c6, c7, c8, c9⟩ := hcs
    obtain ⟨r0, r1, r2, r3, r4, r5, r6, r7, r8, r9⟩ := hr
    obtain ⟨f0, f1, f2, f3, f4, f5, f6, f7, f8, f9⟩ := hf
    have KF := Lib.hid G9.out.fin
    have HK := Lib.hid (And.intro G9.out.ks G9.out.ki)
    have hlt9 := G9.out.lt
    clear G9
    go_wp2
    obtain ⟨k0, k1, k2, k3, k4, k5, k6, k7, k8, k9⟩ := KF.out.1.ten
    refine bodyPost_ret (v := .agg #[.int .i64 P, .slice As ns cs, .slice Ai 2 ci, .int .i64 R, .int .i64 X, .int .i64 V, .int .i64 v, .int .i64 D, .slice Az nz cz, .int .i64 Q]) (by simp [results, Tryz.results31, go_sem, k0, k1, k2, k3, k4, k5, k6, k7, k8, k9]) rfl ?_
    exact ⟨⟨_, _, _, _, _, _, _, _, _, _, _, _, _, _, _, _, _, _, _, rfl, KF.out.2.2.fewer (by omega), ⟨by omega, by omega, by omega⟩, ⟨HJ.out.1, HJ.out.2.1, HJ.out.2.2.1, HJ.out.2.2.2.1, hv1.out, HJ.out.2.2.2.2.2.1, HJ.out.2.2.2.2.2.2⟩, HK.out.1, HK.out.2⟩, KF.out.2.1.cur, KF.out.2.1.turn⟩
  have q7' : ((f : Int) == 7) = false := by simp; omega
  have G9 := G2
  clear G2
  obtain ⟨hcs, hr, hf⟩ := G9.out.cells
  obtain ⟨c0, c1, c2, c3, c4, c5, c6, c7, c8, c9⟩ := hcs
  obtain ⟨r0, r1, r2, r3, r4, r5, r6, r7, r8, r9⟩ := hr
  obtain ⟨f0, f1, f2, f3, f4, f5, f6, f7, f8, f9⟩ := hf
  have KF := Lib.hid G9.out.fin
  have HK := Lib.hid (And.intro G9.out.ks G9.out.ki)
  have hlt9 := G9.out.lt
  clear G9
  go_wp2
  obtain ⟨k0, k1, k2, k3, k4, k5, k6, k7, k8, k9⟩ := KF.out.1.ten
  refine bodyPost_ret (v := .agg #[.int .i64 P, .slice As ns cs, .slice Ai 2 ci, .int .i64 R, .int .i64 X, .int .i64 V, .int .i64 U, .int .i64 D, .slice Az nz cz, .int .i64 Q]) (by simp [results, Tryz.results31, go_sem, k0, k1, k2, k3, k4, k5, k6, k7, k8, k9]) rfl ?_
  exact ⟨⟨_, _, _, _, _, _, _, _, _, _, _, _, _, _, _, _, _, _, _, rfl, KF.out.2.2.fewer (by omega), ⟨by omega, by omega, by omega⟩, HJ.out, HK.out.1, HK.out.2⟩, KF.out.2.1.cur, KF.out.2.1.turn⟩
end Go.Proofs.YtlaigbhiligceaaGreatDoor
