/- The contract of chapter 7's draw l7Sky: the walk. -/
import Derived.Test.YtpaedbmdcbmpiaaDoorDrawSky
import Derived.Deep.Cut
namespace Go.Proofs.YtpaedbmdcbmpiaaDoor
open Go.ChangeShapes Go.WideShapes Go.ChangeAt Go.RowKit
set_option linter.unusedVariables false
set_option maxRecDepth 100000 in
set_option maxHeartbeats 3000000 in
theorem dsky (w : World) (p : Nat) (A : Option Addr) (cap : Nat) (xs : List Value) (hc : Cur w p A cap xs) :
    Calls Tryd.prog 51 #[.pointer (some ⟨p, 0, none⟩)] w (GotSky w p A cap xs) := by
  obtain ⟨i0, hi, hy0, hy1, hy2⟩ := info_parts sat_info
  have hp2 : ¬ (w.heap.size = p) := by have := hc.lt; omega
  have K1 := Lib.hid ((Dr.start hc).alloc (.cells #[.int .i64 0, .slice none 0 0, .slice none 0 0, .int .i64 0, .int .i64 0, .int .i64 0, .int .i64 0, .int .i64 0, .slice none 0 0, .int .i64 0] 28))
  have R1 : Hid (Blk (w.alloc (.cells #[.int .i64 0, .slice none 0 0, .slice none 0 0, .int .i64 0, .int .i64 0, .int .i64 0, .int .i64 0, .int .i64 0, .slice none 0 0, .int .i64 0] 28)) w.heap.size 28 #[.int .i64 0, .slice none 0 0, .slice none 0 0, .int .i64 0, .int .i64 0, .int .i64 0, .int .i64 0, .int .i64 0, .slice none 0 0, .int .i64 0]) := Lib.hid (Blk.new _ _ _)
  clear hc
  go_enter Tryd.func51, Tryd.ntmps51
  go_wp2_with fail
  refine (dbelow _ _ _ _ _ _ K1.out.cur (by omega)).mono ?_
  rintro e w1 ⟨⟨x1, hx, rfl⟩, c1, u1⟩
  have hx1 := hx.1 (by omega)
  have hq1 : w.heap.size < w1.heap.size := by have := u1.size; simp at this; omega
  have K2 := Lib.hid (K1.out.call c1 u1); have R2 := Lib.hid (u1.blk R1.out hp2)
  clear hx c1 u1 K1 R1
  go_wp2_with fail
  refine (dbelow _ _ _ _ _ _ K2.out.cur (by omega)).mono ?_
  rintro e w2 ⟨⟨x2, hx, rfl⟩, c1, u1⟩
  have hx2 := hx.1 (by omega)
  have K3 := Lib.hid (K2.out.call c1 u1); have R3 := Lib.hid (u1.blk R2.out hp2)
  clear hx c1 u1 K2 R2
  go_wp2_with fail
  refine (dbelow _ _ _ _ _ _ K3.out.cur (by omega)).mono ?_
  rintro e w3 ⟨⟨x3, hx, rfl⟩, c1, u1⟩
  have hx3 := hx.1 (by omega)
  have K4 := Lib.hid (K3.out.call c1 u1); have R4 := Lib.hid (u1.blk R3.out hp2)
  clear hx c1 u1 K3 R3
  go_wp2_with fail
  refine (dbelow _ _ _ _ _ _ K4.out.cur (by omega)).mono ?_
  rintro e w4 ⟨⟨x4, hx, rfl⟩, c1, u1⟩
  have hx4 := hx.1 (by omega)
  have K5 := Lib.hid (K4.out.call c1 u1); have R5 := Lib.hid (u1.blk R4.out hp2)
  clear hx c1 u1 K4 R4
  go_wp2_with fail
  refine (dbelow _ _ _ _ _ _ K5.out.cur (by omega)).mono ?_
  rintro e w5 ⟨⟨x5, hx, rfl⟩, c1, u1⟩
  have hx5 := hx.1 (by omega)
  have K6 := Lib.hid (K5.out.call c1 u1); have R6 := Lib.hid (u1.blk R5.out hp2)
  clear hx c1 u1 K5 R5 hq1
  obtain ⟨s, hs⟩ : ∃ s, s = w5.heap.size := ⟨_, rfl⟩
  have hlt : w.heap.size < s := by rw [hs]; exact R6.out.lt
  have ST : Hid (StSky w p A cap xs s (120 + 10 * (x1 : Int)) (30 + 10 * (x2 : Int)) (50 + 10 * (x3 : Int)) x4 x5 none 0 0 [] (w5.alloc (.cells #[.int .i64 2, .slice none 0 0, .slice none 0 0, .int .i64 (120 + 10 * (x1 : Int)), .int .i64 (30 + 10 * (x2 : Int)), .int .i64 (50 + 10 * (x3 : Int)), .int .i64 x4, .int .i64 60, .slice none 0 0, .int .i64 x5] 28))) :=
    Lib.hid ⟨K6.out.alloc _, R6.out.alloc _, by rw [hs]; exact Blk.new _ _ _, Own.empty _ _ _ _, by simp, hlt⟩
  have HJ : Hid (J64 2 ∧ J64 (120 + 10 * (x1 : Int)) ∧ J64 (30 + 10 * (x2 : Int)) ∧ J64 (50 + 10 * (x3 : Int)) ∧ J64 x4 ∧ J64 60 ∧ J64 x5) :=
    Lib.hid ⟨j64 (by omega) (by omega), j64 (by omega) (by omega), j64 (by omega) (by omega), j64 (by omega) (by omega), j64 (by omega) (by omega), j64 (by omega) (by omega), j64 (by omega) (by omega)⟩
  clear K6 R6
  go_wp2
  rw [← hs]
  clear hs
  go_loopw [4] (fun i wr => ∃ (j : Nat) (As : Option Addr) (ns cs : Nat) (ls : List Sat4), j ≤ 2 ∧ i = .int .i64 j ∧ 2 * j ≤ ns ∧ ns ≤ 3 * j ∧ StSky w p A cap xs s (120 + 10 * (x1 : Int)) (30 + 10 * (x2 : Int)) (50 + 10 * (x3 : Int)) x4 x5 As ns cs ls wr)
    (fun i _ => 2 - (intOf i).toNat)
  case atStart => exact ⟨0, none, 0, 0, [], by omega, rfl, by omega, by omega, ST.out⟩
  case round =>
    clear ST
    obtain ⟨j, As, ns, cs, ls, hj, rfl, hn1, hn2, hst⟩ := hrel
    by_cases hlt2 : j < 2
    · have S0 := Lib.hid hst; clear hst
      go_wp2_with fail
      refine (dbelow _ _ _ _ _ _ S0.out.dr.cur (by omega)).mono ?_
      rintro e wa ⟨⟨t, hx, rfl⟩, c1, u1⟩
      have ht1 := hx.1 (by omega)
      have S1 := Lib.hid (S0.out.call c1 u1)
      clear hx c1 u1 S0
      go_wp2
      go_loopw [6] (fun i wr => ∃ (k : Nat) (A2 : Option Addr) (c2 : Nat) (l2 : List Sat4), k ≤ 2 + t ∧ i = .int .i64 k ∧ StSky w p A cap xs s (120 + 10 * (x1 : Int)) (30 + 10 * (x2 : Int)) (50 + 10 * (x3 : Int)) x4 x5 A2 (ns + k) c2 l2 wr)
        (fun i _ => 2 + t - (intOf i).toNat)
      case atStart => exact ⟨0, As, cs, ls, by omega, rfl, S1.out⟩
      case round =>
        clear S1
        obtain ⟨k, A2, c2, l2, hk, rfl, hst⟩ := hrel
        by_cases hk2 : k < 2 + t
        · have S0 := Lib.hid hst; clear hst
          have c0 : wr.cell? ⟨s, 1, none⟩ = some (.slice A2 (ns + k) c2) := S0.out.b.cell 1
          have SD := Lib.hid (S0.out.below (Below.refl wr.heap.size wr).drew)
          have g1 : IntKind.i64.wrap (120 * (k : Int)) = 120 * (k : Int) := wrap_in _ (by omega) (by omega)
          have g2 : IntKind.i64.wrap (20 * (j : Int)) = 20 * (j : Int) := wrap_in _ (by omega) (by omega)
          have g3 : IntKind.i64.wrap (120 * (k : Int) + 20 * (j : Int)) = 120 * (k : Int) + 20 * (j : Int) := wrap_in _ (by omega) (by omega)
          have g4 : IntKind.i64.wrap (4 * (j : Int)) = 4 * (j : Int) := wrap_in _ (by omega) (by omega)
          go_wp2_with fail
          go_region_law (first
            | (refine step_append_sl _ (by rfl) _ _ 24 (by rfl) (s + 1) 76 i0 _ 4 32 Tryd.underlying24 hi hy0 hy1 hy2 rfl (by omega) A2 (ns + k) c2 _ (by rfl) SC.out.o (wB.heap.size + 1) _ 1 1 [.int .i64 (j : Int), .int .i64 (ang (120 * (k : Int) + 20 * (j : Int))), .int .i64 (10 - 4 * (j : Int) * (ta : Int)), .int .i64 (tb : Int)] (by rfl) (Sl.one4 wB _ _ _ _ _) (by simp [Value.oneCell']) (by omega) (by omega) (by simp; omega) ?_; intro A3 c3 w3 hown3 hg3 hat3; have SF := Lib.hid (SC.out.more hown3 hg3 HX.out); have d1 : w3.cell? ⟨s, 1, none⟩ = some (.slice A2 (ns + k) c2) := (SC.out.b.grown SC.out.o hg3 (by omega)).cell 1; have f1 := (SC.out.b.grown SC.out.o hg3 (by omega)).frozen 1; clear hown3 hg3 hat3)
            | (go_simp; go_at_call 70; refine (sang _ _).mono ?_; rintro e w' ⟨rfl, rfl⟩)
            | (go_simp; go_at_call 52; refine (dbelow _ _ _ _ _ _ SD.out.dr.cur (by omega)).mono ?_; rintro e wA ⟨⟨ta, hxA, rfl⟩, cA, uA⟩; have hta := hxA.1 (by omega); have SA := Lib.hid (SD.out.call cA uA); have cA0 : wA.cell? ⟨s, 1, none⟩ = some (.slice A2 (ns + k) c2) := SA.out.b.cell 1; have g5 : IntKind.i64.wrap (4 * (j : Int) * (ta : Int)) = 4 * (j : Int) * (ta : Int) := wrap_in _ (by have := mul_small j ta hlt2 (by omega); omega) (by have := mul_small j ta hlt2 (by omega); omega); have g6 : IntKind.i64.wrap (10 - 4 * (j : Int) * (ta : Int)) = 10 - 4 * (j : Int) * (ta : Int) := wrap_in _ (by have := mul_small j ta hlt2 (by omega); omega) (by have := mul_small j ta hlt2 (by omega); omega); clear hxA cA uA)
            | (go_simp; go_at_call 52; refine (dbelow _ _ _ _ _ _ SA.out.dr.cur (by omega)).mono ?_; rintro e wB ⟨⟨tb, hxB, rfl⟩, cB, uB⟩; have htb := hxB.1 (by omega); have SB := Lib.hid (SA.out.call cB uB); have cB0 : wB.cell? ⟨s, 1, none⟩ = some (.slice A2 (ns + k) c2) := SB.out.b.cell 1; have SC := Lib.hid (SB.out.below ((Below.refl wB.heap.size wB).alloc (Nat.le_refl _) (.cells #[.int .i64 (j : Int), .int .i64 (ang (120 * (k : Int) + 20 * (j : Int))), .int .i64 (10 - 4 * (j : Int) * (ta : Int)), .int .i64 (tb : Int)] 76))); have HX : Hid (Oke ⟨j, ang (120 * (k : Int) + 20 * (j : Int)), 10 - 4 * (j : Int) * (ta : Int), tb⟩) := Lib.hid (oke (j64 (by omega) (by omega)) (j64 (by have := ang_lo (120 * (k : Int) + 20 * (j : Int)); omega) (by have := ang_hi (120 * (k : Int) + 20 * (j : Int)); omega)) (j64 (by have := mul_small j ta hlt2 (by omega); omega) (by have := mul_small j ta hlt2 (by omega); omega)) (j64 (by omega) (by omega)) (by omega)); have hsB := SB.out.b.lt; clear hxB cB uB))
          all_goals
            clear S0 SD SC
            go_wp2
            go_roundw
            case rel => exact ⟨k + 1, A3, c3, _, by omega, by go_num, SF.out⟩
            case measure => simp [intOf]; omega
        · have S2 := Lib.hid hst; clear hst
          go_wp2
          go_roundw
          case rel => exact ⟨j + 1, A2, ns + k, c2, l2, by omega, by go_num, by omega, by omega, S2.out⟩
          case measure => simp [intOf]; omega
    · have S2 := Lib.hid hst; clear hst
      obtain rfl : j = 2 := by omega
      have G0 := Lib.hid S2.out.g
      clear S2 hj
      go_wp2_with fail
      refine (dbelow _ _ _ _ _ _ G0.out.dr.cur (by omega)).mono ?_
      rintro e wa ⟨⟨y1, hx, rfl⟩, c1, u1⟩
      have hy1' := hx.1 (by omega)
      have G1 := Lib.hid (G0.out.call c1 u1)
      clear hx c1 u1 G0
      go_wp2_with fail
      refine (dbelow _ _ _ _ _ _ G1.out.dr.cur (by omega)).mono ?_
      rintro e wb ⟨⟨y2, hx, rfl⟩, c1, u1⟩
      have hy2' := hx.1 (by omega)
      have G2 := Lib.hid (G1.out.call c1 u1)
      clear hx c1 u1 G1
      go_wp2_with fail
      refine (dbelow _ _ _ _ _ _ G2.out.dr.cur (by omega)).mono ?_
      rintro e wc ⟨⟨y3, hx, rfl⟩, c1, u1⟩
      have hy3' := hx.1 (by omega)
      have G3 := Lib.hid (G2.out.call c1 u1)
      clear hx c1 u1 G2
      have G4 := Lib.hid (G3.out.alloc (.cells #[.int .i64 0, .int .i64 (10 * (y1 : Int)), .int .i64 y2, .int .i64 1, .int .i64 (180 + 10 * (y3 : Int)), .int .i64 0] 102))
      have O4 : Hid (Own (wc.alloc (.cells #[.int .i64 0, .int .i64 (10 * (y1 : Int)), .int .i64 y2, .int .i64 1, .int .i64 (180 + 10 * (y3 : Int)), .int .i64 0] 102)) (s + 1) 102 3 (some ⟨wc.heap.size, 0, none⟩) 2 2 (fl c3 [⟨0, 10 * (y1 : Int), y2⟩, ⟨1, 180 + 10 * (y3 : Int), 0⟩])) :=
        Lib.hid ⟨World.ownsRow_lit wc (#[.int .i64 0, .int .i64 (10 * (y1 : Int)), .int .i64 y2, .int .i64 1, .int .i64 (180 + 10 * (y3 : Int)), .int .i64 0]) 2 (by have := G3.out.b.lt; omega) (by unfold maxLen; omega) rfl⟩
      have g5 := (G4.out.set2 O4.out (by
        intro x hx
        simp at hx
        rcases hx with rfl | rfl
        · exact ⟨j64 (by simp) (by simp), j64 (by simp only; omega) (by simp only; omega), j64 (by simp only; omega) (by simp only; omega)⟩
        · exact ⟨j64 (by simp) (by simp), j64 (by simp only; omega) (by simp only; omega), j64 (by simp) (by simp)⟩))
      have hls := G3.out.b.lt
      rw [World.setCell_alloc_past _ _ _ _ hls] at g5
      have G5 := Lib.hid g5
      have d2 : wc.cell? ⟨s, 2, none⟩ = some (.slice none 0 0) := G3.out.b.cell 2
      have e2 := G3.out.b.frozen 2
      have HP1 := Lib.hid (G3.out.o.s.notAt (Nat.le_refl _))
      clear G3 G4 O4 g5
      go_wp2_with fail
      refine (donce _ _ _ _ _ _ G5.out.dr.cur (by omega)).mono ?_
      rintro e wd ⟨⟨b, rfl⟩, c1, u1⟩
      have G6 := Lib.hid (G5.out.call c1 u1)
      clear c1 u1 G5 d2 e2 hls
      cases b
      · have G9 := G6
        clear G6
        obtain ⟨hcs, -, hr, hf⟩ := G9.out.cells
        obtain ⟨c0, c1, c2, c3, c4, c5, c6, c7, c8, c9⟩ := hcs
        obtain ⟨r0, r1, r2, r3, r4, r5, r6, r7, r8, r9⟩ := hr
        obtain ⟨f0, f1, f2, f3, f4, f5, f6, f7, f8, f9⟩ := hf
        have KF := Lib.hid G9.out.fin
        have HK := Lib.hid (And.intro G9.out.ks G9.out.ki)
        have hlt9 := G9.out.lt
        clear G9
        go_wp2
        obtain ⟨k0, k1, k2, k3, k4, k5, k6, k7, k8, k9⟩ := KF.out.1.ten
        refine bodyPost_ret (v := .agg #[.int .i64 2, .slice As ns cs, .slice (some ⟨wc.heap.size, 0, none⟩) 2 2, .int .i64 (120 + 10 * (x1 : Int)), .int .i64 (30 + 10 * (x2 : Int)), .int .i64 (50 + 10 * (x3 : Int)), .int .i64 x4, .int .i64 60, .slice none 0 0, .int .i64 x5]) (by simp [results, Tryd.results51, go_sem, k0, k1, k2, k3, k4, k5, k6, k7, k8, k9]) rfl ?_
        exact ⟨⟨_, _, _, _, _, _, _, _, _, _, _, _, _, _, _, _, _, _, _, rfl, KF.out.2.2.fewer (by omega), ⟨by omega, by omega, rfl, by omega⟩, ⟨HP1.out.apart, Apart.none_ _, Apart.none_ _⟩, HJ.out, HK.out.1, HK.out.2⟩, KF.out.2.1.cur, KF.out.2.1.turn⟩
      · go_wp2_with fail
        refine (dbelow _ _ _ _ _ _ G6.out.dr.cur (by omega)).mono ?_
        rintro e we ⟨⟨z1, hx, rfl⟩, c1, u1⟩
        have hz1' := hx.1 (by omega)
        have G7 := Lib.hid (G6.out.call c1 u1)
        clear hx c1 u1 G6
        go_wp2_with fail
        refine (dbelow _ _ _ _ _ _ G7.out.dr.cur (by omega)).mono ?_
        rintro e wf ⟨⟨z2, hx, rfl⟩, c1, u1⟩
        have hz2' := hx.1 (by omega)
        have G8 := Lib.hid (G7.out.call c1 u1)
        clear hx c1 u1 G7
        go_wp2_with fail
        refine (dbelow _ _ _ _ _ _ G8.out.dr.cur (by omega)).mono ?_
        rintro e wg ⟨⟨z3, hx, rfl⟩, c1, u1⟩
        have hz3' := hx.1 (by omega)
        have Ga := Lib.hid (G8.out.call c1 u1)
        clear hx c1 u1 G8
        have Gb := Lib.hid (Ga.out.alloc (.cells #[.int .i64 z1, .int .i64 (10 * (z2 : Int)), .int .i64 (10 * (z3 : Int))] 117))
        have Ob : Hid (Own (wg.alloc (.cells #[.int .i64 z1, .int .i64 (10 * (z2 : Int)), .int .i64 (10 * (z3 : Int))] 117)) (s + 1) 117 3 (some ⟨wg.heap.size, 0, none⟩) 1 1 (fl c3 [⟨z1, 10 * (z2 : Int), 10 * (z3 : Int)⟩])) :=
          Lib.hid ⟨World.ownsRow_lit wg (#[.int .i64 z1, .int .i64 (10 * (z2 : Int)), .int .i64 (10 * (z3 : Int))]) 1 (by have := Ga.out.b.lt; omega) (by unfold maxLen; omega) rfl⟩
        have g9 := Gb.out.set8 Ob.out
        have hls := Ga.out.b.lt
        rw [World.setCell_alloc_past _ _ _ _ hls] at g9
        have d8 : wg.cell? ⟨s, 8, none⟩ = some (.slice none 0 0) := Ga.out.b.cell 8
        have e8 := Ga.out.b.frozen 8
        have G9 := Lib.hid g9
        have HP2 := Lib.hid (Ga.out.o.s.notAt (Nat.le_refl _))
        have HP3 := Lib.hid (Ga.out.o.i.notAt (Nat.le_refl _))
        clear Ga Gb Ob g9
        go_upto_region 13 with fail
        obtain ⟨W9, hW9⟩ : ∃ W, W = (wg.setCell ⟨s, 8, none⟩ (.slice (some ⟨wg.heap.size, 0, none⟩) 1 1)).alloc (.cells #[.int .i64 z1, .int .i64 (10 * (z2 : Int)), .int .i64 (10 * (z3 : Int))] 117) := ⟨_, rfl⟩
        rw [← hW9] at G9
        rw [← hW9]
        clear hW9 d8 e8 hls
        obtain ⟨hcs, -, hr, hf⟩ := G9.out.cells
        obtain ⟨c0, c1, c2, c3, c4, c5, c6, c7, c8, c9⟩ := hcs
        obtain ⟨r0, r1, r2, r3, r4, r5, r6, r7, r8, r9⟩ := hr
        obtain ⟨f0, f1, f2, f3, f4, f5, f6, f7, f8, f9⟩ := hf
        have KF := Lib.hid G9.out.fin
        have HK := Lib.hid (And.intro G9.out.ks G9.out.ki)
        have hlt9 := G9.out.lt
        clear G9
        go_wp2
        obtain ⟨k0, k1, k2, k3, k4, k5, k6, k7, k8, k9⟩ := KF.out.1.ten
        refine bodyPost_ret (v := .agg #[.int .i64 2, .slice As ns cs, .slice (some ⟨wc.heap.size, 0, none⟩) 2 2, .int .i64 (120 + 10 * (x1 : Int)), .int .i64 (30 + 10 * (x2 : Int)), .int .i64 (50 + 10 * (x3 : Int)), .int .i64 x4, .int .i64 60, .slice (some ⟨wg.heap.size, 0, none⟩) 1 1, .int .i64 x5]) (by simp [results, Tryd.results51, go_sem, k0, k1, k2, k3, k4, k5, k6, k7, k8, k9]) rfl ?_
        exact ⟨⟨_, _, _, _, _, _, _, _, _, _, _, _, _, _, _, _, _, _, _, rfl, KF.out.2.2.fewer (by omega), ⟨by omega, by omega, rfl, by omega⟩, ⟨HP1.out.apart, HP2.out.apart, HP3.out.apart⟩, HJ.out, HK.out.1, HK.out.2⟩, KF.out.2.1.cur, KF.out.2.1.turn⟩
end Go.Proofs.YtpaedbmdcbmpiaaDoor
