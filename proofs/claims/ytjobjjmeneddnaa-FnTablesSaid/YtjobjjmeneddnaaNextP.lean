/- The program's paths.nextOf and NextTo. -/
import Derived.Test.YtjobjjmeneddnaaDistP
import Derived.Test.YtjobjjmeneddnaaRouteFacts
import Derived.Test.YtjobjjmeneddnaaApart
import Derived.Test.YtjobjjmeneddnaaNextM
namespace Go.Proofs.Ytjobjjmeneddnaa
open Go.ChangeShapes Go.WideShapes Go.ChangeAt Go.RowKit
set_option linter.unusedVariables false
theorem below_drawnP {B : Nat} {a w : World} (h : Below B a w) (n : Nat) : Below B a (w.drewN n) := ⟨h.os, h.tape, h.output, h.size, h.block⟩
/-- the program does not ask whether there is a path -/
theorem IsDist.next_find {L : List (Int × Int)} {n : Nat} {f dst : Int} {d : List Int} (h : IsDist L n f dst d) (i : Int) : nextAt L f dst d i = ((nbL L i).find? (okN f dst d i)).getD (-1) := by
  unfold nextAt
  split
  · rfl
  · rename_i hi
    have e : (nbL L i).find? (okN f dst d i) = none := by
      rw [List.find?_eq_none]
      intro x hx hok
      have hok2 : (0 ≤ x ∧ x < d.length) ∧ Rel f dst x ∧ atD d x = atD d i - 1 := of_decide_eq_true hok
      obtain ⟨hx1, hr, hd⟩ := hok2
      have h1 := h.low x; have h2 := h.low i
      have h3 : atD d i = 0 := by omega
      have h4 := (h.zero i).1 h3
      rw [h.len] at hx1
      have h5 := h.edge x i hx1.1 hx1.2 hx (by omega) (.inr h4)
      omega
    rw [e]; rfl
set_option maxRecDepth 100000 in
set_option maxHeartbeats 2000000 in
theorem inextof (w : World) (D D' : Nat) (A A' : Option Addr) (n c N c' : Nat) (l : List (Int × Int)) (d : List Int) (h : Sl w D 2 A n c (sv l)) (hD : D ≤ w.heap.size) (hn : n ≤ 16777216) (f dst : Int) (h' : Sl w D' 1 A' N c' (iv d)) (hD' : D' ≤ w.heap.size)
    (hd : IsDist l N f dst d) (hN : N ≤ 12) (i : Nat) (hi : i < N) (z : Int) (hz : nextAt l f dst d i = z) :
    Calls Try.prog 73 #[.agg #[.slice A n c, .int .i64 f, .int .i64 dst, .slice A' N c'], .int .i64 (i : Nat)] w fun e w' => e = .returned (.int .i64 z) ∧ Below w.heap.size w w' := by
  obtain ⟨W0, hW0⟩ : ∃ W, W = w.alloc (.cells (pcells A n c f dst A' N c') 90) := ⟨_, rfl⟩
  obtain ⟨s0, hs0⟩ : ∃ s, s = w.heap.size := ⟨_, rfl⟩
  have hblk : Blk W0 s0 90 (pcells A n c f dst A' N c') := by rw [hW0, hs0]; exact Blk.new _ _ _
  have hb0 : Below w.heap.size w W0 := by rw [hW0]; exact (Below.refl _ _).alloc (Nat.le_refl _) _
  have HB0 := Lib.hid hb0; have HP0 := Lib.hid hblk
  have HS0 : Hid (Sl W0 D 2 A n c (sv l)) := Lib.hid (h.below hb0 hD)
  have HD0 : Hid (Sl W0 D' 1 A' N c' (iv d) ∧ D' ≤ W0.heap.size) := Lib.hid ⟨h'.below hb0 hD', by have := hb0.size; omega⟩
  have hD0 : D ≤ W0.heap.size := by have := hb0.size; omega
  have e0 : W0.cell? ⟨s0, 0, none⟩ = some (.slice A n c) := hblk.cell 0
  have HIS := Lib.hid hd
  have HZ : Hid (((nbL l i).find? (okN f dst d i)).getD (-1) = z) := Lib.hid (by rw [← hd.next_find]; exact hz)
  have hdl : d.length = N := hd.len
  have hal : i < d.length := by omega
  have hlow := hd.low i
  have hup : atD d i < N := by
    by_cases h1 : 0 ≤ atD d i
    · exact hd.lt i h1
    · omega
  obtain ⟨va, hva⟩ : ∃ v, v = atD d i := ⟨_, rfl⟩
  rw [← hva] at hlow hup
  have HVA := Lib.hid hva
  unfold pcells at hW0
  clear hblk hb0 h h' hd hz hva
  go_enter Try.func73, Try.ntmps73
  go_wp2_with fail
  rw [← hW0, ← hs0]
  have HSE := Lib.hid hs0
  clear hW0 hs0
  go_wp2_with fail
  refine (inb W0 D A n c l HS0.out hD0 hn i).mono ?_
  rintro e w1 ⟨A1, n1, c1, rfl, o1, b1⟩
  obtain ⟨NB, hNB⟩ : ∃ x, x = nbL l i := ⟨_, rfl⟩
  rw [← hNB] at o1 HZ
  obtain rfl : n1 = NB.length := by have h1 := o1.len; rw [iv_len] at h1; omega
  have HNB := Lib.hid hNB
  have hnl : NB.length ≤ 9223372036854775807 := by have := o1.capm; omega
  obtain ⟨QQ, hQQ⟩ : ∃ Q : World → Prop, Q = fun wx => Below w1.heap.size w1 wx := ⟨_, rfl⟩
  have HQ1 : Hid (∀ a b, QQ a → Below a.heap.size a b → QQ b) := Lib.hid fun a b ha hb => by rw [hQQ] at ha ⊢; exact ha.trans (hb.mono ha.size)
  have HC : Hid (∀ wx, QQ wx → (wx.cell? ⟨s0, 0, none⟩ = some (.slice A n c) ∧ wx.cell? ⟨s0, 1, none⟩ = some (.int .i64 f) ∧ wx.cell? ⟨s0, 2, none⟩ = some (.int .i64 dst) ∧ wx.cell? ⟨s0, 3, none⟩ = some (.slice A' N c')) ∧ Sl wx D' 1 A' N c' (iv d) ∧ Sl wx wx.heap.size 1 A1 NB.length c1 (iv NB) ∧ Below w.heap.size w wx) := Lib.hid fun wx hx => by
    rw [hQQ] at hx
    have h0 := (HP0.out.below b1 HP0.out.lt).below hx (by have := HP0.out.lt; have := b1.size; omega)
    exact ⟨⟨h0.cell 0, h0.cell 1, h0.cell 2, h0.cell 3⟩, (HD0.out.1.below b1 HD0.out.2).below hx (by have := HD0.out.2; have := b1.size; omega), (o1.on hx).sl, (HB0.out.trans (b1.mono HB0.out.size)).trans (hx.mono (by have := HB0.out.size; have := b1.size; omega))⟩
  have HQ0 : Hid (QQ w1) := Lib.hid (by rw [hQQ]; exact Below.refl _ _)
  clear b1 o1 hNB hQQ HP0 HB0 HS0 HD0 e0 hD0
  go_wp2_with fail
  go_loopw [13] (fun i_ wr => ∃ (j : Nat), j ≤ NB.length ∧ i_ = .int .i64 j ∧ (∀ y ∈ NB.take j, okN f dst d i y = false) ∧ QQ wr) (fun i_ _ => NB.length - (intOf i_).toNat)
  case atStart => exact ⟨0, Nat.zero_le _, rfl, (fun y hy => by cases hy), HQ0.out⟩
  case round =>
    clear HQ0
    obtain ⟨j, hj, rfl, hno, hq⟩ := hrel
    have HNO := Lib.hid hno; have HQ := Lib.hid hq
    clear hno hq
    obtain ⟨⟨e0, e1, e2, e3⟩, hsd, hsn, hbw⟩ := HC.out wr HQ.out
    by_cases hlt : j < NB.length
    case neg =>
      obtain rfl : j = NB.length := by omega
      have HR : Hid (z = -1) := Lib.hid (by
        have e : NB.find? (okN f dst d i) = none := List.find?_eq_none.2 fun y hy h => by
          have h1 := HNO.out y (by rw [List.take_length]; exact hy)
          rw [h1] at h; cases h
        rw [← HZ.out, e]; rfl)
      have HBW := Lib.hid hbw
      clear e0 e1 e2 e3 hsd hsn hbw
      go_wp2_with fail
      go_ret
      exact ⟨by rw [HR.out]; rfl, HBW.out⟩
    case pos =>
      have hkl : (j : Int) < (NB.length : Int) := by omega
      obtain ⟨ad, hx0, hA1, had, q1⟩ := hsn.int hlt
      subst hA1
      have HTK : Hid (NB.take (j + 1) = NB.take j ++ [NB[j]]) := Lib.hid (List.take_succ_eq_append_getElem hlt)
      have HFD : Hid (okN f dst d i NB[j] = true → NB.find? (okN f dst d i) = some NB[j]) := Lib.hid fun h => by
        have e : NB = NB.take j ++ NB[j] :: NB.drop (j + 1) := (List.take_append_drop j NB).symm.trans (by rw [List.drop_eq_getElem_cons hlt])
        rw [List.find?_eq_some_iff_append]
        exact ⟨h, NB.take j, NB.drop (j + 1), e, fun a ha => by rw [HNO.out a ha]; rfl⟩
      obtain ⟨x, hxx⟩ : ∃ x, x = NB[j] := ⟨_, rfl⟩
      rw [← hxx] at q1 HTK HFD
      have HNO2 : Hid (okN f dst d i x = false → ∀ y ∈ NB.take (j + 1), okN f dst d i y = false) := Lib.hid fun h y hy => by
        rw [HTK.out] at hy
        rcases List.mem_append.1 hy with hy | hy
        · exact HNO.out y hy
        · obtain rfl := List.mem_singleton.1 hy
          exact h
      have HYES : Hid (okN f dst d i x = true → x = z) := Lib.hid fun h => by rw [← HZ.out, HFD.out h]; rfl
      clear hxx hsd hsn hbw HTK HFD HNO
      obtain ⟨mg, hmg⟩ : ∃ mg, decide (Rel f dst x) = mg := ⟨_, rfl⟩
      have HMG := Lib.hid hmg
      clear hmg
      go_upto_region 4 with fail
      go_cut [7] from 17 to 26 (fun v wx => v = .bool mg ∧ wx = wr)
      case first =>
        by_cases h1 : x < f
        · obtain rfl : mg = true := by rw [← HMG.out]; exact decide_eq_true (.inl h1)
          go_wp2_with fail
          go_meet
          exact ⟨rfl, rfl⟩
        · by_cases h2 : x = dst
          · subst h2
            obtain rfl : mg = true := by rw [← HMG.out]; exact decide_eq_true (.inr rfl)
            go_wp2_with fail
            go_meet
            exact ⟨rfl, rfl⟩
          · obtain rfl : mg = false := by rw [← HMG.out]; exact decide_eq_false (fun h => by rcases h with h | h; exact h1 h; exact h2 h)
            have h3 : (x == dst) = false := by simpa using h2
            go_wp2_with fail
            go_meet
            exact ⟨rfl, rfl⟩
      case rest =>
        obtain ⟨rfl, rfl⟩ := hcut
        clear q1 e0 e1 e2 e3
        cases mg
        case false =>
          have HN := Lib.hid (HNO2.out (decide_eq_false fun h => (of_decide_eq_false HMG.out) h.2.1))
          go_upto_region 5 with fail
          go_quiet (fail)
          have HQ2 := Lib.hid (HQ1.out _ _ HQ.out (below_drawnP (Below.refl _ _) nq))
          go_wp2_with fail
          go_roundw
          case rel => exact ⟨j + 1, by omega, by go_num, HN.out, HQ2.out⟩
          case measure => simp [intOf]; omega
        case true =>
          obtain ⟨b, hbb⟩ : ∃ b, isN N x = b := ⟨_, rfl⟩
          have HBX := Lib.hid hbb
          clear hbb
          have s0' : ∀ x : Wld QQ, x.w.cell? ⟨s0, 0, none⟩ = some (.slice A n c) := fun x => (HC.out _ x.h).1.1
          have s1' : ∀ x : Wld QQ, x.w.cell? ⟨s0, 1, none⟩ = some (.int .i64 f) := fun x => (HC.out _ x.h).1.2.1
          have s2' : ∀ x : Wld QQ, x.w.cell? ⟨s0, 2, none⟩ = some (.int .i64 dst) := fun x => (HC.out _ x.h).1.2.2.1
          have s3' : ∀ x : Wld QQ, x.w.cell? ⟨s0, 3, none⟩ = some (.slice A' N c') := fun x => (HC.out _ x.h).1.2.2.2
          cases b
          case false =>
            have HN := Lib.hid (HNO2.out (decide_eq_false fun h => by have h1 := (isN_iff N x).2 ⟨h.1.1, by have := h.1.2; omega⟩; rw [HBX.out] at h1; cases h1))
            go_upto_region 5 with fail
            have hne : Nonempty (Wld QQ) := ⟨⟨_, HQ.out⟩⟩
            refine wp_region_quiet_cls (C := fun w' => ∃ x : Wld QQ, w' = x.w) (by kernel_rfl) (by kernel_rfl) ⟨⟨_, HQ1.out _ _ HQ.out (Below.refl _ _).drew⟩, rfl⟩ ?_
            repeat (go_big_quiet_step (first
              | (go_at_call 81; rename_i xw; refine (ipnode xw.w A A' n c N c' f dst x (by omega) false HBX.out).mono ?_; rintro e w' ⟨rfl, hb⟩; exact ⟨rfl, ⟨⟨_, HQ1.out _ _ xw.h hb⟩, rfl⟩⟩)))
            refine wpQuiet_nil ?_
            rintro _ ⟨⟨wq, hwq⟩, rfl⟩
            clear s0' s1' s2' s3' hne
            go_wp2_with fail
            go_roundw
            case rel => exact ⟨j + 1, by omega, by go_num, HN.out, hwq⟩
            case measure => simp [intOf]; omega
          case true =>
            obtain ⟨hx0, hx1⟩ := (isN_iff N x).1 HBX.out
            obtain ⟨xi, rfl⟩ : ∃ xi : Nat, (xi : Int) = x := ⟨x.toNat, by omega⟩
            have hxl : xi < d.length := by omega
            have hxN : xi < N := by omega
            obtain ⟨ad2, hy0, hA2, had2, hz9⟩ := (HC.out _ HQ.out).2.1.int hxN
            subst hA2
            have g1 : ∀ x : Wld QQ, x.w.cell? (ad2.add xi) = some (.int .i64 (atD d xi)) := fun x => by
              obtain ⟨ad3, _, e3, _, h3⟩ := (HC.out _ x.h).2.1.int hxN
              injection e3 with e3
              subst e3
              rw [atD_nat d xi hxl]; exact h3
            have g2 : ∀ x : Wld QQ, x.w.cell? (ad2.add i) = some (.int .i64 va) := fun x => by
              obtain ⟨ad3, _, e3, _, h3⟩ := (HC.out _ x.h).2.1.int hi
              injection e3 with e3
              subst e3
              rw [HVA.out, atD_nat d i hal]; exact h3
            obtain ⟨vx, hvx⟩ : ∃ v, v = atD d xi := ⟨_, rfl⟩
            rw [← hvx] at g1
            have HVX := Lib.hid hvx
            have hvb : wrap64 (va - 1) = va - 1 := by unfold wrap64; omega
            have hvc : IntKind.i64.wrap (va - 1) = va - 1 := by rw [IntKind.wrap_i64]; omega
            have hxN2 : (xi : Int) < (N : Int) := by omega
            have hiN2 : (i : Int) < (N : Int) := by omega
            clear hz9 hvx hy0 had2
            by_cases hv : vx = va - 1
            case pos =>
              have HY := Lib.hid (HYES.out (decide_eq_true ⟨⟨hx0, by omega⟩, of_decide_eq_true HMG.out, by rw [← HVX.out, ← HVA.out]; exact hv⟩))
              subst hv
              go_upto_region 5 with fail
              have hne : Nonempty (Wld QQ) := ⟨⟨_, HQ.out⟩⟩
              refine wp_region_quiet_cls (C := fun w' => ∃ x : Wld QQ, w' = x.w) (by kernel_rfl) (by kernel_rfl) ⟨⟨_, HQ1.out _ _ HQ.out (Below.refl _ _).drew⟩, rfl⟩ ?_
              repeat (go_big_quiet_step (first
                | (go_at_call 81; rename_i xw; refine (ipnode xw.w A (some ad2) n c N c' f dst xi (by omega) true HBX.out).mono ?_; rintro e w' ⟨rfl, hb⟩; exact ⟨rfl, ⟨⟨_, HQ1.out _ _ xw.h hb⟩, rfl⟩⟩)))
              refine wpQuiet_nil ?_
              rintro _ ⟨⟨wq, hwq⟩, rfl⟩
              have HBW := Lib.hid (HC.out _ hwq).2.2.2
              clear s0' s1' s2' s3' hne g1 g2
              go_wp2_with fail
              go_ret
              exact ⟨by rw [HY.out]; rfl, HBW.out⟩
            case neg =>
              have HN := Lib.hid (HNO2.out (decide_eq_false fun h => hv (by rw [HVX.out, HVA.out]; exact h.2.2)))
              have hvd : (vx == va - 1) = false := by simpa using hv
              clear hv
              go_upto_region 5 with fail
              have hne : Nonempty (Wld QQ) := ⟨⟨_, HQ.out⟩⟩
              refine wp_region_quiet_cls (C := fun w' => ∃ x : Wld QQ, w' = x.w) (by kernel_rfl) (by kernel_rfl) ⟨⟨_, HQ1.out _ _ HQ.out (Below.refl _ _).drew⟩, rfl⟩ ?_
              repeat (go_big_quiet_step (first
                | (go_at_call 81; rename_i xw; refine (ipnode xw.w A (some ad2) n c N c' f dst xi (by omega) true HBX.out).mono ?_; rintro e w' ⟨rfl, hb⟩; exact ⟨rfl, ⟨⟨_, HQ1.out _ _ xw.h hb⟩, rfl⟩⟩)))
              refine wpQuiet_nil ?_
              rintro _ ⟨⟨wq, hwq⟩, rfl⟩
              clear s0' s1' s2' s3' hne g1 g2
              go_wp2_with fail
              go_roundw
              case rel => exact ⟨j + 1, by omega, by go_num, HN.out, hwq⟩
              case measure => simp [intOf]; omega
/-- the first k places hold F, the others 0 -/
def fillN (F : Nat → Int) (N k : Nat) : List Int := (List.range N).map fun j => if j < k then F j else 0
theorem fillN_len (F : Nat → Int) (N k : Nat) : (fillN F N k).length = N := by simp [fillN]
theorem fillN_all (F : Nat → Int) (N : Nat) : fillN F N N = (List.range N).map F := List.map_congr_left fun j hj => if_pos (List.mem_range.1 hj)
theorem fillN_none (F : Nat → Int) (N : Nat) : fillN F N 0 = List.replicate N 0 := by
  refine List.ext_getElem (by simp [fillN]) fun j h1 h2 => by simp [fillN]
theorem fillN_set (F : Nat → Int) (N k : Nat) (hk : k < N) : (fillN F N k).set k (F k) = fillN F N (k + 1) := by
  refine List.ext_getElem (by simp [fillN]) fun j h1 h2 => ?_
  rw [List.getElem_set]
  simp only [fillN, List.getElem_map, List.getElem_range]
  by_cases e : k = j
  · subst e; simp
  · rw [if_neg e]
    by_cases e2 : j < k
    · rw [if_pos e2, if_pos (by omega)]
    · rw [if_neg e2, if_neg (by omega)]
set_option maxRecDepth 100000 in
set_option maxHeartbeats 2000000 in
theorem inext (w : World) (D : Nat) (A : Option Addr) (n c : Nat) (l : List (Int × Int)) (h : Sl w D 2 A n c (sv l)) (hD : D ≤ w.heap.size) (hn : n ≤ 16777216) (nodes f dst : Int) (hj : J64 nodes ∧ J64 f ∧ J64 dst) :
    Calls Try.prog 41 #[.slice A n c, .int .i64 nodes, .int .i64 f, .int .i64 dst] w (GivesIM w (nextA l nodes f dst)) := by
  obtain ⟨i0, hi, hz0, hz1, hz2⟩ := info_parts intR_info
  have HS := Lib.hid h; have HJ := Lib.hid hj
  clear h hj
  go_enter Try.func41, Try.ntmps41
  go_wp2_with fail
  refine (idist w D A n c l HS.out hD hn nodes f dst HJ.out).mono ?_
  rintro e w1 ⟨A', N, c', rfl, o1, b1⟩
  have HDI := Lib.hid (distA_is l nodes f dst)
  have HDL := Lib.hid (distA_len l nodes f dst)
  have HNA : Hid (nextA l nodes f dst = (List.range (distA l nodes f dst).length).map fun i : Nat => nextAt l f dst (distA l nodes f dst) i) := Lib.hid rfl
  obtain ⟨d, hd⟩ : ∃ d, d = distA l nodes f dst := ⟨_, rfl⟩
  rw [← hd] at o1 HDI HDL HNA
  obtain rfl : N = d.length := by have h1 := o1.len; rw [iv_len] at h1; omega
  obtain ⟨N, hN⟩ : ∃ N, N = d.length := ⟨_, rfl⟩
  rw [← hN] at o1 HNA HDL ⊢
  have HNE := Lib.hid hN
  have hN12 : N ≤ 12 := HDL.out
  have HO1 := Lib.hid o1; have HB1 := Lib.hid b1
  clear o1 b1 hd hN
  go_upto_region 2 with fail
  obtain ⟨W2, hW2⟩ : ∃ W, W = w1.alloc (.cells #[.slice A n c, .int .i64 f, .int .i64 dst, .slice A' N c'] 90) := ⟨_, rfl⟩
  obtain ⟨pb, hpb⟩ : ∃ p, p = w1.heap.size := ⟨_, rfl⟩
  rw [← hW2, ← hpb]
  have b2 : Below w1.heap.size w1 W2 := by rw [hW2]; exact (Below.refl _ _).alloc (Nat.le_refl _) _
  have HP2 : Hid (Blk W2 pb 90 (pcells A n c f dst A' N c')) := Lib.hid (by rw [hW2, hpb]; exact Blk.new _ _ _)
  have HO2 := Lib.hid (HO1.out.on b2)
  have HB2 : Hid (Below w.heap.size w W2) := Lib.hid (HB1.out.trans (b2.mono HB1.out.size))
  have HPB : Hid (pb < W2.heap.size) := Lib.hid HP2.out.lt
  have e3 : W2.cell? ⟨pb, 3, none⟩ = some (.slice A' N c') := HP2.out.cell 3
  clear b2 hW2 hpb HO1 HB1
  go_upto_region 3 with (at_make; refine wpList_make_full _ rfl _ _ 27 rfl W2.heap.size 3 i0 (.int .i64 0) 1 Try.underlying27 hi hz0 hz1 .i64 .i64 _ _ N rfl rfl rfl rfl (by rw [hz2]; omega) (by unfold maxLen; omega) (Nat.le_refl _) ?_; intro w3 hown hgrow)
  have HOW : Hid (Own w3 W2.heap.size 3 1 (some ⟨W2.heap.size, 0, none⟩) N N (iv (fillN (fun i => nextAt l f dst d i) N 0))) := Lib.hid (by
    rw [show (Value.int .i64 0).cells = #[Value.int .i64 0] from rfl, toList_madeCells_one, Nat.mul_one] at hown
    rw [fillN_none]
    have h1 : Own w3 W2.heap.size 3 1 (some ⟨W2.heap.size, 0, none⟩) N N _ := ⟨hown⟩
    simpa [iv] using h1)
  obtain ⟨gn, hgn⟩ : ∃ g, g = W2.heap.size := ⟨_, rfl⟩
  have HGN : Hid (gn = W2.heap.size ∧ gn < w3.heap.size) := Lib.hid ⟨hgn, by
    rcases HOW.out.form with ⟨h1, _⟩ | ⟨g', h1, _, h2, _⟩
    · cases h1
    · injection h1 with h1; cases h1; rw [hgn]; exact h2⟩
  rw [← hgn] at HOW ⊢
  have b3 : Below W2.heap.size W2 w3 := (Below.refl _ _).grown hgrow (Nat.le_refl _) (fun k hk => by cases hk)
  have HP3 := Lib.hid (HP2.out.below b3 HP2.out.lt)
  have HO3 := Lib.hid (HO2.out.on b3)
  have HB3 : Hid (Below w.heap.size w w3) := Lib.hid (HB2.out.trans (b3.mono HB2.out.size))
  have HON : Hid (Own w3 w.heap.size 3 1 (some ⟨gn, 0, none⟩) N N (iv (fillN (fun i => nextAt l f dst d i) N 0))) := Lib.hid (HOW.out.fewer (by have := HB2.out.size; have := HGN.out; omega))
  have HLO : Hid (w.heap.size ≤ gn ∧ pb < gn) := Lib.hid (by have := HB2.out.size; have := HGN.out; have := HPB.out; omega)
  -- what a round reads
  have HRD : Hid (∀ wr, Turn gn w3 wr → Blk wr pb 90 (pcells A n c f dst A' N c') ∧ Sl wr wr.heap.size 1 A' N c' (iv d) ∧ Sl wr D 2 A n c (sv l) ∧ D ≤ wr.heap.size) := Lib.hid fun wr ht =>
    ⟨ht.blk HP3.out (by have := HLO.out; omega), (HO3.out.kept ht.grownBy (by
      rcases HO2.out.blk with h1 | ⟨g', h1, _, h2⟩
      · exact .inl h1
      · right; rw [h1]; have := HGN.out; simp; omega)).sl, HS.out.below (HB3.out.trans ((ht.below HGN.out.2).mono HLO.out.1)) hD, by have := HB3.out.size; have := ht.size; omega⟩
  clear hown hgrow hgn b3 HOW HP2 HO2 HB2 e3 HP3 HO3 hi hz0 hz1 hz2
  go_wp2_with fail
  go_loopw [27] (fun i_ wr => ∃ k : Nat, k ≤ N ∧ i_ = .int .i64 k ∧ Own wr w.heap.size 3 1 (some ⟨gn, 0, none⟩) N N (iv (fillN (fun i => nextAt l f dst d i) N k)) ∧ Turn gn w3 wr) (fun i_ _ => N - (intOf i_).toNat)
  case atStart => exact ⟨0, Nat.zero_le _, rfl, HON.out, Turn.refl _ _⟩
  case round =>
    clear HON
    obtain ⟨k, hk, rfl, ho, ht⟩ := hrel
    have HO := Lib.hid ho; have HT := Lib.hid ht
    clear ho ht
    by_cases hlt : k < N
    case neg =>
      obtain rfl : k = N := by omega
      have HF : Hid (GivesIM w (nextA l nodes f dst) (.returned (.slice (some ⟨gn, 0, none⟩) k k)) wr) := Lib.hid ⟨_, _, _, rfl, by
        rw [HNA.out, ← fillN_all]; exact HO.out, HB3.out.trans ((HT.out.below HGN.out.2).mono HLO.out.1)⟩
      clear HO HT HRD hlt hk
      go_wp2_with fail
      go_ret
      exact HF.out
    case pos =>
      obtain ⟨hp, hs1, hs2, hs3⟩ := HRD.out wr HT.out
      have HIS : Hid (IsDist l N f dst d) := Lib.hid (by
        rcases HDI.out with h1 | ⟨h1, h2⟩
        · have := HNE.out; rw [h1] at this; simp at this; omega
        · have h3 := h2.len
          rw [HNE.out, h3]; exact h2)
      have e0 : wr.cell? ⟨pb, 0, none⟩ = some (.slice A n c) := hp.cell 0
      have e1 : wr.cell? ⟨pb, 1, none⟩ = some (.int .i64 f) := hp.cell 1
      have e2 : wr.cell? ⟨pb, 2, none⟩ = some (.int .i64 dst) := hp.cell 2
      have e3 : wr.cell? ⟨pb, 3, none⟩ = some (.slice A' N c') := hp.cell 3
      have H1 := Lib.hid hs1; have H2 := Lib.hid hs2
      obtain ⟨z, hz⟩ : ∃ z, nextAt l f dst d k = z := ⟨_, rfl⟩
      have HZ := Lib.hid hz
      have hkN : (k : Int) < (N : Int) := by omega
      clear hp hs1 hs2 hz
      go_wp2_with fail
      refine (inextof wr D wr.heap.size A A' n c N c' l d H2.out hs3 hn f dst H1.out (Nat.le_refl _) HIS.out hN12 k hlt z HZ.out).mono ?_
      rintro e w5 ⟨rfl, b5⟩
      have o5 := HO.out.on b5
      have hkl : k < (fillN (fun i : Nat => nextAt l f dst d i) N k).length := by rw [fillN_len]; exact hlt
      obtain ⟨q1, q2⟩ := o5.cellI k hkl
      obtain ⟨u, hu⟩ : ∃ u, u = (fillN (fun i : Nat => nextAt l f dst d i) N k)[k] := ⟨_, rfl⟩
      rw [← hu] at q1
      have ho6 := (o5.storeI k z).1
      have HO6 : Hid (Own (w5.setCell ⟨gn, k, none⟩ (.int .i64 z)) w.heap.size 3 1 (some ⟨gn, 0, none⟩) N N (iv (fillN (fun i => nextAt l f dst d i) N (k + 1)))) := Lib.hid (by
        rw [← fillN_set _ N k hlt, HZ.out]; exact ho6)
      have HT6 : Hid (Turn gn w3 (w5.setCell ⟨gn, k, none⟩ (.int .i64 z))) := Lib.hid ((HT.out.belowOn b5).set_ k _)
      clear hu b5 o5 ho6 hkl HO HT H1 H2 e0 e1 e2 e3
      go_wp2_with fail
      go_roundw
      case rel => exact ⟨k + 1, by omega, by go_num, HO6.out, HT6.out⟩
      case measure => simp [intOf]; omega
end Go.Proofs.Ytjobjjmeneddnaa
