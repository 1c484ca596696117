/- The walk of law FnSpans, for a code that is read. -/
import Derived.Test.YtnonlmgjbmllnaaDrawSpans
import Derived.Test.YtnonlmgjbmllnaaShorten2
import Derived.Test.YtnonlmgjbmllnaaBig
namespace Go.Proofs.Ytnonlmgjbmllnaa
open Go.ChangeShapes Go.WideShapes Go.ChangeAt Go.RowKit
set_option linter.unusedVariables false
theorem in_join (l : List (Int × Int)) (t : Int) : inL (joinOf l) t = inL l t := inL_all _ _ (fun b => b) rfl (tk_join l) t
theorem in_meet (l m : List (Int × Int)) (t : Int) : inL (meetOf l m) t = (inL l t && inL m t) := by
  rcases Int.lt_or_le t 0 with h0 | h0
  · rw [inL_neg _ t h0, inL_neg l t h0]; rfl
  · obtain ⟨k, rfl⟩ := Int.eq_ofNat_of_zero_le h0
    exact tk_meet l m k
theorem in_cut (l m : List (Int × Int)) (t : Int) : inL (cutOf l m) t = (inL l t && !inL m t) := by
  rcases Int.lt_or_le t 0 with h0 | h0
  · rw [inL_neg _ t h0, inL_neg l t h0]; rfl
  · obtain ⟨k, rfl⟩ := Int.eq_ofNat_of_zero_le h0
    exact tk_cut l m k
theorem in_short (l : List (Int × Int)) (a b t : Int) (h : inL (shortOf l a b) t = true) : inL l t = true := by
  rcases Int.lt_or_le t 0 with h0 | h0
  · rw [inL_neg _ t h0] at h; cases h
  · obtain ⟨k, rfl⟩ := Int.eq_ofNat_of_zero_le h0
    exact tk_short l a b k h
set_option maxHeartbeats 3200000 in
set_option maxRecDepth 100000 in
theorem coreSp (w : World) (A : Option Addr) (cap : Nat) (xs : List Value) (hB : Bytes xs) (hbig : xs.length ≤ 1048576) (hcap : xs.length ≤ cap) (hm0 : cap ≤ 9223372036854775807) (r0 : Reads w w.heap.size A xs) :
    Calls Try.prog 3 #[.slice A xs.length cap] w fun e w' => e = .returned (.bool true) ∧ Below w.heap.size w w' := by
  have R0 := Lib.hid r0; clear r0
  go_enter Try.func3, Try.ntmps3
  go_wp2_with fail
  refine (big_no _ _ _ _ hbig hm0 hcap).mono ?_
  rintro e w1 ⟨rfl, rfl⟩
  go_wp2_with fail
  refine (drawCut _ _ _ _ hB hbig R0.out).mono ?_
  rintro e w1 ⟨⟨Aa, na, ca, la, Ab, nb, cb, lb, rfl, hna, hnb, oa, ob⟩, b⟩
  have OA := Lib.hid oa; have OB := Lib.hid ob; have TB := Lib.hid b
  clear oa ob b
  go_wp2_with fail
  refine (ijoin _ _ Aa na ca la OA.out.sl (Nat.le_refl _)).mono ?_
  rintro e w2 ⟨Aj, nj, cj, rfl, oj, b⟩
  have HNJ : Hid (nj = (joinOf la).length) := Lib.hid (by have := oj.len; rw [sv_len] at this; omega)
  have hnj : nj ≤ 1000 := by have h1 := HNJ.out; have h2 := runs_len (tk la) 1000; unfold joinOf at h1; omega
  have OJ := Lib.hid oj
  replace OA := Lib.hid (OA.out.on b); replace OB := Lib.hid (OB.out.on b); replace TB := Lib.hid (TB.out.trans (b.mono TB.out.size))
  clear oj b
  go_wp2_with fail
  refine (sjoin _ _ Aa na ca la OA.out.sl (Nat.le_refl _)).mono ?_
  rintro e w3 ⟨As, ns, cs, rfl, os, b⟩
  obtain rfl : ns = nj := by have h1 := os.len; have h2 := HNJ.out; rw [sv_len] at h1; omega
  replace OA := Lib.hid (OA.out.on b); replace OB := Lib.hid (OB.out.on b); replace OJ := Lib.hid (OJ.out.on b); replace TB := Lib.hid (TB.out.trans (b.mono TB.out.size))
  clear os b
  go_wp2_with fail
  refine (imeet _ _ _ Aa Ab na nb ca cb la lb OA.out.sl OB.out.sl (Nat.le_refl _) (Nat.le_refl _)).mono ?_
  rintro e w4 ⟨Am, nm, cm, rfl, om, b⟩
  have OM := Lib.hid om
  replace OA := Lib.hid (OA.out.on b); replace OB := Lib.hid (OB.out.on b); replace OJ := Lib.hid (OJ.out.on b); replace TB := Lib.hid (TB.out.trans (b.mono TB.out.size))
  clear om b
  go_wp2_with fail
  refine (icut _ _ _ Aa Ab na nb ca cb la lb OA.out.sl OB.out.sl (Nat.le_refl _) (Nat.le_refl _)).mono ?_
  rintro e w5 ⟨Ac, nc, cc, rfl, oc, b⟩
  have OC := Lib.hid oc
  replace OA := Lib.hid (OA.out.on b); replace OB := Lib.hid (OB.out.on b); replace OJ := Lib.hid (OJ.out.on b); replace OM := Lib.hid (OM.out.on b); replace TB := Lib.hid (TB.out.trans (b.mono TB.out.size))
  clear oc b
  go_wp2_with fail
  refine (drawShorten _ _ _ _ hB hbig ((R0.out.below TB.out (Nat.le_refl _)).more TB.out.size)).mono ?_
  rintro e w6 ⟨⟨Al, nl, cl, ll, p, q, rfl, hnl, hp, hq, ol⟩, b⟩
  have OL := Lib.hid ol
  replace OA := Lib.hid (OA.out.on b); replace OB := Lib.hid (OB.out.on b); replace OJ := Lib.hid (OJ.out.on b); replace OM := Lib.hid (OM.out.on b); replace OC := Lib.hid (OC.out.on b); replace TB := Lib.hid (TB.out.trans (b.mono TB.out.size))
  clear ol b
  go_wp2_with fail
  refine (ishort _ _ Al nl cl ll OL.out.sl (Nat.le_refl _) p q hp.1 hp.2 hq.1 hq.2).mono ?_
  rintro e w7 ⟨Ah, nh, ch, rfl, oh, b⟩
  have SH := Lib.hid oh.sl
  have SA := Lib.hid (OA.out.on b).sl; have SB := Lib.hid (OB.out.on b).sl; have SJ := Lib.hid (OJ.out.on b).sl; have SM := Lib.hid (OM.out.on b).sl
  have SC := Lib.hid (OC.out.on b).sl; have SL := Lib.hid (OL.out.on b).sl
  replace TB := Lib.hid (TB.out.trans (b.mono TB.out.size))
  have hcj := SJ.out.cap; have hcj2 := SJ.out.capm
  clear oh b OA OB OJ OM OC OL hp hq
  go_wp2_with fail
  go_loopw [12] (fun t wr => ∃ k : Nat, k ≤ 62 ∧ t = .int .i64 ((k : Int) - 1) ∧ Below w7.heap.size w7 wr) (fun t _ => 62 - ((intOf t) + 1).toNat)
  case atStart => exact ⟨0, by omega, rfl, Below.refl _ _⟩
  case round =>
    obtain ⟨k, hk, rfl, hb⟩ := hrel
    have HB := Lib.hid hb; clear hb
    by_cases hlt : k < 62
    · obtain ⟨t, ht⟩ : ∃ t : Int, t = (k : Int) - 1 := ⟨_, rfl⟩
      rw [← ht]
      have ht1 : -1 ≤ t := by omega
      have ht2 : t ≤ 60 := by omega
      have HT : Hid (t + 1 = ((k + 1 : Nat) : Int) - 1) := Lib.hid (by omega)
      have HT2 : Hid (t = (k : Int) - 1) := Lib.hid ht
      clear ht
      obtain ⟨x, hx⟩ : ∃ x, inL la t = x := ⟨_, rfl⟩
      obtain ⟨y, hy⟩ : ∃ y, inL lb t = y := ⟨_, rfl⟩
      obtain ⟨s, hs⟩ : ∃ s, inL (shortOf ll p q) t = s := ⟨_, rfl⟩
      obtain ⟨m, hm⟩ : ∃ m, (x && y) = m := ⟨_, rfl⟩
      obtain ⟨c, hc⟩ : ∃ c, (x && !y) = c := ⟨_, rfl⟩
      have HX := Lib.hid hx; have HY := Lib.hid hy; have HS := Lib.hid hs
      have HJ : Hid (inL (joinOf la) t = x) := Lib.hid (by rw [in_join]; exact hx)
      have HM : Hid (inL (meetOf la lb) t = m) := Lib.hid (by rw [in_meet, hx, hy]; exact hm)
      have HC : Hid (inL (cutOf la lb) t = c) := Lib.hid (by rw [in_cut, hx, hy]; exact hc)
      have HI : Hid (s = true → inL ll t = true) := Lib.hid (fun e => in_short ll p q t (hs.trans e))
      clear hx hy hs
      go_wp2_with fail
      refine (iinspans _ _ Aa na ca la (SA.out.below HB.out (Nat.le_refl _)) HB.out.size t x HX.out).mono ?_
      rintro e w8 ⟨rfl, b⟩
      replace HB := Lib.hid (HB.out.trans (b.mono HB.out.size)); clear b
      go_wp2_with fail
      refine (iinspans _ _ Ab nb cb lb (SB.out.below HB.out (Nat.le_refl _)) HB.out.size t y HY.out).mono ?_
      rintro e w9 ⟨rfl, b⟩
      replace HB := Lib.hid (HB.out.trans (b.mono HB.out.size)); clear b HX HY
      go_wp2_with fail
      cases s
      · cases x <;> cases y
        all_goals
          simp at hm hc
          subst hm hc
          refine (iinspans _ _ Aj ns cj _ (SJ.out.below HB.out (Nat.le_refl _)) HB.out.size t _ HJ.out).mono ?_
          rintro e w10 ⟨rfl, b⟩
          replace HB := Lib.hid (HB.out.trans (b.mono HB.out.size)); clear b HJ
          go_wp2_with fail
          refine (iinspans _ _ Am nm cm _ (SM.out.below HB.out (Nat.le_refl _)) HB.out.size t _ HM.out).mono ?_
          rintro e w11 ⟨rfl, b⟩
          replace HB := Lib.hid (HB.out.trans (b.mono HB.out.size)); clear b HM
          go_wp2_with fail
          refine (iinspans _ _ Ac nc cc _ (SC.out.below HB.out (Nat.le_refl _)) HB.out.size t _ HC.out).mono ?_
          rintro e w12 ⟨rfl, b⟩
          replace HB := Lib.hid (HB.out.trans (b.mono HB.out.size)); clear b HC
          go_wp2_with fail
          refine (iinspans _ _ Ah nh ch _ (SH.out.below HB.out (Nat.le_refl _)) HB.out.size t _ HS.out).mono ?_
          rintro e w13 ⟨rfl, b⟩
          replace HB := Lib.hid (HB.out.trans (b.mono HB.out.size)); clear b HS
          go_wp2_with fail
          go_roundw
          case rel => exact ⟨k + 1, by omega, by rw [HT.out], HB.out⟩
          case measure => have := HT2.out; simp [intOf]; omega
      · cases x <;> cases y
        all_goals
          simp at hm hc
          subst hm hc
          refine (iinspans _ _ Aj ns cj _ (SJ.out.below HB.out (Nat.le_refl _)) HB.out.size t _ HJ.out).mono ?_
          rintro e w10 ⟨rfl, b⟩
          replace HB := Lib.hid (HB.out.trans (b.mono HB.out.size)); clear b HJ
          go_wp2_with fail
          refine (iinspans _ _ Am nm cm _ (SM.out.below HB.out (Nat.le_refl _)) HB.out.size t _ HM.out).mono ?_
          rintro e w11 ⟨rfl, b⟩
          replace HB := Lib.hid (HB.out.trans (b.mono HB.out.size)); clear b HM
          go_wp2_with fail
          refine (iinspans _ _ Ac nc cc _ (SC.out.below HB.out (Nat.le_refl _)) HB.out.size t _ HC.out).mono ?_
          rintro e w12 ⟨rfl, b⟩
          replace HB := Lib.hid (HB.out.trans (b.mono HB.out.size)); clear b HC
          go_wp2_with fail
          refine (iinspans _ _ Ah nh ch _ (SH.out.below HB.out (Nat.le_refl _)) HB.out.size t _ HS.out).mono ?_
          rintro e w13 ⟨rfl, b⟩
          replace HB := Lib.hid (HB.out.trans (b.mono HB.out.size)); clear b HS
          go_wp2_with fail
          refine (iinspans _ _ Al nl cl _ (SL.out.below HB.out (Nat.le_refl _)) HB.out.size t true (HI.out (by simp))).mono ?_
          rintro e w14 ⟨rfl, b⟩
          replace HB := Lib.hid (HB.out.trans (b.mono HB.out.size)); clear b
          go_wp2_with fail
          go_roundw
          case rel => exact ⟨k + 1, by omega, by rw [HT.out], HB.out⟩
          case measure => have := HT2.out; simp [intOf]; omega
    · obtain rfl : k = 62 := by omega
      go_wp2_with fail
      clear hk hlt
      have HCH : Hid (∀ i, (h : i + 1 < (joinOf la).length) → ((joinOf la)[i]'(by omega)).2 < (joinOf la)[i + 1].1) := Lib.hid (join_chain la)
      go_loopw [15] (fun i wr => ∃ k : Nat, k ≤ ns ∧ i = .int .i64 ((k : Int) + 1) ∧ Below w7.heap.size w7 wr) (fun i _ => ns - (intOf i).toNat)
      case atStart => exact ⟨0, Nat.zero_le _, rfl, HB.out⟩
      case round =>
        clear HB
        obtain ⟨k, hk, rfl, hb⟩ := hrel
        have HB := Lib.hid hb; clear hb
        by_cases hlt : k + 1 < ns
        · obtain ⟨ad, hx, rfl, had, -, hc1⟩ := (SJ.out.below HB.out (Nat.le_refl _)).two (show k < ns by omega)
          obtain ⟨ad', hx', hae, -, hc0, -⟩ := (SJ.out.below HB.out (Nat.le_refl _)).two hlt
          injection hae with hae
          subst hae
          have hxy := HCH.out k hx'
          obtain ⟨x, hxx⟩ : ∃ x, x = (joinOf la)[k].2 := ⟨_, rfl⟩
          obtain ⟨y, hy⟩ : ∃ y, y = (joinOf la)[k + 1].1 := ⟨_, rfl⟩
          rw [← hxx, ← hy] at hxy
          rw [← hxx] at hc1
          rw [← hy] at hc0
          clear hxx hy had hx hx'
          have g1 : decide (y ≤ x) = false := by simp; omega
          go_wp2_with fail
          go_quiet (fail)
          go_wp2
          go_roundw
          case rel => exact ⟨k + 1, by omega, by go_num, by first | exact HB.out | exact below_drewN HB.out _⟩
          case measure => simp [intOf]; omega
        · have hend : ¬ (((k : Int) + 1) < (ns : Int)) := by omega
          obtain ⟨m, hm⟩ : ∃ m, ticksOf (meetOf la lb) = m := ⟨_, rfl⟩
          obtain ⟨c, hc⟩ : ∃ c, ticksOf (cutOf la lb) = c := ⟨_, rfl⟩
          obtain ⟨s, hs⟩ : ∃ s, ticksOf (shortOf ll p q) = s := ⟨_, rfl⟩
          obtain ⟨v, hv⟩ : ∃ v, ticksOf ll = v := ⟨_, rfl⟩
          have ha : Hid (ticksOf la = m + c) := Lib.hid (by rw [← ticks_split la lb, hm, hc])
          have hm1 : 0 ≤ m ∧ m ≤ 1000 := by rw [← hm]; exact ticks_bd _
          have hc1 : 0 ≤ c ∧ c ≤ 1000 := by rw [← hc]; exact ticks_bd _
          have hsv : s ≤ v := by rw [← hs, ← hv]; exact ticks_short ll p q
          have HM := Lib.hid hm; have HC := Lib.hid hc; have HS := Lib.hid hs; have HV := Lib.hid hv
          clear hm hc hs hv HCH HNJ
          go_wp2_with fail
          refine (iticksOf _ _ Am nm cm _ (SM.out.below HB.out (Nat.le_refl _)) HB.out.size).mono ?_
          rintro e w8 ⟨rfl, b⟩
          rw [HM.out]
          replace HB := Lib.hid (HB.out.trans (b.mono HB.out.size)); clear b HM
          go_wp2_with fail
          refine (iticksOf _ _ Ac nc cc _ (SC.out.below HB.out (Nat.le_refl _)) HB.out.size).mono ?_
          rintro e w9 ⟨rfl, b⟩
          rw [HC.out]
          replace HB := Lib.hid (HB.out.trans (b.mono HB.out.size)); clear b HC
          go_wp2_with fail
          refine (iticksOf _ _ Aa na ca _ (SA.out.below HB.out (Nat.le_refl _)) HB.out.size).mono ?_
          rintro e w10 ⟨rfl, b⟩
          rw [ha.out]
          replace HB := Lib.hid (HB.out.trans (b.mono HB.out.size)); clear b ha
          go_wp2_with fail
          refine (iticksOf _ _ Ah nh ch _ (SH.out.below HB.out (Nat.le_refl _)) HB.out.size).mono ?_
          rintro e w11 ⟨rfl, b⟩
          rw [HS.out]
          replace HB := Lib.hid (HB.out.trans (b.mono HB.out.size)); clear b HS
          go_wp2_with fail
          refine (iticksOf _ _ Al nl cl _ (SL.out.below HB.out (Nat.le_refl _)) HB.out.size).mono ?_
          rintro e w12 ⟨rfl, b⟩
          rw [HV.out]
          replace HB := Lib.hid (HB.out.trans (b.mono HB.out.size)); clear b HV
          have HF := Lib.hid (TB.out.trans (HB.out.mono TB.out.size))
          clear HB TB
          go_wp2
          go_ret
          exact ⟨by simp, HF.out⟩
end Go.Proofs.Ytnonlmgjbmllnaa
