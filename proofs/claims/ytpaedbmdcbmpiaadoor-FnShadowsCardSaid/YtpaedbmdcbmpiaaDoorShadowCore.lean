/- The walk of law FnShadows, for a code that is read, where the program's two sentinels lie. -/
import Derived.Test.YtpaedbmdcbmpiaaDoorLightSpans
import Derived.Test.YtpaedbmdcbmpiaaDoorDrawShadow
import Derived.Test.YtpaedbmdcbmpiaaDoorGapFacts
import Derived.Test.YtpaedbmdcbmpiaaDoorBig
import Derived.Deep.DeepCutAuto
import Derived.Deep.CutRange
import Derived.Deep.CutBlock
namespace Go.Proofs.YtpaedbmdcbmpiaaDoor
open Go.ChangeShapes Go.WideShapes Go.ChangeAt Go.RowKit
set_option linter.unusedVariables false
/-- the light of a drawn range -/
theorem lit_small {l : List (Int × Int)} {L : Int → Bool} {b : Bool} {f t : Int} (h : ∀ i, inL l i = decide ((lowT f ≤ i ∧ i < highT t) ∧ L i = b)) (hf : -2 ≤ f) (hf2 : f ≤ 17) (ht : t ≤ 56) (ht0 : -2 ≤ t) (i : Int) (h0 : f ≤ i) (h1 : i < t) :
    inL l i = (decide (0 ≤ i) && (L i == b)) := by
  rw [h]
  have e1 : highT t = t := by unfold highT mnf wrap64; split <;> omega
  have e2 : (lowT f ≤ i) ↔ 0 ≤ i := by unfold lowT mxf; split <;> omega
  rw [e1]
  have e3 : (decide (0 ≤ i) && (L i == b)) = decide (0 ≤ i ∧ L i = b) := by rw [Bool.decide_and]; rfl
  rw [e3]
  exact decide_eq_decide.2 ⟨fun h => ⟨e2.1 h.1.1, h.2⟩, fun h => ⟨⟨e2.2 h.1, h1⟩, h.2⟩⟩
/-- in the deepest shadow there is no sun, and out of it there is, wherever the node may be -/
theorem shadow_true (U D : Int) (ls : List Sat4) (li : List Tri) (node t n : Int) (h : ∀ x ∈ ls, Oke x) (h0 : 0 ≤ node) (h1 : node < ls.length) (hn : shOf U D ls li node t = n) (hn1 : ¬ n = 1)
    (i : Int) (i0 : 0 ≤ i) (i1 : i ≤ arcW ls li node) : gapf (arcS ls li node t + i) (plc 0 U t + 180) ≤ D ↔ n = 2 := by
  obtain ⟨p, hp, p0, p1⟩ := arcW_even ls li node h
  unfold shOf shG at hn
  rw [if_pos ⟨h0, h1⟩, hp] at hn
  rw [hp] at i1
  have hm : midf (arcS ls li node t) (2 * p) = ang (ang (arcS ls li node t) + p) := by unfold midf; rw [if_pos (by omega), show 2 * p / 2 = p by omega]
  rw [hm, gapf_c, show 2 * p / 2 = p by omega] at hn
  rw [gapf_c]
  generalize arcS ls li node t = A at hn ⊢
  generalize plc 0 U t + 180 = B at hn ⊢
  have e : gapc (ang (ang A + p) - B) = gapc ((A + p) - B) := gapc_turn _ _ (by unfold ang; omega)
  rw [e] at hn
  have s1 := gapc_step ((A + p) - B) ((A + i) - B) p (by omega) (by omega) (by omega)
  have s2 := gapc_step ((A + i) - B) ((A + p) - B) p (by omega) (by omega) (by omega)
  generalize gapc ((A + p) - B) = g at hn s1 s2
  generalize gapc ((A + i) - B) = g' at s1 s2 ⊢
  unfold shI at hn
  by_cases c1 : D < g - p
  · rw [if_pos c1] at hn; omega
  · rw [if_neg c1] at hn
    by_cases c2 : g + p ≤ D
    · rw [if_pos c2] at hn; omega
    · rw [if_neg c2] at hn; omega
theorem lit_bne {n : Int} {v : Bool} (h : (n == 0) = v) : (n != 0) = !v := by rw [← h]; rfl
set_option maxHeartbeats 6400000 in
set_option maxRecDepth 100000 in
theorem coreShadow (w : World) (A : Option Addr) (cap : Nat) (xs : List Value) (hB : Bytes xs) (hbig : xs.length ≤ 1048576) (hcap : xs.length ≤ cap) (hm0 : cap ≤ 9223372036854775807) (r0 : Reads w w.heap.size A xs) (nA tW : Addr) (e0 : Errs w nA tW) :
    Calls Tryd.prog 3 #[.slice A xs.length cap] w fun e w' => e = .returned (.bool true) ∧ Below w.heap.size w w' := by
  have R0 := Lib.hid r0; have E0 := Lib.hid e0; have HBY := Lib.hid hB; have HBIG := Lib.hid hbig; clear r0 e0
  go_enter Tryd.func3, Tryd.ntmps3
  go_wp2_with fail
  refine (big_no _ _ _ _ hbig hm0 hcap).mono ?_
  rintro e w1 ⟨rfl, rfl⟩
  go_wp2_with fail
  refine (drawlits _ _ _ _ hB hbig R0.out).mono ?_
  rintro e w1 ⟨⟨P, R, X, V, U, D, Q, ns, ni, nz, ls, li, lz, As, cs, Ai, ci, Az, cz, a, f, t, rfl, ho, hn, hj, hk1, hk2, hab, hft⟩, b1⟩
  have hin := ho.inSky
  clear ho
  obtain ⟨D0, hD0⟩ : ∃ d, d = w1.heap.size := ⟨_, rfl⟩
  obtain ⟨WL, hW⟩ : ∃ W, W = w1.alloc (.cells #[.int .i64 P, .slice As ns cs, .slice Ai ni ci, .int .i64 R, .int .i64 X, .int .i64 V, .int .i64 U, .int .i64 D, .slice Az nz cz, .int .i64 Q] 28) := ⟨_, rfl⟩
  have TL : Hid (Below w.heap.size w WL) := Lib.hid (by rw [hW]; exact b1.alloc b1.size _)
  have IL : Hid (InSky WL (D0) As ns cs Ai ni ci Az nz cz ls li lz) := Lib.hid (by rw [hW, hD0]; exact hin.below ((Below.refl w1.heap.size w1).alloc (Nat.le_refl _) _) (Nat.le_refl _))
  have DL : Hid (D0 ≤ WL.heap.size) := Lib.hid (by rw [hW, hD0]; simp)
  obtain ⟨G, hG⟩ : ∃ g, g = w1.heap.size := ⟨_, rfl⟩
  have ZL : Hid (Blk WL G 28 #[.int .i64 P, .slice As ns cs, .slice Ai ni ci, .int .i64 R, .int .i64 X, .int .i64 V, .int .i64 U, .int .i64 D, .slice Az nz cz, .int .i64 Q]) := Lib.hid (by rw [hW, hG]; exact Blk.new _ _ _)
  have EL := Lib.hid (E0.out.below TL.out)
  have hs : Hid (ns ≤ 16777216) := Lib.hid (by omega)
  have hi : Hid (ni ≤ 16777216) := Lib.hid (by omega)
  have Ha : Hid (J64 a) := Lib.hid (by unfold J64; omega)
  have Hf : Hid (J64 f) := Lib.hid (by unfold J64; omega)
  have Ht : Hid (J64 t) := Lib.hid (by unfold J64; omega)
  have HFT := Lib.hid hft
  obtain ⟨L, hL⟩ : ∃ L : Int → Bool, ∀ i, litAt U D ls li a i = L i := ⟨_, fun _ => rfl⟩
  have HLL := Lib.hid hL
  clear hn hj hk1 hk2 hab hin hL b1 hB hbig hcap hm0
  go_wp2_with fail
  rw [← hW, ← hG]
  clear hW hG hD0
  obtain ⟨c0, c1, c2, c3, c4, c5, c6, c7, c8, c9⟩ := ZL.out.ten
  go_wp2_with fail
  refine (ilitspans WL P R X V U D Q ns ni nz ls li lz As cs Ai ci Az cz D0 IL.out DL.out hs.out hi.out nA tW EL.out a Ha.out f t Hf.out Ht.out L HLL.out).mono ?_
  rintro e w2 ⟨A8, n8, k8, l8, rfl, o8, b8, i8⟩
  have B8 := Lib.hid b8
  have O8 := Lib.hid o8.sl
  have I8 := Lib.hid (fun i => lit_small i8 HFT.out.1 HFT.out.2.1 HFT.out.2.2.2 (by have := HFT.out; omega) i)
  have Z2 := Lib.hid (ZL.out.below b8 ZL.out.lt)
  clear o8 b8 i8 c0 c1 c2 c3 c4 c5 c6 c7 c8 c9
  obtain ⟨c0, c1, c2, c3, c4, c5, c6, c7, c8, c9⟩ := Z2.out.ten
  go_wp2_with fail
  refine (idarkspans w2 P R X V U D Q ns ni nz ls li lz As cs Ai ci Az cz D0 (IL.out.below B8.out DL.out) (Nat.le_trans DL.out B8.out.size) hs.out hi.out nA tW (EL.out.below B8.out) a Ha.out f t Hf.out Ht.out L HLL.out).mono ?_
  rintro e w3 ⟨A9, n9, k9, l9, rfl, o9, b9, i9⟩
  have I9 := Lib.hid (fun i => lit_small i9 HFT.out.1 HFT.out.2.1 HFT.out.2.2.2 (by have := HFT.out; omega) i)
  have I9D := Lib.hid i9
  obtain ⟨D8, hD8⟩ : ∃ d, d = w2.heap.size := ⟨_, rfl⟩
  obtain ⟨D9, hD9⟩ : ∃ d, d = w3.heap.size := ⟨_, rfl⟩
  have S8 := O8.out.below b9 (Nat.le_refl _)
  rw [← hD8] at S8
  have S9 := o9.sl
  rw [← hD9] at S9
  obtain ⟨QQ, hQ⟩ : ∃ QQ : World → Prop, ∀ wr, QQ wr ↔ Below w3.heap.size w3 wr := ⟨_, fun _ => Iff.rfl⟩
  have HQ : Hid (QQ w3) := Lib.hid ((hQ _).2 (Below.refl _ _))
  have HQ1 : Hid (∀ wr wr', QQ wr → Below wr.heap.size wr wr' → QQ wr') := Lib.hid fun wr wr' h h' => (hQ _).2 (((hQ _).1 h).trans (h'.mono ((hQ _).1 h).size))
  have HC : Hid (∀ wr, QQ wr → (wr.cell? ⟨G, 0, none⟩ = some (.int .i64 P) ∧ wr.cell? ⟨G, 1, none⟩ = some (.slice As ns cs) ∧ wr.cell? ⟨G, 2, none⟩ = some (.slice Ai ni ci) ∧ wr.cell? ⟨G, 3, none⟩ = some (.int .i64 R) ∧ wr.cell? ⟨G, 4, none⟩ = some (.int .i64 X) ∧ wr.cell? ⟨G, 5, none⟩ = some (.int .i64 V) ∧ wr.cell? ⟨G, 6, none⟩ = some (.int .i64 U) ∧ wr.cell? ⟨G, 7, none⟩ = some (.int .i64 D) ∧ wr.cell? ⟨G, 8, none⟩ = some (.slice Az nz cz) ∧ wr.cell? ⟨G, 9, none⟩ = some (.int .i64 Q)) ∧ Below w.heap.size w wr ∧ Errs wr nA tW ∧ InSky wr (D0) As ns cs Ai ni ci Az nz cz ls li lz ∧ D0 ≤ wr.heap.size ∧ (Sl wr D8 2 A8 n8 k8 (sv l8) ∧ D8 ≤ wr.heap.size) ∧ (Sl wr D9 2 A9 n9 k9 (sv l9) ∧ D9 ≤ wr.heap.size)) := Lib.hid fun wr h => by
    have hb := (hQ _).1 h
    have hb2 : Below WL.heap.size WL wr := B8.out.trans ((b9.trans (hb.mono b9.size)).mono B8.out.size)
    exact ⟨(ZL.out.below hb2 ZL.out.lt).ten, TL.out.trans (hb2.mono TL.out.size), EL.out.below hb2, IL.out.below hb2 DL.out, Nat.le_trans DL.out hb2.size, ⟨S8.below hb (by rw [hD8]; exact b9.size), by rw [hD8]; exact Nat.le_trans b9.size hb.size⟩, S9.below hb (by rw [hD9]; exact Nat.le_refl _), by rw [hD9]; exact hb.size⟩
  clear o9 b9 i9 hD8 hD9 S8 S9 hQ B8 O8 Z2 TL IL DL ZL EL c0 c1 c2 c3 c4 c5 c6 c7 c8 c9
  obtain ⟨c0, c1, c2, c3, c4, c5, c6, c7, c8, c9⟩ := (HC.out _ HQ.out).1
  have HEND : Hid (∀ wr, QQ wr → (wr.cell? ⟨G, 0, none⟩ = some (.int .i64 P) ∧ wr.cell? ⟨G, 1, none⟩ = some (.slice As ns cs) ∧ wr.cell? ⟨G, 2, none⟩ = some (.slice Ai ni ci) ∧ wr.cell? ⟨G, 3, none⟩ = some (.int .i64 R) ∧ wr.cell? ⟨G, 4, none⟩ = some (.int .i64 X) ∧ wr.cell? ⟨G, 5, none⟩ = some (.int .i64 V) ∧ wr.cell? ⟨G, 6, none⟩ = some (.int .i64 U) ∧ wr.cell? ⟨G, 7, none⟩ = some (.int .i64 D) ∧ wr.cell? ⟨G, 8, none⟩ = some (.slice Az nz cz) ∧ wr.cell? ⟨G, 9, none⟩ = some (.int .i64 Q)) ∧ Calls Tryd.prog 15 #[.agg #[.int .i64 P, .slice As ns cs, .slice Ai ni ci, .int .i64 R, .int .i64 X, .int .i64 V, .int .i64 U, .int .i64 D, .slice Az nz cz, .int .i64 Q], .int .i64 a, .int .i64 f, .int .i64 t] wr (fun e w' => ∃ m : Nat, e = .returned (.int .i64 (m : Int)) ∧ DarkRun L (lowT f) (highT t) m ∧ Below wr.heap.size wr w') ∧ Calls Tryd.prog 16 #[.slice A9 n9 k9] wr (NumB wr (ticksOf l9)) ∧ Below w.heap.size w wr ∧ Errs wr nA tW) := Lib.hid fun wr h => by
    have hc := HC.out wr h
    exact ⟨hc.1, ilongdark wr P R X V U D Q ns ni nz ls li lz As cs Ai ci Az cz D0 hc.2.2.2.1 hc.2.2.2.2.1 hs.out hi.out nA tW hc.2.2.1 a Ha.out f t Hf.out Ht.out L HLL.out, iticksOf wr D9 A9 n9 k9 l9 hc.2.2.2.2.2.2.1 hc.2.2.2.2.2.2.2, hc.2.1, hc.2.2.1⟩
  have HMK : Hid (∀ m : Nat, DarkRun L (lowT f) (highT t) m → (m : Int) ≤ ticksOf l9) := Lib.hid fun m hm => hm.le (low_bd f Hf.out).1 (high_bd t).2 l9 fun i h0 h1 h2 => by rw [I9D.out]; exact decide_eq_true ⟨⟨h0, h1⟩, h2⟩
  clear I9D
  go_upto_block 0 with fail
  go_cut [9, 10] from 37 to 73 (fun _ _ wx => QQ wx)
  case first =>
    go_wp2_with fail
    go_loopw [9, 10] (fun iv nv wr => ∃ i : Int, f ≤ i ∧ i ≤ t ∧ iv = .int .i64 i ∧ QQ wr) (fun iv _ _ => (t - intOf iv).toNat)
    case atStart => exact ⟨f, by omega, by have := HFT.out; omega, rfl, HQ.out⟩
    case round =>
      clear HQ c0 c1 c2 c3 c4 c5 c6 c7 c8 c9
      obtain ⟨i, hi0, hi1, rfl, hq⟩ := hrel
      have HQ := Lib.hid hq
      have hft := HFT.out
      clear hq
      obtain ⟨c0, c1, c2, c3, c4, c5, c6, c7, c8, c9⟩ := (HC.out _ HQ.out).1
      by_cases hlt : i < t
      case neg =>
        go_wp2_with fail
        go_meet
        exact HQ.out
      case pos =>
        by_cases h0 : 0 ≤ i
        case neg =>
          have HI : Hid (inL l8 i = false) := Lib.hid (by rw [I8.out i hi0 hlt, decide_eq_false h0]; rfl)
          have HI2 : Hid (inL l9 i = false) := Lib.hid (by rw [I9.out i hi0 hlt, decide_eq_false h0]; rfl)
          go_wp2_with fail
          refine (iinspans _ D8 A8 n8 _ l8 (HC.out _ HQ.out).2.2.2.2.2.1.1 (HC.out _ HQ.out).2.2.2.2.2.1.2 i false HI.out).mono ?_
          rintro e w4 ⟨rfl, b4⟩
          replace HQ := Lib.hid (HQ1.out _ _ HQ.out b4)
          clear b4 c0 c1 c2 c3 c4 c5 c6 c7 c8 c9
          go_wp2_with fail
          refine (iinspans _ D9 A9 n9 _ l9 (HC.out _ HQ.out).2.2.2.2.2.2.1 (HC.out _ HQ.out).2.2.2.2.2.2.2 i false HI2.out).mono ?_
          rintro e w5 ⟨rfl, b5⟩
          replace HQ := Lib.hid (HQ1.out _ _ HQ.out b5)
          clear b5
          go_wp2_with fail
          go_roundw
          case rel => exact ⟨i + 1, by omega, by omega, by go_num, HQ.out⟩
          case measure => simp [intOf]; omega
        case pos =>
          have h3 : i < 1000 := by omega
          obtain ⟨z, hz⟩ : ∃ z, shOf U D ls li a i = z := ⟨_, rfl⟩
          obtain ⟨v, hv⟩ : ∃ v, L i = v := ⟨_, rfl⟩
          have hzv : (z == 0) = v := litAt_eq ((HLL.out i).trans hv) hz
          have HI : Hid (inL l8 i = v) := Lib.hid (by rw [I8.out i hi0 hlt, decide_eq_true h0, hv]; cases v <;> rfl)
          have HI2 : Hid (inL l9 i = !v) := Lib.hid (by rw [I9.out i hi0 hlt, decide_eq_true h0, hv]; cases v <;> rfl)
          have hzn := lit_bne hzv
          have HZ := Lib.hid hz
          clear hz hv hft
          cases v
          all_goals
            go_wp2_with fail
            refine (iinspans _ D8 A8 n8 _ l8 (HC.out _ HQ.out).2.2.2.2.2.1.1 (HC.out _ HQ.out).2.2.2.2.2.1.2 i _ HI.out).mono ?_
            rintro e w4 ⟨rfl, b4⟩
            replace HQ := Lib.hid (HQ1.out _ _ HQ.out b4)
            clear b4 c0 c1 c2 c3 c4 c5 c6 c7 c8 c9
            obtain ⟨c0, c1, c2, c3, c4, c5, c6, c7, c8, c9⟩ := (HC.out _ HQ.out).1
            go_wp2_with fail
            refine (ishadow _ P R X V U D Q ns ni nz ls li lz As cs Ai ci Az cz D0 (HC.out _ HQ.out).2.2.2.1 (HC.out _ HQ.out).2.2.2.2.1 hs.out hi.out nA tW (HC.out _ HQ.out).2.2.1 a i Ha.out z HZ.out).mono ?_
            rintro e w5 ⟨rfl, b5⟩
            replace HQ := Lib.hid (HQ1.out _ _ HQ.out b5)
            clear b5 c0 c1 c2 c3 c4 c5 c6 c7 c8 c9
            obtain ⟨c0, c1, c2, c3, c4, c5, c6, c7, c8, c9⟩ := (HC.out _ HQ.out).1
            go_wp2_with fail
            refine (iinspans _ D9 A9 n9 _ l9 (HC.out _ HQ.out).2.2.2.2.2.2.1 (HC.out _ HQ.out).2.2.2.2.2.2.2 i _ HI2.out).mono ?_
            rintro e w6 ⟨rfl, b6⟩
            replace HQ := Lib.hid (HQ1.out _ _ HQ.out b6)
            clear b6 c0 c1 c2 c3 c4 c5 c6 c7 c8 c9
            obtain ⟨c0, c1, c2, c3, c4, c5, c6, c7, c8, c9⟩ := (HC.out _ HQ.out).1
            go_wp2_with fail
            refine (ishadow _ P R X V U D Q ns ni nz ls li lz As cs Ai ci Az cz D0 (HC.out _ HQ.out).2.2.2.1 (HC.out _ HQ.out).2.2.2.2.1 hs.out hi.out nA tW (HC.out _ HQ.out).2.2.1 a i Ha.out z HZ.out).mono ?_
            rintro e w7 ⟨rfl, b7⟩
            replace HQ := Lib.hid (HQ1.out _ _ HQ.out b7)
            clear b7 c0 c1 c2 c3 c4 c5 c6 c7 c8 c9
            go_wp2_with fail
            go_roundw
            case rel => exact ⟨i + 1, by omega, by omega, by go_num, HQ.out⟩
            case measure => simp [intOf]; omega
  case rest =>
  replace HQ := Lib.hid hcut
  clear hcut c0 c1 c2 c3 c4 c5 c6 c7 c8 c9 I8 I9 HLL HFT Ha Hf Ht hs hi HC
  have B3 := Lib.hid (HEND.out _ HQ.out).2.2.2.1
  have R3 := Lib.hid ((R0.out.below B3.out (Nat.le_refl _)).more B3.out.size)
  go_wp2_with fail
  refine (drawshadow _ _ _ _ HBY.out HBIG.out R3.out).mono ?_
  rintro e w7 ⟨⟨P, R, X, V, U, D, Q, ns, ni, nz, ls, li, lz, As, cs, Ai, ci, Az, cz, b, u, rfl, ho, hn, hj, hk1, hk2, hab, hu⟩, b7⟩
  have hin := ho.inSky
  clear ho
  obtain ⟨D2, hD2⟩ : ∃ d, d = w7.heap.size := ⟨_, rfl⟩
  obtain ⟨WM, hW⟩ : ∃ W, W = w7.alloc (.cells #[.int .i64 P, .slice As ns cs, .slice Ai ni ci, .int .i64 R, .int .i64 X, .int .i64 V, .int .i64 U, .int .i64 D, .slice Az nz cz, .int .i64 Q] 28) := ⟨_, rfl⟩
  have b7' : Below wc.heap.size wc WM := by rw [hW]; exact b7.alloc b7.size _
  have IL : InSky WM (D2) As ns cs Ai ni ci Az nz cz ls li lz := by rw [hW, hD2]; exact hin.below ((Below.refl w7.heap.size w7).alloc (Nat.le_refl _) _) (Nat.le_refl _)
  have DL : D2 ≤ WM.heap.size := by rw [hW, hD2]; simp
  obtain ⟨GM, hG⟩ : ∃ g, g = w7.heap.size := ⟨_, rfl⟩
  have ZL : Blk WM GM 28 #[.int .i64 P, .slice As ns cs, .slice Ai ni ci, .int .i64 R, .int .i64 X, .int .i64 V, .int .i64 U, .int .i64 D, .slice Az nz cz, .int .i64 Q] := by rw [hW, hG]; exact Blk.new _ _ _
  have hns : ns = ls.length := IL.ns_
  have hs : Hid (ns ≤ 16777216) := Lib.hid (by omega)
  have hi : Hid (ni ≤ 16777216) := Lib.hid (by omega)
  have Hb : Hid (J64 b) := Lib.hid (by unfold J64; omega)
  obtain ⟨QM, hQM⟩ : ∃ QM : World → Prop, ∀ wr, QM wr ↔ Below WM.heap.size WM wr := ⟨_, fun _ => Iff.rfl⟩
  have K0 : Hid (QM WM) := Lib.hid ((hQM _).2 (Below.refl _ _))
  have K1 : Hid (∀ wr wr', QM wr → Below wr.heap.size wr wr' → QM wr') := Lib.hid fun wr wr' h h' => (hQM _).2 (((hQM _).1 h).trans (h'.mono ((hQM _).1 h).size))
  have KC : Hid (∀ wr, QM wr → (wr.cell? ⟨GM, 0, none⟩ = some (.int .i64 P) ∧ wr.cell? ⟨GM, 1, none⟩ = some (.slice As ns cs) ∧ wr.cell? ⟨GM, 2, none⟩ = some (.slice Ai ni ci) ∧ wr.cell? ⟨GM, 3, none⟩ = some (.int .i64 R) ∧ wr.cell? ⟨GM, 4, none⟩ = some (.int .i64 X) ∧ wr.cell? ⟨GM, 5, none⟩ = some (.int .i64 V) ∧ wr.cell? ⟨GM, 6, none⟩ = some (.int .i64 U) ∧ wr.cell? ⟨GM, 7, none⟩ = some (.int .i64 D) ∧ wr.cell? ⟨GM, 8, none⟩ = some (.slice Az nz cz) ∧ wr.cell? ⟨GM, 9, none⟩ = some (.int .i64 Q)) ∧ QQ wr ∧ Errs wr nA tW ∧ InSky wr (D2) As ns cs Ai ni ci Az nz cz ls li lz ∧ D2 ≤ wr.heap.size ∧ Below w.heap.size w wr) := Lib.hid fun wr h => by
    have hb := (hQM _).1 h
    have hq : QQ wr := HQ1.out _ _ HQ.out (b7'.trans (hb.mono b7'.size))
    have he := HEND.out _ hq
    exact ⟨(ZL.below hb ZL.lt).ten, hq, he.2.2.2.2, IL.below hb DL, Nat.le_trans DL hb.size, he.2.2.2.1⟩
  obtain ⟨n, hn1⟩ : ∃ z, shOf U D ls li b u = z := ⟨_, rfl⟩
  obtain ⟨xb, hxb⟩ : ∃ z, arcS ls li b u = z := ⟨_, rfl⟩
  obtain ⟨wb, hwb⟩ : ∃ z, arcW ls li b = z := ⟨_, rfl⟩
  obtain ⟨sn, hsn⟩ : ∃ z, plc 0 U u = z := ⟨_, rfl⟩
  obtain ⟨v, hv1⟩ : ∃ z, (n == 2) = z := ⟨_, rfl⟩
  have HXB : Hid ((0 ≤ xb ∧ xb < 360) ∧ (0 ≤ wb ∧ wb < 360) ∧ (0 ≤ sn ∧ sn < 360)) := Lib.hid (by rw [← hxb, ← hwb, ← hsn]; exact ⟨arcS_bd _ _ _ _, arcW_bd _ _ _, plc_bd _ _ _⟩)
  have HSI : Hid (∀ i : Int, 0 ≤ i → i ≤ wb → 0 ≤ b → b < ns → ¬ n = 1 → (gapf (xb + i) (sn + 180) ≤ D ↔ n = 2)) := Lib.hid fun i i0 i1 h0 h1 h2 => by
    rw [← hxb, ← hsn]; rw [← hwb] at i1
    exact shadow_true U D ls li b u n hk1 h0 (by rw [← hns]; exact h1) hn1 h2 i i0 i1
  have HN1 := Lib.hid hn1; have HXS := Lib.hid hxb; have HXW := Lib.hid hwb; have HSN := Lib.hid hsn; have HVN := Lib.hid hv1
  have HVE : Hid (v = true ↔ n = 2) := Lib.hid (by rw [← hv1]; simp)
  clear hn1 hxb hwb hsn hv1 hn hj hk1 hk2 hab hu hQM IL DL ZL hns b7 b7' hin R0 E0 HBY HBIG B3 R3
  go_wp2_with fail
  rw [← hW, ← hG]
  clear hW hG hD2
  obtain ⟨c0, c1, c2, c3, c4, c5, c6, c7, c8, c9⟩ := (KC.out _ K0.out).1
  go_wp2_with fail
  refine (ishadow WM P R X V U D Q ns ni nz ls li lz As cs Ai ci Az cz D2 (KC.out _ K0.out).2.2.2.1 (KC.out _ K0.out).2.2.2.2.1 hs.out hi.out nA tW (KC.out _ K0.out).2.2.1 b u Hb.out n HN1.out).mono ?_
  rintro e w8 ⟨rfl, b8⟩
  have K8 := Lib.hid (K1.out _ _ K0.out b8)
  clear b8 c0 c1 c2 c3 c4 c5 c6 c7 c8 c9 K0
  obtain ⟨c0, c1, c2, c3, c4, c5, c6, c7, c8, c9⟩ := (KC.out _ K8.out).1
  go_wp2_with fail
  refine (inodeat w8 P R X V U D Q ns ni nz ls li lz As cs Ai ci Az cz D2 (KC.out _ K8.out).2.2.2.1 (KC.out _ K8.out).2.2.2.2.1 hs.out hi.out nA tW (KC.out _ K8.out).2.2.1 b u Hb.out xb wb HXS.out HXW.out).mono ?_
  rintro e w9 ⟨rfl, b9⟩
  have K9 := Lib.hid (K1.out _ _ K8.out b9)
  obtain ⟨gx, hgx⟩ : ∃ g, g = w9.heap.size := ⟨_, rfl⟩
  obtain ⟨WX, hWX⟩ : ∃ W, W = w9.alloc (.cells #[.int .i64 xb, .int .i64 wb] 38) := ⟨_, rfl⟩
  have ZX : Blk WX gx 38 #[.int .i64 xb, .int .i64 wb] := by rw [hWX, hgx]; exact Blk.new _ _ _
  have KX : QM WX := K1.out _ _ K9.out (by rw [hWX]; exact (Below.refl _ _).alloc (Nat.le_refl _) _)
  obtain ⟨QX, hQX⟩ : ∃ QX : World → Prop, ∀ wr, QX wr ↔ Below WX.heap.size WX wr := ⟨_, fun _ => Iff.rfl⟩
  have X0 : Hid (QX WX) := Lib.hid ((hQX _).2 (Below.refl _ _))
  have X1 : Hid (∀ wr wr', QX wr → Below wr.heap.size wr wr' → QX wr') := Lib.hid fun wr wr' h h' => (hQX _).2 (((hQX _).1 h).trans (h'.mono ((hQX _).1 h).size))
  have XC : Hid (∀ wr, QX wr → (wr.cell? ⟨gx, 0, none⟩ = some (.int .i64 xb) ∧ wr.cell? ⟨gx, 1, none⟩ = some (.int .i64 wb) ∧ (wr.cell? ⟨GM, 0, none⟩ = some (.int .i64 P) ∧ wr.cell? ⟨GM, 1, none⟩ = some (.slice As ns cs) ∧ wr.cell? ⟨GM, 2, none⟩ = some (.slice Ai ni ci) ∧ wr.cell? ⟨GM, 3, none⟩ = some (.int .i64 R) ∧ wr.cell? ⟨GM, 4, none⟩ = some (.int .i64 X) ∧ wr.cell? ⟨GM, 5, none⟩ = some (.int .i64 V) ∧ wr.cell? ⟨GM, 6, none⟩ = some (.int .i64 U) ∧ wr.cell? ⟨GM, 7, none⟩ = some (.int .i64 D) ∧ wr.cell? ⟨GM, 8, none⟩ = some (.slice Az nz cz) ∧ wr.cell? ⟨GM, 9, none⟩ = some (.int .i64 Q))) ∧ QM wr) := Lib.hid fun wr h => by
    have hb := (hQX _).1 h
    have hm := K1.out _ _ KX hb
    exact ⟨⟨(ZX.below hb ZX.lt).cell 0, (ZX.below hb ZX.lt).cell 1, (KC.out _ hm).1⟩, hm⟩
  clear b9 c0 c1 c2 c3 c4 c5 c6 c7 c8 c9 ZX KX hQX K8 K9
  go_upto_region 15 with fail
  rw [← hWX, ← hgx]
  clear hWX hgx
  obtain ⟨d0, d1, c0, c1, c2, c3, c4, c5, c6, c7, c8, c9⟩ := (XC.out _ X0.out).1
  go_upto_block 2 with fail
  go_cut [16] from 88 to 123 (fun _ wx => QX wx)
  case first =>
    go_wp2_with fail
    go_loopw [16] (fun iv wr => ∃ j : Nat, (j : Int) ≤ wb + 1 ∧ iv = .int .i64 j ∧ QX wr) (fun iv _ => (wb + 1 - intOf iv).toNat)
    case atStart => exact ⟨0, by have := HXB.out; omega, rfl, X0.out⟩
    case round =>
      clear d0 d1 c0 c1 c2 c3 c4 c5 c6 c7 c8 c9
      obtain ⟨j, hj, rfl, hq⟩ := hrel
      have HX := Lib.hid hq
      clear hq
      obtain ⟨d0, d1, c0, c1, c2, c3, c4, c5, c6, c7, c8, c9⟩ := (XC.out _ HX.out).1
      by_cases hjl : (j : Int) ≤ wb
      case neg =>
        go_wp2_with fail
        go_meet
        exact HX.out
      case pos =>
        cases hb1 : (n != 1)
        · go_wp2_with fail
          go_meet
          exact HX.out
        · have HN : Hid (¬ n = 1) := Lib.hid (by simpa using hb1)
          by_cases hb0 : 0 ≤ b
          case neg =>
            go_wp2_with fail
            go_meet
            exact HX.out
          case pos =>
            by_cases hbl : b < (ns : Int)
            case neg =>
              go_wp2_with fail
              go_meet
              exact HX.out
            case pos =>
              have hxb := HXB.out
              obtain ⟨z, hz⟩ : ∃ z, gapf (xb + j) (sn + 180) = z := ⟨_, rfl⟩
              have hzn : z ≤ D ↔ n = 2 := by rw [← hz]; exact HSI.out j (by omega) hjl hb0 hbl HN.out
              have HZ := Lib.hid hz; have HZN := Lib.hid hzn
              have w1 : IntKind.i64.wrap (xb + (j : Int)) = xb + (j : Int) := wrap_in _ (by omega) (by omega)
              have w2 : IntKind.i64.wrap (sn + 180) = sn + 180 := wrap_in _ (by omega) (by omega)
              have hvn := HVN.out
              have hjb : (j : Int) < 400 := by omega
              clear hz hzn hxb
              by_cases hzl : z ≤ D
              all_goals
                cases v
                all_goals first
                  | (exfalso; have h1 := HVE.out; have h2 := HZN.out; simp at h1; omega)
                  | (go_upto_region 18 with fail
                     go_region_held3 (fun w' => w'.cell? ⟨gx, 0, none⟩ = some (.int .i64 xb) ∧ w'.cell? ⟨gx, 1, none⟩ = some (.int .i64 wb) ∧ (w'.cell? ⟨GM, 0, none⟩ = some (.int .i64 P) ∧ w'.cell? ⟨GM, 1, none⟩ = some (.slice As ns cs) ∧ w'.cell? ⟨GM, 2, none⟩ = some (.slice Ai ni ci) ∧ w'.cell? ⟨GM, 3, none⟩ = some (.int .i64 R) ∧ w'.cell? ⟨GM, 4, none⟩ = some (.int .i64 X) ∧ w'.cell? ⟨GM, 5, none⟩ = some (.int .i64 V) ∧ w'.cell? ⟨GM, 6, none⟩ = some (.int .i64 U) ∧ w'.cell? ⟨GM, 7, none⟩ = some (.int .i64 D) ∧ w'.cell? ⟨GM, 8, none⟩ = some (.slice Az nz cz) ∧ w'.cell? ⟨GM, 9, none⟩ = some (.int .i64 Q))) (first | exact ⟨d0, d1, c0, c1, c2, c3, c4, c5, c6, c7, c8, c9⟩ | exact hcB | exact hcA | go_keep) (first
                       | (go_at_call 14; refine (isun _ P R X V U D Q ns ni nz ls li lz As cs Ai ci Az cz u sn HSN.out).mono ?_; rintro e wA ⟨rfl, bA⟩; have HA : Hid (QX wA) := Lib.hid (by first | exact X1.out _ _ HX.out ((Below.refl _ _).drew.trans bA) | exact X1.out _ _ HX.out bA); have hcA := (XC.out _ HA.out).1; clear bA)
                       | (go_at_call 13; refine (igapOf (xb + j) (sn + 180) _).mono ?_; rintro e wB ⟨rfl, bB⟩; rw [HZ.out]; have HB : Hid (QX wB) := Lib.hid (X1.out _ _ HA.out bB); have hcB := (XC.out _ HB.out).1; clear bB))
                     go_wp2_with fail
                     go_roundw
                     case rel => exact ⟨j + 1, by omega, by go_num, HB.out⟩
                     case measure => simp [intOf]; omega)
  case rest =>
  have HE : Hid (QQ wc) := Lib.hid (KC.out _ (XC.out _ hcut).2).2.1
  clear hcut d0 d1 c0 c1 c2 c3 c4 c5 c6 c7 c8 c9 XC X1 X0 KC K1 HSI HXB HVE HVN HN1 HXS HXW HSN Hb hs hi HQ
  obtain ⟨c0, c1, c2, c3, c4, c5, c6, c7, c8, c9⟩ := (HEND.out _ HE.out).1
  go_wp2_with fail
  refine (HEND.out _ HE.out).2.1.mono ?_
  rintro e w10 ⟨m, rfl, hm, b10⟩
  have HM := Lib.hid (HMK.out m hm)
  replace HE := Lib.hid (HQ1.out _ _ HE.out b10)
  clear hm b10 c0 c1 c2 c3 c4 c5 c6 c7 c8 c9
  go_wp2_with fail
  refine (HEND.out _ HE.out).2.2.1.mono ?_
  rintro e w11 ⟨rfl, b11⟩
  have HF := Lib.hid ((HEND.out _ HE.out).2.2.2.1.trans (b11.mono (HEND.out _ HE.out).2.2.2.1.size))
  obtain ⟨k, hk⟩ : ∃ k, ticksOf l9 = k := ⟨_, rfl⟩
  have hle : (m : Int) ≤ k := by rw [← hk]; exact HM.out
  rw [hk]
  clear b11 hk
  go_wp2
  go_ret
  exact ⟨rfl, HF.out⟩
end Go.Proofs.YtpaedbmdcbmpiaaDoor
