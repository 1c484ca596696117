/- What law FnSight asks of sight, in plain words: it is the same in both directions, and what is sure (or none) is so wherever both may truly be. The walk of law FnSight, for a code that is read, where the program's two sentinels lie. -/
import Derived.Test.YtffjkdbnkljmhaaDoorWindows
import Derived.Test.YtffjkdbnkljmhaaDoorDrawSats
import Derived.Test.YtffjkdbnkljmhaaDoorDrawSight
import Derived.Test.YtffjkdbnkljmhaaDoorBig
import Derived.Deep.DeepCutAuto
import Derived.Deep.CutRange
import Derived.Deep.CutBlock
namespace Go.Proofs.YtffjkdbnkljmhaaDoor
open Go.RowKit
set_option linter.unusedVariables false
theorem gapf_comm (a b : Int) : gapf a b = gapf b a := by unfold gapf mnf; split <;> split <;> omega
theorem sight_comm (P R X V : Int) (ls : List Sat4) (li : List Tri) (a b t : Int) : sightOf P R X V ls li b a t = sightOf P R X V ls li a b t := by
  unfold sightOf gapAt douOf
  rw [limI_comm, Int.add_comm (arcW ls li b), gapf_comm]
theorem sight_neg (P R X V : Int) (ls : List Sat4) (li : List Tri) (a b t : Int) (h : limI P R X V ls li a b < 0) : sightOf P R X V ls li a b t = 0 := by
  unfold sightOf sightI sgt; rw [if_pos (.inl h)]
/-- an arc of a drawn sky is at most 42 wide, and even -/
theorem arcW_even (ls : List Sat4) (li : List Tri) (node : Int) (h : ∀ x ∈ ls, Oke x) : ∃ p : Int, arcW ls li node = 2 * p ∧ 0 ≤ p ∧ p ≤ 21 := by
  by_cases h0 : node < 0
  · exact ⟨0, by unfold arcW; rw [if_pos h0]; rfl, by omega, by omega⟩
  by_cases h1 : node < ls.length
  · obtain ⟨k, rfl⟩ : ∃ k : Nat, node = k := ⟨node.toNat, by omega⟩
    have hk : k < ls.length := by omega
    have he := (h _ (List.getElem_mem hk)).2.2.2.2
    rw [(arc_sat ls li 0 hk).2]
    unfold widW
    by_cases h2 : (0 ≤ ls[k].e ∧ ls[k].e ≤ 360) ∧ 0 ≤ (0 : Int) ∧ (0 : Int) < 360
    · rw [if_pos h2]
      exact ⟨ls[k].e, by unfold mnf; split <;> omega, by omega, he⟩
    · rw [if_neg h2]; exact ⟨0, rfl, by omega, by omega⟩
  · exact ⟨0, by unfold arcW; rw [if_neg h0, if_neg h1]; rfl, by omega, by omega⟩
/-- the gap of a difference of angles -/
def gapc (d : Int) : Int := mnf (d % 360) (-d % 360)
theorem gapf_c (a b : Int) : gapf a b = gapc (a - b) := by
  unfold gapf gapc ang
  have e1 : (a % 360 - b % 360) % 360 = (a - b) % 360 := by omega
  have e2 : (b % 360 - a % 360) % 360 = -(a - b) % 360 := by omega
  rw [e1, e2]
theorem gapc_turn (a b : Int) (h : a % 360 = b % 360) : gapc a = gapc b := by
  have e : -a % 360 = -b % 360 := by omega
  unfold gapc; rw [h, e]
theorem gapc_step (x y m : Int) (h0 : y - x ≤ m) (h1 : x - y ≤ m) (h2 : m ≤ 84) : gapc y ≤ gapc x + m := by
  unfold gapc mnf
  split <;> split <;> omega
theorem sight_true (P R X V : Int) (ls : List Sat4) (li : List Tri) (a b t : Int) (h : ∀ x ∈ ls, Oke x) (lim n : Int) (hl : limI P R X V ls li a b = lim) (hn : sightOf P R X V ls li a b t = n) (h0 : 0 ≤ lim) (h1 : ¬ n = 1)
    (i k : Int) (hi0 : 0 ≤ i) (hi1 : i ≤ arcW ls li a) (hk0 : 0 ≤ k) (hk1 : k ≤ arcW ls li b) : gapf (arcS ls li a t + i) (arcS ls li b t + k) ≤ lim ↔ n = 2 := by
  obtain ⟨p, hp, p0, p1⟩ := arcW_even ls li a h
  obtain ⟨q, hq, q0, q1⟩ := arcW_even ls li b h
  unfold sightOf gapAt douOf at hn
  rw [hl, hp, hq] at hn
  rw [hp] at hi1; rw [hq] at hk1
  have hm1 : midf (arcS ls li a t) (2 * p) = ang (ang (arcS ls li a t) + p) := by unfold midf; rw [if_pos (by omega), show 2 * p / 2 = p by omega]
  have hm2 : midf (arcS ls li b t) (2 * q) = ang (ang (arcS ls li b t) + q) := by unfold midf; rw [if_pos (by omega), show 2 * q / 2 = q by omega]
  rw [hm1, hm2, gapf_c, show (2 * p + 2 * q) / 2 = p + q by omega] at hn
  rw [gapf_c]
  generalize arcS ls li a t = A at hn ⊢
  generalize arcS ls li b t = B at hn ⊢
  have e : gapc (ang (ang A + p) - ang (ang B + q)) = gapc ((A + p) - (B + q)) := gapc_turn _ _ (by unfold ang; omega)
  rw [e] at hn
  have s1 := gapc_step ((A + p) - (B + q)) ((A + i) - (B + k)) (p + q) (by omega) (by omega) (by omega)
  have s2 := gapc_step ((A + i) - (B + k)) ((A + p) - (B + q)) (p + q) (by omega) (by omega) (by omega)
  generalize gapc ((A + p) - (B + q)) = g at hn s1 s2
  generalize gapc ((A + i) - (B + k)) = g' at s1 s2 ⊢
  unfold sightI sgt at hn
  by_cases c1 : lim < 0 ∨ lim < g - (p + q)
  · rw [if_pos c1] at hn
    omega
  · rw [if_neg c1] at hn
    by_cases c2 : g + (p + q) ≤ lim
    · rw [if_pos c2] at hn; omega
    · rw [if_neg c2] at hn; omega
/-- the windows of a drawn range -/
theorem win_small (H : Int → Bool) (f t i : Int) (hf : -2 ≤ f) (hf2 : f ≤ 17) (ht : t ≤ 56) (ht0 : -2 ≤ t) (h0 : f ≤ i) (h1 : i < t) : inL (winOf H f t) i = (decide (0 ≤ i) && H i) := by
  rw [win_has H f t i (by unfold J64; omega)]
  have e1 : highT t = t := by unfold highT mnf wrap64; split <;> omega
  have e2 : (lowT f ≤ i) ↔ 0 ≤ i := by unfold lowT mxf; split <;> omega
  by_cases c : 0 ≤ i
  · rw [decide_eq_true c]
    cases hH : H i
    · rw [decide_eq_false (by simp)]; rfl
    · rw [decide_eq_true ⟨⟨e2.2 c, by omega⟩, rfl⟩]; rfl
  · rw [decide_eq_false c, decide_eq_false (fun h => c (e2.1 h.1.1))]; rfl
end Go.Proofs.YtffjkdbnkljmhaaDoor
namespace Go.Proofs.YtffjkdbnkljmhaaDoor
open Go.ChangeShapes Go.WideShapes Go.ChangeAt Go.RowKit
set_option linter.unusedVariables false
theorem bne_of {a b : Int} (h : a = b) : (a != b) = false := by rw [h]; exact bne_self_eq_false b
set_option maxHeartbeats 6400000 in
set_option maxRecDepth 100000 in
theorem coreSight (w : World) (A : Option Addr) (cap : Nat) (xs : List Value) (hB : Bytes xs) (hbig : xs.length ≤ 1048576) (hcap : xs.length ≤ cap) (hm0 : cap ≤ 9223372036854775807) (r0 : Reads w w.heap.size A xs) (nA tW : Addr) (e0 : Errs w nA tW) :
    Calls Tryd.prog 4 #[.slice A xs.length cap] w fun e w' => e = .returned (.bool true) ∧ Below w.heap.size w w' := by
  have R0 := Lib.hid r0; have E0 := Lib.hid e0; have HBY := Lib.hid hB; have HBIG := Lib.hid hbig; clear r0 e0
  go_enter Tryd.func4, Tryd.ntmps4
  go_wp2_with fail
  refine (big_no _ _ _ _ hbig hm0 hcap).mono ?_
  rintro e w1 ⟨rfl, rfl⟩
  go_wp2_with fail
  refine (drawsight _ _ _ _ hB hbig R0.out).mono ?_
  rintro e w1 ⟨⟨P, R, X, V, U, D, Q, ns, ni, nz, ls, li, lz, As, cs, Ai, ci, Az, cz, a, b, t, rfl, ho, hn, hj, hk1, hk2, hab, ht⟩, b1⟩
  have hin := ho.inSky
  clear ho
  obtain ⟨D0, hD0⟩ : ∃ d, d = w1.heap.size := ⟨_, rfl⟩
  obtain ⟨WL, hW⟩ : ∃ W, W = w1.alloc (.cells #[.int .i64 P, .slice As ns cs, .slice Ai ni ci, .int .i64 R, .int .i64 X, .int .i64 V, .int .i64 U, .int .i64 D, .slice Az nz cz, .int .i64 Q] 28) := ⟨_, rfl⟩
  have TL : Below w.heap.size w WL := by rw [hW]; exact b1.alloc b1.size _
  have IL : InSky WL (D0) As ns cs Ai ni ci Az nz cz ls li lz := by rw [hW, hD0]; exact hin.below ((Below.refl w1.heap.size w1).alloc (Nat.le_refl _) _) (Nat.le_refl _)
  have DL : D0 ≤ WL.heap.size := by rw [hW, hD0]; simp
  have ZL : Blk WL w1.heap.size 28 #[.int .i64 P, .slice As ns cs, .slice Ai ni ci, .int .i64 R, .int .i64 X, .int .i64 V, .int .i64 U, .int .i64 D, .slice Az nz cz, .int .i64 Q] := by rw [hW]; exact Blk.new _ _ _
  obtain ⟨G, hG⟩ : ∃ g, g = w1.heap.size := ⟨_, rfl⟩
  rw [← hG] at ZL
  obtain ⟨QQ, hQ⟩ : ∃ QQ : World → Prop, ∀ wr, QQ wr ↔ Below WL.heap.size WL wr := ⟨_, fun _ => Iff.rfl⟩
  have HQ : Hid (QQ WL) := Lib.hid ((hQ _).2 (Below.refl _ _))
  have HQ1 : Hid (∀ wr wr', QQ wr → Below wr.heap.size wr wr' → QQ wr') := Lib.hid fun wr wr' h h' => (hQ _).2 (((hQ _).1 h).trans (h'.mono ((hQ _).1 h).size))
  have HC : Hid (∀ wr, QQ wr → (wr.cell? ⟨G, 0, none⟩ = some (.int .i64 P) ∧ wr.cell? ⟨G, 1, none⟩ = some (.slice As ns cs) ∧ wr.cell? ⟨G, 2, none⟩ = some (.slice Ai ni ci) ∧ wr.cell? ⟨G, 3, none⟩ = some (.int .i64 R) ∧ wr.cell? ⟨G, 4, none⟩ = some (.int .i64 X) ∧ wr.cell? ⟨G, 5, none⟩ = some (.int .i64 V) ∧ wr.cell? ⟨G, 6, none⟩ = some (.int .i64 U) ∧ wr.cell? ⟨G, 7, none⟩ = some (.int .i64 D) ∧ wr.cell? ⟨G, 8, none⟩ = some (.slice Az nz cz) ∧ wr.cell? ⟨G, 9, none⟩ = some (.int .i64 Q)) ∧ Below w.heap.size w wr ∧ Errs wr nA tW ∧ InSky wr (D0) As ns cs Ai ni ci Az nz cz ls li lz ∧ D0 ≤ wr.heap.size) := Lib.hid fun wr h => by
    have hb := (hQ _).1 h
    exact ⟨(ZL.below hb ZL.lt).ten, TL.trans (hb.mono TL.size), (E0.out.below TL).below hb, IL.below hb DL, Nat.le_trans DL hb.size⟩
  have hs : Hid (ns ≤ 16777216) := Lib.hid (by omega)
  have hi : Hid (ni ≤ 16777216) := Lib.hid (by omega)
  have HP := Lib.hid hj.1; have HK1 : Hid (∀ x ∈ ls, Ok4 x) := Lib.hid (fun x hx => (hk1 x hx).ok4); have HK2 := Lib.hid hk2
  have Ha : Hid (J64 a) := Lib.hid (by unfold J64; omega)
  have Hb : Hid (J64 b) := Lib.hid (by unfold J64; omega)
  obtain ⟨n, hn1⟩ : ∃ z, sightOf P R X V ls li a b t = z := ⟨_, rfl⟩
  obtain ⟨lim, hl1⟩ : ∃ z, limI P R X V ls li a b = z := ⟨_, rfl⟩
  obtain ⟨v, hv1⟩ : ∃ z, decide (n = 2) = z := ⟨_, rfl⟩
  obtain ⟨xa, hxa⟩ : ∃ z, arcS ls li a t = z := ⟨_, rfl⟩
  obtain ⟨xb, hxb⟩ : ∃ z, arcS ls li b t = z := ⟨_, rfl⟩
  obtain ⟨wa, hwa⟩ : ∃ z, arcW ls li a = z := ⟨_, rfl⟩
  obtain ⟨wb, hwb⟩ : ∃ z, arcW ls li b = z := ⟨_, rfl⟩
  have HN1 := Lib.hid hn1; have HN2 : Hid (sightOf P R X V ls li b a t = n) := Lib.hid (by rw [sight_comm]; exact hn1)
  have HL := Lib.hid hl1
  have HV : Hid (decide (sightOf P R X V ls li a b t = 2) = v) := Lib.hid (by rw [hn1]; exact hv1)
  have HVN : Hid ((n == 2) = v) := Lib.hid (by rw [← hv1]; rfl)
  have HNEG : Hid (lim < 0 → (n != 0) = false) := Lib.hid fun h => bne_of (by rw [← hn1]; exact sight_neg P R X V ls li a b t (by rw [hl1]; exact h))
  have HSI : Hid (∀ i k : Int, 0 ≤ i → i ≤ wa → 0 ≤ k → k ≤ wb → 0 ≤ lim → ¬ n = 1 → (gapf (xa + i) (xb + k) ≤ lim ↔ n = 2)) := Lib.hid fun i k i0 i1 k0 k1 h0 h1 => by
    rw [← hxa, ← hxb]; rw [← hwa] at i1; rw [← hwb] at k1
    exact sight_true P R X V ls li a b t hk1 lim n hl1 hn1 h0 h1 i k i0 i1 k0 k1
  have HXB : Hid ((0 ≤ xa ∧ xa < 360) ∧ (0 ≤ xb ∧ xb < 360) ∧ (0 ≤ wa ∧ wa < 360) ∧ (0 ≤ wb ∧ wb < 360)) := Lib.hid (by rw [← hxa, ← hxb, ← hwa, ← hwb]; exact ⟨arcS_bd _ _ _ _, arcS_bd _ _ _ _, arcW_bd _ _ _, arcW_bd _ _ _⟩)
  have HXA := Lib.hid hxa; have HXBB := Lib.hid hxb; have HWA := Lib.hid hwa; have HWB := Lib.hid hwb
  have HVE : Hid (v = true ↔ n = 2) := Lib.hid (by rw [← hv1]; simp)
  clear hn1 hl1 hv1 hxa hxb hwa hwb hn hj hk1 hk2 hab ht hQ TL IL DL ZL b1 hin hB hbig hcap hm0
  go_wp2_with fail
  rw [← hW, ← hG]
  clear hW hG hD0
  obtain ⟨c0, c1, c2, c3, c4, c5, c6, c7, c8, c9⟩ := (HC.out _ HQ.out).1
  go_wp2_with fail
  refine (isight _ P R X V U D Q ns ni nz ls li lz As cs Ai ci Az cz D0 (HC.out _ HQ.out).2.2.2.1 (HC.out _ HQ.out).2.2.2.2 hs.out hi.out HP.out HK1.out HK2.out nA tW (HC.out _ HQ.out).2.2.1 a b Ha.out Hb.out t n HN1.out).mono ?_
  rintro e w2 ⟨rfl, b2⟩
  replace HQ := Lib.hid (HQ1.out _ _ HQ.out b2)
  clear b2 c0 c1 c2 c3 c4 c5 c6 c7 c8 c9
  obtain ⟨c0, c1, c2, c3, c4, c5, c6, c7, c8, c9⟩ := (HC.out _ HQ.out).1
  go_wp2_with fail
  refine (ilimit _ P R X V U D Q ns ni nz ls li lz As cs Ai ci Az cz D0 (HC.out _ HQ.out).2.2.2.1 (HC.out _ HQ.out).2.2.2.2 hs.out hi.out HP.out HK1.out HK2.out a b Ha.out Hb.out lim HL.out).mono ?_
  rintro e w3 ⟨rfl, b3⟩
  replace HQ := Lib.hid (HQ1.out _ _ HQ.out b3)
  clear b3 c0 c1 c2 c3 c4 c5 c6 c7 c8 c9
  obtain ⟨c0, c1, c2, c3, c4, c5, c6, c7, c8, c9⟩ := (HC.out _ HQ.out).1
  go_upto_region 6 with fail
  go_cut [62] from 38 to 61 (fun c wx => c = .bool false ∧ QQ wx)
  case first =>
    by_cases h0 : lim < 0
    all_goals
      try have hz := HNEG.out h0
      have hv := HVN.out
      go_wp2_with fail
      refine (isight _ P R X V U D Q ns ni nz ls li lz As cs Ai ci Az cz D0 (HC.out _ HQ.out).2.2.2.1 (HC.out _ HQ.out).2.2.2.2 hs.out hi.out HP.out HK1.out HK2.out nA tW (HC.out _ HQ.out).2.2.1 b a Hb.out Ha.out t n HN2.out).mono ?_
      rintro e w4 ⟨rfl, b4⟩
      replace HQ := Lib.hid (HQ1.out _ _ HQ.out b4)
      clear b4 c0 c1 c2 c3 c4 c5 c6 c7 c8 c9
      obtain ⟨c0, c1, c2, c3, c4, c5, c6, c7, c8, c9⟩ := (HC.out _ HQ.out).1
      go_wp2_with fail
      refine (isure _ P R X V U D Q ns ni nz ls li lz As cs Ai ci Az cz D0 (HC.out _ HQ.out).2.2.2.1 (HC.out _ HQ.out).2.2.2.2 hs.out hi.out HP.out HK1.out HK2.out nA tW (HC.out _ HQ.out).2.2.1 a b Ha.out Hb.out t v HV.out).mono ?_
      rintro e w5 ⟨rfl, b5⟩
      replace HQ := Lib.hid (HQ1.out _ _ HQ.out b5)
      clear b5 c0 c1 c2 c3 c4 c5 c6 c7 c8 c9
      obtain ⟨c0, c1, c2, c3, c4, c5, c6, c7, c8, c9⟩ := (HC.out _ HQ.out).1
      go_wp2_with fail
      go_meet
      exact ⟨by simp, HQ.out⟩
  case rest =>
  obtain ⟨rfl, hq⟩ := hcut
  replace HQ := Lib.hid hq
  clear hq HNEG HN1 HN2 HL HV c0 c1 c2 c3 c4 c5 c6 c7 c8 c9
  obtain ⟨c0, c1, c2, c3, c4, c5, c6, c7, c8, c9⟩ := (HC.out _ HQ.out).1
  go_wp2_with fail
  refine (inodeat _ P R X V U D Q ns ni nz ls li lz As cs Ai ci Az cz D0 (HC.out _ HQ.out).2.2.2.1 (HC.out _ HQ.out).2.2.2.2 hs.out hi.out nA tW (HC.out _ HQ.out).2.2.1 a t Ha.out xa wa HXA.out HWA.out).mono ?_
  rintro e w4 ⟨rfl, b4⟩
  replace HQ := Lib.hid (HQ1.out _ _ HQ.out b4)
  obtain ⟨gx, hgx⟩ : ∃ g, g = w4.heap.size := ⟨_, rfl⟩
  obtain ⟨Wx, hWx⟩ : ∃ W, W = w4.alloc (.cells #[.int .i64 xa, .int .i64 wa] 41) := ⟨_, rfl⟩
  have ZX : Hid (Blk Wx gx 41 #[.int .i64 xa, .int .i64 wa]) := Lib.hid (by rw [hWx, hgx]; exact Blk.new _ _ _)
  replace HQ : Hid (QQ Wx) := Lib.hid (HQ1.out _ _ HQ.out (by rw [hWx]; exact (Below.refl _ _).alloc (Nat.le_refl _) _))
  clear b4 c0 c1 c2 c3 c4 c5 c6 c7 c8 c9
  go_upto_region 9 with fail
  rw [← hWx, ← hgx]
  clear hWx hgx
  obtain ⟨c0, c1, c2, c3, c4, c5, c6, c7, c8, c9⟩ := (HC.out _ HQ.out).1
  go_wp2_with fail
  refine (inodeat _ P R X V U D Q ns ni nz ls li lz As cs Ai ci Az cz D0 (HC.out _ HQ.out).2.2.2.1 (HC.out _ HQ.out).2.2.2.2 hs.out hi.out nA tW (HC.out _ HQ.out).2.2.1 b t Hb.out xb wb HXBB.out HWB.out).mono ?_
  rintro e w5 ⟨rfl, b5⟩
  replace HQ := Lib.hid (HQ1.out _ _ HQ.out b5)
  replace ZX := Lib.hid (ZX.out.below b5 ZX.out.lt)
  obtain ⟨gy, hgy⟩ : ∃ g, g = w5.heap.size := ⟨_, rfl⟩
  obtain ⟨Wy, hWy⟩ : ∃ W, W = w5.alloc (.cells #[.int .i64 xb, .int .i64 wb] 41) := ⟨_, rfl⟩
  have ZY : Hid (Blk Wy gy 41 #[.int .i64 xb, .int .i64 wb]) := Lib.hid (by rw [hWy, hgy]; exact Blk.new _ _ _)
  replace ZX : Hid (Blk Wy gx 41 #[.int .i64 xa, .int .i64 wa]) := Lib.hid (by rw [hWy]; exact ZX.out.alloc _)
  replace HQ : Hid (QQ Wy) := Lib.hid (HQ1.out _ _ HQ.out (by rw [hWy]; exact (Below.refl _ _).alloc (Nat.le_refl _) _))
  obtain ⟨Q2, hQ2⟩ : ∃ Q2 : World → Prop, ∀ wr, Q2 wr ↔ Below Wy.heap.size Wy wr := ⟨_, fun _ => Iff.rfl⟩
  have K2 : Hid (Q2 Wy) := Lib.hid ((hQ2 _).2 (Below.refl _ _))
  have K21 : Hid (∀ wr wr', Q2 wr → Below wr.heap.size wr wr' → Q2 wr') := Lib.hid fun wr wr' h h' => (hQ2 _).2 (((hQ2 _).1 h).trans (h'.mono ((hQ2 _).1 h).size))
  have C2 : Hid (∀ wr, Q2 wr → (wr.cell? ⟨gx, 0, none⟩ = some (.int .i64 xa) ∧ wr.cell? ⟨gx, 1, none⟩ = some (.int .i64 wa) ∧ wr.cell? ⟨gy, 0, none⟩ = some (.int .i64 xb) ∧ wr.cell? ⟨gy, 1, none⟩ = some (.int .i64 wb)) ∧ Below w.heap.size w wr ∧ Errs wr nA tW) := Lib.hid fun wr h => by
    have hb := (hQ2 _).1 h
    have zx := ZX.out.below hb ZX.out.lt; have zy := ZY.out.below hb ZY.out.lt
    exact ⟨⟨zx.cell 0, zx.cell 1, zy.cell 0, zy.cell 1⟩, (HC.out _ HQ.out).2.1.trans (hb.mono (HC.out _ HQ.out).2.1.size), (HC.out _ HQ.out).2.2.1.below hb⟩
  clear b5 c0 c1 c2 c3 c4 c5 c6 c7 c8 c9
  go_upto_region 10 with fail
  rw [← hWy, ← hgy]
  clear hWy hgy hQ2 ZX ZY HQ HC HQ1
  obtain ⟨d0, d1, d2, d3⟩ := (C2.out _ K2.out).1
  go_upto_block 0 with fail
  go_cut [11, 12] from 71 to 104 (fun _ _ wx => Q2 wx)
  case first =>
    have hx := HXB.out
    by_cases h0 : 0 ≤ lim
    case neg =>
      have h0' : ¬ (lim ≥ 0) := h0
      go_wp2_with fail
      go_loopw [11, 12] (fun i k wr => i = .int .i64 0 ∧ Q2 wr) (fun _ _ _ => 0)
      case atStart => exact ⟨rfl, K2.out⟩
      case round =>
        obtain ⟨rfl, hq⟩ := hrel
        obtain ⟨d0, d1, d2, d3⟩ := (C2.out _ hq).1
        have HQ := Lib.hid hq
        clear hq
        go_wp2_with fail
        go_meet
        exact HQ.out
    case pos =>
      have HSH := Lib.hid h0
      cases hb1 : (n != 1)
      · go_wp2_with fail
        go_loopw [11, 12] (fun i k wr => i = .int .i64 0 ∧ Q2 wr) (fun _ _ _ => 0)
        case atStart => exact ⟨rfl, K2.out⟩
        case round =>
          obtain ⟨rfl, hq⟩ := hrel
          obtain ⟨d0, d1, d2, d3⟩ := (C2.out _ hq).1
          have HQ := Lib.hid hq
          clear hq
          go_wp2_with fail
          go_meet
          exact HQ.out
      · have HN : Hid (¬ n = 1) := Lib.hid (by simpa using hb1)
        go_wp2_with fail
        go_loopw [11, 12] (fun i k wr => ∃ j : Nat, (j : Int) ≤ wa + 1 ∧ i = .int .i64 j ∧ Q2 wr) (fun i _ _ => (wa + 1 - intOf i).toNat)
        case atStart => exact ⟨0, by omega, rfl, K2.out⟩
        case round =>
          clear d0 d1 d2 d3
          obtain ⟨j, hj, rfl, hq⟩ := hrel
          have HQ := Lib.hid hq
          clear hq
          obtain ⟨d0, d1, d2, d3⟩ := (C2.out _ HQ.out).1
          by_cases hjl : (j : Int) ≤ wa
          case neg =>
            go_wp2_with fail
            go_meet
            exact HQ.out
          case pos =>
            go_wp2_with fail
            go_loopw [12] (fun k wr => ∃ q : Nat, (q : Int) ≤ wb + 1 ∧ k = .int .i64 q ∧ Q2 wr) (fun k _ => (wb + 1 - intOf k).toNat)
            case atStart => exact ⟨0, by omega, rfl, HQ.out⟩
            case round =>
              clear d0 d1 d2 d3 HQ
              obtain ⟨q, hq1, rfl, hq⟩ := hrel
              have HQ := Lib.hid hq
              clear hq
              obtain ⟨d0, d1, d2, d3⟩ := (C2.out _ HQ.out).1
              by_cases hql : (q : Int) ≤ wb
              case neg =>
                go_wp2_with fail
                go_roundw
                case rel => exact ⟨j + 1, by omega, by go_num, HQ.out⟩
                case measure => simp [intOf]; omega
              case pos =>
                obtain ⟨z, hz⟩ : ∃ z, gapf (xa + j) (xb + q) = z := ⟨_, rfl⟩
                have HZ := Lib.hid hz
                have hzn : z ≤ lim ↔ n = 2 := by rw [← hz]; exact HSI.out j q (by omega) hjl (by omega) hql HSH.out HN.out
                have HZN := Lib.hid hzn
                clear hz hzn
                go_wp2_with fail
                refine (igapOf (xa + j) (xb + q) _).mono ?_
                rintro e w6 ⟨rfl, b6⟩
                rw [HZ.out]
                replace HQ := Lib.hid (K21.out _ _ HQ.out b6)
                have hvn := HVN.out
                clear b6 d0 d1 d2 d3
                by_cases hzl : z ≤ lim
                all_goals
                  cases v
                  all_goals first
                    | (exfalso; have h1 := HVE.out; have h2 := HZN.out; simp at h1; omega)
                    | (go_wp2_with fail
                       go_roundw
                       case rel => exact ⟨q + 1, by omega, by go_num, HQ.out⟩
                       case measure => simp [intOf]; omega)
  case rest =>
  have B3 := Lib.hid (C2.out _ hcut).2.1
  have E3 := Lib.hid (C2.out _ hcut).2.2
  have R3 := Lib.hid ((R0.out.below B3.out (Nat.le_refl _)).more B3.out.size)
  clear hcut K2 K21 C2 d0 d1 d2 d3 HSI HXB HXA HXBB HWA HWB HVE HVN HK1 HK2 HP Ha Hb hs hi R0
  go_wp2_with fail
  refine (drawwin _ _ _ _ HBY.out HBIG.out R3.out).mono ?_
  rintro e w7 ⟨⟨P, R, X, V, U, D, Q, ns, ni, nz, ls, li, lz, As, cs, Ai, ci, Az, cz, a, b, f, t, rfl, ho, hn, hj, hk1, hk2, hab, hft⟩, b7⟩
  have hin := ho.inSky
  clear ho
  obtain ⟨D2, hD2⟩ : ∃ d, d = w7.heap.size := ⟨_, rfl⟩
  obtain ⟨WM, hW⟩ : ∃ W, W = w7.alloc (.cells #[.int .i64 P, .slice As ns cs, .slice Ai ni ci, .int .i64 R, .int .i64 X, .int .i64 V, .int .i64 U, .int .i64 D, .slice Az nz cz, .int .i64 Q] 28) := ⟨_, rfl⟩
  have b7' : Below wc.heap.size wc WM := by rw [hW]; exact b7.alloc b7.size _
  have TL : Hid (Below w.heap.size w WM) := Lib.hid (B3.out.trans (b7'.mono B3.out.size))
  have EL : Hid (Errs WM nA tW) := Lib.hid (E3.out.below b7')
  have IL : Hid (InSky WM (D2) As ns cs Ai ni ci Az nz cz ls li lz) := Lib.hid (by rw [hW, hD2]; exact hin.below ((Below.refl w7.heap.size w7).alloc (Nat.le_refl _) _) (Nat.le_refl _))
  have DL : Hid (D2 ≤ WM.heap.size) := Lib.hid (by rw [hW, hD2]; simp)
  obtain ⟨G, hG⟩ : ∃ g, g = w7.heap.size := ⟨_, rfl⟩
  have ZL : Hid (Blk WM G 28 #[.int .i64 P, .slice As ns cs, .slice Ai ni ci, .int .i64 R, .int .i64 X, .int .i64 V, .int .i64 U, .int .i64 D, .slice Az nz cz, .int .i64 Q]) := Lib.hid (by rw [hW, hG]; exact Blk.new _ _ _)
  have hs : Hid (ns ≤ 16777216) := Lib.hid (by omega)
  have hi : Hid (ni ≤ 16777216) := Lib.hid (by omega)
  have HP := Lib.hid hj; have HK1 : Hid (∀ x ∈ ls, Ok4 x) := Lib.hid (fun x hx => (hk1 x hx).ok4); have HK2 := Lib.hid hk2
  have Ha : Hid (J64 a) := Lib.hid (by unfold J64; omega)
  have Hb : Hid (J64 b) := Lib.hid (by unfold J64; omega)
  have Hf : Hid (J64 f) := Lib.hid (by unfold J64; omega)
  have Ht : Hid (J64 t) := Lib.hid (by unfold J64; omega)
  obtain ⟨H, hH⟩ : ∃ H : Int → Bool, ∀ t, decide (sightOf P R X V ls li a b t = 2) = H t := ⟨_, fun _ => rfl⟩
  have HH := Lib.hid hH
  obtain ⟨L, hL⟩ : ∃ L, winOf H f t = L := ⟨_, rfl⟩
  have HLW : Hid (∀ i, f ≤ i → i < t → inL L i = (decide (0 ≤ i) && H i)) := Lib.hid fun i h0 h1 => by rw [← hL]; exact win_small H f t i (by omega) (by omega) (by omega) (by omega) h0 h1
  have HLL := Lib.hid hL
  clear hn hj hk1 hk2 hab hin b7 b7' B3 E3 R3 hH hL
  go_wp2_with fail
  rw [← hW, ← hG]
  clear hW hG hD2
  obtain ⟨c0, c1, c2, c3, c4, c5, c6, c7, c8, c9⟩ := ZL.out.ten
  go_wp2_with fail
  refine (isurewin WM P R X V U D Q ns ni nz ls li lz As cs Ai ci Az cz D2 IL.out DL.out hs.out hi.out HP.out HK1.out HK2.out nA tW EL.out a b Ha.out Hb.out f t Hf.out Ht.out H HH.out).mono ?_
  rintro e w8 ⟨A8, n8, k8, rfl, o8, b8⟩
  rw [HLL.out] at o8
  obtain ⟨D8, hD8⟩ : ∃ d, d = w8.heap.size := ⟨_, rfl⟩
  have S8 := o8.sl
  rw [← hD8] at S8
  obtain ⟨Q4, hQ4⟩ : ∃ Q4 : World → Prop, ∀ wr, Q4 wr ↔ Below w8.heap.size w8 wr := ⟨_, fun _ => Iff.rfl⟩
  have K4 : Hid (Q4 w8) := Lib.hid ((hQ4 _).2 (Below.refl _ _))
  have K41 : Hid (∀ wr wr', Q4 wr → Below wr.heap.size wr wr' → Q4 wr') := Lib.hid fun wr wr' h h' => (hQ4 _).2 (((hQ4 _).1 h).trans (h'.mono ((hQ4 _).1 h).size))
  have C4 : Hid (∀ wr, Q4 wr → (wr.cell? ⟨G, 0, none⟩ = some (.int .i64 P) ∧ wr.cell? ⟨G, 1, none⟩ = some (.slice As ns cs) ∧ wr.cell? ⟨G, 2, none⟩ = some (.slice Ai ni ci) ∧ wr.cell? ⟨G, 3, none⟩ = some (.int .i64 R) ∧ wr.cell? ⟨G, 4, none⟩ = some (.int .i64 X) ∧ wr.cell? ⟨G, 5, none⟩ = some (.int .i64 V) ∧ wr.cell? ⟨G, 6, none⟩ = some (.int .i64 U) ∧ wr.cell? ⟨G, 7, none⟩ = some (.int .i64 D) ∧ wr.cell? ⟨G, 8, none⟩ = some (.slice Az nz cz) ∧ wr.cell? ⟨G, 9, none⟩ = some (.int .i64 Q)) ∧ Below w.heap.size w wr ∧ Errs wr nA tW ∧ InSky wr (D2) As ns cs Ai ni ci Az nz cz ls li lz ∧ D2 ≤ wr.heap.size ∧ Sl wr D8 2 A8 n8 k8 (sv L) ∧ D8 ≤ wr.heap.size) := Lib.hid fun wr h => by
    have hb := (hQ4 _).1 h
    have hb2 : Below WM.heap.size WM wr := b8.trans (hb.mono b8.size)
    exact ⟨(ZL.out.below hb2 ZL.out.lt).ten, TL.out.trans (hb2.mono TL.out.size), EL.out.below hb2, IL.out.below hb2 DL.out, Nat.le_trans DL.out hb2.size, S8.below hb (by rw [hD8]; exact Nat.le_refl _), by rw [hD8]; exact hb.size⟩
  clear o8 b8 hD8 S8 hQ4 TL EL IL DL ZL c0 c1 c2 c3 c4 c5 c6 c7 c8 c9
  obtain ⟨c0, c1, c2, c3, c4, c5, c6, c7, c8, c9⟩ := (C4.out _ K4.out).1
  go_wp2_with fail
  go_loopw [19] (fun iv wr => ∃ i : Int, f ≤ i ∧ i ≤ t ∧ iv = .int .i64 i ∧ Q4 wr) (fun iv _ => (t - intOf iv).toNat)
  case atStart => exact ⟨f, by omega, by omega, rfl, K4.out⟩
  case round =>
    clear K4 c0 c1 c2 c3 c4 c5 c6 c7 c8 c9
    obtain ⟨i, hi0, hi1, rfl, hq⟩ := hrel
    have HQ := Lib.hid hq
    clear hq
    obtain ⟨c0, c1, c2, c3, c4, c5, c6, c7, c8, c9⟩ := (C4.out _ HQ.out).1
    by_cases hlt : i < t
    case pos =>
      by_cases h0 : 0 ≤ i
      case pos =>
        obtain ⟨v, hv⟩ : ∃ v, H i = v := ⟨_, rfl⟩
        have HV : Hid (decide (sightOf P R X V ls li a b i = 2) = v) := Lib.hid ((HH.out i).trans hv)
        have HI : Hid (inL L i = v) := Lib.hid (by rw [HLW.out i hi0 hlt, hv, decide_eq_true h0]; rfl)
        have h3 : i < 1000 := by omega
        clear hv
        go_wp2_with fail
        refine (iinspans _ D8 A8 n8 _ L (C4.out _ HQ.out).2.2.2.2.2.1 (C4.out _ HQ.out).2.2.2.2.2.2 i v HI.out).mono ?_
        rintro e w9 ⟨rfl, b9⟩
        replace HQ := Lib.hid (K41.out _ _ HQ.out b9)
        clear b9 c0 c1 c2 c3 c4 c5 c6 c7 c8 c9
        obtain ⟨c0, c1, c2, c3, c4, c5, c6, c7, c8, c9⟩ := (C4.out _ HQ.out).1
        go_wp2_with fail
        refine (isure _ P R X V U D Q ns ni nz ls li lz As cs Ai ci Az cz D2 (C4.out _ HQ.out).2.2.2.1 (C4.out _ HQ.out).2.2.2.2.1 hs.out hi.out HP.out HK1.out HK2.out nA tW (C4.out _ HQ.out).2.2.1 a b Ha.out Hb.out i v HV.out).mono ?_
        rintro e w10 ⟨rfl, b10⟩
        replace HQ := Lib.hid (K41.out _ _ HQ.out b10)
        clear b10 c0 c1 c2 c3 c4 c5 c6 c7 c8 c9
        go_wp2_with fail
        go_roundw
        case rel => exact ⟨i + 1, by omega, by omega, by go_num, HQ.out⟩
        case measure => simp [intOf]; omega
      case neg =>
        have HI : Hid (inL L i = false) := Lib.hid (by rw [HLW.out i hi0 hlt, decide_eq_false h0]; rfl)
        go_wp2_with fail
        refine (iinspans _ D8 A8 n8 _ L (C4.out _ HQ.out).2.2.2.2.2.1 (C4.out _ HQ.out).2.2.2.2.2.2 i false HI.out).mono ?_
        rintro e w9 ⟨rfl, b9⟩
        replace HQ := Lib.hid (K41.out _ _ HQ.out b9)
        clear b9 c0 c1 c2 c3 c4 c5 c6 c7 c8 c9
        go_wp2_with fail
        go_roundw
        case rel => exact ⟨i + 1, by omega, by omega, by go_num, HQ.out⟩
        case measure => simp [intOf]; omega
    case neg =>
      go_wp2_with fail
      go_ret
      exact ⟨rfl, (C4.out _ HQ.out).2.1⟩
end Go.Proofs.YtffjkdbnkljmhaaDoor
