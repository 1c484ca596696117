/- The program's ChangesOf at valid spans. -/
import Derived.Test.YtfnhfpahdgbfgaaTicks
import Derived.Test.YtfnhfpahdgbfgaaWithin
import Derived.Test.YtfnhfpahdgbfgaaChgFacts
import Derived.Test.YtfnhfpahdgbfgaaMid
import Derived.Deep.RegionHeld3
namespace Go.Proofs.Ytfnhfpahdgbfgaa
open Go.ChangeShapes Go.WideShapes Go.ChangeAt Go.RowKit
set_option linter.unusedVariables false
/-- what a function that answers a list of integers of its own answers -/
def GivesE (w : World) (l : List Int) (e : Ending) (w' : World) : Prop := ∃ A' n' c', e = .returned (.slice A' n' c') ∧ Own w' w.heap.size 3 1 A' n' c' (iv l) ∧ Below w.heap.size w w'
theorem Sl.midc {w w' : World} {lo hi s n c : Nat} {A : Option Addr} {xs : List Value} (h : Sl w hi s A n c xs) (hl : ∀ ad, A = some ad → lo ≤ ad.block) (hk : Keeps lo hi w w') : Sl w' hi s A n c xs := by
  refine ⟨h.len, fun hn => ?_, h.cap, h.capm, h.nil⟩
  obtain ⟨ad, e, hb, hc⟩ := h.rd hn
  refine ⟨ad, e, hb, fun j u hu => ?_⟩
  rw [← hc j u hu]
  exact hk.cell (by rw [block_of_add]; exact hl ad e) (by rw [block_of_add]; exact hb)
theorem Keeps.set_ {lo hi : Nat} {w w' : World} {a : Addr} (h : Keeps lo hi w w') (ha : a.block < lo) (u : Value) : Keeps lo hi w (w'.setCell a u) :=
  ⟨by simpa using h.1, fun b h1 h2 => (Below.heap_setCell w' a u b (by omega)).trans (h.2 b h1 h2)⟩
theorem NotAt.app {g n c n2 c2 : Nat} {w : World} {A A2 : Option Addr} (h : NotAt g A) (hat : (Value.slice A2 n2 c2).ownBlock = (Value.slice A n c).ownBlock ∨ (Value.slice A2 n2 c2).ownBlock = some w.heap.size) (hg : g < w.heap.size) : NotAt g A2 := by
  intro a e
  subst e
  rcases hat with e | e
  · cases A with
    | none => cases e
    | some a0 =>
      simp only [Value.ownBlock, Option.some.injEq] at e
      rw [e]; exact h a0 rfl
  · simp only [Value.ownBlock, Option.some.injEq] at e
    omega
theorem Sl.intE {w : World} {B n c : Nat} {A : Option Addr} {l : List Int} (h : Sl w B 1 A n c (iv l)) {k : Nat} (hk : k < n) : ∃ (ad : Addr) (hx : k < l.length), A = some ad ∧ ad.block < B ∧ w.cell? (ad.add k) = some (.int .i64 l[k]) := by
  obtain ⟨ad, hx, e, hb, hc⟩ := h.at_ hk
  have hx' : k < l.length := by simpa [iv] using hx
  exact ⟨ad, hx', e, hb, by rw [hc, iv_get]⟩
set_option maxRecDepth 100000 in
set_option maxHeartbeats 2000000 in
theorem ichanges (w : World) (D : Nat) (A : Option Addr) (n c : Nat) (l : List Sat4) (h : Sl w D 4 A n c (fl c4 l)) (hD : D ≤ w.heap.size) (hn : n ≤ 16777216) (a b : Int) (ha : 0 ≤ a) (hab : a < b) (hb : b ≤ 1000) (hk : ∀ x ∈ l, J64 x.p ∧ J64 x.h) :
    Calls Try.prog 37 #[.slice A n c, .int .i64 a, .int .i64 b] w (GivesE w (chg (linksL l) a (b - 1 - a).toNat)) := by
  obtain ⟨i0, hi0, hy0, hy1, hy2⟩ := info_parts intN_info
  have HS := Lib.hid h; have HK := Lib.hid hk
  clear h hk
  obtain ⟨W1, hW1⟩ : ∃ W, W = w.alloc (.cells #[] 3) := ⟨_, rfl⟩
  obtain ⟨g0, hg0⟩ : ∃ g, g = w.heap.size := ⟨_, rfl⟩
  have HO1 : Hid (Own W1 w.heap.size 3 1 (some ⟨g0, 0, none⟩) 0 0 (iv [])) := Lib.hid (by rw [hW1, hg0]; exact Own.madeN w w.heap.size _ (Nat.le_refl _))
  have HB1 : Hid (Below w.heap.size w W1) := Lib.hid (by rw [hW1]; exact (Below.refl _ _).alloc (Nat.le_refl _) _)
  have HGW : Hid (w.heap.size ≤ g0 ∧ g0 < W1.heap.size) := Lib.hid (by rw [hW1, hg0]; simp)
  obtain ⟨A0, hA0⟩ : ∃ z, z = a + 1 := ⟨_, rfl⟩
  have hm : mxf A0 1 = A0 := by unfold mxf; split <;> omega
  have HA0 := Lib.hid hA0
  have hA1 : 1 ≤ A0 ∧ A0 ≤ 1000 := by omega
  go_enter Try.func37, Try.ntmps37
  go_wp2_with fail
  rw [← hW1, ← hg0, ← hA0]
  clear hW1 hg0 hA0
  refine (rmax A0 1 _).mono ?_
  rintro e w2 ⟨rfl, b2⟩
  rw [hm]
  clear hm
  have HO2 := Lib.hid (HO1.out.on b2); have HB2 := Lib.hid (HB1.out.trans (b2.mono HB1.out.size)); have hs2 := Lib.hid b2.size
  clear b2 HO1 HB1
  go_wp2_with fail
  refine (rticks w2 A0 b (by omega) (by omega) hb).mono ?_
  rintro e w3 ⟨rfl, b3⟩
  obtain ⟨W4, hW4⟩ : ∃ W, W = w3.alloc (.cells #[.int .i64 A0, .int .i64 b] 30) := ⟨_, rfl⟩
  obtain ⟨g8, hg8⟩ : ∃ g, g = w3.heap.size := ⟨_, rfl⟩
  have b4 : Below w3.heap.size w3 W4 := by rw [hW4]; exact (Below.refl _ _).alloc (Nat.le_refl _) _
  have b34 := b3.trans (b4.mono b3.size)
  have HO4 := Lib.hid (HO2.out.on b34); have HB4 := Lib.hid (HB2.out.trans (b34.mono HB2.out.size)); have hs4 := Lib.hid (Nat.le_trans hs2.out b34.size)
  have Z4 : Hid (Blk W4 g8 30 #[.int .i64 A0, .int .i64 b]) := Lib.hid (by rw [hW4, hg8]; exact Blk.new _ _ _)
  have t0 : W4.cell? ⟨g8, 0, none⟩ = some (.int .i64 A0) := Z4.out.cell 0
  have t1 : W4.cell? ⟨g8, 1, none⟩ = some (.int .i64 b) := Z4.out.cell 1
  have HW4 := Lib.hid hW4; have HG8 := Lib.hid hg8
  clear b3 b4 b34 HO2 HB2 hW4 hg8
  go_upto_region 3 with fail
  rw [← HW4.out, ← HG8.out]
  obtain ⟨v, hv⟩ : ∃ v, isS (A0, b) = v := ⟨_, rfl⟩
  have HV := Lib.hid hv
  clear hv
  go_wp2_with fail
  refine (iisspan W4 A0 b v HV.out).mono ?_
  rintro e w5 ⟨rfl, b5⟩
  have HO5 := Lib.hid (HO4.out.on b5); have HB5 := Lib.hid (HB4.out.trans (b5.mono HB4.out.size)); have hs5 := Lib.hid (Nat.le_trans hs4.out b5.size)
  have Z5 := Lib.hid (Z4.out.below b5 Z4.out.lt)
  clear b5 HO4 HB4 t0 t1 Z4 HW4
  cases v
  case false =>
    have e0 : (b - 1 - a).toNat = 0 := by
      have h1 := HV.out
      unfold isS at h1
      have h2 := of_decide_eq_false h1
      have h3 := HA0.out
      simp only at h2; omega
    have HR : Hid (GivesE w (chg (linksL l) a (b - 1 - a).toNat) (.returned (.slice (some ⟨g0, 0, none⟩) 0 0)) w5) := Lib.hid ⟨_, _, _, rfl, by rw [e0]; exact HO5.out, HB5.out⟩
    clear hi0 hy0 hy1 hy2 e0
    go_wp2_with fail
    go_ret
    exact HR.out
  case true =>
    have hAb : A0 < b := by
      have h1 := HV.out
      unfold isS at h1
      have h2 := of_decide_eq_true h1
      exact h2.2.2
    have t0 : w5.cell? ⟨g8, 0, none⟩ = some (.int .i64 A0) := Z5.out.cell 0
    have t1 : w5.cell? ⟨g8, 1, none⟩ = some (.int .i64 b) := Z5.out.cell 1
    go_wp2_with fail
    refine (ilset w5 D A n c l (HS.out.below HB5.out hD) (Nat.le_trans hD HB5.out.size) hn (A0 - 1) HK.out).mono ?_
    rintro e w6 ⟨Ab, nb, cb, rfl, o6, b6⟩
    have ea : A0 - 1 = a := by have := HA0.out; omega
    rw [ea] at o6 ⊢
    obtain ⟨H0, hH0⟩ : ∃ z, z = hashK (linksL l a) := ⟨_, rfl⟩
    rw [← hH0]
    have HH0 := Lib.hid hH0
    obtain ⟨W7, hW7⟩ : ∃ W, W = w6.alloc (.cells #[.slice Ab nb cb, .int .i64 H0] 83) := ⟨_, rfl⟩
    obtain ⟨g9, hg9⟩ : ∃ g, g = w6.heap.size := ⟨_, rfl⟩
    have b7 : Below w6.heap.size w6 W7 := by rw [hW7]; exact (Below.refl _ _).alloc (Nat.le_refl _) _
    have b67 := b6.trans (b7.mono b6.size)
    have HO7 := Lib.hid (HO5.out.on b67); have HB7 := Lib.hid (HB5.out.trans (b67.mono HB5.out.size)); have HOb := Lib.hid (o6.on b7).sl
    have Z7 : Hid (Blk W7 g9 83 #[.slice Ab nb cb, .int .i64 H0]) := Lib.hid (by rw [hW7, hg9]; exact Blk.new _ _ _)
    have Y7 := Lib.hid (Z5.out.below b67 Z5.out.lt)
    have HG9 : Hid (g0 < g9 ∧ g9 < W7.heap.size ∧ w.heap.size ≤ g9) := Lib.hid ⟨by rw [hg9]; have := HGW.out; have := hs5.out; have := b6.size; omega, Z7.out.lt, by rw [hg9]; have := HGW.out; have := hs5.out; have := b6.size; omega⟩
    clear b6 b7 b67 o6 HO5 HB5 Z5 t0 t1 ea hH0
    go_upto_region 6 with fail
    rw [← hW7, ← hg9]
    clear hW7 hg9
    obtain ⟨E, hE⟩ : ∃ E, E = ascOf (edgL l) := ⟨_, rfl⟩
    have HE := Lib.hid hE
    have HEA : Hid (E.Pairwise (· < ·)) := Lib.hid (by rw [hE]; exact asc_lt _)
    have hEl : E.length ≤ 2 * l.length := by rw [hE]; have := asc_len (edgL l); rw [edgL_len] at this; exact this
    have HEL : Hid (E.length ≤ 1000000000) := Lib.hid (by have h1 := HS.out.num c4_len (by omega); omega)
    have hcc : W7.cell? ⟨g8, 0, none⟩ = some (.int .i64 A0) ∧ W7.cell? ⟨g8, 1, none⟩ = some (.int .i64 b) := ⟨Y7.out.cell 0, Y7.out.cell 1⟩
    have HBd : Hid (Below W7.heap.size W7 W7.drew) := Lib.hid (Below.refl _ _).drew
    have HED : Hid (Calls Try.prog 60 #[.slice A n c] W7.drew (GivesN W7.drew E)) := Lib.hid (by rw [hE]; exact iedges W7.drew D A n c l (HS.out.below (HB7.out.trans (HBd.out.mono HB7.out.size)) hD) (Nat.le_trans hD HB7.out.size) hn)
    clear hE hEl
    go_region_held3 (fun w' => w'.cell? ⟨g8, 0, none⟩ = some (.int .i64 A0) ∧ w'.cell? ⟨g8, 1, none⟩ = some (.int .i64 b)) (first | exact hcc | exact hcB | exact hcA | go_keep) (first
      | (go_at_call 60; refine HED.out.mono ?_; rintro e wA ⟨Ae, ne, ce, rfl, oA, bA⟩; have HBA : Hid (Below W7.heap.size W7 wA) := Lib.hid (HBd.out.trans bA); have YA := Y7.out.below HBA.out Y7.out.lt; have hcA : wA.cell? ⟨g8, 0, none⟩ = some (.int .i64 A0) ∧ wA.cell? ⟨g8, 1, none⟩ = some (.int .i64 b) := ⟨YA.cell 0, YA.cell 1⟩; have OA := Lib.hid oA; have HNE : Hid (ne ≤ 1000000000) := Lib.hid (by have h1 := oA.len; rw [iv_len] at h1; have h2 := HEL.out; omega); clear bA oA YA)
      | (go_at_call 59; refine (iwithin wA W7.heap.size Ae ne ce E OA.out HEA.out HNE.out A0 b hAb).mono ?_; rintro e wB ⟨⟨At, nt, ct, rfl, oB, lB⟩, bB⟩; have HBB : Hid (Below W7.heap.size W7 wB) := Lib.hid (HBA.out.trans (bB.mono HBA.out.size)); have YB := Y7.out.below HBB.out Y7.out.lt; have hcB : wB.cell? ⟨g8, 0, none⟩ = some (.int .i64 A0) ∧ wB.cell? ⟨g8, 1, none⟩ = some (.int .i64 b) := ⟨YB.cell 0, YB.cell 1⟩; have OB := Lib.hid (oB.more bB.size); have LB := Lib.hid lB; clear bB oB lB YB))
    obtain ⟨T, hT⟩ : ∃ T, T = wthn E A0 b := ⟨_, rfl⟩
    have HTF : Hid (chE (linksL l) a T = chg (linksL l) a (b - 1 - a).toNat) := Lib.hid (changes_eq l a b hab T (by rw [hT]; exact wthn_asc E HEA.out A0 b) fun t => by
      rw [hT, mem_wthn, HE.out, mem_asc, mem_edg, HA0.out])
    rw [← hT] at OB
    have hnt : nt = T.length := by have h1 := OB.out.len; rw [iv_len] at h1; omega
    have hTl : T.length ≤ 1000000000 := by rw [hT]; exact Nat.le_trans (List.length_filter_le _ _) HEL.out
    subst hnt
    have hcm := OB.out.capm; have hcp := OB.out.cap
    clear hT
    obtain ⟨hi, hhi⟩ : ∃ x, x = wB.heap.size := ⟨_, rfl⟩
    have HTS : Hid (∀ wr, Keeps (g9 + 1) hi wB wr → Sl wr hi 1 At T.length ct (iv T)) := Lib.hid fun wr hk => by
      have h1 := OB.out
      rw [← hhi] at h1
      exact h1.midc (fun ad e => by have h2 := LB.out ad e; have h3 := HG9.out; omega) hk
    have HF0 : Hid (Own wB w.heap.size 3 1 (some ⟨g0, 0, none⟩) 0 0 (iv (chE (linksL l) a (T.take 0))) ∧ NotAt g9 (some ⟨g0, 0, none⟩) ∧ Off (g9 + 1) hi (some (⟨g0, 0, none⟩ : Addr)) ∧ Keeps (g9 + 1) hi wB wB ∧ Blk wB g9 83 #[.slice Ab nb cb, .int .i64 (hashK (linksL l (lastE a (T.take 0))))] ∧ Sl wB wB.heap.size 2 Ab nb cb (sv (linksL l (lastE a (T.take 0)))) ∧ Below w.heap.size w wB) := Lib.hid
      ⟨HO7.out.on HBB.out, fun ad e => by injection e with e; subst e; have := HG9.out; simp; omega, fun ad e => by injection e with e; subst e; have := HG9.out; left; simp; omega, by rw [hhi]; exact Keeps.refl wB _, by
        have h1 := Z7.out.below HBB.out Z7.out.lt
        rw [HH0.out] at h1; exact h1, HOb.out.on HBB.out, HB7.out.trans (HBB.out.mono HB7.out.size)⟩
    have HG : Hid (w.heap.size ≤ g9 ∧ g9 < hi) := Lib.hid (by have := HG9.out; have := HBB.out.size; omega)
    clear hhi HO7 HB7 HOb Z7 Y7 HG9 hcc HBd HED hcA hcB HBA OA HNE HBB OB LB HH0 hAb hA1 HGW hs2 hs4 hs5
    go_wp2_with fail
    go_loopw [7, 11, 33] (fun o tv i wr => ∃ (k : Nat) (A1 : Option Addr) (n1 c1 : Nat) (Ac : Option Addr) (nc cc : Nat), k ≤ T.length ∧ i = .int .i64 k ∧ o = .slice A1 n1 c1 ∧ Own wr w.heap.size 3 1 A1 n1 c1 (iv (chE (linksL l) a (T.take k))) ∧ NotAt g9 A1 ∧ Off (g9 + 1) hi A1 ∧ Keeps (g9 + 1) hi wB wr ∧ Blk wr g9 83 #[.slice Ac nc cc, .int .i64 (hashK (linksL l (lastE a (T.take k))))] ∧ Sl wr wr.heap.size 2 Ac nc cc (sv (linksL l (lastE a (T.take k)))) ∧ Below w.heap.size w wr) (fun _ _ i _ => T.length - (intOf i).toNat)
    case atStart => exact ⟨0, _, 0, 0, _, _, _, Nat.zero_le _, rfl, rfl, HF0.out⟩
    case round =>
      clear HF0
      obtain ⟨k, A1, n1, c1, Ac, nc, cc, hk, rfl, rfl, ho, hna, hof, hkp, hz, hsl, hb'⟩ := hrel
      have HO := Lib.hid ho; have HNA := Lib.hid hna; have HOF := Lib.hid hof; have HKP := Lib.hid hkp; have HZ := Lib.hid hz; have HSL := Lib.hid hsl; have HB := Lib.hid hb'
      clear ho hna hof hkp hz hsl hb'
      by_cases hlt : k < T.length
      case neg =>
        obtain rfl : k = T.length := by omega
        have HR : Hid (GivesE w (chg (linksL l) a (b - 1 - a).toNat) (.returned (.slice A1 n1 c1)) wr) := Lib.hid ⟨_, _, _, rfl, by have h := HO.out; rw [List.take_length, HTF.out] at h; exact h, HB.out⟩
        clear hi0 hy0 hy1 hy2
        go_wp2_with fail
        go_ret
        exact HR.out
      case pos =>
        obtain ⟨ad, hx, rfl, had, q0⟩ := (HTS.out _ HKP.out).intE hlt
        have HTS' := HTS
        have HLT : Hid (lastE a (T.take (k + 1)) = T[k]) := Lib.hid (by rw [List.take_succ_eq_append_getElem hlt, lastE_snoc])
        have HCH : Hid (chE (linksL l) a (T.take (k + 1)) = chE (linksL l) a (T.take k) ++ (if linksL l (lastE a (T.take k)) = linksL l T[k] then [] else [T[k]])) := Lib.hid (by rw [List.take_succ_eq_append_getElem hlt, chE_snoc])
        obtain ⟨t, ht⟩ : ∃ t, t = T[k] := ⟨_, rfl⟩
        rw [← ht] at q0 HLT HCH
        clear ht
        obtain ⟨u, hu⟩ : ∃ u, u = lastE a (T.take k) := ⟨_, rfl⟩
        rw [← hu] at HZ HSL HCH
        clear hu
        have hk0 : (0 : Int) ≤ (k : Int) := by omega
        have hkl : (k : Int) < (T.length : Int) := by omega
        have hn1 : n1 ≤ 1000000000 := by
          have h2 := HO.out.len; rw [iv_len] at h2
          have h3 := chE_len (L := linksL l) a (T.take k)
          rw [List.length_take] at h3; omega
        go_wp2_with fail
        refine (ilset wr D A n c l (HS.out.below HB.out hD) (Nat.le_trans hD HB.out.size) hn t HK.out).mono ?_
        rintro e w2 ⟨An, nn, cn, rfl, o2, b2⟩
        obtain ⟨Hn, hHn⟩ : ∃ z, z = hashK (linksL l t) := ⟨_, rfl⟩
        obtain ⟨Hu, hHu⟩ : ∃ z, z = hashK (linksL l u) := ⟨_, rfl⟩
        rw [← hHn]
        rw [← hHu] at HZ
        have HHN := Lib.hid hHn; have HHU := Lib.hid hHu
        obtain ⟨W3, hW3⟩ : ∃ W, W = w2.alloc (.cells #[.slice An nn cn, .int .i64 Hn] 83) := ⟨_, rfl⟩
        obtain ⟨g12, hg12⟩ : ∃ g, g = w2.heap.size := ⟨_, rfl⟩
        have b3 : Below w2.heap.size w2 W3 := by rw [hW3]; exact (Below.refl _ _).alloc (Nat.le_refl _) _
        have b23 := b2.trans (b3.mono b2.size)
        have HAP := Lib.hid (HO.out.apart o2 (Nat.le_refl _)); have HAP' := Lib.hid (HO.out.apart' o2 (Nat.le_refl _))
        have HNN : Hid (NotAt g9 An) := Lib.hid (o2.low HZ.out.lt)
        have HO3 := Lib.hid (HO.out.on b23); have HZ3 := Lib.hid (HZ.out.below b23 HZ.out.lt); have HSL3 := Lib.hid (HSL.out.on b23); have HB3 := Lib.hid (HB.out.trans (b23.mono HB.out.size)); have HKP3 := Lib.hid (HKP.out.below b23); have ON3 := Lib.hid ((o2.on b3).fewer HB.out.size)
        have Z12 : Hid (Blk W3 g12 83 #[.slice An nn cn, .int .i64 Hn]) := Lib.hid (by rw [hW3, hg12]; exact Blk.new _ _ _)
        have HG12 : Hid (NotAt g12 A1 ∧ g12 ≠ g9) := Lib.hid ⟨HO.out.notAt (by rw [hg12]; exact b2.size), by have := HZ.out.lt; have := b2.size; omega⟩
        clear b2 b3 b23 o2 HO HZ HSL HB HKP hHn hHu
        go_upto_region 10 with fail
        rw [← hW3, ← hg12]
        clear hW3 hg12
        obtain ⟨v, hv⟩ : ∃ v, decide (linksL l t = linksL l u) = v := ⟨_, rfl⟩
        have HV2 := Lib.hid hv
        clear hv
        have x0 : W3.cell? ⟨g12, 0, none⟩ = some (.slice An nn cn) := Z12.out.cell 0
        have x1 : W3.cell? ⟨g12, 1, none⟩ = some (.int .i64 Hn) := Z12.out.cell 1
        have y0 : W3.cell? ⟨g9, 0, none⟩ = some (.slice Ac nc cc) := HZ3.out.cell 0
        have y1 : W3.cell? ⟨g9, 1, none⟩ = some (.int .i64 Hu) := HZ3.out.cell 1
        go_wp2_with fail
        refine (iissame W3 W3.heap.size W3.heap.size An Ac nn nc cn cc (linksL l t) (linksL l u) ON3.out.sl HSL3.out (Nat.le_refl _) (Nat.le_refl _) Hn Hu HHN.out HHU.out v HV2.out).mono ?_
        rintro e w4 ⟨rfl, b4⟩
        have HO4 := Lib.hid (HO3.out.on b4); have HZ4 := Lib.hid (HZ3.out.below b4 HZ3.out.lt); have HB4 := Lib.hid (HB3.out.trans (b4.mono HB3.out.size)); have HKP4 := Lib.hid (HKP3.out.below b4); have ON4 := Lib.hid (ON3.out.on b4); have Z124 := Lib.hid (Z12.out.below b4 Z12.out.lt)
        clear b4 x0 x1 y0 y1 HO3 HZ3 HSL3 HB3 HKP3 ON3 Z12
        cases v
        case true =>
          obtain ⟨e0, m0, e1, m1, n0, n1'⟩ := two_out HZ4.out (.slice An nn cn) (.int .i64 Hn)
          have x0 : w4.cell? ⟨g12, 0, none⟩ = some (.slice An nn cn) := Z124.out.cell 0
          have x1 : w4.cell? ⟨g12, 1, none⟩ = some (.int .i64 Hn) := Z124.out.cell 1
          have HR : Hid (Own ((w4.setCell ⟨g9, 0, none⟩ (.slice An nn cn)).setCell ⟨g9, 1, none⟩ (.int .i64 Hn)) w.heap.size 3 1 A1 n1 c1 (iv (chE (linksL l) a (T.take (k + 1)))) ∧ NotAt g9 A1 ∧ Off (g9 + 1) hi A1 ∧ Keeps (g9 + 1) hi wB ((w4.setCell ⟨g9, 0, none⟩ (.slice An nn cn)).setCell ⟨g9, 1, none⟩ (.int .i64 Hn)) ∧ Blk ((w4.setCell ⟨g9, 0, none⟩ (.slice An nn cn)).setCell ⟨g9, 1, none⟩ (.int .i64 Hn)) g9 83 #[.slice An nn cn, .int .i64 (hashK (linksL l (lastE a (T.take (k + 1)))))] ∧ Sl ((w4.setCell ⟨g9, 0, none⟩ (.slice An nn cn)).setCell ⟨g9, 1, none⟩ (.int .i64 Hn)) ((w4.setCell ⟨g9, 0, none⟩ (.slice An nn cn)).setCell ⟨g9, 1, none⟩ (.int .i64 Hn)).heap.size 2 An nn cn (sv (linksL l (lastE a (T.take (k + 1))))) ∧ Below w.heap.size w ((w4.setCell ⟨g9, 0, none⟩ (.slice An nn cn)).setCell ⟨g9, 1, none⟩ (.int .i64 Hn))) := Lib.hid (by
            rw [HCH.out, HLT.out, if_pos (of_decide_eq_true HV2.out).symm, List.append_nil, ← HHN.out]
            exact ⟨(HO4.out.ne_ (a := ⟨g9, 0, none⟩) HNA.out _).ne_ (a := ⟨g9, 1, none⟩) HNA.out _, HNA.out, HOF.out, (HKP4.out.set_ (a := ⟨g9, 0, none⟩) (by simp) _).set_ (a := ⟨g9, 1, none⟩) (by simp) _, (HZ4.out.set_ 0 _).set_ 1 _, ((ON4.out.ne_ (a := ⟨g9, 0, none⟩) HNN.out _).ne_ (a := ⟨g9, 1, none⟩) HNN.out _).sl, (HB4.out.setCell HG.out.1 _).setCell HG.out.1 _⟩)
          clear HO4 HB4 HKP4 ON4
          go_wp2_with fail
          go_roundw
          case rel => exact ⟨k + 1, A1, n1, c1, An, nn, cn, by omega, by go_num, rfl, HR.out⟩
          case measure => simp [intOf]; omega
        case false =>
          have HAPP : Hid (iv (chE (linksL l) a (T.take (k + 1))) = iv (chE (linksL l) a (T.take k)) ++ [.int .i64 t]) := Lib.hid (by rw [HCH.out, if_neg (fun e => of_decide_eq_false HV2.out e.symm), iv_app]; rfl)
          have b5 : Below w4.heap.size w4 (w4.alloc (.cells #[.int .i64 t] 3)) := (Below.refl _ _).alloc (Nat.le_refl _) _
          have HO5 := Lib.hid (HO4.out.on b5); have HB5 := Lib.hid (HB4.out.trans (b5.mono HB4.out.size)); have HZ5 := Lib.hid (HZ4.out.below b5 HZ4.out.lt); have Z125 := Lib.hid (Z124.out.below b5 Z124.out.lt); have ON5 := Lib.hid (ON4.out.on b5); have HKP5 := Lib.hid (HKP4.out.below b5)
          have hsz : w.heap.size ≤ (w4.alloc (.cells #[.int .i64 t] 3)).heap.size := HB5.out.size
          have hb8 : (n1 + 1) * 8 ≤ 140737488355328 := by omega
          clear b5 HO4 HB4 HKP4 ON4 HZ4 Z124
          go_wp2_with (at_builtin; go_loud (refine wpList_append_sl _ rfl (.tmp 44) (.tmp 46) 37 rfl w.heap.size 3 i0 _ 1 8 Try.underlying37 hi0 hy0 hy1 hy2 rfl (by omega) A1 n1 c1 (iv (chE (linksL l) a (T.take k))) rfl HO5.out (w4.heap.size + 1) _ 1 1 [.int .i64 t] rfl (Sl.one w4 _ _) (by simp [Value.oneCell']) (by omega) hb8 hsz ?_; intro A5 c5 w5 hown5 hg5 hat5; have HZ6 := HZ5.out.grown' HNA.out hg5; have Z126 := Z125.out.grown' HG12.out.1 hg5; have ON6 := ON5.out.kept hg5 HAP'.out; have HKP6 := HKP5.out.grown hg5 HOF.out; have HOF6 := HOF.out.app hat5 HKP5.out.1; have HNA6 := HNA.out.app hat5 HZ5.out.lt; have HB6 := HB5.out.grown hg5 HB5.out.size (fun j hj => (HO5.out.row.lt j hj).1); obtain ⟨e0, m0, e1, m1, n0, n1'⟩ := two_out HZ6 (.slice An nn cn) (.int .i64 Hn); have x0 : w5.cell? ⟨g12, 0, none⟩ = some (.slice An nn cn) := Z126.cell 0; have x1 : w5.cell? ⟨g12, 1, none⟩ = some (.int .i64 Hn) := Z126.cell 1; have HR : Hid (Own ((w5.setCell ⟨g9, 0, none⟩ (.slice An nn cn)).setCell ⟨g9, 1, none⟩ (.int .i64 Hn)) w.heap.size 3 1 A5 (n1 + 1) c5 (iv (chE (linksL l) a (T.take (k + 1)))) ∧ NotAt g9 A5 ∧ Off (g9 + 1) hi A5 ∧ Keeps (g9 + 1) hi wB ((w5.setCell ⟨g9, 0, none⟩ (.slice An nn cn)).setCell ⟨g9, 1, none⟩ (.int .i64 Hn)) ∧ Blk ((w5.setCell ⟨g9, 0, none⟩ (.slice An nn cn)).setCell ⟨g9, 1, none⟩ (.int .i64 Hn)) g9 83 #[.slice An nn cn, .int .i64 (hashK (linksL l (lastE a (T.take (k + 1)))))] ∧ Sl ((w5.setCell ⟨g9, 0, none⟩ (.slice An nn cn)).setCell ⟨g9, 1, none⟩ (.int .i64 Hn)) ((w5.setCell ⟨g9, 0, none⟩ (.slice An nn cn)).setCell ⟨g9, 1, none⟩ (.int .i64 Hn)).heap.size 2 An nn cn (sv (linksL l (lastE a (T.take (k + 1))))) ∧ Below w.heap.size w ((w5.setCell ⟨g9, 0, none⟩ (.slice An nn cn)).setCell ⟨g9, 1, none⟩ (.int .i64 Hn))) := Lib.hid (by
              rw [HAPP.out, HLT.out, ← HHN.out]
              exact ⟨(Own.ne_ ⟨hown5.row⟩ (a := ⟨g9, 0, none⟩) HNA6 _).ne_ (a := ⟨g9, 1, none⟩) HNA6 _, HNA6, HOF6, (HKP6.set_ (a := ⟨g9, 0, none⟩) (by simp) _).set_ (a := ⟨g9, 1, none⟩) (by simp) _, (HZ6.set_ 0 _).set_ 1 _, ((ON6.ne_ (a := ⟨g9, 0, none⟩) HNN.out _).ne_ (a := ⟨g9, 1, none⟩) HNN.out _).sl, (HB6.setCell HG.out.1 _).setCell HG.out.1 _⟩); clear hown5 hg5 hat5 HZ6 Z126 ON6 HKP6 HOF6 HNA6 HB6))
          go_roundw
          case rel => exact ⟨k + 1, A5, n1 + 1, c5, An, nn, cn, by omega, by go_num, rfl, HR.out⟩
          case measure => simp [intOf]; omega
end Go.Proofs.Ytfnhfpahdgbfgaa
