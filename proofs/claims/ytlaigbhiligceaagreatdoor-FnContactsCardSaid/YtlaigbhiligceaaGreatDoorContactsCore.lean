/- The walk of law FnContacts, for a code that is read, where the program's two sentinels lie. -/
import Derived.Test.YtlaigbhiligceaaGreatDoorContact2
import Derived.Test.YtlaigbhiligceaaGreatDoorDrawPlan
import Derived.Test.YtlaigbhiligceaaGreatDoorDrawCon
import Derived.Test.YtlaigbhiligceaaGreatDoorBig
import Derived.Test.YtlaigbhiligceaaGreatDoorApart
import Derived.BigQuiet
import Derived.Deep.DeepCutAuto
import Derived.Deep.CutRange
import Derived.Deep.CutBlock
namespace Go.Proofs.YtlaigbhiligceaaGreatDoor
open Go.ChangeShapes Go.WideShapes Go.ChangeAt Go.RowKit
set_option linter.unusedVariables false
theorem skyOk_q {P R X V U D Q : Int} {ls : List Sat4} {li lz : List Tri} (h : skyOk P R X V U D Q ls li lz = true) : 0 ≤ Q ∧ Q ≤ 20 := by
  unfold skyOk at h
  simp only [Bool.and_eq_true, decide_eq_true_eq] at h
  exact h.2.2.2.2.2.2.2.2.2
/-- a tick in which both speak, of a drawn range -/
theorem spk_at {H Qa Qb : Int → Bool} {f t u : Int} (hf : -2 ≤ f ∧ f ≤ 17) (ht : -2 ≤ t ∧ t ≤ 56) (h : inL (spkI H Qa Qb f t) u = true) : (0 ≤ u ∧ f ≤ u ∧ u < t) ∧ H u = true ∧ Qa u = false ∧ Qb u = false := by
  have hb := inL_bd _ _ h
  obtain ⟨k, rfl⟩ : ∃ k : Nat, u = k := ⟨u.toNat, by omega⟩
  have e := tk_cut (winOf H f t) (winOf Qa f t ++ winOf Qb f t) k
  unfold tk at e
  unfold spkI at h
  rw [e] at h
  simp only [Bool.and_eq_true, Bool.not_eq_true', inL_app, Bool.or_eq_false_iff] at h
  obtain ⟨h1, h2, h3⟩ := h
  have hj : J64 f := by unfold J64; omega
  rw [win_has H f t _ hj] at h1
  rw [win_has Qa f t _ hj] at h2
  rw [win_has Qb f t _ hj] at h3
  have h1 := of_decide_eq_true h1
  have h2 := of_decide_eq_false h2
  have h3 := of_decide_eq_false h3
  have e1 : highT t = t := by unfold highT mnf wrap64; split <;> omega
  have e2 : f ≤ lowT f := by unfold lowT mxf; split <;> omega
  refine ⟨⟨by omega, by omega, by rw [← e1]; exact h1.1.2⟩, h1.2, ?_, ?_⟩
  · cases hq : Qa k
    · rfl
    · exact absurd ⟨h1.1, hq⟩ h2
  · cases hq : Qb k
    · rfl
    · exact absurd ⟨h1.1, hq⟩ h3
set_option maxHeartbeats 6400000 in
set_option maxRecDepth 100000 in
theorem coreContacts (w : World) (A : Option Addr) (cap : Nat) (xs : List Value) (hB : Bytes xs) (hbig : xs.length ≤ 1048576) (hcap : xs.length ≤ cap) (hm0 : cap ≤ 9223372036854775807) (r0 : Reads w w.heap.size A xs) (nA tW : Addr) (e0 : Errs w nA tW) (hh : Han w) :
    Calls Tryz.prog 3 #[.slice A xs.length cap] w fun e w' => e = .returned (.bool true) ∧ Below w.heap.size w w' := by
  have R0 := Lib.hid r0; have E0 := Lib.hid e0; have HAN := Lib.hid hh; have HBY := Lib.hid hB; have HBIG := Lib.hid hbig; clear r0 e0 hh
  go_enter Tryz.func3, Tryz.ntmps3
  go_wp2_with fail
  refine (big_no _ _ _ _ hbig hm0 hcap).mono ?_
  rintro e w1 ⟨rfl, rfl⟩
  go_wp2_with fail
  refine (drawcontacts _ _ _ _ hB hbig R0.out).mono ?_
  rintro e w1 ⟨⟨P, R, X, V, U, D, Q, ns, ni, nz, ls, li, lz, As, cs, Ai, ci, Az, cz, a, b, f, t, rfl, ho, hn, hj, hk1, hk2, hab, hft⟩, b1⟩
  have hin := ho.inSky
  clear ho
  obtain ⟨D0, hD0⟩ : ∃ d, d = w1.heap.size := ⟨_, rfl⟩
  obtain ⟨WL, hW⟩ : ∃ W, W = w1.alloc (.cells #[.int .i64 P, .slice As ns cs, .slice Ai ni ci, .int .i64 R, .int .i64 X, .int .i64 V, .int .i64 U, .int .i64 D, .slice Az nz cz, .int .i64 Q] 28) := ⟨_, rfl⟩
  have TL : Hid (Below w.heap.size w WL) := Lib.hid (by rw [hW]; exact b1.alloc b1.size _)
  have IL : Hid (InSky WL (D0) As ns cs Ai ni ci Az nz cz ls li lz) := Lib.hid (by rw [hW, hD0]; exact hin.below ((Below.refl w1.heap.size w1).alloc (Nat.le_refl _) _) (Nat.le_refl _))
  have DL : Hid (D0 ≤ WL.heap.size) := Lib.hid (by rw [hW, hD0]; simp)
  obtain ⟨G, hG⟩ : ∃ g, g = w1.heap.size := ⟨_, rfl⟩
  have ZL : Hid (Blk WL G 28 #[.int .i64 P, .slice As ns cs, .slice Ai ni ci, .int .i64 R, .int .i64 X, .int .i64 V, .int .i64 U, .int .i64 D, .slice Az nz cz, .int .i64 Q]) := Lib.hid (by rw [hW, hG]; exact Blk.new _ _ _)
  have EL := Lib.hid (E0.out.below TL.out)
  have hs : Hid (ns ≤ 16777216) := Lib.hid (by omega)
  have hi : Hid (ni ≤ 16777216) := Lib.hid (by omega)
  have hz : Hid (nz ≤ 16777216) := Lib.hid (by omega)
  have Ha : Hid (J64 a) := Lib.hid (by unfold J64; omega)
  have Hb : Hid (J64 b) := Lib.hid (by unfold J64; omega)
  have Hf : Hid (J64 f) := Lib.hid (by unfold J64; omega)
  have Ht : Hid (J64 t) := Lib.hid (by unfold J64; omega)
  have HP := Lib.hid hj.1
  have HK1 : Hid (∀ x ∈ ls, Ok4 x) := Lib.hid fun x hx => (hk1 x hx).ok4
  have HK2 : Hid (∀ x ∈ li, Ok3 x) := Lib.hid fun x hx => hk2 x hx
  have HJQ : Hid (J64 Q) := Lib.hid hj.2.2.2.2.2.2
  have HFT := Lib.hid hft
  obtain ⟨H, hH⟩ : ∃ H : Int → Bool, ∀ i, decide (sightOf P R X V ls li a b i = 2) = H i := ⟨_, fun _ => rfl⟩
  obtain ⟨Qa, hQa⟩ : ∃ H : Int → Bool, ∀ i, mayAt ls li lz a i = H i := ⟨_, fun _ => rfl⟩
  obtain ⟨Qb, hQb⟩ : ∃ H : Int → Bool, ∀ i, mayAt ls li lz b i = H i := ⟨_, fun _ => rfl⟩
  have HH := Lib.hid hH; have HQA := Lib.hid hQa; have HQB := Lib.hid hQb
  clear hn hj hk1 hk2 hab hin hH hQa hQb b1 hB hbig hcap hm0
  go_wp2_with fail
  rw [← hW, ← hG]
  clear hW hG hD0
  obtain ⟨y0, y1, y2, y3, y4, y5, y6, y7, y8, y9⟩ := ZL.out.ten
  go_wp2_with fail
  refine (icontacts WL P R X V U D Q ns ni nz ls li lz As cs Ai ci Az cz D0 IL.out DL.out hs.out hi.out hz.out HP.out HJQ.out HK1.out HK2.out nA tW EL.out a b Ha.out Hb.out f t Hf.out Ht.out H Qa Qb HH.out HQA.out HQB.out).mono ?_
  rintro e w2 ⟨A8, n8, k8, rfl, o8, b8⟩
  obtain ⟨l8, hl8⟩ : ∃ l, l = conL a b Q (skyOk P R X V U D Q ls li lz) (spkI H Qa Qb f t) := ⟨_, rfl⟩
  rw [← hl8] at o8
  have HMEM : Hid (∀ x ∈ l8, (0 ≤ Q ∧ Q ≤ 20) ∧ x.p = mnf a b ∧ x.h = mxf a b ∧ (0 ≤ x.v ∧ x.e ≤ 1000 ∧ x.v < x.e) ∧ ∀ u, x.v - Q ≤ u → u < x.e → (0 ≤ u ∧ f ≤ u ∧ u < t) ∧ H u = true ∧ Qa u = false ∧ Qb u = false) := Lib.hid fun x hx => by
    rw [hl8] at hx
    obtain ⟨⟨-, hok⟩, -, h1, h2, h3, h4⟩ := conL_mem hx
    exact ⟨skyOk_q hok, h1, h2, (isS_iff _).1 h3, fun u h5 h6 => spk_at ⟨HFT.out.1, HFT.out.2.1⟩ (by have := HFT.out; omega) (h4 u h5 h6)⟩
  have B8 := Lib.hid b8
  have O8 := Lib.hid o8.sl
  obtain ⟨D8, hD8⟩ : ∃ d, d = w2.heap.size := ⟨_, rfl⟩
  obtain ⟨QQ, hQ⟩ : ∃ QQ : World → Prop, ∀ wr, QQ wr ↔ Below w2.heap.size w2 wr := ⟨_, fun _ => Iff.rfl⟩
  have HQ0 : Hid (QQ w2) := Lib.hid ((hQ _).2 (Below.refl _ _))
  have HQ1 : Hid (∀ wr wr', QQ wr → Below wr.heap.size wr wr' → QQ wr') := Lib.hid fun wr wr' h h' => (hQ _).2 (((hQ _).1 h).trans (h'.mono ((hQ _).1 h).size))
  have HC : Hid (∀ wr, QQ wr → (wr.cell? ⟨G, 0, none⟩ = some (.int .i64 P) ∧ wr.cell? ⟨G, 1, none⟩ = some (.slice As ns cs) ∧ wr.cell? ⟨G, 2, none⟩ = some (.slice Ai ni ci) ∧ wr.cell? ⟨G, 3, none⟩ = some (.int .i64 R) ∧ wr.cell? ⟨G, 4, none⟩ = some (.int .i64 X) ∧ wr.cell? ⟨G, 5, none⟩ = some (.int .i64 V) ∧ wr.cell? ⟨G, 6, none⟩ = some (.int .i64 U) ∧ wr.cell? ⟨G, 7, none⟩ = some (.int .i64 D) ∧ wr.cell? ⟨G, 8, none⟩ = some (.slice Az nz cz) ∧ wr.cell? ⟨G, 9, none⟩ = some (.int .i64 Q)) ∧ Below w.heap.size w wr ∧ Errs wr nA tW ∧ InSky wr (D0) As ns cs Ai ni ci Az nz cz ls li lz ∧ D0 ≤ wr.heap.size ∧ (Sl wr D8 4 A8 n8 k8 (fl c4 l8) ∧ D8 ≤ wr.heap.size)) := Lib.hid fun wr h => by
    have hb := (hQ _).1 h
    have hb2 : Below WL.heap.size WL wr := B8.out.trans (hb.mono B8.out.size)
    exact ⟨(ZL.out.below hb2 ZL.out.lt).ten, TL.out.trans (hb2.mono TL.out.size), EL.out.below hb2, IL.out.below hb2 DL.out, Nat.le_trans DL.out hb2.size, by rw [hD8]; exact O8.out.below hb (Nat.le_refl _), by rw [hD8]; exact hb.size⟩
  have hn8 : n8 = l8.length := O8.out.num c4_len (by omega)
  have hcap8 := O8.out.cap; have hcapm8 := O8.out.capm
  have HN8 := Lib.hid hn8
  clear o8 b8 hl8 hD8 hQ B8 O8 TL IL DL ZL EL hn8 y0 y1 y2 y3 y4 y5 y6 y7 y8 y9
  obtain ⟨y0, y1, y2, y3, y4, y5, y6, y7, y8, y9⟩ := (HC.out _ HQ0.out).1
  have HEND : Hid (∀ wr, QQ wr → Below w.heap.size w wr ∧ Errs wr nA tW) := Lib.hid fun wr h => ⟨(HC.out wr h).2.1, (HC.out wr h).2.2.1⟩
  go_upto_block 0 with fail
  go_cut [9, 10] from 35 to 105 (fun _ _ wx => QQ wx)
  case first =>
    go_wp2_with fail
    go_loopw [9, 10] (fun iv tv wr => ∃ k : Nat, k ≤ n8 ∧ iv = .int .i64 k ∧ QQ wr) (fun iv _ _ => n8 - (intOf iv).toNat)
    case atStart => exact ⟨0, Nat.zero_le _, rfl, HQ0.out⟩
    case round =>
      clear HQ0 y0 y1 y2 y3 y4 y5 y6 y7 y8 y9
      obtain ⟨k, hk, rfl, hq⟩ := hrel
      have HQ := Lib.hid hq
      clear hq
      by_cases hlt : k < n8
      case neg =>
        go_wp2_with fail
        go_meet
        exact HQ.out
      case pos =>
        have hkl8 : k < l8.length := by have := HN8.out; omega
        obtain ⟨ad, hx, rfl, had, -⟩ := (HC.out _ HQ.out).2.2.2.2.2.1.four hlt
        have HR : Hid (∀ (x : Wld QQ), x.w.cell? (ad.add (k * 4)) = some (.int .i64 l8[k].p) ∧ x.w.cell? ⟨(ad.add (k * 4)).block, (ad.add (k * 4)).off + 1, none⟩ = some (.int .i64 l8[k].h) ∧ x.w.cell? ⟨(ad.add (k * 4)).block, (ad.add (k * 4)).off + 2, none⟩ = some (.int .i64 l8[k].v) ∧ x.w.cell? ⟨(ad.add (k * 4)).block, (ad.add (k * 4)).off + 3, none⟩ = some (.int .i64 l8[k].e)) := Lib.hid fun x => by
          obtain ⟨ad', hx', e, had', q⟩ := (HC.out _ x.h).2.2.2.2.2.1.four hlt
          injection e with e; rw [e]; exact q
        have HX := Lib.hid (HMEM.out _ (List.getElem_mem hkl8))
        obtain ⟨z, hz⟩ : ∃ z, z = l8[k] := ⟨_, rfl⟩
        rw [← hz] at HR HX
        clear hz
        obtain ⟨xp, xh, xv, xe⟩ := z
        simp only at HR HX
        have a0 : ∀ x : Wld QQ, x.w.cell? (ad.add (k * 4)) = some (.int .i64 xp) := fun x => (HR.out x).1
        have a1 : ∀ x : Wld QQ, x.w.cell? ⟨(ad.add (k * 4)).block, (ad.add (k * 4)).off + 1, none⟩ = some (.int .i64 xh) := fun x => (HR.out x).2.1
        have a2 : ∀ x : Wld QQ, x.w.cell? ⟨(ad.add (k * 4)).block, (ad.add (k * 4)).off + 2, none⟩ = some (.int .i64 xv) := fun x => (HR.out x).2.2.1
        have s9 : ∀ x : Wld QQ, x.w.cell? ⟨G, 9, none⟩ = some (.int .i64 Q) := fun x => (HC.out _ x.h).1.2.2.2.2.2.2.2.2.2
        have hne : Nonempty (Wld QQ) := ⟨⟨_, HQ.out⟩⟩
        have hk0 : (0 : Int) ≤ (k : Int) := by omega
        have hkn : (k : Int) < (n8 : Int) := by omega
        have hqb := HX.out.1
        have hvb := HX.out.2.2.2.1
        have wq1 : IntKind.i64.wrap (xv - Q) = xv - Q := wrap_in _ (by omega) (by omega)
        go_wp2_with fail
        refine wp_region_quiet_cls (C := fun w' => ∃ x : Wld QQ, w' = x.w) (by kernel_rfl) (by kernel_rfl) ⟨⟨_, HQ1.out _ _ HQ.out (Below.refl _ _).drew⟩, rfl⟩ ?_
        repeat (go_big_quiet_step (fail))
        refine wpQuiet_nil ?_
        rintro _ ⟨⟨wy, hwy⟩, rfl⟩
        clear a2 s9
        have HY := Lib.hid hwy
        clear hwy
        go_wp2_with fail
        go_loopw [10] (fun iv wr => ∃ u : Int, xv - Q ≤ u ∧ u ≤ xe ∧ iv = .int .i64 u ∧ QQ wr) (fun iv _ => (xe - intOf iv).toNat)
        case atStart => exact ⟨xv - Q, Int.le_refl _, by omega, rfl, HY.out⟩
        case round =>
          clear HY
          obtain ⟨u, hu0, hu1, rfl, hq⟩ := hrel
          have HU := Lib.hid hq
          clear hq
          have e3 : wr.cell? ⟨(ad.add (k * 4)).block, (ad.add (k * 4)).off + 3, none⟩ = some (.int .i64 xe) := (HR.out ⟨wr, HU.out⟩).2.2.2
          by_cases hue : u < xe
          case pos =>
            have hall := HX.out.2.2.2.2 u hu0 hue
            have g1 : ¬ u < f := by omega
            have g2 : ¬ t ≤ u := by omega
            have HH1 : Hid (SureEq P R X V ls li a b u true) := Lib.hid ((HH.out u).trans hall.2.1)
            have HA1 : Hid (mayAt ls li lz a u = false) := Lib.hid ((HQA.out u).trans hall.2.2.1)
            have HB1 : Hid (mayAt ls li lz b u = false) := Lib.hid ((HQB.out u).trans hall.2.2.2)
            clear hall
            obtain ⟨y0, y1, y2, y3, y4, y5, y6, y7, y8, y9⟩ := (HC.out _ HU.out).1
            go_wp2_with fail
            refine (isure wr P R X V U D Q ns ni nz ls li lz As cs Ai ci Az cz D0 (HC.out _ HU.out).2.2.2.1 (HC.out _ HU.out).2.2.2.2.1 hs.out hi.out HP.out HK1.out HK2.out nA tW (HC.out _ HU.out).2.2.1 a b Ha.out Hb.out u true HH1.out).mono ?_
            rintro e w3 ⟨rfl, b3⟩
            have HU3 := Lib.hid (HQ1.out _ _ HU.out b3)
            clear b3 y0 y1 y2 y3 y4 y5 y6 y7 y8 y9 e3
            obtain ⟨y0, y1, y2, y3, y4, y5, y6, y7, y8, y9⟩ := (HC.out _ HU3.out).1
            go_wp2_with fail
            refine (imay w3 P R X V U D Q ns ni nz ls li lz As cs Ai ci Az cz D0 (HC.out _ HU3.out).2.2.2.1 (HC.out _ HU3.out).2.2.2.2.1 hs.out hi.out hz.out nA tW (HC.out _ HU3.out).2.2.1 a u Ha.out false HA1.out).mono ?_
            rintro e w4 ⟨rfl, b4⟩
            have HU4 := Lib.hid (HQ1.out _ _ HU3.out b4)
            clear b4 y0 y1 y2 y3 y4 y5 y6 y7 y8 y9
            obtain ⟨y0, y1, y2, y3, y4, y5, y6, y7, y8, y9⟩ := (HC.out _ HU4.out).1
            go_wp2_with fail
            refine (imay w4 P R X V U D Q ns ni nz ls li lz As cs Ai ci Az cz D0 (HC.out _ HU4.out).2.2.2.1 (HC.out _ HU4.out).2.2.2.2.1 hs.out hi.out hz.out nA tW (HC.out _ HU4.out).2.2.1 b u Hb.out false HB1.out).mono ?_
            rintro e w5 ⟨rfl, b5⟩
            have HU5 := Lib.hid (HQ1.out _ _ HU4.out b5)
            clear b5 y0 y1 y2 y3 y4 y5 y6 y7 y8 y9
            go_wp2_with fail
            go_roundw
            case rel => exact ⟨u + 1, by omega, by omega, by go_num, HU5.out⟩
            case measure => simp [intOf]; omega
          case neg =>
            have hm1 := HX.out.2.1; have hm2 := HX.out.2.2.1
            have HMN := Lib.hid (And.intro hm1 hm2)
            clear hm1 hm2
            go_wp2_with fail
            refine wp_region_quiet_cls (C := fun w' => ∃ x : Wld QQ, w' = x.w) (by kernel_rfl) (by kernel_rfl) ⟨⟨_, HQ1.out _ _ HU.out (Below.refl _ _).drew⟩, rfl⟩ ?_
            repeat (go_big_quiet_step (first
              | (go_at_call 11; rename_i x; refine (iminB a b _).mono ?_; rintro e w' ⟨rfl, hb⟩; rw [← HMN.out.1]; exact ⟨rfl, ⟨⟨_, HQ1.out _ _ x.h hb⟩, rfl⟩⟩)
              | (go_at_call 12; rename_i x; refine (imaxB a b _).mono ?_; rintro e w' ⟨rfl, hb⟩; rw [← HMN.out.2]; exact ⟨rfl, ⟨⟨_, HQ1.out _ _ x.h hb⟩, rfl⟩⟩)))
            refine wpQuiet_nil ?_
            rintro _ ⟨⟨wz, hwz⟩, rfl⟩
            clear a0 a1 hne e3
            go_wp2_with fail
            go_roundw
            case rel => exact ⟨k + 1, by omega, by go_num, hwz⟩
            case measure => simp [intOf]; omega
  case rest =>
  have B3 := Lib.hid (HEND.out _ hcut).1
  have E3 := Lib.hid (HEND.out _ hcut).2
  have R3 := Lib.hid ((R0.out.below B3.out (Nat.le_refl _)).more B3.out.size)
  clear hcut y0 y1 y2 y3 y4 y5 y6 y7 y8 y9 HMEM HH HQA HQB HFT Ha Hb Hf Ht hs hi hz HP HJQ HK1 HK2 HC HQ0 HQ1 HEND E0 HN8
  go_wp2_with fail
  refine (drawplan _ _ _ _ HBY.out HBIG.out R3.out).mono ?_
  rintro e w7 ⟨⟨P, R, X, V, U, D, Q, ns, ni, nz, ls, li, lz, As, cs, Ai, ci, Az, cz, f, t, rfl, ho, hn, hj, hk1, hk2, hft⟩, b7⟩
  have hin := ho.inSky
  clear ho
  obtain ⟨D2, hD2⟩ : ∃ d, d = w7.heap.size := ⟨_, rfl⟩
  obtain ⟨WM, hW⟩ : ∃ W, W = w7.alloc (.cells #[.int .i64 P, .slice As ns cs, .slice Ai ni ci, .int .i64 R, .int .i64 X, .int .i64 V, .int .i64 U, .int .i64 D, .slice Az nz cz, .int .i64 Q] 28) := ⟨_, rfl⟩
  have b7' : Below wc.heap.size wc WM := by rw [hW]; exact b7.alloc b7.size _
  have IL : Hid (InSky WM (D2) As ns cs Ai ni ci Az nz cz ls li lz) := Lib.hid (by rw [hW, hD2]; exact hin.below ((Below.refl w7.heap.size w7).alloc (Nat.le_refl _) _) (Nat.le_refl _))
  have DL : Hid (D2 ≤ WM.heap.size) := Lib.hid (by rw [hW, hD2]; simp)
  obtain ⟨GM, hG⟩ : ∃ g, g = w7.heap.size := ⟨_, rfl⟩
  have ZL : Hid (Blk WM GM 28 #[.int .i64 P, .slice As ns cs, .slice Ai ni ci, .int .i64 R, .int .i64 X, .int .i64 V, .int .i64 U, .int .i64 D, .slice Az nz cz, .int .i64 Q]) := Lib.hid (by rw [hW, hG]; exact Blk.new _ _ _)
  have EM := Lib.hid (E3.out.below b7')
  have BM := Lib.hid (B3.out.trans (b7'.mono B3.out.size))
  have hs : Hid (ns ≤ 1000) := Lib.hid (by omega)
  have hi : Hid (ni ≤ 1000) := Lib.hid (by omega)
  have hz : Hid (nz ≤ 16777216) := Lib.hid (by omega)
  have hs2 : Hid (ns ≤ 16777216) := Lib.hid (by omega)
  have hi2 : Hid (ni ≤ 16777216) := Lib.hid (by omega)
  have Hf : Hid (J64 f) := Lib.hid (by unfold J64; omega)
  have Ht : Hid (J64 t) := Lib.hid (by unfold J64; omega)
  have HP := Lib.hid hj.1; have HJQ := Lib.hid hj.2.2.2.2.2.2
  have HK1 : Hid (∀ x ∈ ls, Ok4 x) := Lib.hid fun x hx => (hk1 x hx).ok4
  have HK2 : Hid (∀ x ∈ li, Ok3 x) := Lib.hid fun x hx => hk2 x hx
  clear hn hj hk1 hk2 hft b7 b7' hin E3
  go_wp2_with fail
  rw [← hW, ← hG]
  clear hW hG hD2
  obtain ⟨y0, y1, y2, y3, y4, y5, y6, y7, y8, y9⟩ := ZL.out.ten
  go_wp2_with fail
  refine (iplanof WM P R X V U D Q ns ni nz ls li lz As cs Ai ci Az cz D2 IL.out DL.out hs.out hi.out hz.out HP.out HJQ.out HK1.out HK2.out nA tW EM.out (HAN.out.below BM.out) f t Hf.out Ht.out).mono ?_
  rintro e w8 ⟨A8, n8, k8, rfl, o8, b8⟩
  obtain ⟨l8, hl8⟩ : ∃ l, l = planL (ns + ni) fun a b => conL a b Q (skyOk P R X V U D Q ls li lz) (spkI (fun t => decide (sightOf P R X V ls li a b t = 2)) (fun t => mayAt ls li lz a t) (fun t => mayAt ls li lz b t) f t) := ⟨_, rfl⟩
  rw [← hl8] at o8
  have HPL : Hid (PlanOk ((ns : Int) + (ni : Int)) l8) := Lib.hid (by
    rw [hl8, show (ns : Int) + (ni : Int) = ((ns + ni : Nat) : Int) by omega]
    exact planL_ok (ns + ni) Q _ fun a b => spkI (fun t => decide (sightOf P R X V ls li a b t = 2)) (fun t => mayAt ls li lz a t) (fun t => mayAt ls li lz b t) f t)
  have B8 := Lib.hid b8
  have O8 := Lib.hid o8.sl
  have BF := Lib.hid (BM.out.trans (b8.mono BM.out.size))
  clear o8 b8 hl8 y0 y1 y2 y3 y4 y5 y6 y7 y8 y9
  have RF := Lib.hid ((R0.out.below BF.out (Nat.le_refl _)).more BF.out.size)
  go_wp2_with fail
  refine (drawcan _ _ _ _ HBY.out HBIG.out RF.out).mono ?_
  rintro e w9 ⟨⟨A9, n9, k9, l9, x, yy, tt, rfl, hn9, o9, hx, hy, ht⟩, b9⟩
  have B9 := Lib.hid (B8.out.trans (b9.mono B8.out.size))
  have BG := Lib.hid (BF.out.trans (b9.mono BF.out.size))
  have O89 := Lib.hid (O8.out.below b9 (Nat.le_refl _))
  have O9 := Lib.hid o9.sl
  have HS89 : Hid (w8.heap.size ≤ w9.heap.size) := Lib.hid b9.size
  obtain ⟨v, hv⟩ : ∃ v, canS l9 x yy tt = v := ⟨_, rfl⟩
  have HV := Lib.hid hv
  have HV2 : Hid (canS l9 yy x tt = v) := Lib.hid ((canS_comm l9 yy x tt).trans hv)
  clear o9 b9 hx hy ht hn9 hv RF
  obtain ⟨y0, y1, y2, y3, y4, y5, y6, y7, y8, y9⟩ := (ZL.out.below B9.out ZL.out.lt).ten
  go_wp2_with fail
  refine (inodes w9 P R X V U D Q ns ni nz ls li lz As cs Ai ci Az cz hs2.out hi2.out).mono ?_
  rintro e w10 ⟨rfl, b10⟩
  have O810 := Lib.hid (O89.out.below b10 HS89.out)
  have O910 := Lib.hid (O9.out.below b10 (Nat.le_refl _))
  have HS810 : Hid (w8.heap.size ≤ w10.heap.size) := Lib.hid (Nat.le_trans HS89.out b10.size)
  have HS910 : Hid (w9.heap.size ≤ w10.heap.size) := Lib.hid b10.size
  have BH := Lib.hid (BG.out.trans (b10.mono BG.out.size))
  clear b10 y0 y1 y2 y3 y4 y5 y6 y7 y8 y9 O89 O9
  go_wp2_with fail
  refine (iisplan w10 w8.heap.size A8 n8 k8 l8 O810.out HS810.out ((ns : Int) + (ni : Int)) true ⟨fun _ => HPL.out, fun _ => rfl⟩).mono ?_
  rintro e w11 ⟨rfl, b11⟩
  have O911 := Lib.hid (O910.out.below b11 HS910.out)
  have HS911 : Hid (w9.heap.size ≤ w11.heap.size) := Lib.hid (Nat.le_trans HS910.out b11.size)
  have BI := Lib.hid (BH.out.trans (b11.mono BH.out.size))
  clear b11 O810 O910
  go_wp2_with fail
  refine (icanspeak w11 w9.heap.size A9 n9 k9 l9 O911.out HS911.out x yy tt v HV.out).mono ?_
  rintro e w12 ⟨rfl, b12⟩
  have O912 := Lib.hid (O911.out.below b12 HS911.out)
  have HS912 : Hid (w9.heap.size ≤ w12.heap.size) := Lib.hid (Nat.le_trans HS911.out b12.size)
  have BJ := Lib.hid (BI.out.trans (b12.mono BI.out.size))
  clear b12 O911
  go_wp2_with fail
  refine (icanspeak w12 w9.heap.size A9 n9 k9 l9 O912.out HS912.out yy x tt v HV2.out).mono ?_
  rintro e w13 ⟨rfl, b13⟩
  have BK := Lib.hid (BJ.out.trans (b13.mono BJ.out.size))
  clear b13
  cases v
  all_goals
    go_wp2_with fail
    go_ret
    exact ⟨rfl, BK.out⟩
end Go.Proofs.YtlaigbhiligceaaGreatDoor
