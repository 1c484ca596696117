/- The walk of law FnSilence, for a code that is read, where the program's two sentinels lie. -/
import Derived.Test.YtanpenijmojbdaaGreatDoorSpeak
import Derived.Test.YtanpenijmojbdaaGreatDoorSpeakS
import Derived.Test.YtanpenijmojbdaaGreatDoorDrawQuiet
import Derived.Test.YtanpenijmojbdaaGreatDoorBig
import Derived.Test.YtanpenijmojbdaaGreatDoorQuietClass
import Derived.BigQuiet
import Derived.Deep.DeepCutAuto
import Derived.Deep.CutRange
import Derived.Deep.CutBlock
namespace Go.Proofs.YtanpenijmojbdaaGreatDoor
open Go.ChangeShapes Go.WideShapes Go.ChangeAt Go.RowKit
set_option linter.unusedVariables false
/-- a window of a drawn range -/
theorem win_in (H : Int → Bool) (f t i : Int) (hf : -2 ≤ f ∧ f ≤ 17) (ht : -2 ≤ t ∧ t ≤ 56) (h0 : 0 ≤ i) (h1 : f ≤ i) (h2 : i < t) : inL (winOf H f t) i = H i := by
  rw [win_has H f t i (by unfold J64; omega)]
  have e1 : highT t = t := by unfold highT mnf wrap64; split <;> omega
  have e2 : lowT f ≤ i := by unfold lowT mxf; split <;> omega
  rw [e1]
  cases h : H i
  · exact decide_eq_false (fun h3 => by simp at h3)
  · exact decide_eq_true ⟨⟨e2, h2⟩, rfl⟩
theorem spk_in (H Qa Qb : Int → Bool) (f t i : Int) (hf : -2 ≤ f ∧ f ≤ 17) (ht : -2 ≤ t ∧ t ≤ 56) (h0 : 0 ≤ i) (h1 : f ≤ i) (h2 : i < t) : inL (spkI H Qa Qb f t) i = (H i && !(Qa i || Qb i)) := by
  obtain ⟨k, rfl⟩ : ∃ k : Nat, i = k := ⟨i.toNat, by omega⟩
  have e := tk_cut (winOf H f t) (winOf Qa f t ++ winOf Qb f t) k
  unfold tk at e
  unfold spkI
  rw [e, inL_app, win_in H f t k hf ht h0 h1 h2, win_in Qa f t k hf ht h0 h1 h2, win_in Qb f t k hf ht h0 h1 h2]
set_option maxHeartbeats 6400000 in
set_option maxRecDepth 100000 in
theorem coreSilence (w : World) (A : Option Addr) (cap : Nat) (xs : List Value) (hB : Bytes xs) (hbig : xs.length ≤ 1048576) (hcap : xs.length ≤ cap) (hm0 : cap ≤ 9223372036854775807) (r0 : Reads w w.heap.size A xs) (nA tW : Addr) (e0 : Errs w nA tW) :
    Calls Tryz.prog 3 #[.slice A xs.length cap] w fun e w' => e = .returned (.bool true) ∧ Below w.heap.size w w' := by
  have R0 := Lib.hid r0; have E0 := Lib.hid e0; have HBY := Lib.hid hB; have HBIG := Lib.hid hbig; clear r0 e0
  go_enter Tryz.func3, Tryz.ntmps3
  go_wp2_with fail
  refine (big_no _ _ _ _ hbig hm0 hcap).mono ?_
  rintro e w1 ⟨rfl, rfl⟩
  go_wp2_with fail
  refine (drawspeak _ _ _ _ hB hbig R0.out).mono ?_
  rintro e w1 ⟨⟨P, R, X, V, U, D, Q, ns, ni, nz, ls, li, lz, As, cs, Ai, ci, Az, cz, a, b, f, t, rfl, ho, hn, hj, hk1, hk2, hab, hft⟩, b1⟩
  have hin := ho.inSky
  clear ho
  have hns := hin.ns_; have hni := hin.ni_
  obtain ⟨D0, hD0⟩ : ∃ d, d = w1.heap.size := ⟨_, rfl⟩
  obtain ⟨WL, hW⟩ : ∃ W, W = w1.alloc (.cells #[.int .i64 P, .slice As ns cs, .slice Ai ni ci, .int .i64 R, .int .i64 X, .int .i64 V, .int .i64 U, .int .i64 D, .slice Az nz cz, .int .i64 Q] 28) := ⟨_, rfl⟩
  have TL : Hid (Below w.heap.size w WL) := Lib.hid (by rw [hW]; exact b1.alloc b1.size _)
  have IL : Hid (InSky WL (D0) As ns cs Ai ni ci Az nz cz ls li lz) := Lib.hid (by rw [hW, hD0]; exact hin.below ((Below.refl w1.heap.size w1).alloc (Nat.le_refl _) _) (Nat.le_refl _))
  have DL : Hid (D0 ≤ WL.heap.size) := Lib.hid (by rw [hW, hD0]; simp)
  obtain ⟨G, hG⟩ : ∃ g, g = w1.heap.size := ⟨_, rfl⟩
  have ZL : Hid (Blk WL G 28 #[.int .i64 P, .slice As ns cs, .slice Ai ni ci, .int .i64 R, .int .i64 X, .int .i64 V, .int .i64 U, .int .i64 D, .slice Az nz cz, .int .i64 Q]) := Lib.hid (by rw [hW, hG]; exact Blk.new _ _ _)
  have EL := Lib.hid (E0.out.below TL.out)
  have hs : Hid (ns ≤ 16777216) := Lib.hid (by omega)
  have hi : Hid (ni ≤ 16777216) := Lib.hid (by omega)
  have hz : Hid (nz ≤ 16777216) := Lib.hid (by omega)
  have Ha : Hid (J64 a) := Lib.hid (by unfold J64; omega)
  have Hb : Hid (J64 b) := Lib.hid (by unfold J64; omega)
  have Hf : Hid (J64 f) := Lib.hid (by unfold J64; omega)
  have Ht : Hid (J64 t) := Lib.hid (by unfold J64; omega)
  have HP := Lib.hid hj.1
  have HK1 : Hid (∀ x ∈ ls, Ok4 x) := Lib.hid fun x hx => (hk1 x hx).1.ok4
  have HK2 : Hid (∀ x ∈ li, Ok3 x) := Lib.hid fun x hx => (hk2 x hx).1
  have HPH : Hid ((∀ x ∈ ls, 0 ≤ x.h ∧ x.h < 360) ∧ ∀ x ∈ li, 0 ≤ x.a ∧ x.a < 360) := Lib.hid ⟨fun x hx => (hk1 x hx).2, fun x hx => (hk2 x hx).2⟩
  have HFT := Lib.hid hft
  obtain ⟨H, hH⟩ : ∃ H : Int → Bool, ∀ i, decide (sightOf P R X V ls li a b i = 2) = H i := ⟨_, fun _ => rfl⟩
  obtain ⟨Qa, hQa⟩ : ∃ H : Int → Bool, ∀ i, mayAt ls li lz a i = H i := ⟨_, fun _ => rfl⟩
  obtain ⟨Qb, hQb⟩ : ∃ H : Int → Bool, ∀ i, mayAt ls li lz b i = H i := ⟨_, fun _ => rfl⟩
  have HH := Lib.hid hH; have HQA := Lib.hid hQa; have HQB := Lib.hid hQb
  have HM : Hid (∀ i, decide (sightM P R X V ns ni ls li a b i = 2) = H i) := Lib.hid fun i => by rw [hns, hni, sight_eq P R X V ls li a b i HPH.out.1 HPH.out.2]; exact hH i
  have HMA : Hid (∀ i, mayM ls li lz a i = Qa i) := Lib.hid fun i => by rw [may_eq ls li lz a i HPH.out.1 HPH.out.2]; exact hQa i
  have HMB : Hid (∀ i, mayM ls li lz b i = Qb i) := Lib.hid fun i => by rw [may_eq ls li lz b i HPH.out.1 HPH.out.2]; exact hQb i
  clear hn hj hk1 hk2 hab hin hH hQa hQb b1 hB hbig hcap hm0 hns hni
  go_wp2_with fail
  rw [← hW, ← hG]
  clear hW hG hD0
  obtain ⟨c0, c1, c2, c3, c4, c5, c6, c7, c8, c9⟩ := ZL.out.ten
  go_wp2_with fail
  refine (ispeaking WL P R X V U D Q ns ni nz ls li lz As cs Ai ci Az cz D0 IL.out DL.out hs.out hi.out hz.out HP.out HK1.out HK2.out nA tW EL.out a b Ha.out Hb.out f t Hf.out Ht.out H Qa Qb HH.out HQA.out HQB.out).mono ?_
  rintro e w2 ⟨A8, n8, k8, rfl, o8, b8⟩
  have B8 := Lib.hid b8
  have O8 := Lib.hid o8.sl
  have Z2 := Lib.hid (ZL.out.below b8 ZL.out.lt)
  clear o8 b8 c0 c1 c2 c3 c4 c5 c6 c7 c8 c9
  obtain ⟨c0, c1, c2, c3, c4, c5, c6, c7, c8, c9⟩ := Z2.out.ten
  go_wp2_with fail
  refine (sspeaking w2 P R X V U D Q ns ni nz ls li lz As cs Ai ci Az cz D0 (IL.out.below B8.out DL.out) (Nat.le_trans DL.out B8.out.size) hs.out hi.out hz.out HK1.out HK2.out a b Ha.out Hb.out f t H Qa Qb HM.out HMA.out HMB.out).mono ?_
  rintro e w3 ⟨A7, n7, k7, rfl, o7, b7⟩
  obtain rfl : n8 = n7 := by
    have h1 := O8.out.len; have h2 := o7.sl.len
    rw [sv_len] at h1 h2
    rw [spk_eq H Qa Qb f t Hf.out (by have := HFT.out; omega) Ht.out.2] at h1
    omega
  have B7 := Lib.hid (B8.out.trans (b7.mono B8.out.size))
  have O7 := Lib.hid (O8.out.below b7 (Nat.le_refl _))
  have Z3 := Lib.hid (Z2.out.below b7 Z2.out.lt)
  have HS7 : Hid (w2.heap.size ≤ w3.heap.size) := Lib.hid b7.size
  clear o7 b7 c0 c1 c2 c3 c4 c5 c6 c7 c8 c9 O8 Z2
  obtain ⟨c0, c1, c2, c3, c4, c5, c6, c7, c8, c9⟩ := Z3.out.ten
  go_wp2_with fail
  refine (iquiet w3 P R X V U D Q ns ni nz ls li lz As cs Ai ci Az cz D0 (IL.out.below B7.out DL.out) (Nat.le_trans DL.out B7.out.size) hs.out hi.out hz.out nA tW (EL.out.below B7.out) a Ha.out f t Hf.out Ht.out Qa HQA.out).mono ?_
  rintro e w4 ⟨A9, n9, k9, rfl, o9, b9⟩
  have B9 := Lib.hid (B7.out.trans (b9.mono B7.out.size))
  have HS9 : Hid (w3.heap.size ≤ w4.heap.size) := Lib.hid b9.size
  have O9 := Lib.hid o9.sl
  have O79 := Lib.hid (O7.out.below b9 HS7.out)
  clear o9 b9 c0 c1 c2 c3 c4 c5 c6 c7 c8 c9 O7 Z3
  go_wp2_with fail
  refine (imaxB 0 f _).mono ?_
  rintro e w5 ⟨rfl, b5⟩
  obtain ⟨l8, hl8⟩ : ∃ l, l = spkI H Qa Qb f t := ⟨_, rfl⟩
  obtain ⟨l9, hl9⟩ : ∃ l, l = winOf Qa f t := ⟨_, rfl⟩
  have I8 : Hid (∀ i, 0 ≤ i → f ≤ i → i < t → inL l8 i = (H i && !(Qa i || Qb i))) := Lib.hid fun i h0 h1 h2 => by rw [hl8]; exact spk_in H Qa Qb f t i ⟨HFT.out.1, HFT.out.2.1⟩ (by have := HFT.out; omega) h0 h1 h2
  have I9 : Hid (∀ i, 0 ≤ i → f ≤ i → i < t → inL l9 i = Qa i) := Lib.hid fun i h0 h1 h2 => by rw [hl9]; exact win_in Qa f t i ⟨HFT.out.1, HFT.out.2.1⟩ (by have := HFT.out; omega) h0 h1 h2
  rw [← hl8] at O79; rw [← hl9] at O9
  obtain ⟨D8, hD8⟩ : ∃ d, d = w2.heap.size := ⟨_, rfl⟩
  obtain ⟨D9, hD9⟩ : ∃ d, d = w4.heap.size := ⟨_, rfl⟩
  have B5 := Lib.hid (B9.out.trans (b5.mono B9.out.size))
  obtain ⟨QQ, hQ⟩ : ∃ QQ : World → Prop, ∀ wr, QQ wr ↔ Below w5.heap.size w5 wr := ⟨_, fun _ => Iff.rfl⟩
  have HQ0 : Hid (QQ w5) := Lib.hid ((hQ _).2 (Below.refl _ _))
  have HQ1 : Hid (∀ wr wr', QQ wr → Below wr.heap.size wr wr' → QQ wr') := Lib.hid fun wr wr' h h' => (hQ _).2 (((hQ _).1 h).trans (h'.mono ((hQ _).1 h).size))
  have HC : Hid (∀ wr, QQ wr → (wr.cell? ⟨G, 0, none⟩ = some (.int .i64 P) ∧ wr.cell? ⟨G, 1, none⟩ = some (.slice As ns cs) ∧ wr.cell? ⟨G, 2, none⟩ = some (.slice Ai ni ci) ∧ wr.cell? ⟨G, 3, none⟩ = some (.int .i64 R) ∧ wr.cell? ⟨G, 4, none⟩ = some (.int .i64 X) ∧ wr.cell? ⟨G, 5, none⟩ = some (.int .i64 V) ∧ wr.cell? ⟨G, 6, none⟩ = some (.int .i64 U) ∧ wr.cell? ⟨G, 7, none⟩ = some (.int .i64 D) ∧ wr.cell? ⟨G, 8, none⟩ = some (.slice Az nz cz) ∧ wr.cell? ⟨G, 9, none⟩ = some (.int .i64 Q)) ∧ Below w.heap.size w wr ∧ Errs wr nA tW ∧ InSky wr (D0) As ns cs Ai ni ci Az nz cz ls li lz ∧ D0 ≤ wr.heap.size ∧ (Sl wr D8 2 A8 n8 k8 (sv l8) ∧ D8 ≤ wr.heap.size) ∧ (Sl wr D9 2 A9 n9 k9 (sv l9) ∧ D9 ≤ wr.heap.size)) := Lib.hid fun wr h => by
    have hb := (hQ _).1 h
    have hb4 : Below w4.heap.size w4 wr := b5.trans (hb.mono b5.size)
    have hb2 : Below WL.heap.size WL wr := B5.out.trans (hb.mono B5.out.size)
    exact ⟨(ZL.out.below hb2 ZL.out.lt).ten, TL.out.trans (hb2.mono TL.out.size), EL.out.below hb2, IL.out.below hb2 DL.out, Nat.le_trans DL.out hb2.size, ⟨by rw [hD8]; exact O79.out.below hb4 (Nat.le_trans HS7.out HS9.out), by rw [hD8]; exact Nat.le_trans (Nat.le_trans HS7.out HS9.out) hb4.size⟩, by rw [hD9]; exact O9.out.below hb4 (Nat.le_refl _), by rw [hD9]; exact hb4.size⟩
  obtain ⟨m0, hm0⟩ : ∃ m, mxf 0 f = m := ⟨_, rfl⟩
  have hm1 : 0 ≤ m0 ∧ f ≤ m0 ∧ m0 ≤ 17 := by have := HFT.out; rw [← hm0]; unfold mxf; split <;> omega
  rw [hm0]
  clear hm0 b5 hl8 hl9 hD8 hD9 hQ B7 B8 B9 O9 O79 HS7 HS9 B5 TL IL DL ZL EL HM HMA HMB HPH
  obtain ⟨c0, c1, c2, c3, c4, c5, c6, c7, c8, c9⟩ := (HC.out _ HQ0.out).1
  have HEND : Hid (∀ wr, QQ wr → Below w.heap.size w wr ∧ Errs wr nA tW) := Lib.hid fun wr h => ⟨(HC.out wr h).2.1, (HC.out wr h).2.2.1⟩
  go_upto_block 0 with fail
  go_cut [10, 11] from 48 to 86 (fun _ _ wx => QQ wx)
  case first =>
    go_wp2_with fail
    go_loopw [10, 11] (fun iv fv wr => ∃ i : Int, m0 ≤ i ∧ (i ≤ t ∨ i = m0) ∧ iv = .int .i64 i ∧ QQ wr) (fun iv _ _ => (t - intOf iv).toNat)
    case atStart => exact ⟨m0, Int.le_refl _, .inr rfl, rfl, HQ0.out⟩
    case round =>
      clear HQ0 c0 c1 c2 c3 c4 c5 c6 c7 c8 c9
      obtain ⟨i, hi0, hi2, rfl, hq⟩ := hrel
      have HQ := Lib.hid hq
      have hft := HFT.out
      clear hq
      obtain ⟨c0, c1, c2, c3, c4, c5, c6, c7, c8, c9⟩ := (HC.out _ HQ.out).1
      by_cases hlt : i < t
      case neg =>
        go_wp2_with fail
        go_meet
        exact HQ.out
      case pos =>
        have hm1 : 0 ≤ i := by omega
        have hi1 : f ≤ i := by omega
        obtain ⟨qa, hqa⟩ : ∃ z, Qa i = z := ⟨_, rfl⟩
        obtain ⟨qb, hqb⟩ : ∃ z, Qb i = z := ⟨_, rfl⟩
        obtain ⟨hh, hhh⟩ : ∃ z, H i = z := ⟨_, rfl⟩
        have HVA : Hid (mayAt ls li lz a i = qa) := Lib.hid ((HQA.out i).trans hqa)
        have HVB : Hid (mayAt ls li lz b i = qb) := Lib.hid ((HQB.out i).trans hqb)
        have HSU : Hid (SureEq P R X V ls li a b i hh) := Lib.hid ((HH.out i).trans hhh)
        have HVAQ := Lib.hid hqa; have HVBQ := Lib.hid hqb; have HSQ := Lib.hid hhh
        clear hqa hqb hhh hft
        cases qa
        case true =>
          go_wp2_with fail
          refine (imay wr P R X V U D Q ns ni nz ls li lz As cs Ai ci Az cz D0 (HC.out _ HQ.out).2.2.2.1 (HC.out _ HQ.out).2.2.2.2.1 hs.out hi.out hz.out nA tW (HC.out _ HQ.out).2.2.1 a i Ha.out true HVA.out).mono ?_
          rintro e w6 ⟨rfl, b6⟩
          have HQ6 := Lib.hid (HQ1.out _ _ HQ.out b6)
          clear b6 c0 c1 c2 c3 c4 c5 c6 c7 c8 c9
          obtain ⟨c0, c1, c2, c3, c4, c5, c6, c7, c8, c9⟩ := (HC.out _ HQ6.out).1
          have HI8 : Hid (inL l8 i = false) := Lib.hid (by rw [I8.out i hm1 hi1 hlt, HVAQ.out]; simp)
          have HI9 : Hid (inL l9 i = true) := Lib.hid (by rw [I9.out i hm1 hi1 hlt]; exact HVAQ.out)
          go_upto_region 12 with fail
          obtain ⟨wr0, hwr0⟩ : ∃ x, x = w6 := ⟨_, rfl⟩
          have HQ0 : Hid (QQ wr0) := Lib.hid (by rw [hwr0]; exact HQ6.out)
          rw [← hwr0]
          clear hwr0 c0 c1 c2 c3 c4 c5 c6 c7 c8 c9
          have s0 : ∀ x : Wld QQ, x.w.cell? ⟨G, 0, none⟩ = some (.int .i64 P) := fun x => (HC.out _ x.h).1.1
          have s1 : ∀ x : Wld QQ, x.w.cell? ⟨G, 1, none⟩ = some (.slice As ns cs) := fun x => (HC.out _ x.h).1.2.1
          have s2 : ∀ x : Wld QQ, x.w.cell? ⟨G, 2, none⟩ = some (.slice Ai ni ci) := fun x => (HC.out _ x.h).1.2.2.1
          have s3 : ∀ x : Wld QQ, x.w.cell? ⟨G, 3, none⟩ = some (.int .i64 R) := fun x => (HC.out _ x.h).1.2.2.2.1
          have s4 : ∀ x : Wld QQ, x.w.cell? ⟨G, 4, none⟩ = some (.int .i64 X) := fun x => (HC.out _ x.h).1.2.2.2.2.1
          have s5 : ∀ x : Wld QQ, x.w.cell? ⟨G, 5, none⟩ = some (.int .i64 V) := fun x => (HC.out _ x.h).1.2.2.2.2.2.1
          have s6 : ∀ x : Wld QQ, x.w.cell? ⟨G, 6, none⟩ = some (.int .i64 U) := fun x => (HC.out _ x.h).1.2.2.2.2.2.2.1
          have s7 : ∀ x : Wld QQ, x.w.cell? ⟨G, 7, none⟩ = some (.int .i64 D) := fun x => (HC.out _ x.h).1.2.2.2.2.2.2.2.1
          have s8 : ∀ x : Wld QQ, x.w.cell? ⟨G, 8, none⟩ = some (.slice Az nz cz) := fun x => (HC.out _ x.h).1.2.2.2.2.2.2.2.2.1
          have s9 : ∀ x : Wld QQ, x.w.cell? ⟨G, 9, none⟩ = some (.int .i64 Q) := fun x => (HC.out _ x.h).1.2.2.2.2.2.2.2.2.2
          have hne : Nonempty (Wld QQ) := ⟨⟨_, HQ0.out⟩⟩
          refine wp_region_quiet_cls (C := fun w' => ∃ x : Wld QQ, w' = x.w) (by kernel_rfl) (by kernel_rfl) ⟨⟨_, HQ1.out _ _ HQ0.out (Below.refl _ _).drew⟩, rfl⟩ ?_
          repeat (go_big_quiet_step (first
              | (go_at_call 13; rename_i x; (with_reducible show Calls _ _ #[.slice A8 n8 k8, .int .i64 i] _ _); refine (iinspans x.w D8 A8 n8 k8 l8 (HC.out _ x.h).2.2.2.2.2.1.1 (HC.out _ x.h).2.2.2.2.2.1.2 i false HI8.out).mono ?_; rintro e w' ⟨rfl, hb⟩; exact ⟨rfl, ⟨⟨_, HQ1.out _ _ x.h hb⟩, rfl⟩⟩)
              | (go_at_call 13; rename_i x; (with_reducible show Calls _ _ #[.slice A9 n9 k9, .int .i64 i] _ _); refine (iinspans x.w D9 A9 n9 k9 l9 (HC.out _ x.h).2.2.2.2.2.2.1 (HC.out _ x.h).2.2.2.2.2.2.2 i true HI9.out).mono ?_; rintro e w' ⟨rfl, hb⟩; exact ⟨rfl, ⟨⟨_, HQ1.out _ _ x.h hb⟩, rfl⟩⟩)
              | (go_at_call 12; rename_i x; refine (imay x.w P R X V U D Q ns ni nz ls li lz As cs Ai ci Az cz D0 (HC.out _ x.h).2.2.2.1 (HC.out _ x.h).2.2.2.2.1 hs.out hi.out hz.out nA tW (HC.out _ x.h).2.2.1 a i Ha.out true HVA.out).mono ?_; rintro e w' ⟨rfl, hb⟩; exact ⟨rfl, ⟨⟨_, HQ1.out _ _ x.h hb⟩, rfl⟩⟩)))
          refine wpQuiet_nil ?_
          rintro _ ⟨⟨wq, hwq⟩, rfl⟩
          clear s0 s1 s2 s3 s4 s5 s6 s7 s8 s9 hne
          go_wp2_with fail
          go_roundw
          case rel => exact ⟨i + 1, by omega, by omega, by go_num, hwq⟩
          case measure => simp [intOf]; omega

        case false =>
          have HI9 : Hid (inL l9 i = false) := Lib.hid (by rw [I9.out i hm1 hi1 hlt]; exact HVAQ.out)
          go_wp2_with fail
          refine (imay wr P R X V U D Q ns ni nz ls li lz As cs Ai ci Az cz D0 (HC.out _ HQ.out).2.2.2.1 (HC.out _ HQ.out).2.2.2.2.1 hs.out hi.out hz.out nA tW (HC.out _ HQ.out).2.2.1 a i Ha.out false HVA.out).mono ?_
          rintro e w6 ⟨rfl, b6⟩
          have HQ6 := Lib.hid (HQ1.out _ _ HQ.out b6)
          clear b6 c0 c1 c2 c3 c4 c5 c6 c7 c8 c9
          obtain ⟨c0, c1, c2, c3, c4, c5, c6, c7, c8, c9⟩ := (HC.out _ HQ6.out).1

          cases qb
          case true =>
            go_wp2_with fail
            refine (imay w6 P R X V U D Q ns ni nz ls li lz As cs Ai ci Az cz D0 (HC.out _ HQ6.out).2.2.2.1 (HC.out _ HQ6.out).2.2.2.2.1 hs.out hi.out hz.out nA tW (HC.out _ HQ6.out).2.2.1 b i Hb.out true HVB.out).mono ?_
            rintro e w7 ⟨rfl, b7⟩
            have HQ7 := Lib.hid (HQ1.out _ _ HQ6.out b7)
            clear b7 c0 c1 c2 c3 c4 c5 c6 c7 c8 c9
            obtain ⟨c0, c1, c2, c3, c4, c5, c6, c7, c8, c9⟩ := (HC.out _ HQ7.out).1
            have HI8 : Hid (inL l8 i = false) := Lib.hid (by rw [I8.out i hm1 hi1 hlt, HVBQ.out]; simp)
            go_upto_region 12 with fail
            obtain ⟨wr0, hwr0⟩ : ∃ x, x = w7 := ⟨_, rfl⟩
            have HQ0 : Hid (QQ wr0) := Lib.hid (by rw [hwr0]; exact HQ7.out)
            rw [← hwr0]
            clear hwr0 c0 c1 c2 c3 c4 c5 c6 c7 c8 c9
            have s0 : ∀ x : Wld QQ, x.w.cell? ⟨G, 0, none⟩ = some (.int .i64 P) := fun x => (HC.out _ x.h).1.1
            have s1 : ∀ x : Wld QQ, x.w.cell? ⟨G, 1, none⟩ = some (.slice As ns cs) := fun x => (HC.out _ x.h).1.2.1
            have s2 : ∀ x : Wld QQ, x.w.cell? ⟨G, 2, none⟩ = some (.slice Ai ni ci) := fun x => (HC.out _ x.h).1.2.2.1
            have s3 : ∀ x : Wld QQ, x.w.cell? ⟨G, 3, none⟩ = some (.int .i64 R) := fun x => (HC.out _ x.h).1.2.2.2.1
            have s4 : ∀ x : Wld QQ, x.w.cell? ⟨G, 4, none⟩ = some (.int .i64 X) := fun x => (HC.out _ x.h).1.2.2.2.2.1
            have s5 : ∀ x : Wld QQ, x.w.cell? ⟨G, 5, none⟩ = some (.int .i64 V) := fun x => (HC.out _ x.h).1.2.2.2.2.2.1
            have s6 : ∀ x : Wld QQ, x.w.cell? ⟨G, 6, none⟩ = some (.int .i64 U) := fun x => (HC.out _ x.h).1.2.2.2.2.2.2.1
            have s7 : ∀ x : Wld QQ, x.w.cell? ⟨G, 7, none⟩ = some (.int .i64 D) := fun x => (HC.out _ x.h).1.2.2.2.2.2.2.2.1
            have s8 : ∀ x : Wld QQ, x.w.cell? ⟨G, 8, none⟩ = some (.slice Az nz cz) := fun x => (HC.out _ x.h).1.2.2.2.2.2.2.2.2.1
            have s9 : ∀ x : Wld QQ, x.w.cell? ⟨G, 9, none⟩ = some (.int .i64 Q) := fun x => (HC.out _ x.h).1.2.2.2.2.2.2.2.2.2
            have hne : Nonempty (Wld QQ) := ⟨⟨_, HQ0.out⟩⟩
            refine wp_region_quiet_cls (C := fun w' => ∃ x : Wld QQ, w' = x.w) (by kernel_rfl) (by kernel_rfl) ⟨⟨_, HQ1.out _ _ HQ0.out (Below.refl _ _).drew⟩, rfl⟩ ?_
            repeat (go_big_quiet_step (first
                | (go_at_call 13; rename_i x; (with_reducible show Calls _ _ #[.slice A8 n8 k8, .int .i64 i] _ _); refine (iinspans x.w D8 A8 n8 k8 l8 (HC.out _ x.h).2.2.2.2.2.1.1 (HC.out _ x.h).2.2.2.2.2.1.2 i false HI8.out).mono ?_; rintro e w' ⟨rfl, hb⟩; exact ⟨rfl, ⟨⟨_, HQ1.out _ _ x.h hb⟩, rfl⟩⟩)
                | (go_at_call 13; rename_i x; (with_reducible show Calls _ _ #[.slice A9 n9 k9, .int .i64 i] _ _); refine (iinspans x.w D9 A9 n9 k9 l9 (HC.out _ x.h).2.2.2.2.2.2.1 (HC.out _ x.h).2.2.2.2.2.2.2 i false HI9.out).mono ?_; rintro e w' ⟨rfl, hb⟩; exact ⟨rfl, ⟨⟨_, HQ1.out _ _ x.h hb⟩, rfl⟩⟩)
                | (go_at_call 12; rename_i x; refine (imay x.w P R X V U D Q ns ni nz ls li lz As cs Ai ci Az cz D0 (HC.out _ x.h).2.2.2.1 (HC.out _ x.h).2.2.2.2.1 hs.out hi.out hz.out nA tW (HC.out _ x.h).2.2.1 a i Ha.out false HVA.out).mono ?_; rintro e w' ⟨rfl, hb⟩; exact ⟨rfl, ⟨⟨_, HQ1.out _ _ x.h hb⟩, rfl⟩⟩)))
            refine wpQuiet_nil ?_
            rintro _ ⟨⟨wq, hwq⟩, rfl⟩
            clear s0 s1 s2 s3 s4 s5 s6 s7 s8 s9 hne
            go_wp2_with fail
            go_roundw
            case rel => exact ⟨i + 1, by omega, by omega, by go_num, hwq⟩
            case measure => simp [intOf]; omega

          case false =>
            go_wp2_with fail
            refine (imay w6 P R X V U D Q ns ni nz ls li lz As cs Ai ci Az cz D0 (HC.out _ HQ6.out).2.2.2.1 (HC.out _ HQ6.out).2.2.2.2.1 hs.out hi.out hz.out nA tW (HC.out _ HQ6.out).2.2.1 b i Hb.out false HVB.out).mono ?_
            rintro e w7 ⟨rfl, b7⟩
            have HQ7 := Lib.hid (HQ1.out _ _ HQ6.out b7)
            clear b7 c0 c1 c2 c3 c4 c5 c6 c7 c8 c9
            obtain ⟨c0, c1, c2, c3, c4, c5, c6, c7, c8, c9⟩ := (HC.out _ HQ7.out).1
            have HI8 : Hid (inL l8 i = hh) := Lib.hid (by rw [I8.out i hm1 hi1 hlt, HVAQ.out, HVBQ.out, HSQ.out]; simp)
            cases hh
            all_goals
              go_upto_region 12 with fail
              obtain ⟨wr0, hwr0⟩ : ∃ x, x = w7 := ⟨_, rfl⟩
              have HQ0 : Hid (QQ wr0) := Lib.hid (by rw [hwr0]; exact HQ7.out)
              rw [← hwr0]
              clear hwr0 c0 c1 c2 c3 c4 c5 c6 c7 c8 c9
              have s0 : ∀ x : Wld QQ, x.w.cell? ⟨G, 0, none⟩ = some (.int .i64 P) := fun x => (HC.out _ x.h).1.1
              have s1 : ∀ x : Wld QQ, x.w.cell? ⟨G, 1, none⟩ = some (.slice As ns cs) := fun x => (HC.out _ x.h).1.2.1
              have s2 : ∀ x : Wld QQ, x.w.cell? ⟨G, 2, none⟩ = some (.slice Ai ni ci) := fun x => (HC.out _ x.h).1.2.2.1
              have s3 : ∀ x : Wld QQ, x.w.cell? ⟨G, 3, none⟩ = some (.int .i64 R) := fun x => (HC.out _ x.h).1.2.2.2.1
              have s4 : ∀ x : Wld QQ, x.w.cell? ⟨G, 4, none⟩ = some (.int .i64 X) := fun x => (HC.out _ x.h).1.2.2.2.2.1
              have s5 : ∀ x : Wld QQ, x.w.cell? ⟨G, 5, none⟩ = some (.int .i64 V) := fun x => (HC.out _ x.h).1.2.2.2.2.2.1
              have s6 : ∀ x : Wld QQ, x.w.cell? ⟨G, 6, none⟩ = some (.int .i64 U) := fun x => (HC.out _ x.h).1.2.2.2.2.2.2.1
              have s7 : ∀ x : Wld QQ, x.w.cell? ⟨G, 7, none⟩ = some (.int .i64 D) := fun x => (HC.out _ x.h).1.2.2.2.2.2.2.2.1
              have s8 : ∀ x : Wld QQ, x.w.cell? ⟨G, 8, none⟩ = some (.slice Az nz cz) := fun x => (HC.out _ x.h).1.2.2.2.2.2.2.2.2.1
              have s9 : ∀ x : Wld QQ, x.w.cell? ⟨G, 9, none⟩ = some (.int .i64 Q) := fun x => (HC.out _ x.h).1.2.2.2.2.2.2.2.2.2
              have hne : Nonempty (Wld QQ) := ⟨⟨_, HQ0.out⟩⟩
              refine wp_region_quiet_cls (C := fun w' => ∃ x : Wld QQ, w' = x.w) (by kernel_rfl) (by kernel_rfl) ⟨⟨_, HQ1.out _ _ HQ0.out (Below.refl _ _).drew⟩, rfl⟩ ?_
              repeat (go_big_quiet_step (first
                  | (go_at_call 13; rename_i x; (with_reducible show Calls _ _ #[.slice A8 n8 k8, .int .i64 i] _ _); refine (iinspans x.w D8 A8 n8 k8 l8 (HC.out _ x.h).2.2.2.2.2.1.1 (HC.out _ x.h).2.2.2.2.2.1.2 i _ HI8.out).mono ?_; rintro e w' ⟨rfl, hb⟩; exact ⟨rfl, ⟨⟨_, HQ1.out _ _ x.h hb⟩, rfl⟩⟩)
                  | (go_at_call 13; rename_i x; (with_reducible show Calls _ _ #[.slice A9 n9 k9, .int .i64 i] _ _); refine (iinspans x.w D9 A9 n9 k9 l9 (HC.out _ x.h).2.2.2.2.2.2.1 (HC.out _ x.h).2.2.2.2.2.2.2 i false HI9.out).mono ?_; rintro e w' ⟨rfl, hb⟩; exact ⟨rfl, ⟨⟨_, HQ1.out _ _ x.h hb⟩, rfl⟩⟩)
                  | (go_at_call 14; rename_i x; refine (isure x.w P R X V U D Q ns ni nz ls li lz As cs Ai ci Az cz D0 (HC.out _ x.h).2.2.2.1 (HC.out _ x.h).2.2.2.2.1 hs.out hi.out HP.out HK1.out HK2.out nA tW (HC.out _ x.h).2.2.1 a b Ha.out Hb.out i _ HSU.out).mono ?_; rintro e w' ⟨rfl, hb⟩; exact ⟨rfl, ⟨⟨_, HQ1.out _ _ x.h hb⟩, rfl⟩⟩)
                  | (go_at_call 12; rename_i x; refine (imay x.w P R X V U D Q ns ni nz ls li lz As cs Ai ci Az cz D0 (HC.out _ x.h).2.2.2.1 (HC.out _ x.h).2.2.2.2.1 hs.out hi.out hz.out nA tW (HC.out _ x.h).2.2.1 a i Ha.out false HVA.out).mono ?_; rintro e w' ⟨rfl, hb⟩; exact ⟨rfl, ⟨⟨_, HQ1.out _ _ x.h hb⟩, rfl⟩⟩)))
              refine wpQuiet_nil ?_
              rintro _ ⟨⟨wq, hwq⟩, rfl⟩
              clear s0 s1 s2 s3 s4 s5 s6 s7 s8 s9 hne
              go_wp2_with fail
              go_roundw
              case rel => exact ⟨i + 1, by omega, by omega, by go_num, hwq⟩
              case measure => simp [intOf]; omega

  case rest =>
  have B3 := Lib.hid (HEND.out _ hcut).1
  have E3 := Lib.hid (HEND.out _ hcut).2
  have R3 := Lib.hid ((R0.out.below B3.out (Nat.le_refl _)).more B3.out.size)
  clear hcut c0 c1 c2 c3 c4 c5 c6 c7 c8 c9 I8 I9 HH HQA HQB HFT Ha Hb Hf Ht hs hi hz HP HK1 HK2 HC HQ0 HQ1 HEND R0 E0 hm1
  go_wp2_with fail
  refine (drawmay _ _ _ _ HBY.out HBIG.out R3.out).mono ?_
  rintro e w7 ⟨⟨P, R, X, V, U, D, Q, ns, ni, nz, ls, li, lz, As, cs, Ai, ci, Az, cz, b, u, rfl, ho, hn, hj, hk1, hk2, hab, hu⟩, b7⟩
  have hin := ho.inSky
  clear ho
  obtain ⟨D2, hD2⟩ : ∃ d, d = w7.heap.size := ⟨_, rfl⟩
  obtain ⟨WM, hW⟩ : ∃ W, W = w7.alloc (.cells #[.int .i64 P, .slice As ns cs, .slice Ai ni ci, .int .i64 R, .int .i64 X, .int .i64 V, .int .i64 U, .int .i64 D, .slice Az nz cz, .int .i64 Q] 28) := ⟨_, rfl⟩
  have b7' : Below wc.heap.size wc WM := by rw [hW]; exact b7.alloc b7.size _
  have IL : Hid (InSky WM (D2) As ns cs Ai ni ci Az nz cz ls li lz) := Lib.hid (by rw [hW, hD2]; exact hin.below ((Below.refl w7.heap.size w7).alloc (Nat.le_refl _) _) (Nat.le_refl _))
  have DL : Hid (D2 ≤ WM.heap.size) := Lib.hid (by rw [hW, hD2]; simp)
  obtain ⟨GM, hG⟩ : ∃ g, g = w7.heap.size := ⟨_, rfl⟩
  have ZL : Hid (Blk WM GM 28 #[.int .i64 P, .slice As ns cs, .slice Ai ni ci, .int .i64 R, .int .i64 X, .int .i64 V, .int .i64 U, .int .i64 D, .slice Az nz cz, .int .i64 Q]) := Lib.hid (by rw [hW, hG]; exact Blk.new _ _ _)
  have EM := Lib.hid (E3.out.below b7')
  have BM := Lib.hid (B3.out.trans (b7'.mono B3.out.size))
  have HNS := Lib.hid hin.ns_
  have hs : Hid (ns ≤ 16777216) := Lib.hid (by omega)
  have hi : Hid (ni ≤ 16777216) := Lib.hid (by omega)
  have hz : Hid (nz ≤ 16777216) := Lib.hid (by omega)
  have Hb : Hid (J64 b) := Lib.hid (by unfold J64; omega)
  obtain ⟨v, hv⟩ : ∃ z, mayAt ls li lz b u = z := ⟨_, rfl⟩
  have HV := Lib.hid hv
  have hbd : v = true → 0 ≤ b ∧ b < (ns : Int) := fun h => by
    have h1 := may_node (hv.trans h)
    rw [HNS.out]; exact h1
  clear hn hj hk1 hk2 hab hu b7 b7' hin hv B3 R3 E3
  go_wp2_with fail
  rw [← hW, ← hG]
  clear hW hG hD2
  obtain ⟨c0, c1, c2, c3, c4, c5, c6, c7, c8, c9⟩ := ZL.out.ten
  go_wp2_with fail
  refine (imay WM P R X V U D Q ns ni nz ls li lz As cs Ai ci Az cz D2 IL.out DL.out hs.out hi.out hz.out nA tW EM.out b u Hb.out v HV.out).mono ?_
  rintro e w8 ⟨rfl, b8⟩
  have B8 := Lib.hid b8
  have BF := Lib.hid (BM.out.trans (b8.mono BM.out.size))
  clear b8 c0 c1 c2 c3 c4 c5 c6 c7 c8 c9
  obtain ⟨c0, c1, c2, c3, c4, c5, c6, c7, c8, c9⟩ := (ZL.out.below B8.out ZL.out.lt).ten
  cases v
  · go_wp2_with fail
    go_ret
    exact ⟨rfl, BF.out⟩
  · obtain ⟨hb0, hb1⟩ := hbd rfl
    go_wp2_with fail
    refine (iisquiet w8 P R X V U D Q ns ni nz ls li lz As cs Ai ci Az cz D2 (IL.out.below B8.out DL.out) (Nat.le_trans DL.out B8.out.size) hs.out hi.out hz.out nA tW (EM.out.below B8.out) u).mono ?_
    rintro e w9 ⟨⟨q, rfl, hq⟩, b9⟩
    have hqf : q = false := by
      cases q
      · rfl
      · have h1 := hq rfl b.toNat (by omega)
        rw [show ((b.toNat : Nat) : Int) = b by omega, HV.out] at h1
        cases h1
    subst hqf
    have BG := Lib.hid (BF.out.trans (b9.mono BF.out.size))
    clear hq b9
    go_wp2_with fail
    go_ret
    exact ⟨rfl, BG.out⟩
end Go.Proofs.YtanpenijmojbdaaGreatDoor
