/- The model's CloudSpans, CutClouds, IsCovered and LostTicks. -/
import Derived.Test.YtmmnnbgfomcihaaCloudFacts
import Derived.Test.YtmmnnbgfomcihaaSpanPut
import Derived.Test.YtmmnnbgfomcihaaContactS
import Derived.Test.YtmmnnbgfomcihaaApart
import Derived.Test.YtmmnnbgfomcihaaMid
import Derived.Deep.RegionHeld3
import Derived.Deep.Cut
import Derived.Deep.DeepCutAuto
import Derived.Deep.CutRange
namespace Go.Proofs.Ytmmnnbgfomcihaa
open Go.ChangeShapes Go.WideShapes Go.ChangeAt Go.RowKit
set_option linter.unusedVariables false
theorem Own.madeS (w : World) (B s : Nat) (E : TypeId) (hB : B ≤ w.heap.size) : Own (w.alloc (.cells #[] E)) B E s (some ⟨w.heap.size, 0, none⟩) 0 0 [] := ⟨World.ownsRow_made w #[] 0 hB (by unfold maxLen; omega) (by simp)⟩
set_option maxRecDepth 100000 in
set_option maxHeartbeats 1000000 in
theorem scloud (w : World) (D : Nat) (A : Option Addr) (n c : Nat) (l : List Tri) (h : Sl w D 3 A n c (fl c3 l)) (hD : D ≤ w.heap.size) (hn : n ≤ 16777216) (v : Int) :
    Calls Try.prog 17 #[.slice A n c, .int .i64 v] w (GivesS w (cloudS l v)) := by
  obtain ⟨i0, hi0, hy0, hy1, hy2⟩ := info_parts span_info
  obtain rfl := h.num c3_len (by omega)
  have HS := Lib.hid h
  have hcap := h.cap; have hcapm := h.capm
  clear h
  have hfirst : Hid (Own (w.alloc (.cells #[] 60)) w.heap.size 60 2 (some ⟨w.heap.size, 0, none⟩) 0 0 (sv (cloudL (l.take 0) v)) ∧ Below w.heap.size w (w.alloc (.cells #[] 60))) := Lib.hid ⟨Own.madeS w w.heap.size 2 _ (Nat.le_refl _), (Below.refl _ _).alloc (Nat.le_refl _) _⟩
  go_enter Try.func17, Try.ntmps17
  go_wp2_with fail
  go_loopw [5, 6] (fun o i wr => ∃ (k : Nat) (A1 : Option Addr) (n1 c1 : Nat), k ≤ l.length ∧ i = .int .i64 k ∧ o = .slice A1 n1 c1 ∧ Own wr w.heap.size 60 2 A1 n1 c1 (sv (cloudL (l.take k) v)) ∧ Below w.heap.size w wr) (fun _ i _ => l.length - (intOf i).toNat)
  case atStart => exact ⟨0, _, _, _, Nat.zero_le _, rfl, rfl, hfirst.out⟩
  case round =>
    clear hfirst
    obtain ⟨k, A1, n1, c1, hk, rfl, rfl, ho, hb⟩ := hrel
    have HO := Lib.hid ho; have HB := Lib.hid hb
    clear ho hb
    by_cases hlt : k < l.length
    case neg =>
      obtain rfl : k = l.length := by omega
      rw [List.take_length] at HO
      go_wp2_with fail
      refine (sjoin wr wr.heap.size A1 n1 c1 (cloudL l v) HO.out.sl (Nat.le_refl _)).mono ?_
      rintro e w4 ⟨A4, n4, c4', rfl, o4, b4⟩
      have HF : Hid (GivesS w (cloudS l v) (.returned (.slice A4 n4 c4')) w4) := Lib.hid ⟨_, _, _, rfl, o4.fewer HB.out.size, HB.out.trans (b4.mono HB.out.size)⟩
      clear o4 b4
      go_wp2
      go_ret
      exact HF.out
    case pos =>
      obtain ⟨ad, hx, rfl, had, c0, c1', c2'⟩ := (HS.out.below HB.out hD).tri hlt
      have HT := Lib.hid (cloudL_snoc l k hlt v)
      have HCB : Hid (∀ w', Below w.heap.size w w' → w'.cell? ⟨(ad.add (k * 3)).block, (ad.add (k * 3)).off + 1, none⟩ = some (.int .i64 l[k].a) ∧ w'.cell? ⟨(ad.add (k * 3)).block, (ad.add (k * 3)).off + 2, none⟩ = some (.int .i64 l[k].b)) := Lib.hid fun w' hb => by
        obtain ⟨ad', hx', e, had', q0, q1, q2⟩ := (HS.out.below hb hD).tri hlt
        injection e with e; rw [e]; exact ⟨q1, q2⟩
      obtain ⟨z, hz⟩ : ∃ z, z = l[k] := ⟨_, rfl⟩
      rw [← hz] at HT c0 c1' c2' HCB
      clear hz
      obtain ⟨p, f, t⟩ := z
      simp only at HT c0 c1' c2' HCB
      have hk0 : (0 : Int) ≤ (k : Int) := by omega
      have hkl : (k : Int) < (l.length : Int) := by omega
      obtain ⟨L, hL⟩ : ∃ L, L = cloudL (l.take k) v := ⟨_, rfl⟩
      have hLn : L.length ≤ 16777216 := by
        rw [hL]
        have h1 := cloudL_len (l.take k) v
        rw [List.length_take] at h1; omega
      rw [← hL] at HO HT
      clear hL
      by_cases hp : p = v
      case neg =>
        have hpb : (p == v) = false := by simp [hp]
        rw [if_neg hp] at HT
        have HF : Hid (Own wr w.heap.size 60 2 A1 n1 c1 (sv (cloudL (l.take (k + 1)) v))) := Lib.hid (by rw [HT.out]; exact HO.out)
        go_wp2_with fail
        go_roundw
        case rel => exact ⟨k + 1, A1, n1, c1, by omega, by go_num, rfl, HF.out, HB.out⟩
        case measure => simp [intOf]; omega
      case pos =>
        subst hp
        rw [if_pos rfl] at HT
        have hn1 : n1 = L.length := by have h2 := HO.out.len; rw [sv_len] at h2; omega
        have hb16 : (n1 + 1) * 16 ≤ 140737488355328 := by omega
        have hone : Hid (∀ u ∈ [Value.int IntKind.i64 f, .int .i64 t], u.oneCell' = true) := Lib.hid (by simp [Value.oneCell'])
        have HAPP : Hid (sv (cloudL (l.take (k + 1)) p) = sv L ++ [.int .i64 f, .int .i64 t]) := Lib.hid (by rw [HT.out, sv_app]; rfl)
        clear hn1
        have hszw : w.heap.size ≤ wr.heap.size := HB.out.size
        have bd : Below wr.heap.size wr (wr.drew.alloc (.cells #[.int .i64 f, .int .i64 t] 60)) := (Below.refl wr.heap.size wr).drew.alloc (Nat.le_refl _) _
        have HOD := Lib.hid (HO.out.on bd); have HBD := Lib.hid (HB.out.trans (bd.mono HB.out.size))
        clear bd
        go_upto_region 6 with fail
        go_region_held3 (fun w' => w'.cell? ⟨(ad.add (k * 3)).block, (ad.add (k * 3)).off + 1, none⟩ = some (.int .i64 f) ∧ w'.cell? ⟨(ad.add (k * 3)).block, (ad.add (k * 3)).off + 2, none⟩ = some (.int .i64 t)) (first | exact ⟨c1', c2'⟩ | exact hc5 | go_keep) (first
          | (refine step_append_sl _ (by rfl) _ _ 35 (by rfl) w.heap.size 60 i0 _ 2 16 Try.underlying35 hi0 hy0 hy1 hy2 rfl (by omega) A1 n1 c1 (sv L) (by rfl) HOD.out (wr.heap.size + 1) _ 1 1 [.int .i64 f, .int .i64 t] (by rfl) (Sl.one2 wr.drew _ _ _) hone.out (by omega) hb16 (by simp; omega) ?_; intro A5 c5 w5 hown5 hg5 hat5; have HF : Hid (Own w5 w.heap.size 60 2 A5 (n1 + 1) c5 (sv (cloudL (l.take (k + 1)) p)) ∧ Below w.heap.size w w5) := Lib.hid ⟨(by rw [HAPP.out]; exact hown5), HBD.out.grown hg5 HBD.out.size (fun j hj => (HOD.out.row.lt j hj).1)⟩; have hc5 : w5.cell? ⟨(ad.add (k * 3)).block, (ad.add (k * 3)).off + 1, none⟩ = some (.int .i64 f) ∧ w5.cell? ⟨(ad.add (k * 3)).block, (ad.add (k * 3)).off + 2, none⟩ = some (.int .i64 t) := (HCB.out _ HF.out.2); clear hown5 hg5 hat5))
        go_wp2_with fail
        go_roundw
        case rel => exact ⟨k + 1, A5, n1 + 1, c5, by omega, by go_num, rfl, HF.out⟩
        case measure => simp [intOf]; omega
theorem cutX_take (cl : List Tri) (x : Sat4) (j : Nat) (r : Int × Int) (hj : (cutC cl x)[j]? = some r) : (cutX cl x).take (j + 1) = (cutX cl x).take j ++ [⟨x.p, x.h, r.1, r.2⟩] := by
  obtain ⟨h, e⟩ := List.getElem?_eq_some_iff.1 hj
  unfold cutX
  rw [List.take_succ_eq_append_getElem (by rw [List.length_map]; exact h), List.getElem_map, e]
set_option maxRecDepth 100000 in
set_option maxHeartbeats 4000000 in
theorem scutc (w : World) (D D' : Nat) (A A' : Option Addr) (n n' c c' : Nat) (l : List Sat4) (cl : List Tri) (h : Sl w D 4 A n c (fl c4 l)) (h' : Sl w D' 3 A' n' c' (fl c3 cl)) (hD : D ≤ w.heap.size) (hD' : D' ≤ w.heap.size) (hn : n ≤ 16777216) (hn' : n' ≤ 16777216) :
    Calls Try.prog 11 #[.slice A n c, .slice A' n' c'] w (GivesC w (cutP cl l)) := by
  obtain ⟨i0, hi0, hy0, hy1, hy2⟩ := info_parts contact_info
  obtain rfl := h.num c4_len (by omega)
  have HS := Lib.hid h; have HS' := Lib.hid h'
  have hcap := h.cap; have hcapm := h.capm
  clear h h'
  have hfirst : Hid (Own (w.alloc (.cells #[] 57)) w.heap.size 57 4 (some ⟨w.heap.size, 0, none⟩) 0 0 (fl c4 (cutP cl (l.take 0))) ∧ Below w.heap.size w (w.alloc (.cells #[] 57))) := Lib.hid ⟨Own.madeS w w.heap.size 4 _ (Nat.le_refl _), (Below.refl _ _).alloc (Nat.le_refl _) _⟩
  go_enter Try.func11, Try.ntmps11
  go_wp2_with fail
  go_loopw [5, 6] (fun o i wr => ∃ (k : Nat) (A1 : Option Addr) (n1 c1 : Nat), k ≤ l.length ∧ i = .int .i64 k ∧ o = .slice A1 n1 c1 ∧ Own wr w.heap.size 57 4 A1 n1 c1 (fl c4 (cutP cl (l.take k))) ∧ Below w.heap.size w wr) (fun _ i _ => l.length - (intOf i).toNat)
  case atStart => exact ⟨0, _, _, _, Nat.zero_le _, rfl, rfl, hfirst.out⟩
  case round =>
    clear hfirst
    obtain ⟨k, A1, n1, c1, hk, rfl, rfl, ho, hb⟩ := hrel
    have HO := Lib.hid ho; have HB := Lib.hid hb
    clear ho hb
    by_cases hlt : k < l.length
    case neg =>
      obtain rfl : k = l.length := by omega
      have HF : Hid (GivesC w (cutP cl l) (.returned (.slice A1 n1 c1)) wr) := Lib.hid ⟨_, _, _, rfl, by have h := HO.out; rw [List.take_length] at h; exact h, HB.out⟩
      clear hi0 hy0 hy1 hy2
      go_wp2
      go_ret
      exact HF.out
    case pos =>
      obtain ⟨ad, hx, rfl, had, c0, c1', c2', c3'⟩ := (HS.out.below HB.out hD).four hlt
      have HT := Lib.hid (cutP_snoc cl l k hlt)
      have hk0 : (0 : Int) ≤ (k : Int) := by omega
      have hkl : (k : Int) < (l.length : Int) := by omega
      obtain ⟨z, hz⟩ : ∃ z, z = l[k] := ⟨_, rfl⟩
      rw [← hz] at HT c0 c1' c2' c3'
      clear hz
      have HZC : Hid (cutC cl z = cutOf (cutOf [(z.v, z.e)] (cloudS cl z.p)) (cloudS cl z.h)) := Lib.hid rfl
      have HZT : Hid (∀ j r, (cutC cl z)[j]? = some r → (cutX cl z).take (j + 1) = (cutX cl z).take j ++ [⟨z.p, z.h, r.1, r.2⟩]) := Lib.hid fun j r hj => cutX_take cl z j r hj
      have HZL : Hid ((cutX cl z).length = (cutC cl z).length ∧ (cutC cl z).length ≤ 1000) := Lib.hid ⟨by unfold cutX; rw [List.length_map], cutC_len cl z⟩
      obtain ⟨p, q, f, t⟩ := z
      simp only at c0 c1' c2' c3' HZC HZT
      obtain ⟨L, hL⟩ : ∃ L, L = cutC cl ⟨p, q, f, t⟩ := ⟨_, rfl⟩
      obtain ⟨LX, hLX⟩ : ∃ L, L = cutX cl ⟨p, q, f, t⟩ := ⟨_, rfl⟩
      obtain ⟨LP, hLP⟩ : ∃ L, L = cutP cl (l.take k) := ⟨_, rfl⟩
      have hLPn : LP.length ≤ 16777216000 := by
        rw [hLP]
        have h1 := cutP_len cl (l.take k)
        rw [List.length_take] at h1; omega
      simp only [← hL, ← hLX] at HZC HZT HZL
      rw [← hLX, ← hLP] at HT
      rw [← hLP] at HO
      clear hL hLX hLP
      obtain ⟨W1, hW1⟩ : ∃ W, W = wr.alloc (.cells #[.int .i64 p, .int .i64 q, .int .i64 f, .int .i64 t] 57) := ⟨_, rfl⟩
      obtain ⟨G, hG⟩ : ∃ g, g = wr.heap.size := ⟨_, rfl⟩
      have Z1 : Hid (Blk W1 G 57 #[.int .i64 p, .int .i64 q, .int .i64 f, .int .i64 t]) := Lib.hid (by rw [hW1, hG]; exact Blk.new _ _ _)
      have B1 : Hid (Below wr.heap.size wr W1) := Lib.hid (by rw [hW1]; exact (Below.refl _ _).alloc (Nat.le_refl _) _)
      have HG := Lib.hid hG
      go_wp2_with fail
      rw [← hW1, ← hG]
      clear hW1 hG c0 c1' c2' c3'
      have HC : Hid (∀ w', Below W1.heap.size W1 w' → w'.cell? ⟨G, 0, none⟩ = some (.int .i64 p) ∧ w'.cell? ⟨G, 1, none⟩ = some (.int .i64 q) ∧ w'.cell? ⟨G, 2, none⟩ = some (.int .i64 f) ∧ w'.cell? ⟨G, 3, none⟩ = some (.int .i64 t)) := Lib.hid fun w' hb => by
        have z := Z1.out.below hb Z1.out.lt
        exact ⟨z.cell 0, z.cell 1, z.cell 2, z.cell 3⟩
      have HSC : Hid (∀ w', Below W1.heap.size W1 w' → Sl w' D' 3 A' n' c' (fl c3 cl) ∧ D' ≤ w'.heap.size) := Lib.hid fun w' hb => by
        have hb2 := (HB.out.trans (B1.out.mono HB.out.size)).trans (hb.mono (Nat.le_trans HB.out.size B1.out.size))
        exact ⟨HS'.out.below hb2 hD', Nat.le_trans hD' hb2.size⟩
      have hc0 := HC.out W1 (Below.refl _ _)
      have BA : Hid (Below W1.heap.size W1 (W1.alloc (.cells #[.int .i64 f, .int .i64 t] 60)).drew) := Lib.hid ((Below.refl W1.heap.size W1).alloc (Nat.le_refl _) _).drew
      have SLA : Hid (Sl (W1.alloc (.cells #[.int .i64 f, .int .i64 t] 60)).drew (W1.heap.size + 1) 2 (some ⟨W1.heap.size, 0, none⟩) 1 1 (sv [(f, t)])) := Lib.hid (by
        have hb : Below (W1.alloc (.cells #[.int .i64 f, .int .i64 t] 60)).heap.size (W1.alloc (.cells #[.int .i64 f, .int .i64 t] 60)) (W1.alloc (.cells #[.int .i64 f, .int .i64 t] 60)).drew := (Below.refl _ _).drew
        exact (Sl.one2 W1 _ _ _).below hb (by simp))
      have HSA : Hid ((W1.alloc (.cells #[.int .i64 f, .int .i64 t] 60)).drew.heap.size = W1.heap.size + 1) := Lib.hid (by show (W1.alloc (.cells #[.int .i64 f, .int .i64 t] 60)).heap.size = _; simp)
      have BD : Hid (Below W1.heap.size W1 W1.drew) := Lib.hid (Below.refl W1.heap.size W1).drew
      go_upto_region 6 with fail
      go_cut [8] from 21 to 31 (fun v wx => ∃ A8 n8 c8, v = .slice A8 n8 c8 ∧ Sl wx wx.heap.size 2 A8 n8 c8 (sv (cutOf [(f, t)] (cloudS cl p))) ∧ Below W1.heap.size W1 wx)
      case first =>
        go_region_held3 (fun w' => w'.cell? ⟨G, 0, none⟩ = some (.int .i64 p) ∧ w'.cell? ⟨G, 1, none⟩ = some (.int .i64 q) ∧ w'.cell? ⟨G, 2, none⟩ = some (.int .i64 f) ∧ w'.cell? ⟨G, 3, none⟩ = some (.int .i64 t)) (first | exact hc0 | exact hcA | exact hcB | go_keep) (first
          | (go_at_call 41; have hbefore := SLB.out; refine (scut wA _ _ _ Aa 1 na 1 ca [(f, t)] (cloudS cl p) SLB.out SA.out HSZ.out (Nat.le_refl _)).mono ?_; rintro e wB ⟨Ab, nb, cb, rfl, oB, bB⟩; have HBB : Hid (Below W1.heap.size W1 wB) := Lib.hid (HBW.out.trans (bB.mono HBW.out.size)); have hcB := HC.out _ HBB.out; have SB := Lib.hid oB.sl; clear oB bB hbefore)
          | (go_at_call 41; have hbefore := SA.out; refine (scut (wA.alloc (.cells #[.int .i64 f, .int .i64 t] 60)) _ _ _ Aa 1 na 1 ca [(f, t)] (cloudS cl p) (Sl.one2 wA _ _ _) (SA.out.below ((Below.refl wA.heap.size wA).alloc (Nat.le_refl _) (.cells #[.int .i64 f, .int .i64 t] 60)) (Nat.le_refl _)) (by simp) (by simp)).mono ?_; rintro e wB ⟨Ab, nb, cb, rfl, oB, bB⟩; have HBB : Hid (Below W1.heap.size W1 wB) := Lib.hid ((HBW.out.alloc HBW.out.size (.cells #[.int .i64 f, .int .i64 t] 60)).trans (bB.mono (HBW.out.alloc HBW.out.size (.cells #[.int .i64 f, .int .i64 t] 60)).size)); have hcB := HC.out _ HBB.out; have SB := Lib.hid oB.sl; clear oB bB hbefore)
          | (go_at_call 17; (with_reducible refine (scloud (W1.alloc (.cells #[.int .i64 f, .int .i64 t] 60)).drew D' A' n' c' cl (HSC.out _ BA.out).1 (HSC.out _ BA.out).2 hn' p).mono ?_); rintro e wA ⟨Aa, na, ca, rfl, oA, bA⟩; have HBW : Hid (Below W1.heap.size W1 wA) := Lib.hid (BA.out.trans (bA.mono BA.out.size)); have hcA := HC.out _ HBW.out; have SA := Lib.hid oA.sl; have SLB := Lib.hid (SLA.out.below bA (Nat.le_of_eq HSA.out.symm)); have HSZ : Hid (W1.heap.size + 1 ≤ wA.heap.size) := Lib.hid (Nat.le_trans (Nat.le_of_eq HSA.out.symm) bA.size); clear oA bA)
          | (go_at_call 17; (with_reducible refine (scloud W1.drew D' A' n' c' cl (HSC.out _ BD.out).1 (HSC.out _ BD.out).2 hn' p).mono ?_); rintro e wA ⟨Aa, na, ca, rfl, oA, bA⟩; have HBW : Hid (Below W1.heap.size W1 wA) := Lib.hid (BD.out.trans (bA.mono BD.out.size)); have hcA := HC.out _ HBW.out; have SA := Lib.hid oA.sl; clear oA bA))
        all_goals
          go_wp2_with fail
          go_meet
          exact ⟨_, _, _, rfl, SB.out, HBB.out⟩
      case rest =>
        obtain ⟨A8, n8, c8, rfl, s8, b8⟩ := hcut
        have S8 := Lib.hid s8; have B8 := Lib.hid b8
        clear s8 b8 hc0 BD HSA SLA BA
        obtain ⟨c0, c1', c2', c3'⟩ := HC.out _ B8.out
        go_wp2_with fail
        refine (scloud wc D' A' n' c' cl (HSC.out _ B8.out).1 (HSC.out _ B8.out).2 hn' q).mono ?_
        rintro e w9 ⟨A9, n9, c9, rfl, o9, b9⟩
        have S9 := Lib.hid o9.sl; have S89 := Lib.hid (S8.out.below b9 (Nat.le_refl _)); have HS89 : Hid (wc.heap.size ≤ w9.heap.size) := Lib.hid b9.size
        have B9 := Lib.hid (B8.out.trans (b9.mono B8.out.size))
        clear o9 b9 c0 c1' c2' c3'
        go_wp2_with fail
        refine (scut w9 _ _ A8 A9 n8 n9 c8 c9 (cutOf [(f, t)] (cloudS cl p)) (cloudS cl q) S89.out S9.out HS89.out (Nat.le_refl _)).mono ?_
        rintro e w10 ⟨A10, n10, c10, rfl, o10, b10⟩
        rw [← HZC.out] at o10
        have B10 := Lib.hid (B9.out.trans (b10.mono B9.out.size))
        have BW := Lib.hid (B1.out.trans (B10.out.mono B1.out.size))
        obtain ⟨hi, hhi⟩ : ∃ h, h = w10.heap.size := ⟨_, rfl⟩
        have HI : Hid (G < hi ∧ w.heap.size ≤ hi) := Lib.hid ⟨by rw [hhi]; have := Z1.out.lt; have := B10.out.size; omega, by rw [hhi]; have := HB.out.size; have := BW.out.size; omega⟩
        have ZK : Hid (∀ w', Keeps G hi w10 w' → Blk w' G 57 #[.int .i64 p, .int .i64 q, .int .i64 f, .int .i64 t]) := Lib.hid fun w' hk => hk.blk (Z1.out.below B10.out Z1.out.lt) (Nat.le_refl _) HI.out.1
        have SK : Hid (∀ w', Keeps G hi w10 w' → Sl w' hi 2 A10 n10 c10 (sv L)) := Lib.hid fun w' hk => o10.mid (by rw [HG.out]; exact Nat.le_trans B1.out.size B9.out.size) (by rw [hhi]; exact Nat.le_refl _) hk
        have hn10 : n10 = L.length := by have h2 := o10.len; rw [sv_len] at h2; omega
        have hcap10 := o10.capm
        have hfirst : Hid (Off G hi A1 ∧ Keeps G hi w10 w10 ∧ Own w10 w.heap.size 57 4 A1 n1 c1 (fl c4 (LP ++ LX.take 0)) ∧ Below w.heap.size w w10) := Lib.hid ⟨HO.out.off (by rw [HG.out]; exact Nat.le_refl _), by rw [hhi]; exact Keeps.refl _ _, by rw [List.take_zero, List.append_nil]; exact HO.out.on BW.out, HB.out.trans (BW.out.mono HB.out.size)⟩
        clear o10 b10 HO HB hhi S8 S89 S9 HS89 B9 B10 BW B8 Z1 B1 HSC HC
        go_wp2_with fail
        go_loopw [5, 9] (fun o i wr => ∃ (j : Nat) (A : Option Addr) (n c : Nat), j ≤ L.length ∧ i = .int .i64 j ∧ o = .slice A n c ∧ Off G hi A ∧ Keeps G hi w10 wr ∧ Own wr w.heap.size 57 4 A n c (fl c4 (LP ++ LX.take j)) ∧ Below w.heap.size w wr) (fun _ i _ => L.length - (intOf i).toNat)
        case atStart => exact ⟨0, _, _, _, Nat.zero_le _, rfl, rfl, hfirst.out⟩
        case round =>
          clear hfirst
          obtain ⟨j, A2, n2, c2, hj, rfl, rfl, hoff, hkp, ho, hb⟩ := hrel
          have HOFF := Lib.hid hoff; have HKP := Lib.hid hkp; have HO := Lib.hid ho; have HB := Lib.hid hb
          clear hoff hkp ho hb
          by_cases hlj : j < L.length
          case neg =>
            have HF : Hid (Own wr w.heap.size 57 4 A2 n2 c2 (fl c4 (cutP cl (l.take (k + 1))))) := Lib.hid (by
              rw [HT.out]
              have h := HO.out
              rw [List.take_of_length_le (by rw [HZL.out.1]; omega)] at h
              exact h)
            go_wp2_with fail
            go_roundw
            case rel => exact ⟨k + 1, A2, n2, c2, by omega, by go_num, rfl, HF.out, HB.out⟩
            case measure => simp [intOf]; omega
          case pos =>
            have HCJ : Hid (∀ w', Keeps G hi w10 w' → ∃ ad, A10 = some ad ∧ w'.cell? ⟨G, 0, none⟩ = some (.int .i64 p) ∧ w'.cell? ⟨G, 1, none⟩ = some (.int .i64 q) ∧ w'.cell? (ad.add (j * 2)) = some (.int .i64 L[j].1) ∧ w'.cell? ⟨(ad.add (j * 2)).block, (ad.add (j * 2)).off + 1, none⟩ = some (.int .i64 L[j].2)) := Lib.hid fun w' hk => by
              obtain ⟨ad, hx, e, had, q0, q1⟩ := (SK.out w' hk).two (show j < n10 by omega)
              exact ⟨ad, e, (ZK.out w' hk).cell 0, (ZK.out w' hk).cell 1, q0, q1⟩
            have HTK := Lib.hid (HZT.out j L[j] (List.getElem?_eq_getElem hlj))
            obtain ⟨x, hx⟩ : ∃ x, x = L[j].1 := ⟨_, rfl⟩
            obtain ⟨y, hy⟩ : ∃ y, y = L[j].2 := ⟨_, rfl⟩
            rw [← hx, ← hy] at HCJ HTK
            clear hx hy
            obtain ⟨ad2, hA10, a0, a1, a2, a3⟩ := HCJ.out wr HKP.out
            subst hA10
            have HC2 : Hid (∀ w', Keeps G hi w10 w' → w'.cell? ⟨G, 0, none⟩ = some (.int .i64 p) ∧ w'.cell? ⟨G, 1, none⟩ = some (.int .i64 q) ∧ w'.cell? (ad2.add (j * 2)) = some (.int .i64 x) ∧ w'.cell? ⟨(ad2.add (j * 2)).block, (ad2.add (j * 2)).off + 1, none⟩ = some (.int .i64 y)) := Lib.hid fun w' hk => by
              obtain ⟨ad, e, q⟩ := HCJ.out w' hk
              injection e with e; rw [e]; exact q
            clear HCJ
            have hj0 : (0 : Int) ≤ (j : Int) := by omega
            have hjl : (j : Int) < (n10 : Int) := by omega
            obtain ⟨M, hM⟩ : ∃ M, M = LP ++ LX.take j := ⟨_, rfl⟩
            have hMn : M.length ≤ 16777217000 := by rw [hM, List.length_append, List.length_take]; have := HZL.out; omega
            have HAPP : Hid (fl c4 (LP ++ LX.take (j + 1)) = fl c4 M ++ [.int .i64 p, .int .i64 q, .int .i64 x, .int .i64 y]) := Lib.hid (by rw [HTK.out, ← List.append_assoc, ← hM, fl_app]; rfl)
            rw [← hM] at HO
            clear hM HTK
            have hn2 : n2 = M.length := HO.out.sl.num c4_len (by omega)
            have hb32 : (n2 + 1) * 32 ≤ 140737488355328 := by omega
            have h63 : n2 + 1 ≤ 9223372036854775807 := by omega
            clear hn2
            have hone : Hid (∀ u ∈ [Value.int IntKind.i64 p, .int .i64 q, .int .i64 x, .int .i64 y], u.oneCell' = true) := Lib.hid (by simp [Value.oneCell'])
            have hszw : w.heap.size ≤ wr.heap.size := HB.out.size
            have bd : Below wr.heap.size wr (wr.drew.alloc (.cells #[.int .i64 p, .int .i64 q, .int .i64 x, .int .i64 y] 57)) := (Below.refl wr.heap.size wr).drew.alloc (Nat.le_refl _) _
            have HOD := Lib.hid (HO.out.on bd); have HBD := Lib.hid (HB.out.trans (bd.mono HB.out.size)); have HKD := Lib.hid (HKP.out.below bd)
            clear bd
            have HOFF2 : Hid (hi ≤ (wr.drew.alloc (.cells #[.int .i64 p, .int .i64 q, .int .i64 x, .int .i64 y] 57)).heap.size) := Lib.hid HKD.out.1
            go_wp2_with fail
            go_region_held3 (fun w' => w'.cell? ⟨G, 0, none⟩ = some (.int .i64 p) ∧ w'.cell? ⟨G, 1, none⟩ = some (.int .i64 q) ∧ w'.cell? (ad2.add (j * 2)) = some (.int .i64 x) ∧ w'.cell? ⟨(ad2.add (j * 2)).block, (ad2.add (j * 2)).off + 1, none⟩ = some (.int .i64 y)) (first | exact ⟨a0, a1, a2, a3⟩ | exact hc5 | go_keep) (first
              | (refine step_append_sl _ (by rfl) _ _ 24 (by rfl) w.heap.size 57 i0 _ 4 32 Try.underlying24 hi0 hy0 hy1 hy2 rfl (by omega) A2 n2 c2 (fl c4 M) (by rfl) HOD.out (wr.heap.size + 1) _ 1 1 [.int .i64 p, .int .i64 q, .int .i64 x, .int .i64 y] (by rfl) (Sl.one4 wr.drew _ _ _ _ _) hone.out h63 hb32 (by simp; omega) ?_; intro A5 c5 w5 hown5 hg5 hat5; have HF : Hid (Off G hi A5 ∧ Keeps G hi w10 w5 ∧ Own w5 w.heap.size 57 4 A5 (n2 + 1) c5 (fl c4 (LP ++ LX.take (j + 1))) ∧ Below w.heap.size w w5) := Lib.hid ⟨HOFF.out.app hat5 HOFF2.out, HKD.out.grown hg5 HOFF.out, (by rw [HAPP.out]; exact hown5), HBD.out.grown hg5 HBD.out.size (fun j hj => (HOD.out.row.lt j hj).1)⟩; have hc5 := HC2.out _ HF.out.2.1; clear hown5 hg5 hat5))
            go_wp2_with fail
            go_roundw
            case rel => exact ⟨j + 1, A5, n2 + 1, c5, by omega, by go_num, rfl, HF.out⟩
            case measure => simp [intOf]; omega
theorem scovered (w : World) (D : Nat) (A : Option Addr) (n c : Nat) (l : List Tri) (h : Sl w D 3 A n c (fl c3 l)) (hD : D ≤ w.heap.size) (hn : n ≤ 16777216) (v t : Int) (b : Bool) (hb : covI l v t = b) :
    Calls Try.prog 30 #[.slice A n c, .int .i64 v, .int .i64 t] w (Says w b) := by
  have HS := Lib.hid h; have HB := Lib.hid hb
  clear h hb
  go_enter Try.func30, Try.ntmps30
  go_wp2_with fail
  refine (scloud w D A n c l HS.out hD hn v).mono ?_
  rintro e w1 ⟨A1, n1, c1, rfl, o1, b1⟩
  have S1 := Lib.hid o1.sl; have B1 := Lib.hid b1
  clear o1 b1
  go_wp2_with fail
  refine (sinspans w1 _ A1 n1 c1 (cloudS l v) S1.out (Nat.le_refl _) t b HB.out).mono ?_
  rintro e w2 ⟨rfl, b2⟩
  have HF := Lib.hid (B1.out.trans (b2.mono B1.out.size))
  clear b2
  go_wp2
  go_ret
  exact ⟨rfl, HF.out⟩
theorem slost (w : World) (D D' : Nat) (A A' : Option Addr) (n n' c c' : Nat) (l : List Sat4) (cl : List Tri) (h : Sl w D 4 A n c (fl c4 l)) (h' : Sl w D' 3 A' n' c' (fl c3 cl)) (hD : D ≤ w.heap.size) (hD' : D' ≤ w.heap.size) (hn : n ≤ 16777216) (hn' : n' ≤ 16777216) (r : Int) (hr : conTicks l - conTicks (cutP cl l) = r) :
    Calls Try.prog 31 #[.slice A n c, .slice A' n' c'] w fun e w' => e = .returned (.int .i64 r) ∧ Below w.heap.size w w' := by
  have hnl : n = l.length := h.num c4_len (by omega)
  have h1 := conTicks_bd l
  have h2 := conTicks_bd (cutP cl l)
  have h3 := cutP_len cl l
  have hw : IntKind.i64.wrap (conTicks l - conTicks (cutP cl l)) = r := by rw [hr]; exact wrap_in _ (by omega) (by omega)
  obtain ⟨a, ha⟩ : ∃ a, a = conTicks l := ⟨_, rfl⟩
  obtain ⟨b, hb⟩ : ∃ b, b = conTicks (cutP cl l) := ⟨_, rfl⟩
  rw [← ha, ← hb] at hw
  have HA := Lib.hid ha; have HB := Lib.hid hb
  have HS := Lib.hid h; have HS' := Lib.hid h'
  have HCL : Hid ((cutP cl l).length ≤ 1000000000000) := Lib.hid (by omega)
  have hn2 : n ≤ 1000000000000 := by omega
  clear h h' hr ha hb h1 h2 h3 hnl
  go_enter Try.func31, Try.ntmps31
  go_wp2_with fail
  refine (scticks w D A n c l HS.out hD hn2 a HA.out.symm).mono ?_
  rintro e w1 ⟨rfl, b1⟩
  have B1 := Lib.hid b1
  have S1 := Lib.hid (HS.out.below b1 hD); have S1' := Lib.hid (HS'.out.below b1 hD')
  have hD1 : Hid (D ≤ w1.heap.size ∧ D' ≤ w1.heap.size) := Lib.hid ⟨Nat.le_trans hD b1.size, Nat.le_trans hD' b1.size⟩
  clear b1
  go_wp2_with fail
  refine (scutc w1 D D' A A' n n' c c' l cl S1.out S1'.out hD1.out.1 hD1.out.2 hn hn').mono ?_
  rintro e w2 ⟨A2, n2, c2, rfl, o2, b2⟩
  have B2 := Lib.hid (B1.out.trans (b2.mono B1.out.size))
  have S2 := Lib.hid o2.sl
  have hn3 : Hid (n2 ≤ 1000000000000) := Lib.hid (by rw [o2.sl.num c4_len (by omega)]; exact HCL.out)
  clear o2 b2
  go_wp2_with fail
  refine (scticks w2 _ A2 n2 c2 (cutP cl l) S2.out (Nat.le_refl _) hn3.out b HB.out.symm).mono ?_
  rintro e w3 ⟨rfl, b3⟩
  have HF := Lib.hid (B2.out.trans (b3.mono B2.out.size))
  clear b3
  go_wp2
  go_ret
  exact ⟨rfl, HF.out⟩
end Go.Proofs.Ytmmnnbgfomcihaa
