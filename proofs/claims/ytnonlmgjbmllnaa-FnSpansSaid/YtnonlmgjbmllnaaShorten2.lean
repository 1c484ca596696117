/- The contract of the model's ShortenSpans. -/
import Derived.Test.YtnonlmgjbmllnaaShorten
import Derived.Deep.RegionHeld3
namespace Go.Proofs.Ytnonlmgjbmllnaa
open Go.ChangeShapes Go.WideShapes Go.ChangeAt Go.RowKit
set_option linter.unusedVariables false
theorem mnf_short (a b x y : Int) (ha : 0 ≤ a) (hb : 0 ≤ b) (hx : 0 ≤ x) (hxy : x < y) (hy : y ≤ 1000) :
    isS (x + mnf a 1000, y - mnf b 1000) = decide (a < y - x ∧ b < y - x - a) ∧ (a < y - x ∧ b < y - x - a → mnf a 1000 = a ∧ mnf b 1000 = b) ∧ 0 ≤ mnf a 1000 ∧ mnf a 1000 ≤ 1000 ∧ 0 ≤ mnf b 1000 ∧ mnf b 1000 ≤ 1000 := by
  have h1 : 0 ≤ mnf a 1000 ∧ mnf a 1000 ≤ 1000 ∧ mnf a 1000 ≤ a ∧ (a ≤ 1000 → mnf a 1000 = a) ∧ (1000 ≤ a → mnf a 1000 = 1000) := by unfold mnf; split <;> (refine ⟨by omega, by omega, by omega, fun _ => by omega, fun _ => by omega⟩)
  have h2 : 0 ≤ mnf b 1000 ∧ mnf b 1000 ≤ 1000 ∧ mnf b 1000 ≤ b ∧ (b ≤ 1000 → mnf b 1000 = b) ∧ (1000 ≤ b → mnf b 1000 = 1000) := by unfold mnf; split <;> (refine ⟨by omega, by omega, by omega, fun _ => by omega, fun _ => by omega⟩)
  generalize mnf a 1000 = p at *
  generalize mnf b 1000 = q at *
  obtain ⟨p0, p1, p2, p3, p4⟩ := h1
  obtain ⟨q0, q1, q2, q3, q4⟩ := h2
  refine ⟨?_, fun h => ⟨p3 (by omega), q3 (by omega)⟩, p0, p1, q0, q1⟩
  rw [Bool.eq_iff_iff, isS_iff, decide_eq_true_eq]
  simp only
  constructor
  · rintro ⟨e1, e2, e3⟩
    have ha2 : a ≤ 1000 := by
      rcases Int.lt_or_le 1000 a with h | h
      · have := p4 (by omega); omega
      · exact h
    have hb2 : b ≤ 1000 := by
      rcases Int.lt_or_le 1000 b with h | h
      · have := q4 (by omega); omega
      · exact h
    have := p3 ha2; have := q3 hb2
    omega
  · rintro ⟨e1, e2⟩
    have := p3 (by omega); have := q3 (by omega)
    omega
set_option maxRecDepth 100000 in
set_option maxHeartbeats 2000000 in
theorem sshort (w : World) (D : Nat) (A : Option Addr) (n c : Nat) (l : List (Int × Int)) (h : Sl w D 2 A n c (sv l)) (hD : D ≤ w.heap.size) (a b : Int) (pa : -9223372036854775808 ≤ a) (qa : a ≤ 9223372036854775807) (pb : -9223372036854775808 ≤ b) (qb : b ≤ 9223372036854775807) :
    Calls Try.prog 36 #[.slice A n c, .int .i64 a, .int .i64 b] w (GivesS w (shortOf l a b)) := by
  obtain ⟨i0, hi, hy0, hy1, hy2⟩ := info_parts span_info
  have h0 : Hid (Own (w.alloc (.cells #[] 34)) w.heap.size 34 2 (some ⟨w.heap.size, 0, none⟩) 0 0 [] ∧ Below w.heap.size w (w.alloc (.cells #[] 34))) :=
    Lib.hid ⟨Own.made0 w w.heap.size _ (Nat.le_refl _), (Below.refl _ _).alloc (Nat.le_refl _) _⟩
  by_cases hneg : a < 0 ∨ b < 0
  · have HF : Hid (GivesS w (shortOf l a b) (.returned (.slice (some ⟨w.heap.size, 0, none⟩) 0 0)) (w.alloc (.cells #[] 34))) := Lib.hid ⟨_, _, _, rfl, by unfold shortOf; rw [if_pos hneg]; exact h0.out.1, h0.out.2⟩
    by_cases ha : a < 0
    · clear hneg h
      go_enter Try.func36, Try.ntmps36
      go_wp2
      go_ret
      exact HF.out
    · have hb : b < 0 := by omega
      clear hneg h
      go_enter Try.func36, Try.ntmps36
      go_wp2
      go_ret
      exact HF.out
  · have ha : ¬ a < 0 := by omega
    have hb : ¬ b < 0 := by omega
    have hres : Hid (shortOf l a b = shorten a b (joinOf l)) := Lib.hid (if_neg hneg)
    clear hneg
    have HJ := Lib.hid (sjoin (w.alloc (.cells #[] 34)) D A n c l (h.below h0.out.2 hD) (by simp; omega))
    clear h
    obtain ⟨L, hL⟩ : ∃ L, L = joinOf l := ⟨_, rfl⟩
    have HV : Hid (∀ p ∈ L, 0 ≤ p.1 ∧ p.1 < p.2 ∧ p.2 ≤ 1000) := Lib.hid (by rw [hL]; exact runs_valid _ _ (Nat.le_refl _))
    have hLl : L.length ≤ 1000 := by rw [hL]; exact runs_len _ _
    rw [← hL] at HJ hres
    clear hL
    go_enter Try.func36, Try.ntmps36
    go_wp2_with fail
    refine HJ.out.mono ?_
    rintro e w1 ⟨A1, n1, c1, rfl, o, bj⟩
    obtain rfl : n1 = L.length := by have h2 := o.len; rw [sv_len] at h2; omega
    have hcap := o.capm
    have ob : Hid (w.heap.size + 1 ≤ (w.alloc (.cells #[] 34)).heap.size) := Lib.hid (by simp)
    have h1 : Hid (Own w1 (w.heap.size + 1) 34 2 A1 L.length c1 (sv L) ∧ Own w1 w.heap.size 34 2 (some ⟨w.heap.size, 0, none⟩) 0 0 (sv (shorten a b (L.take 0))) ∧ Away A1 L.length c1 (some ⟨w.heap.size, 0, none⟩) 0 0 ∧ Below w.heap.size w w1) := by
      refine Lib.hid ⟨o.fewer ob.out, h0.out.1.on bj, ?_, h0.out.2.trans (bj.mono (by simp))⟩
      have h2 := h0.out.1.apart' o (Nat.le_refl _)
      exact h2
    clear o bj h0 ob HJ
    go_wp2
    go_loopw [7, 9] (fun v i wr => ∃ (k : Nat) (Av : Option Addr) (nv cv : Nat), k ≤ L.length ∧ i = .int .i64 k ∧ v = .slice Av nv cv ∧ Own wr (w.heap.size + 1) 34 2 A1 L.length c1 (sv L) ∧ Own wr w.heap.size 34 2 Av nv cv (sv (shorten a b (L.take k))) ∧ Away A1 L.length c1 Av nv cv ∧ Below w.heap.size w wr) (fun _ i _ => L.length - (intOf i).toNat)
    case atStart => exact ⟨0, _, _, _, Nat.zero_le _, rfl, rfl, h1.out⟩
    case round =>
      clear h1
      obtain ⟨k, Av, nv, cv, hk, rfl, rfl, hl, ho, hw, hbw⟩ := hrel
      by_cases hlt : k < L.length
      · obtain ⟨ad, hx, rfl, had, hc0, hc1⟩ := hl.sl.two hlt
        have hpv := HV.out L[k] (List.getElem_mem hx)
        have hsn : Hid (shorten a b (L.take (k + 1)) = shorten a b (L.take k) ++ shS a b L[k]) := Lib.hid (by rw [List.take_succ_eq_append_getElem hx, shorten_snoc])
        obtain ⟨x, hxx⟩ : ∃ x, x = L[k].1 := ⟨_, rfl⟩
        obtain ⟨y, hy⟩ : ∃ y, y = L[k].2 := ⟨_, rfl⟩
        have hp : L[k] = (x, y) := by rw [hxx, hy]
        rw [hp] at hsn
        rw [← hxx] at hc0 hpv; rw [← hy] at hc1 hpv
        obtain ⟨hp0, hp1, hp2⟩ := hpv
        have hnv : nv ≤ 1000 := by
          have h2 := ho.len; rw [sv_len] at h2
          have h3 := shorten_len a b (L.take k)
          rw [List.length_take] at h3; omega
        obtain ⟨M, hM⟩ : ∃ M, M = shorten a b (L.take k) := ⟨_, rfl⟩
        rw [← hM] at hsn ho
        clear hxx hy hp hM
        obtain ⟨E1, E2, E3, E4, E5, E6⟩ := mnf_short a b x y (by omega) (by omega) hp0 hp1 hp2
        obtain ⟨p, hp⟩ : ∃ p, mnf a 1000 = p := ⟨_, rfl⟩
        obtain ⟨q, hq⟩ : ∃ q, mnf b 1000 = q := ⟨_, rfl⟩
        have HP := Lib.hid hp; have HQ := Lib.hid hq
        rw [hp, hq] at E1 E2; rw [hp] at E3 E4; rw [hq] at E5 E6
        obtain ⟨v, hv⟩ : ∃ v, isS (x + p, y - q) = v := ⟨_, rfl⟩
        have HV2 := Lib.hid hv
        have hno : Hid (v = false → shorten a b (L.take (k + 1)) = M) := Lib.hid fun e => by
          rw [hsn.out, shS_no a b x y (fun h => by rw [e, E1] at hv; simp at hv; omega), List.append_nil]
        have hye : Hid (v = true → shorten a b (L.take (k + 1)) = M ++ [(x + p, y - q)]) := Lib.hid fun e => by
          rw [e, E1] at hv
          have h := of_decide_eq_true hv
          have h2 := E2 h
          rw [hsn.out, shS_yes a b x y h.1 h.2, h2.1, h2.2]
        have g1 : IntKind.i64.wrap (x + p) = x + p := IntWalk.i64_in _ (by omega)
        have g2 : IntKind.i64.wrap (y - q) = y - q := IntWalk.i64_in _ (by omega)
        have HH : Hid (ad.block < wr.heap.size) := Lib.hid had
        have HL := Lib.hid hl; have HO := Lib.hid ho; have HW := Lib.hid hw; have HB := Lib.hid hbw
        have f1 : (0 : Int) ≤ (k : Int) := by omega
        have f2 : (k : Int) < (L.length : Int) := by omega
        clear E1 E2 hp hq hv hsn hl ho hw hbw had
        go_wp2_with fail
        go_region_held3 (fun w' => w'.cell? (ad.add (k * 2)) = some (.int .i64 x) ∧ w'.cell? ⟨(ad.add (k * 2)).block, (ad.add (k * 2)).off + 1, none⟩ = some (.int .i64 y)) (first | exact ⟨hc0, hc1⟩ | go_keep) (first
          | (go_at_call_of 49 (Value.int .i64 a); refine (smin _ _ _).mono ?_; rintro e wB ⟨rfl, rfl⟩; rw [HP.out])
          | (go_at_call_of 49 (Value.int .i64 b); refine (smin _ _ _).mono ?_; rintro e wB ⟨rfl, rfl⟩; rw [HQ.out]))
        all_goals
          have bz : Below wr.heap.size wr ((wr.alloc (.cells #[.int .i64 (x + p), .int .i64 (y - q)] 34)).drew) := ((Below.refl _ _).alloc (Nat.le_refl _) _).drew
          have hz : Blk ((wr.alloc (.cells #[.int .i64 (x + p), .int .i64 (y - q)] 34)).drew) wr.heap.size 34 #[.int .i64 (x + p), .int .i64 (y - q)] := (Blk.new wr _ _).drew
          have hzs : ((wr.alloc (.cells #[.int .i64 (x + p), .int .i64 (y - q)] 34)).drew).heap.size = wr.heap.size + 1 := by show (wr.alloc _).heap.size = _; simp
          have BZ := Lib.hid bz; have HZ := Lib.hid hz; have HZs := Lib.hid hzs
          clear bz hz hzs g1 g2 f1 f2 hc0 hc1 HH
          go_wp2_with fail
          refine (sisspan _ _ _ _ HV2.out).mono ?_
          rintro e w2 ⟨rfl, b2⟩
          have hb2 := BZ.out.trans (b2.mono (by rw [HZs.out]; omega))
          have hs := HZ.out.below b2 (by rw [HZs.out]; omega)
          have s0 : w2.cell? ⟨wr.heap.size, 0, none⟩ = some (.int .i64 (x + p)) := hs.cell 0
          have s1 : w2.cell? ⟨wr.heap.size, 1, none⟩ = some (.int .i64 (y - q)) := hs.cell 1
          have ho2 := HO.out.on hb2; have hl2 := HL.out.on hb2
          have hbw2 := HB.out.trans (hb2.mono HB.out.size)
          clear b2 hb2 hs BZ HZ HZs HO HL HB
          cases v
          · have hfin := Lib.hid (hno.out rfl)
            have HF : Hid (Own w2 (w.heap.size + 1) 34 2 (some ad) L.length c1 (sv L) ∧ Own w2 w.heap.size 34 2 Av nv cv (sv (shorten a b (L.take (k + 1)))) ∧ Away (some ad) L.length c1 Av nv cv ∧ Below w.heap.size w w2) := Lib.hid ⟨hl2, by rw [hfin.out]; exact ho2, HW.out, hbw2⟩
            clear hno hye ho2 hl2 hbw2 hfin s0 s1
            go_wp2
            go_roundw
            case rel => exact ⟨k + 1, Av, nv, cv, by omega, by go_num, rfl, HF.out⟩
            case measure => simp [intOf]; omega
          · have hfin := Lib.hid (hye.out rfl)
            have bb : Below w2.heap.size w2 (w2.alloc (.cells #[.int .i64 (x + p), .int .i64 (y - q)] 34)) := (Below.refl _ _).alloc (Nat.le_refl _) _
            have HO3 := Lib.hid (ho2.on bb); have HL3 := Lib.hid (hl2.on bb)
            have HB3 := Lib.hid (hbw2.trans (bb.mono hbw2.size))
            have hcapv := ho2.capm
            have hsz := hbw2.size
            clear hno hye ho2 hl2 hbw2 bb
            go_wp2_with (at_builtin; refine wpList_append_sl _ rfl (.tmp 46) (.tmp 48) 24 rfl w.heap.size 34 i0 _ 2 16 Try.underlying24 hi hy0 hy1 hy2 rfl (by omega) Av nv cv (sv M) rfl HO3.out (w2.heap.size + 1) _ 1 1 [.int .i64 (x + p), .int .i64 (y - q)] rfl (Sl.one2 w2 _ _ _) (by simp [Value.oneCell']) (by omega) (by omega) (by simp; omega) ?_; intro A3 c3 w3 hown3 hg3 hat3; have HF : Hid (Own w3 (w.heap.size + 1) 34 2 (some ad) L.length c1 (sv L) ∧ Own w3 w.heap.size 34 2 A3 (nv + 1) c3 (sv (shorten a b (L.take (k + 1)))) ∧ Away (some ad) L.length c1 A3 (nv + 1) c3 ∧ Below w.heap.size w w3) := Lib.hid ⟨HL3.out.kept hg3 HW.out, by rw [hfin.out, sv_app]; exact hown3, HW.out.next HL3.out hat3, HO3.out.below HB3.out (by simp; omega) hg3⟩; clear hown3 hg3 hat3)
            go_roundw
            case rel => exact ⟨k + 1, A3, nv + 1, c3, by omega, by go_num, rfl, HF.out⟩
            case measure => simp [intOf]; omega
      · have e1 : L.take k = L := List.take_of_length_le (by omega)
        rw [e1, ← hres.out] at ho
        have HF : Hid (GivesS w (shortOf l a b) (.returned (.slice Av nv cv)) wr) := Lib.hid ⟨_, _, _, rfl, ho, hbw⟩
        clear ho hl hw hbw e1 hres
        go_wp2
        go_ret
        exact HF.out
end Go.Proofs.Ytnonlmgjbmllnaa
