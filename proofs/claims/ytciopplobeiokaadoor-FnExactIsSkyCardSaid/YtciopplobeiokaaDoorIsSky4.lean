/- IsSky of the model. -/
import Derived.Test.YtciopplobeiokaaDoorIsSky2
namespace Go.Proofs.YtciopplobeiokaaDoor
open Go.ChangeShapes Go.WideShapes Go.ChangeAt Go.RowKit
set_option linter.unusedVariables false
theorem sturn (w : World) (z : Int) (b : Bool) (hb : SaysOf b (-60 ≤ z ∧ z ≤ 60)) :
    Calls Tryd.prog 39 #[.int .i64 z] w fun e w' => e = .returned (.bool b) ∧ w = w' := by
  have HB := Lib.hid hb; clear hb
  go_enter Tryd.func39, Tryd.ntmps39
  go_wp2_with fail
  refine (sinr_b _ _ _ _ b HB.out).mono ?_
  rintro e w' ⟨rfl, rfl⟩
  go_wp2
  go_ret
  exact ⟨rfl, rfl⟩
theorem shalf (w : World) (z : Int) (b : Bool) (hb : SaysOf b (0 ≤ z ∧ z ≤ 180)) :
    Calls Tryd.prog 40 #[.int .i64 z] w fun e w' => e = .returned (.bool b) ∧ w = w' := by
  have HB := Lib.hid hb; clear hb
  go_enter Tryd.func40, Tryd.ntmps40
  go_wp2_with fail
  refine (sinr_b _ _ _ _ b HB.out).mono ?_
  rintro e w' ⟨rfl, rfl⟩
  go_wp2
  go_ret
  exact ⟨rfl, rfl⟩
set_option maxRecDepth 100000 in
set_option maxHeartbeats 2000000 in
theorem sissky (w : World) (P R X V U D Q : Int) (ns ni nz : Nat) (ls : List Sat4) (li lz : List Tri) (As : Option Addr) (cs : Nat) (Ai : Option Addr) (ci : Nat) (Az : Option Addr) (cz : Nat) (D0 : Nat) (h : InSky w (D0) As ns cs Ai ni ci Az nz cz ls li lz) (hD : D0 ≤ w.heap.size) (b : Bool) (hb : skyOk P R X V U D Q ls li lz = b) :
    Calls Tryd.prog 13 #[.agg #[.int .i64 P, .slice As ns cs, .slice Ai ni ci, .int .i64 R, .int .i64 X, .int .i64 V, .int .i64 U, .int .i64 D, .slice Az nz cz, .int .i64 Q]] w (Tells w b) := by
  obtain ⟨b1, h1⟩ := says_ex (1 ≤ P ∧ P ≤ 4)
  obtain ⟨b2, h2⟩ := says_ex (1 ≤ (ns : Int) ∧ (ns : Int) ≤ 8)
  obtain ⟨b3, h3⟩ : ∃ v, ls.all (satOk P) = v := ⟨_, rfl⟩
  obtain ⟨b5, h5⟩ : ∃ v, li.all (siteOk P) = v := ⟨_, rfl⟩
  obtain ⟨b7, h7⟩ : ∃ v, lz.all (zoneOk P) = v := ⟨_, rfl⟩
  obtain ⟨bR, hR⟩ := says_ex (0 ≤ R ∧ R ≤ 180)
  obtain ⟨bX, hX⟩ := says_ex (0 ≤ X ∧ X ≤ 180)
  obtain ⟨bV, hV⟩ := says_ex (0 ≤ V ∧ V ≤ 180)
  obtain ⟨bD, hD'⟩ := says_ex (0 ≤ D ∧ D ≤ 180)
  obtain ⟨b9, h9⟩ := says_ex (-60 ≤ U ∧ U ≤ 60)
  obtain ⟨b10, h10⟩ := says_ex (0 ≤ Q ∧ Q ≤ 20)
  have HB : Hid (b = (b1 && (b2 && (b3 && (decide (ni ≤ 4) && (b5 && (decide (nz ≤ 4) && (b7 && ((bR && (bX && (bV && bD))) && (b9 && b10)))))))))) := Lib.hid (by
    rw [← hb, ← h1.dec, ← h2.dec, ← h3, ← h5, ← h7, ← hR.dec, ← hX.dec, ← hV.dec, ← hD'.dec, ← h9.dec, ← h10.dec, h.ns_, h.ni_, h.nz_]; simp [skyOk, halfOk])
  have H1 := Lib.hid h1; have H2 := Lib.hid h2; have H3 := Lib.hid h3; have H5 := Lib.hid h5; have H7 := Lib.hid h7; have HR := Lib.hid hR; have HX := Lib.hid hX; have HV := Lib.hid hV; have HD := Lib.hid hD'; have H9 := Lib.hid h9; have H10 := Lib.hid h10
  have hm1 := h.s.cap; have hm2 := h.s.capm; have hm3 := h.i.cap; have hm4 := h.i.capm; have hm5 := h.z.cap; have hm6 := h.z.capm
  obtain rfl := h.ns_; obtain rfl := h.ni_; obtain rfl := h.nz_
  obtain ⟨W0, hW0⟩ : ∃ W, W = w.alloc (.cells #[.int .i64 P, .slice As ls.length cs, .slice Ai li.length ci, .int .i64 R, .int .i64 X, .int .i64 V, .int .i64 U, .int .i64 D, .slice Az lz.length cz, .int .i64 Q] 28) := ⟨_, rfl⟩
  have T0 := Lib.hid ((Below.refl w.heap.size w).alloc (Nat.le_refl _) (.cells #[.int .i64 P, .slice As ls.length cs, .slice Ai li.length ci, .int .i64 R, .int .i64 X, .int .i64 V, .int .i64 U, .int .i64 D, .slice Az lz.length cz, .int .i64 Q] 28))
  rw [← hW0] at T0
  have Z0 : Hid (Blk W0 w.heap.size 28 #[.int .i64 P, .slice As ls.length cs, .slice Ai li.length ci, .int .i64 R, .int .i64 X, .int .i64 V, .int .i64 U, .int .i64 D, .slice Az lz.length cz, .int .i64 Q]) := Lib.hid (by rw [hW0]; exact Blk.new _ _ _)
  have HS := Lib.hid (h.below T0.out hD)
  have HD0 : Hid (D0 ≤ W0.heap.size) := Lib.hid (Nat.le_trans hD T0.out.size)
  clear h1 h2 h3 h5 h7 hR hX hV hD' h9 h10 hb h hD
  go_enter Tryd.func13, Tryd.ntmps13
  go_wp2
  rw [← hW0]
  clear hW0
  go_loopw [3] (fun i wr => ∃ k : Nat, k ≤ ls.length ∧ i = .int .i64 k ∧ Hid ((ls.take k).all (satOk P) = true) ∧ Below W0.heap.size W0 wr) (fun i _ => ls.length - (intOf i).toNat)
  case atStart => exact ⟨0, Nat.zero_le _, rfl, Lib.hid rfl, Below.refl _ _⟩
  case round =>
    obtain ⟨k, hk, rfl, hi, hbw⟩ := hrel
    obtain ⟨c0, c1, c2, c3, c4, c5, c6, c7, c8, c9⟩ := (Z0.out.below hbw Z0.out.lt).ten
    by_cases hlt : k < ls.length
    · obtain ⟨ad, hx, rfl, had, q0, q1, q2, q3⟩ := (HS.out.below hbw HD0.out).s.four hlt
      have hsn := Lib.hid (all_snoc (satOk P) ls k hx)
      have hfl := Lib.hid (all_false (satOk P) ls k hx)
      obtain ⟨v, hv⟩ : ∃ v, satOk P ls[k] = v := ⟨_, rfl⟩
      have HT : Hid (v = true → (ls.take (k + 1)).all (satOk P) = true) := Lib.hid (fun e => by rw [hsn.out, hi.out, hv, e]; rfl)
      have HF : Hid (v = false → b = false) := Lib.hid (fun e => by
        have : b3 = false := by rw [← H3.out]; exact hfl.out (hv.trans e)
        rw [HB.out, this]; simp)
      have HQ : Hid (∀ {w'}, Below W0.heap.size W0 w' → _) := Lib.hid fun hb => (HS.out.below hb HD0.out).s.four hlt
      obtain ⟨e, he⟩ : ∃ e, e = ls[k] := ⟨_, rfl⟩
      have HQ2 : Hid (∀ {w' : World}, Below W0.heap.size W0 w' → w'.cell? (ad.add (k * 4)) = some (.int .i64 e.p) ∧ w'.cell? ⟨(ad.add (k * 4)).block, (ad.add (k * 4)).off + 1, none⟩ = some (.int .i64 e.h) ∧ w'.cell? ⟨(ad.add (k * 4)).block, (ad.add (k * 4)).off + 2, none⟩ = some (.int .i64 e.v) ∧ w'.cell? ⟨(ad.add (k * 4)).block, (ad.add (k * 4)).off + 3, none⟩ = some (.int .i64 e.e)) := Lib.hid fun hb => by
        obtain ⟨a1, _, e1, _, p0, p1, p2, p3⟩ := HQ.out hb
        injection e1 with e1
        subst e1
        rw [he]
        exact ⟨p0, p1, p2, p3⟩
      rw [← he] at q0 q1 q2 q3 hv
      obtain ⟨x, y, z, u⟩ := e
      simp only at q0 q1 q2 q3
      have HVV := Lib.hid hv
      have BW := Lib.hid hbw
      clear he hv hbw hi hsn hfl HQ
      go_wp2_with fail
      go_region_held3 (fun w' => (w'.cell? ⟨w.heap.size, 0, none⟩ = some (.int .i64 P) ∧ w'.cell? ⟨w.heap.size, 1, none⟩ = some (.slice (some ad) ls.length cs) ∧ w'.cell? ⟨w.heap.size, 2, none⟩ = some (.slice Ai li.length ci) ∧ w'.cell? ⟨w.heap.size, 3, none⟩ = some (.int .i64 R) ∧ w'.cell? ⟨w.heap.size, 4, none⟩ = some (.int .i64 X) ∧ w'.cell? ⟨w.heap.size, 5, none⟩ = some (.int .i64 V) ∧ w'.cell? ⟨w.heap.size, 6, none⟩ = some (.int .i64 U) ∧ w'.cell? ⟨w.heap.size, 7, none⟩ = some (.int .i64 D) ∧ w'.cell? ⟨w.heap.size, 8, none⟩ = some (.slice Az lz.length cz) ∧ w'.cell? ⟨w.heap.size, 9, none⟩ = some (.int .i64 Q)) ∧ w'.cell? (ad.add (k * 4)) = some (.int .i64 x) ∧ w'.cell? ⟨(ad.add (k * 4)).block, (ad.add (k * 4)).off + 1, none⟩ = some (.int .i64 y) ∧ w'.cell? ⟨(ad.add (k * 4)).block, (ad.add (k * 4)).off + 2, none⟩ = some (.int .i64 z) ∧ w'.cell? ⟨(ad.add (k * 4)).block, (ad.add (k * 4)).off + 3, none⟩ = some (.int .i64 u)) (first | exact ⟨⟨c0, c1, c2, c3, c4, c5, c6, c7, c8, c9⟩, q0, q1, q2, q3⟩ | exact hcA | go_keep) (first
        | (go_at_call 37; refine (sissat _ x y z u P v HVV.out).mono ?_; rintro e wA ⟨rfl, bA⟩; have HBA : Hid (Below W0.heap.size W0 wA) := Lib.hid (by first | exact BW.out.drew.trans (bA.mono BW.out.size) | exact BW.out.trans (bA.mono BW.out.size)); have hcA := And.intro (Z0.out.below HBA.out Z0.out.lt).ten (HQ2.out HBA.out); clear bA))
      clear q0 q1 q2 q3 c0 c1 c2 c3 c4 c5 c6 c7 c8 c9
      cases v
      · obtain rfl := HF.out rfl
        have HG := Lib.hid (T0.out.trans (HBA.out.mono T0.out.size))
        go_wp2
        go_ret
        exact ⟨rfl, HG.out⟩
      · have HS' := Lib.hid (HT.out rfl)
        clear HT HF
        go_wp2
        go_roundw
        case rel => exact ⟨k + 1, by omega, by go_num, HS', HBA.out⟩
        case measure => simp [intOf]; omega
    obtain rfl : b3 = true := by rw [← H3.out, ← hi.out, List.take_of_length_le (by omega)]
    clear hi H3
    have BW := Lib.hid hbw
    clear hbw
    go_wp2
    clear hlt hk
    go_loopw [4] (fun i wr => ∃ k : Nat, k ≤ li.length ∧ i = .int .i64 k ∧ Hid ((li.take k).all (siteOk P) = true) ∧ Below W0.heap.size W0 wr) (fun i _ => li.length - (intOf i).toNat)
    case atStart => exact ⟨0, Nat.zero_le _, rfl, Lib.hid rfl, BW.out⟩
    clear BW
    case round =>
    obtain ⟨k, hk, rfl, hi, hbw⟩ := hrel
    obtain ⟨c0, c1, c2, c3, c4, c5, c6, c7, c8, c9⟩ := (Z0.out.below hbw Z0.out.lt).ten
    by_cases hlt : k < li.length
    · obtain ⟨ad, hx, rfl, had, q0, q1, q2⟩ := (HS.out.below hbw HD0.out).i.tri hlt
      have hsn := Lib.hid (all_snoc (siteOk P) li k hx)
      have hfl := Lib.hid (all_false (siteOk P) li k hx)
      obtain ⟨v, hv⟩ : ∃ v, siteOk P li[k] = v := ⟨_, rfl⟩
      have HT : Hid (v = true → (li.take (k + 1)).all (siteOk P) = true) := Lib.hid (fun e => by rw [hsn.out, hi.out, hv, e]; rfl)
      have HF : Hid (v = false → b = false) := Lib.hid (fun e => by
        have : b5 = false := by rw [← H5.out]; exact hfl.out (hv.trans e)
        rw [HB.out, this]; simp)
      obtain ⟨e, he⟩ : ∃ e, e = li[k] := ⟨_, rfl⟩
      rw [← he] at q0 q1 q2 hv
      obtain ⟨x, y, z⟩ := e
      simp only at q0 q1 q2
      have hlw : w.heap.size < wr.heap.size := Nat.lt_of_lt_of_le Z0.out.lt hbw.size
      have BW := Lib.hid hbw
      have HG := Lib.hid (T0.out.trans ((hbw.alloc hbw.size (.cells #[.int .i64 x, .int .i64 y, .int .i64 z] 61)).mono T0.out.size))
      have HG2 := Lib.hid (hbw.alloc hbw.size (.cells #[.int .i64 x, .int .i64 y, .int .i64 z] 61))
      clear he hbw hi hsn hfl
      by_cases g1 : 0 ≤ x
      case neg =>
        obtain rfl : v = false := by rw [← hv]; simp [siteOk]; omega
        obtain rfl := HF.out rfl
        clear HT HF hv
        go_wp2
        go_ret
        exact ⟨rfl, HG.out⟩
      by_cases g2 : x < P
      case neg =>
        obtain rfl : v = false := by rw [← hv]; simp [siteOk]; omega
        obtain rfl := HF.out rfl
        clear HT HF hv
        go_wp2
        go_ret
        exact ⟨rfl, HG.out⟩
      obtain ⟨v2, h2⟩ := says_ex (0 ≤ y ∧ y ≤ 359)
      obtain ⟨v3, h3⟩ := says_ex (-60 ≤ z ∧ z ≤ 60)
      have HVV : Hid (v = (v2 && v3)) := Lib.hid (by rw [← hv, ← h2.dec, ← h3.dec]; simp [siteOk]; intros; omega)
      have G2 := Lib.hid h2; have G3 := Lib.hid h3
      clear h2 h3 hv
      go_wp2_with fail
      refine (sinr_b _ _ _ _ v2 G2.out).mono ?_
      rintro e w' ⟨rfl, rfl⟩
      cases v2
      · obtain rfl : v = false := by simpa using HVV.out
        obtain rfl := HF.out rfl
        clear HT HF HVV
        go_wp2
        go_ret
        exact ⟨rfl, HG.out⟩
      go_wp2_with fail
      refine (sturn _ _ v3 G3.out).mono ?_
      rintro e w' ⟨rfl, rfl⟩
      cases v3
      · obtain rfl : v = false := by simpa using HVV.out
        obtain rfl := HF.out rfl
        clear HT HF HVV
        go_wp2
        go_ret
        exact ⟨rfl, HG.out⟩
      obtain rfl : v = true := by simpa using HVV.out
      have HS' := Lib.hid (HT.out rfl)
      clear HT HF HVV
      go_wp2
      go_roundw
      case rel => exact ⟨k + 1, by omega, by go_num, HS', HG2.out⟩
      case measure => simp [intOf]; omega
    obtain rfl : b5 = true := by rw [← H5.out, ← hi.out, List.take_of_length_le (by omega)]
    clear hi H5
    have BW := Lib.hid hbw
    clear hbw
    go_wp2
    clear hlt hk
    go_loopw [6] (fun i wr => ∃ k : Nat, k ≤ lz.length ∧ i = .int .i64 k ∧ Hid ((lz.take k).all (zoneOk P) = true) ∧ Below W0.heap.size W0 wr) (fun i _ => lz.length - (intOf i).toNat)
    case atStart => exact ⟨0, Nat.zero_le _, rfl, Lib.hid rfl, BW.out⟩
    clear BW
    case round =>
    obtain ⟨k, hk, rfl, hi, hbw⟩ := hrel
    obtain ⟨c0, c1, c2, c3, c4, c5, c6, c7, c8, c9⟩ := (Z0.out.below hbw Z0.out.lt).ten
    by_cases hlt : k < lz.length
    · obtain ⟨ad, hx, rfl, had, q0, q1, q2⟩ := (HS.out.below hbw HD0.out).z.tri hlt
      have hsn := Lib.hid (all_snoc (zoneOk P) lz k hx)
      have hfl := Lib.hid (all_false (zoneOk P) lz k hx)
      obtain ⟨v, hv⟩ : ∃ v, zoneOk P lz[k] = v := ⟨_, rfl⟩
      have HT : Hid (v = true → (lz.take (k + 1)).all (zoneOk P) = true) := Lib.hid (fun e => by rw [hsn.out, hi.out, hv, e]; rfl)
      have HF : Hid (v = false → b = false) := Lib.hid (fun e => by
        have : b7 = false := by rw [← H7.out]; exact hfl.out (hv.trans e)
        rw [HB.out, this]; simp)
      obtain ⟨e, he⟩ : ∃ e, e = lz[k] := ⟨_, rfl⟩
      rw [← he] at q0 q1 q2 hv
      obtain ⟨x, y, z⟩ := e
      simp only at q0 q1 q2
      have hlw : w.heap.size < wr.heap.size := Nat.lt_of_lt_of_le Z0.out.lt hbw.size
      have BW := Lib.hid hbw
      have HG := Lib.hid (T0.out.trans ((hbw.alloc hbw.size (.cells #[.int .i64 x, .int .i64 y, .int .i64 z] 67)).mono T0.out.size))
      have HG2 := Lib.hid (hbw.alloc hbw.size (.cells #[.int .i64 x, .int .i64 y, .int .i64 z] 67))
      clear he hbw hi hsn hfl
      by_cases g1 : 0 ≤ x
      case neg =>
        obtain rfl : v = false := by rw [← hv]; simp [zoneOk]; omega
        obtain rfl := HF.out rfl
        clear HT HF hv
        go_wp2
        go_ret
        exact ⟨rfl, HG.out⟩
      by_cases g2 : x < P
      case neg =>
        obtain rfl : v = false := by rw [← hv]; simp [zoneOk]; omega
        obtain rfl := HF.out rfl
        clear HT HF hv
        go_wp2
        go_ret
        exact ⟨rfl, HG.out⟩
      obtain ⟨v2, h2⟩ := says_ex (0 ≤ z ∧ z ≤ 359)
      have HVV : Hid (v = v2) := Lib.hid (by rw [← hv, ← h2.dec]; simp [zoneOk]; intros; omega)
      have G2 := Lib.hid h2
      clear h2 hv
      go_wp2_with fail
      refine (sinr_b _ _ _ _ v2 G2.out).mono ?_
      rintro e w' ⟨rfl, rfl⟩
      cases v2
      · obtain rfl : v = false := by simpa using HVV.out
        obtain rfl := HF.out rfl
        clear HT HF HVV
        go_wp2
        go_ret
        exact ⟨rfl, HG.out⟩
      obtain rfl : v = true := by simpa using HVV.out
      have HS' := Lib.hid (HT.out rfl)
      clear HT HF HVV
      go_wp2
      go_roundw
      case rel => exact ⟨k + 1, by omega, by go_num, HS', HG2.out⟩
      case measure => simp [intOf]; omega
    obtain rfl : b7 = true := by rw [← H7.out, ← hi.out, List.take_of_length_le (by omega)]
    clear hi H7 c0 c1 c2 c3 c4 c5 c6 c7 c8 c9
    have BW := Lib.hid hbw
    clear hbw
    obtain ⟨c0, c1, c2, c3, c4, c5, c6, c7, c8, c9⟩ := (Z0.out.below BW.out Z0.out.lt).ten
    have HG := Lib.hid (T0.out.trans (BW.out.mono T0.out.size))
    go_wp2_with fail
    refine (sinr_b _ _ _ _ b1 H1.out).mono ?_
    rintro e w' ⟨rfl, rfl⟩
    cases b1
    · obtain rfl : b = false := by simpa using HB.out
      go_wp2
      go_ret
      exact ⟨rfl, HG.out⟩
    go_wp2_with fail
    refine (sinr_b _ _ _ _ b2 H2.out).mono ?_
    rintro e w' ⟨rfl, rfl⟩
    cases b2
    · obtain rfl : b = false := by simpa using HB.out
      go_wp2
      go_ret
      exact ⟨rfl, HG.out⟩
    by_cases hni : li.length ≤ 4
    case neg =>
      obtain rfl : b = false := by rw [HB.out]; simp [hni]
      go_wp2
      go_ret
      exact ⟨rfl, HG.out⟩
    by_cases hnz : lz.length ≤ 4
    case neg =>
      obtain rfl : b = false := by rw [HB.out]; simp [hnz]
      go_wp2
      go_ret
      exact ⟨rfl, HG.out⟩
    have HB2 : Hid (b = (bR && (bX && (bV && (bD && (b9 && b10)))))) := Lib.hid (by rw [HB.out]; simp [hni, hnz, Bool.and_assoc])
    clear HB
    go_wp2_with fail
    refine (shalf _ _ bR HR.out).mono ?_
    rintro e w' ⟨rfl, rfl⟩
    cases bR
    · obtain rfl : b = false := by simpa using HB2.out
      go_wp2
      go_ret
      exact ⟨rfl, HG.out⟩
    go_wp2_with fail
    refine (shalf _ _ bX HX.out).mono ?_
    rintro e w' ⟨rfl, rfl⟩
    cases bX
    · obtain rfl : b = false := by simpa using HB2.out
      go_wp2
      go_ret
      exact ⟨rfl, HG.out⟩
    go_wp2_with fail
    refine (shalf _ _ bV HV.out).mono ?_
    rintro e w' ⟨rfl, rfl⟩
    cases bV
    · obtain rfl : b = false := by simpa using HB2.out
      go_wp2
      go_ret
      exact ⟨rfl, HG.out⟩
    go_wp2_with fail
    refine (shalf _ _ bD HD.out).mono ?_
    rintro e w' ⟨rfl, rfl⟩
    cases bD
    · obtain rfl : b = false := by simpa using HB2.out
      go_wp2
      go_ret
      exact ⟨rfl, HG.out⟩
    go_wp2_with fail
    refine (sturn _ _ b9 H9.out).mono ?_
    rintro e w' ⟨rfl, rfl⟩
    cases b9
    · obtain rfl : b = false := by simpa using HB2.out
      go_wp2
      go_ret
      exact ⟨rfl, HG.out⟩
    go_wp2_with fail
    refine (sinr_b _ _ _ _ b10 H10.out).mono ?_
    rintro e w' ⟨rfl, rfl⟩
    obtain rfl : b = b10 := by simpa using HB2.out
    go_wp2
    go_ret
    exact ⟨rfl, HG.out⟩
end Go.Proofs.YtciopplobeiokaaDoor
