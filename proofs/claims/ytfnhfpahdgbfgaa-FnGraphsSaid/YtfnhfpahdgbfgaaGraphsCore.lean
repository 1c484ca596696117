/- The walk of law FnGraphs, for a code that is read. -/
import Derived.Test.YtfnhfpahdgbfgaaGraph
import Derived.Test.YtfnhfpahdgbfgaaDrawGraph
import Derived.Test.YtfnhfpahdgbfgaaBig
import Derived.Test.YtfnhfpahdgbfgaaApart
import Derived.BigQuiet
import Derived.Deep.DeepCutAuto
import Derived.Deep.CutRange
import Derived.Deep.CutBlock
namespace Go.Proofs.Ytfnhfpahdgbfgaa
open Go.ChangeShapes Go.WideShapes Go.ChangeAt Go.RowKit
set_option linter.unusedVariables false
theorem at_zero (g j : Nat) : (⟨g, 0, none⟩ : Addr).add j = ⟨g, j, none⟩ := by unfold Addr.add; split <;> simp_all
theorem Sl.twoG {w : World} {B n c g : Nat} {l : List (Int × Int)} (h : Sl w B 2 (some ⟨g, 0, none⟩) n c (sv l)) {k : Nat} (hk : k < n) (hl : k < l.length) : w.cell? ⟨g, k * 2, none⟩ = some (.int .i64 l[k].1) ∧ w.cell? ⟨g, k * 2 + 1, none⟩ = some (.int .i64 l[k].2) := by
  obtain ⟨ad, hx, e, hb, h1, h2⟩ := h.two hk
  injection e with e
  subst e
  rw [at_zero] at h1 h2
  exact ⟨h1, h2⟩
theorem Sl.intG {w : World} {B n c g : Nat} {l : List Int} (h : Sl w B 1 (some ⟨g, 0, none⟩) n c (iv l)) {k : Nat} (hk : k < n) (hl : k < l.length) : w.cell? ⟨g, k, none⟩ = some (.int .i64 l[k]) := by
  obtain ⟨ad, hx, e, hb, h1⟩ := h.int hk
  injection e with e
  subst e
  rw [at_zero] at h1
  exact h1
set_option maxRecDepth 100000 in
theorem lcontains (w : World) (D : Nat) (A : Option Addr) (n c : Nat) (l : List Int) (h : Sl w D 1 A n c (iv l)) (hD : D ≤ w.heap.size) (x : Int) (b : Bool) (hb : decide (x ∈ l) = b) :
    Calls Try.prog 16 #[.slice A n c, .int .i64 x] w (Says w b) := by
  have hna : n = l.length := by have h1 := h.len; rw [iv_len] at h1; omega
  subst hna
  have HS := Lib.hid h; have HB := Lib.hid hb
  have hcap := h.cap; have hcapm := h.capm
  clear h hb
  go_enter Try.func16, Try.ntmps16
  go_wp2_with fail
  go_loopw [5] (fun i wr => ∃ k : Nat, k ≤ l.length ∧ i = .int .i64 k ∧ Hid (x ∉ l.take k) ∧ Below w.heap.size w wr) (fun i _ => l.length - (intOf i).toNat)
  case atStart => exact ⟨0, Nat.zero_le _, rfl, Lib.hid (by simp), Below.refl _ _⟩
  case round =>
    obtain ⟨k, hk, rfl, hi, hbw⟩ := hrel
    have HBW := Lib.hid hbw
    by_cases hlt : k < l.length
    case neg =>
      obtain rfl : k = l.length := by omega
      obtain rfl : b = false := by rw [← HB.out]; exact decide_eq_false (by have := hi.out; rwa [List.take_length] at this)
      clear hbw
      go_wp2_with fail
      go_ret
      exact ⟨rfl, HBW.out⟩
    case pos =>
      obtain ⟨ad, hx, rfl, had, c0⟩ := (HS.out.below hbw hD).int hlt
      have HM : Hid (l[k] = x → b = true) := Lib.hid fun e => by rw [← HB.out]; exact decide_eq_true (by rw [← e]; exact List.getElem_mem _)
      have HN : Hid (l[k] ≠ x → x ∉ l.take (k + 1)) := Lib.hid fun e h => by
        rw [List.take_succ_eq_append_getElem hlt, List.mem_append, List.mem_singleton] at h
        rcases h with h | h
        · exact hi.out h
        · exact e h.symm
      obtain ⟨y, hy⟩ : ∃ y, y = l[k] := ⟨_, rfl⟩
      rw [← hy] at c0 HM HN
      clear hy hbw hi
      have hk0 : (0 : Int) ≤ (k : Int) := by omega
      have hkl : (k : Int) < (l.length : Int) := by omega
      by_cases e : y = x
      · obtain rfl := HM.out e
        subst e
        go_wp2_with fail
        go_ret
        exact ⟨rfl, HBW.out⟩
      · have HN2 := Lib.hid (HN.out e)
        have e2 : (y == x) = false := by simpa using e
        clear e HM HN
        go_wp2_with fail
        go_roundw
        case rel => exact ⟨k + 1, by omega, by go_num, HN2, HBW.out⟩
        case measure => simp [intOf]; omega
set_option maxHeartbeats 4000000 in
set_option maxRecDepth 100000 in
theorem coreGraphs (w : World) (A : Option Addr) (cap : Nat) (xs : List Value) (hB : Bytes xs) (hbig : xs.length ≤ 1048576) (hcap : xs.length ≤ cap) (hm0 : cap ≤ 9223372036854775807) (r0 : Reads w w.heap.size A xs) :
    Calls Try.prog 3 #[.slice A xs.length cap] w fun e w' => e = .returned (.bool true) ∧ Below w.heap.size w w' := by
  have R0 := Lib.hid r0; have HBY := Lib.hid hB; have HBIG := Lib.hid hbig; clear r0
  go_enter Try.func3, Try.ntmps3
  go_wp2_with fail
  refine (big_no _ _ _ _ hbig hm0 hcap).mono ?_
  rintro e w1 ⟨rfl, rfl⟩
  go_wp2_with fail
  refine (drawpcs _ _ _ _ hB hbig R0.out).mono ?_
  rintro e w1 ⟨⟨A1, n1, c1, l, f, t, rfl, hn1, o1, hj, hf, ht⟩, b1⟩
  have B1 := Lib.hid b1; have S1 := Lib.hid o1.sl; have HJ := Lib.hid hj
  have HFT : Hid (J64 f ∧ J64 t) := Lib.hid (by unfold J64; omega)
  have hn1' : n1 ≤ 16777216 := by omega
  clear o1 b1 hB hbig hm0 hj
  go_wp2_with fail
  refine (ipieces w1 _ A1 n1 c1 l S1.out (Nat.le_refl _) hn1' f t HJ.out).mono ?_
  rintro e w2 ⟨AP, nP, cP, rfl, o2, b2⟩
  have B2 := Lib.hid b2; have O2 := Lib.hid o2
  clear o2 b2
  obtain ⟨v, hv⟩ : ∃ v, isS (f, t) = v := ⟨_, rfl⟩
  cases v
  case false =>
    have hl := O2.out.len
    rw [sv_len, pieces_none hv] at hl
    obtain rfl : nP = 0 := by have h2 : 0 = nP * 2 := by simpa using hl
                              omega
    have hbad : f < 0 ∨ (¬ f < 0 ∧ 1000 < t) ∨ (¬ f < 0 ∧ ¬ 1000 < t ∧ t ≤ f) := by
      have h1 : ¬ (0 ≤ f ∧ t ≤ 1000 ∧ f < t) := fun h => by rw [(isS_iff _).2 h] at hv; cases hv
      omega
    have HF := Lib.hid (B1.out.trans (B2.out.mono B1.out.size))
    rcases hbad with h | ⟨h, h'⟩ | ⟨h, h', h''⟩
    all_goals
      go_wp2_with fail
      go_ret
      exact ⟨rfl, HF.out⟩
  case true =>
    have hab := (isS_iff _).1 hv
    simp only at hab
    have HAB := Lib.hid hab
    obtain ⟨P, hP⟩ : ∃ P, P = piecesL l f t := ⟨_, rfl⟩
    have hpl : 0 < P.length := by rw [hP]; exact pieces_some hv
    have HPI : Hid (∀ i, (h : i < P.length) → Piece l f t i P[i] ∧ ∀ j, (hj : j + 1 = i) → (P[j]'(by omega)).2 = P[i].1 ∧ linksL l (P[j]'(by omega)).1 ≠ linksL l P[i].1) := Lib.hid (by subst hP; exact fun i h => piece_at hv i h)
    have hPm : P.length ≤ 1000 := by rw [hP]; exact pieces_len _ _ _
    have HPL : Hid (P.length = (piecesL l f t).length) := Lib.hid (by rw [hP])
    rw [← hP] at O2
    have hnP : nP = P.length := by have h1 := O2.out.len; rw [sv_len] at h1; omega
    subst hnP
    clear hP hv hab hf ht
    rcases O2.out.form with ⟨_, hz, _⟩ | ⟨gP, rfl, _, _, hcP, hcPm⟩
    · omega
    have hmP : ∃ m', P.length = m' + 1 := ⟨P.length - 1, by omega⟩
    obtain ⟨QQ, hQ⟩ : ∃ QQ : World → Prop, ∀ wr, QQ wr ↔ Below w2.heap.size w2 wr := ⟨_, fun _ => Iff.rfl⟩
    have HQ0 : Hid (QQ w2) := Lib.hid ((hQ _).2 (Below.refl _ _))
    have HQ1 : Hid (∀ wr wr', QQ wr → Below wr.heap.size wr wr' → QQ wr') := Lib.hid fun wr wr' h h' => (hQ _).2 (((hQ _).1 h).trans (h'.mono ((hQ _).1 h).size))
    obtain ⟨D1, hD1⟩ : ∃ d, d = w1.heap.size := ⟨_, rfl⟩
    have HC : Hid (∀ wr, QQ wr → (Sl wr D1 4 A1 n1 c1 (fl c4 l) ∧ D1 ≤ wr.heap.size) ∧ (∀ k, (h : k < P.length) → wr.cell? ⟨gP, k * 2, none⟩ = some (.int .i64 P[k].1) ∧ wr.cell? ⟨gP, k * 2 + 1, none⟩ = some (.int .i64 P[k].2)) ∧ Below w.heap.size w wr) := Lib.hid fun wr h => by
      have hb := (hQ _).1 h
      have h1 : Below w1.heap.size w1 wr := B2.out.trans (hb.mono B2.out.size)
      refine ⟨⟨?_, ?_⟩, fun k hk => (O2.out.sl.below hb (Nat.le_refl _)).twoG hk hk, B1.out.trans (h1.mono B1.out.size)⟩
      · rw [hD1]; exact S1.out.below h1 (Nat.le_refl _)
      · rw [hD1]; exact h1.size
    clear hQ hD1 B1 B2 S1 O2
    obtain ⟨m', hm'⟩ := hmP
    have hP0 := (HC.out _ HQ0.out).2.1 0 hpl
    have hPl := (HC.out _ HQ0.out).2.1 m' (by omega)
    have h0e : P[0].1 = f := (HPI.out 0 hpl).1.first rfl
    have hle : (P[m']'(by omega)).2 = t := (HPI.out m' (by omega)).1.last (by rw [← HPL.out]; exact hm'.symm)
    rw [h0e] at hP0; rw [hle] at hPl
    simp only [Nat.zero_mul] at hP0
    obtain ⟨y0, -⟩ := hP0
    obtain ⟨-, y1⟩ := hPl
    have hpe : ((P.length : Int) == 0) = false := beq_eq_false_iff_ne.2 (by omega)
    have HML := Lib.hid hm'
    obtain ⟨m, hm⟩ : ∃ m, m = P.length := ⟨_, rfl⟩
    rw [← hm] at hm' hpe hcP
    rw [← hm]
    have HM := Lib.hid hm
    subst hm'
    clear h0e hle hm
    have hm1000 : m' + 1 ≤ 1000 := by have := HM.out; omega
    have hpe2 : ((m' : Int) + 1 == 0) = false := beq_eq_false_iff_ne.2 (by omega)
    go_upto_block 0 with fail
    clear y0 y1 hpe hpe2
    go_cut [7, 8] from 56 to 133 (fun _ _ wx => QQ wx)
    case first =>
      go_wp2_with fail
      go_loopw [7, 8] (fun iv _ wr => ∃ x : Nat, x ≤ m' + 1 ∧ iv = .int .i64 x ∧ QQ wr) (fun iv _ _ => m' + 1 - (intOf iv).toNat)
      case atStart => exact ⟨0, Nat.zero_le _, rfl, HQ0.out⟩
      case round =>
        clear HQ0
        obtain ⟨x, hx, rfl, hq⟩ := hrel
        have HQ := Lib.hid hq
        clear hq
        by_cases hlt : x < m' + 1
        case neg =>
          obtain rfl : x = m' + 1 := by omega
          go_wp2_with fail
          go_meet
          exact HQ.out
        case pos =>
          have hxl : x < P.length := by have := HM.out; omega
          have hPX := HPI.out x hxl
          have HCX : Hid (∀ wr, QQ wr → wr.cell? ⟨gP, x * 2, none⟩ = some (.int .i64 P[x].1) ∧ wr.cell? ⟨gP, x * 2 + 1, none⟩ = some (.int .i64 P[x].2)) := Lib.hid fun wr h => (HC.out wr h).2.1 x hxl
          obtain ⟨z1, hz1⟩ : ∃ z, z = P[x].1 := ⟨_, rfl⟩
          obtain ⟨z2, hz2⟩ : ∃ z, z = P[x].2 := ⟨_, rfl⟩
          have HPP : Hid (0 ≤ z1 ∧ z1 < z2 ∧ z2 ≤ 1000 ∧ ∀ u, z1 ≤ u → u < z2 → linksL l u = linksL l z1) := Lib.hid (by
            have h1 := hPX.1.lo; have h2 := hPX.1.lt; have h3 := hPX.1.hi; have h4 := HAB.out
            rw [hz1, hz2]
            exact ⟨by omega, h2, by omega, hPX.1.same⟩)
          have HIS : Hid (isS (z1, z2) = true) := Lib.hid ((isS_iff _).2 (by have := HPP.out; simp only; omega))
          have HZJ : Hid (J64 z1 ∧ J64 z2) := Lib.hid (by have := HPP.out; unfold J64; omega)
          rw [← hz1, ← hz2] at HCX
          have hPR : ∀ x', (h : x' + 1 = x) → (P[x']'(by omega)).2 = z1 ∧ linksL l (P[x']'(by omega)).1 ≠ linksL l z1 := fun x' h => by rw [hz1]; exact hPX.2 x' h
          clear hPX hz1 hz2
          have hx0 : (0 : Int) ≤ (x : Int) := by omega
          have hxm : (x : Int) < (m' : Int) + 1 := by omega
          have hA : ∀ Q : Prop, Q → Q := fun _ h => h
          go_upto_region 12 with fail
          go_cut [103] from 62 to 103 (fun v wx => v = .bool false ∧ QQ wx)
          case first =>
            rcases x with _ | x'
            · obtain ⟨wr0, hwr0⟩ : ∃ x, x = wr := ⟨_, rfl⟩
              have HQ0 : Hid (QQ wr0) := Lib.hid (by rw [hwr0]; exact HQ.out)
              rw [← hwr0]
              clear hwr0
              have s0 : ∀ x : Wld QQ, x.w.cell? ⟨gP, 0, none⟩ = some (.int .i64 z1) := fun x => by have h := (HCX.out _ x.h).1; simpa using h
              have s1 : ∀ x : Wld QQ, x.w.cell? ⟨gP, 1, none⟩ = some (.int .i64 z2) := fun x => by have h := (HCX.out _ x.h).2; simpa using h
              have hne : Nonempty (Wld QQ) := ⟨⟨_, HQ0.out⟩⟩
              refine wp_region_quiet_cls (C := fun w' => ∃ x : Wld QQ, w' = x.w) (by kernel_rfl) (by kernel_rfl) ⟨⟨_, HQ1.out _ _ HQ0.out (Below.refl _ _).drew⟩, rfl⟩ ?_
              repeat (go_big_quiet_step (first
                | (go_at_call 13; rename_i x; refine (iisspan x.w z1 z2 true HIS.out).mono ?_; rintro e w' ⟨rfl, hb⟩; exact ⟨rfl, ⟨⟨_, HQ1.out _ _ x.h hb⟩, rfl⟩⟩)))
              refine wpQuiet_nil ?_
              rintro _ ⟨⟨wq, hwq⟩, rfl⟩
              clear s0 s1 hne
              go_wp2_with fail
              go_meet
              exact ⟨rfl, hwq⟩
            · obtain ⟨hp2, hpn⟩ := hPR x' rfl
              have hxl' : x' < P.length := by omega
              have HQP := HPI.out x' hxl'
              obtain ⟨y1, hy1⟩ : ∃ z, z = P[x'].1 := ⟨_, rfl⟩
              have HYJ : Hid (J64 y1) := Lib.hid (by have h1 := HQP.1.lo; have h2 := HQP.1.lt; have h3 := HQP.1.hi; have := HAB.out; rw [← hy1] at h1 h2; unfold J64; omega)
              have HNE : Hid (decide (linksL l y1 = linksL l z1) = false) := Lib.hid (by rw [hy1]; exact decide_eq_false hpn)
              have HCC : Hid (∀ wr, QQ wr → (wr.cell? ⟨gP, x' * 2, none⟩ = some (.int .i64 y1) ∧ wr.cell? ⟨gP, x' * 2 + 1, none⟩ = some (.int .i64 z1) ∧ wr.cell? ⟨gP, (x' + 1) * 2, none⟩ = some (.int .i64 z1) ∧ wr.cell? ⟨gP, (x' + 1) * 2 + 1, none⟩ = some (.int .i64 z2))) := Lib.hid fun wr h => by
                have h1 := (HC.out wr h).2.1 x' hxl'
                have h2 := HCX.out wr h
                rw [hp2, ← hy1] at h1
                exact ⟨h1.1, h1.2, h2.1, h2.2⟩
              clear hp2 hpn HQP hy1 hPR hA
              have hc0 := HCC.out _ HQ.out
              have HQD : Hid (QQ wr.drew) := Lib.hid (HQ1.out _ _ HQ.out (Below.refl _ _).drew)
              have hx0' : (0 : Int) ≤ (x' : Int) := by omega
              have hxm' : (x' : Int) < (m' : Int) + 1 := by omega
              have hxm2 : (x' : Int) + 1 < (m' : Int) + 1 := by omega
              have hxm3 : (x' : Int) < (m' : Int) := by omega
              have g3 : x' < m' + 1 := by omega
              have g4 : x' < m' := by omega
              have g5 : (0 : Int) ≤ (x' : Int) + 1 := by omega
              have g6 : (x' : Int) + 1 - 1 = (x' : Int) := by omega
              have g7 : (0 : Int) < (x' : Int) + 1 := by omega
              have g8 : IntKind.i64.wrap (((x' + 1 : Nat) : Int) - 1) = (x' : Int) := by rw [wrap_in _ (by omega) (by omega)]; omega
              have g9 : IntKind.i64.wrap ((x' : Int) + 1 - 1) = (x' : Int) := by rw [wrap_in _ (by omega) (by omega)]; omega
              have g10 : IntKind.i64.wrap (x' : Int) = (x' : Int) := wrap_in _ (by omega) (by omega)
              clear hx0 hxm
              go_region_held3 (fun w' => (w'.cell? ⟨gP, x' * 2, none⟩ = some (.int .i64 y1) ∧ w'.cell? ⟨gP, x' * 2 + 1, none⟩ = some (.int .i64 z1) ∧ w'.cell? ⟨gP, (x' + 1) * 2, none⟩ = some (.int .i64 z1) ∧ w'.cell? ⟨gP, (x' + 1) * 2 + 1, none⟩ = some (.int .i64 z2))) (first | exact hc0 | exact hcA | exact hcB | exact hcC | exact hcD | go_keep) (first
                | (go_at_call 13; have hbefore := HQC.out; refine (iisspan wC z1 z2 true HIS.out).mono ?_; rintro e wD ⟨rfl, bD⟩; have HQE := Lib.hid (HQ1.out _ _ HQC.out bD); have hcD := HCC.out _ HQE.out; clear bD hbefore)
                | (go_at_call 11; have hbefore := SB.out; refine (isame wB _ _ Ba Bb ma mb da db (linksL l y1) (linksL l z1) SA2.out SB.out HSZ.out (Nat.le_refl _) false HNE.out).mono ?_; rintro e wC ⟨rfl, bC⟩; have HQC := Lib.hid (HQ1.out _ _ HQB.out bC); have hcC := HCC.out _ HQC.out; clear bC hbefore)
                | (go_at_call 12; have hbefore := SA.out; refine (ilinks wA D1 A1 n1 c1 l (HC.out _ HQA.out).1.1 (HC.out _ HQA.out).1.2 hn1' z1 HJ.out).mono ?_; rintro e wB ⟨Bb, mb, db, rfl, oB, bB⟩; have HQB := Lib.hid (HQ1.out _ _ HQA.out bB); have hcB := HCC.out _ HQB.out; have SB := Lib.hid oB.sl; have SA2 := Lib.hid (SA.out.below bB (Nat.le_refl _)); have HSZ : Hid (wA.heap.size ≤ wB.heap.size) := Lib.hid bB.size; clear oB bB hbefore)
                | (go_at_call 12; refine (ilinks wr.drew D1 A1 n1 c1 l (HC.out _ HQD.out).1.1 (HC.out _ HQD.out).1.2 hn1' y1 HJ.out).mono ?_; rintro e wA ⟨Ba, ma, da, rfl, oA, bA⟩; have HQA := Lib.hid (HQ1.out _ _ HQD.out bA); have hcA := HCC.out _ HQA.out; have SA := Lib.hid oA.sl; clear oA bA))
              go_wp2_with fail
              go_meet
              exact ⟨rfl, HQE.out⟩
          case rest =>
            obtain ⟨rfl, hq⟩ := hcut
            have HQ2 := Lib.hid hq
            obtain ⟨y0, y1⟩ := HCX.out _ HQ2.out
            clear hq HQ
            go_wp2_with fail
            go_loopw [8] (fun tv w3 => ∃ u : Int, z1 ≤ u ∧ u ≤ 1001 ∧ tv = .int .i64 u ∧ QQ w3) (fun tv _ => (1001 - intOf tv).toNat)
            case atStart => exact ⟨z1, Int.le_refl _, by have := HPP.out; omega, rfl, HQ2.out⟩
            case round =>
              clear HQ2 y0 y1
              obtain ⟨u, hu0, hu1, rfl, hq⟩ := hrel
              have HQ := Lib.hid hq
              obtain ⟨y0, y1⟩ := HCX.out _ HQ.out
              clear hq
              have hu00 : 0 ≤ u := by have := HPP.out; omega
              by_cases hgo : u < z2 ∧ u ≤ 40
              case neg =>
                have hex : (¬ u < z2) ∨ (u < z2 ∧ ¬ u ≤ 40) := by omega
                clear hgo
                rcases hex with h | ⟨h, h'⟩
                all_goals
                  go_wp2_with fail
                  go_roundw
                  case rel => exact ⟨x + 1, by omega, by go_num, HQ.out⟩
                  case measure => simp [intOf]; omega
              case pos =>
                obtain ⟨h1, h2⟩ := hgo
                have HEQ : Hid (decide (linksL l z1 = linksL l u) = true) := Lib.hid (decide_eq_true (HPP.out.2.2.2 u hu0 h1).symm)
                have HUJ : Hid (J64 u) := Lib.hid (by unfold J64; omega)
                go_wp2_with fail
                refine (ilinks wr D1 A1 n1 c1 l (HC.out _ HQ.out).1.1 (HC.out _ HQ.out).1.2 hn1' z1 HJ.out).mono ?_
                rintro e wA ⟨Ba, ma, da, rfl, oA, bA⟩
                have HQA := Lib.hid (HQ1.out _ _ HQ.out bA); have SA := Lib.hid oA.sl
                clear oA bA y0 y1
                go_wp2_with fail
                refine (ilinks wA D1 A1 n1 c1 l (HC.out _ HQA.out).1.1 (HC.out _ HQA.out).1.2 hn1' u HJ.out).mono ?_
                rintro e wB ⟨Bb, mb, db, rfl, oB, bB⟩
                have HQB := Lib.hid (HQ1.out _ _ HQA.out bB); have SB := Lib.hid oB.sl
                have SA2 := Lib.hid (SA.out.below bB (Nat.le_refl _)); have HSZ : Hid (wA.heap.size ≤ wB.heap.size) := Lib.hid bB.size
                clear oB bB
                go_wp2_with fail
                refine (isame wB _ _ Ba Bb ma mb da db (linksL l z1) (linksL l u) SA2.out SB.out HSZ.out (Nat.le_refl _) true HEQ.out).mono ?_
                rintro e wC ⟨rfl, bC⟩
                have HQC := Lib.hid (HQ1.out _ _ HQB.out bC)
                clear bC
                go_wp2_with fail
                go_roundw
                case rel => exact ⟨u + 1, by omega, by omega, by go_num, HQC.out⟩
                case measure => simp [intOf]; omega
    case rest =>
      have HW := Lib.hid (HC.out _ hcut).2.2
      clear hcut HC HPI HPL HM HQ0 HQ1 HAB HFT HJ
      go_wp2_with fail
      refine (drawnb _ _ _ _ HBY.out HBIG.out ((R0.out.below HW.out (Nat.le_refl _)).more HW.out.size)).mono ?_
      rintro e w5 ⟨⟨A4, n4, c4', L2, v, rfl, hn4, o4, hj4, hv⟩, b5⟩
      have B5 := Lib.hid (HW.out.trans (b5.mono HW.out.size)); have S4 := Lib.hid o4.sl; have HJ4 := Lib.hid hj4
      have HVJ : Hid (J64 v) := Lib.hid (by unfold J64; omega)
      have hn4' : n4 ≤ 16777216 := by omega
      clear o4 b5 hj4 HW
      go_wp2_with fail
      refine (inb w5 _ A4 n4 c4' L2 S4.out (Nat.le_refl _) hn4' v).mono ?_
      rintro e w6 ⟨AN, nN, cN, rfl, o6, b6⟩
      obtain ⟨NB, hNB⟩ : ∃ N, N = nbL L2 v := ⟨_, rfl⟩
      have HSYM : Hid (∀ n ∈ NB, v ∈ nbL L2 n) := Lib.hid fun n hn => nb_sym L2 v n (by rw [← hNB]; exact hn)
      have HASC : Hid (∀ k, (h : k + 1 < NB.length) → (NB[k]'(by omega)) < NB[k + 1]) := Lib.hid (by
        subst hNB; intro k h; exact List.pairwise_iff_getElem.1 (nb_asc L2 v) k (k + 1) (by omega) h (by omega))
      have HRNG : Hid (∀ n ∈ NB, J64 n) := Lib.hid fun n hn => nb_rng L2 HJ4.out v n (by rw [← hNB]; exact hn)
      have hNl : NB.length ≤ 402 := by
        have h1 := nbL_len L2 v; have h2 := S4.out.len; rw [sv_len] at h2; rw [hNB]; omega
      rw [← hNB] at o6
      have hnN : nN = NB.length := by have h1 := o6.len; rw [iv_len] at h1; omega
      obtain ⟨m, hm⟩ : ∃ m, m = NB.length := ⟨_, rfl⟩
      have hnN2 : m = nN := hm.trans hnN.symm
      clear hnN
      subst hnN2
      have HM := Lib.hid hm
      have hm402 : m ≤ 402 := by omega
      obtain ⟨QQ, hQ⟩ : ∃ QQ : World → Prop, ∀ wr, QQ wr ↔ Below w6.heap.size w6 wr := ⟨_, fun _ => Iff.rfl⟩
      have HQ0 : Hid (QQ w6) := Lib.hid ((hQ _).2 (Below.refl _ _))
      have HQ1 : Hid (∀ wr wr', QQ wr → Below wr.heap.size wr wr' → QQ wr') := Lib.hid fun wr wr' h h' => (hQ _).2 (((hQ _).1 h).trans (h'.mono ((hQ _).1 h).size))
      obtain ⟨D4, hD4⟩ : ∃ d, d = w5.heap.size := ⟨_, rfl⟩
      have HC : Hid (∀ wr, QQ wr → (Sl wr D4 2 A4 n4 c4' (sv L2) ∧ D4 ≤ wr.heap.size) ∧ Below w.heap.size w wr ∧ ∀ g, AN = some ⟨g, 0, none⟩ → ∀ k, (h : k < NB.length) → wr.cell? ⟨g, k, none⟩ = some (.int .i64 NB[k])) := Lib.hid fun wr h => by
        have hb := (hQ _).1 h
        have h1 : Below w5.heap.size w5 wr := b6.trans (hb.mono b6.size)
        refine ⟨⟨?_, ?_⟩, B5.out.trans (h1.mono B5.out.size), fun g e k hk => ?_⟩
        · rw [hD4]; exact S4.out.below h1 (Nat.le_refl _)
        · rw [hD4]; exact h1.size
        · subst e; exact (o6.sl.below hb (Nat.le_refl _)).intG (by omega) hk
      have HFORM : Hid (0 < m → ∃ g, AN = some ⟨g, 0, none⟩) := Lib.hid fun h => by
        rcases o6.own.choose_spec.2.form with ⟨_, hz, _⟩ | ⟨g, e, _⟩
        · omega
        · exact ⟨g, e⟩
      have hcN := o6.capm
      clear hQ hD4 B5 S4 o6 b6 hNB hm
      go_wp2_with fail
      go_loopw [12] (fun iv wr => ∃ x : Nat, x ≤ m ∧ iv = .int .i64 x ∧ QQ wr) (fun iv _ => m - (intOf iv).toNat)
      case atStart => exact ⟨0, Nat.zero_le _, rfl, HQ0.out⟩
      case round =>
        clear HQ0
        obtain ⟨x, hx, rfl, hq⟩ := hrel
        have HQ := Lib.hid hq
        clear hq
        by_cases hlt : x < m
        case neg =>
          have HW := Lib.hid (HC.out _ HQ.out).2.1
          go_wp2_with fail
          go_ret
          exact ⟨rfl, HW.out⟩
        case pos =>
          obtain ⟨gN, rfl⟩ := HFORM.out (by omega)
          have hxl : x < NB.length := by have := HM.out; omega
          have HCX : Hid (∀ wr, QQ wr → wr.cell? ⟨gN, x, none⟩ = some (.int .i64 NB[x])) := Lib.hid fun wr h => (HC.out wr h).2.2 gN rfl x hxl
          have HVN : Hid (decide (v ∈ nbL L2 NB[x]) = true) := Lib.hid (decide_eq_true (HSYM.out _ (List.getElem_mem hxl)))
          have HZJ : Hid (J64 NB[x]) := Lib.hid (HRNG.out _ (List.getElem_mem hxl))
          have HPV : ∀ x', (h : x' + 1 = x) → (NB[x']'(by omega)) < NB[x] := fun x' h => by subst h; exact HASC.out x' hxl
          obtain ⟨z1, hz1⟩ : ∃ z, z = NB[x] := ⟨_, rfl⟩
          rw [← hz1] at HCX HVN HZJ HPV
          clear hz1
          have HQD : Hid (QQ wr.drew) := Lib.hid (HQ1.out _ _ HQ.out (Below.refl _ _).drew)
          rcases x with _ | x'
          · have hc0 : wr.cell? ⟨gN, 0, none⟩ = some (.int .i64 z1) := HCX.out _ HQ.out
            have hxm : (0 : Int) < (m : Int) := by omega
            clear HPV
            go_upto_region 24 with fail
            refine wp_region_noPanic ?_
            refine wp_region_held_drew (S := fun w' => w'.cell? ⟨gN, 0, none⟩ = some (.int .i64 z1)) (by kernel_rfl) (HCX.out _ HQD.out) (fun hHeld => ?_)
            refine wpAnyH_take (i := 0) (oi := ⟨_, _, _, _, _, _⟩) (v := ?_) rfl (by kernel_rfl) (by kernel_rfl) (by kernel_rfl) (fun _ _ _ h => h) (Or.inl ⟨by kernel_rfl, ?_⟩) (by assumption) ?_
            rotate_left
            · intro w hSw; (try dsimp only at hSw); go_simp; try with_reducible rfl
            try simp only [Act.put, List.setIfInBounds_toArray, List.set_cons_zero, List.set_cons_succ]
            refine wpAnyH_take (i := 1) (oi := ⟨_, _, _, _, _, _⟩) (v := ?_) rfl (by kernel_rfl) (by kernel_rfl) (by kernel_rfl) (fun _ _ _ h => h) (Or.inl ⟨by kernel_rfl, ?_⟩) (by assumption) ?_
            rotate_left
            · intro w hSw; (try dsimp only at hSw); go_simp; try with_reducible rfl
            try simp only [Act.put, List.setIfInBounds_toArray, List.set_cons_zero, List.set_cons_succ]
            refine wpAnyH_take (i := 2) (oi := ⟨_, _, _, _, _, _⟩) (v := ?_) rfl (by kernel_rfl) (by kernel_rfl) (by kernel_rfl) (fun _ _ _ h => h) (Or.inl ⟨by kernel_rfl, ?_⟩) (by assumption) ?_
            rotate_left
            · intro w hSw; (try dsimp only at hSw); go_simp; try with_reducible rfl
            try simp only [Act.put, List.setIfInBounds_toArray, List.set_cons_zero, List.set_cons_succ]
            refine wpAnyH_take (i := 3) (oi := ⟨_, _, _, _, _, _⟩) (v := ?_) rfl (by kernel_rfl) (by kernel_rfl) (by kernel_rfl) (fun _ _ _ h => h) (Or.inl ⟨by kernel_rfl, ?_⟩) (by assumption) ?_
            rotate_left
            · intro w hSw; (try dsimp only at hSw); go_simp; try with_reducible rfl
            try simp only [Act.put, List.setIfInBounds_toArray, List.set_cons_zero, List.set_cons_succ]
            refine wpAnyH_take (i := 4) (oi := ⟨_, _, _, _, _, _⟩) (v := ?_) rfl (by kernel_rfl) (by kernel_rfl) (by kernel_rfl) (fun _ _ _ h => h) (Or.inl ⟨by kernel_rfl, ?_⟩) (by assumption) ?_
            rotate_left
            · intro w hSw; (try dsimp only at hSw); go_simp; try with_reducible rfl
            try simp only [Act.put, List.setIfInBounds_toArray, List.set_cons_zero, List.set_cons_succ]
            refine wpAnyH_take (i := 6) (oi := ⟨_, _, _, _, _, _⟩) (v := ?_) rfl (by kernel_rfl) (by kernel_rfl) (by kernel_rfl) (fun _ _ _ h => h) (Or.inl ⟨by kernel_rfl, ?_⟩) (by assumption) ?_
            rotate_left
            · intro w hSw; (try dsimp only at hSw); go_simp; try with_reducible rfl
            try simp only [Act.put, List.setIfInBounds_toArray, List.set_cons_zero, List.set_cons_succ]
            refine wpAnyH_ready (rs := [5]) (by kernel_rfl) (by simp) ?_
            refine AllReadyH.cons (o := ⟨_, _, _, _, _, _⟩) rfl (fun K hK => ?_) AllReadyH.nil
            go_simp
            refine (inb wr.drew D4 A4 n4 c4' L2 (HC.out _ HQD.out).1.1 (HC.out _ HQD.out).1.2 hn4' z1).mono ?_
            rintro e wA ⟨Aa, ma, da, rfl, oA, bA⟩
            have HQA := Lib.hid (HQ1.out _ _ HQD.out bA); have SA := Lib.hid oA.sl
            clear oA bA
            refine hK.out _ _ (HCX.out _ HQA.out) (fun hHeld => ?_)
            clear hK K
            try simp only [Act.put, List.setIfInBounds_toArray, List.set_cons_zero, List.set_cons_succ]
            refine wpAnyH_ready (rs := [7]) (by kernel_rfl) (by simp) ?_
            refine AllReadyH.cons (o := ⟨_, _, _, _, _, _⟩) rfl (fun K hK => ?_) AllReadyH.nil
            go_simp
            refine (lcontains wA _ Aa ma da (nbL L2 z1) SA.out (Nat.le_refl _) v true HVN.out).mono ?_
            rintro e wB ⟨rfl, bB⟩
            have HQB := Lib.hid (HQ1.out _ _ HQA.out bB)
            clear bB
            refine hK.out _ _ (HCX.out _ HQB.out) (fun hHeld => ?_)
            clear hK K
            try simp only [Act.put, List.setIfInBounds_toArray, List.set_cons_zero, List.set_cons_succ]
            refine wpAnyH_take (i := 8) (oi := ⟨_, _, _, _, _, _⟩) (v := ?_) rfl (by kernel_rfl) (by kernel_rfl) (by kernel_rfl) (fun _ _ _ h => h) (Or.inl ⟨by kernel_rfl, ?_⟩) (by assumption) ?_
            rotate_left
            · intro w hSw; (try dsimp only at hSw); go_simp; try with_reducible rfl
            try simp only [Act.put, List.setIfInBounds_toArray, List.set_cons_zero, List.set_cons_succ]
            refine wpAnyH_take (i := 9) (oi := ⟨_, _, _, _, _, _⟩) (v := ?_) rfl (by kernel_rfl) (by kernel_rfl) (by kernel_rfl) (fun _ _ _ h => h) (Or.inl ⟨by kernel_rfl, ?_⟩) (by assumption) ?_
            rotate_left
            · intro w hSw; (try dsimp only at hSw); go_simp; try with_reducible rfl
            try simp only [Act.put, List.setIfInBounds_toArray, List.set_cons_zero, List.set_cons_succ]
            refine wpAnyH_take (i := 10) (oi := ⟨_, _, _, _, _, _⟩) (v := ?_) rfl (by kernel_rfl) (by kernel_rfl) (by kernel_rfl) (fun _ _ _ h => h) (Or.inl ⟨by kernel_rfl, ?_⟩) (by assumption) ?_
            rotate_left
            · intro w hSw; (try dsimp only at hSw); go_simp; try with_reducible rfl
            try simp only [Act.put, List.setIfInBounds_toArray, List.set_cons_zero, List.set_cons_succ]
            refine wpAnyH_take (i := 11) (oi := ⟨_, _, _, _, _, _⟩) (v := ?_) rfl (by kernel_rfl) (by kernel_rfl) (by kernel_rfl) (fun _ _ _ h => h) (Or.inl ⟨by kernel_rfl, ?_⟩) (by assumption) ?_
            rotate_left
            · intro w hSw; (try dsimp only at hSw); go_simp; try with_reducible rfl
            try simp only [Act.put, List.setIfInBounds_toArray, List.set_cons_zero, List.set_cons_succ]
            refine wpAnyH_take (i := 12) (oi := ⟨_, _, _, _, _, _⟩) (v := ?_) rfl (by kernel_rfl) (by kernel_rfl) (by kernel_rfl) (fun _ _ _ h => h) (Or.inl ⟨by kernel_rfl, ?_⟩) (by assumption) ?_
            rotate_left
            · intro w hSw; (try dsimp only at hSw); go_simp; try with_reducible rfl
            try simp only [Act.put, List.setIfInBounds_toArray, List.set_cons_zero, List.set_cons_succ]
            refine wpAnyH_take (i := 13) (oi := ⟨_, _, _, _, _, _⟩) (v := undef) rfl (by kernel_rfl) (by kernel_rfl) (by kernel_rfl) (fun _ _ _ h => h) (Or.inr ⟨by kernel_rfl, rfl⟩) (by assumption) ?_
            try simp only [Act.put, List.setIfInBounds_toArray, List.set_cons_zero, List.set_cons_succ]
            refine wpAnyH_take (i := 14) (oi := ⟨_, _, _, _, _, _⟩) (v := undef) rfl (by kernel_rfl) (by kernel_rfl) (by kernel_rfl) (fun _ _ _ h => h) (Or.inr ⟨by kernel_rfl, rfl⟩) (by assumption) ?_
            try simp only [Act.put, List.setIfInBounds_toArray, List.set_cons_zero, List.set_cons_succ]
            refine wpAnyH_take (i := 15) (oi := ⟨_, _, _, _, _, _⟩) (v := undef) rfl (by kernel_rfl) (by kernel_rfl) (by kernel_rfl) (fun _ _ _ h => h) (Or.inr ⟨by kernel_rfl, rfl⟩) (by assumption) ?_
            try simp only [Act.put, List.setIfInBounds_toArray, List.set_cons_zero, List.set_cons_succ]
            refine wpAnyH_take (i := 16) (oi := ⟨_, _, _, _, _, _⟩) (v := undef) rfl (by kernel_rfl) (by kernel_rfl) (by kernel_rfl) (fun _ _ _ h => h) (Or.inr ⟨by kernel_rfl, rfl⟩) (by assumption) ?_
            try simp only [Act.put, List.setIfInBounds_toArray, List.set_cons_zero, List.set_cons_succ]
            refine wpAnyH_take (i := 17) (oi := ⟨_, _, _, _, _, _⟩) (v := undef) rfl (by kernel_rfl) (by kernel_rfl) (by kernel_rfl) (fun _ _ _ h => h) (Or.inr ⟨by kernel_rfl, rfl⟩) (by assumption) ?_
            try simp only [Act.put, List.setIfInBounds_toArray, List.set_cons_zero, List.set_cons_succ]
            refine wpAnyH_take (i := 18) (oi := ⟨_, _, _, _, _, _⟩) (v := undef) rfl (by kernel_rfl) (by kernel_rfl) (by kernel_rfl) (fun _ _ _ h => h) (Or.inr ⟨by kernel_rfl, rfl⟩) (by assumption) ?_
            try simp only [Act.put, List.setIfInBounds_toArray, List.set_cons_zero, List.set_cons_succ]
            refine wpAnyH_take (i := 19) (oi := ⟨_, _, _, _, _, _⟩) (v := undef) rfl (by kernel_rfl) (by kernel_rfl) (by kernel_rfl) (fun _ _ _ h => h) (Or.inr ⟨by kernel_rfl, rfl⟩) (by assumption) ?_
            try simp only [Act.put, List.setIfInBounds_toArray, List.set_cons_zero, List.set_cons_succ]
            refine wpAnyH_take (i := 20) (oi := ⟨_, _, _, _, _, _⟩) (v := undef) rfl (by kernel_rfl) (by kernel_rfl) (by kernel_rfl) (fun _ _ _ h => h) (Or.inr ⟨by kernel_rfl, rfl⟩) (by assumption) ?_
            try simp only [Act.put, List.setIfInBounds_toArray, List.set_cons_zero, List.set_cons_succ]
            refine wpAnyH_take (i := 21) (oi := ⟨_, _, _, _, _, _⟩) (v := undef) rfl (by kernel_rfl) (by kernel_rfl) (by kernel_rfl) (fun _ _ _ h => h) (Or.inr ⟨by kernel_rfl, rfl⟩) (by assumption) ?_
            try simp only [Act.put, List.setIfInBounds_toArray, List.set_cons_zero, List.set_cons_succ]
            refine wpAnyH_take (i := 22) (oi := ⟨_, _, _, _, _, _⟩) (v := undef) rfl (by kernel_rfl) (by kernel_rfl) (by kernel_rfl) (fun _ _ _ h => h) (Or.inr ⟨by kernel_rfl, rfl⟩) (by assumption) ?_
            try simp only [Act.put, List.setIfInBounds_toArray, List.set_cons_zero, List.set_cons_succ]
            refine wpAnyH_take (i := 23) (oi := ⟨_, _, _, _, _, _⟩) (v := ?_) rfl (by kernel_rfl) (by kernel_rfl) (by kernel_rfl) (fun _ _ _ h => h) (Or.inl ⟨by kernel_rfl, ?_⟩) (by assumption) ?_
            rotate_left
            · intro w hSw; (try dsimp only at hSw); go_simp; try with_reducible rfl
            try simp only [Act.put, List.setIfInBounds_toArray, List.set_cons_zero, List.set_cons_succ]
            refine wpAnyH_take (i := 24) (oi := ⟨_, _, _, _, _, _⟩) (v := ?_) rfl (by kernel_rfl) (by kernel_rfl) (by kernel_rfl) (fun _ _ _ h => h) (Or.inl ⟨by kernel_rfl, ?_⟩) (by assumption) ?_
            rotate_left
            · intro w hSw; (try dsimp only at hSw); go_simp; try with_reducible rfl
            try simp only [Act.put, List.setIfInBounds_toArray, List.set_cons_zero, List.set_cons_succ]
            refine wpAnyH_done (by kernel_rfl) ?_ _
            refine NoPanic.normal ?_
            all_goals
              go_wp2_with fail
              go_roundw
              case rel => exact ⟨0 + 1, by omega, by go_num, HQB.out⟩
              case measure => simp [intOf]; omega
          · have hxl' : x' < NB.length := by omega
            have hyz := HPV x' rfl
            obtain ⟨y1, hy1⟩ : ∃ z, z = NB[x'] := ⟨_, rfl⟩
            have HCC : Hid (∀ wr, QQ wr → (wr.cell? ⟨gN, x', none⟩ = some (.int .i64 y1) ∧ wr.cell? ⟨gN, x' + 1, none⟩ = some (.int .i64 z1))) := Lib.hid fun wr h => ⟨by rw [hy1]; exact (HC.out wr h).2.2 gN rfl x' hxl', HCX.out wr h⟩
            rw [← hy1] at hyz
            clear hy1 HPV
            have hc0 := HCC.out _ HQ.out
            have hge : decide (z1 ≤ y1) = false := by simp; omega
            have hnle : ¬ z1 ≤ y1 := by omega
            have hx0' : (0 : Int) ≤ (x' : Int) := by omega
            have hxm' : (x' : Int) < (m : Int) := by omega
            have hxm2 : (x' : Int) + 1 < (m : Int) := by omega
            have g3 : x' < m := by omega
            have g5 : (0 : Int) ≤ (x' : Int) + 1 := by omega
            have g6 : (x' : Int) + 1 - 1 = (x' : Int) := by omega
            have g7 : (0 : Int) < (x' : Int) + 1 := by omega
            have g8 : IntKind.i64.wrap (((x' + 1 : Nat) : Int) - 1) = (x' : Int) := by rw [wrap_in _ (by omega) (by omega)]; omega
            have g9 : IntKind.i64.wrap ((x' : Int) + 1 - 1) = (x' : Int) := by rw [wrap_in _ (by omega) (by omega)]; omega
            have g10 : IntKind.i64.wrap (x' : Int) = (x' : Int) := wrap_in _ (by omega) (by omega)
            go_upto_region 24 with fail
            go_region_held3 (fun w' => (w'.cell? ⟨gN, x', none⟩ = some (.int .i64 y1) ∧ w'.cell? ⟨gN, x' + 1, none⟩ = some (.int .i64 z1))) (first | exact hc0 | exact hcA | exact hcB | go_keep) (first
              | (go_at_call 16; have hbefore := SA.out; refine (lcontains wA _ Aa ma da (nbL L2 z1) SA.out (Nat.le_refl _) v true HVN.out).mono ?_; rintro e wB ⟨rfl, bB⟩; have HQB := Lib.hid (HQ1.out _ _ HQA.out bB); have hcB := HCC.out _ HQB.out; clear bB hbefore)
              | (go_at_call 15; refine (inb wr.drew D4 A4 n4 c4' L2 (HC.out _ HQD.out).1.1 (HC.out _ HQD.out).1.2 hn4' z1).mono ?_; rintro e wA ⟨Aa, ma, da, rfl, oA, bA⟩; have HQA := Lib.hid (HQ1.out _ _ HQD.out bA); have hcA := HCC.out _ HQA.out; have SA := Lib.hid oA.sl; clear oA bA)
              | fail)
            all_goals
              go_wp2_with fail
              go_roundw
              case rel => exact ⟨x' + 1 + 1, by omega, by go_num, HQB.out⟩
              case measure => simp [intOf]; omega
end Go.Proofs.Ytfnhfpahdgbfgaa
