/- The walk of law FnPaths, for a code that is read. -/
import Derived.Test.YtclillkneadplaaPath
import Derived.Test.YtclillkneadplaaDrawPath
import Derived.Test.YtclillkneadplaaBig
import Derived.Test.YtclillkneadplaaApart
import Derived.BigQuiet
import Derived.Deep.DeepCutAuto
import Derived.Deep.CutRange
import Derived.Deep.CutBlock
namespace Go.Proofs.Ytclillkneadplaa
open Go.ChangeShapes Go.WideShapes Go.ChangeAt Go.RowKit
set_option linter.unusedVariables false
theorem loopB_nil : loopB [] = false := rfl
theorem nextL_nil (L : List (Int × Int)) (f dst : Int) : nextL L f dst [] = [] := rfl
set_option maxHeartbeats 4000000 in
set_option maxRecDepth 100000 in
theorem corePaths (w : World) (A : Option Addr) (cap : Nat) (xs : List Value) (hB : Bytes xs) (hbig : xs.length ≤ 1048576) (hcap : xs.length ≤ cap) (hm0 : cap ≤ 9223372036854775807) (r0 : Reads w w.heap.size A xs) :
    Calls Try.prog 3 #[.slice A xs.length cap] w fun e w' => e = .returned (.bool true) ∧ Below w.heap.size w w' := by
  have R0 := Lib.hid r0; clear r0
  go_enter Try.func3, Try.ntmps3
  go_wp2_with fail
  refine (big_no _ _ _ _ hbig hm0 hcap).mono ?_
  rintro e w1 ⟨rfl, rfl⟩
  go_wp2_with fail
  refine (drawnext _ _ _ _ hB hbig R0.out).mono ?_
  rintro e w1 ⟨⟨A1, n1, c1, l, N, f, dst, rfl, hn1, o1, hj, hN, hf, hd⟩, b1⟩
  obtain ⟨s, rfl⟩ : ∃ s : Nat, (s : Int) = dst := ⟨dst.toNat, by omega⟩
  have B1 := Lib.hid b1; have S1 := Lib.hid o1.sl
  have HJ : Hid (J64 N ∧ J64 f ∧ J64 (s : Int)) := Lib.hid (by unfold J64; omega)
  have hn1' : n1 ≤ 16777216 := by omega
  clear o1 b1 hB hbig hm0 hj R0
  go_wp2_with fail
  refine (idist w1 _ A1 n1 c1 l S1.out (Nat.le_refl _) hn1' N f s HJ.out).mono ?_
  rintro e w2 ⟨Ad, nd, cd, rfl, o2, b2⟩
  obtain ⟨d, hdd⟩ : ∃ d, d = distA l N f s := ⟨_, rfl⟩
  rw [← hdd] at o2
  have HDD := Lib.hid hdd
  clear hdd
  have hnd : nd = d.length := by have h1 := o2.len; rw [iv_len] at h1; omega
  subst hnd
  have hcd := o2.capm
  have B2 := Lib.hid (B1.out.trans (b2.mono B1.out.size)); have S2 := Lib.hid (S1.out.on b2); have SD2 := Lib.hid o2.sl
  clear o2 b2
  go_wp2_with fail
  refine (sdistX w2 _ A1 n1 c1 l S2.out (Nat.le_refl _) hn1' N f s HJ.out).mono ?_
  rintro e w3 ⟨⟨As, ns, cs, rfl, o3, b3⟩, hdist⟩
  rw [← HDD.out] at o3 hdist
  have hns : ns = d.length := by have h1 := o3.len; rw [iv_len] at h1; omega
  subst hns
  have HDI : Hid (0 < d.length → (1 ≤ N ∧ N ≤ 12) ∧ IsDist l N.toNat f s d) := Lib.hid fun hp => by
    by_cases e : okP N s = true
    · exact ⟨(of_decide_eq_true e : (1 ≤ N ∧ N ≤ 12) ∧ 0 ≤ (s : Int) ∧ (s : Int) ≤ N - 1).1, hdist e⟩
    · rw [HDD.out] at hp; unfold distA at hp; rw [if_neg e] at hp; simp at hp
  have hdl : d.length ≤ 12 := by
    by_cases hp : 0 < d.length
    · have h1 := HDI.out hp
      have h2 := h1.2.len
      omega
    · omega
  have HND : Hid (nextA l N f s = nextL l f s d) := Lib.hid (by unfold nextA; rw [← HDD.out])
  have B3 := Lib.hid (B2.out.trans (b3.mono B2.out.size)); have S3 := Lib.hid (S2.out.on b3); have SD3 := Lib.hid (SD2.out.on b3)
  clear o3 b3 hdist
  go_wp2_with fail
  refine (inext w3 _ A1 n1 c1 l S3.out (Nat.le_refl _) hn1' N f s HJ.out).mono ?_
  rintro e w4 ⟨An, nn, cn, rfl, o4, b4⟩
  obtain ⟨nx, hnx⟩ : ∃ d, d = nextA l N f s := ⟨_, rfl⟩
  rw [← hnx] at o4
  have HNX : Hid (nx = nextL l f s d) := Lib.hid (by rw [hnx, HND.out])
  have hnl : nx.length = d.length := by rw [HNX.out, nextL_len]
  have hnn : nn = d.length := by have h1 := o4.len; rw [iv_len] at h1; omega
  subst hnn
  have hcn := o4.capm
  have HLP : Hid (loopB nx = false) := Lib.hid (by
    rw [HNX.out]
    by_cases hp : 0 < d.length
    · exact (HDI.out hp).2.no_loop
    · have : d = [] := List.eq_nil_of_length_eq_zero (by omega)
      rw [this]; rfl)
  have HNL := Lib.hid hnl
  have B4 := Lib.hid (B3.out.trans (b4.mono B3.out.size)); have S4 := Lib.hid (S3.out.on b4); have SD4 := Lib.hid (SD3.out.on b4); have SN4 := Lib.hid o4.sl
  clear o4 b4 hnx hnl
  go_wp2_with fail
  refine (iloop w4 _ An d.length cn nx SN4.out (Nat.le_refl _) (by omega) false HLP.out).mono ?_
  rintro e w5 ⟨rfl, b5⟩
  have B5 := Lib.hid (B4.out.trans (b5.mono B4.out.size)); have S5 := Lib.hid (S4.out.on b5); have SD5 := Lib.hid (SD4.out.on b5); have SN5 := Lib.hid (SN4.out.on b5)
  clear b5
  go_wp2_with fail
  refine (icount w5 _ Ad d.length cd d SD5.out (Nat.le_refl _) (by omega)).mono ?_
  rintro e w6 ⟨rfl, b6⟩
  have B6 := Lib.hid (B5.out.trans (b6.mono B5.out.size))
  obtain ⟨ct, hct⟩ : ∃ z, z = cntL d := ⟨_, rfl⟩
  have hctl : (ct : Int) ≤ (d.length : Int) := by rw [hct]; have := cntL_le d; omega
  have hct2 : decide (d.length < ct) = false := decide_eq_false (by omega)
  have hct3 : decide ((d.length : Int) < (ct : Int)) = false := decide_eq_false (by omega)
  rw [← hct]
  obtain ⟨QQ, hQ⟩ : ∃ QQ : World → Prop, ∀ wr, QQ wr ↔ Below w6.heap.size w6 wr := ⟨_, fun _ => Iff.rfl⟩
  have HQ0 : Hid (QQ w6) := Lib.hid ((hQ _).2 (Below.refl _ _))
  have HQ1 : Hid (∀ wr wr', QQ wr → Below wr.heap.size wr wr' → QQ wr') := Lib.hid fun wr wr' h h' => (hQ _).2 (((hQ _).1 h).trans (h'.mono ((hQ _).1 h).size))
  obtain ⟨D6, hD6⟩ : ∃ d, d = w6.heap.size := ⟨_, rfl⟩
  have HC : Hid (∀ wr, QQ wr → Sl wr D6 2 A1 n1 c1 (sv l) ∧ Sl wr D6 1 Ad d.length cd (iv d) ∧ Sl wr D6 1 An d.length cn (iv nx) ∧ D6 ≤ wr.heap.size ∧ Below w.heap.size w wr) := Lib.hid fun wr h => by
    have hb := (hQ _).1 h
    rw [hD6]
    exact ⟨(S5.out.on b6).below hb (Nat.le_refl _), (SD5.out.on b6).below hb (Nat.le_refl _), (SN5.out.on b6).below hb (Nat.le_refl _), hb.size, B6.out.trans (hb.mono B6.out.size)⟩
  clear hct b6 hQ hD6 B1 B2 B3 B4 B5 B6 S1 S2 S3 S4 S5 SD2 SD3 SD4 SD5 SN4 SN5 HND HLP
  go_wp2_with fail
  go_loopw [2, 9, 10, 11, 12, 13, 14] (fun _ iv_ _ _ _ _ _ wr => ∃ i : Nat, i ≤ d.length ∧ iv_ = .int .i64 i ∧ QQ wr) (fun _ iv_ _ _ _ _ _ _ => d.length - (intOf iv_).toNat)
  case atStart => exact ⟨0, Nat.zero_le _, rfl, HQ0.out⟩
  case round =>
    clear HQ0
    obtain ⟨i, hi, rfl, hq⟩ := hrel
    have HQ := Lib.hid hq
    clear hq
    have hi00 : (0 : Int) ≤ (i : Int) := by omega
    by_cases hlt : i < d.length
    case neg =>
      obtain rfl : i = d.length := by omega
      have HF := Lib.hid (HC.out _ HQ.out).2.2.2.2
      go_wp2_with fail
      go_ret
      exact ⟨rfl, HF.out⟩
    case pos =>
      have hil : (i : Int) < (d.length : Int) := by omega
      obtain ⟨hok, hdi⟩ := HDI.out (by omega)
      have HDD2 := Lib.hid hdi
      have hNd : (d.length : Int) = N := by have := hdi.len; omega
      have HNd := Lib.hid hNd
      have hdN : N.toNat = d.length := by omega
      rw [hdN] at HDD2
      have hpath := HDD2.out.path (by omega) i
      rw [← HNX.out] at hpath
      clear hok hdi hNd hdN
      obtain ⟨ad, hx, rfl, had, q0⟩ := (HC.out _ HQ.out).2.1.int hlt
      rw [← atD_nat d i hlt] at q0
      obtain ⟨va, hva⟩ : ∃ v, v = atD d i := ⟨_, rfl⟩
      have hvb : -1 ≤ va ∧ va ≤ 12 := by
        rw [hva]
        have h1 := HDD2.out.low i
        by_cases h2 : 0 ≤ atD d i
        · have h3 := HDD2.out.lt i h2
          omega
        · omega
      rw [← hva] at q0 hpath
      have HVA := Lib.hid hva
      have hva0 := hvb.1; have hva1 := hvb.2
      clear hva hvb had
      have HAD : Hid (∀ wr, QQ wr → wr.cell? (ad.add i) = some (.int .i64 va)) := Lib.hid fun wr h => by
        obtain ⟨ad', hx', e, _, q⟩ := (HC.out _ h).2.1.int hlt
        injection e with e
        rw [e, q, ← atD_nat d i hlt, HVA.out]
      clear q0
      go_wp2_with fail
      refine (ipath wr D6 An d.length cn nx (HC.out _ HQ.out).2.2.1 (HC.out _ HQ.out).2.2.2.1 (by omega) i s).mono ?_
      rintro e w7 ⟨Ap, np, cp, rfl, o7, b7⟩
      obtain ⟨p, hp⟩ : ∃ p, p = pathL nx i s := ⟨_, rfl⟩
      rw [← hp] at o7 hpath
      have hnp : np = p.length := by have h1 := o7.len; rw [iv_len] at h1; omega
      subst hnp
      have HPL := Lib.hid hpath.1; have HPR := Lib.hid hpath.2
      have hcp := o7.capm
      have hpl : p.length ≤ 13 := by have := hpath.1; omega
      have HQ7 := Lib.hid (HQ1.out _ _ HQ.out b7); have SP := Lib.hid o7.sl
      have hne : ((p.length : Int) != va + 1) = false := by have := hpath.1; simp; omega
      have q0 := HAD.out _ HQ7.out
      clear hp hpath o7 b7 HQ
      go_wp2_with fail
      go_loop [11] (fun kv => ∃ k : Nat, 1 ≤ k ∧ k ≤ 14 ∧ kv = .int .i64 k) (fun kv => 14 - (intOf kv).toNat)
      case atStart => exact ⟨1, by omega, by omega, rfl⟩
      case round =>
        obtain ⟨k, hk1, hk2, rfl⟩ := hrel
        have hk0 : (0 : Int) ≤ (k : Int) := by omega
        by_cases hkl : k + 1 < p.length
        case pos =>
          have hkl1 : (k : Int) < (p.length : Int) - 1 := by omega
          have hkl2 : (k : Int) < (p.length : Int) := by omega
          obtain ⟨x, hxe, hxf⟩ := HPR.out k hk1 hkl
          obtain ⟨pd, hx3, rfl, hpd, q1⟩ := SP.out.int (show k < p.length by omega)
          have hxe2 : p[k] = x := by rw [List.getElem?_eq_getElem (show k < p.length by omega)] at hxe; injection hxe
          rw [hxe2] at q1
          have hfd : decide (f ≤ x) = false := decide_eq_false (by omega)
          clear hxe hxe2 hpd
          go_wp2_with fail
          go_round
          case rel => exact ⟨k + 1, by omega, by omega, by go_num⟩
          case measure => simp [intOf]; omega
        case neg =>
          have hkl1 : ¬ ((k : Int) < (p.length : Int) - 1) := by omega
          have hkl3 : decide ((k : Int) < (p.length : Int) - 1) = false := decide_eq_false hkl1
          go_wp2_with fail
          refine (inb w7 D6 A1 n1 c1 l (HC.out _ HQ7.out).1 (HC.out _ HQ7.out).2.2.2.1 hn1' i).mono ?_
          rintro e w8 ⟨Ae, ne, ce, rfl, o8, b8⟩
          obtain ⟨NB, hNB⟩ : ∃ L, L = nbL l i := ⟨_, rfl⟩
          rw [← hNB] at o8
          have hnn : ne = NB.length := by have h1 := o8.len; rw [iv_len] at h1; omega
          subst hnn
          have HNB := Lib.hid hNB
          have hce := o8.capm
          have HQ8 := Lib.hid (HQ1.out _ _ HQ7.out b8)
          have HSN : Hid (∀ wr, Below w8.heap.size w8 wr → Sl wr w8.heap.size 1 Ae NB.length ce (iv NB)) := Lib.hid fun wr hb => o8.sl.below hb (Nat.le_refl _)
          clear hNB o8 b8
          go_wp2_with fail
          go_loopw [13, 14] (fun jv _ wx => ∃ j : Nat, j ≤ NB.length ∧ jv = .int .i64 j ∧ Below w8.heap.size w8 wx) (fun jv _ _ => NB.length - (intOf jv).toNat)
          case atStart => exact ⟨0, Nat.zero_le _, rfl, Below.refl _ _⟩
          case round =>
            obtain ⟨j, hj, rfl, hbx⟩ := hrel
            have HBX := Lib.hid hbx
            clear hbx
            have hj0 : (0 : Int) ≤ (j : Int) := by omega
            by_cases hjl : j < NB.length
            case neg =>
              obtain rfl : j = NB.length := by omega
              have HQ9 := Lib.hid (HQ1.out _ _ HQ8.out HBX.out)
              go_wp2_with fail
              go_roundw
              case rel => exact ⟨i + 1, by omega, by go_num, HQ9.out⟩
              case measure => simp [intOf]; omega
            case pos =>
              have hjl' : (j : Int) < (NB.length : Int) := by omega
              have HQ9 := Lib.hid (HQ1.out _ _ HQ8.out HBX.out)
              obtain ⟨na, hx2, rfl, had2, q1⟩ := (HSN.out _ HBX.out).int hjl
              have HXM : Hid (NB[j] ∈ nbL l i) := Lib.hid (by rw [← HNB.out]; exact List.getElem_mem hjl)
              obtain ⟨x, hxx⟩ : ∃ x, x = NB[j] := ⟨_, rfl⟩
              rw [← hxx] at q1 HXM
              have q0' := HAD.out _ HQ9.out
              clear hxx had2 q0
              by_cases hx0 : 0 ≤ x
              case neg =>
                have h1 : decide (0 ≤ x) = false := decide_eq_false hx0
                clear hx0
                go_upto_region 26 with fail
                go_quiet (fail)
                have HB2 := Lib.hid (below_drawnK HBX.out nq)
                go_wp2_with fail
                go_roundw
                case rel => exact ⟨j + 1, by omega, by go_num, HB2.out⟩
                case measure => simp [intOf]; omega
              case pos =>
                by_cases hxd : x < (d.length : Int)
                case neg =>
                  have h1 : decide (x < (d.length : Int)) = false := decide_eq_false hxd
                  clear hxd
                  go_upto_region 26 with fail
                  go_quiet (fail)
                  have HB2 := Lib.hid (below_drawnK HBX.out nq)
                  go_wp2_with fail
                  go_roundw
                  case rel => exact ⟨j + 1, by omega, by go_num, HB2.out⟩
                  case measure => simp [intOf]; omega
                case pos =>
                  obtain ⟨xi, rfl⟩ : ∃ xi : Nat, (xi : Int) = x := ⟨x.toNat, by omega⟩
                  have hxl : xi < d.length := by omega
                  obtain ⟨ad', hx3, ena, had3, q2⟩ := (HC.out _ HQ9.out).2.1.int hxl
                  injection ena with ena
                  subst ena
                  rw [← atD_nat d xi hxl] at q2
                  obtain ⟨vx, hvx⟩ : ∃ v, v = atD d xi := ⟨_, rfl⟩
                  have hvxb : vx ≤ 12 := by
                    rw [hvx]
                    by_cases h2 : 0 ≤ atD d xi
                    · have h3 := HDD2.out.lt xi h2
                      omega
                    · omega
                  have hvxl : -1 ≤ vx := by rw [hvx]; exact HDD2.out.low xi
                  rw [← hvx] at q2
                  have HVX := Lib.hid hvx
                  clear hvx had3 hx3
                  by_cases hv0 : 0 ≤ vx
                  case neg =>
                    have h1 : decide (0 ≤ vx) = false := decide_eq_false hv0
                    clear hv0
                    go_upto_region 26 with fail
                    go_quiet (fail)
                    have HB2 := Lib.hid (below_drawnK HBX.out nq)
                    go_wp2_with fail
                    go_roundw
                    case rel => exact ⟨j + 1, by omega, by go_num, HB2.out⟩
                    case measure => simp [intOf]; omega
                  case pos =>
                    have HED : Hid (Rel f s xi → 0 ≤ va ∧ va ≤ vx + 1) := Lib.hid fun hr => by
                      have h1 := HDD2.out.edge i xi hi00 hil (nb_sym l i xi HXM.out) (by rw [← HVX.out]; exact hv0) hr
                      rw [← HVA.out, ← HVX.out] at h1
                      exact h1
                    by_cases hf : (xi : Int) < f
                    case pos =>
                      obtain ⟨g1, g2⟩ := HED.out (.inl hf)
                      have h1 : decide (va < 0) = false := decide_eq_false (by omega)
                      have h2 : decide (vx + 1 < va) = false := decide_eq_false (by omega)
                      clear g1 g2
                      go_upto_region 26 with fail
                      go_quiet (fail)
                      have HB2 := Lib.hid (below_drawnK HBX.out nq)
                      go_wp2_with fail
                      go_roundw
                      case rel => exact ⟨j + 1, by omega, by go_num, HB2.out⟩
                      case measure => simp [intOf]; omega
                    case neg =>
                      by_cases hs : (xi : Int) = (s : Int)
                      case pos =>
                        obtain ⟨g1, g2⟩ := HED.out (.inr hs)
                        obtain rfl : s = xi := by omega
                        have h1 : decide (va < 0) = false := decide_eq_false (by omega)
                        have h2 : decide (vx + 1 < va) = false := decide_eq_false (by omega)
                        have h3 : decide ((s : Int) < f) = false := decide_eq_false hf
                        clear g1 g2 hf hs
                        go_upto_region 26 with fail
                        go_quiet (fail)
                        have HB2 := Lib.hid (below_drawnK HBX.out nq)
                        go_wp2_with fail
                        go_roundw
                        case rel => exact ⟨j + 1, by omega, by go_num, HB2.out⟩
                        case measure => simp [intOf]; omega
                      case neg =>
                        have h3 : decide ((xi : Int) < f) = false := decide_eq_false hf
                        have h4 : ((xi : Int) == (s : Int)) = false := by simpa using hs
                        clear hf hs
                        go_upto_region 26 with fail
                        go_quiet (fail)
                        have HB2 := Lib.hid (below_drawnK HBX.out nq)
                        go_wp2_with fail
                        go_roundw
                        case rel => exact ⟨j + 1, by omega, by go_num, HB2.out⟩
                        case measure => simp [intOf]; omega
end Go.Proofs.Ytclillkneadplaa
