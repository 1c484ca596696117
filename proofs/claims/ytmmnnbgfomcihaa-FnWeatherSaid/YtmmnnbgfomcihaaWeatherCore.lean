/- The walk of law FnWeather, for a code that is read. -/
import Derived.Test.YtmmnnbgfomcihaaCloud
import Derived.Test.YtmmnnbgfomcihaaContact
import Derived.Test.YtmmnnbgfomcihaaDrawCloud
import Derived.Test.YtmmnnbgfomcihaaBig
namespace Go.Proofs.Ytmmnnbgfomcihaa
open Go.ChangeShapes Go.WideShapes Go.ChangeAt Go.RowKit
set_option linter.unusedVariables false
set_option maxHeartbeats 4000000 in
set_option maxRecDepth 100000 in
theorem coreWeather (w : World) (A : Option Addr) (cap : Nat) (xs : List Value) (hB : Bytes xs) (hbig : xs.length ≤ 1048576) (hcap : xs.length ≤ cap) (hm0 : cap ≤ 9223372036854775807) (r0 : Reads w w.heap.size A xs) :
    Calls Try.prog 3 #[.slice A xs.length cap] w fun e w' => e = .returned (.bool true) ∧ Below w.heap.size w w' := by
  have R0 := Lib.hid r0; have HBY := Lib.hid hB; have HBIG := Lib.hid hbig; clear r0
  go_enter Try.func3, Try.ntmps3
  go_wp2_with fail
  refine (big_no _ _ _ _ hbig hm0 hcap).mono ?_
  rintro e w1 ⟨rfl, rfl⟩
  go_wp2_with fail
  refine (drawcutc _ _ _ _ hB hbig R0.out).mono ?_
  rintro e w1 ⟨⟨A1, n1, c1, l1, A2, n2, c2, l2, rfl, hn1, hn2, o1, o2, hj⟩, b1⟩
  have HJ := Lib.hid hj; clear hj
  have B1 := Lib.hid b1; have S1 := Lib.hid o1.sl; have S2 := Lib.hid o2.sl
  clear o1 o2 b1 hB hbig hcap hm0 R0
  go_wp2_with fail
  refine (icutc w1 _ _ A1 A2 n1 n2 c1 c2 l1 l2 S1.out S2.out (Nat.le_refl _) (Nat.le_refl _) (by omega) (by omega) HJ.out).mono ?_
  rintro e w2 ⟨A5, n5, c5, rfl, o5, b5⟩
  have B2 := Lib.hid b5; have S5 := Lib.hid o5.sl
  have HN5 : Hid (n5 = (cutP l2 l1).length) := Lib.hid (o5.sl.num c4_len (by omega))
  clear o5 b5
  go_wp2_with fail
  refine (scutc w2 _ _ A1 A2 n1 n2 c1 c2 l1 l2 (S1.out.below B2.out (Nat.le_refl _)) (S2.out.below B2.out (Nat.le_refl _)) B2.out.size B2.out.size (by omega) (by omega)).mono ?_
  rintro e w3 ⟨A6, n6, c6, rfl, o6, b6⟩
  obtain rfl : n6 = n5 := by rw [HN5.out]; exact o6.sl.num c4_len (by omega)
  have B3 := Lib.hid b6
  clear o6 b6
  obtain ⟨LC, hLC⟩ : ∃ L, L = cutP l2 l1 := ⟨_, rfl⟩
  rw [← hLC] at S5
  have HCAN : Hid (∀ (a b : Int) (k : Nat), canS LC a b k = (!covI l2 a k && !covI l2 b k && canS l1 a b k)) := Lib.hid fun a b k => by rw [hLC]; exact canS_cutP l2 l1 a b k
  have HOKC : Hid (PlanOk 4 l1 → PlanOk 4 LC) := Lib.hid fun h => by rw [hLC]; exact planOk_cut l2 h
  have HLOST : Hid (0 ≤ conTicks l1 - conTicks (cutP l2 l1)) := Lib.hid (by have := conTicks_cut l2 l1; omega)
  clear hLC
  obtain ⟨QQ, hQ⟩ : ∃ QQ : World → Prop, ∀ wr, QQ wr ↔ Below w3.heap.size w3 wr := ⟨_, fun _ => Iff.rfl⟩
  have HQ0 : Hid (QQ w3) := Lib.hid ((hQ _).2 (Below.refl _ _))
  have HQ1 : Hid (∀ wr wr', QQ wr → Below wr.heap.size wr wr' → QQ wr') := Lib.hid fun wr wr' h h' => (hQ _).2 (((hQ _).1 h).trans (h'.mono ((hQ _).1 h).size))
  obtain ⟨D1, hD1⟩ : ∃ d, d = w1.heap.size := ⟨_, rfl⟩
  obtain ⟨D2, hD2⟩ : ∃ d, d = w2.heap.size := ⟨_, rfl⟩
  have HC : Hid (∀ wr, QQ wr → (Sl wr D1 4 A1 n1 c1 (fl c4 l1) ∧ D1 ≤ wr.heap.size) ∧ (Sl wr D1 3 A2 n2 c2 (fl c3 l2) ∧ D1 ≤ wr.heap.size) ∧ (Sl wr D2 4 A5 n6 c5 (fl c4 LC) ∧ D2 ≤ wr.heap.size) ∧ Below w.heap.size w wr) := Lib.hid fun wr h => by
    have hb := (hQ _).1 h
    have h2 : Below w2.heap.size w2 wr := B3.out.trans (hb.mono B3.out.size)
    have h1 : Below w1.heap.size w1 wr := B2.out.trans (h2.mono B2.out.size)
    refine ⟨⟨?_, ?_⟩, ⟨?_, ?_⟩, ⟨?_, ?_⟩, B1.out.trans (h1.mono B1.out.size)⟩
    · rw [hD1]; exact S1.out.below h1 (Nat.le_refl _)
    · rw [hD1]; exact h1.size
    · rw [hD1]; exact S2.out.below h1 (Nat.le_refl _)
    · rw [hD1]; exact h1.size
    · rw [hD2]; exact S5.out.below h2 (Nat.le_refl _)
    · rw [hD2]; exact h2.size
  clear hQ hD1 hD2 B1 B2 B3 S1 S2 S5
  have hm1 : Hid (n1 ≤ 16777216) := Lib.hid (by omega)
  have hm2 : Hid (n2 ≤ 16777216) := Lib.hid (by omega)
  go_wp2_with fail
  go_loopw [6, 7, 8, 9] (fun iv _ _ _ wr => ∃ x : Nat, x ≤ 4 ∧ iv = .int .i64 x ∧ QQ wr) (fun iv _ _ _ _ => 4 - (intOf iv).toNat)
  case atStart => exact ⟨0, by omega, rfl, HQ0.out⟩
  case round =>
    clear HQ0
    obtain ⟨x, hx, rfl, hq⟩ := hrel
    have HQ := Lib.hid hq
    clear hq
    by_cases hx4 : x < 4
    case neg =>
      have hlo := HLOST.out
      obtain ⟨r, hr⟩ : ∃ r, conTicks l1 - conTicks (cutP l2 l1) = r := ⟨_, rfl⟩
      rw [hr] at hlo
      have HR := Lib.hid hr
      clear hr
      obtain ⟨v, hv⟩ : ∃ v, decide (PlanOk 4 l1) = v := ⟨_, rfl⟩
      have HV : Hid (v = true ↔ PlanOk 4 l1) := Lib.hid (by rw [← hv]; exact decide_eq_true_iff)
      clear hv
      go_wp2_with fail
      refine (ilost wr _ _ A1 A2 n1 n2 c1 c2 l1 l2 (HC.out _ HQ.out).1.1 (HC.out _ HQ.out).2.1.1 (HC.out _ HQ.out).1.2 (HC.out _ HQ.out).2.1.2 hm1.out hm2.out HJ.out r HR.out).mono ?_
      rintro e wa ⟨rfl, ba⟩
      have HQa := Lib.hid (HQ1.out _ _ HQ.out ba)
      clear ba
      go_wp2_with fail
      refine (iisplan wa D1 A1 n1 c1 l1 (HC.out _ HQa.out).1.1 (HC.out _ HQa.out).1.2 4 v HV.out).mono ?_
      rintro e wb ⟨rfl, bb⟩
      have HQb := Lib.hid (HQ1.out _ _ HQa.out bb)
      clear bb
      cases v
      case false =>
        have HF := Lib.hid (HC.out _ HQb.out).2.2.2
        go_wp2_with fail
        go_ret
        exact ⟨rfl, HF.out⟩
      case true =>
        have HP := Lib.hid (HV.out.1 (by simp))
        go_wp2_with fail
        refine (iisplan wb D2 A5 n6 c5 LC (HC.out _ HQb.out).2.2.1.1 (HC.out _ HQb.out).2.2.1.2 4 true ⟨fun _ => HOKC.out HP.out, fun _ => rfl⟩).mono ?_
        rintro e wd ⟨rfl, bd⟩
        have HF := Lib.hid (HC.out _ (HQ1.out _ _ HQb.out bd)).2.2.2
        clear bd
        go_wp2_with fail
        go_ret
        exact ⟨rfl, HF.out⟩
    case pos =>
      have hxle : (x : Int) < 4 := by omega
      go_wp2_with fail
      go_loopw [7, 8, 9] (fun iv _ _ wr => ∃ y : Nat, y ≤ 4 ∧ iv = .int .i64 y ∧ QQ wr) (fun iv _ _ _ => 4 - (intOf iv).toNat)
      case atStart => exact ⟨x + 1, by omega, by go_num, HQ.out⟩
      case round =>
        clear HQ
        obtain ⟨y, hy, rfl, hq⟩ := hrel
        have HQ := Lib.hid hq
        clear hq
        by_cases hy4 : y < 4
        case neg =>
          go_wp2_with fail
          go_roundw
          case rel => exact ⟨x + 1, by omega, by go_num, HQ.out⟩
          case measure => simp [intOf]; omega
        case pos =>
          have hyle : (y : Int) < 4 := by omega
          go_wp2_with fail
          go_loopw [8, 9] (fun iv _ wr => ∃ u : Nat, u ≤ 25 ∧ iv = .int .i64 u ∧ QQ wr) (fun iv _ _ => 25 - (intOf iv).toNat)
          case atStart => exact ⟨0, by omega, rfl, HQ.out⟩
          case round =>
            clear HQ
            obtain ⟨u, hu, rfl, hq⟩ := hrel
            have HQ := Lib.hid hq
            clear hq
            by_cases hu4 : u < 25
            case neg =>
              go_wp2_with fail
              go_roundw
              case rel => exact ⟨y + 1, by omega, by go_num, HQ.out⟩
              case measure => simp [intOf]; omega
            case pos =>
              have hule : (u : Int) ≤ 24 := by omega
              obtain ⟨v1, hv1⟩ : ∃ v, covI l2 (x : Int) (u : Int) = v := ⟨_, rfl⟩
              obtain ⟨v2, hv2⟩ : ∃ v, covI l2 (y : Int) (u : Int) = v := ⟨_, rfl⟩
              obtain ⟨v3, hv3⟩ : ∃ v, canS l1 (x : Int) (y : Int) (u : Int) = v := ⟨_, rfl⟩
              have HV4 : Hid (canS LC (x : Int) (y : Int) (u : Int) = (!v1 && !v2 && v3)) := Lib.hid (by rw [HCAN.out, hv1, hv2, hv3])
              have HV1 := Lib.hid hv1; have HV2 := Lib.hid hv2; have HV3 := Lib.hid hv3
              clear hv1 hv2 hv3
              go_wp2_with fail
              refine (icovered wr D1 A2 n2 c2 l2 (HC.out _ HQ.out).2.1.1 (HC.out _ HQ.out).2.1.2 hm2.out (x : Int) (u : Int) v1 HV1.out).mono ?_
              rintro e wa ⟨rfl, ba⟩
              have HQa := Lib.hid (HQ1.out _ _ HQ.out ba)
              clear ba
              cases v1
              case true =>
                go_wp2_with fail
                refine (icanspeak wa D2 A5 n6 c5 LC (HC.out _ HQa.out).2.2.1.1 (HC.out _ HQa.out).2.2.1.2 (x : Int) (y : Int) (u : Int) false (HV4.out.trans (by simp))).mono ?_
                rintro e wb ⟨rfl, bb⟩
                have HQb := Lib.hid (HQ1.out _ _ HQa.out bb)
                clear bb
                go_wp2_with fail
                go_roundw
                case rel => exact ⟨u + 1, by omega, by go_num, HQb.out⟩
                case measure => simp [intOf]; omega
              case false =>
                go_wp2_with fail
                refine (icovered wa D1 A2 n2 c2 l2 (HC.out _ HQa.out).2.1.1 (HC.out _ HQa.out).2.1.2 hm2.out (y : Int) (u : Int) v2 HV2.out).mono ?_
                rintro e wb ⟨rfl, bb⟩
                have HQb := Lib.hid (HQ1.out _ _ HQa.out bb)
                clear bb
                cases v2
                case true =>
                  go_wp2_with fail
                  refine (icanspeak wb D2 A5 n6 c5 LC (HC.out _ HQb.out).2.2.1.1 (HC.out _ HQb.out).2.2.1.2 (x : Int) (y : Int) (u : Int) false (HV4.out.trans (by simp))).mono ?_
                  rintro e wd ⟨rfl, bd⟩
                  have HQd := Lib.hid (HQ1.out _ _ HQb.out bd)
                  clear bd
                  go_wp2_with fail
                  go_roundw
                  case rel => exact ⟨u + 1, by omega, by go_num, HQd.out⟩
                  case measure => simp [intOf]; omega
                case false =>
                  go_wp2_with fail
                  refine (icanspeak wb D2 A5 n6 c5 LC (HC.out _ HQb.out).2.2.1.1 (HC.out _ HQb.out).2.2.1.2 (x : Int) (y : Int) (u : Int) v3 (HV4.out.trans (by simp))).mono ?_
                  rintro e wd ⟨rfl, bd⟩
                  have HQd := Lib.hid (HQ1.out _ _ HQb.out bd)
                  clear bd
                  go_wp2_with fail
                  refine (icanspeak wd D1 A1 n1 c1 l1 (HC.out _ HQd.out).1.1 (HC.out _ HQd.out).1.2 (x : Int) (y : Int) (u : Int) v3 HV3.out).mono ?_
                  rintro e we ⟨rfl, be⟩
                  have HQe := Lib.hid (HQ1.out _ _ HQd.out be)
                  clear be
                  cases v3
                  all_goals
                    go_wp2_with fail
                    go_roundw
                    case rel => exact ⟨u + 1, by omega, by go_num, HQe.out⟩
                    case measure => simp [intOf]; omega
end Go.Proofs.Ytmmnnbgfomcihaa
