/- The walk of law FnAngles, for a code that is read, where the program's two sentinels lie. -/
import Derived.Test.YteingcdjoepeiaaDoorDrawArcs2
import Derived.Test.YteingcdjoepeiaaDoorArcFacts
import Derived.Test.YteingcdjoepeiaaDoorBig
import Derived.Deep.DeepCutAuto
import Derived.Deep.CutRange
namespace Go.Proofs.YteingcdjoepeiaaDoor
open Go.ChangeShapes Go.WideShapes Go.ChangeAt Go.RowKit
set_option linter.unusedVariables false
set_option maxHeartbeats 3200000 in
set_option maxRecDepth 100000 in
theorem coreAng (w : World) (A : Option Addr) (cap : Nat) (xs : List Value) (hB : Bytes xs) (hbig : xs.length ≤ 1048576) (hcap : xs.length ≤ cap) (hm0 : cap ≤ 9223372036854775807) (r0 : Reads w w.heap.size A xs) (nA tW : Addr) (e0 : Errs w nA tW) :
    Calls Tryd.prog 3 #[.slice A xs.length cap] w fun e w' => e = .returned (.bool true) ∧ Below w.heap.size w w' := by
  have R0 := Lib.hid r0; have E0 := Lib.hid e0; clear r0 e0
  go_enter Tryd.func3, Tryd.ntmps3
  go_wp2_with fail
  refine (big_no _ _ _ _ hbig hm0 hcap).mono ?_
  rintro e w1 ⟨rfl, rfl⟩
  go_wp2_with fail
  refine (drawGap _ _ _ _ hB hbig R0.out).mono ?_
  rintro e w1 ⟨⟨a, b, rfl⟩, b1⟩
  have TB := Lib.hid b1; clear b1
  obtain ⟨g, hg⟩ : ∃ g, gapf a b = g := ⟨_, rfl⟩
  have HG := Lib.hid hg
  have HG2 : Hid (gapf b a = g) := Lib.hid (by rw [gap_sym]; exact hg)
  have g0 : 0 ≤ g ∧ g ≤ 180 := by rw [← hg]; exact gap_bd a b
  have hz0 : g = 0 ↔ ang a = ang b := by rw [← hg]; exact gap_zero a b
  clear hg
  go_wp2_with fail
  refine (igapOf a b _).mono ?_
  rintro e w2 ⟨rfl, b2⟩
  rw [HG.out]
  replace TB := Lib.hid (TB.out.trans (b2.mono TB.out.size)); clear b2
  obtain ⟨p, hp⟩ : ∃ p, ang a = p := ⟨_, rfl⟩
  obtain ⟨q, hq⟩ : ∃ q, ang b = q := ⟨_, rfl⟩
  rw [hp, hq] at hz0
  have HP := Lib.hid hp; have HQ' := Lib.hid hq; have HZ := Lib.hid hz0
  clear hp hq hz0
  go_upto_region 5 with fail
  go_cut [46] from 24 to 46 (fun c wx => c = .bool false ∧ Below w.heap.size w wx)
  case first =>
    obtain ⟨g1, g2⟩ := g0
    go_wp2_with fail
    refine (igapOf b a _).mono ?_
    rintro e w3 ⟨rfl, b3⟩
    rw [HG2.out]
    replace TB := Lib.hid (TB.out.trans (b3.mono TB.out.size)); clear b3
    by_cases hz : g = 0
    · obtain rfl : p = q := HZ.out.1 hz
      subst hz
      go_wp2_with fail
      refine (iang a _).mono ?_
      rintro e w4 ⟨rfl, rfl⟩
      rw [HP.out]
      go_wp2_with fail
      refine (iang b _).mono ?_
      rintro e w4 ⟨rfl, rfl⟩
      rw [HQ'.out]
      go_wp2_with fail
      go_meet
      exact ⟨rfl, TB.out⟩
    · have hpq : (p == q) = false := by simp; intro h; exact hz (HZ.out.2 h)
      have hg0 : (g == 0) = false := by simpa using hz
      go_wp2_with fail
      refine (iang a _).mono ?_
      rintro e w4 ⟨rfl, rfl⟩
      rw [HP.out]
      go_wp2_with fail
      refine (iang b _).mono ?_
      rintro e w4 ⟨rfl, rfl⟩
      rw [HQ'.out]
      go_wp2_with fail
      go_meet
      exact ⟨by congr 1; simp; omega, TB.out⟩
  case rest =>
  obtain ⟨rfl, hb5⟩ := hcut
  replace TB := Lib.hid hb5
  clear hb5 HG HG2 g0 HP HQ' HZ
  go_wp2_with fail
  refine (drawWiden _ _ _ _ hB hbig ((R0.out.below TB.out (Nat.le_refl _)).more TB.out.size)).mono ?_
  rintro e w3 ⟨⟨x, wd, d, rfl⟩, b3⟩
  have t3 := TB.out.trans (b3.mono TB.out.size)
  have T4 := Lib.hid (t3.trans ((one_more w3 #[.int .i64 x, .int .i64 wd] 29).mono t3.size))
  have X4 := Lib.hid (Blk.new w3 29 #[.int .i64 x, .int .i64 wd])
  have c0 : (w3.alloc (.cells #[.int .i64 x, .int .i64 wd] 29)).cell? ⟨w3.heap.size, 0, none⟩ = some (.int .i64 x) := X4.out.cell 0
  have c1 : (w3.alloc (.cells #[.int .i64 x, .int .i64 wd] 29)).cell? ⟨w3.heap.size, 1, none⟩ = some (.int .i64 wd) := X4.out.cell 1
  obtain ⟨x', hx⟩ : ∃ x', widS x wd d = x' := ⟨_, rfl⟩
  obtain ⟨wd', hy⟩ : ∃ y, widW wd d = y := ⟨_, rfl⟩
  have HX := Lib.hid hx; have HY := Lib.hid hy
  clear b3 t3 TB hx hy
  go_wp2_with fail
  refine (iwiden _ nA tW (E0.out.below T4.out) x wd d x' wd' HX.out HY.out).mono ?_
  rintro e w4 ⟨rfl, b4⟩
  have t4 := T4.out.trans (b4.mono T4.out.size)
  have T5 := Lib.hid (t4.trans ((one_more w4 #[.int .i64 x', .int .i64 wd'] 29).mono t4.size))
  have X5 := Lib.hid ((X4.out.below b4 X4.out.lt).alloc (.cells #[.int .i64 x', .int .i64 wd'] 29))
  have Y5 := Lib.hid (Blk.new w4 29 #[.int .i64 x', .int .i64 wd'])
  clear b4 t4 T4 X4 c0 c1
  go_wp2_with fail
  refine (drawMeetA _ _ _ _ hB hbig ((R0.out.below T5.out (Nat.le_refl _)).more T5.out.size)).mono ?_
  rintro e w5 ⟨⟨s, sw, t, tw, rfl⟩, b5⟩
  obtain ⟨WL, hW⟩ : ∃ W, W = (w5.alloc (.cells #[.int .i64 s, .int .i64 sw] 29)).alloc (.cells #[.int .i64 t, .int .i64 tw] 29) := ⟨_, rfl⟩
  have T6 := T5.out.trans (b5.mono T5.out.size)
  have T7 : Below w.heap.size w WL := by rw [hW]; exact (T6.alloc T6.size _).alloc (by have := T6.size; simp; omega) _
  have X7 : Blk WL w3.heap.size 29 #[.int .i64 x, .int .i64 wd] := by rw [hW]; exact ((X5.out.below b5 X5.out.lt).alloc _).alloc _
  have Y7 : Blk WL w4.heap.size 29 #[.int .i64 x', .int .i64 wd'] := by rw [hW]; exact ((Y5.out.below b5 Y5.out.lt).alloc _).alloc _
  have U7 : Blk WL w5.heap.size 29 #[.int .i64 s, .int .i64 sw] := by rw [hW]; exact (Blk.new _ _ _).alloc _
  have V7 : Blk WL (w5.heap.size + 1) 29 #[.int .i64 t, .int .i64 tw] := by
    rw [hW]
    have h := Blk.new (w5.alloc (.cells #[.int .i64 s, .int .i64 sw] 29)) 29 #[.int .i64 t, .int .i64 tw]
    simpa using h
  obtain ⟨Q, hQ⟩ : ∃ Q : World → Prop, ∀ wr, Q wr ↔ Below WL.heap.size WL wr := ⟨_, fun _ => Iff.rfl⟩
  have HQ : Hid (Q WL) := Lib.hid ((hQ _).2 (Below.refl _ _))
  have HQ1 : Hid (∀ wr wr', Q wr → Below wr.heap.size wr wr' → Q wr') := Lib.hid fun wr wr' h h' => (hQ _).2 (((hQ _).1 h).trans (h'.mono ((hQ _).1 h).size))
  have HC : Hid (∀ wr, Q wr → (wr.cell? ⟨w3.heap.size, 0, none⟩ = some (.int .i64 x) ∧ wr.cell? ⟨w3.heap.size, 1, none⟩ = some (.int .i64 wd) ∧ wr.cell? ⟨w4.heap.size, 0, none⟩ = some (.int .i64 x') ∧ wr.cell? ⟨w4.heap.size, 1, none⟩ = some (.int .i64 wd') ∧
      wr.cell? ⟨w5.heap.size, 0, none⟩ = some (.int .i64 s) ∧ wr.cell? ⟨w5.heap.size, 1, none⟩ = some (.int .i64 sw) ∧ wr.cell? ⟨w5.heap.size + 1, 0, none⟩ = some (.int .i64 t) ∧ wr.cell? ⟨w5.heap.size + 1, 1, none⟩ = some (.int .i64 tw)) ∧
      Below w.heap.size w wr ∧ Errs wr nA tW) := Lib.hid fun wr h => by
    have hb := (hQ _).1 h
    have k1 := X7.below hb X7.lt; have k2 := Y7.below hb Y7.lt; have k3 := U7.below hb U7.lt; have k4 := V7.below hb V7.lt
    exact ⟨⟨k1.cell 0, k1.cell 1, k2.cell 0, k2.cell 1, k3.cell 0, k3.cell 1, k4.cell 0, k4.cell 1⟩, T7.trans (hb.mono T7.size), (E0.out.below T7).below hb⟩
  rw [hW] at HQ
  clear hQ X7 Y7 U7 V7 T6 T7 b5 T5 X5 Y5 hW WL R0 E0 hB hbig hcap hm0
  go_wp2_with fail
  go_loopw [11, 12] (fun sm i wr => ∃ k : Nat, k ≤ 360 ∧ i = .int .i64 k ∧ sm = .bool (someA s sw t tw k) ∧ Q wr) (fun _ i _ => 360 - (intOf i).toNat)
  case atStart => exact ⟨0, Nat.zero_le _, rfl, rfl, HQ.out⟩
  case round =>
    clear HQ
    obtain ⟨k, hk, rfl, rfl, hq⟩ := hrel
    have HQ := Lib.hid hq; clear hq
    obtain ⟨sm, hsm⟩ : ∃ sm, someA s sw t tw k = sm := ⟨_, rfl⟩
    rw [hsm]
    obtain ⟨c0, c1, c2, c3, c4, c5, c6, c7⟩ := (HC.out _ HQ.out).1
    by_cases hlt : k < 360
    · obtain ⟨v1, hv1⟩ : ∃ v, inA s sw (k : Int) = v := ⟨_, rfl⟩
      obtain ⟨v2, hv2⟩ : ∃ v, inA t tw (k : Int) = v := ⟨_, rfl⟩
      have HS1 : Hid (someA s sw t tw (k + 1) = (sm || (v1 && v2))) := Lib.hid (by rw [someA_succ, hsm, hv1, hv2])
      have HV1 := Lib.hid hv1; have HV2 := Lib.hid hv2
      clear hv1 hv2 hsm
      go_upto_region 14 with fail
      go_cut [11] from 60 to 116 (fun v wx => v = .bool (someA s sw t tw (k + 1)) ∧ Q wx)
      case first =>
        cases sm
        · go_wp2_with fail
          refine (iinarc _ nA tW (HC.out _ HQ.out).2.2 s sw k v1 HV1.out).mono ?_
          rintro e w7 ⟨rfl, b7⟩
          replace HQ := Lib.hid (HQ1.out _ _ HQ.out b7)
          clear b7 c0 c1 c2 c3 c4 c5 c6 c7
          obtain ⟨c0, c1, c2, c3, c4, c5, c6, c7⟩ := (HC.out _ HQ.out).1
          cases v1
          · go_wp2_with fail
            go_meet
            exact ⟨by rw [HS1.out]; rfl, HQ.out⟩
          · go_wp2_with fail
            refine (iinarc _ nA tW (HC.out _ HQ.out).2.2 t tw k v2 HV2.out).mono ?_
            rintro e w8 ⟨rfl, b8⟩
            replace HQ := Lib.hid (HQ1.out _ _ HQ.out b8)
            clear b8 c0 c1 c2 c3 c4 c5 c6 c7
            go_wp2_with fail
            go_meet
            exact ⟨by rw [HS1.out]; rfl, HQ.out⟩
        · go_wp2_with fail
          go_meet
          exact ⟨by rw [HS1.out]; rfl, HQ.out⟩
      case rest =>
      obtain ⟨rfl, hq⟩ := hcut
      replace HQ := Lib.hid hq
      clear hq HV1 HV2 HS1 c0 c1 c2 c3 c4 c5 c6 c7
      obtain ⟨c0, c1, c2, c3, c4, c5, c6, c7⟩ := (HC.out _ HQ.out).1
      obtain ⟨sm', hsm⟩ : ∃ v, someA s sw t tw (k + 1) = v := ⟨_, rfl⟩
      have HSM := Lib.hid hsm
      rw [hsm]
      clear hsm
      by_cases h1 : d < 0
      · go_wp2_with fail
        go_roundw
        case rel => exact ⟨k + 1, by omega, by go_num, by rw [HSM.out], HQ.out⟩
        case measure => simp [intOf]; omega
      by_cases h2 : 360 < d
      · go_wp2_with fail
        go_roundw
        case rel => exact ⟨k + 1, by omega, by go_num, by rw [HSM.out], HQ.out⟩
        case measure => simp [intOf]; omega
      by_cases h3 : wd < 0
      · go_wp2_with fail
        go_roundw
        case rel => exact ⟨k + 1, by omega, by go_num, by rw [HSM.out], HQ.out⟩
        case measure => simp [intOf]; omega
      by_cases h4 : 360 ≤ wd
      · go_wp2_with fail
        go_roundw
        case rel => exact ⟨k + 1, by omega, by go_num, by rw [HSM.out], HQ.out⟩
        case measure => simp [intOf]; omega
      have HK : Hid ((0 ≤ d ∧ d ≤ 360) ∧ 0 ≤ wd ∧ wd < 360) := Lib.hid (by omega)
      obtain ⟨v, hv⟩ : ∃ v, inA x wd (k : Int) = v := ⟨_, rfl⟩
      have HV := Lib.hid hv; clear hv
      go_wp2_with fail
      refine (iinarc _ nA tW (HC.out _ HQ.out).2.2 x wd k v HV.out).mono ?_
      rintro e w9 ⟨rfl, b9⟩
      replace HQ := Lib.hid (HQ1.out _ _ HQ.out b9)
      clear b9 c0 c1 c2 c3 c4 c5 c6 c7
      obtain ⟨c0, c1, c2, c3, c4, c5, c6, c7⟩ := (HC.out _ HQ.out).1
      cases v
      · go_wp2_with fail
        go_roundw
        case rel => exact ⟨k + 1, by omega, by go_num, by rw [HSM.out], HQ.out⟩
        case measure => simp [intOf]; omega
      · have HW : Hid (∀ u, (u = (k : Int) ∨ u = (k : Int) + d ∨ u = (k : Int) - d) → inA x' wd' u = true) := Lib.hid fun u hu => by rw [← HX.out, ← HY.out]; exact wid_has HK.out HV.out u hu
        go_wp2_with fail
        refine (iinarc _ nA tW (HC.out _ HQ.out).2.2 x' wd' k true (HW.out _ (Or.inl rfl))).mono ?_
        rintro e w10 ⟨rfl, b10⟩
        replace HQ := Lib.hid (HQ1.out _ _ HQ.out b10)
        clear b10 c0 c1 c2 c3 c4 c5 c6 c7
        obtain ⟨c0, c1, c2, c3, c4, c5, c6, c7⟩ := (HC.out _ HQ.out).1
        go_wp2_with fail
        refine (iinarc _ nA tW (HC.out _ HQ.out).2.2 x' wd' (k + d) true (HW.out _ (Or.inr (Or.inl rfl)))).mono ?_
        rintro e w11 ⟨rfl, b11⟩
        replace HQ := Lib.hid (HQ1.out _ _ HQ.out b11)
        clear b11 c0 c1 c2 c3 c4 c5 c6 c7
        obtain ⟨c0, c1, c2, c3, c4, c5, c6, c7⟩ := (HC.out _ HQ.out).1
        go_wp2_with fail
        refine (iinarc _ nA tW (HC.out _ HQ.out).2.2 x' wd' (k - d) true (HW.out _ (Or.inr (Or.inr rfl)))).mono ?_
        rintro e w12 ⟨rfl, b12⟩
        replace HQ := Lib.hid (HQ1.out _ _ HQ.out b12)
        clear b12 c0 c1 c2 c3 c4 c5 c6 c7
        go_wp2_with fail
        go_roundw
        case rel => exact ⟨k + 1, by omega, by go_num, by rw [HSM.out], HQ.out⟩
        case measure => simp [intOf]; omega
    · obtain rfl : k = 360 := by omega
      have HM : Hid (meetA s sw t tw = sm) := Lib.hid (by rw [← someA_meet]; exact hsm)
      obtain ⟨m, hm⟩ : ∃ m, midf x wd = m := ⟨_, rfl⟩
      have hm1 : 0 ≤ m ∧ m < 360 := by rw [← hm]; exact mid_bd x wd
      have HI : Hid (0 ≤ wd → inA x wd m = true) := Lib.hid fun h => by rw [← hm]; exact mid_in h
      have HMM := Lib.hid hm
      obtain ⟨m1, m2⟩ := hm1
      clear hm hsm hk hlt
      go_wp2_with fail
      refine (imiddle _ nA tW (HC.out _ HQ.out).2.2 x wd m HMM.out).mono ?_
      rintro e w13 ⟨rfl, b13⟩
      replace HQ := Lib.hid (HQ1.out _ _ HQ.out b13)
      clear b13 c0 c1 c2 c3 c4 c5 c6 c7
      obtain ⟨c0, c1, c2, c3, c4, c5, c6, c7⟩ := (HC.out _ HQ.out).1
      go_wp2_with fail
      refine (iameet _ nA tW (HC.out _ HQ.out).2.2 s sw t tw sm HM.out).mono ?_
      rintro e w14 ⟨rfl, b14⟩
      replace HQ := Lib.hid (HQ1.out _ _ HQ.out b14)
      clear b14 c0 c1 c2 c3 c4 c5 c6 c7
      obtain ⟨c0, c1, c2, c3, c4, c5, c6, c7⟩ := (HC.out _ HQ.out).1
      by_cases h3 : wd < 0
      · cases sm
        all_goals
          go_wp2_with fail
          go_ret
          exact ⟨rfl, (HC.out _ HQ.out).2.1⟩
      · have HT := Lib.hid (HI.out (by omega))
        cases sm
        all_goals
          go_wp2_with fail
          refine (iinarc _ nA tW (HC.out _ HQ.out).2.2 x wd m true HT.out).mono ?_
          rintro e w15 ⟨rfl, b15⟩
          replace HQ := Lib.hid (HQ1.out _ _ HQ.out b15)
          clear b15 c0 c1 c2 c3 c4 c5 c6 c7
          go_wp2_with fail
          go_ret
          exact ⟨rfl, (HC.out _ HQ.out).2.1⟩
end Go.Proofs.YteingcdjoepeiaaDoor
