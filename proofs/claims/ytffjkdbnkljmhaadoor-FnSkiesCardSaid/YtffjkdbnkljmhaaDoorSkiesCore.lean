/- The walk of law FnSkies, for a code that is read, where the program's two sentinels lie. -/
import Derived.Test.YtffjkdbnkljmhaaDoorDrawLim
import Derived.Test.YtffjkdbnkljmhaaDoorSkyFacts
import Derived.Test.YtffjkdbnkljmhaaDoorIsSky3
import Derived.Test.YtffjkdbnkljmhaaDoorBig
import Derived.Deep.DeepCutAuto
import Derived.Deep.CutRange
namespace Go.Proofs.YtffjkdbnkljmhaaDoor
open Go.ChangeShapes Go.WideShapes Go.ChangeAt Go.RowKit
set_option linter.unusedVariables false
set_option maxHeartbeats 3200000 in
set_option maxRecDepth 100000 in
theorem coreSky (w : World) (A : Option Addr) (cap : Nat) (xs : List Value) (hB : Bytes xs) (hbig : xs.length ≤ 1048576) (hcap : xs.length ≤ cap) (hm0 : cap ≤ 9223372036854775807) (r0 : Reads w w.heap.size A xs) (nA tW : Addr) (e0 : Errs w nA tW) :
    Calls Tryd.prog 3 #[.slice A xs.length cap] w fun e w' => e = .returned (.bool true) ∧ Below w.heap.size w w' := by
  have R0 := Lib.hid r0; have E0 := Lib.hid e0; clear r0 e0
  go_enter Tryd.func3, Tryd.ntmps3
  go_wp2_with fail
  refine (big_no _ _ _ _ hbig hm0 hcap).mono ?_
  rintro e w1 ⟨rfl, rfl⟩
  go_wp2_with fail
  refine (drawlim _ _ _ _ hB hbig R0.out).mono ?_
  rintro e w1 ⟨⟨P, R, X, V, U, D, Q, ns, ni, nz, ls, li, lz, As, cs, Ai, ci, Az, cz, a, b, rfl, hin, hn, hj, hk1, hk2, hab⟩, b1⟩
  obtain ⟨D0, hD0⟩ : ∃ d, d = w1.heap.size := ⟨_, rfl⟩
  obtain ⟨WL, hW⟩ : ∃ W, W = w1.alloc (.cells #[.int .i64 P, .slice As ns cs, .slice Ai ni ci, .int .i64 R, .int .i64 X, .int .i64 V, .int .i64 U, .int .i64 D, .slice Az nz cz, .int .i64 Q] 28) := ⟨_, rfl⟩
  have TL : Below w.heap.size w WL := by rw [hW]; exact b1.alloc b1.size _
  have IL : InSky WL (D0) As ns cs Ai ni ci Az nz cz ls li lz := by rw [hW, hD0]; exact hin.below ((Below.refl w1.heap.size w1).alloc (Nat.le_refl _) _) (Nat.le_refl _)
  have DL : D0 ≤ WL.heap.size := by rw [hW, hD0]; simp
  have ZL : Blk WL w1.heap.size 28 #[.int .i64 P, .slice As ns cs, .slice Ai ni ci, .int .i64 R, .int .i64 X, .int .i64 V, .int .i64 U, .int .i64 D, .slice Az nz cz, .int .i64 Q] := by rw [hW]; exact Blk.new _ _ _
  obtain ⟨G, hG⟩ : ∃ g, g = w1.heap.size := ⟨_, rfl⟩
  rw [← hG] at ZL
  obtain ⟨QQ, hQ⟩ : ∃ QQ : World → Prop, ∀ wr, QQ wr ↔ Below WL.heap.size WL wr := ⟨_, fun _ => Iff.rfl⟩
  have HQ : Hid (QQ WL) := Lib.hid ((hQ _).2 (Below.refl _ _))
  have HQ1 : Hid (∀ wr wr', QQ wr → Below wr.heap.size wr wr' → QQ wr') := Lib.hid fun wr wr' h h' => (hQ _).2 (((hQ _).1 h).trans (h'.mono ((hQ _).1 h).size))
  have HC : Hid (∀ wr, QQ wr → (wr.cell? ⟨G, 0, none⟩ = some (.int .i64 P) ∧ wr.cell? ⟨G, 1, none⟩ = some (.slice As ns cs) ∧ wr.cell? ⟨G, 2, none⟩ = some (.slice Ai ni ci) ∧ wr.cell? ⟨G, 3, none⟩ = some (.int .i64 R) ∧ wr.cell? ⟨G, 4, none⟩ = some (.int .i64 X) ∧ wr.cell? ⟨G, 5, none⟩ = some (.int .i64 V) ∧ wr.cell? ⟨G, 6, none⟩ = some (.int .i64 U) ∧ wr.cell? ⟨G, 7, none⟩ = some (.int .i64 D) ∧ wr.cell? ⟨G, 8, none⟩ = some (.slice Az nz cz) ∧ wr.cell? ⟨G, 9, none⟩ = some (.int .i64 Q)) ∧ Below w.heap.size w wr ∧ Errs wr nA tW ∧ InSky wr (D0) As ns cs Ai ni ci Az nz cz ls li lz ∧ D0 ≤ wr.heap.size) := Lib.hid fun wr h => by
    have hb := (hQ _).1 h
    exact ⟨(ZL.below hb ZL.lt).ten, TL.trans (hb.mono TL.size), (E0.out.below TL).below hb, IL.below hb DL, Nat.le_trans DL hb.size⟩
  have hns := IL.ns_; have hni := IL.ni_
  have HN := Lib.hid (And.intro hns hni)
  have hs : Hid (ns ≤ 16777216) := Lib.hid (by omega)
  have hi : Hid (ni ≤ 16777216) := Lib.hid (by omega)
  have HP := Lib.hid hj.1; have HK1 := Lib.hid hk1; have HK2 := Lib.hid hk2
  have Ha : Hid (J64 a) := Lib.hid (by unfold J64; omega)
  have Hb : Hid (J64 b) := Lib.hid (by unfold J64; omega)
  have Hn : Hid (ns ≤ 6 ∧ ni = 2) := Lib.hid ⟨hn.1, hn.2.1⟩
  obtain ⟨r, hr⟩ : ∃ r, limI P R X V ls li a b = r := ⟨_, rfl⟩
  obtain ⟨v1, hv1⟩ : ∃ v, siteAt ns ni a = v := ⟨_, rfl⟩
  obtain ⟨v2, hv2⟩ : ∃ v, siteAt ns ni b = v := ⟨_, rfl⟩
  obtain ⟨sk, hsk⟩ : ∃ v, skyOk P R X V U D Q ls li lz = v := ⟨_, rfl⟩
  have HR := Lib.hid hr; have HR2 : Hid (limI P R X V ls li b a = r) := Lib.hid (by rw [limI_comm]; exact hr)
  have HV1 := Lib.hid hv1; have HV2 := Lib.hid hv2; have HSK := Lib.hid hsk
  have HAB : Hid (a = b → r = -1) := Lib.hid fun h => by rw [← hr]; exact limI_self P R X V ls li a b h
  have HVV : Hid (v1 = true → v2 = true → r = -1) := Lib.hid fun h h' => by
    rw [← hr]; rw [hns, hni] at hv1 hv2; exact limI_sites P R X V ls li a b (hv1.trans h) (hv2.trans h')
  have HLE : Hid (sk = true → r ≤ 180) := Lib.hid fun h => by rw [← hr]; exact limI_le P R X V U D Q ls li lz a b (hsk.trans h)
  have HPO : Hid (∀ i : Int, sk = true → 0 ≤ i → i < ns + ni → ¬ planeOf ls li i = -1) := Lib.hid fun i h h0 h1 => plane_ok P R X V U D Q ls li lz i (hsk.trans h) h0 (by rw [← hns, ← hni]; exact h1)
  clear hr hv1 hv2 hsk hns hni hn hj hk1 hk2 hab hQ TL IL DL ZL b1 hin R0 E0 hB hbig hcap hm0
  have h3 : (a = b ∧ r = -1) ∨ (¬ a = b ∧ r = -1) ∨ (¬ a = b ∧ ¬ r = -1) := by
    by_cases hab : a = b
    · exact .inl ⟨hab, HAB.out hab⟩
    · by_cases hz : r = -1
      · exact .inr (.inl ⟨hab, hz⟩)
      · exact .inr (.inr ⟨hab, hz⟩)
  clear HAB
  rcases h3 with ⟨rfl, rfl⟩ | ⟨hab, rfl⟩ | ⟨hab, hz⟩
  all_goals
    try have hab' : (a == b) = false := by simpa using hab
    try have hz' : (r == -1) = false := by simpa using hz
    go_wp2_with fail
    rw [← hW, ← hG]
    clear hW hG hD0
    obtain ⟨c0, c1, c2, c3, c4, c5, c6, c7, c8, c9⟩ := (HC.out _ HQ.out).1
    go_wp2_with fail
    refine (ilimit _ P R X V U D Q ns ni nz ls li lz As cs Ai ci Az cz D0 (HC.out _ HQ.out).2.2.2.1 (HC.out _ HQ.out).2.2.2.2 hs.out hi.out HP.out HK1.out HK2.out _ _ Ha.out Hb.out _ HR.out).mono ?_
    rintro e w2 ⟨rfl, b2⟩
    replace HQ := Lib.hid (HQ1.out _ _ HQ.out b2)
    clear b2 c0 c1 c2 c3 c4 c5 c6 c7 c8 c9
    obtain ⟨c0, c1, c2, c3, c4, c5, c6, c7, c8, c9⟩ := (HC.out _ HQ.out).1
    go_upto_region 5 with fail
    go_cut [49] from 21 to 49 (fun c wx => c = .bool false ∧ QQ wx)
    case first =>
      go_wp2_with fail
      refine (ilimit _ P R X V U D Q ns ni nz ls li lz As cs Ai ci Az cz D0 (HC.out _ HQ.out).2.2.2.1 (HC.out _ HQ.out).2.2.2.2 hs.out hi.out HP.out HK1.out HK2.out _ _ Hb.out Ha.out _ HR2.out).mono ?_
      rintro e w3 ⟨rfl, b3⟩
      replace HQ := Lib.hid (HQ1.out _ _ HQ.out b3)
      clear b3 c0 c1 c2 c3 c4 c5 c6 c7 c8 c9
      obtain ⟨c0, c1, c2, c3, c4, c5, c6, c7, c8, c9⟩ := (HC.out _ HQ.out).1
      go_wp2_with fail
      refine (iissite _ P R X V U D Q ns ni nz ls li lz As cs Ai ci Az cz D0 (HC.out _ HQ.out).2.2.2.1 (HC.out _ HQ.out).2.2.2.2 hs.out hi.out _ Ha.out).mono ?_
      rintro e w4 ⟨rfl, b4⟩
      replace HQ := Lib.hid (HQ1.out _ _ HQ.out b4)
      clear b4 c0 c1 c2 c3 c4 c5 c6 c7 c8 c9
      obtain ⟨c0, c1, c2, c3, c4, c5, c6, c7, c8, c9⟩ := (HC.out _ HQ.out).1
      rw [HV1.out]
      cases v1
      · go_wp2_with fail
        go_meet
        exact ⟨rfl, HQ.out⟩
      · go_wp2_with fail
        refine (iissite _ P R X V U D Q ns ni nz ls li lz As cs Ai ci Az cz D0 (HC.out _ HQ.out).2.2.2.1 (HC.out _ HQ.out).2.2.2.2 hs.out hi.out _ Hb.out).mono ?_
        rintro e w5 ⟨rfl, b5⟩
        replace HQ := Lib.hid (HQ1.out _ _ HQ.out b5)
        clear b5 c0 c1 c2 c3 c4 c5 c6 c7 c8 c9
        obtain ⟨c0, c1, c2, c3, c4, c5, c6, c7, c8, c9⟩ := (HC.out _ HQ.out).1
        rw [HV2.out]
        cases v2
        · go_wp2_with fail
          go_meet
          exact ⟨rfl, HQ.out⟩
        · first
            | exact absurd (HVV.out (by simp) (by simp)) hz
            | (go_wp2_with fail; go_meet; exact ⟨rfl, HQ.out⟩)
    case rest =>
    obtain ⟨rfl, hq⟩ := hcut
    replace HQ := Lib.hid hq
    clear hq HV1 HV2 HVV HR HR2 c0 c1 c2 c3 c4 c5 c6 c7 c8 c9
    obtain ⟨c0, c1, c2, c3, c4, c5, c6, c7, c8, c9⟩ := (HC.out _ HQ.out).1
    go_upto_region 7 with fail
    go_cut [55] from 50 to 55 (fun c wx => c = .bool false ∧ QQ wx)
    case first =>
      go_wp2_with fail
      refine (iissky _ P R X V U D Q ns ni nz ls li lz As cs Ai ci Az cz D0 (HC.out _ HQ.out).2.2.2.1 (HC.out _ HQ.out).2.2.2.2 nA tW (HC.out _ HQ.out).2.2.1 sk HSK.out).mono ?_
      rintro e w3 ⟨rfl, b3⟩
      replace HQ := Lib.hid (HQ1.out _ _ HQ.out b3)
      clear b3 c0 c1 c2 c3 c4 c5 c6 c7 c8 c9
      obtain ⟨c0, c1, c2, c3, c4, c5, c6, c7, c8, c9⟩ := (HC.out _ HQ.out).1
      cases sk
      · go_wp2_with fail
        go_meet
        exact ⟨rfl, HQ.out⟩
      · have hle := HLE.out (by simp)
        go_wp2_with fail
        go_meet
        exact ⟨by simp <;> omega, HQ.out⟩
    case rest =>
    obtain ⟨rfl, hq⟩ := hcut
    replace HQ := Lib.hid hq
    clear hq HLE c0 c1 c2 c3 c4 c5 c6 c7 c8 c9
    obtain ⟨c0, c1, c2, c3, c4, c5, c6, c7, c8, c9⟩ := (HC.out _ HQ.out).1
    go_wp2_with fail
    go_loopw [7, 8] (fun kv iv wr => ∃ j : Nat, j ≤ 14 ∧ iv = .int .i64 ((j : Int) - 1) ∧ kv = .int .i64 ((sitesTo ns ni j : Nat) : Int) ∧ QQ wr) (fun _ iv _ => (14 - intOf iv).toNat)
    case atStart => exact ⟨0, by omega, rfl, by simp [sitesTo], HQ.out⟩
    case round =>
      clear HQ c0 c1 c2 c3 c4 c5 c6 c7 c8 c9
      obtain ⟨j, hj, rfl, rfl, hq⟩ := hrel
      have HQ := Lib.hid hq; clear hq
      obtain ⟨c0, c1, c2, c3, c4, c5, c6, c7, c8, c9⟩ := (HC.out _ HQ.out).1
      by_cases hlt : j < 14
      · obtain ⟨v, hv⟩ : ∃ v, siteAt ns ni ((j : Int) - 1) = v := ⟨_, rfl⟩
        obtain ⟨p, hp⟩ : ∃ p, planeOf ls li ((j : Int) - 1) = p := ⟨_, rfl⟩
        have HV := Lib.hid hv; have HPL := Lib.hid hp
        have HPQ : Hid (sk = true → 0 ≤ ((j : Int) - 1) → ((j : Int) - 1) < ns + ni → ¬ p = -1) := Lib.hid fun h h0 h1 => by rw [← hp]; exact HPO.out _ h h0 h1
        have HS1 : Hid (((sitesTo ns ni (j + 1) : Nat) : Int) = (sitesTo ns ni j : Nat) + (if v = true then 1 else 0)) := Lib.hid (by
          cases v
          · rw [sites_out hv]; simp
          · rw [sites_in hv]; simp)
        obtain ⟨k, hk⟩ : ∃ k, sitesTo ns ni j = k := ⟨_, rfl⟩
        have hk2 : k ≤ 2 := by have := sites_le ns ni j; have := Hn.out; omega
        rw [hk] at HS1 ⊢
        obtain ⟨i, hi'⟩ : ∃ i, (j : Int) - 1 = i := ⟨_, rfl⟩
        rw [hi'] at HV HPL HPQ ⊢
        have Hi : Hid (J64 i) := Lib.hid (by unfold J64; omega)
        have HI := Lib.hid hi'
        have hi1 : -1 ≤ i := by omega
        have hi2 : i ≤ 12 := by omega
        clear hv hp hk hi'
        go_wp2_with fail
        refine (iissite _ P R X V U D Q ns ni nz ls li lz As cs Ai ci Az cz D0 (HC.out _ HQ.out).2.2.2.1 (HC.out _ HQ.out).2.2.2.2 hs.out hi.out i Hi.out).mono ?_
        rintro e w4 ⟨rfl, b4⟩
        replace HQ := Lib.hid (HQ1.out _ _ HQ.out b4)
        clear b4 c0 c1 c2 c3 c4 c5 c6 c7 c8 c9
        obtain ⟨c0, c1, c2, c3, c4, c5, c6, c7, c8, c9⟩ := (HC.out _ HQ.out).1
        rw [HV.out]
        cases v
        all_goals
          go_upto_region 15 with fail
          go_cut [82] from 65 to 82 (fun c wx => c = .bool false ∧ QQ wx)
          case first =>
            go_wp2_with fail
            refine (iplane _ P R X V U D Q ns ni nz ls li lz As cs Ai ci Az cz D0 (HC.out _ HQ.out).2.2.2.1 (HC.out _ HQ.out).2.2.2.2 hs.out hi.out i Hi.out).mono ?_
            rintro e w5 ⟨rfl, b5⟩
            replace HQ := Lib.hid (HQ1.out _ _ HQ.out b5)
            clear b5 c0 c1 c2 c3 c4 c5 c6 c7 c8 c9
            obtain ⟨c0, c1, c2, c3, c4, c5, c6, c7, c8, c9⟩ := (HC.out _ HQ.out).1
            rw [HPL.out]
            by_cases hp : p = -1
            · go_wp2_with fail
              refine (iissky _ P R X V U D Q ns ni nz ls li lz As cs Ai ci Az cz D0 (HC.out _ HQ.out).2.2.2.1 (HC.out _ HQ.out).2.2.2.2 nA tW (HC.out _ HQ.out).2.2.1 sk HSK.out).mono ?_
              rintro e w6 ⟨rfl, b6⟩
              replace HQ := Lib.hid (HQ1.out _ _ HQ.out b6)
              clear b6 c0 c1 c2 c3 c4 c5 c6 c7 c8 c9
              obtain ⟨c0, c1, c2, c3, c4, c5, c6, c7, c8, c9⟩ := (HC.out _ HQ.out).1
              cases sk
              · go_wp2_with fail
                go_meet
                exact ⟨rfl, HQ.out⟩
              · by_cases h0 : 0 ≤ i
                · have h1 : ¬ (i < (ns : Int) + (ni : Int)) := fun h => HPQ.out rfl h0 h hp
                  go_wp2_with fail
                  refine (inodes _ P R X V U D Q ns ni nz ls li lz As cs Ai ci Az cz hs.out hi.out).mono ?_
                  rintro e w7 ⟨rfl, b7⟩
                  replace HQ := Lib.hid (HQ1.out _ _ HQ.out b7)
                  clear b7 c0 c1 c2 c3 c4 c5 c6 c7 c8 c9
                  obtain ⟨c0, c1, c2, c3, c4, c5, c6, c7, c8, c9⟩ := (HC.out _ HQ.out).1
                  go_wp2_with fail
                  go_meet
                  exact ⟨by simp <;> omega, HQ.out⟩
                · go_wp2_with fail
                  go_meet
                  exact ⟨rfl, HQ.out⟩
            · have hp' : (p == -1) = false := by simpa using hp
              go_wp2_with fail
              go_meet
              exact ⟨rfl, HQ.out⟩
          case rest =>
          obtain ⟨rfl, hq⟩ := hcut
          replace HQ := Lib.hid hq
          clear hq
          go_wp2_with fail
          go_roundw
          case rel => exact ⟨j + 1, by omega, by have := HI.out; congr 1; omega, by rw [HS1.out]; simp, HQ.out⟩
          case measure => simp [intOf]; omega
      · obtain rfl : j = 14 := by omega
        have hN := Hn.out
        have hall : sitesTo ns ni 14 = ni := sites_all (by omega)
        rw [hall]
        obtain ⟨rfl⟩ : ni = 2 := hN.2
        clear hall hN hj hlt
        go_wp2_with fail
        go_ret
        exact ⟨rfl, (HC.out _ HQ.out).2.1⟩
end Go.Proofs.YtffjkdbnkljmhaaDoor
