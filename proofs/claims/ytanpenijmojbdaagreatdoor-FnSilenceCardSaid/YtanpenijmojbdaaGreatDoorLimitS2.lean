/- The model's l7Near and LimitOf, in plain words. The model's LimitOf. The model's neighbors are the program's. -/
import Derived.Test.YtanpenijmojbdaaGreatDoorLimit
import Derived.Deep.Cut
import Derived.Test.YtanpenijmojbdaaGreatDoorLimit3
namespace Go.Proofs.YtanpenijmojbdaaGreatDoor
open Go.ChangeShapes Go.WideShapes Go.ChangeAt Go.RowKit
set_option linter.unusedVariables false
/-- two planes are neighbors, as the model says it -/
def nearM (P p q : Int) : Bool := !decide (mnf p q < 0) && (decide (mnf p q < mxf p q) && (decide (mxf p q - mnf p q = 1) || (decide (mnf p q = 0) && (decide (mxf p q ≤ 4) && decide (mxf p q + 1 = P)))))
def limS (P R X V : Int) (ns ni : Nat) (ls : List Sat4) (li : List Tri) (a b : Int) : Int :=
  if (!decide (0 ≤ a ∧ a ≤ (ns : Int) + ni - 1) || (!decide (0 ≤ b ∧ b ≤ (ns : Int) + ni - 1) || (decide (a = b) || (siteAt ns ni a && siteAt ns ni b)))) = true then -1
  else if (siteAt ns ni a || siteAt ns ni b) = true then (if (decide (planeOf ls li a = planeOf ls li b) || nearM P (planeOf ls li a) (planeOf ls li b)) = true then V else -1)
  else if planeOf ls li a = planeOf ls li b then R else if nearM P (planeOf ls li a) (planeOf ls li b) = true then X else -1
theorem plane_J64 {ls : List Sat4} {li : List Tri} (h1 : ∀ x ∈ ls, Ok4 x) (h2 : ∀ x ∈ li, Ok3 x) (i : Int) : J64 (planeOf ls li i) := by
  rcases node_cases ls li i with ⟨k, hk, -, -, hp, -⟩ | ⟨k, hk, -, -, hp, -⟩ | ⟨-, -, hp, -⟩
  · rw [hp]; exact (h1 _ (List.getElem_mem hk)).1
  · rw [hp]; exact (h2 _ (List.getElem_mem hk)).1
  · rw [hp]; unfold J64; omega
/-- the program's limit is the model's, where the program's neighbors are -/
theorem limS_eq (P R X V : Int) (ls : List Sat4) (li : List Tri) (a b : Int) (hn : nearM P (planeOf ls li a) (planeOf ls li b) = nearI P (planeOf ls li a) (planeOf ls li b)) : limS P R X V ls.length li.length ls li a b = limI P R X V ls li a b := by
  rcases node_cases ls li a with ⟨k, hk, ea, -, -, va⟩ | ⟨k, hk, ea, -, -, va⟩ | ⟨ea, -, -, va⟩
  · have ka : nodeK ls.length li.length a = 1 := by rw [ea]; exact nodeK_sat hk
    have ia : (0 ≤ a ∧ a ≤ (ls.length : Int) + li.length - 1) := by omega
    rcases node_cases ls li b with ⟨m, hm, eb, -, -, vb⟩ | ⟨m, hm, eb, -, -, vb⟩ | ⟨eb, -, -, vb⟩
    · have kb : nodeK ls.length li.length b = 1 := by rw [eb]; exact nodeK_sat hm
      have ib : (0 ≤ b ∧ b ≤ (ls.length : Int) + li.length - 1) := by omega
      simp [limS, limI, ka, kb, ia, ib, va, vb, hn]
    · have kb : nodeK ls.length li.length b = 2 := by rw [eb]; exact nodeK_site hm
      have ib : (0 ≤ b ∧ b ≤ (ls.length : Int) + li.length - 1) := by omega
      simp [limS, limI, ka, kb, ia, ib, va, vb, hn]
    · have kb : nodeK ls.length li.length b = 0 := nodeK_none eb
      have ib : ¬ (0 ≤ b ∧ b ≤ (ls.length : Int) + li.length - 1) := by omega
      simp [limS, limI, kb, ib]
  · have ka : nodeK ls.length li.length a = 2 := by rw [ea]; exact nodeK_site hk
    have ia : (0 ≤ a ∧ a ≤ (ls.length : Int) + li.length - 1) := by omega
    rcases node_cases ls li b with ⟨m, hm, eb, -, -, vb⟩ | ⟨m, hm, eb, -, -, vb⟩ | ⟨eb, -, -, vb⟩
    · have kb : nodeK ls.length li.length b = 1 := by rw [eb]; exact nodeK_sat hm
      have ib : (0 ≤ b ∧ b ≤ (ls.length : Int) + li.length - 1) := by omega
      simp [limS, limI, ka, kb, ia, ib, va, vb, hn]
    · have kb : nodeK ls.length li.length b = 2 := by rw [eb]; exact nodeK_site hm
      simp [limS, limI, ka, kb, va, vb]
    · have kb : nodeK ls.length li.length b = 0 := nodeK_none eb
      have ib : ¬ (0 ≤ b ∧ b ≤ (ls.length : Int) + li.length - 1) := by omega
      simp [limS, limI, kb, ib]
  · have ka : nodeK ls.length li.length a = 0 := nodeK_none ea
    have ia : ¬ (0 ≤ a ∧ a ≤ (ls.length : Int) + li.length - 1) := by omega
    simp [limS, limI, ka, ia]
set_option maxRecDepth 100000 in
theorem snear (w : World) (P R X V U D Q : Int) (ns ni nz : Nat) (ls : List Sat4) (li lz : List Tri) (As : Option Addr) (cs : Nat) (Ai : Option Addr) (ci : Nat) (Az : Option Addr) (cz : Nat) (p q : Int) (hp : J64 p) (hq : J64 q) (b : Bool) (hb : nearM P p q = b) :
    Calls Tryz.prog 133 #[.agg #[.int .i64 P, .slice As ns cs, .slice Ai ni ci, .int .i64 R, .int .i64 X, .int .i64 V, .int .i64 U, .int .i64 D, .slice Az nz cz, .int .i64 Q], .int .i64 p, .int .i64 q] w (Tells w b) := by
  have hlo : J64 (mnf p q) := by unfold mnf; split <;> assumption
  have hhi : J64 (mxf p q) := by unfold mxf; split <;> assumption
  obtain ⟨lo, hlo2⟩ : ∃ z, mnf p q = z := ⟨_, rfl⟩
  obtain ⟨hi, hhi2⟩ : ∃ z, mxf p q = z := ⟨_, rfl⟩
  have HB : Hid (b = (!decide (lo < 0) && (decide (lo < hi) && (decide (hi - lo = 1) || (decide (lo = 0) && (decide (hi ≤ 4) && decide (hi + 1 = P))))))) := Lib.hid (by rw [← hb, ← hlo2, ← hhi2]; rfl)
  have HL := Lib.hid (And.intro hlo2 hhi2)
  rw [hlo2] at hlo
  rw [hhi2] at hhi
  unfold J64 at hlo hhi
  have T := Lib.hid ((Below.refl w.heap.size w).alloc (Nat.le_refl _) (.cells #[.int .i64 P, .slice As ns cs, .slice Ai ni ci, .int .i64 R, .int .i64 X, .int .i64 V, .int .i64 U, .int .i64 D, .slice Az nz cz, .int .i64 Q] 28))
  clear hb hlo2 hhi2 hp hq
  go_enter Tryz.func133, Tryz.ntmps133
  go_wp2_with fail
  refine (smin p q _).mono ?_
  rintro e w' ⟨rfl, rfl⟩
  rw [HL.out.1]
  go_wp2_with fail
  refine (smax p q _).mono ?_
  rintro e w' ⟨rfl, rfl⟩
  rw [HL.out.2]
  by_cases g1 : lo < 0
  · obtain rfl : b = false := by rw [HB.out]; simp [g1]
    clear HB
    go_wp2
    go_ret
    exact ⟨rfl, T.out⟩
  by_cases g2 : lo < hi
  case neg =>
    obtain rfl : b = false := by rw [HB.out]; simp [g2]
    clear HB
    go_wp2
    go_ret
    exact ⟨rfl, T.out⟩
  by_cases g3 : hi - lo = 1
  · obtain rfl : b = true := by rw [HB.out]; simp [g1, g2, g3]
    clear HB
    have g3' : (hi - lo == 1) = true := by simpa using g3
    clear g3
    go_wp2
    go_ret
    exact ⟨rfl, T.out⟩
  by_cases g4 : lo = 0
  case neg =>
    obtain rfl : b = false := by rw [HB.out]; simp [g3, g4]
    clear HB
    have g3' : (hi - lo == 1) = false := by simpa using g3
    have g4' : (lo == 0) = false := by simpa using g4
    go_wp2
    go_ret
    exact ⟨rfl, T.out⟩
  subst g4
  have g3' : (hi == 1) = false := by simp; omega
  by_cases g5 : hi ≤ 4
  case neg =>
    obtain rfl : b = false := by rw [HB.out]; simp [g5]; omega
    clear HB g3
    go_wp2
    go_ret
    exact ⟨rfl, T.out⟩
  by_cases g6 : hi + 1 = P
  · obtain rfl : b = true := by rw [HB.out]; simp [g2, g5, g6]
    clear HB g3
    have g6' : (hi + 1 == P) = true := by simpa using g6
    subst g6
    go_wp2
    go_ret
    exact ⟨rfl, T.out⟩
  · obtain rfl : b = false := by rw [HB.out]; simp [g6]; omega
    clear HB g3
    have g6' : (hi + 1 == P) = false := by simpa using g6
    go_wp2
    go_ret
    exact ⟨rfl, T.out⟩
end Go.Proofs.YtanpenijmojbdaaGreatDoor
namespace Go.Proofs.YtanpenijmojbdaaGreatDoor
open Go.ChangeShapes Go.WideShapes Go.ChangeAt Go.RowKit
set_option linter.unusedVariables false
set_option maxRecDepth 100000 in
set_option maxHeartbeats 2000000 in
theorem slimit (w : World) (P R X V U D Q : Int) (ns ni nz : Nat) (ls : List Sat4) (li lz : List Tri) (As : Option Addr) (cs : Nat) (Ai : Option Addr) (ci : Nat) (Az : Option Addr) (cz : Nat) (D0 : Nat) (h : InSky w (D0) As ns cs Ai ni ci Az nz cz ls li lz) (hD : D0 ≤ w.heap.size) (hs0 : ns ≤ 16777216) (hi0 : ni ≤ 16777216) (hk1 : ∀ x ∈ ls, Ok4 x) (hk2 : ∀ x ∈ li, Ok3 x) (a b : Int) (ha : J64 a) (hb : J64 b) (r : Int) (hr : limS P R X V ns ni ls li a b = r) :
    Calls Tryz.prog 119 #[.agg #[.int .i64 P, .slice As ns cs, .slice Ai ni ci, .int .i64 R, .int .i64 X, .int .i64 V, .int .i64 U, .int .i64 D, .slice Az nz cz, .int .i64 Q], .int .i64 a, .int .i64 b] w (Num w r) := by
  obtain ⟨b1, h1⟩ := says_ex (0 ≤ a ∧ a ≤ (ns : Int) + ni - 1)
  obtain ⟨b2, h2⟩ := says_ex (0 ≤ b ∧ b ≤ (ns : Int) + ni - 1)
  obtain ⟨v1, hv1⟩ : ∃ v, siteAt ns ni a = v := ⟨_, rfl⟩
  obtain ⟨v2, hv2⟩ : ∃ v, siteAt ns ni b = v := ⟨_, rfl⟩
  obtain ⟨p, hp⟩ : ∃ p, planeOf ls li a = p := ⟨_, rfl⟩
  obtain ⟨q, hq⟩ : ∃ p, planeOf ls li b = p := ⟨_, rfl⟩
  obtain ⟨nr, hnr⟩ : ∃ v, nearM P p q = v := ⟨_, rfl⟩
  have HR : Hid (r = if (!b1 || (!b2 || (decide (a = b) || (v1 && v2)))) = true then -1 else if (v1 || v2) = true then (if (decide (p = q) || nr) = true then V else -1) else if p = q then R else if nr = true then X else -1) := Lib.hid (by
    rw [← hr]; unfold limS; rw [h1.dec, h2.dec, hv1, hv2, hp, hq, hnr])
  have H1 := Lib.hid h1; have H2 := Lib.hid h2; have HV1 := Lib.hid hv1; have HV2 := Lib.hid hv2; have HPA := Lib.hid hp; have HPB := Lib.hid hq; have HNR := Lib.hid hnr
  have JP : Hid (J64 p) := Lib.hid (by rw [← hp]; exact plane_J64 hk1 hk2 a)
  have JQ : Hid (J64 q) := Lib.hid (by rw [← hq]; exact plane_J64 hk1 hk2 b)
  have hwr : IntKind.i64.wrap ((ns : Int) + ni - 1) = (ns : Int) + ni - 1 := wrap_in _ (by omega) (by omega)
  obtain ⟨WL, hW⟩ : ∃ W, W = w.alloc (.cells #[.int .i64 P, .slice As ns cs, .slice Ai ni ci, .int .i64 R, .int .i64 X, .int .i64 V, .int .i64 U, .int .i64 D, .slice Az nz cz, .int .i64 Q] 28) := ⟨_, rfl⟩
  have TL : Below w.heap.size w WL := by rw [hW]; exact (Below.refl w.heap.size w).alloc (Nat.le_refl _) _
  have IL : InSky WL (D0) As ns cs Ai ni ci Az nz cz ls li lz := h.below TL hD
  have DL : D0 ≤ WL.heap.size := Nat.le_trans hD TL.size
  have ZL : Blk WL w.heap.size 28 #[.int .i64 P, .slice As ns cs, .slice Ai ni ci, .int .i64 R, .int .i64 X, .int .i64 V, .int .i64 U, .int .i64 D, .slice Az nz cz, .int .i64 Q] := by rw [hW]; exact Blk.new _ _ _
  obtain ⟨QQ, hQ⟩ : ∃ QQ : World → Prop, ∀ wr, QQ wr ↔ Below WL.heap.size WL wr := ⟨_, fun _ => Iff.rfl⟩
  have HQ : Hid (QQ WL) := Lib.hid ((hQ _).2 (Below.refl _ _))
  have HQ1 : Hid (∀ wr wr', QQ wr → Below wr.heap.size wr wr' → QQ wr') := Lib.hid fun wr wr' h h' => (hQ _).2 (((hQ _).1 h).trans (h'.mono ((hQ _).1 h).size))
  have HC : Hid (∀ wr, QQ wr → (wr.cell? ⟨w.heap.size, 0, none⟩ = some (.int .i64 P) ∧ wr.cell? ⟨w.heap.size, 1, none⟩ = some (.slice As ns cs) ∧ wr.cell? ⟨w.heap.size, 2, none⟩ = some (.slice Ai ni ci) ∧ wr.cell? ⟨w.heap.size, 3, none⟩ = some (.int .i64 R) ∧ wr.cell? ⟨w.heap.size, 4, none⟩ = some (.int .i64 X) ∧ wr.cell? ⟨w.heap.size, 5, none⟩ = some (.int .i64 V) ∧ wr.cell? ⟨w.heap.size, 6, none⟩ = some (.int .i64 U) ∧ wr.cell? ⟨w.heap.size, 7, none⟩ = some (.int .i64 D) ∧ wr.cell? ⟨w.heap.size, 8, none⟩ = some (.slice Az nz cz) ∧ wr.cell? ⟨w.heap.size, 9, none⟩ = some (.int .i64 Q)) ∧ Below w.heap.size w wr ∧ InSky wr (D0) As ns cs Ai ni ci Az nz cz ls li lz ∧ D0 ≤ wr.heap.size) := Lib.hid fun wr h => by
    have hb := (hQ _).1 h
    exact ⟨(ZL.below hb ZL.lt).ten, TL.trans (hb.mono TL.size), IL.below hb DL, Nat.le_trans DL hb.size⟩
  have hs := Lib.hid hs0; have hi := Lib.hid hi0; have Ha := Lib.hid ha; have Hb := Lib.hid hb
  clear hr h1 h2 hv1 hv2 hp hq hnr hQ TL IL DL ZL h hD hk1 hk2 ha hb hs0 hi0
  go_enter Tryz.func119, Tryz.ntmps119
  go_wp2_with fail
  rw [← hW]
  clear hW
  obtain ⟨c0, c1, c2, c3, c4, c5, c6, c7, c8, c9⟩ := (HC.out _ HQ.out).1
  go_wp2_with fail
  refine (snodes _ P R X V U D Q ns ni nz ls li lz As cs Ai ci Az cz hs.out hi.out).mono ?_
  rintro e w1 ⟨rfl, b1x⟩
  replace HQ := Lib.hid (HQ1.out _ _ HQ.out b1x)
  clear b1x c0 c1 c2 c3 c4 c5 c6 c7 c8 c9
  obtain ⟨c0, c1, c2, c3, c4, c5, c6, c7, c8, c9⟩ := (HC.out _ HQ.out).1
  by_cases hab : a = b
  · subst hab
    obtain rfl : r = -1 := by rw [HR.out]; simp
    clear HR
    go_wp2_with fail
    refine (sinr_b _ _ _ _ b1 H1.out).mono ?_
    rintro e w' ⟨rfl, rfl⟩
    cases b1
    · go_wp2
      go_ret
      exact ⟨rfl, (HC.out _ HQ.out).2.1⟩
    · go_wp2_with fail
      refine (sinr_b _ _ _ _ true H1.out).mono ?_
      rintro e w' ⟨rfl, rfl⟩
      go_wp2
      go_ret
      exact ⟨rfl, (HC.out _ HQ.out).2.1⟩
  · have hab' : (a == b) = false := by simpa using hab
    go_wp2_with fail
    refine (sinr_b _ _ _ _ b1 H1.out).mono ?_
    rintro e w' ⟨rfl, rfl⟩
    cases b1
    · obtain rfl : r = -1 := by rw [HR.out]; simp
      clear HR
      go_wp2
      go_ret
      exact ⟨rfl, (HC.out _ HQ.out).2.1⟩
    go_wp2_with fail
    refine (sinr_b _ _ _ _ b2 H2.out).mono ?_
    rintro e w' ⟨rfl, rfl⟩
    cases b2
    · obtain rfl : r = -1 := by rw [HR.out]; simp
      clear HR
      go_wp2
      go_ret
      exact ⟨rfl, (HC.out _ HQ.out).2.1⟩
    go_wp2_with fail
    refine (sissite _ P R X V U D Q ns ni nz ls li lz As cs Ai ci Az cz hs.out hi.out a).mono ?_
    rintro e w2 ⟨rfl, b2⟩
    replace HQ := Lib.hid (HQ1.out _ _ HQ.out b2)
    clear b2 c0 c1 c2 c3 c4 c5 c6 c7 c8 c9
    obtain ⟨c0, c1, c2, c3, c4, c5, c6, c7, c8, c9⟩ := (HC.out _ HQ.out).1
    rw [HV1.out]
    cases v1
    · go_wp2_with fail
      refine (splane _ P R X V U D Q ns ni nz ls li lz As cs Ai ci Az cz D0 (HC.out _ HQ.out).2.2.1 (HC.out _ HQ.out).2.2.2 hs.out hi.out a Ha.out).mono ?_
      rintro e w3 ⟨rfl, b3⟩
      replace HQ := Lib.hid (HQ1.out _ _ HQ.out b3)
      clear b3 c0 c1 c2 c3 c4 c5 c6 c7 c8 c9
      obtain ⟨c0, c1, c2, c3, c4, c5, c6, c7, c8, c9⟩ := (HC.out _ HQ.out).1
      rw [HPA.out]
      go_wp2_with fail
      refine (splane _ P R X V U D Q ns ni nz ls li lz As cs Ai ci Az cz D0 (HC.out _ HQ.out).2.2.1 (HC.out _ HQ.out).2.2.2 hs.out hi.out b Hb.out).mono ?_
      rintro e w4 ⟨rfl, b4⟩
      replace HQ := Lib.hid (HQ1.out _ _ HQ.out b4)
      clear b4 c0 c1 c2 c3 c4 c5 c6 c7 c8 c9
      obtain ⟨c0, c1, c2, c3, c4, c5, c6, c7, c8, c9⟩ := (HC.out _ HQ.out).1
      rw [HPB.out]
      go_wp2_with fail
      refine (sissite _ P R X V U D Q ns ni nz ls li lz As cs Ai ci Az cz hs.out hi.out a).mono ?_
      rintro e w5 ⟨rfl, b5⟩
      replace HQ := Lib.hid (HQ1.out _ _ HQ.out b5)
      clear b5 c0 c1 c2 c3 c4 c5 c6 c7 c8 c9
      obtain ⟨c0, c1, c2, c3, c4, c5, c6, c7, c8, c9⟩ := (HC.out _ HQ.out).1
      rw [HV1.out]
      go_wp2_with fail
      refine (sissite _ P R X V U D Q ns ni nz ls li lz As cs Ai ci Az cz hs.out hi.out b).mono ?_
      rintro e w6 ⟨rfl, b6⟩
      replace HQ := Lib.hid (HQ1.out _ _ HQ.out b6)
      clear b6 c0 c1 c2 c3 c4 c5 c6 c7 c8 c9
      obtain ⟨c0, c1, c2, c3, c4, c5, c6, c7, c8, c9⟩ := (HC.out _ HQ.out).1
      rw [HV2.out]
      cases v2
      · by_cases hpq : p = q
        · subst hpq
          obtain rfl : r = R := by rw [HR.out]; simp [hab]
          clear HR
          go_wp2
          go_ret
          exact ⟨rfl, (HC.out _ HQ.out).2.1⟩
        · have hpq' : (p == q) = false := by simpa using hpq
          go_wp2_with fail
          refine (snear _ P R X V U D Q ns ni nz ls li lz As cs Ai ci Az cz p q JP.out JQ.out nr HNR.out).mono ?_
          rintro e w7 ⟨rfl, b7⟩
          replace HQ := Lib.hid (HQ1.out _ _ HQ.out b7)
          clear b7 c0 c1 c2 c3 c4 c5 c6 c7 c8 c9
          obtain ⟨c0, c1, c2, c3, c4, c5, c6, c7, c8, c9⟩ := (HC.out _ HQ.out).1
          cases nr
          · obtain rfl : r = -1 := by rw [HR.out]; simp [hpq]
            clear HR
            go_wp2
            go_ret
            exact ⟨rfl, (HC.out _ HQ.out).2.1⟩
          · obtain rfl : r = X := by rw [HR.out]; simp [hab, hpq]
            clear HR
            go_wp2
            go_ret
            exact ⟨rfl, (HC.out _ HQ.out).2.1⟩
      · by_cases hpq : p = q
        · subst hpq
          obtain rfl : r = V := by rw [HR.out]; simp [hab]
          clear HR
          go_wp2
          go_ret
          exact ⟨rfl, (HC.out _ HQ.out).2.1⟩
        · have hpq' : (p == q) = false := by simpa using hpq
          go_wp2_with fail
          refine (snear _ P R X V U D Q ns ni nz ls li lz As cs Ai ci Az cz p q JP.out JQ.out nr HNR.out).mono ?_
          rintro e w7 ⟨rfl, b7⟩
          replace HQ := Lib.hid (HQ1.out _ _ HQ.out b7)
          clear b7 c0 c1 c2 c3 c4 c5 c6 c7 c8 c9
          obtain ⟨c0, c1, c2, c3, c4, c5, c6, c7, c8, c9⟩ := (HC.out _ HQ.out).1
          cases nr
          · obtain rfl : r = -1 := by rw [HR.out]; simp [hpq]
            clear HR
            go_wp2
            go_ret
            exact ⟨rfl, (HC.out _ HQ.out).2.1⟩
          · obtain rfl : r = V := by rw [HR.out]; simp [hab]
            clear HR
            go_wp2
            go_ret
            exact ⟨rfl, (HC.out _ HQ.out).2.1⟩
    · go_wp2_with fail
      refine (sissite _ P R X V U D Q ns ni nz ls li lz As cs Ai ci Az cz hs.out hi.out b).mono ?_
      rintro e w3 ⟨rfl, b3⟩
      replace HQ := Lib.hid (HQ1.out _ _ HQ.out b3)
      clear b3 c0 c1 c2 c3 c4 c5 c6 c7 c8 c9
      obtain ⟨c0, c1, c2, c3, c4, c5, c6, c7, c8, c9⟩ := (HC.out _ HQ.out).1
      rw [HV2.out]
      cases v2
      · go_wp2_with fail
        refine (splane _ P R X V U D Q ns ni nz ls li lz As cs Ai ci Az cz D0 (HC.out _ HQ.out).2.2.1 (HC.out _ HQ.out).2.2.2 hs.out hi.out a Ha.out).mono ?_
        rintro e w4 ⟨rfl, b4⟩
        replace HQ := Lib.hid (HQ1.out _ _ HQ.out b4)
        clear b4 c0 c1 c2 c3 c4 c5 c6 c7 c8 c9
        obtain ⟨c0, c1, c2, c3, c4, c5, c6, c7, c8, c9⟩ := (HC.out _ HQ.out).1
        rw [HPA.out]
        go_wp2_with fail
        refine (splane _ P R X V U D Q ns ni nz ls li lz As cs Ai ci Az cz D0 (HC.out _ HQ.out).2.2.1 (HC.out _ HQ.out).2.2.2 hs.out hi.out b Hb.out).mono ?_
        rintro e w5 ⟨rfl, b5⟩
        replace HQ := Lib.hid (HQ1.out _ _ HQ.out b5)
        clear b5 c0 c1 c2 c3 c4 c5 c6 c7 c8 c9
        obtain ⟨c0, c1, c2, c3, c4, c5, c6, c7, c8, c9⟩ := (HC.out _ HQ.out).1
        rw [HPB.out]
        go_wp2_with fail
        refine (sissite _ P R X V U D Q ns ni nz ls li lz As cs Ai ci Az cz hs.out hi.out a).mono ?_
        rintro e w6 ⟨rfl, b6⟩
        replace HQ := Lib.hid (HQ1.out _ _ HQ.out b6)
        clear b6 c0 c1 c2 c3 c4 c5 c6 c7 c8 c9
        obtain ⟨c0, c1, c2, c3, c4, c5, c6, c7, c8, c9⟩ := (HC.out _ HQ.out).1
        rw [HV1.out]
        by_cases hpq : p = q
        · subst hpq
          obtain rfl : r = V := by rw [HR.out]; simp [hab]
          clear HR
          go_wp2
          go_ret
          exact ⟨rfl, (HC.out _ HQ.out).2.1⟩
        · have hpq' : (p == q) = false := by simpa using hpq
          go_wp2_with fail
          refine (snear _ P R X V U D Q ns ni nz ls li lz As cs Ai ci Az cz p q JP.out JQ.out nr HNR.out).mono ?_
          rintro e w7 ⟨rfl, b7⟩
          replace HQ := Lib.hid (HQ1.out _ _ HQ.out b7)
          clear b7 c0 c1 c2 c3 c4 c5 c6 c7 c8 c9
          obtain ⟨c0, c1, c2, c3, c4, c5, c6, c7, c8, c9⟩ := (HC.out _ HQ.out).1
          cases nr
          · obtain rfl : r = -1 := by rw [HR.out]; simp [hpq]
            clear HR
            go_wp2
            go_ret
            exact ⟨rfl, (HC.out _ HQ.out).2.1⟩
          · obtain rfl : r = V := by rw [HR.out]; simp [hab]
            clear HR
            go_wp2
            go_ret
            exact ⟨rfl, (HC.out _ HQ.out).2.1⟩
      · obtain rfl : r = -1 := by rw [HR.out]; simp
        clear HR
        go_wp2
        go_ret
        exact ⟨rfl, (HC.out _ HQ.out).2.1⟩
end Go.Proofs.YtanpenijmojbdaaGreatDoor
namespace Go.Proofs.YtanpenijmojbdaaGreatDoor
open Go.ChangeShapes Go.WideShapes Go.ChangeAt Go.RowKit
set_option linter.unusedVariables false
theorem near_eq (P p q : Int) : nearM P p q = nearI P p q := by
  have hle : mnf p q ≤ mxf p q := by unfold mnf mxf; split <;> split <;> omega
  unfold nearM nearI
  generalize mnf p q = lo at hle ⊢
  generalize mxf p q = hi at hle ⊢
  by_cases g1 : lo < 0
  · simp [g1]
  by_cases g2 : lo < hi
  · by_cases g3 : hi - lo = 1
    · simp [g1, g2, g3]
    · by_cases g4 : lo = 0
      · by_cases g5 : hi = P - 1
        · by_cases g6 : hi ≤ 4
          · have e1 : hi + 1 = P := by omega
            have e2 : 1 ≤ P - 1 ∧ P - 1 ≤ 4 := by omega
            rw [decide_eq_true e1, decide_eq_true e2, decide_eq_true g5, decide_eq_true g6, decide_eq_true g2]; simp
          · have e2 : ¬ (1 ≤ P - 1 ∧ P - 1 ≤ 4) := by omega
            rw [decide_eq_false e2, decide_eq_false g6, decide_eq_true g2]; simp
        · have e1 : ¬ hi + 1 = P := by omega
          rw [decide_eq_false e1, decide_eq_false g5, decide_eq_true g2]; simp
      · rw [decide_eq_false g4, decide_eq_true g2]; simp
  · have e0 : hi = lo := by omega
    have e1 : ¬ (hi - lo = 1) := by omega
    rw [decide_eq_false g2, decide_eq_false e1]
    by_cases g4 : lo = 0
    · have e2 : (decide (hi = P - 1) && decide (1 ≤ P - 1 ∧ P - 1 ≤ 4)) = false := by simp; omega
      rw [e2]; simp
    · rw [decide_eq_false g4]; simp
end Go.Proofs.YtanpenijmojbdaaGreatDoor
