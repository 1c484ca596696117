/- The program's ticksBetween, spansOf, SureWindows. The program's SureWindows. -/
import Derived.Test.YtlaigbhiligceaaGreatDoorSightAt
import Derived.Test.YtlaigbhiligceaaGreatDoorBetween
import Derived.Test.YtlaigbhiligceaaGreatDoorSpansOf
namespace Go.Proofs.YtlaigbhiligceaaGreatDoor
open Go.ChangeShapes Go.WideShapes Go.ChangeAt Go.RowKit Go.Maps
set_option linter.unusedVariables false
/-- the ticks from lo on at which H holds, each as a span of its own -/
def units (H : Int → Bool) (lo : Int) : Nat → List (Int × Int)
  | 0 => []
  | k + 1 => if H (lo + k) = true then units H lo k ++ [(lo + k, lo + k + 1)] else units H lo k
theorem units_len (H : Int → Bool) (lo : Int) (k : Nat) : (units H lo k).length ≤ k := by
  induction k with
  | zero => exact Nat.le_refl _
  | succ k ih =>
    unfold units; split
    · rw [List.length_append]; simp; omega
    · omega
theorem units_has (H : Int → Bool) (lo : Int) (h0 : 0 ≤ lo) (k : Nat) (hk : lo + k ≤ 1000) (t : Int) : inL (units H lo k) t = decide ((lo ≤ t ∧ t < lo + k) ∧ H t = true) := by
  induction k with
  | zero => simp [units, inL]; omega
  | succ k ih =>
    have ih := ih (by omega)
    have e : inS (lo + (k : Int), lo + (k : Int) + 1) t = decide (t = lo + k) := by
      unfold inS; exact decide_eq_decide.2 ⟨fun h => by simp only at h; omega, fun h => by simp only; omega⟩
    unfold units
    by_cases hH : H (lo + k) = true
    · rw [if_pos hH, inL_snoc, ih, e, ← Bool.decide_or]
      refine decide_eq_decide.2 ⟨fun h => ?_, fun h => ?_⟩
      · rcases h with h | h
        · exact ⟨⟨h.1.1, by omega⟩, h.2⟩
        · exact ⟨by omega, by rw [h]; exact hH⟩
      · by_cases ht : t = lo + k
        · exact .inr ht
        · exact .inl ⟨⟨h.1.1, by omega⟩, h.2⟩
    · rw [if_neg hH, ih]
      refine decide_eq_decide.2 ⟨fun h => ⟨⟨h.1.1, by omega⟩, h.2⟩, fun h => ⟨⟨h.1.1, ?_⟩, h.2⟩⟩
      rcases Int.lt_or_le t (lo + k) with h2 | h2
      · exact h2
      · exfalso; have : t = lo + k := by omega
        rw [this] at h; exact hH h.2
/-- the windows in which H holds -/
def winOf (H : Int → Bool) (from_ till : Int) : List (Int × Int) := joinOf (units H (lowT from_) (highT till - lowT from_).toNat)
theorem win_has (H : Int → Bool) (from_ till t : Int) (h1 : J64 from_) : inL (winOf H from_ till) t = decide ((lowT from_ ≤ t ∧ t < highT till) ∧ H t = true) := by
  have hl := low_bd from_ h1; have hh := high_bd till
  have e : inL (winOf H from_ till) t = inL (units H (lowT from_) (highT till - lowT from_).toNat) t := inL_all _ _ id rfl (fun t => tk_join _ t) t
  rw [e]
  rcases Int.lt_or_le (lowT from_) (highT till) with h2 | h2
  · rw [units_has H _ hl.1 _ (by omega)]
    exact decide_eq_decide.2 ⟨fun h => ⟨⟨h.1.1, by omega⟩, h.2⟩, fun h => ⟨⟨h.1.1, by omega⟩, h.2⟩⟩
  · rw [show (highT till - lowT from_).toNat = 0 by omega]
    rw [decide_eq_false (by omega)]; rfl
theorem appended {w W3 w5 : World} {H : Int → Bool} {lo t : Int} {k n1 c1 c5 ga mb tb lb db : Nat} {L : List (Int × Int)} {A1 A5 : Option Addr} {lim dou : Int} {cs : Array Value}
    (hr : units H lo (k + 1) = if true = true then L ++ [(t, t + 1)] else L) (hne : (Value.slice A1 n1 c1).ownBlock ≠ some ga) (hlt : mb < w.heap.size ∧ tb < w.heap.size ∧ lb < w.heap.size ∧ db < w.heap.size) (hga : w.heap.size < ga)
    (o4 : Own W3 w.heap.size 83 2 A1 n1 c1 (sv L)) (t4 : Tab W3 mb tb lb db lim dou (k + 1)) (a4 : Blk W3 ga 83 cs) (g4 : w.grownBy W3 (some mb))
    (hown : Own w5 w.heap.size 83 2 A5 (n1 + 1) c5 (sv L ++ [.int .i64 t, .int .i64 (t + 1)])) (hg : W3.grownBy w5 (Value.slice A1 n1 c1).ownBlock)
    (hat : (Value.slice A5 (n1 + 1) c5).ownBlock = (Value.slice A1 n1 c1).ownBlock ∨ (Value.slice A5 (n1 + 1) c5).ownBlock = some W3.heap.size) :
    Own w5 w.heap.size 83 2 A5 (n1 + 1) c5 (sv (units H lo (k + 1))) ∧ ((Value.slice A5 (n1 + 1) c5).ownBlock ≠ some ga) ∧ Tab w5 mb tb lb db lim dou (k + 1) ∧ Blk w5 ga 83 cs ∧ w.grownBy w5 (some mb) := by
  have far : ∀ g, g < w.heap.size → some g ≠ (Value.slice A1 n1 c1).ownBlock := by
    intro g h e
    rcases o4.blk with h1 | ⟨g', h1, h2, _⟩
    · rw [h1] at e; cases e
    · rw [h1] at e; injection e with e; omega
  have hle := g4.size
  refine ⟨by rw [hr, if_pos rfl, sv_app]; exact hown, ?_, t4.kept hg (far _ hlt.1) (far _ hlt.2.1) (far _ hlt.2.2.1) (far _ hlt.2.2.2), a4.grownR hg (fun e => hne e.symm), ?_⟩
  · rcases hat with e | e
    · rw [e]; exact hne
    · rw [e]; intro e2; injection e2 with e2; have := a4.lt; omega
  · refine ⟨hg.os.trans g4.os, hg.tape.trans g4.tape, hg.output.trans g4.output, Nat.le_trans g4.size hg.size, fun j hj hj2 => (hg.block j (by omega) (far j hj)).trans (g4.block j hj hj2)⟩
theorem Turn_below {w w' : World} {g : Nat} (h : w.grownBy w' (some g)) (hg : g < w.heap.size) : Below g w w' := ⟨h.os, h.tape, h.output, h.size, fun k hk => h.block k (by omega) (by intro e; injection e; omega)⟩
set_option maxHeartbeats 1000000 in
set_option maxRecDepth 100000 in
theorem ispansof (u w : World) (P R X V U D Q : Int) (ns ni nz : Nat) (ls : List Sat4) (li lz : List Tri) (As : Option Addr) (cs : Nat) (Ai : Option Addr) (ci : Nat) (Az : Option Addr) (cz : Nat) (D0 : Nat) (h : InSky u (D0) As ns cs Ai ni ci Az nz cz ls li lz) (hD : D0 ≤ u.heap.size) (hs : ns ≤ 16777216) (hi : ni ≤ 16777216) (nA tW : Addr) (E : Errs u nA tW) (a b : Int) (ha : J64 a) (hb : J64 b)
    (hu : Below u.heap.size u w) (mb tb lb db : Nat) (hm : u.heap.size ≤ mb) (lim dou : Int) (hT : Tab w mb tb lb db lim dou 0) (hd0 : 0 ≤ dou) (hd1 : dou ≤ 360) (from_ till : Int) (hf : J64 from_) (ht : J64 till)
    (H : Int → Bool) (hH : ∀ t, decide (sightI lim dou (gapAt ls li a b t) = 2) = H t) :
    Calls Tryz.prog 147 #[.iface 69 (.agg #[.int .i64 P, .slice As ns cs, .slice Ai ni ci, .int .i64 R, .int .i64 X, .int .i64 V, .int .i64 U, .int .i64 D, .slice Az nz cz, .int .i64 Q, .int .i64 a, .int .i64 b, .func (.func 124) #[] #[.pointer (some ⟨tb, 0, none⟩), .pointer (some ⟨lb, 0, none⟩), .pointer (some ⟨db, 0, none⟩)]]), .int .i64 from_, .int .i64 till] w fun e w' => ∃ A' n' c', e = .returned (.slice A' n' c') ∧ Own w' u.heap.size 83 2 A' n' c' (sv (winOf H from_ till)) ∧ Below u.heap.size u w' := by
  obtain ⟨i0, hi0, hy0, hy1, hy2⟩ := info_parts span_info
  obtain ⟨lo, hlo⟩ : ∃ z, lowT from_ = z := ⟨_, rfl⟩
  obtain ⟨hi', hhi⟩ : ∃ z, highT till = z := ⟨_, rfl⟩
  have q1 := low_bd from_ hf; have q2 := high_bd till
  rw [hlo] at q1; rw [hhi] at q2
  have HW : Hid (winOf H from_ till = joinOf (units H lo (hi' - lo).toNat)) := Lib.hid (by rw [← hlo, ← hhi]; rfl)
  have HLO := Lib.hid hlo; have HHI := Lib.hid hhi; have HTO := Lib.hid ht
  have O0 := Lib.hid (Own.made0 w w.heap.size 83 (Nat.le_refl _))
  have HA := Lib.hid (And.intro ha hb); have HDD := Lib.hid (And.intro hd0 hd1)
  have hlt := hT.lt
  have HLT : Hid (mb < w.heap.size ∧ tb < w.heap.size ∧ lb < w.heap.size ∧ db < w.heap.size) := Lib.hid hlt
  have HT := Lib.hid hT
  have HU := Lib.hid hu; have HM := Lib.hid hm; have HE := Lib.hid E; have HS := Lib.hid h; have HD := Lib.hid hD
  have HH := Lib.hid hH
  clear hlo hhi hf ht ha hb hd0 hd1 hlt hT hu hm E h hD hH
  go_enter Tryz.func147, Tryz.ntmps147
  go_wp2_with fail
  refine (ibetween _ from_ till lo hi' HTO.out HLO.out HHI.out).mono ?_
  rintro e w2 ⟨rfl, b2⟩
  have s2 : w.heap.size + 1 ≤ w2.heap.size := by have := b2.size; simpa using this
  obtain ⟨ga, hga⟩ : ∃ g, g = w2.heap.size := ⟨_, rfl⟩
  obtain ⟨W1, hW1⟩ : ∃ W, W = w2.alloc (.cells #[.int .i64 lo, .int .i64 hi'] 83) := ⟨_, rfl⟩
  have B1 : Below w.heap.size w W1 := by rw [hW1]; exact (((Below.refl w.heap.size w).alloc (Nat.le_refl _) _).trans (b2.mono (by simp))).alloc (by omega) _
  have hfirst : Hid (Own W1 w.heap.size 83 2 (some ⟨w.heap.size, 0, none⟩) 0 0 (sv (units H lo 0)) ∧ ((Value.slice (some ⟨w.heap.size, 0, none⟩) 0 0).ownBlock ≠ some ga) ∧ Tab W1 mb tb lb db lim dou 0 ∧ Blk W1 ga 83 #[.int .i64 lo, .int .i64 hi'] ∧ w.grownBy W1 (some mb)) := Lib.hid (by
    refine ⟨?_, ?_, HT.out.on B1, ?_, grown_of_below B1 _⟩
    · rw [hW1]; exact (O0.out.on b2).on ((Below.refl w2.heap.size w2).alloc (Nat.le_refl _) _)
    · simp [Value.ownBlock]; omega
    · rw [hW1, hga]; exact Blk.new _ _ _)
  clear O0 b2 B1
  go_wp2_with fail
  rw [← hW1, ← hga]
  have HGA : Hid (w.heap.size < ga) := Lib.hid (by omega)
  clear hW1 s2 hga
  have A1 := hfirst.out.2.2.2.1
  have a0 : W1.cell? ⟨ga, 0, none⟩ = some (.int .i64 lo) := A1.cell 0
  have a1 : W1.cell? ⟨ga, 1, none⟩ = some (.int .i64 hi') := A1.cell 1
  clear A1
  go_wp2_with fail
  go_loopw [7, 9] (fun v i wr => ∃ (k : Nat) (A1 : Option Addr) (n1 c1 : Nat), k ≤ (hi' - lo).toNat ∧ i = .int .i64 (lo + k) ∧ v = .slice A1 n1 c1 ∧ Own wr w.heap.size 83 2 A1 n1 c1 (sv (units H lo k)) ∧ ((Value.slice A1 n1 c1).ownBlock ≠ some ga) ∧ Tab wr mb tb lb db lim dou k ∧ Blk wr ga 83 #[.int .i64 lo, .int .i64 hi'] ∧ w.grownBy wr (some mb)) (fun _ i _ => (hi' - intOf i).toNat)
  case atStart => exact ⟨0, _, _, _, Nat.zero_le _, by simp, rfl, hfirst.out⟩
  case round =>
    clear hfirst a0 a1
    obtain ⟨k, A1, n1, c1, hk, rfl, rfl, ho, hne, hTk, hga, hg⟩ := hrel
    have a1 : wr.cell? ⟨ga, 1, none⟩ = some (.int .i64 hi') := hga.cell 1
    have HO := Lib.hid ho; have HNE := Lib.hid hne; have HTK := Lib.hid hTk; have HGG := Lib.hid hga; have HG := Lib.hid hg
    have BU : Hid (Below u.heap.size u wr) := Lib.hid (HU.out.grown hg HU.out.size (fun j hj => by injection hj with hj; rw [← hj]; exact HM.out))
    clear ho hne hTk hga hg
    by_cases hlt : lo + (k : Int) < hi'
    · have hk1 : k + 1 ≤ (hi' - lo).toNat := by omega
      have hk2 : (k : Int) < 1000 := by omega
      obtain ⟨t, ht⟩ : ∃ t, lo + (k : Int) = t := ⟨_, rfl⟩
      have htb : 0 ≤ t ∧ t < 1000 := by omega
      obtain ⟨v, hv⟩ : ∃ v, H t = v := ⟨_, rfl⟩
      have HV : Hid (decide (sightI lim dou (gapAt ls li a b t) = 2) = v) := Lib.hid ((HH.out t).trans hv)
      have HR : Hid (units H lo (k + 1) = if v = true then units H lo k ++ [(t, t + 1)] else units H lo k) := Lib.hid (by
        show (if H (lo + k) = true then units H lo k ++ [(lo + (k : Int), lo + (k : Int) + 1)] else units H lo k) = _
        rw [ht, hv])
      have HTT : Hid (lo + ((k + 1 : Nat) : Int) = t + 1) := Lib.hid (by omega)
      have hmt : Hid (t < hi') := Lib.hid (by omega)
      rw [ht] at hlt ⊢
      clear hv ht
      go_wp2_with fail
      refine (iholds wr P R X V U D Q ns ni nz ls li lz As cs Ai ci Az cz D0 (HS.out.below BU.out HD.out) (Nat.le_trans HD.out BU.out.size) hs hi nA tW (HE.out.below BU.out) a b HA.out.1 HA.out.2 mb tb lb db lim dou k HTK.out (by omega) HDD.out.1 HDD.out.2 t v HV.out).mono ?_
      rintro e w3 ⟨rfl, hT3, g3⟩
      have O3 := Lib.hid (HO.out.kept g3 (by
        rcases HO.out.blk with h1 | ⟨g, h1, h2, h3⟩
        · exact .inl h1
        · right; rw [h1]; intro e; injection e with e; have := HLT.out.1; omega))
      have T3 := Lib.hid hT3
      have A3 : Hid (Blk w3 ga 83 #[.int .i64 lo, .int .i64 hi']) := Lib.hid (HGG.out.grownR g3 (by intro e; injection e with e; have := HLT.out.1; have := HGA.out; omega))
      have G3 := Lib.hid (HG.out.trans g3)
      have S3 : Hid (w.heap.size ≤ w3.heap.size ∧ ga < w3.heap.size) := Lib.hid ⟨G3.out.size, A3.out.lt⟩
      clear hT3 g3 HO HTK HGG HG a1 BU
      cases v
      · have HF : Hid (Own w3 w.heap.size 83 2 A1 n1 c1 (sv (units H lo (k + 1)))) := Lib.hid (by rw [HR.out]; exact O3.out)
        go_wp2_with fail
        go_roundw
        case rel => exact ⟨k + 1, A1, n1, c1, hk1, by rw [HTT.out], rfl, HF.out, HNE.out, T3.out, A3.out, G3.out⟩
        case measure => have := hmt.out; simp [intOf]; omega
      · obtain ⟨L, hL⟩ : ∃ L, units H lo k = L := ⟨_, rfl⟩
        have hLn : L.length ≤ k := by rw [← hL]; exact units_len H lo k
        rw [hL] at O3 HR
        have hn1 : n1 = L.length := by have h2 := O3.out.len; rw [sv_len] at h2; omega
        subst hn1
        have hcap := O3.out.capm
        obtain ⟨W3, hW3⟩ : ∃ W, W = w3.alloc (.cells #[.int .i64 t, .int .i64 (t + 1)] 83) := ⟨_, rfl⟩
        have B3 : Below w3.heap.size w3 W3 := by rw [hW3]; exact (Below.refl _ _).alloc (Nat.le_refl _) _
        have O4 := Lib.hid (O3.out.on B3)
        have hsz3 : w.heap.size ≤ W3.heap.size := Nat.le_trans S3.out.1 B3.size
        have T4 := Lib.hid (T3.out.on B3)
        have A4 := Lib.hid (A3.out.below B3 A3.out.lt)
        have G4 := Lib.hid (G3.out.trans (grown_of_below B3 (some mb)))
        have SL : Hid (Sl W3 (w3.heap.size + 1) 2 (some ⟨w3.heap.size, 0, none⟩) 1 1 [.int .i64 t, .int .i64 (t + 1)]) := Lib.hid (by rw [hW3]; exact Sl.one2 w3 _ _ _)
        have hb16 : (L.length + 1) * 16 ≤ 140737488355328 := by omega
        have HL := Lib.hid hL
        clear hL O3 T3 A3 G3 B3
        go_wp2_with (at_builtin; go_loud (rw [← hW3]; refine wpList_append_sl _ rfl (.tmp 25) (.tmp 30) 89 rfl w.heap.size 83 i0 _ 2 16 Tryz.underlying89 hi0 hy0 hy1 hy2 rfl (by omega) A1 L.length c1 (sv L) rfl O4.out (w3.heap.size + 1) _ 1 1 [.int .i64 t, .int .i64 (t + 1)] rfl SL.out (by simp [Value.oneCell']) (by omega) hb16 hsz3 ?_; intro A5 c5 w5 hown5 hg5 hat5; have HF : Hid (Own w5 w.heap.size 83 2 A5 (L.length + 1) c5 (sv (units H lo (k + 1))) ∧ ((Value.slice A5 (L.length + 1) c5).ownBlock ≠ some ga) ∧ Tab w5 mb tb lb db lim dou (k + 1) ∧ Blk w5 ga 83 #[.int .i64 lo, .int .i64 hi'] ∧ w.grownBy w5 (some mb)) := Lib.hid (appended HR.out HNE.out HLT.out HGA.out O4.out T4.out A4.out G4.out hown5 hg5 hat5); clear hown5 hg5 hat5))
        go_roundw
        case rel => exact ⟨k + 1, A5, L.length + 1, c5, hk1, by rw [HTT.out], rfl, HF.out⟩
        case measure => have := hmt.out; simp [intOf]; omega
    · have hk3 : Hid (k = (hi' - lo).toNat) := Lib.hid (by omega)
      have hlt' : ¬ (lo + (k : Int) < hi') := hlt
      go_wp2_with fail
      refine (ijoin wr wr.heap.size A1 n1 c1 (units H lo k) HO.out.sl (Nat.le_refl _)).mono ?_
      rintro e w4 ⟨A4, n4, c4, rfl, o4, b4⟩
      have HF : Hid (Own w4 u.heap.size 83 2 A4 n4 c4 (sv (winOf H from_ till)) ∧ Below u.heap.size u w4) := Lib.hid ⟨by rw [HW.out, ← hk3.out]; exact o4.fewer BU.out.size, BU.out.trans (b4.mono BU.out.size)⟩
      clear o4 b4
      go_wp2
      go_ret
      exact ⟨A4, n4, c4, rfl, HF.out⟩
end Go.Proofs.YtlaigbhiligceaaGreatDoor
namespace Go.Proofs.YtlaigbhiligceaaGreatDoor
open Go.ChangeShapes Go.WideShapes Go.ChangeAt Go.RowKit Go.Maps
set_option linter.unusedVariables false
set_option maxRecDepth 100000 in
theorem isurewin (w : World) (P R X V U D Q : Int) (ns ni nz : Nat) (ls : List Sat4) (li lz : List Tri) (As : Option Addr) (cs : Nat) (Ai : Option Addr) (ci : Nat) (Az : Option Addr) (cz : Nat) (D0 : Nat) (h : InSky w (D0) As ns cs Ai ni ci Az nz cz ls li lz) (hD : D0 ≤ w.heap.size) (hs : ns ≤ 16777216) (hi : ni ≤ 16777216) (hP : J64 P) (hk1 : ∀ x ∈ ls, Ok4 x) (hk2 : ∀ x ∈ li, Ok3 x) (nA tW : Addr) (E : Errs w nA tW) (a b : Int) (ha : J64 a) (hb : J64 b)
    (from_ till : Int) (hf : J64 from_) (ht : J64 till) (H : Int → Bool) (hH : ∀ t, decide (sightOf P R X V ls li a b t = 2) = H t) :
    Calls Tryz.prog 123 #[.agg #[.int .i64 P, .slice As ns cs, .slice Ai ni ci, .int .i64 R, .int .i64 X, .int .i64 V, .int .i64 U, .int .i64 D, .slice Az nz cz, .int .i64 Q], .int .i64 a, .int .i64 b, .int .i64 from_, .int .i64 till] w (GivesS w (winOf H from_ till)) := by
  obtain ⟨W0, hW0⟩ : ∃ W, W = w.alloc (.cells #[.int .i64 P, .slice As ns cs, .slice Ai ni ci, .int .i64 R, .int .i64 X, .int .i64 V, .int .i64 U, .int .i64 D, .slice Az nz cz, .int .i64 Q] 28) := ⟨_, rfl⟩
  have T0 : Hid (Below w.heap.size w W0) := Lib.hid (by rw [hW0]; exact (Below.refl _ _).alloc (Nat.le_refl _) _)
  have E0 := Lib.hid (E.below T0.out)
  have H0 := Lib.hid (h.below T0.out hD)
  have HD : Hid (D0 ≤ W0.heap.size) := Lib.hid (Nat.le_trans hD T0.out.size)
  have Z0 : Hid (Blk W0 w.heap.size 28 #[.int .i64 P, .slice As ns cs, .slice Ai ni ci, .int .i64 R, .int .i64 X, .int .i64 V, .int .i64 U, .int .i64 D, .slice Az nz cz, .int .i64 Q]) := Lib.hid (by rw [hW0]; exact Blk.new _ _ _)
  have HA := Lib.hid (And.intro ha hb); have HP := Lib.hid hP; have HK := Lib.hid (And.intro hk1 hk2); have HF := Lib.hid (And.intro hf ht); have HH := Lib.hid hH
  have E9 := Lib.hid E; have H9 := Lib.hid h; have HD9 := Lib.hid hD
  clear h hD E ha hb hP hk1 hk2 hf ht hH
  obtain ⟨c0, c1, c2, c3, c4, c5, c6, c7, c8, c9⟩ := Z0.out.ten
  go_enter Tryz.func123, Tryz.ntmps123
  go_wp2_with fail
  rw [← hW0]
  clear hW0
  refine (iwatch W0 P R X V U D Q ns ni nz ls li lz As cs Ai ci Az cz D0 H0.out HD.out hs hi HP.out HK.out.1 HK.out.2 nA tW E0.out a b HA.out.1 HA.out.2 _ rfl _ rfl).mono ?_
  rintro e w1 ⟨⟨mb, tb, lb, db, rfl, hm, hT⟩, b1⟩
  have B1 := Lib.hid (T0.out.trans (b1.mono T0.out.size))
  have HM := Lib.hid (Nat.le_trans T0.out.size hm); have HT := Lib.hid hT
  have HB0 := Lib.hid (douOf_bd ls li a b)
  clear b1 hm hT c0 c1 c2 c3 c4 c5 c6 c7 c8 c9
  go_wp2_with fail
  refine (ispansof w w1 P R X V U D Q ns ni nz ls li lz As cs Ai ci Az cz D0 H9.out HD9.out hs hi nA tW E9.out a b HA.out.1 HA.out.2 B1.out mb tb lb db HM.out _ _ HT.out HB0.out.1 (by have := HB0.out.2; omega) from_ till HF.out.1 HF.out.2 H HH.out).mono ?_
  rintro e w2 ⟨A2, n2, c2, rfl, o2, b2⟩
  have HG : Hid (GivesS w (winOf H from_ till) (.returned (.slice A2 n2 c2)) w2) := Lib.hid ⟨_, _, _, rfl, o2, b2⟩
  clear o2 b2
  go_wp2
  go_ret
  exact HG.out
end Go.Proofs.YtlaigbhiligceaaGreatDoor
