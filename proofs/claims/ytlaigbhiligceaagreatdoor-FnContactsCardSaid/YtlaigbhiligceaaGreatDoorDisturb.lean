/- The program's zones by plane: groupOf, zonesByPlane, anyMeets. The program's anyMeets: whether a zone of a group has an angle of an arc. The program's disturbance, its closure, and MayDisturb. -/
import Derived.Test.YtlaigbhiligceaaGreatDoorSilence
import Derived.Test.YtlaigbhiligceaaGreatDoorApart
import Derived.Test.YtlaigbhiligceaaGreatDoorSkyCopies
import Derived.Deep.RegionLaw
import Derived.Deep.AppendLies
import Derived.Deep.Cut
import Derived.Deep.DeepCutAuto
import Derived.Test.YtlaigbhiligceaaGreatDoorPlaces
import Derived.Deep.RegionHeld3
namespace Go.Proofs.YtlaigbhiligceaaGreatDoor
open Go.ChangeShapes Go.WideShapes Go.ChangeAt Go.RowKit
set_option linter.unusedVariables false
theorem grp_snoc (lz : List Tri) (z : Tri) (i : Int) : grp (lz ++ [z]) i = if z.p % 4 = i then grp lz i ++ [z] else grp lz i := by
  unfold grp
  rw [List.filter_append]
  by_cases h : z.p % 4 = i
  · rw [if_pos h]; simp [h]
  · rw [if_neg h]; simp [h]
/-- the groups in block gG, each a row of one's own -/
structure Grp (w : World) (gG : Nat) (A : Nat → Option Addr) (n c : Nat → Nat) (lz : List Tri) : Prop where
  b : Blk w gG 127 #[.slice (A 0) (n 0) (c 0), .slice (A 1) (n 1) (c 1), .slice (A 2) (n 2) (c 2), .slice (A 3) (n 3) (c 3)]
  o : ∀ i : Nat, i < 4 → Own w (gG + 1) 118 3 (A i) (n i) (c i) (fl c3 (grp lz i))
  a : ∀ i j : Nat, i < 4 → j < 4 → i ≠ j → Apart (A i) (A j)
section
variable {w w' : World} {gG : Nat} {A : Nat → Option Addr} {n c : Nat → Nat} {lz : List Tri}
theorem Grp.below (h : Grp w gG A n c lz) (hb : Below w.heap.size w w') : Grp w' gG A n c lz := ⟨h.b.below hb h.b.lt, fun i hi => (h.o i hi).on hb, h.a⟩
theorem Grp.num (h : Grp w gG A n c lz) {i : Nat} (hi : i < 4) : n i ≤ lz.length := by
  have := (h.o i hi).sl.num c3_len (by omega)
  rw [this]; exact List.length_filter_le _ _
/-- a zone appended to its group, and the slice stored -/
theorem Grp.more (h : Grp w gG A n c lz) {i : Nat} (hi : i < 4) {z : Tri} (hz : z.p % 4 = (i : Int)) {A2 : Option Addr} {c2 : Nat} (ho : Own w' (gG + 1) 118 3 A2 (n i + 1) c2 (fl c3 (grp lz i) ++ c3 z)) (hg : w.grownBy w' (Value.slice (A i) (n i) (c i)).ownBlock)
    (hat : (Value.slice A2 (n i + 1) c2).ownBlock = (Value.slice (A i) (n i) (c i)).ownBlock ∨ (Value.slice A2 (n i + 1) c2).ownBlock = some w.heap.size) :
    Grp (w'.setCell ⟨gG, i, none⟩ (.slice A2 (n i + 1) c2)) gG (fun j => if j = i then A2 else A j) (fun j => if j = i then n i + 1 else n j) (fun j => if j = i then c2 else c j) (lz ++ [z]) := by
  have hb : Blk w' gG _ _ := h.b.grown' ((h.o i hi).low (Nat.lt_succ_self _)) hg
  have key : ∀ a, A2 = some a → (∃ b, A i = some b ∧ b.block = a.block) ∨ a.block = w.heap.size := by
    intro a ea
    subst ea
    rcases hat with e | e
    · rcases hA : A i with _ | b
      · rw [hA] at e; simp [Value.ownBlock] at e
      · rw [hA] at e; simp [Value.ownBlock] at e
        exact .inl ⟨b, rfl, e.symm⟩
    · simp [Value.ownBlock] at e
      exact .inr e
  have hap : ∀ j, j < 4 → j ≠ i → Apart A2 (A j) := fun j hj hne a b ha hb2 => by
    rcases key a ha with ⟨b', hb1, hb3⟩ | e
    · rw [← hb3]; exact h.a i j hi hj (Ne.symm hne) b' b hb1 hb2
    · rw [e]; exact fun e2 => (h.o j hj).notAt (Nat.le_refl _) b hb2 e2.symm
  refine ⟨?_, fun j hj => ?_, fun j k hj hk hne => ?_⟩
  · have hs := hb.set_ i (.slice A2 (n i + 1) c2)
    have hi4 : i = 0 ∨ i = 1 ∨ i = 2 ∨ i = 3 := by omega
    rcases hi4 with rfl | rfl | rfl | rfl <;> simpa using hs
  · by_cases e : j = i
    · subst e
      simp only [if_pos trivial]
      rw [grp_snoc, if_pos hz, fl_app]
      have := ho.far (p := ⟨gG, j, none⟩) (Nat.lt_succ_self _) (.slice A2 (n j + 1) c2)
      simpa [fl] using this
    · simp only [if_neg e]
      rw [grp_snoc, if_neg (by rw [hz]; omega)]
      refine Own.far ((h.o j hj).kept hg ?_) (p := ⟨gG, i, none⟩) (Nat.lt_succ_self _) _
      rcases hA : A j with _ | a
      · exact .inl rfl
      · right
        intro e2
        rcases hB : A i with _ | b
        · rw [hB] at e2; simp [Value.ownBlock] at e2
        · rw [hB] at e2; simp [Value.ownBlock] at e2
          exact h.a j i hj hi e a b hA hB e2
  · by_cases e : j = i
    · subst e
      simp only [if_pos trivial]
      rw [if_neg (fun e => hne e.symm)]
      exact hap k hk (fun e => hne e.symm)
    · simp only [if_neg e]
      by_cases e2 : k = i
      · subst e2
        simp only [if_pos trivial]
        exact fun a b ha hb2 e3 => hap j hj e b a hb2 ha e3.symm
      · simp only [if_neg e2]
        exact h.a j k hj hk hne
end
theorem igroup (p i : Int) (h : p % 4 = i) (w : World) : Calls Tryz.prog 129 #[.int .i64 p] w fun e w' => e = .returned (.int .i64 i) ∧ w = w' := by
  have hm : modf p 4 = i := by unfold modf; rw [if_pos (by omega)]; exact h
  go_enter Tryz.func129, Tryz.ntmps129
  go_wp2_with fail
  refine (imod p 4 _).mono ?_
  rintro e w' ⟨rfl, rfl⟩
  rw [hm]
  go_wp2
  go_ret
  exact ⟨rfl, rfl⟩
/-- what zonesByPlane answers -/
def GotGrp (w : World) (lz : List Tri) (e : Ending) (w' : World) : Prop :=
  (∃ (A : Nat → Option Addr) (n c : Nat → Nat), e = .returned (.agg #[.slice (A 0) (n 0) (c 0), .slice (A 1) (n 1) (c 1), .slice (A 2) (n 2) (c 2), .slice (A 3) (n 3) (c 3)]) ∧ ∀ i : Nat, i < 4 → Own w' w.heap.size 118 3 (A i) (n i) (c i) (fl c3 (grp lz i))) ∧ Below w.heap.size w w'
set_option maxRecDepth 100000 in
set_option maxHeartbeats 2000000 in
theorem izones (w : World) (D : Nat) (Az : Option Addr) (nz cz : Nat) (lz : List Tri) (h : Sl w D 3 Az nz cz (fl c3 lz)) (hD : D ≤ w.heap.size) (hn : nz ≤ 16777216) :
    Calls Tryz.prog 79 #[.slice Az nz cz] w (GotGrp w lz) := by
  obtain ⟨i0, hi, hy0, hy1, hy2⟩ := info_parts zone_info
  obtain rfl := h.num c3_len (by omega)
  obtain ⟨W0, hW0⟩ : ∃ W, W = (w.alloc (.cells #[.slice none 0 0, .slice none 0 0, .slice none 0 0, .slice none 0 0] 127)).alloc (.cells #[.slice none 0 0, .slice none 0 0, .slice none 0 0, .slice none 0 0] 127) := ⟨_, rfl⟩
  have T0 : Hid (Below w.heap.size w W0) := Lib.hid (by rw [hW0]; exact ((Below.refl _ _).alloc (Nat.le_refl _) _).alloc (by simp) _)
  have R0 : Hid (Blk W0 w.heap.size 127 #[.slice none 0 0, .slice none 0 0, .slice none 0 0, .slice none 0 0]) := Lib.hid (by rw [hW0]; exact (Blk.new _ _ _).alloc _)
  obtain ⟨gG, hG⟩ : ∃ g, g = w.heap.size + 1 := ⟨_, rfl⟩
  have G0 : Hid (Grp W0 gG (fun _ => none) (fun _ => 0) (fun _ => 0) (lz.take 0)) := Lib.hid ⟨by
    rw [hW0, hG]
    have h := Blk.new (w.alloc (.cells #[.slice none 0 0, .slice none 0 0, .slice none 0 0, .slice none 0 0] 127)) 127 #[.slice none 0 0, .slice none 0 0, .slice none 0 0, .slice none 0 0]
    simpa using h, fun i _ => Own.empty _ _ _ _, fun i j _ _ _ => Apart.none_l _⟩
  have HS := Lib.hid h
  have hgl : w.heap.size < gG := by omega
  clear h
  go_enter Tryz.func79, Tryz.ntmps79
  go_wp2_with fail
  rw [← hG, ← hW0]
  clear hW0 hG
  go_loopw [10] (fun i wr => ∃ (k : Nat) (A : Nat → Option Addr) (n c : Nat → Nat), k ≤ lz.length ∧ i = .int .i64 k ∧ Grp wr gG A n c (lz.take k) ∧ Blk wr w.heap.size 127 #[.slice none 0 0, .slice none 0 0, .slice none 0 0, .slice none 0 0] ∧ Below w.heap.size w wr) (fun i _ => lz.length - (intOf i).toNat)
  case atStart => exact ⟨0, _, _, _, Nat.zero_le _, rfl, G0.out, R0.out, T0.out⟩
  case round =>
    clear G0 R0 T0
    obtain ⟨k, A, n, c, hk, rfl, hg, hr, hb⟩ := hrel
    have HG := Lib.hid hg; have HR := Lib.hid hr; have HB := Lib.hid hb
    clear hg hr hb
    by_cases hlt : k < lz.length
    case pos =>
      obtain ⟨ad, hx, rfl, had, q0, q1, q2⟩ := (HS.out.below HB.out hD).tri hlt
      obtain ⟨z, hz⟩ : ∃ z, z = lz[k] := ⟨_, rfl⟩
      rw [← hz] at q0 q1 q2
      have HT : Hid (lz.take (k + 1) = lz.take k ++ [z]) := Lib.hid (by rw [hz]; exact List.take_succ_eq_append_getElem hx)
      obtain ⟨p, a, b⟩ := z
      simp only at q0 q1 q2
      have hkl : (lz.take k).length ≤ k := by rw [List.length_take]; omega
      have hm : p % 4 = 0 ∨ p % 4 = 1 ∨ p % 4 = 2 ∨ p % 4 = 3 := by omega
      clear hz
      rcases hm with hm | hm | hm | hm
      · have hn1 := HG.out.num (i := 0) (by omega)
        have HM := Lib.hid hm
        clear hm
        go_wp2_with fail
        refine (igroup p 0 HM.out _).mono ?_
        rintro e w' ⟨rfl, rfl⟩
        go_upto_region 6 with fail
        obtain ⟨gz, hgz⟩ : ∃ g, g = wr.heap.size := ⟨_, rfl⟩
        obtain ⟨W6, hW6⟩ : ∃ W, W = wr.alloc (.cells #[.int .i64 p, .int .i64 a, .int .i64 b] 118) := ⟨_, rfl⟩
        have G6 : Grp W6 gG A n c (lz.take k) := by rw [hW6]; exact HG.out.below ((Below.refl _ _).alloc (Nat.le_refl _) _)
        have Z6 : Blk W6 gz 118 #[.int .i64 p, .int .i64 a, .int .i64 b] := by rw [hW6, hgz]; exact Blk.new _ _ _
        have R6 : Hid (Blk W6 w.heap.size 127 #[.slice none 0 0, .slice none 0 0, .slice none 0 0, .slice none 0 0]) := Lib.hid (by rw [hW6]; exact HR.out.alloc _)
        have B6 : Hid (Below w.heap.size w W6) := Lib.hid (by rw [hW6]; exact HB.out.alloc HB.out.size _)
        rw [← hW6, ← hgz]
        have d0 : W6.cell? ⟨gG, 0, none⟩ = some (.slice (A 0) (n 0) (c 0)) := G6.b.cell 0
        have x0 : W6.cell? ⟨gz, 0, none⟩ = some (.int .i64 p) := Z6.cell 0
        have x1 : W6.cell? ⟨gz, 1, none⟩ = some (.int .i64 a) := Z6.cell 1
        have x2 : W6.cell? ⟨gz, 2, none⟩ = some (.int .i64 b) := Z6.cell 2
        have SC := Lib.hid (G6.below ((Below.refl W6.heap.size W6).drew.alloc (Nat.le_refl _) (.cells #[.int .i64 p, .int .i64 a, .int .i64 b] 118)))
        have RC := Lib.hid ((R6.out.drew).alloc (.cells #[.int .i64 p, .int .i64 a, .int .i64 b] 118))
        have BC := Lib.hid (B6.out.drew.alloc B6.out.size (.cells #[.int .i64 p, .int .i64 a, .int .i64 b] 118))
        have hgs : gG < W6.heap.size := G6.b.lt
        clear hW6 hgz G6 Z6 R6 B6 q0 q1 q2 had
        obtain ⟨A', hA'⟩ : ∃ x, x = A 0 := ⟨_, rfl⟩
        obtain ⟨n', hn'⟩ : ∃ x, x = n 0 := ⟨_, rfl⟩
        obtain ⟨c', hc'⟩ : ∃ x, x = c 0 := ⟨_, rfl⟩
        have OC := Lib.hid (SC.out.o 0 (by omega))
        rw [← hA', ← hn', ← hc'] at d0 OC
        rw [← hn'] at hn1
        have hn2 : n' ≤ 16777216 := by omega
        have HE := Lib.hid (And.intro hA' (And.intro hn' hc'))
        clear hA' hn' hc'
        go_region_law (first
          | (refine step_append_sl _ (by rfl) _ _ 26 (by rfl) (gG + 1) 118 i0 _ 3 24 Tryz.underlying26 hi hy0 hy1 hy2 rfl (by omega) A' n' c' _ (by rfl) OC.out (W6.heap.size + 1) _ 1 1 [.int .i64 p, .int .i64 a, .int .i64 b] (by rfl) (Sl.one3 W6.drew _ _ _ _) (by simp [Value.oneCell']) (by omega) (by omega) (Nat.le_trans hgs (by simp)) ?_; intro A3 cc3 w3 hown3 hg3 hat3; have SF := Lib.hid (SC.out.more (i := 0) (by omega) (z := ⟨p, a, b⟩) HM.out (by rw [← HE.out.2.1]; exact hown3) (by rw [← HE.out.1, ← HE.out.2.1, ← HE.out.2.2]; exact hg3) (by rw [← HE.out.1, ← HE.out.2.1, ← HE.out.2.2]; exact hat3)); have BB := SC.out.b.grown' (OC.out.low (Nat.lt_succ_self _)) hg3; have d1 : w3.cell? ⟨gG, 0, none⟩ = some (.slice A' n' c') := (by rw [HE.out.1, HE.out.2.1, HE.out.2.2]; first | done | exact BB.cell 0); have f1 := BB.frozen 0; have RR := Lib.hid (RC.out.grown' (OC.out.low (by omega)) hg3); have B3 := Lib.hid (BC.out.grown hg3 BC.out.size (fun j hj => by have := (OC.out.row.lt j hj).1; omega)); clear hown3 hg3 hat3 BB))
        all_goals
          have HR2 := Lib.hid (RR.out.far (p := ⟨gG, 0, none⟩) (Nat.ne_of_lt hgl) (.slice A3 (n' + 1) cc3))
          have HB2 := Lib.hid (B3.out.setCell (p := ⟨gG, 0, none⟩) (Nat.le_of_lt hgl) (.slice A3 (n' + 1) cc3))
          have HF := Lib.hid SF.out
          rw [← HE.out.2.1] at HF
          clear SF RR B3 SC RC BC OC HG HR HB x0 x1 x2 d0
          go_wp2
          go_roundw
          case rel => exact ⟨k + 1, _, _, _, by omega, by go_num, by rw [HT.out]; exact HF.out, HR2.out, HB2.out⟩
          case measure => simp [intOf]; omega
      · have hn1 := HG.out.num (i := 1) (by omega)
        have HM := Lib.hid hm
        clear hm
        go_wp2_with fail
        refine (igroup p 1 HM.out _).mono ?_
        rintro e w' ⟨rfl, rfl⟩
        go_upto_region 6 with fail
        obtain ⟨gz, hgz⟩ : ∃ g, g = wr.heap.size := ⟨_, rfl⟩
        obtain ⟨W6, hW6⟩ : ∃ W, W = wr.alloc (.cells #[.int .i64 p, .int .i64 a, .int .i64 b] 118) := ⟨_, rfl⟩
        have G6 : Grp W6 gG A n c (lz.take k) := by rw [hW6]; exact HG.out.below ((Below.refl _ _).alloc (Nat.le_refl _) _)
        have Z6 : Blk W6 gz 118 #[.int .i64 p, .int .i64 a, .int .i64 b] := by rw [hW6, hgz]; exact Blk.new _ _ _
        have R6 : Hid (Blk W6 w.heap.size 127 #[.slice none 0 0, .slice none 0 0, .slice none 0 0, .slice none 0 0]) := Lib.hid (by rw [hW6]; exact HR.out.alloc _)
        have B6 : Hid (Below w.heap.size w W6) := Lib.hid (by rw [hW6]; exact HB.out.alloc HB.out.size _)
        rw [← hW6, ← hgz]
        have d0 : W6.cell? ⟨gG, 1, none⟩ = some (.slice (A 1) (n 1) (c 1)) := G6.b.cell 1
        have x0 : W6.cell? ⟨gz, 0, none⟩ = some (.int .i64 p) := Z6.cell 0
        have x1 : W6.cell? ⟨gz, 1, none⟩ = some (.int .i64 a) := Z6.cell 1
        have x2 : W6.cell? ⟨gz, 2, none⟩ = some (.int .i64 b) := Z6.cell 2
        have SC := Lib.hid (G6.below ((Below.refl W6.heap.size W6).drew.alloc (Nat.le_refl _) (.cells #[.int .i64 p, .int .i64 a, .int .i64 b] 118)))
        have RC := Lib.hid ((R6.out.drew).alloc (.cells #[.int .i64 p, .int .i64 a, .int .i64 b] 118))
        have BC := Lib.hid (B6.out.drew.alloc B6.out.size (.cells #[.int .i64 p, .int .i64 a, .int .i64 b] 118))
        have hgs : gG < W6.heap.size := G6.b.lt
        clear hW6 hgz G6 Z6 R6 B6 q0 q1 q2 had
        obtain ⟨A', hA'⟩ : ∃ x, x = A 1 := ⟨_, rfl⟩
        obtain ⟨n', hn'⟩ : ∃ x, x = n 1 := ⟨_, rfl⟩
        obtain ⟨c', hc'⟩ : ∃ x, x = c 1 := ⟨_, rfl⟩
        have OC := Lib.hid (SC.out.o 1 (by omega))
        rw [← hA', ← hn', ← hc'] at d0 OC
        rw [← hn'] at hn1
        have hn2 : n' ≤ 16777216 := by omega
        have HE := Lib.hid (And.intro hA' (And.intro hn' hc'))
        clear hA' hn' hc'
        go_region_law (first
          | (refine step_append_sl _ (by rfl) _ _ 26 (by rfl) (gG + 1) 118 i0 _ 3 24 Tryz.underlying26 hi hy0 hy1 hy2 rfl (by omega) A' n' c' _ (by rfl) OC.out (W6.heap.size + 1) _ 1 1 [.int .i64 p, .int .i64 a, .int .i64 b] (by rfl) (Sl.one3 W6.drew _ _ _ _) (by simp [Value.oneCell']) (by omega) (by omega) (Nat.le_trans hgs (by simp)) ?_; intro A3 cc3 w3 hown3 hg3 hat3; have SF := Lib.hid (SC.out.more (i := 1) (by omega) (z := ⟨p, a, b⟩) HM.out (by rw [← HE.out.2.1]; exact hown3) (by rw [← HE.out.1, ← HE.out.2.1, ← HE.out.2.2]; exact hg3) (by rw [← HE.out.1, ← HE.out.2.1, ← HE.out.2.2]; exact hat3)); have BB := SC.out.b.grown' (OC.out.low (Nat.lt_succ_self _)) hg3; have d1 : w3.cell? ⟨gG, 1, none⟩ = some (.slice A' n' c') := (by rw [HE.out.1, HE.out.2.1, HE.out.2.2]; first | done | exact BB.cell 1); have f1 := BB.frozen 1; have RR := Lib.hid (RC.out.grown' (OC.out.low (by omega)) hg3); have B3 := Lib.hid (BC.out.grown hg3 BC.out.size (fun j hj => by have := (OC.out.row.lt j hj).1; omega)); clear hown3 hg3 hat3 BB))
        all_goals
          have HR2 := Lib.hid (RR.out.far (p := ⟨gG, 1, none⟩) (Nat.ne_of_lt hgl) (.slice A3 (n' + 1) cc3))
          have HB2 := Lib.hid (B3.out.setCell (p := ⟨gG, 1, none⟩) (Nat.le_of_lt hgl) (.slice A3 (n' + 1) cc3))
          have HF := Lib.hid SF.out
          rw [← HE.out.2.1] at HF
          clear SF RR B3 SC RC BC OC HG HR HB x0 x1 x2 d0
          go_wp2
          go_roundw
          case rel => exact ⟨k + 1, _, _, _, by omega, by go_num, by rw [HT.out]; exact HF.out, HR2.out, HB2.out⟩
          case measure => simp [intOf]; omega
      · have hn1 := HG.out.num (i := 2) (by omega)
        have HM := Lib.hid hm
        clear hm
        go_wp2_with fail
        refine (igroup p 2 HM.out _).mono ?_
        rintro e w' ⟨rfl, rfl⟩
        go_upto_region 6 with fail
        obtain ⟨gz, hgz⟩ : ∃ g, g = wr.heap.size := ⟨_, rfl⟩
        obtain ⟨W6, hW6⟩ : ∃ W, W = wr.alloc (.cells #[.int .i64 p, .int .i64 a, .int .i64 b] 118) := ⟨_, rfl⟩
        have G6 : Grp W6 gG A n c (lz.take k) := by rw [hW6]; exact HG.out.below ((Below.refl _ _).alloc (Nat.le_refl _) _)
        have Z6 : Blk W6 gz 118 #[.int .i64 p, .int .i64 a, .int .i64 b] := by rw [hW6, hgz]; exact Blk.new _ _ _
        have R6 : Hid (Blk W6 w.heap.size 127 #[.slice none 0 0, .slice none 0 0, .slice none 0 0, .slice none 0 0]) := Lib.hid (by rw [hW6]; exact HR.out.alloc _)
        have B6 : Hid (Below w.heap.size w W6) := Lib.hid (by rw [hW6]; exact HB.out.alloc HB.out.size _)
        rw [← hW6, ← hgz]
        have d0 : W6.cell? ⟨gG, 2, none⟩ = some (.slice (A 2) (n 2) (c 2)) := G6.b.cell 2
        have x0 : W6.cell? ⟨gz, 0, none⟩ = some (.int .i64 p) := Z6.cell 0
        have x1 : W6.cell? ⟨gz, 1, none⟩ = some (.int .i64 a) := Z6.cell 1
        have x2 : W6.cell? ⟨gz, 2, none⟩ = some (.int .i64 b) := Z6.cell 2
        have SC := Lib.hid (G6.below ((Below.refl W6.heap.size W6).drew.alloc (Nat.le_refl _) (.cells #[.int .i64 p, .int .i64 a, .int .i64 b] 118)))
        have RC := Lib.hid ((R6.out.drew).alloc (.cells #[.int .i64 p, .int .i64 a, .int .i64 b] 118))
        have BC := Lib.hid (B6.out.drew.alloc B6.out.size (.cells #[.int .i64 p, .int .i64 a, .int .i64 b] 118))
        have hgs : gG < W6.heap.size := G6.b.lt
        clear hW6 hgz G6 Z6 R6 B6 q0 q1 q2 had
        obtain ⟨A', hA'⟩ : ∃ x, x = A 2 := ⟨_, rfl⟩
        obtain ⟨n', hn'⟩ : ∃ x, x = n 2 := ⟨_, rfl⟩
        obtain ⟨c', hc'⟩ : ∃ x, x = c 2 := ⟨_, rfl⟩
        have OC := Lib.hid (SC.out.o 2 (by omega))
        rw [← hA', ← hn', ← hc'] at d0 OC
        rw [← hn'] at hn1
        have hn2 : n' ≤ 16777216 := by omega
        have HE := Lib.hid (And.intro hA' (And.intro hn' hc'))
        clear hA' hn' hc'
        go_region_law (first
          | (refine step_append_sl _ (by rfl) _ _ 26 (by rfl) (gG + 1) 118 i0 _ 3 24 Tryz.underlying26 hi hy0 hy1 hy2 rfl (by omega) A' n' c' _ (by rfl) OC.out (W6.heap.size + 1) _ 1 1 [.int .i64 p, .int .i64 a, .int .i64 b] (by rfl) (Sl.one3 W6.drew _ _ _ _) (by simp [Value.oneCell']) (by omega) (by omega) (Nat.le_trans hgs (by simp)) ?_; intro A3 cc3 w3 hown3 hg3 hat3; have SF := Lib.hid (SC.out.more (i := 2) (by omega) (z := ⟨p, a, b⟩) HM.out (by rw [← HE.out.2.1]; exact hown3) (by rw [← HE.out.1, ← HE.out.2.1, ← HE.out.2.2]; exact hg3) (by rw [← HE.out.1, ← HE.out.2.1, ← HE.out.2.2]; exact hat3)); have BB := SC.out.b.grown' (OC.out.low (Nat.lt_succ_self _)) hg3; have d1 : w3.cell? ⟨gG, 2, none⟩ = some (.slice A' n' c') := (by rw [HE.out.1, HE.out.2.1, HE.out.2.2]; first | done | exact BB.cell 2); have f1 := BB.frozen 2; have RR := Lib.hid (RC.out.grown' (OC.out.low (by omega)) hg3); have B3 := Lib.hid (BC.out.grown hg3 BC.out.size (fun j hj => by have := (OC.out.row.lt j hj).1; omega)); clear hown3 hg3 hat3 BB))
        all_goals
          have HR2 := Lib.hid (RR.out.far (p := ⟨gG, 2, none⟩) (Nat.ne_of_lt hgl) (.slice A3 (n' + 1) cc3))
          have HB2 := Lib.hid (B3.out.setCell (p := ⟨gG, 2, none⟩) (Nat.le_of_lt hgl) (.slice A3 (n' + 1) cc3))
          have HF := Lib.hid SF.out
          rw [← HE.out.2.1] at HF
          clear SF RR B3 SC RC BC OC HG HR HB x0 x1 x2 d0
          go_wp2
          go_roundw
          case rel => exact ⟨k + 1, _, _, _, by omega, by go_num, by rw [HT.out]; exact HF.out, HR2.out, HB2.out⟩
          case measure => simp [intOf]; omega
      · have hn1 := HG.out.num (i := 3) (by omega)
        have HM := Lib.hid hm
        clear hm
        go_wp2_with fail
        refine (igroup p 3 HM.out _).mono ?_
        rintro e w' ⟨rfl, rfl⟩
        go_upto_region 6 with fail
        obtain ⟨gz, hgz⟩ : ∃ g, g = wr.heap.size := ⟨_, rfl⟩
        obtain ⟨W6, hW6⟩ : ∃ W, W = wr.alloc (.cells #[.int .i64 p, .int .i64 a, .int .i64 b] 118) := ⟨_, rfl⟩
        have G6 : Grp W6 gG A n c (lz.take k) := by rw [hW6]; exact HG.out.below ((Below.refl _ _).alloc (Nat.le_refl _) _)
        have Z6 : Blk W6 gz 118 #[.int .i64 p, .int .i64 a, .int .i64 b] := by rw [hW6, hgz]; exact Blk.new _ _ _
        have R6 : Hid (Blk W6 w.heap.size 127 #[.slice none 0 0, .slice none 0 0, .slice none 0 0, .slice none 0 0]) := Lib.hid (by rw [hW6]; exact HR.out.alloc _)
        have B6 : Hid (Below w.heap.size w W6) := Lib.hid (by rw [hW6]; exact HB.out.alloc HB.out.size _)
        rw [← hW6, ← hgz]
        have d0 : W6.cell? ⟨gG, 3, none⟩ = some (.slice (A 3) (n 3) (c 3)) := G6.b.cell 3
        have x0 : W6.cell? ⟨gz, 0, none⟩ = some (.int .i64 p) := Z6.cell 0
        have x1 : W6.cell? ⟨gz, 1, none⟩ = some (.int .i64 a) := Z6.cell 1
        have x2 : W6.cell? ⟨gz, 2, none⟩ = some (.int .i64 b) := Z6.cell 2
        have SC := Lib.hid (G6.below ((Below.refl W6.heap.size W6).drew.alloc (Nat.le_refl _) (.cells #[.int .i64 p, .int .i64 a, .int .i64 b] 118)))
        have RC := Lib.hid ((R6.out.drew).alloc (.cells #[.int .i64 p, .int .i64 a, .int .i64 b] 118))
        have BC := Lib.hid (B6.out.drew.alloc B6.out.size (.cells #[.int .i64 p, .int .i64 a, .int .i64 b] 118))
        have hgs : gG < W6.heap.size := G6.b.lt
        clear hW6 hgz G6 Z6 R6 B6 q0 q1 q2 had
        obtain ⟨A', hA'⟩ : ∃ x, x = A 3 := ⟨_, rfl⟩
        obtain ⟨n', hn'⟩ : ∃ x, x = n 3 := ⟨_, rfl⟩
        obtain ⟨c', hc'⟩ : ∃ x, x = c 3 := ⟨_, rfl⟩
        have OC := Lib.hid (SC.out.o 3 (by omega))
        rw [← hA', ← hn', ← hc'] at d0 OC
        rw [← hn'] at hn1
        have hn2 : n' ≤ 16777216 := by omega
        have HE := Lib.hid (And.intro hA' (And.intro hn' hc'))
        clear hA' hn' hc'
        go_region_law (first
          | (refine step_append_sl _ (by rfl) _ _ 26 (by rfl) (gG + 1) 118 i0 _ 3 24 Tryz.underlying26 hi hy0 hy1 hy2 rfl (by omega) A' n' c' _ (by rfl) OC.out (W6.heap.size + 1) _ 1 1 [.int .i64 p, .int .i64 a, .int .i64 b] (by rfl) (Sl.one3 W6.drew _ _ _ _) (by simp [Value.oneCell']) (by omega) (by omega) (Nat.le_trans hgs (by simp)) ?_; intro A3 cc3 w3 hown3 hg3 hat3; have SF := Lib.hid (SC.out.more (i := 3) (by omega) (z := ⟨p, a, b⟩) HM.out (by rw [← HE.out.2.1]; exact hown3) (by rw [← HE.out.1, ← HE.out.2.1, ← HE.out.2.2]; exact hg3) (by rw [← HE.out.1, ← HE.out.2.1, ← HE.out.2.2]; exact hat3)); have BB := SC.out.b.grown' (OC.out.low (Nat.lt_succ_self _)) hg3; have d1 : w3.cell? ⟨gG, 3, none⟩ = some (.slice A' n' c') := (by rw [HE.out.1, HE.out.2.1, HE.out.2.2]; first | done | exact BB.cell 3); have f1 := BB.frozen 3; have RR := Lib.hid (RC.out.grown' (OC.out.low (by omega)) hg3); have B3 := Lib.hid (BC.out.grown hg3 BC.out.size (fun j hj => by have := (OC.out.row.lt j hj).1; omega)); clear hown3 hg3 hat3 BB))
        all_goals
          have HR2 := Lib.hid (RR.out.far (p := ⟨gG, 3, none⟩) (Nat.ne_of_lt hgl) (.slice A3 (n' + 1) cc3))
          have HB2 := Lib.hid (B3.out.setCell (p := ⟨gG, 3, none⟩) (Nat.le_of_lt hgl) (.slice A3 (n' + 1) cc3))
          have HF := Lib.hid SF.out
          rw [← HE.out.2.1] at HF
          clear SF RR B3 SC RC BC OC HG HR HB x0 x1 x2 d0
          go_wp2
          go_roundw
          case rel => exact ⟨k + 1, _, _, _, by omega, by go_num, by rw [HT.out]; exact HF.out, HR2.out, HB2.out⟩
          case measure => simp [intOf]; omega
    case neg =>
      obtain rfl : k = lz.length := by omega
      rw [List.take_length] at HG
      have e0 := HG.out.b.cell 0; have e1 := HG.out.b.cell 1; have e2 := HG.out.b.cell 2; have e3 := HG.out.b.cell 3
      have f0 := HR.out.cell 0; have f1 := HR.out.cell 1; have f2 := HR.out.cell 2; have f3 := HR.out.cell 3
      have g0 := HR.out.frozen 0; have g1 := HR.out.frozen 1; have g2 := HR.out.frozen 2; have g3 := HR.out.frozen 3
      simp at e0 e1 e2 e3 f0 f1 f2 f3
      have OO := Lib.hid HG.out.o
      obtain ⟨A0, hA0⟩ : ∃ x, x = A 0 := ⟨_, rfl⟩; obtain ⟨A1, hA1⟩ : ∃ x, x = A 1 := ⟨_, rfl⟩; obtain ⟨A2, hA2⟩ : ∃ x, x = A 2 := ⟨_, rfl⟩; obtain ⟨A3, hA3⟩ : ∃ x, x = A 3 := ⟨_, rfl⟩
      obtain ⟨n0, hn0⟩ : ∃ x, x = n 0 := ⟨_, rfl⟩; obtain ⟨n1, hn1⟩ : ∃ x, x = n 1 := ⟨_, rfl⟩; obtain ⟨n2, hn2⟩ : ∃ x, x = n 2 := ⟨_, rfl⟩; obtain ⟨n3, hn3⟩ : ∃ x, x = n 3 := ⟨_, rfl⟩
      obtain ⟨c0, hc0⟩ : ∃ x, x = c 0 := ⟨_, rfl⟩; obtain ⟨c1, hc1⟩ : ∃ x, x = c 1 := ⟨_, rfl⟩; obtain ⟨c2, hc2⟩ : ∃ x, x = c 2 := ⟨_, rfl⟩; obtain ⟨c3', hc3⟩ : ∃ x, x = c 3 := ⟨_, rfl⟩
      rw [← hA0, ← hn0, ← hc0] at e0; rw [← hA1, ← hn1, ← hc1] at e1; rw [← hA2, ← hn2, ← hc2] at e2; rw [← hA3, ← hn3, ← hc3] at e3
      have ZF := Lib.hid ((((HR.out.set_ 0 (.slice A0 n0 c0)).set_ 1 (.slice A1 n1 c1)).set_ 2 (.slice A2 n2 c2)).set_ 3 (.slice A3 n3 c3'))
      have BF := Lib.hid ((((HB.out.setCell (p := ⟨w.heap.size, 0, none⟩) (Nat.le_refl _) (.slice A0 n0 c0)).setCell (p := ⟨w.heap.size, 1, none⟩) (Nat.le_refl _) (.slice A1 n1 c1)).setCell (p := ⟨w.heap.size, 2, none⟩) (Nat.le_refl _) (.slice A2 n2 c2)).setCell (p := ⟨w.heap.size, 3, none⟩) (Nat.le_refl _) (.slice A3 n3 c3'))
      have OF : Hid (∀ i : Nat, i < 4 → Own ((((wr.setCell ⟨w.heap.size, 0, none⟩ (.slice A0 n0 c0)).setCell ⟨w.heap.size, 1, none⟩ (.slice A1 n1 c1)).setCell ⟨w.heap.size, 2, none⟩ (.slice A2 n2 c2)).setCell ⟨w.heap.size, 3, none⟩ (.slice A3 n3 c3')) w.heap.size 118 3 (A i) (n i) (c i) (fl c3 (grp lz i))) := Lib.hid fun i hi4 => by
        have hh : w.heap.size < gG + 1 := by omega
        exact (((((OO.out i hi4).far (p := ⟨w.heap.size, 0, none⟩) hh (.slice A0 n0 c0)).far (p := ⟨w.heap.size, 1, none⟩) hh (.slice A1 n1 c1)).far (p := ⟨w.heap.size, 2, none⟩) hh (.slice A2 n2 c2)).far (p := ⟨w.heap.size, 3, none⟩) hh (.slice A3 n3 c3')).fewer (by omega)
      have HE := Lib.hid (And.intro (And.intro hA0 (And.intro hA1 (And.intro hA2 hA3))) (And.intro (And.intro hn0 (And.intro hn1 (And.intro hn2 hn3))) (And.intro hc0 (And.intro hc1 (And.intro hc2 hc3)))))
      clear hA0 hA1 hA2 hA3 hn0 hn1 hn2 hn3 hc0 hc1 hc2 hc3 HG HR HB OO
      go_wp2
      have k0 := ZF.out.cell 0; have k1 := ZF.out.cell 1; have k2 := ZF.out.cell 2; have k3 := ZF.out.cell 3
      simp at k0 k1 k2 k3
      refine bodyPost_ret (v := .agg #[.slice A0 n0 c0, .slice A1 n1 c1, .slice A2 n2 c2, .slice A3 n3 c3']) (by simp [results, Tryz.results79, go_sem, k0, k1, k2, k3]) rfl ?_
      obtain ⟨⟨rfl, rfl, rfl, rfl⟩, ⟨rfl, rfl, rfl, rfl⟩, rfl, rfl, rfl, rfl⟩ := HE.out
      exact ⟨⟨A, n, c, rfl, OF.out⟩, BF.out⟩
end Go.Proofs.YtlaigbhiligceaaGreatDoor
namespace Go.Proofs.YtlaigbhiligceaaGreatDoor
open Go.ChangeShapes Go.WideShapes Go.ChangeAt Go.RowKit
set_option linter.unusedVariables false
theorem any_take (l : List Tri) (p : Tri → Bool) (k : Nat) (hk : k < l.length) (h : (l.take k).any p = false) : (l.take (k + 1)).any p = p l[k] := by
  rw [List.take_succ_eq_append_getElem hk, List.any_append, h]; simp
theorem any_at {l : List Tri} {p : Tri → Bool} {k : Nat} (hk : k < l.length) (h : p l[k] = true) : l.any p = true := List.any_eq_true.2 ⟨_, List.getElem_mem hk, h⟩
set_option maxRecDepth 100000 in
set_option maxHeartbeats 2000000 in
theorem ianymeets (w : World) (nA tW : Addr) (E : Errs w nA tW) (D : Nat) (A : Nat → Option Addr) (n c : Nat → Nat) (lz : List Tri) (h : ∀ i : Nat, i < 4 → Sl w D 3 (A i) (n i) (c i) (fl c3 (grp lz i))) (hD : D ≤ w.heap.size) (pl x wd : Int) (b : Bool) (hb : lz.any (zoneHit pl x wd) = b) :
    Calls Tryz.prog 83 #[.agg #[.slice (A 0) (n 0) (c 0), .slice (A 1) (n 1) (c 1), .slice (A 2) (n 2) (c 2), .slice (A 3) (n 3) (c 3)], .int .i64 pl, .agg #[.int .i64 x, .int .i64 wd]] w (Tells w b) := by
  obtain ⟨A0, hA0⟩ : ∃ x, x = A 0 := ⟨_, rfl⟩; obtain ⟨A1, hA1⟩ : ∃ x, x = A 1 := ⟨_, rfl⟩; obtain ⟨A2, hA2⟩ : ∃ x, x = A 2 := ⟨_, rfl⟩; obtain ⟨A3, hA3⟩ : ∃ x, x = A 3 := ⟨_, rfl⟩
  obtain ⟨n0, hn0⟩ : ∃ x, x = n 0 := ⟨_, rfl⟩; obtain ⟨n1, hn1⟩ : ∃ x, x = n 1 := ⟨_, rfl⟩; obtain ⟨n2, hn2⟩ : ∃ x, x = n 2 := ⟨_, rfl⟩; obtain ⟨n3, hn3⟩ : ∃ x, x = n 3 := ⟨_, rfl⟩
  obtain ⟨c0, hc0⟩ : ∃ x, x = c 0 := ⟨_, rfl⟩; obtain ⟨c1, hc1⟩ : ∃ x, x = c 1 := ⟨_, rfl⟩; obtain ⟨c2, hc2⟩ : ∃ x, x = c 2 := ⟨_, rfl⟩; obtain ⟨c3', hc3⟩ : ∃ x, x = c 3 := ⟨_, rfl⟩
  rw [← hA0, ← hA1, ← hA2, ← hA3, ← hn0, ← hn1, ← hn2, ← hn3, ← hc0, ← hc1, ← hc2, ← hc3]
  obtain ⟨i, hi, hpi⟩ : ∃ i : Nat, i < 4 ∧ pl % 4 = (i : Int) := ⟨(pl % 4).toNat, by omega, by omega⟩
  obtain ⟨Ag, ng, cg, lg, hS, hcell⟩ : ∃ Ag ng cg lg, (lg.any (zoneHit pl x wd) = b ∧ Sl w D 3 Ag ng cg (fl c3 lg)) ∧ #[Value.slice A0 n0 c0, .slice A1 n1 c1, .slice A2 n2 c2, .slice A3 n3 c3'][i]? = some (.slice Ag ng cg) := by
    refine ⟨A i, n i, c i, grp lz i, ⟨by have := grp_any lz pl x wd; rw [hpi] at this; rw [this]; exact hb, h i hi⟩, ?_⟩
    have h4 : i = 0 ∨ i = 1 ∨ i = 2 ∨ i = 3 := by omega
    rcases h4 with rfl | rfl | rfl | rfl
    · rw [← hA0, ← hn0, ← hc0]; rfl
    · rw [← hA1, ← hn1, ← hc1]; rfl
    · rw [← hA2, ← hn2, ← hc2]; rfl
    · rw [← hA3, ← hn3, ← hc3]; rfl
  obtain ⟨hany, hsl⟩ := hS
  obtain rfl := hsl.num c3_len (by omega)
  obtain ⟨W0, hW0⟩ : ∃ W, W = (w.alloc (.cells #[.slice A0 n0 c0, .slice A1 n1 c1, .slice A2 n2 c2, .slice A3 n3 c3'] 127)).alloc (.cells #[.int .i64 x, .int .i64 wd] 115) := ⟨_, rfl⟩
  have T0 : Hid (Below w.heap.size w W0) := Lib.hid (by rw [hW0]; exact ((Below.refl _ _).alloc (Nat.le_refl _) _).alloc (by simp) _)
  have G0 : Hid (Blk W0 w.heap.size 127 #[.slice A0 n0 c0, .slice A1 n1 c1, .slice A2 n2 c2, .slice A3 n3 c3']) := Lib.hid (by rw [hW0]; exact (Blk.new _ _ _).alloc _)
  have X0 : Hid (Blk W0 (w.heap.size + 1) 115 #[.int .i64 x, .int .i64 wd]) := Lib.hid (by
    rw [hW0]
    have h := Blk.new (w.alloc (.cells #[.slice A0 n0 c0, .slice A1 n1 c1, .slice A2 n2 c2, .slice A3 n3 c3'] 127)) 115 #[.int .i64 x, .int .i64 wd]
    simpa using h)
  have HS := Lib.hid hsl; have HAN := Lib.hid hany; have HE := Lib.hid E
  have hg : W0.cell? ⟨w.heap.size, i, none⟩ = some (.slice Ag lg.length cg) := (G0.out.cell i).trans hcell
  have HPI := Lib.hid hpi
  have hcap := hsl.cap; have hcapm := hsl.capm
  clear hA0 hA1 hA2 hA3 hn0 hn1 hn2 hn3 hc0 hc1 hc2 hc3 hcell hsl hany hb h hpi E G0
  go_enter Tryz.func83, Tryz.ntmps83
  go_wp2_with fail
  rw [← hW0]
  clear hW0
  refine (igroup pl i HPI.out _).mono ?_
  rintro e w' ⟨rfl, rfl⟩
  have hi0 : (0 : Int) ≤ (i : Int) := by omega
  have hi4 : (i : Int) < 4 := by omega
  go_wp2_with fail
  go_loopw [14] (fun iv wr => ∃ k : Nat, k ≤ lg.length ∧ iv = .int .i64 k ∧ (lg.take k).any (zoneHit pl x wd) = false ∧ Below w.heap.size w wr ∧ Blk wr (w.heap.size + 1) 115 #[.int .i64 x, .int .i64 wd]) (fun iv _ => lg.length - (intOf iv).toNat)
  case atStart => exact ⟨0, Nat.zero_le _, rfl, rfl, T0.out, X0.out⟩
  case round =>
    clear T0 X0 hg
    obtain ⟨k, hk, rfl, hno, hbw, hx⟩ := hrel
    have HNO := Lib.hid hno; have HB := Lib.hid hbw; have HX := Lib.hid hx
    clear hno hbw hx
    by_cases hlt : k < lg.length
    case pos =>
      obtain ⟨ad, hxx, rfl, had, q0, q1, q2⟩ := (HS.out.below HB.out hD).tri hlt
      have HANY := Lib.hid (any_take lg (zoneHit pl x wd) k hxx HNO.out)
      have HAT := Lib.hid (fun h => any_at (p := zoneHit pl x wd) hxx h)
      obtain ⟨z, hz⟩ : ∃ z, z = lg[k] := ⟨_, rfl⟩
      rw [← hz] at q0 q1 q2 HANY HAT
      obtain ⟨p, a, b'⟩ := z
      simp only at q0 q1 q2
      obtain ⟨gz, hgz⟩ : ∃ g, g = wr.heap.size := ⟨_, rfl⟩
      obtain ⟨W6, hW6⟩ : ∃ W, W = wr.alloc (.cells #[.int .i64 p, .int .i64 a, .int .i64 b'] 118) := ⟨_, rfl⟩
      have Z6 : Blk W6 gz 118 #[.int .i64 p, .int .i64 a, .int .i64 b'] := by rw [hW6, hgz]; exact Blk.new _ _ _
      have X6 : Hid (Blk W6 (w.heap.size + 1) 115 #[.int .i64 x, .int .i64 wd]) := Lib.hid (by rw [hW6]; exact HX.out.alloc _)
      have B6 : Hid (Below w.heap.size w W6) := Lib.hid (by rw [hW6]; exact HB.out.alloc HB.out.size _)
      clear hz had
      go_upto_region 4 with fail
      rw [← hW6, ← hgz]
      have x0 : W6.cell? ⟨gz, 0, none⟩ = some (.int .i64 p) := Z6.cell 0
      have x1 : W6.cell? ⟨gz, 1, none⟩ = some (.int .i64 a) := Z6.cell 1
      have x2 : W6.cell? ⟨gz, 2, none⟩ = some (.int .i64 b') := Z6.cell 2
      have y0 : W6.cell? ⟨w.heap.size + 1, 0, none⟩ = some (.int .i64 x) := X6.out.cell 0
      have y1 : W6.cell? ⟨w.heap.size + 1, 1, none⟩ = some (.int .i64 wd) := X6.out.cell 1
      clear hW6 hgz Z6 q0 q1 q2 HX HB
      by_cases hp : p = pl
      case neg =>
        have hz : zoneHit pl x wd ⟨p, a, b'⟩ = false := by unfold zoneHit; rw [decide_eq_false hp]; rfl
        have HF := Lib.hid (HANY.out.trans hz)
        clear hz HANY HAT
        go_wp2_with fail
        go_roundw
        case rel => exact ⟨k + 1, by omega, by go_num, HF.out, B6.out, X6.out⟩
        case measure => simp [intOf]; omega
      case pos =>
        subst hp
        obtain ⟨v, hv⟩ : ∃ v, meetA a b' x wd = v := ⟨_, rfl⟩
        have hz : zoneHit p x wd ⟨p, a, b'⟩ = v := by unfold zoneHit; rw [decide_eq_true rfl]; exact hv
        have HZ := Lib.hid hz; have HV := Lib.hid hv
        clear hz hv
        go_wp2_with fail
        refine (iameet _ nA tW (HE.out.below B6.out) a b' x wd v HV.out).mono ?_
        rintro e w7 ⟨rfl, b7⟩
        have B7 := Lib.hid (B6.out.trans (b7.mono B6.out.size))
        have X7 := Lib.hid (X6.out.below b7 X6.out.lt)
        clear b7 x0 x1 x2 y0 y1
        cases v
        · have HF := Lib.hid (HANY.out.trans HZ.out)
          clear HANY HAT
          go_wp2_with fail
          go_roundw
          case rel => exact ⟨k + 1, by omega, by go_num, HF.out, B7.out, X7.out⟩
          case measure => simp [intOf]; omega
        · obtain rfl : true = b := (HAT.out HZ.out).symm.trans HAN.out
          go_wp2_with fail
          go_ret
          exact ⟨rfl, B7.out⟩
    case neg =>
      obtain rfl : k = lg.length := by omega
      rw [List.take_length] at HNO
      obtain rfl : false = b := HNO.out.symm.trans HAN.out
      go_wp2_with fail
      go_ret
      exact ⟨rfl, HB.out⟩
end Go.Proofs.YtlaigbhiligceaaGreatDoor
namespace Go.Proofs.YtlaigbhiligceaaGreatDoor
open Go.ChangeShapes Go.WideShapes Go.ChangeAt Go.RowKit
set_option linter.unusedVariables false
/-- what the closure of disturbance holds: the sky in block gs, its zones by plane in gz, all of it below D -/
structure Zon (w : World) (Dz gs gz : Nat) (P R X V U D Q : Int) (ns ni nz : Nat) (ls : List Sat4) (li lz : List Tri) (As : Option Addr) (cs : Nat) (Ai : Option Addr) (ci : Nat) (Az : Option Addr) (cz : Nat) : Prop where
  s : Blk w gs 28 #[.int .i64 P, .slice As ns cs, .slice Ai ni ci, .int .i64 R, .int .i64 X, .int .i64 V, .int .i64 U, .int .i64 D, .slice Az nz cz, .int .i64 Q]
  z : ∃ (A : Nat → Option Addr) (n c : Nat → Nat), Blk w gz 127 #[.slice (A 0) (n 0) (c 0), .slice (A 1) (n 1) (c 1), .slice (A 2) (n 2) (c 2), .slice (A 3) (n 3) (c 3)] ∧ ∀ i : Nat, i < 4 → Sl w Dz 3 (A i) (n i) (c i) (fl c3 (grp lz i))
  k : InSky w (Dz) As ns cs Ai ni ci Az nz cz ls li lz
  gl : gs < Dz
  zl : gz < Dz
  d : Dz ≤ w.heap.size
theorem Zon.below {w w' : World} {Dz gs gz : Nat} {P R X V U D Q : Int} {ns ni nz : Nat} {ls : List Sat4} {li lz : List Tri} {As : Option Addr} {cs : Nat} {Ai : Option Addr} {ci : Nat} {Az : Option Addr} {cz : Nat} (h : Zon w Dz gs gz P R X V U D Q ns ni nz ls li lz As cs Ai ci Az cz) (hb : Below Dz w w') : Zon w' Dz gs gz P R X V U D Q ns ni nz ls li lz As cs Ai ci Az cz := by
  obtain ⟨A, n, c, h1, h2⟩ := h.z
  exact ⟨h.s.below hb h.gl, ⟨A, n, c, h1.below hb h.zl, fun i hi => (h2 i hi).below hb (Nat.le_refl _)⟩, h.k.below hb (Nat.le_refl _), h.gl, h.zl, Nat.le_trans h.d hb.size⟩
set_option maxRecDepth 100000 in
theorem idist (w : World) (P R X V U D Q : Int) (ns ni nz : Nat) (ls : List Sat4) (li lz : List Tri) (As : Option Addr) (cs : Nat) (Ai : Option Addr) (ci : Nat) (Az : Option Addr) (cz : Nat) (D0 : Nat) (h : InSky w (D0) As ns cs Ai ni ci Az nz cz ls li lz) (hD : D0 ≤ w.heap.size) (hz : nz ≤ 16777216) :
    Calls Tryz.prog 35 #[.agg #[.int .i64 P, .slice As ns cs, .slice Ai ni ci, .int .i64 R, .int .i64 X, .int .i64 V, .int .i64 U, .int .i64 D, .slice Az nz cz, .int .i64 Q]] w fun e w' => (∃ Dz gs gz, e = .returned (.func (.func 80) #[] #[.pointer (some ⟨gs, 0, none⟩), .pointer (some ⟨gz, 0, none⟩)]) ∧ Zon w' Dz gs gz P R X V U D Q ns ni nz ls li lz As cs Ai ci Az cz) ∧ Below w.heap.size w w' := by
  obtain ⟨W0, hW0⟩ : ∃ W, W = w.alloc (.cells #[.int .i64 P, .slice As ns cs, .slice Ai ni ci, .int .i64 R, .int .i64 X, .int .i64 V, .int .i64 U, .int .i64 D, .slice Az nz cz, .int .i64 Q] 28) := ⟨_, rfl⟩
  have T0 : Hid (Below w.heap.size w W0) := Lib.hid (by rw [hW0]; exact (Below.refl _ _).alloc (Nat.le_refl _) _)
  have S0 : Hid (Blk W0 w.heap.size 28 #[.int .i64 P, .slice As ns cs, .slice Ai ni ci, .int .i64 R, .int .i64 X, .int .i64 V, .int .i64 U, .int .i64 D, .slice Az nz cz, .int .i64 Q]) := Lib.hid (by rw [hW0]; exact Blk.new _ _ _)
  have H0 := Lib.hid (h.below T0.out hD)
  have hD1 : D0 ≤ W0.heap.size := Nat.le_trans hD T0.out.size
  clear h
  have hmf : ∀ (fn : Fn) (first cap : Array Value) (w : World), (Instr.makeFunc fn first cap).run Tryz.prog w = .ok (.func fn first cap) w := fun _ _ _ _ => rfl
  obtain ⟨c0, c1, c2, c3, c4, c5, c6, c7, c8, c9⟩ := S0.out.ten
  go_enter Tryz.func35, Tryz.ntmps35
  go_wp2_with fail
  rw [← hW0]
  clear hW0
  go_wp2_with fail
  refine (izones W0 D0 Az nz cz lz H0.out.z hD1 hz).mono ?_
  rintro e w1 ⟨⟨A, n, c, rfl, ho⟩, b1⟩
  obtain ⟨gz, hgz⟩ : ∃ g, g = w1.heap.size := ⟨_, rfl⟩
  have HF : Hid ((∃ Dz gs gz', Ending.returned (.func (.func 80) #[] #[.pointer (some ⟨w.heap.size, 0, none⟩), .pointer (some ⟨gz, 0, none⟩)]) = .returned (.func (.func 80) #[] #[.pointer (some ⟨gs, 0, none⟩), .pointer (some ⟨gz', 0, none⟩)]) ∧ Zon (w1.alloc (.cells #[.slice (A 0) (n 0) (c 0), .slice (A 1) (n 1) (c 1), .slice (A 2) (n 2) (c 2), .slice (A 3) (n 3) (c 3)] 127)) Dz gs gz' P R X V U D Q ns ni nz ls li lz As cs Ai ci Az cz) ∧ Below w.heap.size w (w1.alloc (.cells #[.slice (A 0) (n 0) (c 0), .slice (A 1) (n 1) (c 1), .slice (A 2) (n 2) (c 2), .slice (A 3) (n 3) (c 3)] 127))) := Lib.hid (by
    have b2 : Below w1.heap.size w1 (w1.alloc (.cells #[.slice (A 0) (n 0) (c 0), .slice (A 1) (n 1) (c 1), .slice (A 2) (n 2) (c 2), .slice (A 3) (n 3) (c 3)] 127)) := (Below.refl _ _).alloc (Nat.le_refl _) _
    have b12 := b1.trans (b2.mono b1.size)
    have S2 := S0.out.below b12 S0.out.lt
    refine ⟨⟨w1.heap.size + 1, w.heap.size, gz, rfl, S2, ⟨A, n, c, by rw [hgz]; exact Blk.new _ _ _, fun i hi => (((ho i hi).on b2).sl).more (by simp)⟩, (H0.out.below b12 hD1).more (by have := b12.size; simp at this; omega), ?_, by omega, by simp⟩, T0.out.trans (b12.mono T0.out.size)⟩
    have := S2.lt; simpa using this)
  clear ho b1 S0 H0 T0 c0 c1 c2 c3 c4 c5 c6 c7 c8 c9
  go_wp2_with fail
  rw [← hgz]
  go_ret
  exact HF.out
set_option maxRecDepth 100000 in
set_option maxHeartbeats 2000000 in
theorem idist1 (w : World) (P R X V U D Q : Int) (ns ni nz : Nat) (ls : List Sat4) (li lz : List Tri) (As : Option Addr) (cs : Nat) (Ai : Option Addr) (ci : Nat) (Az : Option Addr) (cz : Nat) (Dz gs gz : Nat) (hz : Zon w Dz gs gz P R X V U D Q ns ni nz ls li lz As cs Ai ci Az cz) (hs : ns ≤ 16777216) (hi : ni ≤ 16777216) (nA tW : Addr) (E : Errs w nA tW) (node t : Int) (hn : J64 node) (b : Bool) (hb : mayAt ls li lz node t = b) :
    Calls Tryz.prog 80 #[.int .i64 node, .int .i64 t, .pointer (some ⟨gs, 0, none⟩), .pointer (some ⟨gz, 0, none⟩)] w (Tells w b) := by
  have HZ := Lib.hid hz; have HE := Lib.hid E; have HN := Lib.hid hn
  obtain ⟨c0, c1, c2, c3, c4, c5, c6, c7, c8, c9⟩ := hz.s.ten
  have HB := Lib.hid hb
  clear hz E hn hb
  obtain ⟨nv, hnv⟩ : ∃ v, nodeV ls li node = v := ⟨_, rfl⟩
  have hkd : ∃ kd : Int, (∀ w : World, Calls Tryz.prog 81 #[nv] w fun e w' => e = .returned (.int .i64 kd) ∧ w = w') ∧ ((kd = 1 ∧ 0 ≤ node ∧ node < ls.length) ∨ ((kd = 2 ∨ kd = 0) ∧ b = false)) := by
    rcases node_cases ls li node with ⟨k, hk, hnd, hv, -, -⟩ | ⟨k, hk, hnd, hv, -, -⟩ | ⟨hr, hv, -, -⟩
    · rw [hnv] at hv; rw [hv]
      exact ⟨1, fun w => kind_sat w _, .inl ⟨rfl, by omega, by omega⟩⟩
    · rw [hnv] at hv; rw [hv]
      refine ⟨2, fun w => kind_site w _, .inr ⟨.inl rfl, ?_⟩⟩
      rw [← HB.out]; unfold mayAt; rw [decide_eq_false (by omega)]; rfl
    · rw [hnv] at hv; rw [hv]
      refine ⟨0, fun w => kind_none w, .inr ⟨.inr rfl, ?_⟩⟩
      rw [← HB.out]; unfold mayAt; rw [decide_eq_false (by omega)]; rfl
  obtain ⟨kd, hkc, hkd⟩ := hkd
  have HKC := Lib.hid hkc; have HNV := Lib.hid hnv
  clear hkc hnv
  go_enter Tryz.func80, Tryz.ntmps80
  go_wp2_with fail
  refine (inode w P R X V U D Q ns ni nz ls li lz As cs Ai ci Az cz Dz HZ.out.k HZ.out.d hs hi node HN.out).mono ?_
  rintro e w1 ⟨rfl, b1⟩
  rw [HNV.out]
  have B1 := Lib.hid b1
  clear b1 c0 c1 c2 c3 c4 c5 c6 c7 c8 c9
  go_wp2_with fail
  refine (HKC.out _).mono ?_
  rintro e w' ⟨rfl, rfl⟩
  rcases hkd with ⟨rfl, h0, h1⟩ | ⟨hk, rfl⟩
  · have Z1 := Lib.hid (HZ.out.below (B1.out.mono HZ.out.d))
    obtain ⟨A, n, c, hzb, hzs⟩ := Z1.out.z
    have HZB := Lib.hid hzb; have HZS := Lib.hid hzs
    clear hzb hzs
    obtain ⟨pl, hpl⟩ : ∃ z, planeOf ls li node = z := ⟨_, rfl⟩
    obtain ⟨x, hx⟩ : ∃ z, arcS ls li node t = z := ⟨_, rfl⟩
    obtain ⟨y, hy⟩ : ∃ z, arcW ls li node = z := ⟨_, rfl⟩
    have HM : Hid (lz.any (zoneHit pl x y) = b) := Lib.hid (by rw [← HB.out, ← hpl, ← hx, ← hy]; unfold mayAt; rw [decide_eq_true ⟨h0, h1⟩]; rfl)
    have HPL := Lib.hid hpl; have HX := Lib.hid hx; have HY := Lib.hid hy
    clear hpl hx hy
    have HC : Hid (∀ wr, Below w1.heap.size w1 wr → (wr.cell? ⟨gs, 0, none⟩ = some (.int .i64 P) ∧ wr.cell? ⟨gs, 1, none⟩ = some (.slice As ns cs) ∧ wr.cell? ⟨gs, 2, none⟩ = some (.slice Ai ni ci) ∧ wr.cell? ⟨gs, 3, none⟩ = some (.int .i64 R) ∧ wr.cell? ⟨gs, 4, none⟩ = some (.int .i64 X) ∧ wr.cell? ⟨gs, 5, none⟩ = some (.int .i64 V) ∧ wr.cell? ⟨gs, 6, none⟩ = some (.int .i64 U) ∧ wr.cell? ⟨gs, 7, none⟩ = some (.int .i64 D) ∧ wr.cell? ⟨gs, 8, none⟩ = some (.slice Az nz cz) ∧ wr.cell? ⟨gs, 9, none⟩ = some (.int .i64 Q)) ∧ wr.cell? ⟨gz, 0, none⟩ = some (.slice (A 0) (n 0) (c 0)) ∧ wr.cell? ⟨gz, 1, none⟩ = some (.slice (A 1) (n 1) (c 1)) ∧ wr.cell? ⟨gz, 2, none⟩ = some (.slice (A 2) (n 2) (c 2)) ∧ wr.cell? ⟨gz, 3, none⟩ = some (.slice (A 3) (n 3) (c 3))) := Lib.hid fun wr hb => by
      have hbz := HZB.out.below hb HZB.out.lt
      exact ⟨((Z1.out.s).below hb Z1.out.s.lt).ten, hbz.cell 0, hbz.cell 1, hbz.cell 2, hbz.cell 3⟩
    have hc0 := HC.out w1 (Below.refl _ _)
    have HE1 := Lib.hid (HE.out.below B1.out)
    go_upto_region 3 with fail
    go_region_held3 (fun wr => (wr.cell? ⟨gs, 0, none⟩ = some (.int .i64 P) ∧ wr.cell? ⟨gs, 1, none⟩ = some (.slice As ns cs) ∧ wr.cell? ⟨gs, 2, none⟩ = some (.slice Ai ni ci) ∧ wr.cell? ⟨gs, 3, none⟩ = some (.int .i64 R) ∧ wr.cell? ⟨gs, 4, none⟩ = some (.int .i64 X) ∧ wr.cell? ⟨gs, 5, none⟩ = some (.int .i64 V) ∧ wr.cell? ⟨gs, 6, none⟩ = some (.int .i64 U) ∧ wr.cell? ⟨gs, 7, none⟩ = some (.int .i64 D) ∧ wr.cell? ⟨gs, 8, none⟩ = some (.slice Az nz cz) ∧ wr.cell? ⟨gs, 9, none⟩ = some (.int .i64 Q)) ∧ wr.cell? ⟨gz, 0, none⟩ = some (.slice (A 0) (n 0) (c 0)) ∧ wr.cell? ⟨gz, 1, none⟩ = some (.slice (A 1) (n 1) (c 1)) ∧ wr.cell? ⟨gz, 2, none⟩ = some (.slice (A 2) (n 2) (c 2)) ∧ wr.cell? ⟨gz, 3, none⟩ = some (.slice (A 3) (n 3) (c 3))) (first | with_reducible exact hc0 | with_reducible exact hcA | go_keep) (first
      | (go_at_call 84; refine (iplane _ P R X V U D Q ns ni nz ls li lz As cs Ai ci Az cz Dz (Z1.out.k.below ((Below.refl w1.heap.size w1).drew) Z1.out.d) Z1.out.d hs hi node HN.out).mono ?_; rintro e wA ⟨rfl, bA⟩; rw [HPL.out]; have HBA : Hid (Below w1.heap.size w1 wA) := Lib.hid (by first | exact (Below.refl _ _).drew.trans bA | exact bA); have hcA := HC.out _ HBA.out; clear bA)
      | (go_at_call 75; refine (inodeat wA P R X V U D Q ns ni nz ls li lz As cs Ai ci Az cz Dz (Z1.out.k.below HBA.out Z1.out.d) (Nat.le_trans Z1.out.d HBA.out.size) hs hi nA tW (HE1.out.below HBA.out) node t HN.out x y HX.out HY.out).mono ?_; rintro e wB ⟨rfl, bB⟩; have HBB : Hid (Below w1.heap.size w1 wB) := Lib.hid (HBA.out.trans (bB.mono HBA.out.size)); have hcA := HC.out _ HBB.out; clear bB)
      | (go_at_call 83; refine (ianymeets wB nA tW (HE1.out.below HBB.out) Dz A n c lz (fun i hi => (HZS.out i hi).below HBB.out Z1.out.d) (Nat.le_trans Z1.out.d HBB.out.size) pl x y b HM.out).mono ?_; rintro e wC ⟨rfl, bC⟩; have HBC : Hid (Below w1.heap.size w1 wC) := Lib.hid (HBB.out.trans (bC.mono HBB.out.size)); have hcA := HC.out _ HBC.out; clear bC))
    go_wp2_with fail
    go_ret
    exact ⟨rfl, B1.out.trans (HBC.out.mono B1.out.size)⟩
  · rcases hk with rfl | rfl
    all_goals
      go_wp2_with fail
      go_ret
      exact ⟨rfl, B1.out⟩
set_option maxRecDepth 100000 in
theorem imay (w : World) (P R X V U D Q : Int) (ns ni nz : Nat) (ls : List Sat4) (li lz : List Tri) (As : Option Addr) (cs : Nat) (Ai : Option Addr) (ci : Nat) (Az : Option Addr) (cz : Nat) (D0 : Nat) (h : InSky w (D0) As ns cs Ai ni ci Az nz cz ls li lz) (hD : D0 ≤ w.heap.size) (hs : ns ≤ 16777216) (hi : ni ≤ 16777216) (hz : nz ≤ 16777216) (nA tW : Addr) (E : Errs w nA tW) (node t : Int) (hn : J64 node) (b : Bool) (hb : mayAt ls li lz node t = b) :
    Calls Tryz.prog 10 #[.agg #[.int .i64 P, .slice As ns cs, .slice Ai ni ci, .int .i64 R, .int .i64 X, .int .i64 V, .int .i64 U, .int .i64 D, .slice Az nz cz, .int .i64 Q], .int .i64 node, .int .i64 t] w (Tells w b) := by
  obtain ⟨W0, hW0⟩ : ∃ W, W = w.alloc (.cells #[.int .i64 P, .slice As ns cs, .slice Ai ni ci, .int .i64 R, .int .i64 X, .int .i64 V, .int .i64 U, .int .i64 D, .slice Az nz cz, .int .i64 Q] 28) := ⟨_, rfl⟩
  have T0 : Hid (Below w.heap.size w W0) := Lib.hid (by rw [hW0]; exact (Below.refl _ _).alloc (Nat.le_refl _) _)
  have S0 : Hid (Blk W0 w.heap.size 28 #[.int .i64 P, .slice As ns cs, .slice Ai ni ci, .int .i64 R, .int .i64 X, .int .i64 V, .int .i64 U, .int .i64 D, .slice Az nz cz, .int .i64 Q]) := Lib.hid (by rw [hW0]; exact Blk.new _ _ _)
  have H0 := Lib.hid (h.below T0.out hD)
  have hD1 : D0 ≤ W0.heap.size := Nat.le_trans hD T0.out.size
  have HE := Lib.hid (E.below T0.out); have HN := Lib.hid hn; have HB := Lib.hid hb
  clear h E hn hb
  obtain ⟨c0, c1, c2, c3, c4, c5, c6, c7, c8, c9⟩ := S0.out.ten
  go_enter Tryz.func10, Tryz.ntmps10
  go_wp2_with fail
  rw [← hW0]
  clear hW0
  go_wp2_with fail
  refine (idist W0 P R X V U D Q ns ni nz ls li lz As cs Ai ci Az cz D0 H0.out hD1 hz).mono ?_
  rintro e w1 ⟨⟨Dz, gs, gz, rfl, hzon⟩, b1⟩
  have HZ := Lib.hid hzon; have B1 := Lib.hid b1
  clear hzon b1 c0 c1 c2 c3 c4 c5 c6 c7 c8 c9
  go_wp2_with fail
  refine (idist1 w1 P R X V U D Q ns ni nz ls li lz As cs Ai ci Az cz Dz gs gz HZ.out hs hi nA tW (HE.out.below B1.out) node t HN.out b HB.out).mono ?_
  rintro e w2 ⟨rfl, b2⟩
  have HF := Lib.hid (T0.out.trans ((B1.out.trans (b2.mono B1.out.size)).mono T0.out.size))
  clear b2
  go_wp2_with fail
  go_ret
  exact ⟨rfl, HF.out⟩
end Go.Proofs.YtlaigbhiligceaaGreatDoor
