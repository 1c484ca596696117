/- The program's CutClouds and LostTicks. -/
import Derived.Test.YtmmnnbgfomcihaaCover
import Derived.Test.YtmmnnbgfomcihaaOutside2
namespace Go.Proofs.Ytmmnnbgfomcihaa
open Go.ChangeShapes Go.WideShapes Go.ChangeAt Go.RowKit
set_option linter.unusedVariables false
set_option maxRecDepth 100000 in
theorem iduring (w : World) (p q f t f' t' : Int) :
    Calls Try.prog 40 #[.agg #[.int .i64 p, .int .i64 q, .int .i64 f, .int .i64 t], .agg #[.int .i64 f', .int .i64 t']] w fun e w' => e = .returned (.agg #[.int .i64 p, .int .i64 q, .int .i64 f', .int .i64 t']) ∧ Below w.heap.size w w' := by
  obtain ⟨W1, hW1⟩ : ∃ W, W = ((w.alloc (.cells #[.int .i64 p, .int .i64 q, .int .i64 f, .int .i64 t] 57)).alloc (.cells #[.int .i64 f', .int .i64 t'] 60)).alloc (.cells #[.int .i64 0, .int .i64 0, .int .i64 0, .int .i64 0] 57) := ⟨_, rfl⟩
  obtain ⟨g, hg⟩ : ∃ g, g = w.heap.size := ⟨_, rfl⟩
  have b1 : Below g w W1 := by rw [hW1, hg]; exact (((Below.refl _ _).alloc (Nat.le_refl _) _).alloc (by simp) _).alloc (by simp; omega) _
  have z0 : Blk W1 g 57 #[.int .i64 p, .int .i64 q, .int .i64 f, .int .i64 t] := by rw [hW1, hg]; exact ((Blk.new _ _ _).alloc _).alloc _
  have z1 : Blk W1 (g + 1) 60 #[.int .i64 f', .int .i64 t'] := by
    rw [hW1, hg]
    have h := (Blk.new (w.alloc (.cells #[.int .i64 p, .int .i64 q, .int .i64 f, .int .i64 t] 57)) 60 #[.int .i64 f', .int .i64 t']).alloc (.cells #[.int .i64 0, .int .i64 0, .int .i64 0, .int .i64 0] 57)
    simpa using h
  have z2 : Blk W1 (g + 1 + 1) 57 #[.int .i64 0, .int .i64 0, .int .i64 0, .int .i64 0] := by
    rw [hW1, hg]
    have h := Blk.new ((w.alloc (.cells #[.int .i64 p, .int .i64 q, .int .i64 f, .int .i64 t] 57)).alloc (.cells #[.int .i64 f', .int .i64 t'] 60)) 57 #[.int .i64 0, .int .i64 0, .int .i64 0, .int .i64 0]
    simpa using h
  have HB := Lib.hid b1; have Z0 := Lib.hid z0; have Z1 := Lib.hid z1; have Z2 := Lib.hid z2; have HG := Lib.hid hg
  have c0 : W1.cell? ⟨g, 0, none⟩ = some (.int .i64 p) := z0.cell 0
  have c1 : W1.cell? ⟨g, 1, none⟩ = some (.int .i64 q) := z0.cell 1
  have c2 : W1.cell? ⟨g, 2, none⟩ = some (.int .i64 f) := z0.cell 2
  have c3 : W1.cell? ⟨g, 3, none⟩ = some (.int .i64 t) := z0.cell 3
  have d0 : W1.cell? ⟨g + 1, 0, none⟩ = some (.int .i64 f') := z1.cell 0
  have d1 : W1.cell? ⟨g + 1, 1, none⟩ = some (.int .i64 t') := z1.cell 1
  have f2 := z0.frozen 2; have f3 := z0.frozen 3
  clear b1 z0 z1 z2
  go_enter Try.func40, Try.ntmps40
  go_wp2_with fail
  rw [← hW1, ← hg]
  clear hW1 hg
  go_region
  go_upto_region 2 with fail
  obtain ⟨W2, hW2⟩ : ∃ W, W = ((W1.setCell ⟨g, 2, none⟩ (.int .i64 f')).setCell ⟨g, 3, none⟩ (.int .i64 t')).drew := ⟨_, rfl⟩
  have Y0 : Hid (Blk W2 g 57 #[.int .i64 p, .int .i64 q, .int .i64 f', .int .i64 t']) := Lib.hid (by
    have h := ((Z0.out.set_ 2 (.int .i64 f')).set_ 3 (.int .i64 t')).drew
    rw [hW2]; simpa using h)
  have Y2 : Hid (Blk W2 (g + 1 + 1) 57 #[.int .i64 0, .int .i64 0, .int .i64 0, .int .i64 0]) := Lib.hid (by
    rw [hW2]; exact ((Z2.out.far (by simp; omega) _).far (by simp; omega) _).drew)
  have HB2 : Hid (Below g w W2) := Lib.hid (by
    rw [hW2]
    have h2 := (HB.out.grown (grown_set W1 ⟨g, 2, none⟩ (.int .i64 f')) (Nat.le_of_lt Z0.out.lt) (fun k e => by injection e with e; simp at e; omega))
    exact (h2.grown (grown_set _ ⟨g, 3, none⟩ (.int .i64 t')) (by simp; exact Nat.le_of_lt Z0.out.lt) (fun k e => by injection e with e; simp at e; omega)).drew)
  rw [← hW2]
  clear hW2 c0 c1 c2 c3 d0 d1 f2 f3 Z0 Z1 Z2 HB
  have c0 : W2.cell? ⟨g, 0, none⟩ = some (.int .i64 p) := Y0.out.cell 0
  have c1 : W2.cell? ⟨g, 1, none⟩ = some (.int .i64 q) := Y0.out.cell 1
  have c2 : W2.cell? ⟨g, 2, none⟩ = some (.int .i64 f') := Y0.out.cell 2
  have c3 : W2.cell? ⟨g, 3, none⟩ = some (.int .i64 t') := Y0.out.cell 3
  have y0 : W2.cell? ⟨g + 1 + 1, 0, none⟩ = some (.int .i64 0) := Y2.out.cell 0
  have y1 : W2.cell? ⟨g + 1 + 1, 1, none⟩ = some (.int .i64 0) := Y2.out.cell 1
  have y2 : W2.cell? ⟨g + 1 + 1, 2, none⟩ = some (.int .i64 0) := Y2.out.cell 2
  have y3 : W2.cell? ⟨g + 1 + 1, 3, none⟩ = some (.int .i64 0) := Y2.out.cell 3
  have f0 := Y2.out.frozen 0; have f1 := Y2.out.frozen 1; have f2 := Y2.out.frozen 2; have f3 := Y2.out.frozen 3
  obtain ⟨W3, hW3⟩ : ∃ W, W = (((W2.setCell ⟨g + 1 + 1, 0, none⟩ (.int .i64 p)).setCell ⟨g + 1 + 1, 1, none⟩ (.int .i64 q)).setCell ⟨g + 1 + 1, 2, none⟩ (.int .i64 f')).setCell ⟨g + 1 + 1, 3, none⟩ (.int .i64 t') := ⟨_, rfl⟩
  have X2 : Blk W3 (g + 1 + 1) 57 #[.int .i64 p, .int .i64 q, .int .i64 f', .int .i64 t'] := by
    have h := (((Y2.out.set_ 0 (.int .i64 p)).set_ 1 (.int .i64 q)).set_ 2 (.int .i64 f')).set_ 3 (.int .i64 t')
    rw [hW3]; simpa using h
  have HB3 : Hid (Below w.heap.size w W3) := Lib.hid (by
    have hl := Y2.out.lt
    have h0 := HB2.out.grown (grown_set W2 ⟨g + 1 + 1, 0, none⟩ (.int .i64 p)) (by omega) (fun k e => by injection e with e; simp at e; omega)
    have h1 := h0.grown (grown_set _ ⟨g + 1 + 1, 1, none⟩ (.int .i64 q)) (by simp; omega) (fun k e => by injection e with e; simp at e; omega)
    have h2 := h1.grown (grown_set _ ⟨g + 1 + 1, 2, none⟩ (.int .i64 f')) (by simp; omega) (fun k e => by injection e with e; simp at e; omega)
    have h3 := h2.grown (grown_set _ ⟨g + 1 + 1, 3, none⟩ (.int .i64 t')) (by simp; omega) (fun k e => by injection e with e; simp at e; omega)
    rw [hW3, ← HG.out]; exact h3)
  have e0 : W3.cell? ⟨g + 1 + 1, 0, none⟩ = some (.int .i64 p) := X2.cell 0
  have e1 : W3.cell? ⟨g + 1 + 1, 1, none⟩ = some (.int .i64 q) := X2.cell 1
  have e2 : W3.cell? ⟨g + 1 + 1, 2, none⟩ = some (.int .i64 f') := X2.cell 2
  have e3 : W3.cell? ⟨g + 1 + 1, 3, none⟩ = some (.int .i64 t') := X2.cell 3
  go_wp2_with fail
  rw [← hW3]
  clear hW3 X2
  refine bodyPost_ret (v := .agg #[.int .i64 p, .int .i64 q, .int .i64 f', .int .i64 t']) (by simp [results, Try.results40, go_sem, e0, e1, e2, e3]; try rfl) rfl ⟨rfl, HB3.out⟩
/-- a contact of two nodes at a span -/
def conAtQ (m M : Int) (p : Int × Int) : Sat4 := ⟨m, M, p.1, p.2⟩
theorem conAtQ_take (m M : Int) (l : List (Int × Int)) (k : Nat) (hk : k < l.length) : fl c4 ((l.take (k + 1)).map (conAtQ m M)) = fl c4 ((l.take k).map (conAtQ m M)) ++ [.int .i64 m, .int .i64 M, .int .i64 l[k].1, .int .i64 l[k].2] := by
  rw [List.take_succ_eq_append_getElem hk, List.map_append, fl_app]; rfl
set_option maxRecDepth 100000 in
set_option maxHeartbeats 1000000 in
theorem iduringAll (w : World) (D : Nat) (A : Option Addr) (n c : Nat) (l : List (Int × Int)) (h : Sl w D 2 A n c (sv l)) (hD : D ≤ w.heap.size) (hn : n ≤ 100000) (m M a b : Int) :
    Calls Try.prog 39 #[.slice A n c, .func (.func 40) #[.agg #[.int .i64 m, .int .i64 M, .int .i64 a, .int .i64 b]] #[]] w (GivesC w (l.map (conAtQ m M))) := by
  obtain ⟨i0, hi, hz0, hz1, hz2⟩ := info_parts contact_info
  have hlen := h.len
  rw [sv_len] at hlen
  obtain rfl : n = l.length := by omega
  clear hlen
  have hcap := h.cap; have hcapm := h.capm
  have HS := Lib.hid h
  clear h
  go_enter Try.func39, Try.ntmps39
  go_wp2_with (at_make; refine wpList_make_own _ rfl _ _ 24 rfl w.heap.size 57 i0 (.agg #[.int .i64 0, .int .i64 0, .int .i64 0, .int .i64 0]) 4 Try.underlying24 hi hz0 hz1 .i64 .i64 _ l.length rfl rfl rfl (by rw [hz2]; omega) (by unfold maxLen; omega) (Nat.le_refl _) ?_; intro w1 hown hgrow)
  have hfirst : Hid (Own w1 w.heap.size 57 4 (some ⟨w.heap.size, 0, none⟩) 0 l.length (fl c4 ((l.take 0).map (conAtQ m M))) ∧ Below w.heap.size w w1) := Lib.hid ⟨⟨hown⟩, (Below.refl _ _).grown hgrow (Nat.le_refl _) (fun k hk => by cases hk)⟩
  clear hown hgrow
  go_loopw [5, 13] (fun v i wr => ∃ (k : Nat) (A1 : Option Addr) (c1 : Nat), k ≤ l.length ∧ i = .int .i64 k ∧ v = .slice A1 k c1 ∧ Own wr w.heap.size 57 4 A1 k c1 (fl c4 ((l.take k).map (conAtQ m M))) ∧ Below w.heap.size w wr) (fun _ i _ => l.length - (intOf i).toNat)
  case atStart => exact ⟨0, _, _, Nat.zero_le _, rfl, rfl, hfirst.out⟩
  case round =>
    clear hfirst
    obtain ⟨k, A1, c1, hk, rfl, rfl, ho, hb⟩ := hrel
    have HO := Lib.hid ho; have HB := Lib.hid hb
    have hcm := ho.capm
    clear ho hb
    by_cases hlt : k < l.length
    case neg =>
      obtain rfl : k = l.length := by omega
      have HF : Hid (GivesC w (l.map (conAtQ m M)) (.returned (.slice A1 l.length c1)) wr) := Lib.hid ⟨_, _, _, rfl, by have h := HO.out; rw [List.take_length] at h; exact h, HB.out⟩
      clear hi hz0 hz1 hz2
      go_wp2
      go_ret
      exact HF.out
    case pos =>
      obtain ⟨ad, hx, rfl, had, c0, c1'⟩ := (HS.out.below HB.out hD).two hlt
      have HT := Lib.hid (conAtQ_take m M l k hlt)
      obtain ⟨f, hf⟩ : ∃ f, f = l[k].1 := ⟨_, rfl⟩
      obtain ⟨t, ht⟩ : ∃ t, t = l[k].2 := ⟨_, rfl⟩
      rw [← hf] at c0 HT; rw [← ht] at c1' HT
      clear hf ht
      have hk0 : (0 : Int) ≤ (k : Int) := by omega
      have hkl : (k : Int) < (l.length : Int) := by omega
      have bb : Below wr.heap.size wr (wr.alloc (.cells #[.int .i64 f, .int .i64 t] 60)) := (Below.refl _ _).alloc (Nat.le_refl _) _
      have HB2 := Lib.hid (HB.out.trans (bb.mono HB.out.size))
      have HO2 := Lib.hid (HO.out.on bb)
      clear bb
      go_wp2_with fail
      refine (iduring _ m M a b f t).mono ?_
      rintro _ w3 ⟨rfl, b3⟩
      have HB3 := Lib.hid (HB2.out.trans (b3.mono HB2.out.size))
      have HO3 := Lib.hid (HO2.out.on b3)
      clear b3 c0 c1'
      obtain ⟨W4, hW4⟩ : ∃ W, W = w3.alloc (.cells #[.int .i64 m, .int .i64 M, .int .i64 f, .int .i64 t] 57) := ⟨_, rfl⟩
      have b4 : Below w3.heap.size w3 W4 := by rw [hW4]; exact (Below.refl _ _).alloc (Nat.le_refl _) _
      have HB4 := Lib.hid (HB3.out.trans (b4.mono HB3.out.size))
      have HO4 := Lib.hid (HO3.out.on b4)
      have SL : Hid (Sl W4 (w3.heap.size + 1) 4 (some ⟨w3.heap.size, 0, none⟩) 1 1 [.int .i64 m, .int .i64 M, .int .i64 f, .int .i64 t]) := Lib.hid (by rw [hW4]; exact Sl.one4 w3 _ _ _ _ _)
      have hb32 : (k + 1) * 32 ≤ 140737488355328 := by omega
      have hsz : w.heap.size ≤ W4.heap.size := HB4.out.size
      clear b4
      go_wp2_with (at_builtin; go_loud (rw [← hW4]; refine wpList_append_sl _ rfl (.tmp 17) (.tmp 21) 24 rfl w.heap.size 57 i0 _ 4 32 Try.underlying24 hi hz0 hz1 hz2 rfl (by omega) A1 k c1 _ rfl HO4.out (w3.heap.size + 1) _ 1 1 [.int .i64 m, .int .i64 M, .int .i64 f, .int .i64 t] rfl SL.out (by simp [Value.oneCell']) (by omega) hb32 hsz ?_; intro A5 c5 w5 hown5 hg5 hat5; have HF : Hid (Own w5 w.heap.size 57 4 A5 (k + 1) c5 (fl c4 ((l.take (k + 1)).map (conAtQ m M))) ∧ Below w.heap.size w w5) := Lib.hid ⟨(by rw [HT.out]; exact hown5), HB4.out.grown hg5 HB4.out.size (fun j hj => (HO4.out.row.lt j hj).1)⟩; clear hown5 hg5 hat5))
      go_roundw
      case rel => exact ⟨k + 1, A5, c5, by omega, by go_num, rfl, HF.out⟩
      case measure => simp [intOf]; omega
/-- what a round of CutClouds stands on: the covers, what is left of the contacts so far -/
structure Crn (w0 w : World) (X : Nat → Prop) (mb tb lb n D0 : Nat) (A' : Option Addr) (n' c' : Nat) (cl : List Tri) (A1 : Option Addr) (n1 c1 : Nat) (L : List Sat4) : Prop where
  cov : Cov w X mb tb lb n D0 A' n' c' cl
  ow : Own w w0.heap.size 57 4 A1 n1 c1 (fl c4 L)
  off : ∀ a, A1 = some a → ¬ X a.block
  lo : ∀ b, X b → w0.heap.size ≤ b
  bl : Below w0.heap.size w0 w
section
variable {w0 w w' : World} {X X' : Nat → Prop} {mb tb lb n D0 n' c' n1 c1 n2 c2 : Nat} {A' A1 A2 : Option Addr} {cl : List Tri} {L L2 : List Sat4}
theorem Crn.on (h : Crn w0 w X mb tb lb n D0 A' n' c' cl A1 n1 c1 L) (hb : Below w.heap.size w w') : Crn w0 w' X mb tb lb n D0 A' n' c' cl A1 n1 c1 L :=
  ⟨h.cov.on hb, h.ow.on hb, h.off, h.lo, h.bl.trans (hb.mono h.bl.size)⟩
theorem Crn.cover {m : Nat} (h : Crn w0 w X mb tb lb n D0 A' n' c' cl A1 n1 c1 L) (hc : Cov w' X' mb tb lb m D0 A' n' c' cl) (h1 : ∀ b, X' b → X b ∨ w.heap.size ≤ b) (hg : w.grownBy w' (some mb)) : Crn w0 w' X' mb tb lb m D0 A' n' c' cl A1 n1 c1 L := by
  refine ⟨hc, h.ow.kept hg ?_, fun a e hx => ?_, fun b hb => ?_, h.bl.grown hg h.bl.size fun r hr => by injection hr with hr; have := h.lo mb h.cov.xs.1; omega⟩
  · rcases A1 with _ | ad
    · exact .inl rfl
    · right
      intro e
      simp [Value.ownBlock] at e
      exact h.off ad rfl (by rw [e]; exact h.cov.xs.1)
  · rcases h1 _ hx with h2 | h2
    · exact h.off a e h2
    · rcases h.ow.form with ⟨e1, _⟩ | ⟨g, e1, _, h3, _⟩
      · rw [e1] at e; cases e
      · rw [e1] at e; injection e with e; subst e; simp at h2; omega
  · rcases h1 b hb with h2 | h2
    · exact h.lo b h2
    · exact Nat.le_trans h.bl.size h2
theorem Crn.put (h : Crn w0 w X mb tb lb n D0 A' n' c' cl A1 n1 c1 L) (hD : D0 ≤ w0.heap.size) (ho : Own w' w0.heap.size 57 4 A2 n2 c2 (fl c4 L2)) (hg : w.grownBy w' (Value.slice A1 n1 c1).ownBlock) (hat : (Value.slice A2 n2 c2).ownBlock = (Value.slice A1 n1 c1).ownBlock ∨ (Value.slice A2 n2 c2).ownBlock = some w.heap.size) : Crn w0 w' X mb tb lb n D0 A' n' c' cl A2 n2 c2 L2 := by
  have hrow : ∀ r, (Value.slice A1 n1 c1).ownBlock = some r → ¬ X r ∧ w0.heap.size ≤ r := fun r hr => by
    rcases h.ow.blk with e | ⟨q, e, h1, _⟩
    · rw [e] at hr; cases hr
    · rw [e] at hr; injection hr with hr; subst hr
      refine ⟨?_, h1⟩
      rcases A1 with _ | ad
      · cases e
      · simp [Value.ownBlock] at e
        rw [← e]; exact h.off ad rfl
  refine ⟨h.cov.kept hg fun r hr => ⟨(hrow r hr).1, Nat.le_trans hD (hrow r hr).2⟩, ho, fun a e hx => ?_, h.lo, h.bl.grown hg h.bl.size fun r hr => (hrow r hr).2⟩
  subst e
  rcases hat with e | e
  · exact (hrow a.block (by rw [← e]; rfl)).1 hx
  · simp [Value.ownBlock] at e
    have := (h.cov.bd _ hx).1
    omega
end
set_option maxRecDepth 100000 in
set_option maxHeartbeats 4000000 in
theorem icutc (w : World) (D D' : Nat) (A A' : Option Addr) (n n' c c' : Nat) (l : List Sat4) (cl : List Tri) (h : Sl w D 4 A n c (fl c4 l)) (h' : Sl w D' 3 A' n' c' (fl c3 cl)) (hD : D ≤ w.heap.size) (hD' : D' ≤ w.heap.size) (hn : n ≤ 16777216) (hn' : n' ≤ 16777216) (hk4 : ∀ x ∈ l, J64 x.p ∧ J64 x.h) :
    Calls Try.prog 10 #[.slice A n c, .slice A' n' c'] w (GivesC w (cutP cl l)) := by
  obtain ⟨i0, hi0, hy0, hy1, hy2⟩ := info_parts contact_info
  obtain rfl := h.num c4_len (by omega)
  have HS := Lib.hid h; have HK4 := Lib.hid hk4; have HN' := Lib.hid hn'
  have hcap := h.cap; have hcapm := h.capm
  obtain ⟨W0, hW0⟩ : ∃ W, W = w.alloc (.cells #[] 57) := ⟨_, rfl⟩
  obtain ⟨g0, hg0⟩ : ∃ g, g = w.heap.size := ⟨_, rfl⟩
  have HO0 : Hid (Own W0 w.heap.size 57 4 (some ⟨g0, 0, none⟩) 0 0 (fl c4 (cutP cl (l.take 0)))) := Lib.hid (by rw [hW0, hg0]; exact Own.madeS w w.heap.size 4 _ (Nat.le_refl _))
  have HB0 : Hid (Below w.heap.size w W0) := Lib.hid (by rw [hW0]; exact (Below.refl _ _).alloc (Nat.le_refl _) _)
  have HS' := Lib.hid (h'.below HB0.out hD')
  have HD' := Lib.hid hD'
  have HG0 : Hid (g0 < W0.heap.size) := Lib.hid (by rw [hW0, hg0]; simp)
  clear h h' hk4 hn' hD'
  go_enter Try.func10, Try.ntmps10
  go_wp2_with fail
  rw [← hW0, ← hg0]
  clear hW0 hg0
  refine (icovers W0 D' A' n' c' cl HS'.out (Nat.le_trans HD'.out HB0.out.size)).mono ?_
  rintro e w1 ⟨⟨X0, mb, tb, lb, rfl, hcov, hxlo⟩, b1⟩
  have HR0 : Hid (Crn w w1 X0 mb tb lb 0 D' A' n' c' cl (some ⟨g0, 0, none⟩) 0 0 (cutP cl (l.take 0))) := Lib.hid ⟨hcov, HO0.out.on b1, fun a e hx => by injection e with e; subst e; have := hxlo _ hx; have := HG0.out; simp at *; omega, fun b hb => Nat.le_trans HB0.out.size (hxlo b hb), HB0.out.trans (b1.mono HB0.out.size)⟩
  clear hcov hxlo b1
  go_wp2_with fail
  go_loopw [5, 15] (fun o i wr => ∃ (k m : Nat) (A1 : Option Addr) (n1 c1 : Nat) (X : Nat → Prop), k ≤ l.length ∧ m ≤ 2 * k ∧ i = .int .i64 k ∧ o = .slice A1 n1 c1 ∧ Crn w wr X mb tb lb m D' A' n' c' cl A1 n1 c1 (cutP cl (l.take k))) (fun _ i _ => l.length - (intOf i).toNat)
  case atStart => exact ⟨0, 0, _, 0, 0, X0, Nat.zero_le _, by omega, rfl, rfl, HR0.out⟩
  case round =>
    clear HR0
    obtain ⟨k, mm, A1, n1, c1, X, hk, hmm, rfl, rfl, hr⟩ := hrel
    have HR := Lib.hid hr
    clear hr
    by_cases hlt : k < l.length
    case neg =>
      obtain rfl : k = l.length := by omega
      have HF : Hid (GivesC w (cutP cl l) (.returned (.slice A1 n1 c1)) wr) := Lib.hid ⟨_, _, _, rfl, by have h := HR.out.ow; rw [List.take_length] at h; exact h, HR.out.bl⟩
      clear hi0 hy0 hy1 hy2
      go_wp2_with fail
      go_ret
      exact HF.out
    case pos =>
      obtain ⟨ad, hx, rfl, had, c0, c1', c2', c3'⟩ := (HS.out.below HR.out.bl hD).four hlt
      have HT := Lib.hid (cutP_snoc cl l k hlt)
      have HJ := Lib.hid (HK4.out _ (List.getElem_mem hlt))
      have hk0 : (0 : Int) ≤ (k : Int) := by omega
      have hkl : (k : Int) < (l.length : Int) := by omega
      obtain ⟨z, hz⟩ : ∃ z, z = l[k] := ⟨_, rfl⟩
      rw [← hz] at HT HJ c0 c1' c2' c3'
      clear hz
      obtain ⟨p, q, f, t⟩ := z
      simp only at c0 c1' c2' c3' HJ
      obtain ⟨LP, hLP⟩ : ∃ L, L = cutP cl (l.take k) := ⟨_, rfl⟩
      have hLPn : LP.length ≤ 16777216000 := by
        rw [hLP]
        have h1 := cutP_len cl (l.take k)
        rw [List.length_take] at h1; omega
      rw [← hLP] at HT HR
      clear hLP
      obtain ⟨W1, hW1⟩ : ∃ W, W = wr.alloc (.cells #[.int .i64 p, .int .i64 q, .int .i64 f, .int .i64 t] 57) := ⟨_, rfl⟩
      obtain ⟨T, hT⟩ : ∃ g, g = wr.heap.size := ⟨_, rfl⟩
      have Z1 : Hid (Blk W1 T 57 #[.int .i64 p, .int .i64 q, .int .i64 f, .int .i64 t]) := Lib.hid (by rw [hW1, hT]; exact Blk.new _ _ _)
      have HR1 := Lib.hid (HR.out.on (by rw [hW1]; exact (Below.refl _ _).alloc (Nat.le_refl _) _ : Below wr.heap.size wr W1))
      have HTM : Hid (T ≠ mb) := Lib.hid (by have := (HR.out.cov.bd mb HR.out.cov.xs.1).1; omega)
      go_upto_region 6 with fail
      rw [← hW1, ← hT]
      clear hW1 hT c0 c1' c2' c3' HR
      have c0 : W1.cell? ⟨T, 0, none⟩ = some (.int .i64 p) := Z1.out.cell 0
      have c1' : W1.cell? ⟨T, 1, none⟩ = some (.int .i64 q) := Z1.out.cell 1
      have c2' : W1.cell? ⟨T, 2, none⟩ = some (.int .i64 f) := Z1.out.cell 2
      have c3' : W1.cell? ⟨T, 3, none⟩ = some (.int .i64 t) := Z1.out.cell 3
      go_wp2_with fail
      refine (ispan W1 p q f t).mono ?_
      rintro e w2 ⟨rfl, b2⟩
      have HR2 := Lib.hid (HR1.out.on b2); have Z2 := Lib.hid (Z1.out.below b2 Z1.out.lt)
      clear b2 HR1 Z1 c0 c1' c2' c3'
      obtain ⟨v, hv⟩ : ∃ v, isS (f, t) = v := ⟨_, rfl⟩
      have HV := Lib.hid hv
      clear hv
      go_wp2_with fail
      refine (iisspan w2 f t v HV.out).mono ?_
      rintro e w3 ⟨rfl, b3⟩
      have HR3 := Lib.hid (HR2.out.on b3); have Z3 := Lib.hid (Z2.out.below b3 Z2.out.lt)
      clear b3 HR2 Z2
      cases v
      case false =>
        have HF : Hid (Crn w w3 X mb tb lb mm D' A' n' c' cl A1 n1 c1 (cutP cl (l.take (k + 1)))) := Lib.hid (by rw [HT.out, cutX_bad cl ⟨p, q, f, t⟩ HV.out, List.append_nil]; exact HR3.out)
        go_wp2_with fail
        go_roundw
        case rel => exact ⟨k + 1, mm, A1, n1, c1, X, by omega, by omega, by go_num, rfl, HF.out⟩
        case measure => simp [intOf]; omega
      case true =>
        have HVS := (isS_iff _).1 HV.out
        simp only at HVS
        have HXV : Hid (0 ≤ f ∧ f < t ∧ t ≤ 1000) := Lib.hid (by omega)
        have HRW : Hid (runs (leftK (cloudS cl p) (cloudS cl q) (f, t)) 1000 = cutC cl ⟨p, q, f, t⟩) := Lib.hid (leftK_cut cl ⟨p, q, f, t⟩)
        have HMM : Hid (mm ≤ 100000000 ∧ mm + 1 ≤ 100000000) := Lib.hid (by omega)
        have c0 : w3.cell? ⟨T, 0, none⟩ = some (.int .i64 p) := Z3.out.cell 0
        have c1' : w3.cell? ⟨T, 1, none⟩ = some (.int .i64 q) := Z3.out.cell 1
        have c2' : w3.cell? ⟨T, 2, none⟩ = some (.int .i64 f) := Z3.out.cell 2
        have c3' : w3.cell? ⟨T, 3, none⟩ = some (.int .i64 t) := Z3.out.cell 3
        have hc0 : w3.cell? ⟨T, 0, none⟩ = some (.int .i64 p) ∧ w3.cell? ⟨T, 1, none⟩ = some (.int .i64 q) ∧ w3.cell? ⟨T, 2, none⟩ = some (.int .i64 f) ∧ w3.cell? ⟨T, 3, none⟩ = some (.int .i64 t) := ⟨c0, c1', c2', c3'⟩
        have HRD : Hid (Crn w w3.drew X mb tb lb mm D' A' n' c' cl A1 n1 c1 LP) := Lib.hid (HR3.out.on (Below.refl _ _).drew)
        have ZD : Hid (Blk w3.drew T 57 #[.int .i64 p, .int .i64 q, .int .i64 f, .int .i64 t]) := Lib.hid Z3.out.drew
        clear HV HVS c0 c1' c2' c3' HR3 Z3
        go_upto_region 7 with fail
        go_region_held3 (fun w' => w'.cell? ⟨T, 0, none⟩ = some (.int .i64 p) ∧ w'.cell? ⟨T, 1, none⟩ = some (.int .i64 q) ∧ w'.cell? ⟨T, 2, none⟩ = some (.int .i64 f) ∧ w'.cell? ⟨T, 3, none⟩ = some (.int .i64 t)) (first | exact hc0 | exact hcA | exact hcB | exact hcC | exact hcD | go_keep) (first
          | (go_at_call 38; have hbefore := SC.out; refine (isout wC wC.heap.size Aa Ab na nb ca cb (cloudS cl p) (cloudS cl q) (f, t) SB.out.sl SC.out.sl (Nat.le_refl _) (inOrd_cloud cl p) (inOrd_cloud cl q) (Nat.le_trans (cloudS_len cl p) (by omega)) (Nat.le_trans (cloudS_len cl q) (by omega)) HXV.out).mono ?_; rintro e wD ⟨Ad, nd, cd, rfl, oD, bD⟩; have RD := Lib.hid (RC.out.on bD); have YD := Lib.hid (YC.out.below bD YC.out.lt); have hcD : wD.cell? ⟨T, 0, none⟩ = some (.int .i64 p) ∧ wD.cell? ⟨T, 1, none⟩ = some (.int .i64 q) ∧ wD.cell? ⟨T, 2, none⟩ = some (.int .i64 f) ∧ wD.cell? ⟨T, 3, none⟩ = some (.int .i64 t) := ⟨YD.out.cell 0, YD.out.cell 1, YD.out.cell 2, YD.out.cell 3⟩; have OD := Lib.hid oD; clear oD bD hbefore)
          | (go_at_call 62; have hbefore := SB.out; refine (icover wB XB mb tb lb (mm + 1) D' A' n' c' cl RB.out.cov HMM.out.2 HN'.out q HJ.out.2).mono ?_; rintro e wC ⟨Ab, nb, cb, XC, rfl, cC, sC, hx1, hx2, gC⟩; have RC := Lib.hid (RB.out.cover cC hx2 gC); have YC := Lib.hid (YB.out.grownQ gC (fun e => HTM.out (by injection e))); have hcC : wC.cell? ⟨T, 0, none⟩ = some (.int .i64 p) ∧ wC.cell? ⟨T, 1, none⟩ = some (.int .i64 q) ∧ wC.cell? ⟨T, 2, none⟩ = some (.int .i64 f) ∧ wC.cell? ⟨T, 3, none⟩ = some (.int .i64 t) := ⟨YC.out.cell 0, YC.out.cell 1, YC.out.cell 2, YC.out.cell 3⟩; have SC := Lib.hid sC; replace SB := Lib.hid (SB.out.kept gC (fun r e => .inl (by injection e with e; exact e.symm)) hx1); clear cC sC hx1 hx2 gC hbefore)
          | (go_at_call 62; have hbefore := RA.out; refine (icover wA X mb tb lb mm D' A' n' c' cl RA.out.cov HMM.out.1 HN'.out p HJ.out.1).mono ?_; rintro e wB ⟨Aa, na, ca, XB, rfl, cB, sB, hx1, hx2, gB⟩; have RB := Lib.hid (RA.out.cover cB hx2 gB); have YB := Lib.hid (YA.out.grownQ gB (fun e => HTM.out (by injection e))); have hcB : wB.cell? ⟨T, 0, none⟩ = some (.int .i64 p) ∧ wB.cell? ⟨T, 1, none⟩ = some (.int .i64 q) ∧ wB.cell? ⟨T, 2, none⟩ = some (.int .i64 f) ∧ wB.cell? ⟨T, 3, none⟩ = some (.int .i64 t) := ⟨YB.out.cell 0, YB.out.cell 1, YB.out.cell 2, YB.out.cell 3⟩; have SB := Lib.hid sB; clear cB sB hx1 hx2 gB hbefore)
          | (go_at_call 37; refine (ispan w3.drew p q f t).mono ?_; rintro e wA ⟨rfl, bA⟩; have RA := Lib.hid (HRD.out.on bA); have YA := Lib.hid (ZD.out.below bA ZD.out.lt); have hcA : wA.cell? ⟨T, 0, none⟩ = some (.int .i64 p) ∧ wA.cell? ⟨T, 1, none⟩ = some (.int .i64 q) ∧ wA.cell? ⟨T, 2, none⟩ = some (.int .i64 f) ∧ wA.cell? ⟨T, 3, none⟩ = some (.int .i64 t) := ⟨YA.out.cell 0, YA.out.cell 1, YA.out.cell 2, YA.out.cell 3⟩; clear bA))
        have SLD : Hid (Sl wD wD.heap.size 2 Ad nd cd (sv (cutC cl ⟨p, q, f, t⟩))) := Lib.hid (by rw [← HRW.out]; exact OD.out.sl)
        have hnd : nd ≤ 1000 := by
          have h1 := SLD.out.len
          rw [sv_len] at h1
          have h2 := cutC_len cl ⟨p, q, f, t⟩
          omega
        have hnd5 : nd ≤ 100000 := by omega
        obtain ⟨LX, hLX⟩ : ∃ L, L = cutX cl ⟨p, q, f, t⟩ := ⟨_, rfl⟩
        have HLX : Hid ((cutC cl ⟨p, q, f, t⟩).map (conAtQ p q) = LX) := Lib.hid hLX.symm
        have hLXn : LX.length ≤ 1000 := by rw [hLX]; exact cutX_len cl _
        rw [← hLX] at HT
        clear hLX
        clear RA YA SB YB RB SC YC RC OD hcA hcB hcC HRD ZD hc0
        go_wp2_with fail
        refine (iduringAll wD wD.heap.size Ad nd cd (cutC cl ⟨p, q, f, t⟩) SLD.out (Nat.le_refl _) hnd5 p q f t).mono ?_
        rintro e wE ⟨Ae, ne, ce, rfl, oE, bE⟩
        rw [HLX.out] at oE
        have RE := Lib.hid (RD.out.on bE)
        have SE := Lib.hid oE.sl
        have hne : ne ≤ 1000 := by have h1 := oE.sl.num c4_len (by omega); omega
        have hn1 : n1 ≤ 16777216000 := by have h1 := RE.out.ow.sl.num c4_len (by omega); omega
        have hone := Lib.hid (fl_one c4_one LX)
        have h63 : n1 + ne ≤ 9223372036854775807 := by omega
        have hb32 : (n1 + ne) * 32 ≤ 140737488355328 := by omega
        have hsz : w.heap.size ≤ wE.heap.size := RE.out.bl.size
        clear oE bE RD hcD
        go_wp2_with (at_builtin; go_loud (refine wpList_append_sl _ rfl (.tmp 34) (.tmp 38) 24 rfl w.heap.size 57 i0 _ 4 32 Try.underlying24 hi0 hy0 hy1 hy2 rfl (by omega) A1 n1 c1 (fl c4 LP) rfl RE.out.ow wE.heap.size Ae ne ce (fl c4 LX) rfl SE.out hone.out h63 hb32 hsz ?_; intro A6 c6 w6 hown6 hg6 hat6; have HF : Hid (Crn w w6 XC mb tb lb (mm + 1 + 1) D' A' n' c' cl A6 (n1 + ne) c6 (cutP cl (l.take (k + 1)))) := Lib.hid (RE.out.put HD'.out (by rw [HT.out, fl_app]; exact hown6) hg6 hat6); clear hown6 hg6 hat6))
        go_roundw
        case rel => exact ⟨k + 1, mm + 1 + 1, A6, n1 + ne, c6, XC, by omega, by omega, by go_num, rfl, HF.out⟩
        case measure => simp [intOf]; omega
theorem ilost (w : World) (D D' : Nat) (A A' : Option Addr) (n n' c c' : Nat) (l : List Sat4) (cl : List Tri) (h : Sl w D 4 A n c (fl c4 l)) (h' : Sl w D' 3 A' n' c' (fl c3 cl)) (hD : D ≤ w.heap.size) (hD' : D' ≤ w.heap.size) (hn : n ≤ 16777216) (hn' : n' ≤ 16777216) (hk4 : ∀ x ∈ l, J64 x.p ∧ J64 x.h) (r : Int) (hr : conTicks l - conTicks (cutP cl l) = r) :
    Calls Try.prog 14 #[.slice A n c, .slice A' n' c'] w fun e w' => e = .returned (.int .i64 r) ∧ Below w.heap.size w w' := by
  have hnl : n = l.length := h.num c4_len (by omega)
  have h1 := conTicks_bd l
  have h2 := conTicks_bd (cutP cl l)
  have h3 := cutP_len cl l
  have hw : IntKind.i64.wrap (conTicks l - conTicks (cutP cl l)) = r := by rw [hr]; exact wrap_in _ (by omega) (by omega)
  obtain ⟨a, ha⟩ : ∃ a, a = conTicks l := ⟨_, rfl⟩
  obtain ⟨b, hb⟩ : ∃ b, b = conTicks (cutP cl l) := ⟨_, rfl⟩
  rw [← ha, ← hb] at hw
  have HA := Lib.hid ha; have HB := Lib.hid hb
  have HS := Lib.hid h; have HS' := Lib.hid h'; have HK4 := Lib.hid hk4
  have HCL : Hid ((cutP cl l).length ≤ 1000000000000) := Lib.hid (by omega)
  have hn2 : n ≤ 1000000000000 := by omega
  clear h h' hr ha hb h1 h2 h3 hnl hk4
  go_enter Try.func14, Try.ntmps14
  go_wp2_with fail
  refine (icticks w D A n c l HS.out hD hn2 a HA.out.symm).mono ?_
  rintro e w1 ⟨rfl, b1⟩
  have B1 := Lib.hid b1
  have S1 := Lib.hid (HS.out.below b1 hD); have S1' := Lib.hid (HS'.out.below b1 hD')
  have hD1 : Hid (D ≤ w1.heap.size ∧ D' ≤ w1.heap.size) := Lib.hid ⟨Nat.le_trans hD b1.size, Nat.le_trans hD' b1.size⟩
  clear b1
  go_wp2_with fail
  refine (icutc w1 D D' A A' n n' c c' l cl S1.out S1'.out hD1.out.1 hD1.out.2 hn hn' HK4.out).mono ?_
  rintro e w2 ⟨A2, n2, c2, rfl, o2, b2⟩
  have B2 := Lib.hid (B1.out.trans (b2.mono B1.out.size))
  have S2 := Lib.hid o2.sl
  have hn3 : Hid (n2 ≤ 1000000000000) := Lib.hid (by rw [o2.sl.num c4_len (by omega)]; exact HCL.out)
  clear o2 b2
  go_wp2_with fail
  refine (icticks w2 _ A2 n2 c2 (cutP cl l) S2.out (Nat.le_refl _) hn3.out b HB.out.symm).mono ?_
  rintro e w3 ⟨rfl, b3⟩
  have HF := Lib.hid (B2.out.trans (b3.mono B2.out.size))
  clear b3
  go_wp2
  go_ret
  exact ⟨rfl, HF.out⟩
end Go.Proofs.Ytmmnnbgfomcihaa
