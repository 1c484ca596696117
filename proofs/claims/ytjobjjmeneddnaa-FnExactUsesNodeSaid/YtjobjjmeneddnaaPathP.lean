/- The program's PathTo. -/
import Derived.Test.YtjobjjmeneddnaaWalk
import Derived.Test.YtjobjjmeneddnaaGraphM2
import Derived.Maps.OwnIn
namespace Go.Proofs.Ytjobjjmeneddnaa
open Go.ChangeShapes Go.WideShapes Go.ChangeAt Go.RowKit Go.Shelf
set_option linter.unusedVariables false
attribute [local go_sem] Oper.semAt_some
theorem cell_same {X Y : World} {p : Addr} (h : Y.heap[p.block]? = X.heap[p.block]?) : Y.cell? p = X.cell? p := by simp only [World.cell?, h]
theorem itr_shift (next : List Int) (a : Int) (k : Nat) : itr next k (atD next a) = itr next (k + 1) a := by
  induction k with
  | zero => rfl
  | succ k ih => show atD next (itr next k (atD next a)) = _; rw [ih]; rfl
theorem wl_cons (next : List Int) (a : Int) (k : Nat) : wl next a (k + 1) = a :: wl next (atD next a) k := by
  unfold wl
  rw [List.range_succ_eq_map, List.map_cons, List.map_map]
  have e : (List.range k).map ((fun j => itr next j a) ∘ Nat.succ) = (List.range k).map fun j => itr next j (atD next a) := List.map_congr_left fun j _ => (itr_shift next a j).symm
  rw [e]; rfl
theorem inN_iff (next : List Int) (a : Int) : inN next a ↔ 0 ≤ a ∧ a < next.length := by unfold inN; omega
theorem pathGo_hit (next : List Int) (dst : Int) (k : Nat) : ∀ m a, k < m → (∀ j, j ≤ k → inN next (itr next j a)) → (∀ j, j < k → itr next j a ≠ dst) → itr next k a = dst → pathGo next dst m a = some (wl next a (k + 1)) := by
  induction k with
  | zero =>
    intro m a hm hin _ hd
    obtain ⟨m, rfl⟩ : ∃ v, m = v + 1 := ⟨m - 1, by omega⟩
    unfold pathGo
    rw [if_pos ((inN_iff next a).1 (hin 0 (Nat.le_refl _))), if_pos (show a = dst from hd)]
    simp [wl, itr]
  | succ k ih =>
    intro m a hm hin hne hd
    obtain ⟨m, rfl⟩ : ∃ v, m = v + 1 := ⟨m - 1, by omega⟩
    unfold pathGo
    rw [if_pos ((inN_iff next a).1 (hin 0 (by omega))), if_neg (show ¬ a = dst from hne 0 (by omega)), ih m (atD next a) (by omega) (fun j hj => by rw [itr_shift]; exact hin (j + 1) (by omega)) (fun j hj => by rw [itr_shift]; exact hne (j + 1) (by omega)) (by rw [itr_shift]; exact hd)]
    rw [wl_cons next a (k + 1)]; rfl
theorem pathGo_miss (next : List Int) (dst : Int) (m : Nat) : ∀ k a, (∀ j, j < k → inN next (itr next j a) ∧ itr next j a ≠ dst) → (¬ inN next (itr next k a) ∨ m ≤ k) → pathGo next dst m a = none := by
  induction m with
  | zero => intro k a _ _; rfl
  | succ m ih =>
    intro k a h hk
    unfold pathGo
    by_cases hin : inN next a
    · rw [if_pos ((inN_iff next a).1 hin)]
      obtain ⟨k, rfl⟩ : ∃ v, k = v + 1 := ⟨k - 1, by
        rcases hk with hk | hk
        · by_cases e : k = 0
          · subst e; exact absurd hin hk
          · omega
        · omega⟩
      rw [if_neg (show ¬ a = dst from (h 0 (by omega)).2), ih k (atD next a) (fun j hj => by rw [itr_shift]; exact h (j + 1) (by omega)) (by rw [itr_shift]; rcases hk with hk | hk; exact .inl hk; exact .inr (by omega))]
      rfl
    · rw [if_neg (fun h => hin ((inN_iff next a).2 h))]
theorem app_keeps {W w1 W9 : World} {tmp : Obj} {A1 : Option Addr} {n c b q : Nat} {u : Value} (hg : (W.alloc tmp).grownBy w1 (Value.slice A1 n c).ownBlock) (h9 : W9 = w1.setCell ⟨q, 0, none⟩ u) (ho : ∀ ad, A1 = some ad → ad.block ≠ b ∧ ad.block ≠ b + 1) (hb : b + 1 < W.heap.size) (hq : q < b) :
    W9.heap[b]? = W.heap[b]? ∧ W9.heap[b + 1]? = W.heap[b + 1]? := by
  have h1 : ∀ j, j < W.heap.size → j ≠ q → (∀ ad, A1 = some ad → ad.block ≠ j) → W9.heap[j]? = W.heap[j]? := fun j hj hjq ha => by
    rw [h9]
    refine ((Below.heap_setCell w1 _ _ j (by simpa using hjq)).trans (hg.block j (by simp; omega) fun e => ?_)).trans (Below.heap_alloc W tmp j hj)
    cases A1 with
    | none => simp [Value.ownBlock] at e
    | some ad => simp [Value.ownBlock] at e; exact ha ad rfl e.symm
  exact ⟨h1 b (by omega) (by omega) fun ad e => (ho ad e).1, h1 (b + 1) hb (by omega) fun ad e => (ho ad e).2⟩
theorem app_off {W : World} {tmp : Obj} {A1 : Option Addr} {n c n' c' b g' : Nat} (hat : (Value.slice (some ⟨g', 0, none⟩) n' c').ownBlock = (Value.slice A1 n c).ownBlock ∨ (Value.slice (some ⟨g', 0, none⟩) n' c').ownBlock = some (W.alloc tmp).heap.size) (ho : ∀ ad, A1 = some ad → ad.block ≠ b ∧ ad.block ≠ b + 1) (hb : b + 1 < W.heap.size) : g' ≠ b ∧ g' ≠ b + 1 := by
  rcases hat with e | e
  · cases A1 with
    | none => simp [Value.ownBlock] at e
    | some ad => simp [Value.ownBlock] at e; rw [e]; exact ho ad rfl
  · simp [Value.ownBlock] at e; omega
set_option maxRecDepth 100000 in
set_option maxHeartbeats 2000000 in
theorem ipath (w : World) (D : Nat) (A : Option Addr) (n c : Nat) (l : List Int) (h : Sl w D 1 A n c (iv l)) (hD : D ≤ w.heap.size) (hn : n ≤ 16777216) (a dst : Int) :
    Calls Try.prog 46 #[.slice A n c, .int .i64 a, .int .i64 dst] w (GivesIM w (pathL l a dst)) := by
  obtain rfl : n = l.length := by have h1 := h.len; rw [iv_len] at h1; omega
  obtain ⟨i0, hi, hz0, hz1, hz2⟩ := info_parts intK_info
  have HS := Lib.hid h
  have hro : Fence.wide.round = none := rfl
  clear h
  refine (callsIn_wide (n := 3)).1 ?_
  refine callsIn_of_wp_marks Try.func46 rfl trivial ?_ hro
  simp only [Try.ntmps46, List.size_toArray, List.length_cons, List.length_nil, Nat.reduceAdd, Nat.reduceSub, Array.replicate_succ, Array.replicate_zero, List.push_toArray, List.append_toArray, List.nil_append, List.cons_append]
  gi_wp2_with fail
  obtain ⟨g, hg⟩ : ∃ g, g = w.heap.size := ⟨_, rfl⟩
  obtain ⟨W5, hW5⟩ : ∃ W, W = ((((w.alloc (.cells #[.slice A l.length c] 27)).alloc (.cells #[.int .i64 dst] 3)).alloc (.cells #[.slice none 0 0] 27)).alloc (.cells #[] 3)).alloc (.cells #[.slice (some ⟨g + 1 + 1 + 1, 0, none⟩) 0 0] 27) := ⟨_, rfl⟩
  rw [← hg, ← hW5]
  have x0 : Boxed W5 g 27 (.slice A l.length c) := by
    rw [hW5, hg]; exact ((((Boxed.new _ _ _).alloc _).alloc _).alloc _).alloc _
  have x1 : Boxed W5 (g + 1) 3 (.int .i64 dst) := by
    rw [hW5, hg]
    have h := (((Boxed.new (w.alloc (.cells #[.slice A l.length c] 27)) 3 (.int .i64 dst)).alloc (.cells #[.slice none 0 0] 27)).alloc (.cells #[] 3)).alloc (.cells #[.slice (some ⟨w.heap.size + 1 + 1 + 1, 0, none⟩) 0 0] 27)
    simpa using h
  have x2 : Boxed W5 (g + 1 + 1) 27 (.slice none 0 0) := by
    rw [hW5, hg]
    have h := ((Boxed.new ((w.alloc (.cells #[.slice A l.length c] 27)).alloc (.cells #[.int .i64 dst] 3)) 27 (.slice none 0 0)).alloc (.cells #[] 3)).alloc (.cells #[.slice (some ⟨w.heap.size + 1 + 1 + 1, 0, none⟩) 0 0] 27)
    simpa using h
  have x3 : Own W5 (g + 1 + 1 + 1) 3 1 (some ⟨g + 1 + 1 + 1, 0, none⟩) 0 0 (iv []) := by
    rw [hW5, hg]
    have h := Own.made1 (((w.alloc (.cells #[.slice A l.length c] 27)).alloc (.cells #[.int .i64 dst] 3)).alloc (.cells #[.slice none 0 0] 27)) (w.heap.size + 1 + 1 + 1) 3 (by simp)
    have h2 := h.on ((Below.refl _ _).alloc (Nat.le_refl _) (.cells #[.slice (some ⟨w.heap.size + 1 + 1 + 1, 0, none⟩) 0 0] 27))
    simpa [iv] using h2
  have x4 : Boxed W5 (g + 1 + 1 + 1 + 1) 27 (.slice (some ⟨g + 1 + 1 + 1, 0, none⟩) 0 0) := by
    rw [hW5, hg]
    have h := Boxed.new ((((w.alloc (.cells #[.slice A l.length c] 27)).alloc (.cells #[.int .i64 dst] 3)).alloc (.cells #[.slice none 0 0] 27)).alloc (.cells #[] 3)) 27 (.slice (some ⟨w.heap.size + 1 + 1 + 1, 0, none⟩) 0 0)
    simpa using h
  have hb5 : Below g w W5 := by
    rw [hW5, hg]; exact (((((Below.refl _ _).alloc (Nat.le_refl _) _).alloc (by simp) _).alloc (by simp; omega) _).alloc (by simp; omega) _).alloc (by simp; omega) _
  have hs5 : W5.heap.size = g + 1 + 1 + 1 + 1 + 1 := by rw [hW5, hg]; simp
  have HS5 : Hid (Sl W5 D 1 A l.length c (iv l)) := Lib.hid (HS.out.below hb5 (by rw [hg]; exact hD))
  have HG := Lib.hid hg
  clear hW5
  refine ⟨trivial, (callsIn_wide.2 (iwalk W5 D A c l a HS5.out (by omega))).mono ?_⟩
  rintro e W7 ⟨rfl, hB, hs, hb⟩
  obtain ⟨bn, hbn⟩ : ∃ b, b = W5.heap.size := ⟨_, rfl⟩
  rw [← hbn] at hB ⊢
  have y0 : Boxed W7 g 27 (.slice A l.length c) := (hb.block g x0.lt).trans x0
  have y1 : Boxed W7 (g + 1) 3 (.int .i64 dst) := (hb.block _ x1.lt).trans x1
  have y2 : Boxed W7 (g + 1 + 1) 27 (.slice none 0 0) := (hb.block _ x2.lt).trans x2
  have y4 : Boxed W7 (g + 1 + 1 + 1 + 1) 27 (.slice (some ⟨g + 1 + 1 + 1, 0, none⟩) 0 0) := (hb.block _ x4.lt).trans x4
  have y3 := x3.on hb
  have hb7 : Below g w W7 := hb5.trans (hb.mono (by omega))
  have hs7 : W7.heap.size = bn + 1 + 1 := by rw [hs, hbn]
  have hbn2 : bn = g + 1 + 1 + 1 + 1 + 1 := by omega
  have HBN := Lib.hid hbn2
  have HB7 := Lib.hid hb7; have HS7 := Lib.hid hs7; have HWB := Lib.hid hB
  have Y0 := Lib.hid y0; have Y1 := Lib.hid y1; have Y2 := Lib.hid y2; have Y3 := Lib.hid y3; have Y4 := Lib.hid y4
  clear x0 x1 x2 x3 x4 hb5 hs5 hb hs hbn hbn2 hg hB hb7 hs7 y0 y1 y2 y3 y4
  gi_wp2
  refine range_until hro (by omega) (gf := 76) (lb := #[.pointer (some ⟨bn + 1, 0, none⟩), .pointer (some ⟨bn, 0, none⟩)]) rfl trivial (enters_of Try.func76 (by kernel_rfl) rfl) ienc (fun _ => rfl)
    (fun X Y => Below g X Y ∧ Y.heap[bn]? = X.heap[bn]? ∧ Y.heap[bn + 1]? = X.heap[bn + 1]?) (fun h k => ⟨h.1.trans k.1, k.2.1.trans h.2.1, k.2.2.trans h.2.2⟩)
    (fun X l o o' hl ho h1 h2 => ⟨belowK_b (w := W7) (by have := HS7.out; have := HBN.out; omega) X l o o' hl ho h1 h2, World.putObj_heap_other (by have := HS7.out; omega), World.putObj_heap_other (by have := HS7.out; omega)⟩)
    (fun pre W => ((∃ v, Boxed W (g + 1 + 1 + 1 + 1) 27 v ∧ W.ownsRow (g + 1 + 1 + 1) 3 1 v pre.length (iv pre) ∧ (∃ A1 c1, v = .slice A1 pre.length c1 ∧ ∀ ad, A1 = some ad → ad.block ≠ bn ∧ ad.block ≠ bn + 1)) ∧
      (Boxed W g 27 (.slice A l.length c) ∧ Boxed W (g + 1) 3 (.int .i64 dst) ∧ Boxed W (g + 1 + 1) 27 (.slice none 0 0)) ∧ (pre.length ≤ l.length + 1 ∧ ∀ y ∈ pre, y ≠ dst) ∧ bn + 1 < W.heap.size) ∧ Below g w W)
    (fun cd ps W => ((cd = .ret ∧ (∃ q x, ps = q ++ [x] ∧ x = dst ∧ q.length ≤ l.length ∧ ∀ y ∈ q, y ≠ dst) ∧ ∃ v, Boxed W (g + 1 + 1) 27 v ∧ W.ownsRow (g + 1 + 1 + 1) 3 1 v ps.length (iv ps) ∧ True) ∨
      (cd = .exit 0 ∧ (∃ q x, ps = q ++ [x] ∧ q.length = l.length + 1 ∧ ∀ y ∈ q, y ≠ dst) ∧ Boxed W (g + 1 + 1) 27 (.slice none 0 0))) ∧ Below g w W)
    (OwnFrom.and (Own.from (fun s X Y row hs hgr hr => ⟨holdsRow_own (g + 1 + 1 + 1) (g + 1 + 1 + 1 + 1) 27 3 1 (fun pre : List Int => pre.length) (fun pre => iv pre) (fun pre v => ∃ A1 c1, v = .slice A1 pre.length c1 ∧ ∀ ad, A1 = some ad → ad.block ≠ bn ∧ ad.block ≠ bn + 1) s X Y row hs.1 hgr hr,
      ⟨boxed_own g _ (fun _ => _) s X Y row hs.2.1.1 hgr hr, boxed_own (g + 1) _ (fun _ => _) s X Y row hs.2.1.2.1 hgr hr, boxed_own (g + 1 + 1) _ (fun _ => _) s X Y row hs.2.1.2.2 hgr hr⟩, hs.2.2.1, Nat.lt_of_lt_of_le hs.2.2.2 hgr.size⟩) _) (ownFrom_below (by rw [HG.out]; exact Nat.le_refl _) (by have := HS7.out; have := HBN.out; omega)))
    (fun cd => OwnFrom.and (Own.from (fun s X Y row hs hgr hr => by
      rcases hs with ⟨h1, h2, h3⟩ | ⟨h1, h2, h3⟩
      · exact .inl ⟨h1, h2, holdsRow_own (g + 1 + 1 + 1) (g + 1 + 1) 27 3 1 (fun pre : List Int => pre.length) (fun pre => iv pre) (fun _ _ => True) s X Y row h3 hgr hr⟩
      · exact .inr ⟨h1, h2, boxed_own (g + 1 + 1) _ (fun _ => _) s X Y row h3 hgr hr⟩) _) (ownFrom_below (by rw [HG.out]; exact Nat.le_refl _) (by have := HS7.out; have := HBN.out; omega)))
    (inN l) (allW l a) (partW l a)
    (walk_until Fence.wide 2 walk_wide (by omega) D (bn + 1) bn c (l.length + 1) A l a hn _ (fun k W1 h => by have h1 := h.1.2.2.1.1; rw [wl_len] at h1; exact h1) W7 _ (fun X Y h hw => ⟨(cell_same (p := ⟨bn + 1, 0, none⟩) h.2.2).trans hw.cf, (cell_same (p := ⟨bn, 0, none⟩) h.2.1).trans hw.cn, hw.sl.below h.1 (by have := HG.out; omega)⟩) (by have := HS7.out; omega) (by have := HS7.out; omega) (by have := HS7.out; have := HBN.out; have := HG.out; omega) HWB.out)
    ⟨⟨⟨_, Y4.out, Y3.out.row, _, _, rfl, fun ad e => by injection e with e; subst e; have := HBN.out; simp; omega⟩, ⟨Y0.out, Y1.out, Y2.out⟩, ⟨by simp, by simp⟩, by have := HS7.out; omega⟩, HB7.out⟩
    (fun x => { tmps := #[.slice A l.length c, .int .i64 a, .int .i64 dst, .pointer (some ⟨g, 0, none⟩), undef, .pointer (some ⟨g + 1, 0, none⟩), .pointer (some ⟨g + 1 + 1, 0, none⟩), .pointer (some ⟨g + 1 + 1 + 1 + 1, 0, none⟩), .int .i64 x, .slice (some ⟨g + 1 + 1 + 1, 0, none⟩) 0 0, .slice A l.length c, .int .i64 a,
      .func (.func 76) #[] #[.pointer (some ⟨bn + 1, 0, none⟩), .pointer (some ⟨bn, 0, none⟩)], .int .i64 x, undef, undef, undef, undef, undef, undef, undef, undef, undef, undef, undef, undef, undef, undef], defers := [] }) ?assign ?body ?done ?stop
  case assign =>
    intro l x W K hK
    gi_wp2
    exact hK
  case body =>
    rintro li pre x W _ ⟨⟨⟨v, hv, hrow, A1, c1, rfl, hoff⟩, ⟨z0, z1, z2⟩, ⟨hlen, hne⟩, hbnW⟩, hB⟩
    have hsz := HBN.out
    have HNE := Lib.hid hne; have HB := Lib.hid hB; have HOF := Lib.hid hoff
    have k0 := z0.cell; have k1 := z1.cell; have k4 := hv.cell
    clear hne hB hoff Y0 Y1 Y2 Y3 Y4 HWB
    by_cases hgt : l.length < pre.length
    case pos =>
      have HZ2 := Lib.hid z2
      clear z0 z1 z2 hv hrow
      gi_wp2
      exact ⟨KeepsFrom.refl _ _, .inr ⟨rfl, ⟨pre, x, rfl, by omega, HNE.out⟩, HZ2.out⟩, HB.out⟩
    case neg =>
      have hpl : pre.length ≤ l.length := by omega
      have hb8 : (pre.length + 1) * 8 ≤ 140737488355328 := by omega
      have hm63 : pre.length + 1 ≤ maxLen := by unfold maxLen; omega
      have hg4 : g + 1 + 1 + 1 ≤ W.heap.size := by have := z2.lt; omega
      have hoffb := HOF.out
      have HI := Lib.hid (And.intro hi (And.intro hz0 (And.intro hz1 hz2)))
      have HZ := Lib.hid (And.intro z0 (And.intro z1 z2)); have HV := Lib.hid hv; have HROW := Lib.hid hrow
      clear z0 z1 z2 hv hrow k4
      have k4 := HV.out.cell
      gi_wp2_with (gi_at_builtin; go_loud (refine wpListIn_append_own_at _ rfl (.tmp 19) (.tmp 21) 27 rfl (g + 1 + 1 + 1) 3 i0 (.int .i64 0) 1 8 Try.underlying27 HI.out.1 HI.out.2.1 HI.out.2.2.1 HI.out.2.2.2 rfl (by decide) (.slice A1 pre.length c1) pre.length (iv pre) rfl (HROW.out.alloc _) ⟨W.heap.size, 0, none⟩ 1 1 [.int .i64 x] rfl rfl (cell_one_new _ _ _) (by simp [Value.oneCell']) hm63 hb8 (by simp; omega) ?_; intro v' w1 hown' hgrow _ hat; obtain ⟨g', cap', rfl⟩ := ownsRow_succ hown'; obtain ⟨hv1, hv2, hr2, hk2, hb2⟩ := HV.out.appended (by decide) HROW.out hg4 (by omega) hown' hgrow; have hc1 := hv1.cell; have hf1 := hv1.frozen; obtain ⟨W9, hW9⟩ : ∃ W9, W9 = w1.setCell ⟨g + 1 + 1 + 1 + 1, 0, none⟩ (.slice (some ⟨g', 0, none⟩) (pre.length + 1) cap') := ⟨_, rfl⟩; rw [← hW9] at hv2 hr2 hk2 hb2; have HKN : Hid (W9.heap[bn]? = W.heap[bn]? ∧ W9.heap[bn + 1]? = W.heap[bn + 1]?) := Lib.hid (app_keeps hgrow hW9 hoffb (by omega) (by omega)); have HOF9 : Hid (g' ≠ bn ∧ g' ≠ bn + 1) := Lib.hid (app_off hat hoffb (by omega)); have m0 := (hb2.block g (by omega)).trans HZ.out.1; have m1 : Boxed W9 (g + 1) 3 (.int .i64 dst) := (hb2.block _ (by omega)).trans HZ.out.2.1; have m2 : Boxed W9 (g + 1 + 1) 27 (.slice none 0 0) := (hb2.block _ (by omega)).trans HZ.out.2.2; have M0 := Lib.hid m0; have M1 := Lib.hid m1; have M2 := Lib.hid m2; have HV2 := Lib.hid hv2; have HR2 := Lib.hid hr2; have HK2 := Lib.hid hk2; have HB2 := Lib.hid hb2; have HW9 := Lib.hid hW9; rw [hW9] at m1 m2 hv2; have t1 := m1.cell; have t2 := m2.cell; have f2 := m2.frozen; have t4 := hv2.cell; clear hv1 hv2 hr2 hk2 hb2 m0 m1 m2 hown' hgrow hat hW9))
      · rename_i hx
        have hd : x = dst := by simpa using hx
        rw [← HW9.out]
        exact ⟨(HK2.out.trans (KeepsOthers.setCell W9 _ _)).from _, .inl ⟨rfl, ⟨pre, x, rfl, hd, hpl, HNE.out⟩, _, M2.out.set _, by
          have h := HR2.out.kept (grownBy_setCell' W9 (g + 1 + 1) (.slice (some ⟨g', 0, none⟩) (pre.length + 1) cap')) (.inr (M2.out.not_row (by decide) HR2.out).symm)
          rw [iv_app, List.length_append]; exact h, trivial⟩, (HB.out.trans (HB2.out.mono (by omega))).setCell (p := ⟨g + 1 + 1, 0, none⟩) (by simp; omega) _⟩
      · rename_i hx
        have hd : x ≠ dst := by simpa using hx
        rw [← HW9.out]
        refine ⟨HK2.out.from _, ⟨HB2.out.mono (by omega), HKN.out⟩, ⟨⟨_, HV2.out, by rw [iv_app, List.length_append]; exact HR2.out, _, _, by rw [List.length_append]; rfl, fun ad e => by injection e with e; subst e; exact HOF9.out⟩, ⟨M0.out, M1.out, M2.out⟩, ⟨by rw [List.length_append, List.length_singleton]; omega, fun y hy => ?_⟩, by have := HK2.out.size; omega⟩, HB.out.trans (HB2.out.mono (by omega))⟩
        rcases List.mem_append.1 hy with h | h
        · exact HNE.out y h
        · rw [List.mem_singleton.1 h]; exact hd
  case done =>
    rintro Dd ys W hDd ⟨k, rfl, hin, hout⟩ ⟨⟨_, ⟨_, _, z2⟩, ⟨hlen, hne⟩, _⟩, hB⟩ hK
    have HRES : Hid (pathL l a dst = []) := Lib.hid (by
      unfold pathL
      rw [pathGo_miss l dst (l.length + 1) k a (fun j hj => ⟨hin j hj, hne _ (List.mem_map.2 ⟨j, List.mem_range.2 hj, rfl⟩)⟩) (.inl hout)]; rfl)
    clear hin hout hlen hne Y0 Y1 Y2 Y3 Y4 HWB
    have HB := Lib.hid hB; have HZ2 := Lib.hid z2
    have z2' := z2.alloc (.cells #[] 3)
    have t2 := z2'.cell; have f2 := z2'.frozen
    have hK' := ((KeepsOthers.alloc W (.cells #[] 3)).trans (KeepsOthers.setCell _ ⟨g + 1 + 1, 0, none⟩ (.slice (some ⟨W.heap.size, 0, none⟩) 0 0))).same Dd _ hK rfl
    have HK' := Lib.hid hK'; have HKD := Lib.hid hK
    have HC2 := Lib.hid (z2'.set (.slice (some ⟨W.heap.size, 0, none⟩) 0 0)).cell
    clear hB z2 z2' hK hK'
    gi_wp2
    refine ⟨by simp, .inl ⟨_, _, rfl, run_takeDeferred HK'.out, ?_⟩⟩
    have hc6 := cell_kept HC2.out (grownBy_putObj' _ Dd (.deferred none)) (fun r e => by cases e; exact ⟨_, HK'.out, rfl⟩)
    have hlt2 := HZ2.out.lt
    have hDl : Dd < W.heap.size := (Array.getElem?_eq_some_iff.1 HKD.out).1
    refine ⟨.slice (some ⟨W.heap.size, 0, none⟩) 0 0, ?_, _, _, _, rfl, ?_, ?_⟩
    · simp [results, Try.f46, go_sem, hc6]
    · rw [HRES.out, ← HG.out]
      have h1 := Own.made1 W g 3 (by omega)
      have h2 := h1.kept (grownBy_setCell' _ (g + 1 + 1) (.slice (some ⟨W.heap.size, 0, none⟩) 0 0)) (.inr (by simp [Value.ownBlock]; omega))
      exact ⟨ownsRow_putObj h2.row _ HK'.out rfl⟩
    · rw [← HG.out]
      exact ((HB.out.alloc (by omega) _).setCell (p := ⟨g + 1 + 1, 0, none⟩) (by simp; omega) _).trans (belowK_b (w := w) (by have := HG.out; omega) _ Dd _ _ (by have := HS7.out; have := HBN.out; have := HG.out; omega) HK'.out rfl rfl)
  case stop =>
    rintro Dd cd ps W hDd ⟨k, rfl, hin⟩ ⟨⟨rfl, ⟨q, x, hq, hxd, hql, hne⟩, v, hv, hrow, _⟩ | ⟨rfl, ⟨q, x, hq, hql, hne⟩, z2⟩, hB⟩ hK
    · rw [wl_succ] at hq
      have hq2 := List.append_inj hq (by
        have h := congrArg List.length hq
        simpa using h)
      have hkq : q.length = k := by rw [← hq2.1, wl_len]
      have hxk : itr l k a = dst := by have h := hq2.2; injection h with h; rw [h, hxd]
      have HRES : Hid (pathL l a dst = wl l a (k + 1)) := Lib.hid (by
        unfold pathL
        rw [pathGo_hit l dst k (l.length + 1) a (by omega) hin (fun j hj => hne _ (by rw [← hq2.1]; exact List.mem_map.2 ⟨j, List.mem_range.2 hj, rfl⟩)) hxk]; rfl)
      have HB := Lib.hid hB; have HK := Lib.hid hK; have HV := Lib.hid hv; have HROW := Lib.hid hrow
      have hDl : Dd < W.heap.size := (Array.getElem?_eq_some_iff.1 hK).1
      clear hq hxd hql hne hv hrow hB hK hin hq2 hkq hxk Y0 Y1 Y2 Y3 Y4 HWB
      gi_wp2
      refine ⟨by simp, .inl ⟨_, _, rfl, run_takeDeferred HK.out, ?_⟩⟩
      have hc6 := cell_kept HV.out.cell (grownBy_putObj' _ Dd (.deferred none)) (fun r e => by cases e; exact ⟨_, HK.out, rfl⟩)
      have hfin : ∃ A2 n2 c2, v = .slice A2 n2 c2 ∧ n2 = (wl l a (k + 1)).length := by
        rcases HROW.out.2 with ⟨h1, h2⟩ | ⟨g', cap, cur, h1, _⟩
        · exact ⟨_, _, _, h1, h2.symm⟩
        · exact ⟨_, _, _, h1, rfl⟩
      obtain ⟨A2, n2, c2, rfl, rfl⟩ := hfin
      refine ⟨.slice A2 (wl l a (k + 1)).length c2, ?_, _, _, _, rfl, ?_, ?_⟩
      · simp [results, Try.f46, go_sem, hc6]
      · rw [HRES.out, ← HG.out]
        have h2 : Own W (g + 1 + 1 + 1) 3 1 A2 (wl l a (k + 1)).length c2 (iv (wl l a (k + 1))) := ⟨HROW.out⟩
        exact ⟨ownsRow_putObj (h2.fewer (by omega)).row _ HK.out rfl⟩
      · rw [← HG.out]
        exact HB.out.trans (belowK_b (w := w) (by have := HG.out; omega) _ Dd _ _ (by have := HS7.out; have := HBN.out; have := HG.out; omega) HK.out rfl rfl)
    · rw [wl_succ] at hq
      have hq2 := List.append_inj hq (by
        have h := congrArg List.length hq
        simpa using h)
      have hkq : q.length = k := by rw [← hq2.1, wl_len]
      have HRES : Hid (pathL l a dst = []) := Lib.hid (by
        unfold pathL
        rw [pathGo_miss l dst (l.length + 1) k a (fun j hj => ⟨hin j (by omega), hne _ (by rw [← hq2.1]; exact List.mem_map.2 ⟨j, List.mem_range.2 hj, rfl⟩)⟩) (.inr (by omega))]; rfl)
      clear hq hql hne hin hq2 hkq Y0 Y1 Y2 Y3 Y4 HWB
      have HB := Lib.hid hB; have HZ2 := Lib.hid z2
      have z2' := z2.alloc (.cells #[] 3)
      have t2 := z2'.cell; have f2 := z2'.frozen
      have hK' := ((KeepsOthers.alloc W (.cells #[] 3)).trans (KeepsOthers.setCell _ ⟨g + 1 + 1, 0, none⟩ (.slice (some ⟨W.heap.size, 0, none⟩) 0 0))).same Dd _ hK rfl
      have HK' := Lib.hid hK'; have HKD := Lib.hid hK
      have HC2 := Lib.hid (z2'.set (.slice (some ⟨W.heap.size, 0, none⟩) 0 0)).cell
      clear hB z2 z2' hK hK'
      gi_wp2
      refine ⟨by simp, .inl ⟨_, _, rfl, run_takeDeferred HK'.out, ?_⟩⟩
      have hc6 := cell_kept HC2.out (grownBy_putObj' _ Dd (.deferred none)) (fun r e => by cases e; exact ⟨_, HK'.out, rfl⟩)
      have hlt2 := HZ2.out.lt
      have hDl : Dd < W.heap.size := (Array.getElem?_eq_some_iff.1 HKD.out).1
      refine ⟨.slice (some ⟨W.heap.size, 0, none⟩) 0 0, ?_, _, _, _, rfl, ?_, ?_⟩
      · simp [results, Try.f46, go_sem, hc6]
      · rw [HRES.out, ← HG.out]
        have h1 := Own.made1 W g 3 (by omega)
        have h2 := h1.kept (grownBy_setCell' _ (g + 1 + 1) (.slice (some ⟨W.heap.size, 0, none⟩) 0 0)) (.inr (by simp [Value.ownBlock]; omega))
        exact ⟨ownsRow_putObj h2.row _ HK'.out rfl⟩
      · rw [← HG.out]
        exact ((HB.out.alloc (by omega) _).setCell (p := ⟨g + 1 + 1, 0, none⟩) (by simp; omega) _).trans (belowK_b (w := w) (by have := HG.out; omega) _ Dd _ _ (by have := HS7.out; have := HBN.out; have := HG.out; omega) HK'.out rfl rfl)
end Go.Proofs.Ytjobjjmeneddnaa
