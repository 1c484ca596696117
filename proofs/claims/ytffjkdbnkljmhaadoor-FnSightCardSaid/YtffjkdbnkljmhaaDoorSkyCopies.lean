/- The contracts of the laws' own helpers on skies: sizes, copies, comparisons. -/
import Derived.Test.YtffjkdbnkljmhaaDoorProg
import Derived.Test.YtffjkdbnkljmhaaDoorSky
import Derived.Deep.RegionHeld3
namespace Go.Proofs.YtffjkdbnkljmhaaDoor
open Go.ChangeShapes Go.WideShapes Go.ChangeAt Go.RowKit
set_option linter.unusedVariables false
theorem sat_info : (Tryd.prog.info? 75).map (fun i => (i.zero, i.size, i.bytes)) = some (some (.agg #[.int .i64 0, .int .i64 0, .int .i64 0, .int .i64 0]), 4, 32) := by kernel_rfl
theorem site_info : (Tryd.prog.info? 79).map (fun i => (i.zero, i.size, i.bytes)) = some (some (.agg #[.int .i64 0, .int .i64 0, .int .i64 0]), 3, 24) := by kernel_rfl
theorem zone_info : (Tryd.prog.info? 83).map (fun i => (i.zero, i.size, i.bytes)) = some (some (.agg #[.int .i64 0, .int .i64 0, .int .i64 0]), 3, 24) := by kernel_rfl
/-- a call that answers a Bool and makes memory of its own at most -/
def SaysB (w : World) (b : Bool) (e : Ending) (w' : World) : Prop := e = .returned (.bool b) ∧ Below w.heap.size w w'
theorem tosat4 (w : World) (x y z u : Int) :
    Calls Tryd.prog 101 #[.agg #[.int .i64 x, .int .i64 y, .int .i64 z, .int .i64 u]] w fun e w' => e = .returned (.agg #[.int .i64 x, .int .i64 y, .int .i64 z, .int .i64 u]) ∧ Below w.heap.size w w' := by
  go_enter Tryd.func101, Tryd.ntmps101
  go_wp2
  refine bodyPost_ret (v := .agg #[.int .i64 x, .int .i64 y, .int .i64 z, .int .i64 u]) (by simp [results, Tryd.results101, go_sem]) rfl ⟨rfl, ?_⟩
  exact (((Below.refl _ _).alloc (Nat.le_refl _) _).alloc (by simp) _).alloc (by simp; omega) _
theorem tosite3 (w : World) (x y z : Int) :
    Calls Tryd.prog 102 #[.agg #[.int .i64 x, .int .i64 y, .int .i64 z]] w fun e w' => e = .returned (.agg #[.int .i64 x, .int .i64 y, .int .i64 z]) ∧ Below w.heap.size w w' := by
  go_enter Tryd.func102, Tryd.ntmps102
  go_wp2
  refine bodyPost_ret (v := .agg #[.int .i64 x, .int .i64 y, .int .i64 z]) (by simp [results, Tryd.results102, go_sem]) rfl ⟨rfl, ?_⟩
  exact (((Below.refl _ _).alloc (Nat.le_refl _) _).alloc (by simp) _).alloc (by simp; omega) _
theorem toarc2 (w : World) (x y : Int) :
    Calls Tryd.prog 118 #[.agg #[.int .i64 x, .int .i64 y]] w fun e w' => e = .returned (.agg #[.int .i64 x, .int .i64 y]) ∧ Below w.heap.size w w' := by
  go_enter Tryd.func118, Tryd.ntmps118
  go_wp2
  refine bodyPost_ret (v := .agg #[.int .i64 x, .int .i64 y]) (by simp [results, Tryd.results118, go_sem]) rfl ⟨rfl, ?_⟩
  exact (((Below.refl _ _).alloc (Nat.le_refl _) _).alloc (by simp) _).alloc (by simp; omega) _
theorem below3 {w w1 : World} {t0 t1 t2 : TypeId} {c0 c1 c2 : Array Value} (b : Below (((w.alloc (.cells c0 t0)).alloc (.cells c1 t1)).alloc (.cells c2 t2)).heap.size (((w.alloc (.cells c0 t0)).alloc (.cells c1 t1)).alloc (.cells c2 t2)) w1) :
    Blk w1 w.heap.size t0 c0 ∧ Blk w1 (w.heap.size + 1) t1 c1 ∧ Blk w1 (w.heap.size + 1 + 1) t2 c2 ∧ Below w.heap.size w w1 ∧ w.heap.size + 1 + 1 < w1.heap.size := by
  have h0 := (((Blk.new w t0 c0).alloc (.cells c1 t1)).alloc (.cells c2 t2)).below b (by simp; omega)
  have h1 : Blk w1 (w.alloc (.cells c0 t0)).heap.size t1 c1 := ((Blk.new (w.alloc (.cells c0 t0)) t1 c1).alloc (.cells c2 t2)).below b (by simp)
  have h2 : Blk w1 ((w.alloc (.cells c0 t0)).alloc (.cells c1 t1)).heap.size t2 c2 := (Blk.new ((w.alloc (.cells c0 t0)).alloc (.cells c1 t1)) t2 c2).below b (by simp)
  simp only [World.size_alloc] at h1 h2
  refine ⟨h0, h1, h2, ((((Below.refl _ _).alloc (Nat.le_refl _) _).alloc (by simp) _).alloc (by simp; omega) _).trans (b.mono (by simp; omega)), ?_⟩
  have := b.size
  simp at this
  omega
theorem tozone3 (w : World) (x y z : Int) :
    Calls Tryd.prog 103 #[.agg #[.int .i64 x, .int .i64 y, .int .i64 z]] w fun e w' => e = .returned (.agg #[.int .i64 x, .int .i64 y, .int .i64 z]) ∧ Below w.heap.size w w' := by
  go_enter Tryd.func103, Tryd.ntmps103
  go_wp2_with fail
  refine (toarc2 _ y z).mono ?_
  rintro e w1 ⟨rfl, b1⟩
  obtain ⟨_, z1, z2, b, hs⟩ := below3 b1
  have HB := Lib.hid b
  have HZ := Lib.hid z1
  clear b1 b
  have o0 := z2.cell 0; have o1 := z2.cell 1; have o2 := z2.cell 2
  have f1 := z2.frozen 1; have f2 := z2.frozen 2
  have r0 := z1.cell 0; have r1 := z1.cell 1; have r2 := z1.cell 2
  have g0 := z1.frozen 0; have g1 := z1.frozen 1; have g2 := z1.frozen 2
  simp only [List.getElem?_toArray, List.getElem?_cons_zero, List.getElem?_cons_succ] at o0 o1 o2 r0 r1 r2
  clear z1 z2
  go_wp2
  have zf : Blk _ _ _ _ := (((((HZ.out.far (p := ⟨w.heap.size + 1 + 1, 1, none⟩) (by simp) (.int .i64 y)).far (p := ⟨w.heap.size + 1 + 1, 2, none⟩) (by simp) (.int .i64 z)).set_ 0 (.int .i64 x)).set_ 1 (.int .i64 y)).set_ 2 (.int .i64 z))
  have k0 := zf.cell 0; have k1 := zf.cell 1; have k2 := zf.cell 2
  simp at k0 k1 k2
  refine bodyPost_ret (v := .agg #[.int .i64 x, .int .i64 y, .int .i64 z]) (by simp [results, Tryd.results103, go_sem, k0, k1, k2]) rfl ⟨rfl, ?_⟩
  exact ((((HB.out.setCell (by simp; omega) _).setCell (by simp; omega) _).setCell (by simp) _).setCell (by simp) _).setCell (by simp) _
set_option maxRecDepth 100000 in
theorem tosats (w : World) (D : Nat) (A : Option Addr) (n c : Nat) (l : List Sat4) (h : Sl w D 4 A n c (fl c4 l)) (hD : D ≤ w.heap.size) (hn : n ≤ 16777216) :
    Calls Tryd.prog 68 #[.slice A n c] w fun e w' => (∃ A' c', e = .returned (.slice A' n c') ∧ Own w' w.heap.size 75 4 A' n c' (fl c4 l)) ∧ Below w.heap.size w w' := by
  obtain ⟨i0, hi, hz0, hz1, hz2⟩ := info_parts sat_info
  obtain rfl : n = l.length := h.num c4_len (by omega)
  have hcap := h.cap; have hcapm := h.capm
  go_enter Tryd.func68, Tryd.ntmps68
  go_wp2_with (at_make; refine wpList_make_full _ rfl _ _ 24 rfl w.heap.size 75 i0 (.agg #[.int .i64 0, .int .i64 0, .int .i64 0, .int .i64 0]) 4 Tryd.underlying24 hi hz0 hz1 .i64 .i64 _ _ l.length rfl rfl rfl rfl (by rw [hz2]; omega) (by unfold maxLen; omega) (Nat.le_refl _) ?_; intro w1 hown hgrow)
  obtain ⟨ys, hys⟩ : ∃ ys : List Value, ys = (madeCells (Value.agg #[.int .i64 0, .int .i64 0, .int .i64 0, .int .i64 0]).cells (l.length * 4)).toList := ⟨_, rfl⟩
  have hown1 : Hid (Own w1 w.heap.size 75 4 (some ⟨w.heap.size, 0, none⟩) l.length l.length ((fl c4 l).take (0 * 4) ++ ys.drop (0 * 4))) := by
    refine Lib.hid ⟨?_⟩
    rw [hys]
    simpa using hown
  have hyl : Hid (ys.length = (fl c4 l).length) := Lib.hid (by have := hown1.out.len; rw [fl_len c4_len]; simpa using this)
  have hb1 : Hid (Below w.heap.size w w1) := Lib.hid ((Below.refl _ _).grown hgrow (Nat.le_refl _) (fun k hk => by cases hk))
  clear hown hgrow hi hz0 hz1 hz2 hys
  go_loopw [4] (fun i wr => ∃ k : Nat, k ≤ l.length ∧ i = .int .i64 k ∧ Own wr w.heap.size 75 4 (some ⟨w.heap.size, 0, none⟩) l.length l.length ((fl c4 l).take (k * 4) ++ ys.drop (k * 4)) ∧ Below w.heap.size w wr)
    (fun i _ => l.length - (intOf i).toNat)
  case atStart => exact ⟨0, Nat.zero_le _, rfl, hown1.out, hb1.out⟩
  case round =>
    clear hown1 hb1
    obtain ⟨k, hk, rfl, hown, hb⟩ := hrel
    by_cases hlt : k < l.length
    · obtain ⟨ad, hx, rfl, had, hc0, hc1, hc2, hc3⟩ := (h.below hb hD).four hlt
      have g0 := Lib.hid (fl_get c4_len l k hx 0 (by omega)); have g1 := Lib.hid (fl_get c4_len l k hx 1 (by omega)); have g2 := Lib.hid (fl_get c4_len l k hx 2 (by omega)); have g3 := Lib.hid (fl_get c4_len l k hx 3 (by omega))
      obtain ⟨e, he⟩ : ∃ e, e = l[k] := ⟨_, rfl⟩
      rw [← he] at hc0 hc1 hc2 hc3 g0 g1 g2 g3
      obtain ⟨x, y, z, u⟩ := e
      simp only at hc0 hc1 hc2 hc3
      have HO := Lib.hid hown; have HB := Lib.hid hb
      clear he hown hb
      go_wp2_with fail
      refine (tosat4 _ x y z u).mono ?_
      rintro e w2 ⟨rfl, b2⟩
      have O2 := HO.out.on b2
      have B2 := HB.out.trans (b2.mono HB.out.size)
      obtain ⟨u0, hu0⟩ := O2.cellS (k * 4) (by omega)
      obtain ⟨u1, hu1⟩ := O2.cellS (k * 4 + 1) (by omega)
      obtain ⟨u2, hu2⟩ := O2.cellS (k * 4 + 2) (by omega)
      obtain ⟨u3, hu3⟩ := O2.cellS (k * 4 + 3) (by omega)
      have hf0 := O2.row.frozenAt (k * 4)
      have hf1 := O2.row.frozenAt (k * 4 + 1)
      have hf2 := O2.row.frozenAt (k * 4 + 2)
      have hf3 := O2.row.frozenAt (k * 4 + 3)
      have hfin := Lib.hid (O2.fill4 (hyl.out) (by rw [fl_len c4_len]; omega) g0.out g1.out g2.out g3.out)
      have hBf := Lib.hid (O2.below B2 B2.size hfin.out.2)
      have hOf := Lib.hid hfin.out.1
      clear hfin O2 B2 b2 HO HB
      go_wp2
      go_roundw
      case rel => exact ⟨k + 1, by omega, by go_num, hOf.out, hBf.out⟩
      case measure => simp [intOf]; omega
    · have hfin : Own wr w.heap.size 75 4 (some ⟨w.heap.size, 0, none⟩) l.length l.length (fl c4 l) := by
        have e : k = l.length := by omega
        subst e
        have e1 : (fl c4 l).take (l.length * 4) = fl c4 l := List.take_of_length_le (by rw [fl_len c4_len]; omega)
        have e2 : ys.drop (l.length * 4) = [] := List.drop_of_length_le (by rw [hyl.out, fl_len c4_len]; omega)
        rw [e1, e2, List.append_nil] at hown
        exact hown
      have HF := Lib.hid hfin; clear hfin hown
      go_wp2
      go_ret
      exact ⟨⟨_, _, rfl, HF.out⟩, hb⟩
set_option maxRecDepth 100000 in
theorem tosites (w : World) (D : Nat) (A : Option Addr) (n c : Nat) (l : List Tri) (h : Sl w D 3 A n c (fl c3 l)) (hD : D ≤ w.heap.size) (hn : n ≤ 16777216) :
    Calls Tryd.prog 69 #[.slice A n c] w fun e w' => (∃ A' c', e = .returned (.slice A' n c') ∧ Own w' w.heap.size 79 3 A' n c' (fl c3 l)) ∧ Below w.heap.size w w' := by
  obtain ⟨i0, hi, hz0, hz1, hz2⟩ := info_parts site_info
  obtain rfl : n = l.length := h.num c3_len (by omega)
  have hcap := h.cap; have hcapm := h.capm
  go_enter Tryd.func69, Tryd.ntmps69
  go_wp2_with (at_make; refine wpList_make_full _ rfl _ _ 25 rfl w.heap.size 79 i0 (.agg #[.int .i64 0, .int .i64 0, .int .i64 0]) 3 Tryd.underlying25 hi hz0 hz1 .i64 .i64 _ _ l.length rfl rfl rfl rfl (by rw [hz2]; omega) (by unfold maxLen; omega) (Nat.le_refl _) ?_; intro w1 hown hgrow)
  obtain ⟨ys, hys⟩ : ∃ ys : List Value, ys = (madeCells (Value.agg #[.int .i64 0, .int .i64 0, .int .i64 0]).cells (l.length * 3)).toList := ⟨_, rfl⟩
  have hown1 : Hid (Own w1 w.heap.size 79 3 (some ⟨w.heap.size, 0, none⟩) l.length l.length ((fl c3 l).take (0 * 3) ++ ys.drop (0 * 3))) := by
    refine Lib.hid ⟨?_⟩
    rw [hys]
    simpa using hown
  have hyl : Hid (ys.length = (fl c3 l).length) := Lib.hid (by have := hown1.out.len; rw [fl_len c3_len]; simpa using this)
  have hb1 : Hid (Below w.heap.size w w1) := Lib.hid ((Below.refl _ _).grown hgrow (Nat.le_refl _) (fun k hk => by cases hk))
  clear hown hgrow hi hz0 hz1 hz2 hys
  go_loopw [4] (fun i wr => ∃ k : Nat, k ≤ l.length ∧ i = .int .i64 k ∧ Own wr w.heap.size 79 3 (some ⟨w.heap.size, 0, none⟩) l.length l.length ((fl c3 l).take (k * 3) ++ ys.drop (k * 3)) ∧ Below w.heap.size w wr)
    (fun i _ => l.length - (intOf i).toNat)
  case atStart => exact ⟨0, Nat.zero_le _, rfl, hown1.out, hb1.out⟩
  case round =>
    clear hown1 hb1
    obtain ⟨k, hk, rfl, hown, hb⟩ := hrel
    by_cases hlt : k < l.length
    · obtain ⟨ad, hx, rfl, had, hc0, hc1, hc2⟩ := (h.below hb hD).tri hlt
      have g0 := Lib.hid (fl_get c3_len l k hx 0 (by omega)); have g1 := Lib.hid (fl_get c3_len l k hx 1 (by omega)); have g2 := Lib.hid (fl_get c3_len l k hx 2 (by omega))
      obtain ⟨e, he⟩ : ∃ e, e = l[k] := ⟨_, rfl⟩
      rw [← he] at hc0 hc1 hc2 g0 g1 g2
      obtain ⟨x, y, z⟩ := e
      simp only at hc0 hc1 hc2
      have HO := Lib.hid hown; have HB := Lib.hid hb
      clear he hown hb
      go_wp2_with fail
      refine (tosite3 _ x y z).mono ?_
      rintro e w2 ⟨rfl, b2⟩
      have O2 := HO.out.on b2
      have B2 := HB.out.trans (b2.mono HB.out.size)
      obtain ⟨u0, hu0⟩ := O2.cellS (k * 3) (by omega)
      obtain ⟨u1, hu1⟩ := O2.cellS (k * 3 + 1) (by omega)
      obtain ⟨u2, hu2⟩ := O2.cellS (k * 3 + 2) (by omega)
      have hf0 := O2.row.frozenAt (k * 3)
      have hf1 := O2.row.frozenAt (k * 3 + 1)
      have hf2 := O2.row.frozenAt (k * 3 + 2)
      have hfin := Lib.hid (O2.fill3 (hyl.out) (by rw [fl_len c3_len]; omega) g0.out g1.out g2.out)
      have hBf := Lib.hid (O2.below B2 B2.size hfin.out.2)
      have hOf := Lib.hid hfin.out.1
      clear hfin O2 B2 b2 HO HB
      go_wp2
      go_roundw
      case rel => exact ⟨k + 1, by omega, by go_num, hOf.out, hBf.out⟩
      case measure => simp [intOf]; omega
    · have hfin : Own wr w.heap.size 79 3 (some ⟨w.heap.size, 0, none⟩) l.length l.length (fl c3 l) := by
        have e : k = l.length := by omega
        subst e
        have e1 : (fl c3 l).take (l.length * 3) = fl c3 l := List.take_of_length_le (by rw [fl_len c3_len]; omega)
        have e2 : ys.drop (l.length * 3) = [] := List.drop_of_length_le (by rw [hyl.out, fl_len c3_len]; omega)
        rw [e1, e2, List.append_nil] at hown
        exact hown
      have HF := Lib.hid hfin; clear hfin hown
      go_wp2
      go_ret
      exact ⟨⟨_, _, rfl, HF.out⟩, hb⟩
set_option maxRecDepth 100000 in
theorem tozones (w : World) (D : Nat) (A : Option Addr) (n c : Nat) (l : List Tri) (h : Sl w D 3 A n c (fl c3 l)) (hD : D ≤ w.heap.size) (hn : n ≤ 16777216) :
    Calls Tryd.prog 70 #[.slice A n c] w fun e w' => (∃ A' c', e = .returned (.slice A' n c') ∧ Own w' w.heap.size 83 3 A' n c' (fl c3 l)) ∧ Below w.heap.size w w' := by
  obtain ⟨i0, hi, hz0, hz1, hz2⟩ := info_parts zone_info
  obtain rfl : n = l.length := h.num c3_len (by omega)
  have hcap := h.cap; have hcapm := h.capm
  go_enter Tryd.func70, Tryd.ntmps70
  go_wp2_with (at_make; refine wpList_make_full _ rfl _ _ 26 rfl w.heap.size 83 i0 (.agg #[.int .i64 0, .int .i64 0, .int .i64 0]) 3 Tryd.underlying26 hi hz0 hz1 .i64 .i64 _ _ l.length rfl rfl rfl rfl (by rw [hz2]; omega) (by unfold maxLen; omega) (Nat.le_refl _) ?_; intro w1 hown hgrow)
  obtain ⟨ys, hys⟩ : ∃ ys : List Value, ys = (madeCells (Value.agg #[.int .i64 0, .int .i64 0, .int .i64 0]).cells (l.length * 3)).toList := ⟨_, rfl⟩
  have hown1 : Hid (Own w1 w.heap.size 83 3 (some ⟨w.heap.size, 0, none⟩) l.length l.length ((fl c3 l).take (0 * 3) ++ ys.drop (0 * 3))) := by
    refine Lib.hid ⟨?_⟩
    rw [hys]
    simpa using hown
  have hyl : Hid (ys.length = (fl c3 l).length) := Lib.hid (by have := hown1.out.len; rw [fl_len c3_len]; simpa using this)
  have hb1 : Hid (Below w.heap.size w w1) := Lib.hid ((Below.refl _ _).grown hgrow (Nat.le_refl _) (fun k hk => by cases hk))
  clear hown hgrow hi hz0 hz1 hz2 hys
  go_loopw [4] (fun i wr => ∃ k : Nat, k ≤ l.length ∧ i = .int .i64 k ∧ Own wr w.heap.size 83 3 (some ⟨w.heap.size, 0, none⟩) l.length l.length ((fl c3 l).take (k * 3) ++ ys.drop (k * 3)) ∧ Below w.heap.size w wr)
    (fun i _ => l.length - (intOf i).toNat)
  case atStart => exact ⟨0, Nat.zero_le _, rfl, hown1.out, hb1.out⟩
  case round =>
    clear hown1 hb1
    obtain ⟨k, hk, rfl, hown, hb⟩ := hrel
    by_cases hlt : k < l.length
    · obtain ⟨ad, hx, rfl, had, hc0, hc1, hc2⟩ := (h.below hb hD).tri hlt
      have g0 := Lib.hid (fl_get c3_len l k hx 0 (by omega)); have g1 := Lib.hid (fl_get c3_len l k hx 1 (by omega)); have g2 := Lib.hid (fl_get c3_len l k hx 2 (by omega))
      obtain ⟨e, he⟩ : ∃ e, e = l[k] := ⟨_, rfl⟩
      rw [← he] at hc0 hc1 hc2 g0 g1 g2
      obtain ⟨x, y, z⟩ := e
      simp only at hc0 hc1 hc2
      have HO := Lib.hid hown; have HB := Lib.hid hb
      clear he hown hb
      go_wp2_with fail
      refine (tozone3 _ x y z).mono ?_
      rintro e w2 ⟨rfl, b2⟩
      have O2 := HO.out.on b2
      have B2 := HB.out.trans (b2.mono HB.out.size)
      obtain ⟨u0, hu0⟩ := O2.cellS (k * 3) (by omega)
      obtain ⟨u1, hu1⟩ := O2.cellS (k * 3 + 1) (by omega)
      obtain ⟨u2, hu2⟩ := O2.cellS (k * 3 + 2) (by omega)
      have hf0 := O2.row.frozenAt (k * 3)
      have hf1 := O2.row.frozenAt (k * 3 + 1)
      have hf2 := O2.row.frozenAt (k * 3 + 2)
      have hfin := Lib.hid (O2.fill3 (hyl.out) (by rw [fl_len c3_len]; omega) g0.out g1.out g2.out)
      have hBf := Lib.hid (O2.below B2 B2.size hfin.out.2)
      have hOf := Lib.hid hfin.out.1
      clear hfin O2 B2 b2 HO HB
      go_wp2
      go_roundw
      case rel => exact ⟨k + 1, by omega, by go_num, hOf.out, hBf.out⟩
      case measure => simp [intOf]; omega
    · have hfin : Own wr w.heap.size 83 3 (some ⟨w.heap.size, 0, none⟩) l.length l.length (fl c3 l) := by
        have e : k = l.length := by omega
        subst e
        have e1 : (fl c3 l).take (l.length * 3) = fl c3 l := List.take_of_length_le (by rw [fl_len c3_len]; omega)
        have e2 : ys.drop (l.length * 3) = [] := List.drop_of_length_le (by rw [hyl.out, fl_len c3_len]; omega)
        rw [e1, e2, List.append_nil] at hown
        exact hown
      have HF := Lib.hid hfin; clear hfin hown
      go_wp2
      go_ret
      exact ⟨⟨_, _, rfl, HF.out⟩, hb⟩
end Go.Proofs.YtffjkdbnkljmhaaDoor
