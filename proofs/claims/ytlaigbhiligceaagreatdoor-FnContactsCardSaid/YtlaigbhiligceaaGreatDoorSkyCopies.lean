/- The contracts of the laws' own helpers on skies: sizes, copies, comparisons. The contracts of the laws' own helpers on skies: sizes and comparisons. -/
import Derived.Test.YtlaigbhiligceaaGreatDoorProg
import Derived.Test.YtlaigbhiligceaaGreatDoorSky
import Derived.Deep.RegionHeld3
import Derived.Deep.QuietTactic
import Derived.BigQuiet
namespace Go.Proofs.YtlaigbhiligceaaGreatDoor
open Go.ChangeShapes Go.WideShapes Go.ChangeAt Go.RowKit
set_option linter.unusedVariables false
theorem sat_info : (Tryz.prog.info? 109).map (fun i => (i.zero, i.size, i.bytes)) = some (some (.agg #[.int .i64 0, .int .i64 0, .int .i64 0, .int .i64 0]), 4, 32) := by kernel_rfl
theorem site_info : (Tryz.prog.info? 113).map (fun i => (i.zero, i.size, i.bytes)) = some (some (.agg #[.int .i64 0, .int .i64 0, .int .i64 0]), 3, 24) := by kernel_rfl
theorem zone_info : (Tryz.prog.info? 118).map (fun i => (i.zero, i.size, i.bytes)) = some (some (.agg #[.int .i64 0, .int .i64 0, .int .i64 0]), 3, 24) := by kernel_rfl
/-- a call that answers a Bool and makes memory of its own at most -/
def SaysB (w : World) (b : Bool) (e : Ending) (w' : World) : Prop := e = .returned (.bool b) ∧ Below w.heap.size w w'
theorem tosat4 (w : World) (x y z u : Int) :
    Calls Tryz.prog 99 #[.agg #[.int .i64 x, .int .i64 y, .int .i64 z, .int .i64 u]] w fun e w' => e = .returned (.agg #[.int .i64 x, .int .i64 y, .int .i64 z, .int .i64 u]) ∧ Below w.heap.size w w' := by
  go_enter Tryz.func99, Tryz.ntmps99
  go_wp2
  refine bodyPost_ret (v := .agg #[.int .i64 x, .int .i64 y, .int .i64 z, .int .i64 u]) (by simp [results, Tryz.results99, go_sem]) rfl ⟨rfl, ?_⟩
  exact (((Below.refl _ _).alloc (Nat.le_refl _) _).alloc (by simp) _).alloc (by simp; omega) _
theorem tosite3 (w : World) (x y z : Int) :
    Calls Tryz.prog 100 #[.agg #[.int .i64 x, .int .i64 y, .int .i64 z]] w fun e w' => e = .returned (.agg #[.int .i64 x, .int .i64 y, .int .i64 z]) ∧ Below w.heap.size w w' := by
  go_enter Tryz.func100, Tryz.ntmps100
  go_wp2
  refine bodyPost_ret (v := .agg #[.int .i64 x, .int .i64 y, .int .i64 z]) (by simp [results, Tryz.results100, go_sem]) rfl ⟨rfl, ?_⟩
  exact (((Below.refl _ _).alloc (Nat.le_refl _) _).alloc (by simp) _).alloc (by simp; omega) _
theorem toarc2 (w : World) (x y : Int) :
    Calls Tryz.prog 141 #[.agg #[.int .i64 x, .int .i64 y]] w fun e w' => e = .returned (.agg #[.int .i64 x, .int .i64 y]) ∧ Below w.heap.size w w' := by
  go_enter Tryz.func141, Tryz.ntmps141
  go_wp2
  refine bodyPost_ret (v := .agg #[.int .i64 x, .int .i64 y]) (by simp [results, Tryz.results141, go_sem]) rfl ⟨rfl, ?_⟩
  exact (((Below.refl _ _).alloc (Nat.le_refl _) _).alloc (by simp) _).alloc (by simp; omega) _
theorem below3 {w w1 : World} {t0 t1 t2 : TypeId} {c0 c1 c2 : Array Value} (b : Below (((w.alloc (.cells c0 t0)).alloc (.cells c1 t1)).alloc (.cells c2 t2)).heap.size (((w.alloc (.cells c0 t0)).alloc (.cells c1 t1)).alloc (.cells c2 t2)) w1) :
    Blk w1 w.heap.size t0 c0 ∧ Blk w1 (w.heap.size + 1) t1 c1 ∧ Blk w1 (w.heap.size + 1 + 1) t2 c2 ∧ Below w.heap.size w w1 ∧ w.heap.size + 1 + 1 < w1.heap.size := by
  have h0 := (((Blk.new w t0 c0).alloc (.cells c1 t1)).alloc (.cells c2 t2)).below b (by simp; omega)
  have h1 : Blk w1 (w.alloc (.cells c0 t0)).heap.size t1 c1 := ((Blk.new (w.alloc (.cells c0 t0)) t1 c1).alloc (.cells c2 t2)).below b (by simp)
  have h2 : Blk w1 ((w.alloc (.cells c0 t0)).alloc (.cells c1 t1)).heap.size t2 c2 := (Blk.new ((w.alloc (.cells c0 t0)).alloc (.cells c1 t1)) t2 c2).below b (by simp)
  simp only [World.size_alloc] at h1 h2
  refine ⟨h0, h1, h2, ((((Below.refl _ _).alloc (Nat.le_refl _) _).alloc (by simp) _).alloc (by simp; omega) _).trans (b.mono (by simp; omega)), ?_⟩
  have := b.size
  simp at this
  omega
theorem tozone3 (w : World) (x y z : Int) :
    Calls Tryz.prog 101 #[.agg #[.int .i64 x, .int .i64 y, .int .i64 z]] w fun e w' => e = .returned (.agg #[.int .i64 x, .int .i64 y, .int .i64 z]) ∧ Below w.heap.size w w' := by
  go_enter Tryz.func101, Tryz.ntmps101
  go_wp2_with fail
  refine (toarc2 _ y z).mono ?_
  rintro e w1 ⟨rfl, b1⟩
  obtain ⟨_, z1, z2, b, hs⟩ := below3 b1
  have HB := Lib.hid b
  have HZ := Lib.hid z1
  clear b1 b
  have o0 := z2.cell 0; have o1 := z2.cell 1; have o2 := z2.cell 2
  have f1 := z2.frozen 1; have f2 := z2.frozen 2
  have r0 := z1.cell 0; have r1 := z1.cell 1; have r2 := z1.cell 2
  have g0 := z1.frozen 0; have g1 := z1.frozen 1; have g2 := z1.frozen 2
  simp only [List.getElem?_toArray, List.getElem?_cons_zero, List.getElem?_cons_succ] at o0 o1 o2 r0 r1 r2
  clear z1 z2
  go_wp2
  have zf : Blk _ _ _ _ := (((((HZ.out.far (p := ⟨w.heap.size + 1 + 1, 1, none⟩) (by simp) (.int .i64 y)).far (p := ⟨w.heap.size + 1 + 1, 2, none⟩) (by simp) (.int .i64 z)).set_ 0 (.int .i64 x)).set_ 1 (.int .i64 y)).set_ 2 (.int .i64 z))
  have k0 := zf.cell 0; have k1 := zf.cell 1; have k2 := zf.cell 2
  simp at k0 k1 k2
  refine bodyPost_ret (v := .agg #[.int .i64 x, .int .i64 y, .int .i64 z]) (by simp [results, Tryz.results101, go_sem, k0, k1, k2]) rfl ⟨rfl, ?_⟩
  exact ((((HB.out.setCell (by simp; omega) _).setCell (by simp; omega) _).setCell (by simp) _).setCell (by simp) _).setCell (by simp) _
set_option maxRecDepth 100000 in
theorem tosats (w : World) (D : Nat) (A : Option Addr) (n c : Nat) (l : List Sat4) (h : Sl w D 4 A n c (fl c4 l)) (hD : D ≤ w.heap.size) (hn : n ≤ 16777216) :
    Calls Tryz.prog 53 #[.slice A n c] w fun e w' => (∃ A' c', e = .returned (.slice A' n c') ∧ Own w' w.heap.size 109 4 A' n c' (fl c4 l)) ∧ Below w.heap.size w w' := by
  obtain ⟨i0, hi, hz0, hz1, hz2⟩ := info_parts sat_info
  obtain rfl : n = l.length := h.num c4_len (by omega)
  have hcap := h.cap; have hcapm := h.capm
  go_enter Tryz.func53, Tryz.ntmps53
  go_wp2_with (at_make; refine wpList_make_full _ rfl _ _ 24 rfl w.heap.size 109 i0 (.agg #[.int .i64 0, .int .i64 0, .int .i64 0, .int .i64 0]) 4 Tryz.underlying24 hi hz0 hz1 .i64 .i64 _ _ l.length rfl rfl rfl rfl (by rw [hz2]; omega) (by unfold maxLen; omega) (Nat.le_refl _) ?_; intro w1 hown hgrow)
  obtain ⟨ys, hys⟩ : ∃ ys : List Value, ys = (madeCells (Value.agg #[.int .i64 0, .int .i64 0, .int .i64 0, .int .i64 0]).cells (l.length * 4)).toList := ⟨_, rfl⟩
  have hown1 : Hid (Own w1 w.heap.size 109 4 (some ⟨w.heap.size, 0, none⟩) l.length l.length ((fl c4 l).take (0 * 4) ++ ys.drop (0 * 4))) := by
    refine Lib.hid ⟨?_⟩
    rw [hys]
    simpa using hown
  have hyl : Hid (ys.length = (fl c4 l).length) := Lib.hid (by have := hown1.out.len; rw [fl_len c4_len]; simpa using this)
  have hb1 : Hid (Below w.heap.size w w1) := Lib.hid ((Below.refl _ _).grown hgrow (Nat.le_refl _) (fun k hk => by cases hk))
  clear hown hgrow hi hz0 hz1 hz2 hys
  go_loopw [4] (fun i wr => ∃ k : Nat, k ≤ l.length ∧ i = .int .i64 k ∧ Own wr w.heap.size 109 4 (some ⟨w.heap.size, 0, none⟩) l.length l.length ((fl c4 l).take (k * 4) ++ ys.drop (k * 4)) ∧ Below w.heap.size w wr)
    (fun i _ => l.length - (intOf i).toNat)
  case atStart => exact ⟨0, Nat.zero_le _, rfl, hown1.out, hb1.out⟩
  case round =>
    clear hown1 hb1
    obtain ⟨k, hk, rfl, hown, hb⟩ := hrel
    by_cases hlt : k < l.length
    · obtain ⟨ad, hx, rfl, had, hc0, hc1, hc2, hc3⟩ := (h.below hb hD).four hlt
      have g0 := Lib.hid (fl_get c4_len l k hx 0 (by omega)); have g1 := Lib.hid (fl_get c4_len l k hx 1 (by omega)); have g2 := Lib.hid (fl_get c4_len l k hx 2 (by omega)); have g3 := Lib.hid (fl_get c4_len l k hx 3 (by omega))
      obtain ⟨e, he⟩ : ∃ e, e = l[k] := ⟨_, rfl⟩
      rw [← he] at hc0 hc1 hc2 hc3 g0 g1 g2 g3
      obtain ⟨x, y, z, u⟩ := e
      simp only at hc0 hc1 hc2 hc3
      have HO := Lib.hid hown; have HB := Lib.hid hb
      clear he hown hb
      go_wp2_with fail
      refine (tosat4 _ x y z u).mono ?_
      rintro e w2 ⟨rfl, b2⟩
      have O2 := HO.out.on b2
      have B2 := HB.out.trans (b2.mono HB.out.size)
      obtain ⟨u0, hu0⟩ := O2.cellS (k * 4) (by omega)
      obtain ⟨u1, hu1⟩ := O2.cellS (k * 4 + 1) (by omega)
      obtain ⟨u2, hu2⟩ := O2.cellS (k * 4 + 2) (by omega)
      obtain ⟨u3, hu3⟩ := O2.cellS (k * 4 + 3) (by omega)
      have hf0 := O2.row.frozenAt (k * 4)
      have hf1 := O2.row.frozenAt (k * 4 + 1)
      have hf2 := O2.row.frozenAt (k * 4 + 2)
      have hf3 := O2.row.frozenAt (k * 4 + 3)
      have hfin := Lib.hid (O2.fill4 (hyl.out) (by rw [fl_len c4_len]; omega) g0.out g1.out g2.out g3.out)
      have hBf := Lib.hid (O2.below B2 B2.size hfin.out.2)
      have hOf := Lib.hid hfin.out.1
      clear hfin O2 B2 b2 HO HB
      go_wp2
      go_roundw
      case rel => exact ⟨k + 1, by omega, by go_num, hOf.out, hBf.out⟩
      case measure => simp [intOf]; omega
    · have hfin : Own wr w.heap.size 109 4 (some ⟨w.heap.size, 0, none⟩) l.length l.length (fl c4 l) := by
        have e : k = l.length := by omega
        subst e
        have e1 : (fl c4 l).take (l.length * 4) = fl c4 l := List.take_of_length_le (by rw [fl_len c4_len]; omega)
        have e2 : ys.drop (l.length * 4) = [] := List.drop_of_length_le (by rw [hyl.out, fl_len c4_len]; omega)
        rw [e1, e2, List.append_nil] at hown
        exact hown
      have HF := Lib.hid hfin; clear hfin hown
      go_wp2
      go_ret
      exact ⟨⟨_, _, rfl, HF.out⟩, hb⟩
set_option maxRecDepth 100000 in
theorem tosites (w : World) (D : Nat) (A : Option Addr) (n c : Nat) (l : List Tri) (h : Sl w D 3 A n c (fl c3 l)) (hD : D ≤ w.heap.size) (hn : n ≤ 16777216) :
    Calls Tryz.prog 54 #[.slice A n c] w fun e w' => (∃ A' c', e = .returned (.slice A' n c') ∧ Own w' w.heap.size 113 3 A' n c' (fl c3 l)) ∧ Below w.heap.size w w' := by
  obtain ⟨i0, hi, hz0, hz1, hz2⟩ := info_parts site_info
  obtain rfl : n = l.length := h.num c3_len (by omega)
  have hcap := h.cap; have hcapm := h.capm
  go_enter Tryz.func54, Tryz.ntmps54
  go_wp2_with (at_make; refine wpList_make_full _ rfl _ _ 25 rfl w.heap.size 113 i0 (.agg #[.int .i64 0, .int .i64 0, .int .i64 0]) 3 Tryz.underlying25 hi hz0 hz1 .i64 .i64 _ _ l.length rfl rfl rfl rfl (by rw [hz2]; omega) (by unfold maxLen; omega) (Nat.le_refl _) ?_; intro w1 hown hgrow)
  obtain ⟨ys, hys⟩ : ∃ ys : List Value, ys = (madeCells (Value.agg #[.int .i64 0, .int .i64 0, .int .i64 0]).cells (l.length * 3)).toList := ⟨_, rfl⟩
  have hown1 : Hid (Own w1 w.heap.size 113 3 (some ⟨w.heap.size, 0, none⟩) l.length l.length ((fl c3 l).take (0 * 3) ++ ys.drop (0 * 3))) := by
    refine Lib.hid ⟨?_⟩
    rw [hys]
    simpa using hown
  have hyl : Hid (ys.length = (fl c3 l).length) := Lib.hid (by have := hown1.out.len; rw [fl_len c3_len]; simpa using this)
  have hb1 : Hid (Below w.heap.size w w1) := Lib.hid ((Below.refl _ _).grown hgrow (Nat.le_refl _) (fun k hk => by cases hk))
  clear hown hgrow hi hz0 hz1 hz2 hys
  go_loopw [4] (fun i wr => ∃ k : Nat, k ≤ l.length ∧ i = .int .i64 k ∧ Own wr w.heap.size 113 3 (some ⟨w.heap.size, 0, none⟩) l.length l.length ((fl c3 l).take (k * 3) ++ ys.drop (k * 3)) ∧ Below w.heap.size w wr)
    (fun i _ => l.length - (intOf i).toNat)
  case atStart => exact ⟨0, Nat.zero_le _, rfl, hown1.out, hb1.out⟩
  case round =>
    clear hown1 hb1
    obtain ⟨k, hk, rfl, hown, hb⟩ := hrel
    by_cases hlt : k < l.length
    · obtain ⟨ad, hx, rfl, had, hc0, hc1, hc2⟩ := (h.below hb hD).tri hlt
      have g0 := Lib.hid (fl_get c3_len l k hx 0 (by omega)); have g1 := Lib.hid (fl_get c3_len l k hx 1 (by omega)); have g2 := Lib.hid (fl_get c3_len l k hx 2 (by omega))
      obtain ⟨e, he⟩ : ∃ e, e = l[k] := ⟨_, rfl⟩
      rw [← he] at hc0 hc1 hc2 g0 g1 g2
      obtain ⟨x, y, z⟩ := e
      simp only at hc0 hc1 hc2
      have HO := Lib.hid hown; have HB := Lib.hid hb
      clear he hown hb
      go_wp2_with fail
      refine (tosite3 _ x y z).mono ?_
      rintro e w2 ⟨rfl, b2⟩
      have O2 := HO.out.on b2
      have B2 := HB.out.trans (b2.mono HB.out.size)
      obtain ⟨u0, hu0⟩ := O2.cellS (k * 3) (by omega)
      obtain ⟨u1, hu1⟩ := O2.cellS (k * 3 + 1) (by omega)
      obtain ⟨u2, hu2⟩ := O2.cellS (k * 3 + 2) (by omega)
      have hf0 := O2.row.frozenAt (k * 3)
      have hf1 := O2.row.frozenAt (k * 3 + 1)
      have hf2 := O2.row.frozenAt (k * 3 + 2)
      have hfin := Lib.hid (O2.fill3 (hyl.out) (by rw [fl_len c3_len]; omega) g0.out g1.out g2.out)
      have hBf := Lib.hid (O2.below B2 B2.size hfin.out.2)
      have hOf := Lib.hid hfin.out.1
      clear hfin O2 B2 b2 HO HB
      go_wp2
      go_roundw
      case rel => exact ⟨k + 1, by omega, by go_num, hOf.out, hBf.out⟩
      case measure => simp [intOf]; omega
    · have hfin : Own wr w.heap.size 113 3 (some ⟨w.heap.size, 0, none⟩) l.length l.length (fl c3 l) := by
        have e : k = l.length := by omega
        subst e
        have e1 : (fl c3 l).take (l.length * 3) = fl c3 l := List.take_of_length_le (by rw [fl_len c3_len]; omega)
        have e2 : ys.drop (l.length * 3) = [] := List.drop_of_length_le (by rw [hyl.out, fl_len c3_len]; omega)
        rw [e1, e2, List.append_nil] at hown
        exact hown
      have HF := Lib.hid hfin; clear hfin hown
      go_wp2
      go_ret
      exact ⟨⟨_, _, rfl, HF.out⟩, hb⟩
set_option maxRecDepth 100000 in
theorem tozones (w : World) (D : Nat) (A : Option Addr) (n c : Nat) (l : List Tri) (h : Sl w D 3 A n c (fl c3 l)) (hD : D ≤ w.heap.size) (hn : n ≤ 16777216) :
    Calls Tryz.prog 55 #[.slice A n c] w fun e w' => (∃ A' c', e = .returned (.slice A' n c') ∧ Own w' w.heap.size 118 3 A' n c' (fl c3 l)) ∧ Below w.heap.size w w' := by
  obtain ⟨i0, hi, hz0, hz1, hz2⟩ := info_parts zone_info
  obtain rfl : n = l.length := h.num c3_len (by omega)
  have hcap := h.cap; have hcapm := h.capm
  go_enter Tryz.func55, Tryz.ntmps55
  go_wp2_with (at_make; refine wpList_make_full _ rfl _ _ 26 rfl w.heap.size 118 i0 (.agg #[.int .i64 0, .int .i64 0, .int .i64 0]) 3 Tryz.underlying26 hi hz0 hz1 .i64 .i64 _ _ l.length rfl rfl rfl rfl (by rw [hz2]; omega) (by unfold maxLen; omega) (Nat.le_refl _) ?_; intro w1 hown hgrow)
  obtain ⟨ys, hys⟩ : ∃ ys : List Value, ys = (madeCells (Value.agg #[.int .i64 0, .int .i64 0, .int .i64 0]).cells (l.length * 3)).toList := ⟨_, rfl⟩
  have hown1 : Hid (Own w1 w.heap.size 118 3 (some ⟨w.heap.size, 0, none⟩) l.length l.length ((fl c3 l).take (0 * 3) ++ ys.drop (0 * 3))) := by
    refine Lib.hid ⟨?_⟩
    rw [hys]
    simpa using hown
  have hyl : Hid (ys.length = (fl c3 l).length) := Lib.hid (by have := hown1.out.len; rw [fl_len c3_len]; simpa using this)
  have hb1 : Hid (Below w.heap.size w w1) := Lib.hid ((Below.refl _ _).grown hgrow (Nat.le_refl _) (fun k hk => by cases hk))
  clear hown hgrow hi hz0 hz1 hz2 hys
  go_loopw [4] (fun i wr => ∃ k : Nat, k ≤ l.length ∧ i = .int .i64 k ∧ Own wr w.heap.size 118 3 (some ⟨w.heap.size, 0, none⟩) l.length l.length ((fl c3 l).take (k * 3) ++ ys.drop (k * 3)) ∧ Below w.heap.size w wr)
    (fun i _ => l.length - (intOf i).toNat)
  case atStart => exact ⟨0, Nat.zero_le _, rfl, hown1.out, hb1.out⟩
  case round =>
    clear hown1 hb1
    obtain ⟨k, hk, rfl, hown, hb⟩ := hrel
    by_cases hlt : k < l.length
    · obtain ⟨ad, hx, rfl, had, hc0, hc1, hc2⟩ := (h.below hb hD).tri hlt
      have g0 := Lib.hid (fl_get c3_len l k hx 0 (by omega)); have g1 := Lib.hid (fl_get c3_len l k hx 1 (by omega)); have g2 := Lib.hid (fl_get c3_len l k hx 2 (by omega))
      obtain ⟨e, he⟩ : ∃ e, e = l[k] := ⟨_, rfl⟩
      rw [← he] at hc0 hc1 hc2 g0 g1 g2
      obtain ⟨x, y, z⟩ := e
      simp only at hc0 hc1 hc2
      have HO := Lib.hid hown; have HB := Lib.hid hb
      clear he hown hb
      go_wp2_with fail
      refine (tozone3 _ x y z).mono ?_
      rintro e w2 ⟨rfl, b2⟩
      have O2 := HO.out.on b2
      have B2 := HB.out.trans (b2.mono HB.out.size)
      obtain ⟨u0, hu0⟩ := O2.cellS (k * 3) (by omega)
      obtain ⟨u1, hu1⟩ := O2.cellS (k * 3 + 1) (by omega)
      obtain ⟨u2, hu2⟩ := O2.cellS (k * 3 + 2) (by omega)
      have hf0 := O2.row.frozenAt (k * 3)
      have hf1 := O2.row.frozenAt (k * 3 + 1)
      have hf2 := O2.row.frozenAt (k * 3 + 2)
      have hfin := Lib.hid (O2.fill3 (hyl.out) (by rw [fl_len c3_len]; omega) g0.out g1.out g2.out)
      have hBf := Lib.hid (O2.below B2 B2.size hfin.out.2)
      have hOf := Lib.hid hfin.out.1
      clear hfin O2 B2 b2 HO HB
      go_wp2
      go_roundw
      case rel => exact ⟨k + 1, by omega, by go_num, hOf.out, hBf.out⟩
      case measure => simp [intOf]; omega
    · have hfin : Own wr w.heap.size 118 3 (some ⟨w.heap.size, 0, none⟩) l.length l.length (fl c3 l) := by
        have e : k = l.length := by omega
        subst e
        have e1 : (fl c3 l).take (l.length * 3) = fl c3 l := List.take_of_length_le (by rw [fl_len c3_len]; omega)
        have e2 : ys.drop (l.length * 3) = [] := List.drop_of_length_le (by rw [hyl.out, fl_len c3_len]; omega)
        rw [e1, e2, List.append_nil] at hown
        exact hown
      have HF := Lib.hid hfin; clear hfin hown
      go_wp2
      go_ret
      exact ⟨⟨_, _, rfl, HF.out⟩, hb⟩
end Go.Proofs.YtlaigbhiligceaaGreatDoor
namespace Go.Proofs.YtlaigbhiligceaaGreatDoor
open Go.ChangeShapes Go.WideShapes Go.ChangeAt Go.RowKit
set_option linter.unusedVariables false
theorem szsats (w : World) (A : Option Addr) (n c : Nat) (z : Int) (hz0 : 0 ≤ z) (hz : z ≤ 1048576) (hn : n ≤ 9223372036854775807) :
    Calls Tryz.prog 45 #[.slice A n c, .int .i64 z] w fun e w' => (∃ r : Int, e = .returned (.int .i64 r) ∧ ((r = -1 ∧ z < n) ∨ (r = z - n ∧ (n : Int) ≤ z))) ∧ w = w' := by
  by_cases h : z < (n : Int)
  · have h' : z - (n : Int) < 0 := by omega
    go_enter Tryz.func45, Tryz.ntmps45
    go_wp2
    go_ret
    exact ⟨⟨-1, rfl, by omega⟩, rfl⟩
  · have h' : ¬ (z - (n : Int) < 0) := by omega
    go_enter Tryz.func45, Tryz.ntmps45
    go_wp2
    go_ret
    exact ⟨⟨z - n, rfl, by omega⟩, rfl⟩
theorem szsites (w : World) (A : Option Addr) (n c : Nat) (z : Int) (hz0 : 0 ≤ z) (hz : z ≤ 1048576) (hn : n ≤ 9223372036854775807) :
    Calls Tryz.prog 46 #[.slice A n c, .int .i64 z] w fun e w' => (∃ r : Int, e = .returned (.int .i64 r) ∧ ((r = -1 ∧ z < n) ∨ (r = z - n ∧ (n : Int) ≤ z))) ∧ w = w' := by
  by_cases h : z < (n : Int)
  · have h' : z - (n : Int) < 0 := by omega
    go_enter Tryz.func46, Tryz.ntmps46
    go_wp2
    go_ret
    exact ⟨⟨-1, rfl, by omega⟩, rfl⟩
  · have h' : ¬ (z - (n : Int) < 0) := by omega
    go_enter Tryz.func46, Tryz.ntmps46
    go_wp2
    go_ret
    exact ⟨⟨z - n, rfl, by omega⟩, rfl⟩
theorem szzones (w : World) (A : Option Addr) (n c : Nat) (z : Int) (hz0 : 0 ≤ z) (hz : z ≤ 1048576) (hn : n ≤ 9223372036854775807) :
    Calls Tryz.prog 47 #[.slice A n c, .int .i64 z] w fun e w' => (∃ r : Int, e = .returned (.int .i64 r) ∧ ((r = -1 ∧ z < n) ∨ (r = z - n ∧ (n : Int) ≤ z))) ∧ w = w' := by
  by_cases h : z < (n : Int)
  · have h' : z - (n : Int) < 0 := by omega
    go_enter Tryz.func47, Tryz.ntmps47
    go_wp2
    go_ret
    exact ⟨⟨-1, rfl, by omega⟩, rfl⟩
  · have h' : ¬ (z - (n : Int) < 0) := by omega
    go_enter Tryz.func47, Tryz.ntmps47
    go_wp2
    go_ret
    exact ⟨⟨z - n, rfl, by omega⟩, rfl⟩
theorem szsky (w : World) (P R X V U D Q : Int) (ns ni nz : Nat) (ls : List Sat4) (li lz : List Tri) (As : Option Addr) (cs : Nat) (Ai : Option Addr) (ci : Nat) (Az : Option Addr) (cz : Nat) (hs : ns ≤ 9223372036854775807) (hi : ni ≤ 9223372036854775807) (hz : nz ≤ 9223372036854775807) :
    Calls Tryz.prog 19 #[.agg #[.int .i64 P, .slice As ns cs, .slice Ai ni ci, .int .i64 R, .int .i64 X, .int .i64 V, .int .i64 U, .int .i64 D, .slice Az nz cz, .int .i64 Q], .int .i64 1048576] w fun e w' => (∃ r : Int, e = .returned (.int .i64 r) ∧ (r = -1 ∨ (0 ≤ r ∧ ns ≤ 1048576 ∧ ni ≤ 1048576 ∧ nz ≤ 1048576))) ∧ Below w.heap.size w w' := by
  go_enter Tryz.func19, Tryz.ntmps19
  go_wp2_with fail
  refine (szsats _ As ns cs 1048576 (by omega) (by omega) hs).mono ?_
  rintro e w1 ⟨⟨r, rfl, hr⟩, rfl⟩
  rcases hr with ⟨rfl, h1⟩ | ⟨rfl, h1⟩
  · go_wp2
    go_ret
    exact ⟨⟨-1, rfl, .inl rfl⟩, (Below.refl _ _).alloc (Nat.le_refl _) _⟩
  · have g1 : ¬ (1048576 - (ns : Int) < 0) := by omega
    go_wp2_with fail
    refine (szsites _ Ai ni ci (1048576 - ns) (by omega) (by omega) hi).mono ?_
    rintro e w1 ⟨⟨r, rfl, hr⟩, rfl⟩
    rcases hr with ⟨rfl, h2⟩ | ⟨rfl, h2⟩
    · go_wp2
      go_ret
      exact ⟨⟨-1, rfl, .inl rfl⟩, (Below.refl _ _).alloc (Nat.le_refl _) _⟩
    · have g2 : ¬ (1048576 - (ns : Int) - (ni : Int) < 0) := by omega
      go_wp2_with fail
      refine (szzones _ Az nz cz (1048576 - ns - ni) (by omega) (by omega) hz).mono ?_
      rintro e w1 ⟨⟨r, rfl, hr⟩, rfl⟩
      rcases hr with ⟨rfl, h3⟩ | ⟨rfl, h3⟩
      · go_wp2
        go_ret
        exact ⟨⟨-1, rfl, .inl rfl⟩, (Below.refl _ _).alloc (Nat.le_refl _) _⟩
      · have g3 : ¬ (1048576 - (ns : Int) - (ni : Int) - (nz : Int) < 0) := by omega
        go_wp2
        go_ret
        exact ⟨⟨1048576 - ns - ni - nz, rfl, .inr ⟨by omega, by omega, by omega, by omega⟩⟩, (Below.refl _ _).alloc (Nat.le_refl _) _⟩
theorem eqsat_same (w : World) (x y z u : Int) : Calls Tryz.prog 102 #[.agg #[.int .i64 x, .int .i64 y, .int .i64 z, .int .i64 u], .agg #[.int .i64 x, .int .i64 y, .int .i64 z, .int .i64 u]] w (SaysB w true) := by
  go_enter Tryz.func102, Tryz.ntmps102
  go_wp2
  go_ret
  exact ⟨rfl, ((Below.refl _ _).alloc (Nat.le_refl _) _).alloc (by simp) _⟩
theorem eqsite_same (w : World) (x y z : Int) : Calls Tryz.prog 103 #[.agg #[.int .i64 x, .int .i64 y, .int .i64 z], .agg #[.int .i64 x, .int .i64 y, .int .i64 z]] w (SaysB w true) := by
  go_enter Tryz.func103, Tryz.ntmps103
  go_wp2
  go_ret
  exact ⟨rfl, ((Below.refl _ _).alloc (Nat.le_refl _) _).alloc (by simp) _⟩
theorem eqarc_same (w : World) (x y : Int) : Calls Tryz.prog 142 #[.agg #[.int .i64 x, .int .i64 y], .agg #[.int .i64 x, .int .i64 y]] w (SaysB w true) := by
  go_enter Tryz.func142, Tryz.ntmps142
  go_wp2
  go_ret
  exact ⟨rfl, ((Below.refl _ _).alloc (Nat.le_refl _) _).alloc (by simp) _⟩
theorem below2 {w w1 : World} {t0 t1 : TypeId} {c0 c1 : Array Value} (b : Below ((w.alloc (.cells c0 t0)).alloc (.cells c1 t1)).heap.size ((w.alloc (.cells c0 t0)).alloc (.cells c1 t1)) w1) :
    Blk w1 w.heap.size t0 c0 ∧ Blk w1 (w.heap.size + 1) t1 c1 ∧ Below w.heap.size w w1 ∧ w.heap.size + 1 < w1.heap.size := by
  have h0 := ((Blk.new w t0 c0).alloc (.cells c1 t1)).below b (by simp; omega)
  have h1 : Blk w1 (w.alloc (.cells c0 t0)).heap.size t1 c1 := (Blk.new (w.alloc (.cells c0 t0)) t1 c1).below b (by simp)
  simp only [World.size_alloc] at h1
  refine ⟨h0, h1, (((Below.refl _ _).alloc (Nat.le_refl _) _).alloc (by simp) _).trans (b.mono (by simp; omega)), ?_⟩
  have := b.size
  simp at this
  omega
theorem eqzone_same (w : World) (x y z : Int) : Calls Tryz.prog 104 #[.agg #[.int .i64 x, .int .i64 y, .int .i64 z], .agg #[.int .i64 x, .int .i64 y, .int .i64 z]] w (SaysB w true) := by
  go_enter Tryz.func104, Tryz.ntmps104
  go_wp2_with fail
  refine (eqarc_same _ y z).mono ?_
  rintro e w1 ⟨rfl, b1⟩
  have HB := Lib.hid (below2 b1).2.2.1
  clear b1
  go_wp2
  go_ret
  exact ⟨rfl, HB.out⟩
set_option maxRecDepth 100000 in
theorem eqsats (w : World) (D D' : Nat) (A A' : Option Addr) (n c c' : Nat) (l : List Sat4) (h : Sl w D 4 A n c (fl c4 l)) (h' : Sl w D' 4 A' n c' (fl c4 l)) (hD : D ≤ w.heap.size) (hD' : D' ≤ w.heap.size) :
    Calls Tryz.prog 57 #[.slice A n c, .slice A' n c'] w fun e w' => e = .returned (.bool true) ∧ Below w.heap.size w w' := by
  obtain rfl : n = l.length := h.num c4_len (by omega)
  have hcap := h.cap; have hcapm := h.capm
  go_enter Tryz.func57, Tryz.ntmps57
  go_wp2
  go_loopw [5] (fun i wr => ∃ k : Nat, k ≤ l.length ∧ i = .int .i64 k ∧ Below w.heap.size w wr) (fun i _ => l.length - (intOf i).toNat)
  case atStart => exact ⟨0, Nat.zero_le _, rfl, Below.refl _ _⟩
  case round =>
    obtain ⟨k, hk2, rfl, hb⟩ := hrel
    by_cases hlt : k < l.length
    · have HC : Hid (∀ {w' : World}, Below w.heap.size w w' → _) := Lib.hid fun hb => And.intro ((h.below hb hD).four hlt) ((h'.below hb hD').four hlt)
      obtain ⟨ad, hx, rfl, had, -⟩ := h.four hlt
      obtain ⟨ad', hx', rfl, had', -⟩ := h'.four hlt
      obtain ⟨e, he⟩ : ∃ e, e = l[k] := ⟨_, rfl⟩
      have HC2 : Hid (∀ {w' : World}, Below w.heap.size w w' → (w'.cell? (ad.add (k * 4)) = some (.int .i64 e.p) ∧ w'.cell? ⟨(ad.add (k * 4)).block, (ad.add (k * 4)).off + 1, none⟩ = some (.int .i64 e.h) ∧ w'.cell? ⟨(ad.add (k * 4)).block, (ad.add (k * 4)).off + 2, none⟩ = some (.int .i64 e.v) ∧ w'.cell? ⟨(ad.add (k * 4)).block, (ad.add (k * 4)).off + 3, none⟩ = some (.int .i64 e.e)) ∧
          w'.cell? (ad'.add (k * 4)) = some (.int .i64 e.p) ∧ w'.cell? ⟨(ad'.add (k * 4)).block, (ad'.add (k * 4)).off + 1, none⟩ = some (.int .i64 e.h) ∧ w'.cell? ⟨(ad'.add (k * 4)).block, (ad'.add (k * 4)).off + 2, none⟩ = some (.int .i64 e.v) ∧ w'.cell? ⟨(ad'.add (k * 4)).block, (ad'.add (k * 4)).off + 3, none⟩ = some (.int .i64 e.e)) := Lib.hid fun hb => by
        obtain ⟨⟨a1, _, e1, _, q0, q1, q2, q3⟩, ⟨a2, _, e2, _, p0, p1, p2, p3⟩⟩ := HC.out hb
        injection e1 with e1; injection e2 with e2
        subst e1 e2
        rw [he]
        exact ⟨⟨q0, q1, q2, q3⟩, p0, p1, p2, p3⟩
      obtain ⟨x, y, z, u⟩ := e
      have HB := Lib.hid hb
      obtain ⟨⟨k0, k1, k2, k3⟩, k4, k5, k6, k7⟩ := HC2.out hb
      simp only at k0 k1 k2 k3 k4 k5 k6 k7
      have f1 : (0 : Int) ≤ (k : Int) := by omega
      have f2 : (k : Int) < (l.length : Int) := by omega
      clear he hb HC
      go_wp2_with fail
      go_region_held3 (fun w' => (w'.cell? (ad.add (k * 4)) = some (.int .i64 x) ∧ w'.cell? ⟨(ad.add (k * 4)).block, (ad.add (k * 4)).off + 1, none⟩ = some (.int .i64 y) ∧ w'.cell? ⟨(ad.add (k * 4)).block, (ad.add (k * 4)).off + 2, none⟩ = some (.int .i64 z) ∧ w'.cell? ⟨(ad.add (k * 4)).block, (ad.add (k * 4)).off + 3, none⟩ = some (.int .i64 u)) ∧
          w'.cell? (ad'.add (k * 4)) = some (.int .i64 x) ∧ w'.cell? ⟨(ad'.add (k * 4)).block, (ad'.add (k * 4)).off + 1, none⟩ = some (.int .i64 y) ∧ w'.cell? ⟨(ad'.add (k * 4)).block, (ad'.add (k * 4)).off + 2, none⟩ = some (.int .i64 z) ∧ w'.cell? ⟨(ad'.add (k * 4)).block, (ad'.add (k * 4)).off + 3, none⟩ = some (.int .i64 u)) (first | exact ⟨⟨k0, k1, k2, k3⟩, k4, k5, k6, k7⟩ | exact hcA | go_keep) (first
        | (go_at_call 102; refine (eqsat_same _ x y z u).mono ?_; rintro e wA ⟨rfl, bA⟩; have HBA : Hid (Below w.heap.size w wA) := Lib.hid (by first | exact HB.out.drew.trans (bA.mono HB.out.size) | exact HB.out.trans (bA.mono HB.out.size)); have hcA := HC2.out HBA.out; clear bA))
      go_wp2
      go_roundw
      case rel => exact ⟨k + 1, by omega, by go_num, HBA.out⟩
      case measure => simp [intOf]; omega
    · go_wp2
      go_ret
      exact ⟨rfl, hb⟩
set_option maxRecDepth 100000 in
theorem eqsites (w : World) (D D' : Nat) (A A' : Option Addr) (n c c' : Nat) (l : List Tri) (h : Sl w D 3 A n c (fl c3 l)) (h' : Sl w D' 3 A' n c' (fl c3 l)) (hD : D ≤ w.heap.size) (hD' : D' ≤ w.heap.size) :
    Calls Tryz.prog 58 #[.slice A n c, .slice A' n c'] w fun e w' => e = .returned (.bool true) ∧ Below w.heap.size w w' := by
  obtain rfl : n = l.length := h.num c3_len (by omega)
  have hcap := h.cap; have hcapm := h.capm
  go_enter Tryz.func58, Tryz.ntmps58
  go_wp2
  go_loopw [5] (fun i wr => ∃ k : Nat, k ≤ l.length ∧ i = .int .i64 k ∧ Below w.heap.size w wr) (fun i _ => l.length - (intOf i).toNat)
  case atStart => exact ⟨0, Nat.zero_le _, rfl, Below.refl _ _⟩
  case round =>
    obtain ⟨k, hk2, rfl, hb⟩ := hrel
    by_cases hlt : k < l.length
    · have HC : Hid (∀ {w' : World}, Below w.heap.size w w' → _) := Lib.hid fun hb => And.intro ((h.below hb hD).tri hlt) ((h'.below hb hD').tri hlt)
      obtain ⟨ad, hx, rfl, had, -⟩ := h.tri hlt
      obtain ⟨ad', hx', rfl, had', -⟩ := h'.tri hlt
      obtain ⟨e, he⟩ : ∃ e, e = l[k] := ⟨_, rfl⟩
      have HC2 : Hid (∀ {w' : World}, Below w.heap.size w w' → (w'.cell? (ad.add (k * 3)) = some (.int .i64 e.p) ∧ w'.cell? ⟨(ad.add (k * 3)).block, (ad.add (k * 3)).off + 1, none⟩ = some (.int .i64 e.a) ∧ w'.cell? ⟨(ad.add (k * 3)).block, (ad.add (k * 3)).off + 2, none⟩ = some (.int .i64 e.b)) ∧
          w'.cell? (ad'.add (k * 3)) = some (.int .i64 e.p) ∧ w'.cell? ⟨(ad'.add (k * 3)).block, (ad'.add (k * 3)).off + 1, none⟩ = some (.int .i64 e.a) ∧ w'.cell? ⟨(ad'.add (k * 3)).block, (ad'.add (k * 3)).off + 2, none⟩ = some (.int .i64 e.b)) := Lib.hid fun hb => by
        obtain ⟨⟨a1, _, e1, _, q0, q1, q2⟩, ⟨a2, _, e2, _, p0, p1, p2⟩⟩ := HC.out hb
        injection e1 with e1; injection e2 with e2
        subst e1 e2
        rw [he]
        exact ⟨⟨q0, q1, q2⟩, p0, p1, p2⟩
      obtain ⟨x, y, z⟩ := e
      have HB := Lib.hid hb
      obtain ⟨⟨k0, k1, k2⟩, k4, k5, k6⟩ := HC2.out hb
      simp only at k0 k1 k2 k4 k5 k6
      have f1 : (0 : Int) ≤ (k : Int) := by omega
      have f2 : (k : Int) < (l.length : Int) := by omega
      clear he hb HC
      go_wp2_with fail
      go_region_held3 (fun w' => (w'.cell? (ad.add (k * 3)) = some (.int .i64 x) ∧ w'.cell? ⟨(ad.add (k * 3)).block, (ad.add (k * 3)).off + 1, none⟩ = some (.int .i64 y) ∧ w'.cell? ⟨(ad.add (k * 3)).block, (ad.add (k * 3)).off + 2, none⟩ = some (.int .i64 z)) ∧
          w'.cell? (ad'.add (k * 3)) = some (.int .i64 x) ∧ w'.cell? ⟨(ad'.add (k * 3)).block, (ad'.add (k * 3)).off + 1, none⟩ = some (.int .i64 y) ∧ w'.cell? ⟨(ad'.add (k * 3)).block, (ad'.add (k * 3)).off + 2, none⟩ = some (.int .i64 z)) (first | exact ⟨⟨k0, k1, k2⟩, k4, k5, k6⟩ | exact hcA | go_keep) (first
        | (go_at_call 103; refine (eqsite_same _ x y z).mono ?_; rintro e wA ⟨rfl, bA⟩; have HBA : Hid (Below w.heap.size w wA) := Lib.hid (by first | exact HB.out.drew.trans (bA.mono HB.out.size) | exact HB.out.trans (bA.mono HB.out.size)); have hcA := HC2.out HBA.out; clear bA))
      go_wp2
      go_roundw
      case rel => exact ⟨k + 1, by omega, by go_num, HBA.out⟩
      case measure => simp [intOf]; omega
    · go_wp2
      go_ret
      exact ⟨rfl, hb⟩
set_option maxRecDepth 100000 in
theorem eqzones (w : World) (D D' : Nat) (A A' : Option Addr) (n c c' : Nat) (l : List Tri) (h : Sl w D 3 A n c (fl c3 l)) (h' : Sl w D' 3 A' n c' (fl c3 l)) (hD : D ≤ w.heap.size) (hD' : D' ≤ w.heap.size) :
    Calls Tryz.prog 59 #[.slice A n c, .slice A' n c'] w fun e w' => e = .returned (.bool true) ∧ Below w.heap.size w w' := by
  obtain rfl : n = l.length := h.num c3_len (by omega)
  have hcap := h.cap; have hcapm := h.capm
  go_enter Tryz.func59, Tryz.ntmps59
  go_wp2
  go_loopw [5] (fun i wr => ∃ k : Nat, k ≤ l.length ∧ i = .int .i64 k ∧ Below w.heap.size w wr) (fun i _ => l.length - (intOf i).toNat)
  case atStart => exact ⟨0, Nat.zero_le _, rfl, Below.refl _ _⟩
  case round =>
    obtain ⟨k, hk2, rfl, hb⟩ := hrel
    by_cases hlt : k < l.length
    · have HC : Hid (∀ {w' : World}, Below w.heap.size w w' → _) := Lib.hid fun hb => And.intro ((h.below hb hD).tri hlt) ((h'.below hb hD').tri hlt)
      obtain ⟨ad, hx, rfl, had, -⟩ := h.tri hlt
      obtain ⟨ad', hx', rfl, had', -⟩ := h'.tri hlt
      obtain ⟨e, he⟩ : ∃ e, e = l[k] := ⟨_, rfl⟩
      have HC2 : Hid (∀ {w' : World}, Below w.heap.size w w' → (w'.cell? (ad.add (k * 3)) = some (.int .i64 e.p) ∧ w'.cell? ⟨(ad.add (k * 3)).block, (ad.add (k * 3)).off + 1, none⟩ = some (.int .i64 e.a) ∧ w'.cell? ⟨(ad.add (k * 3)).block, (ad.add (k * 3)).off + 2, none⟩ = some (.int .i64 e.b)) ∧
          w'.cell? (ad'.add (k * 3)) = some (.int .i64 e.p) ∧ w'.cell? ⟨(ad'.add (k * 3)).block, (ad'.add (k * 3)).off + 1, none⟩ = some (.int .i64 e.a) ∧ w'.cell? ⟨(ad'.add (k * 3)).block, (ad'.add (k * 3)).off + 2, none⟩ = some (.int .i64 e.b)) := Lib.hid fun hb => by
        obtain ⟨⟨a1, _, e1, _, q0, q1, q2⟩, ⟨a2, _, e2, _, p0, p1, p2⟩⟩ := HC.out hb
        injection e1 with e1; injection e2 with e2
        subst e1 e2
        rw [he]
        exact ⟨⟨q0, q1, q2⟩, p0, p1, p2⟩
      obtain ⟨x, y, z⟩ := e
      have HB := Lib.hid hb
      obtain ⟨⟨k0, k1, k2⟩, k4, k5, k6⟩ := HC2.out hb
      simp only at k0 k1 k2 k4 k5 k6
      have f1 : (0 : Int) ≤ (k : Int) := by omega
      have f2 : (k : Int) < (l.length : Int) := by omega
      clear he hb HC
      go_wp2_with fail
      go_region_held3 (fun w' => (w'.cell? (ad.add (k * 3)) = some (.int .i64 x) ∧ w'.cell? ⟨(ad.add (k * 3)).block, (ad.add (k * 3)).off + 1, none⟩ = some (.int .i64 y) ∧ w'.cell? ⟨(ad.add (k * 3)).block, (ad.add (k * 3)).off + 2, none⟩ = some (.int .i64 z)) ∧
          w'.cell? (ad'.add (k * 3)) = some (.int .i64 x) ∧ w'.cell? ⟨(ad'.add (k * 3)).block, (ad'.add (k * 3)).off + 1, none⟩ = some (.int .i64 y) ∧ w'.cell? ⟨(ad'.add (k * 3)).block, (ad'.add (k * 3)).off + 2, none⟩ = some (.int .i64 z)) (first | exact ⟨⟨k0, k1, k2⟩, k4, k5, k6⟩ | exact hcA | go_keep) (first
        | (go_at_call 104; refine (eqzone_same _ x y z).mono ?_; rintro e wA ⟨rfl, bA⟩; have HBA : Hid (Below w.heap.size w wA) := Lib.hid (by first | exact HB.out.drew.trans (bA.mono HB.out.size) | exact HB.out.trans (bA.mono HB.out.size)); have hcA := HC2.out HBA.out; clear bA))
      go_wp2
      go_roundw
      case rel => exact ⟨k + 1, by omega, by go_num, HBA.out⟩
      case measure => simp [intOf]; omega
    · go_wp2
      go_ret
      exact ⟨rfl, hb⟩
theorem Own.far {w : World} {B : Nat} {E : TypeId} {s n c : Nat} {A : Option Addr} {xs : List Value} (h : Own w B E s A n c xs) {p : Addr} (hp : p.block < B) (u : Value) : Own (w.setCell p u) B E s A n c xs := ⟨ownsRow_setCell_below h.row hp u⟩
/-- what toSky answers: the same sky, in memory of the call's own -/
def GaveSky (w : World) (P R X V U D Q : Int) (ns ni nz : Nat) (ls : List Sat4) (li lz : List Tri) (e : Ending) (w' : World) : Prop := (∃ As' cs' Ai' ci' Az' cz', e = .returned (.agg #[.int .i64 P, .slice As' ns cs', .slice Ai' ni ci', .int .i64 R, .int .i64 X, .int .i64 V, .int .i64 U, .int .i64 D, .slice Az' nz cz', .int .i64 Q]) ∧ InSky w' (w'.heap.size) As' ns cs' Ai' ni ci' Az' nz cz' ls li lz) ∧ Below w.heap.size w w'
set_option maxRecDepth 100000 in
set_option maxHeartbeats 1000000 in
theorem tosky (w : World) (P R X V U D Q : Int) (ns ni nz : Nat) (ls : List Sat4) (li lz : List Tri) (As : Option Addr) (cs : Nat) (Ai : Option Addr) (ci : Nat) (Az : Option Addr) (cz : Nat) (D0 : Nat) (h : InSky w (D0) As ns cs Ai ni ci Az nz cz ls li lz) (hD : D0 ≤ w.heap.size) (hs : ns ≤ 16777216) (hi : ni ≤ 16777216) (hz : nz ≤ 16777216) :
    Calls Tryz.prog 21 #[.agg #[.int .i64 P, .slice As ns cs, .slice Ai ni ci, .int .i64 R, .int .i64 X, .int .i64 V, .int .i64 U, .int .i64 D, .slice Az nz cz, .int .i64 Q]] w (GaveSky w P R X V U D Q ns ni nz ls li lz) := by
  have HS := Lib.hid h.s; have HI := Lib.hid h.i; have HZ := Lib.hid h.z; clear h
  go_enter Tryz.func21, Tryz.ntmps21
  go_wp2_with fail
  refine (tosats _ D0 As ns cs ls (((HS.out.below ((Below.refl w.heap.size w).alloc (Nat.le_refl _) _) hD).below (Below.alloc (Below.refl w.heap.size _) (by simp) _) hD).below (Below.alloc (Below.refl w.heap.size _) (by simp; omega) _) hD) (by simp; omega) hs).mono ?_
  rintro e w1 ⟨⟨As1, cs1, rfl, own1⟩, b1⟩
  simp only [World.size_alloc] at own1
  obtain ⟨zA, zR, zO, bb, hsz⟩ := below3 b1
  have O1 := Lib.hid (own1.far (p := ⟨w.heap.size + 1 + 1, 1, none⟩) (by simp) (.slice As1 ns cs1))
  have B1 := Lib.hid (bb.setCell (p := ⟨w.heap.size + 1 + 1, 1, none⟩) (by simp; omega) (.slice As1 ns cs1))
  have ZA1 := Lib.hid (zA.far (p := ⟨w.heap.size + 1 + 1, 1, none⟩) (by simp; omega) (.slice As1 ns cs1))
  have ZR1 := Lib.hid (zR.far (p := ⟨w.heap.size + 1 + 1, 1, none⟩) (by simp) (.slice As1 ns cs1))
  have ZO1 := Lib.hid (zO.set_ 1 (.slice As1 ns cs1))
  have a2 := zA.cell 2; have o1 := zO.cell 1; have f1 := zO.frozen 1
  simp only [List.getElem?_toArray, List.getElem?_cons_zero, List.getElem?_cons_succ] at a2 o1
  have hsz1 : w.heap.size + 1 + 1 < w1.heap.size := hsz
  clear zA zR zO own1 b1 bb HS
  go_wp2_with fail
  refine (tosites _ D0 Ai ni ci li (HI.out.below B1.out hD) (by simp; omega) hi).mono ?_
  rintro e w2 ⟨⟨Ai1, ci1, rfl, own2⟩, b2⟩
  have zA := ZA1.out.below b2 ZA1.out.lt; have zR := ZR1.out.below b2 ZR1.out.lt; have zO := ZO1.out.below b2 ZO1.out.lt
  have bb := B1.out.trans (b2.mono B1.out.size)
  have own1 := O1.out.on b2
  have own2' := own2.fewer (B' := w.heap.size + 1 + 1 + 1) (by simp; omega)
  have hsz2 : w.heap.size + 1 + 1 < w2.heap.size := by have := b2.size; simp at this; omega
  have O1' := Lib.hid ((((((own1.far (p := ⟨w.heap.size + 1 + 1, 2, none⟩) (by simp) (.slice Ai1 ni ci1)).far (p := ⟨w.heap.size + 1 + 1, 3, none⟩) (by simp) (.int .i64 R)).far (p := ⟨w.heap.size + 1 + 1, 4, none⟩) (by simp) (.int .i64 X)).far (p := ⟨w.heap.size + 1 + 1, 5, none⟩) (by simp) (.int .i64 V)).far (p := ⟨w.heap.size + 1 + 1, 6, none⟩) (by simp) (.int .i64 U)).far (p := ⟨w.heap.size + 1 + 1, 7, none⟩) (by simp) (.int .i64 D))
  have O2' := Lib.hid ((((((own2'.far (p := ⟨w.heap.size + 1 + 1, 2, none⟩) (by simp) (.slice Ai1 ni ci1)).far (p := ⟨w.heap.size + 1 + 1, 3, none⟩) (by simp) (.int .i64 R)).far (p := ⟨w.heap.size + 1 + 1, 4, none⟩) (by simp) (.int .i64 X)).far (p := ⟨w.heap.size + 1 + 1, 5, none⟩) (by simp) (.int .i64 V)).far (p := ⟨w.heap.size + 1 + 1, 6, none⟩) (by simp) (.int .i64 U)).far (p := ⟨w.heap.size + 1 + 1, 7, none⟩) (by simp) (.int .i64 D))
  have B2 := Lib.hid ((((((bb.setCell (p := ⟨w.heap.size + 1 + 1, 2, none⟩) (by simp; omega) (.slice Ai1 ni ci1)).setCell (p := ⟨w.heap.size + 1 + 1, 3, none⟩) (by simp; omega) (.int .i64 R)).setCell (p := ⟨w.heap.size + 1 + 1, 4, none⟩) (by simp; omega) (.int .i64 X)).setCell (p := ⟨w.heap.size + 1 + 1, 5, none⟩) (by simp; omega) (.int .i64 V)).setCell (p := ⟨w.heap.size + 1 + 1, 6, none⟩) (by simp; omega) (.int .i64 U)).setCell (p := ⟨w.heap.size + 1 + 1, 7, none⟩) (by simp; omega) (.int .i64 D))
  have ZA2 := Lib.hid ((((((zA.far (p := ⟨w.heap.size + 1 + 1, 2, none⟩) (by simp; omega) (.slice Ai1 ni ci1)).far (p := ⟨w.heap.size + 1 + 1, 3, none⟩) (by simp; omega) (.int .i64 R)).far (p := ⟨w.heap.size + 1 + 1, 4, none⟩) (by simp; omega) (.int .i64 X)).far (p := ⟨w.heap.size + 1 + 1, 5, none⟩) (by simp; omega) (.int .i64 V)).far (p := ⟨w.heap.size + 1 + 1, 6, none⟩) (by simp; omega) (.int .i64 U)).far (p := ⟨w.heap.size + 1 + 1, 7, none⟩) (by simp; omega) (.int .i64 D))
  have ZR2 := Lib.hid ((((((zR.far (p := ⟨w.heap.size + 1 + 1, 2, none⟩) (by simp) (.slice Ai1 ni ci1)).far (p := ⟨w.heap.size + 1 + 1, 3, none⟩) (by simp) (.int .i64 R)).far (p := ⟨w.heap.size + 1 + 1, 4, none⟩) (by simp) (.int .i64 X)).far (p := ⟨w.heap.size + 1 + 1, 5, none⟩) (by simp) (.int .i64 V)).far (p := ⟨w.heap.size + 1 + 1, 6, none⟩) (by simp) (.int .i64 U)).far (p := ⟨w.heap.size + 1 + 1, 7, none⟩) (by simp) (.int .i64 D))
  have ZO2 := Lib.hid ((((((zO.set_ 2 (.slice Ai1 ni ci1)).set_ 3 (.int .i64 R)).set_ 4 (.int .i64 X)).set_ 5 (.int .i64 V)).set_ 6 (.int .i64 U)).set_ 7 (.int .i64 D))
  have a3 := zA.cell 3; have a4 := zA.cell 4; have a5 := zA.cell 5; have a6 := zA.cell 6; have a7 := zA.cell 7; have a8 := zA.cell 8
  have o2 := zO.cell 2; have f2 := zO.frozen 2; have o3 := zO.cell 3; have f3 := zO.frozen 3; have o4 := zO.cell 4; have f4 := zO.frozen 4; have o5 := zO.cell 5; have f5 := zO.frozen 5; have o6 := zO.cell 6; have f6 := zO.frozen 6; have o7 := zO.cell 7; have f7 := zO.frozen 7
  simp at a3 a4 a5 a6 a7 a8 o2 o3 o4 o5 o6 o7
  clear zA zR zO own1 own2 own2' b2 bb HI O1 B1 ZA1 ZR1 ZO1 a2 o1 f1
  go_wp2_with fail
  refine (tozones _ D0 Az nz cz lz (HZ.out.below B2.out hD) (by simp; omega) hz).mono ?_
  rintro e w3 ⟨⟨Az1, cz1, rfl, own3⟩, b3⟩
  have zA := ZA2.out.below b3 ZA2.out.lt; have zR := ZR2.out.below b3 ZR2.out.lt; have zO := ZO2.out.below b3 ZO2.out.lt
  have bb := B2.out.trans (b3.mono B2.out.size)
  have own1 := O1'.out.on b3
  have own2 := O2'.out.on b3
  have own3' := own3.fewer (B' := w.heap.size + 1 + 1 + 1) (by simp; omega)
  have O1 := Lib.hid ((((((((((((own1.far (p := ⟨w.heap.size + 1 + 1, 8, none⟩) (by simp) (.slice Az1 nz cz1)).far (p := ⟨w.heap.size + 1 + 1, 9, none⟩) (by simp) (.int .i64 Q)).far (p := ⟨w.heap.size + 1, 0, none⟩) (by simp <;> omega) (.int .i64 P)).far (p := ⟨w.heap.size + 1, 1, none⟩) (by simp <;> omega) (.slice As1 ns cs1)).far (p := ⟨w.heap.size + 1, 2, none⟩) (by simp <;> omega) (.slice Ai1 ni ci1)).far (p := ⟨w.heap.size + 1, 3, none⟩) (by simp <;> omega) (.int .i64 R)).far (p := ⟨w.heap.size + 1, 4, none⟩) (by simp <;> omega) (.int .i64 X)).far (p := ⟨w.heap.size + 1, 5, none⟩) (by simp <;> omega) (.int .i64 V)).far (p := ⟨w.heap.size + 1, 6, none⟩) (by simp <;> omega) (.int .i64 U)).far (p := ⟨w.heap.size + 1, 7, none⟩) (by simp <;> omega) (.int .i64 D)).far (p := ⟨w.heap.size + 1, 8, none⟩) (by simp <;> omega) (.slice Az1 nz cz1)).far (p := ⟨w.heap.size + 1, 9, none⟩) (by simp <;> omega) (.int .i64 Q))
  have O2 := Lib.hid ((((((((((((own2.far (p := ⟨w.heap.size + 1 + 1, 8, none⟩) (by simp) (.slice Az1 nz cz1)).far (p := ⟨w.heap.size + 1 + 1, 9, none⟩) (by simp) (.int .i64 Q)).far (p := ⟨w.heap.size + 1, 0, none⟩) (by simp <;> omega) (.int .i64 P)).far (p := ⟨w.heap.size + 1, 1, none⟩) (by simp <;> omega) (.slice As1 ns cs1)).far (p := ⟨w.heap.size + 1, 2, none⟩) (by simp <;> omega) (.slice Ai1 ni ci1)).far (p := ⟨w.heap.size + 1, 3, none⟩) (by simp <;> omega) (.int .i64 R)).far (p := ⟨w.heap.size + 1, 4, none⟩) (by simp <;> omega) (.int .i64 X)).far (p := ⟨w.heap.size + 1, 5, none⟩) (by simp <;> omega) (.int .i64 V)).far (p := ⟨w.heap.size + 1, 6, none⟩) (by simp <;> omega) (.int .i64 U)).far (p := ⟨w.heap.size + 1, 7, none⟩) (by simp <;> omega) (.int .i64 D)).far (p := ⟨w.heap.size + 1, 8, none⟩) (by simp <;> omega) (.slice Az1 nz cz1)).far (p := ⟨w.heap.size + 1, 9, none⟩) (by simp <;> omega) (.int .i64 Q))
  have O3 := Lib.hid ((((((((((((own3'.far (p := ⟨w.heap.size + 1 + 1, 8, none⟩) (by simp) (.slice Az1 nz cz1)).far (p := ⟨w.heap.size + 1 + 1, 9, none⟩) (by simp) (.int .i64 Q)).far (p := ⟨w.heap.size + 1, 0, none⟩) (by simp <;> omega) (.int .i64 P)).far (p := ⟨w.heap.size + 1, 1, none⟩) (by simp <;> omega) (.slice As1 ns cs1)).far (p := ⟨w.heap.size + 1, 2, none⟩) (by simp <;> omega) (.slice Ai1 ni ci1)).far (p := ⟨w.heap.size + 1, 3, none⟩) (by simp <;> omega) (.int .i64 R)).far (p := ⟨w.heap.size + 1, 4, none⟩) (by simp <;> omega) (.int .i64 X)).far (p := ⟨w.heap.size + 1, 5, none⟩) (by simp <;> omega) (.int .i64 V)).far (p := ⟨w.heap.size + 1, 6, none⟩) (by simp <;> omega) (.int .i64 U)).far (p := ⟨w.heap.size + 1, 7, none⟩) (by simp <;> omega) (.int .i64 D)).far (p := ⟨w.heap.size + 1, 8, none⟩) (by simp <;> omega) (.slice Az1 nz cz1)).far (p := ⟨w.heap.size + 1, 9, none⟩) (by simp <;> omega) (.int .i64 Q))
  have B3 := Lib.hid ((((((((((((bb.setCell (p := ⟨w.heap.size + 1 + 1, 8, none⟩) (by simp; omega) (.slice Az1 nz cz1)).setCell (p := ⟨w.heap.size + 1 + 1, 9, none⟩) (by simp; omega) (.int .i64 Q)).setCell (p := ⟨w.heap.size + 1, 0, none⟩) (by simp) (.int .i64 P)).setCell (p := ⟨w.heap.size + 1, 1, none⟩) (by simp) (.slice As1 ns cs1)).setCell (p := ⟨w.heap.size + 1, 2, none⟩) (by simp) (.slice Ai1 ni ci1)).setCell (p := ⟨w.heap.size + 1, 3, none⟩) (by simp) (.int .i64 R)).setCell (p := ⟨w.heap.size + 1, 4, none⟩) (by simp) (.int .i64 X)).setCell (p := ⟨w.heap.size + 1, 5, none⟩) (by simp) (.int .i64 V)).setCell (p := ⟨w.heap.size + 1, 6, none⟩) (by simp) (.int .i64 U)).setCell (p := ⟨w.heap.size + 1, 7, none⟩) (by simp) (.int .i64 D)).setCell (p := ⟨w.heap.size + 1, 8, none⟩) (by simp) (.slice Az1 nz cz1)).setCell (p := ⟨w.heap.size + 1, 9, none⟩) (by simp) (.int .i64 Q))
  have ZR3 := Lib.hid ((((((((((((zR.far (p := ⟨w.heap.size + 1 + 1, 8, none⟩) (by simp) (.slice Az1 nz cz1)).far (p := ⟨w.heap.size + 1 + 1, 9, none⟩) (by simp) (.int .i64 Q)).set_ 0 (.int .i64 P)).set_ 1 (.slice As1 ns cs1)).set_ 2 (.slice Ai1 ni ci1)).set_ 3 (.int .i64 R)).set_ 4 (.int .i64 X)).set_ 5 (.int .i64 V)).set_ 6 (.int .i64 U)).set_ 7 (.int .i64 D)).set_ 8 (.slice Az1 nz cz1)).set_ 9 (.int .i64 Q))
  have a9 := zA.cell 9
  have o0 := zO.cell 0; have o1 := zO.cell 1; have o2 := zO.cell 2; have o3 := zO.cell 3; have o4 := zO.cell 4; have o5 := zO.cell 5; have o6 := zO.cell 6; have o7 := zO.cell 7; have o8 := zO.cell 8; have o9 := zO.cell 9
  have f8 := zO.frozen 8; have f9 := zO.frozen 9
  have r0 := zR.cell 0; have g0 := zR.frozen 0; have r1 := zR.cell 1; have g1 := zR.frozen 1; have r2 := zR.cell 2; have g2 := zR.frozen 2; have r3 := zR.cell 3; have g3 := zR.frozen 3; have r4 := zR.cell 4; have g4 := zR.frozen 4; have r5 := zR.cell 5; have g5 := zR.frozen 5; have r6 := zR.cell 6; have g6 := zR.frozen 6; have r7 := zR.cell 7; have g7 := zR.frozen 7; have r8 := zR.cell 8; have g8 := zR.frozen 8; have r9 := zR.cell 9; have g9 := zR.frozen 9
  simp at a9 o0 r0 o1 r1 o2 r2 o3 r3 o4 r4 o5 r5 o6 r6 o7 r7 o8 r8 o9 r9
  clear zA zR zO own1 own2 own3 own3' b3 bb HZ O1' O2' B2 ZA2 ZR2 ZO2 a3 a4 a5 a6 a7 a8 f2 f3 f4 f5 f6 f7
  go_wp2
  have k0 := ZR3.out.cell 0; have k1 := ZR3.out.cell 1; have k2 := ZR3.out.cell 2; have k3 := ZR3.out.cell 3; have k4 := ZR3.out.cell 4; have k5 := ZR3.out.cell 5; have k6 := ZR3.out.cell 6; have k7 := ZR3.out.cell 7; have k8 := ZR3.out.cell 8; have k9 := ZR3.out.cell 9
  simp at k0 k1 k2 k3 k4 k5 k6 k7 k8 k9
  refine bodyPost_ret (v := .agg #[.int .i64 P, .slice As1 ns cs1, .slice Ai1 ni ci1, .int .i64 R, .int .i64 X, .int .i64 V, .int .i64 U, .int .i64 D, .slice Az1 nz cz1, .int .i64 Q]) (by simp [results, Tryz.results21, go_sem, k0, k1, k2, k3, k4, k5, k6, k7, k8, k9]) rfl ?_
  exact ⟨⟨As1, cs1, Ai1, ci1, Az1, cz1, rfl, ⟨O1.out.sl, O2.out.sl, O3.out.sl⟩⟩, B3.out⟩
set_option maxRecDepth 100000 in
set_option maxHeartbeats 1000000 in
theorem eqsky_same (w : World) (P R X V U D Q : Int) (ns ni nz : Nat) (ls : List Sat4) (li lz : List Tri) (As : Option Addr) (cs : Nat) (Ai : Option Addr) (ci : Nat) (Az : Option Addr) (cz : Nat) (As' : Option Addr) (cs' : Nat) (Ai' : Option Addr) (ci' : Nat) (Az' : Option Addr) (cz' : Nat) (D0 : Nat) (h : InSky w (D0) As ns cs Ai ni ci Az nz cz ls li lz) (h' : InSky w (D0) As' ns cs' Ai' ni ci' Az' nz cz' ls li lz) (hD : D0 ≤ w.heap.size) :
    Calls Tryz.prog 23 #[.agg #[.int .i64 P, .slice As ns cs, .slice Ai ni ci, .int .i64 R, .int .i64 X, .int .i64 V, .int .i64 U, .int .i64 D, .slice Az nz cz, .int .i64 Q], .agg #[.int .i64 P, .slice As' ns cs', .slice Ai' ni ci', .int .i64 R, .int .i64 X, .int .i64 V, .int .i64 U, .int .i64 D, .slice Az' nz cz', .int .i64 Q]] w (SaysB w true) := by
  have HS := Lib.hid h.s; have HI := Lib.hid h.i; have HZ := Lib.hid h.z
  have HS' := Lib.hid h'.s; have HI' := Lib.hid h'.i; have HZ' := Lib.hid h'.z
  clear h h'
  have T0 := Lib.hid (((Below.refl w.heap.size w).alloc (Nat.le_refl _) (.cells #[.int .i64 P, .slice As ns cs, .slice Ai ni ci, .int .i64 R, .int .i64 X, .int .i64 V, .int .i64 U, .int .i64 D, .slice Az nz cz, .int .i64 Q] 28)).alloc (by simp) (.cells #[.int .i64 P, .slice As' ns cs', .slice Ai' ni ci', .int .i64 R, .int .i64 X, .int .i64 V, .int .i64 U, .int .i64 D, .slice Az' nz cz', .int .i64 Q] 28))
  go_enter Tryz.func23, Tryz.ntmps23
  go_wp2_with fail
  refine (eqsats _ D0 D0 As As' ns cs cs' ls (HS.out.below T0.out hD) (HS'.out.below T0.out hD) (by simp; omega) (by simp; omega)).mono ?_
  rintro e w1 ⟨rfl, b1⟩
  obtain ⟨zA, zB, bb, hsz⟩ := below2 b1
  have ZA := Lib.hid zA; have ZB := Lib.hid zB; have B1 := Lib.hid bb
  have a2 := zA.cell 2; have p2 := zB.cell 2
  simp only [List.getElem?_toArray, List.getElem?_cons_zero, List.getElem?_cons_succ] at a2 p2
  clear zA zB bb b1 T0 HS HS'
  go_wp2_with fail
  refine (eqsites _ D0 D0 Ai Ai' ni ci ci' li (HI.out.below B1.out hD) (HI'.out.below B1.out hD) (by omega) (by omega)).mono ?_
  rintro e w2 ⟨rfl, b2⟩
  have zA := ZA.out.below b2 ZA.out.lt; have zB := ZB.out.below b2 ZB.out.lt
  have ZA2 := Lib.hid zA; have ZB2 := Lib.hid zB
  have B2 := Lib.hid (B1.out.trans (b2.mono B1.out.size))
  have hsz2 := b2.size
  have a3 := zA.cell 3; have a4 := zA.cell 4; have a5 := zA.cell 5; have a6 := zA.cell 6; have a7 := zA.cell 7; have a8 := zA.cell 8
  have p3 := zB.cell 3; have p4 := zB.cell 4; have p5 := zB.cell 5; have p6 := zB.cell 6; have p7 := zB.cell 7; have p8 := zB.cell 8
  simp only [List.getElem?_toArray, List.getElem?_cons_zero, List.getElem?_cons_succ] at a3 a4 a5 a6 a7 a8 p3 p4 p5 p6 p7 p8
  clear zA zB b2 ZA ZB B1 HI HI' a2 p2
  go_wp2_with fail
  refine (eqzones _ D0 D0 Az Az' nz cz cz' lz (HZ.out.below B2.out hD) (HZ'.out.below B2.out hD) (by omega) (by omega)).mono ?_
  rintro e w3 ⟨rfl, b3⟩
  have a9 := (ZA2.out.below b3 ZA2.out.lt).cell 9; have p9 := (ZB2.out.below b3 ZB2.out.lt).cell 9
  simp only [List.getElem?_toArray, List.getElem?_cons_zero, List.getElem?_cons_succ] at a9 p9
  have B3 := Lib.hid (B2.out.trans (b3.mono B2.out.size))
  clear b3 ZA2 ZB2 B2 HZ HZ' a3 a4 a5 a6 a7 a8 p3 p4 p5 p6 p7 p8
  go_wp2
  go_ret
  exact ⟨rfl, B3.out⟩
end Go.Proofs.YtlaigbhiligceaaGreatDoor
