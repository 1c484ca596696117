/- The laws' own helpers on clouds: copies, sizes, comparisons, marks; marks on contacts, and whether they are held. -/
import Derived.Test.YtmmnnbgfomcihaaContactCopies
import Derived.Test.YtmmnnbgfomcihaaCloudFacts
import Derived.Test.YtmmnnbgfomcihaaSpanCopies
namespace Go.Proofs.Ytmmnnbgfomcihaa
open Go.ChangeShapes Go.WideShapes Go.ChangeAt Go.RowKit
set_option linter.unusedVariables false
theorem cloud_info : (Try.prog.info? 67).map (fun i => (i.zero, i.size, i.bytes)) = some (some (.agg #[.int .i64 0, .int .i64 0, .int .i64 0]), 3, 24) := by kernel_rfl
theorem tocloud3 (w : World) (x y z : Int) :
    Calls Try.prog 49 #[.agg #[.int .i64 x, .int .i64 y, .int .i64 z]] w fun e w' => e = .returned (.agg #[.int .i64 x, .int .i64 y, .int .i64 z]) ∧ Below w.heap.size w w' := by
  go_enter Try.func49, Try.ntmps49
  go_wp2
  refine bodyPost_ret (v := .agg #[.int .i64 x, .int .i64 y, .int .i64 z]) (by simp [results, Try.results49, go_sem]) rfl ⟨rfl, ?_⟩
  exact (((Below.refl _ _).alloc (Nat.le_refl _) _).alloc (by simp) _).alloc (by simp; omega) _
set_option maxRecDepth 100000 in
theorem toclouds (w : World) (D : Nat) (A : Option Addr) (n c : Nat) (l : List Tri) (h : Sl w D 3 A n c (fl c3 l)) (hD : D ≤ w.heap.size) (hn : n ≤ 16777216) :
    Calls Try.prog 18 #[.slice A n c] w fun e w' => (∃ A' c', e = .returned (.slice A' n c') ∧ Own w' w.heap.size 67 3 A' n c' (fl c3 l)) ∧ Below w.heap.size w w' := by
  obtain ⟨i0, hi, hz0, hz1, hz2⟩ := info_parts cloud_info
  obtain rfl : n = l.length := h.num c3_len (by omega)
  have hcap := h.cap; have hcapm := h.capm
  go_enter Try.func18, Try.ntmps18
  go_wp2_with (at_make; refine wpList_make_full _ rfl _ _ 25 rfl w.heap.size 67 i0 (.agg #[.int .i64 0, .int .i64 0, .int .i64 0]) 3 Try.underlying25 hi hz0 hz1 .i64 .i64 _ _ l.length rfl rfl rfl rfl (by rw [hz2]; omega) (by unfold maxLen; omega) (Nat.le_refl _) ?_; intro w1 hown hgrow)
  obtain ⟨ys, hys⟩ : ∃ ys : List Value, ys = (madeCells (Value.agg #[.int .i64 0, .int .i64 0, .int .i64 0]).cells (l.length * 3)).toList := ⟨_, rfl⟩
  have hown1 : Hid (Own w1 w.heap.size 67 3 (some ⟨w.heap.size, 0, none⟩) l.length l.length ((fl c3 l).take (0 * 3) ++ ys.drop (0 * 3))) := by
    refine Lib.hid ⟨?_⟩
    rw [hys]
    simpa using hown
  have hyl : Hid (ys.length = (fl c3 l).length) := Lib.hid (by have := hown1.out.len; rw [fl_len c3_len]; simpa using this)
  have hb1 : Hid (Below w.heap.size w w1) := Lib.hid ((Below.refl _ _).grown hgrow (Nat.le_refl _) (fun k hk => by cases hk))
  clear hown hgrow hi hz0 hz1 hz2 hys
  go_loopw [4] (fun i wr => ∃ k : Nat, k ≤ l.length ∧ i = .int .i64 k ∧ Own wr w.heap.size 67 3 (some ⟨w.heap.size, 0, none⟩) l.length l.length ((fl c3 l).take (k * 3) ++ ys.drop (k * 3)) ∧ Below w.heap.size w wr)
    (fun i _ => l.length - (intOf i).toNat)
  case atStart => exact ⟨0, Nat.zero_le _, rfl, hown1.out, hb1.out⟩
  case round =>
    clear hown1 hb1
    obtain ⟨k, hk, rfl, hown, hb⟩ := hrel
    by_cases hlt : k < l.length
    · obtain ⟨ad, hx, rfl, had, hc0, hc1, hc2⟩ := (h.below hb hD).tri hlt
      have g0 := Lib.hid (fl_get c3_len l k hx 0 (by omega)); have g1 := Lib.hid (fl_get c3_len l k hx 1 (by omega)); have g2 := Lib.hid (fl_get c3_len l k hx 2 (by omega))
      obtain ⟨e, he⟩ : ∃ e, e = l[k] := ⟨_, rfl⟩
      rw [← he] at hc0 hc1 hc2 g0 g1 g2
      obtain ⟨x, y, z⟩ := e
      simp only at hc0 hc1 hc2
      have HO := Lib.hid hown; have HB := Lib.hid hb
      clear he hown hb
      go_wp2_with fail
      refine (tocloud3 _ x y z).mono ?_
      rintro e w2 ⟨rfl, b2⟩
      have O2 := HO.out.on b2
      have B2 := HB.out.trans (b2.mono HB.out.size)
      obtain ⟨u0, hu0⟩ := O2.cellS (k * 3) (by omega)
      obtain ⟨u1, hu1⟩ := O2.cellS (k * 3 + 1) (by omega)
      obtain ⟨u2, hu2⟩ := O2.cellS (k * 3 + 2) (by omega)
      have hf0 := O2.row.frozenAt (k * 3)
      have hf1 := O2.row.frozenAt (k * 3 + 1)
      have hf2 := O2.row.frozenAt (k * 3 + 2)
      have hfin := Lib.hid (O2.fill3 (hyl.out) (by rw [fl_len c3_len]; omega) g0.out g1.out g2.out)
      have hBf := Lib.hid (O2.below B2 B2.size hfin.out.2)
      have hOf := Lib.hid hfin.out.1
      clear hfin O2 B2 b2 HO HB
      go_wp2
      go_roundw
      case rel => exact ⟨k + 1, by omega, by go_num, hOf.out, hBf.out⟩
      case measure => simp [intOf]; omega
    · have hfin : Own wr w.heap.size 67 3 (some ⟨w.heap.size, 0, none⟩) l.length l.length (fl c3 l) := by
        have e : k = l.length := by omega
        subst e
        have e1 : (fl c3 l).take (l.length * 3) = fl c3 l := List.take_of_length_le (by rw [fl_len c3_len]; omega)
        have e2 : ys.drop (l.length * 3) = [] := List.drop_of_length_le (by rw [hyl.out, fl_len c3_len]; omega)
        rw [e1, e2, List.append_nil] at hown
        exact hown
      have HF := Lib.hid hfin; clear hfin hown
      go_wp2
      go_ret
      exact ⟨⟨_, _, rfl, HF.out⟩, hb⟩
theorem szclouds (w : World) (A : Option Addr) (n c : Nat) (z : Int) (hz0 : 0 ≤ z) (hz : z ≤ 1048576) (hn : n ≤ 9223372036854775807) :
    Calls Try.prog 16 #[.slice A n c, .int .i64 z] w fun e w' => e = .returned (.int .i64 (if z < n then -1 else z - n)) ∧ w = w' := by
  by_cases h : z < (n : Int)
  · rw [if_pos h]
    have h' : z - (n : Int) < 0 := by omega
    go_enter Try.func16, Try.ntmps16
    go_wp2
    go_ret
    exact ⟨rfl, rfl⟩
  · rw [if_neg h]
    have h' : ¬ (z - (n : Int) < 0) := by omega
    go_enter Try.func16, Try.ntmps16
    go_wp2
    go_ret
    exact ⟨rfl, rfl⟩
theorem eqcloud_same (w : World) (x y z : Int) : Calls Try.prog 52 #[.agg #[.int .i64 x, .int .i64 y, .int .i64 z], .agg #[.int .i64 x, .int .i64 y, .int .i64 z]] w (Says w true) := by
  go_enter Try.func52, Try.ntmps52
  go_wp2
  go_ret
  exact ⟨rfl, ((Below.refl _ _).alloc (Nat.le_refl _) _).alloc (by simp) _⟩
set_option maxRecDepth 100000 in
theorem eqclouds (w : World) (D D' : Nat) (A A' : Option Addr) (n c c' : Nat) (l : List Tri) (h : Sl w D 3 A n c (fl c3 l)) (h' : Sl w D' 3 A' n c' (fl c3 l)) (hD : D ≤ w.heap.size) (hD' : D' ≤ w.heap.size) :
    Calls Try.prog 21 #[.slice A n c, .slice A' n c'] w fun e w' => e = .returned (.bool true) ∧ Below w.heap.size w w' := by
  obtain rfl : n = l.length := h.num c3_len (by omega)
  have hcap := h.cap; have hcapm := h.capm
  go_enter Try.func21, Try.ntmps21
  go_wp2
  go_loopw [5] (fun i wr => ∃ k : Nat, k ≤ l.length ∧ i = .int .i64 k ∧ Below w.heap.size w wr) (fun i _ => l.length - (intOf i).toNat)
  case atStart => exact ⟨0, Nat.zero_le _, rfl, Below.refl _ _⟩
  case round =>
    obtain ⟨k, hk2, rfl, hb⟩ := hrel
    by_cases hlt : k < l.length
    · have HC : Hid (∀ {w' : World}, Below w.heap.size w w' → _) := Lib.hid fun hb => And.intro ((h.below hb hD).tri hlt) ((h'.below hb hD').tri hlt)
      obtain ⟨ad, hx, rfl, had, -⟩ := h.tri hlt
      obtain ⟨ad', hx', rfl, had', -⟩ := h'.tri hlt
      obtain ⟨e, he⟩ : ∃ e, e = l[k] := ⟨_, rfl⟩
      have HC2 : Hid (∀ {w' : World}, Below w.heap.size w w' → (w'.cell? (ad.add (k * 3)) = some (.int .i64 e.p) ∧ w'.cell? ⟨(ad.add (k * 3)).block, (ad.add (k * 3)).off + 1, none⟩ = some (.int .i64 e.a) ∧ w'.cell? ⟨(ad.add (k * 3)).block, (ad.add (k * 3)).off + 2, none⟩ = some (.int .i64 e.b)) ∧
          w'.cell? (ad'.add (k * 3)) = some (.int .i64 e.p) ∧ w'.cell? ⟨(ad'.add (k * 3)).block, (ad'.add (k * 3)).off + 1, none⟩ = some (.int .i64 e.a) ∧ w'.cell? ⟨(ad'.add (k * 3)).block, (ad'.add (k * 3)).off + 2, none⟩ = some (.int .i64 e.b)) := Lib.hid fun hb => by
        obtain ⟨⟨a1, _, e1, _, q0, q1, q2⟩, ⟨a2, _, e2, _, p0, p1, p2⟩⟩ := HC.out hb
        injection e1 with e1; injection e2 with e2
        subst e1 e2
        rw [he]
        exact ⟨⟨q0, q1, q2⟩, p0, p1, p2⟩
      obtain ⟨x, y, z⟩ := e
      have HB := Lib.hid hb
      obtain ⟨⟨k0, k1, k2⟩, k4, k5, k6⟩ := HC2.out hb
      simp only at k0 k1 k2 k4 k5 k6
      have f1 : (0 : Int) ≤ (k : Int) := by omega
      have f2 : (k : Int) < (l.length : Int) := by omega
      clear he hb HC
      go_wp2_with fail
      go_region_held3 (fun w' => (w'.cell? (ad.add (k * 3)) = some (.int .i64 x) ∧ w'.cell? ⟨(ad.add (k * 3)).block, (ad.add (k * 3)).off + 1, none⟩ = some (.int .i64 y) ∧ w'.cell? ⟨(ad.add (k * 3)).block, (ad.add (k * 3)).off + 2, none⟩ = some (.int .i64 z)) ∧
          w'.cell? (ad'.add (k * 3)) = some (.int .i64 x) ∧ w'.cell? ⟨(ad'.add (k * 3)).block, (ad'.add (k * 3)).off + 1, none⟩ = some (.int .i64 y) ∧ w'.cell? ⟨(ad'.add (k * 3)).block, (ad'.add (k * 3)).off + 2, none⟩ = some (.int .i64 z)) (first | exact ⟨⟨k0, k1, k2⟩, k4, k5, k6⟩ | exact hcA | go_keep) (first
        | (go_at_call 52; refine (eqcloud_same _ x y z).mono ?_; rintro e wA ⟨rfl, bA⟩; have HBA : Hid (Below w.heap.size w wA) := Lib.hid (by first | exact HB.out.drew.trans (bA.mono HB.out.size) | exact HB.out.trans (bA.mono HB.out.size)); have hcA := HC2.out HBA.out; clear bA))
      go_wp2
      go_roundw
      case rel => exact ⟨k + 1, by omega, by go_num, HBA.out⟩
      case measure => simp [intOf]; omega
    · go_wp2
      go_ret
      exact ⟨rfl, hb⟩
theorem eqclouds2 (w : World) (D D' : Nat) (A A' : Option Addr) (n n' c c' : Nat) (l : List Tri) (h : Sl w D 3 A n c (fl c3 l)) (h' : Sl w D' 3 A' n' c' (fl c3 l)) (hD : D ≤ w.heap.size) (hD' : D' ≤ w.heap.size) :
    Calls Try.prog 21 #[.slice A n c, .slice A' n' c'] w fun e w' => e = .returned (.bool true) ∧ Below w.heap.size w w' := by
  obtain rfl : n' = n := (h'.num c3_len (by omega)).trans (h.num c3_len (by omega)).symm
  exact eqclouds w D D' A A' n' c c' l h h' hD hD'
set_option maxRecDepth 100000 in
theorem markclouds (w : World) (B : Nat) (A : Option Addr) (n c : Nat) (xs : List Value) (h : Own w B 67 3 A n c xs) (a : Int) (ha0 : 0 ≤ a) (ha : a + n * 3 ≤ 1000000000000) :
    Calls Try.prog 22 #[.slice A n c, .int .i64 a] w fun e w' => e = .returned (.int .i64 (a + n * 3)) ∧ Own w' B 67 3 A n c (marks64 a (n * 3)) ∧ w.grownBy w' (Value.slice A n c).ownBlock := by
  have hlen := Lib.hid h.len
  have hcap := h.capm
  have h0 : Hid (Own w B 67 3 A n c ((marks64 a (n * 3)).take (0 * 3) ++ xs.drop (0 * 3))) := Lib.hid (by simpa using h)
  clear h
  go_enter Try.func22, Try.ntmps22
  go_wp2
  go_loopw [1, 5] (fun m i wr => ∃ k : Nat, k ≤ n ∧ i = .int .i64 k ∧ m = .int .i64 (a + k * 3) ∧ Own wr B 67 3 A n c ((marks64 a (n * 3)).take (k * 3) ++ xs.drop (k * 3)) ∧ w.grownBy wr (Value.slice A n c).ownBlock)
    (fun _ i _ => n - (intOf i).toNat)
  case atStart => exact ⟨0, Nat.zero_le _, rfl, by simp, h0.out, World.grownBy.refl _ _⟩
  case round =>
    clear h0
    obtain ⟨k, hk, rfl, rfl, hown, hg⟩ := hrel
    by_cases hlt : k < n
    · rcases hown.form with ⟨_, h0, _⟩ | ⟨g, rfl, hBg, hgl, _⟩
      · omega
      · obtain ⟨u0, hu0⟩ := hown.cellS (k * 3) (by omega)
        obtain ⟨u1, hu1⟩ := hown.cellS (k * 3 + 1) (by omega)
        obtain ⟨u2, hu2⟩ := hown.cellS (k * 3 + 2) (by omega)
        have hf0 := hown.row.frozenAt (k * 3)
        have hf1 := hown.row.frozenAt (k * 3 + 1)
        have hf2 := hown.row.frozenAt (k * 3 + 2)
        have m0 : (marks64 a (n * 3))[k * 3]? = some (.int .i64 (a + k * 3)) := by rw [marks64_at _ _ _ (by omega)]; congr 2 <;> omega
        have m1 : (marks64 a (n * 3))[k * 3 + 1]? = some (.int .i64 (a + k * 3 + 1)) := by rw [marks64_at _ _ _ (by omega)]; congr 2 <;> omega
        have m2 : (marks64 a (n * 3))[k * 3 + 2]? = some (.int .i64 (a + k * 3 + 1 + 1)) := by rw [marks64_at _ _ _ (by omega)]; congr 2 <;> omega
        have hfin := Lib.hid (hown.fill3 (M := marks64 a (n * 3)) (by rw [hlen.out, marks64_len]) (by rw [marks64_len]; omega) m0 m1 m2)
        have hO := Lib.hid hfin.out.1
        have hG := Lib.hid (hg.trans hfin.out.2)
        clear hfin hown hg m0 m1 m2
        go_wp2
        go_roundw
        case rel => exact ⟨k + 1, by omega, by go_num, by go_num, hO.out, hG.out⟩
        case measure => simp [intOf]; omega
    · obtain rfl : k = n := by omega
      have e1 : (marks64 a (k * 3)).take (k * 3) ++ xs.drop (k * 3) = marks64 a (k * 3) := by
        rw [List.take_of_length_le (by rw [marks64_len]; omega), List.drop_of_length_le (by rw [hlen.out]; omega), List.append_nil]
      rw [e1] at hown
      clear e1
      go_wp2
      go_ret
      exact ⟨rfl, hown, hg⟩
set_option maxRecDepth 100000 in
theorem markcontacts (w : World) (B : Nat) (A : Option Addr) (n c : Nat) (xs : List Value) (h : Own w B 57 4 A n c xs) (a : Int) (ha0 : 0 ≤ a) (ha : a + n * 4 ≤ 1000000000000) :
    Calls Try.prog 28 #[.slice A n c, .int .i64 a] w fun e w' => e = .returned (.int .i64 (a + n * 4)) ∧ Own w' B 57 4 A n c (marks64 a (n * 4)) ∧ w.grownBy w' (Value.slice A n c).ownBlock := by
  have hlen := Lib.hid h.len
  have hcap := h.capm
  have h0 : Hid (Own w B 57 4 A n c ((marks64 a (n * 4)).take (0 * 4) ++ xs.drop (0 * 4))) := Lib.hid (by simpa using h)
  clear h
  go_enter Try.func28, Try.ntmps28
  go_wp2
  go_loopw [1, 5] (fun m i wr => ∃ k : Nat, k ≤ n ∧ i = .int .i64 k ∧ m = .int .i64 (a + k * 4) ∧ Own wr B 57 4 A n c ((marks64 a (n * 4)).take (k * 4) ++ xs.drop (k * 4)) ∧ w.grownBy wr (Value.slice A n c).ownBlock)
    (fun _ i _ => n - (intOf i).toNat)
  case atStart => exact ⟨0, Nat.zero_le _, rfl, by simp, h0.out, World.grownBy.refl _ _⟩
  case round =>
    clear h0
    obtain ⟨k, hk, rfl, rfl, hown, hg⟩ := hrel
    by_cases hlt : k < n
    · rcases hown.form with ⟨_, h0, _⟩ | ⟨g, rfl, hBg, hgl, _⟩
      · omega
      · obtain ⟨u0, hu0⟩ := hown.cellS (k * 4) (by omega)
        obtain ⟨u1, hu1⟩ := hown.cellS (k * 4 + 1) (by omega)
        obtain ⟨u2, hu2⟩ := hown.cellS (k * 4 + 2) (by omega)
        obtain ⟨u3, hu3⟩ := hown.cellS (k * 4 + 3) (by omega)
        have hf0 := hown.row.frozenAt (k * 4)
        have hf1 := hown.row.frozenAt (k * 4 + 1)
        have hf2 := hown.row.frozenAt (k * 4 + 2)
        have hf3 := hown.row.frozenAt (k * 4 + 3)
        have m0 : (marks64 a (n * 4))[k * 4]? = some (.int .i64 (a + k * 4)) := by rw [marks64_at _ _ _ (by omega)]; congr 2 <;> omega
        have m1 : (marks64 a (n * 4))[k * 4 + 1]? = some (.int .i64 (a + k * 4 + 1)) := by rw [marks64_at _ _ _ (by omega)]; congr 2 <;> omega
        have m2 : (marks64 a (n * 4))[k * 4 + 2]? = some (.int .i64 (a + k * 4 + 1 + 1)) := by rw [marks64_at _ _ _ (by omega)]; congr 2 <;> omega
        have m3 : (marks64 a (n * 4))[k * 4 + 3]? = some (.int .i64 (a + k * 4 + 1 + 1 + 1)) := by rw [marks64_at _ _ _ (by omega)]; congr 2 <;> omega
        have hfin := Lib.hid (hown.fill4 (M := marks64 a (n * 4)) (by rw [hlen.out, marks64_len]) (by rw [marks64_len]; omega) m0 m1 m2 m3)
        have hO := Lib.hid hfin.out.1
        have hG := Lib.hid (hg.trans hfin.out.2)
        clear hfin hown hg m0 m1 m2 m3
        go_wp2
        go_roundw
        case rel => exact ⟨k + 1, by omega, by go_num, by go_num, hO.out, hG.out⟩
        case measure => simp [intOf]; omega
    · obtain rfl : k = n := by omega
      have e1 : (marks64 a (k * 4)).take (k * 4) ++ xs.drop (k * 4) = marks64 a (k * 4) := by
        rw [List.take_of_length_le (by rw [marks64_len]; omega), List.drop_of_length_le (by rw [hlen.out]; omega), List.append_nil]
      rw [e1] at hown
      clear e1
      go_wp2
      go_ret
      exact ⟨rfl, hown, hg⟩
set_option maxRecDepth 100000 in
theorem heldcontacts (w : World) (D : Nat) (A : Option Addr) (n c : Nat) (a : Int) (h : Sl w D 4 A n c (marks64 a (n * 4))) (ha0 : 0 ≤ a) (ha : a + n * 4 ≤ 1000000000000) :
    Calls Try.prog 29 #[.slice A n c, .int .i64 a] w fun e w' => e = .returned (.int .i64 (a + n * 4)) ∧ w = w' := by
  have hcap := h.cap; have hcapm := h.capm
  go_enter Try.func29, Try.ntmps29
  go_wp2
  go_loop [1, 5] (fun m i => ∃ k : Nat, k ≤ n ∧ i = .int .i64 k ∧ m = .int .i64 (a + k * 4)) (fun _ i => n - (intOf i).toNat)
  case atStart => exact ⟨0, Nat.zero_le _, rfl, by simp⟩
  case round =>
    obtain ⟨k, hk, rfl, rfl⟩ := hrel
    by_cases hlt : k < n
    · obtain ⟨ad, e, had, hc⟩ := h.rd (by rw [marks64_len]; omega)
      subst e
      have q : ∀ i, 0 < i → (⟨(ad.add (k * 4)).block, (ad.add (k * 4)).off + i, none⟩ : Addr) = ad.add (k * 4 + i) := fun i hi => by
        rw [← add_of_add]
        obtain ⟨j, rfl⟩ : ∃ j, i = j + 1 := ⟨i - 1, by omega⟩
        rfl
      have hc0 : w.cell? (ad.add (k * 4)) = some (.int .i64 (a + k * 4)) := hc _ _ (by rw [marks64_at _ _ _ (by omega)]; congr 2 <;> omega)
      have hc1 : w.cell? ⟨(ad.add (k * 4)).block, (ad.add (k * 4)).off + 1, none⟩ = some (.int .i64 (a + k * 4 + 1)) := by
        rw [q 1 (by omega)]; exact hc _ _ (by rw [marks64_at _ _ _ (by omega)]; congr 2 <;> omega)
      have hc2 : w.cell? ⟨(ad.add (k * 4)).block, (ad.add (k * 4)).off + 2, none⟩ = some (.int .i64 (a + k * 4 + 1 + 1)) := by
        rw [q 2 (by omega)]; exact hc _ _ (by rw [marks64_at _ _ _ (by omega)]; congr 2 <;> omega)
      have hc3 : w.cell? ⟨(ad.add (k * 4)).block, (ad.add (k * 4)).off + 3, none⟩ = some (.int .i64 (a + k * 4 + 1 + 1 + 1)) := by
        rw [q 3 (by omega)]; exact hc _ _ (by rw [marks64_at _ _ _ (by omega)]; congr 2 <;> omega)
      clear hc q
      go_wp2
      go_round
      case rel => exact ⟨k + 1, by omega, by go_num, by go_num⟩
      case measure => simp [intOf]; omega
    · obtain rfl : k = n := by omega
      go_wp2
      go_ret
      exact ⟨rfl, rfl⟩
end Go.Proofs.Ytmmnnbgfomcihaa
