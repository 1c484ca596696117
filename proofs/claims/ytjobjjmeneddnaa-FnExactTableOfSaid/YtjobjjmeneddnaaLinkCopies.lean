/- The laws' own helpers on slices of links: copies, comparisons, marks. -/
import Derived.Test.YtjobjjmeneddnaaSpanCopies
namespace Go.Proofs.Ytjobjjmeneddnaa
open Go.ChangeShapes Go.WideShapes Go.ChangeAt Go.RowKit
set_option linter.unusedVariables false
theorem link_info : (Try.prog.info? 80).map (fun i => (i.zero, i.size, i.bytes)) = some (some (.agg #[.int .i64 0, .int .i64 0]), 2, 16) := by kernel_rfl
theorem tolink (w : World) (x y : Int) :
    Calls Try.prog 58 #[.agg #[.int .i64 x, .int .i64 y]] w fun e w' => e = .returned (.agg #[.int .i64 x, .int .i64 y]) ∧ Below w.heap.size w w' := by
  go_enter Try.func58, Try.ntmps58
  go_wp2
  refine bodyPost_ret (v := .agg #[.int .i64 x, .int .i64 y]) (by simp [results, Try.results58, go_sem]) rfl ⟨rfl, ?_⟩
  exact (((Below.refl _ _).alloc (Nat.le_refl _) _).alloc (by simp) _).alloc (by simp; omega) _
theorem eqlink (w : World) (x y x' y' : Int) (b : Bool) (h : decide (x = x' ∧ y = y') = b) :
    Calls Try.prog 59 #[.agg #[.int .i64 x, .int .i64 y], .agg #[.int .i64 x', .int .i64 y']] w (Says w b) := by
  by_cases h1 : x = x'
  · subst h1
    by_cases h2 : y = y'
    · subst h2
      obtain rfl : b = true := by rw [← h]; simp
      clear h
      go_enter Try.func59, Try.ntmps59
      go_wp2
      go_ret
      exact ⟨rfl, ((Below.refl _ _).alloc (Nat.le_refl _) _).alloc (by simp) _⟩
    · obtain rfl : b = false := by rw [← h]; simp [h2]
      have h2' : (y == y') = false := by simpa using h2
      have h2'' : (y != y') = true := by simpa using h2
      clear h h2
      go_enter Try.func59, Try.ntmps59
      go_wp2
      go_ret
      exact ⟨rfl, ((Below.refl _ _).alloc (Nat.le_refl _) _).alloc (by simp) _⟩
  · obtain rfl : b = false := by rw [← h]; simp [h1]
    have h2' : (x == x') = false := by simpa using h1
    have h2'' : (x != x') = true := by simpa using h1
    clear h h1
    go_enter Try.func59, Try.ntmps59
    go_wp2
    go_ret
    exact ⟨rfl, ((Below.refl _ _).alloc (Nat.le_refl _) _).alloc (by simp) _⟩
theorem eqlink_same (w : World) (x y : Int) : Calls Try.prog 59 #[.agg #[.int .i64 x, .int .i64 y], .agg #[.int .i64 x, .int .i64 y]] w (Says w true) := eqlink w x y x y true (by simp)
set_option maxRecDepth 100000 in
theorem tolinks (w : World) (D : Nat) (A : Option Addr) (n c : Nat) (l : List (Int × Int)) (h : Sl w D 2 A n c (sv l)) (hD : D ≤ w.heap.size) (hn : n ≤ 16777216) :
    Calls Try.prog 23 #[.slice A n c] w fun e w' => (∃ A' c', e = .returned (.slice A' n c') ∧ Own w' w.heap.size 80 2 A' n c' (sv l)) ∧ Below w.heap.size w w' := by
  obtain ⟨i0, hi, hz0, hz1, hz2⟩ := info_parts link_info
  have hlen := h.len
  rw [sv_len] at hlen
  obtain rfl : n = l.length := by omega
  clear hlen
  have hcap := h.cap; have hcapm := h.capm
  go_enter Try.func23, Try.ntmps23
  go_wp2_with (at_make; refine wpList_make_full _ rfl _ _ 24 rfl w.heap.size 80 i0 (.agg #[.int .i64 0, .int .i64 0]) 2 Try.underlying24 hi hz0 hz1 .i64 .i64 _ _ l.length rfl rfl rfl rfl (by rw [hz2]; omega) (by unfold maxLen; omega) (Nat.le_refl _) ?_; intro w1 hown hgrow)
  obtain ⟨ys, hys⟩ : ∃ ys : List Value, ys = (madeCells (Value.agg #[.int .i64 0, .int .i64 0]).cells (l.length * 2)).toList := ⟨_, rfl⟩
  have hown1 : Hid (Own w1 w.heap.size 80 2 (some ⟨w.heap.size, 0, none⟩) l.length l.length ((sv l).take (0 * 2) ++ ys.drop (0 * 2))) := by
    refine Lib.hid ⟨?_⟩
    rw [hys]
    simpa using hown
  have hyl : Hid (ys.length = (sv l).length) := Lib.hid (by have := hown1.out.len; rw [sv_len]; simpa using this)
  have hb1 : Hid (Below w.heap.size w w1) := Lib.hid ((Below.refl _ _).grown hgrow (Nat.le_refl _) (fun k hk => by cases hk))
  clear hown hgrow hi hz0 hz1 hz2 hys
  go_loopw [4] (fun i wr => ∃ k : Nat, k ≤ l.length ∧ i = .int .i64 k ∧ Own wr w.heap.size 80 2 (some ⟨w.heap.size, 0, none⟩) l.length l.length ((sv l).take (k * 2) ++ ys.drop (k * 2)) ∧ Below w.heap.size w wr)
    (fun i _ => l.length - (intOf i).toNat)
  case atStart => exact ⟨0, Nat.zero_le _, rfl, hown1.out, hb1.out⟩
  case round =>
    clear hown1 hb1
    obtain ⟨k, hk, rfl, hown, hb⟩ := hrel
    by_cases hlt : k < l.length
    · obtain ⟨ad, hx, rfl, had, hc0, hc1⟩ := (h.below hb hD).two hlt
      have g0 := Lib.hid (sv_get0 l k hx); have g1 := Lib.hid (sv_get1 l k hx)
      obtain ⟨x, hxx⟩ : ∃ x, x = l[k].1 := ⟨_, rfl⟩
      obtain ⟨y, hy⟩ : ∃ y, y = l[k].2 := ⟨_, rfl⟩
      rw [← hxx] at hc0 g0; rw [← hy] at hc1 g1
      have HO := Lib.hid hown; have HB := Lib.hid hb
      clear hxx hy hown hb
      go_wp2_with fail
      refine (tolink _ x y).mono ?_
      rintro e w2 ⟨rfl, b2⟩
      have O2 := HO.out.on b2
      have B2 := HB.out.trans (b2.mono HB.out.size)
      obtain ⟨u0, hu0⟩ := O2.cell2 (k * 2) (by omega)
      obtain ⟨u1, hu1⟩ := O2.cell2 (k * 2 + 1) (by omega)
      have hf0 := O2.row.frozenAt (k * 2)
      have hf1 := O2.row.frozenAt (k * 2 + 1)
      have hfin := Lib.hid (O2.fill2 (hyl.out) (by rw [sv_len]; omega) g0.out g1.out)
      have hBf := Lib.hid (O2.below B2 B2.size hfin.out.2)
      have hOf := Lib.hid hfin.out.1
      clear hfin O2 B2 b2 HO HB
      go_wp2
      go_roundw
      case rel => exact ⟨k + 1, by omega, by go_num, hOf.out, hBf.out⟩
      case measure => simp [intOf]; omega
    · have hfin : Own wr w.heap.size 80 2 (some ⟨w.heap.size, 0, none⟩) l.length l.length (sv l) := by
        have e : k = l.length := by omega
        subst e
        have e1 : (sv l).take (l.length * 2) = sv l := List.take_of_length_le (by rw [sv_len]; omega)
        have e2 : ys.drop (l.length * 2) = [] := List.drop_of_length_le (by rw [hyl.out, sv_len]; omega)
        rw [e1, e2, List.append_nil] at hown
        exact hown
      have HF := Lib.hid hfin; clear hfin hown
      go_wp2
      go_ret
      exact ⟨⟨_, _, rfl, HF.out⟩, hb⟩
set_option maxRecDepth 100000 in
theorem eqlinks (w : World) (D D' : Nat) (A A' : Option Addr) (n n' c c' : Nat) (l : List (Int × Int)) (h : Sl w D 2 A n c (sv l)) (h' : Sl w D' 2 A' n' c' (sv l)) (hD : D ≤ w.heap.size) (hD' : D' ≤ w.heap.size) :
    Calls Try.prog 25 #[.slice A n c, .slice A' n' c'] w fun e w' => e = .returned (.bool true) ∧ Below w.heap.size w w' := by
  have hlen := h.len
  rw [sv_len] at hlen
  obtain rfl : n = l.length := by omega
  obtain rfl : n' = l.length := by have := h'.len; rw [sv_len] at this; omega
  clear hlen
  have hcap := h.cap; have hcapm := h.capm
  go_enter Try.func25, Try.ntmps25
  go_wp2
  go_loopw [5] (fun i wr => ∃ k : Nat, k ≤ l.length ∧ i = .int .i64 k ∧ Below w.heap.size w wr) (fun i _ => l.length - (intOf i).toNat)
  case atStart => exact ⟨0, Nat.zero_le _, rfl, Below.refl _ _⟩
  case round =>
    obtain ⟨k, hk2, rfl, hb⟩ := hrel
    by_cases hlt : k < l.length
    · obtain ⟨ad, hx, rfl, had, hc0, hc1⟩ := h.two hlt
      obtain ⟨ad', hx', rfl, had', hd0, hd1⟩ := h'.two hlt
      obtain ⟨x, hxx⟩ : ∃ x, x = l[k].1 := ⟨_, rfl⟩
      obtain ⟨y, hy⟩ : ∃ y, y = l[k].2 := ⟨_, rfl⟩
      rw [← hxx] at hc0 hd0; rw [← hy] at hc1 hd1
      have HC : Hid (∀ {w' : World}, Below w.heap.size w w' → w'.cell? (ad.add (k * 2)) = some (.int .i64 x) ∧ w'.cell? ⟨(ad.add (k * 2)).block, (ad.add (k * 2)).off + 1, none⟩ = some (.int .i64 y) ∧ w'.cell? (ad'.add (k * 2)) = some (.int .i64 x) ∧ w'.cell? ⟨(ad'.add (k * 2)).block, (ad'.add (k * 2)).off + 1, none⟩ = some (.int .i64 y)) :=
        Lib.hid fun hb => by
          have q : (ad.add (k * 2)).block < w.heap.size := by rw [block_of_add]; omega
          have q' : (ad'.add (k * 2)).block < w.heap.size := by rw [block_of_add]; omega
          exact ⟨(hb.cell q).trans hc0, (hb.cell (p := ⟨(ad.add (k * 2)).block, (ad.add (k * 2)).off + 1, none⟩) q).trans hc1, (hb.cell q').trans hd0, (hb.cell (p := ⟨(ad'.add (k * 2)).block, (ad'.add (k * 2)).off + 1, none⟩) q').trans hd1⟩
      have HB := Lib.hid hb
      obtain ⟨k0, k1, k2, k3⟩ := HC.out hb
      have f1 : (0 : Int) ≤ (k : Int) := by omega
      have f2 : (k : Int) < (l.length : Int) := by omega
      clear hxx hy hc0 hc1 hd0 hd1 hb
      go_wp2_with fail
      go_region_held3 (fun w' => w'.cell? (ad.add (k * 2)) = some (.int .i64 x) ∧ w'.cell? ⟨(ad.add (k * 2)).block, (ad.add (k * 2)).off + 1, none⟩ = some (.int .i64 y) ∧ w'.cell? (ad'.add (k * 2)) = some (.int .i64 x) ∧ w'.cell? ⟨(ad'.add (k * 2)).block, (ad'.add (k * 2)).off + 1, none⟩ = some (.int .i64 y)) (first | exact ⟨k0, k1, k2, k3⟩ | exact hcA | go_keep) (first
        | (go_at_call 59; refine (eqlink_same _ x y).mono ?_; rintro e wA ⟨rfl, bA⟩; have HBA : Hid (Below w.heap.size w wA) := Lib.hid (by first | exact HB.out.drew.trans (bA.mono HB.out.size) | exact HB.out.trans (bA.mono HB.out.size)); have hcA := HC.out HBA.out; clear bA))
      go_wp2
      go_roundw
      case rel => exact ⟨k + 1, by omega, by go_num, HBA.out⟩
      case measure => simp [intOf]; omega
    · go_wp2
      go_ret
      exact ⟨rfl, hb⟩
set_option maxRecDepth 100000 in
theorem marklinks (w : World) (B : Nat) (A : Option Addr) (n c : Nat) (xs : List Value) (h : Own w B 80 2 A n c xs) (a : Int) (ha0 : 0 ≤ a) (ha : a + n * 2 ≤ 1000000000000) :
    Calls Try.prog 26 #[.slice A n c, .int .i64 a] w fun e w' => e = .returned (.int .i64 (a + n * 2)) ∧ Own w' B 80 2 A n c (marks64 a (n * 2)) ∧ w.grownBy w' (Value.slice A n c).ownBlock := by
  have hlen := Lib.hid h.len
  have hcap := h.capm
  have h0 : Hid (Own w B 80 2 A n c ((marks64 a (n * 2)).take (0 * 2) ++ xs.drop (0 * 2))) := Lib.hid (by simpa using h)
  clear h
  go_enter Try.func26, Try.ntmps26
  go_wp2
  go_loopw [1, 5] (fun m i wr => ∃ k : Nat, k ≤ n ∧ i = .int .i64 k ∧ m = .int .i64 (a + k * 2) ∧ Own wr B 80 2 A n c ((marks64 a (n * 2)).take (k * 2) ++ xs.drop (k * 2)) ∧ w.grownBy wr (Value.slice A n c).ownBlock)
    (fun _ i _ => n - (intOf i).toNat)
  case atStart => exact ⟨0, Nat.zero_le _, rfl, by simp, h0.out, World.grownBy.refl _ _⟩
  case round =>
    clear h0
    obtain ⟨k, hk, rfl, rfl, hown, hg⟩ := hrel
    by_cases hlt : k < n
    · rcases hown.form with ⟨_, h0, _⟩ | ⟨g, rfl, hBg, hgl, _⟩
      · omega
      · obtain ⟨u0, hu0⟩ := hown.cell2 (k * 2) (by omega)
        obtain ⟨u1, hu1⟩ := hown.cell2 (k * 2 + 1) (by omega)
        have hf0 := hown.row.frozenAt (k * 2)
        have hf1 := hown.row.frozenAt (k * 2 + 1)
        have m0 : (marks64 a (n * 2))[k * 2]? = some (.int .i64 (a + k * 2)) := by rw [marks64_at _ _ _ (by omega)]; congr 2 <;> omega
        have m1 : (marks64 a (n * 2))[k * 2 + 1]? = some (.int .i64 (a + k * 2 + 1)) := by rw [marks64_at _ _ _ (by omega)]; congr 2 <;> omega
        have hfin := Lib.hid (hown.fill2 (M := marks64 a (n * 2)) (by rw [hlen.out, marks64_len]) (by rw [marks64_len]; omega) m0 m1)
        have hO := Lib.hid hfin.out.1
        have hG := Lib.hid (hg.trans hfin.out.2)
        clear hfin hown hg m0 m1
        go_wp2
        go_roundw
        case rel => exact ⟨k + 1, by omega, by go_num, by go_num, hO.out, hG.out⟩
        case measure => simp [intOf]; omega
    · obtain rfl : k = n := by omega
      have e1 : (marks64 a (k * 2)).take (k * 2) ++ xs.drop (k * 2) = marks64 a (k * 2) := by
        rw [List.take_of_length_le (by rw [marks64_len]; omega), List.drop_of_length_le (by rw [hlen.out]; omega), List.append_nil]
      rw [e1] at hown
      clear e1
      go_wp2
      go_ret
      exact ⟨rfl, hown, hg⟩
theorem szlinks (w : World) (A : Option Addr) (n c : Nat) (z : Int) (hz0 : 0 ≤ z) (hz : z ≤ 1048576) (hn : n ≤ 9223372036854775807) :
    Calls Try.prog 21 #[.slice A n c, .int .i64 z] w fun e w' => e = .returned (.int .i64 (if z < n then -1 else z - n)) ∧ w = w' := by
  by_cases h : z < (n : Int)
  · rw [if_pos h]
    have h' : z - (n : Int) < 0 := by omega
    go_enter Try.func21, Try.ntmps21
    go_wp2
    go_ret
    exact ⟨rfl, rfl⟩
  · rw [if_neg h]
    have h' : ¬ (z - (n : Int) < 0) := by omega
    go_enter Try.func21, Try.ntmps21
    go_wp2
    go_ret
    exact ⟨rfl, rfl⟩
end Go.Proofs.Ytjobjjmeneddnaa
