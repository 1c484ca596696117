/- The laws' own helpers on contacts: copies, sizes, comparisons. -/
import Derived.Test.YtfnhfpahdgbfgaaCopies
import Derived.Test.YtfnhfpahdgbfgaaSpan
import Derived.Deep.RegionHeld3
import Derived.Deep.QuietTactic
import Derived.BigQuiet
import Derived.Test.YtfnhfpahdgbfgaaContactFacts
namespace Go.Proofs.Ytfnhfpahdgbfgaa
open Go.ChangeShapes Go.WideShapes Go.ChangeAt Go.RowKit
set_option linter.unusedVariables false
theorem tocontact4 (w : World) (x y z u : Int) :
    Calls Try.prog 47 #[.agg #[.int .i64 x, .int .i64 y, .int .i64 z, .int .i64 u]] w fun e w' => e = .returned (.agg #[.int .i64 x, .int .i64 y, .int .i64 z, .int .i64 u]) ∧ Below w.heap.size w w' := by
  go_enter Try.func47, Try.ntmps47
  go_wp2
  refine bodyPost_ret (v := .agg #[.int .i64 x, .int .i64 y, .int .i64 z, .int .i64 u]) (by simp [results, Try.results47, go_sem]) rfl ⟨rfl, ?_⟩
  exact (((Below.refl _ _).alloc (Nat.le_refl _) _).alloc (by simp) _).alloc (by simp; omega) _
set_option maxRecDepth 100000 in
theorem tocontacts (w : World) (D : Nat) (A : Option Addr) (n c : Nat) (l : List Sat4) (h : Sl w D 4 A n c (fl c4 l)) (hD : D ≤ w.heap.size) (hn : n ≤ 16777216) :
    Calls Try.prog 19 #[.slice A n c] w fun e w' => (∃ A' c', e = .returned (.slice A' n c') ∧ Own w' w.heap.size 62 4 A' n c' (fl c4 l)) ∧ Below w.heap.size w w' := by
  obtain ⟨i0, hi, hz0, hz1, hz2⟩ := info_parts contact_info
  obtain rfl : n = l.length := h.num c4_len (by omega)
  have hcap := h.cap; have hcapm := h.capm
  go_enter Try.func19, Try.ntmps19
  go_wp2_with (at_make; refine wpList_make_full _ rfl _ _ 24 rfl w.heap.size 62 i0 (.agg #[.int .i64 0, .int .i64 0, .int .i64 0, .int .i64 0]) 4 Try.underlying24 hi hz0 hz1 .i64 .i64 _ _ l.length rfl rfl rfl rfl (by rw [hz2]; omega) (by unfold maxLen; omega) (Nat.le_refl _) ?_; intro w1 hown hgrow)
  obtain ⟨ys, hys⟩ : ∃ ys : List Value, ys = (madeCells (Value.agg #[.int .i64 0, .int .i64 0, .int .i64 0, .int .i64 0]).cells (l.length * 4)).toList := ⟨_, rfl⟩
  have hown1 : Hid (Own w1 w.heap.size 62 4 (some ⟨w.heap.size, 0, none⟩) l.length l.length ((fl c4 l).take (0 * 4) ++ ys.drop (0 * 4))) := by
    refine Lib.hid ⟨?_⟩
    rw [hys]
    simpa using hown
  have hyl : Hid (ys.length = (fl c4 l).length) := Lib.hid (by have := hown1.out.len; rw [fl_len c4_len]; simpa using this)
  have hb1 : Hid (Below w.heap.size w w1) := Lib.hid ((Below.refl _ _).grown hgrow (Nat.le_refl _) (fun k hk => by cases hk))
  clear hown hgrow hi hz0 hz1 hz2 hys
  go_loopw [4] (fun i wr => ∃ k : Nat, k ≤ l.length ∧ i = .int .i64 k ∧ Own wr w.heap.size 62 4 (some ⟨w.heap.size, 0, none⟩) l.length l.length ((fl c4 l).take (k * 4) ++ ys.drop (k * 4)) ∧ Below w.heap.size w wr)
    (fun i _ => l.length - (intOf i).toNat)
  case atStart => exact ⟨0, Nat.zero_le _, rfl, hown1.out, hb1.out⟩
  case round =>
    clear hown1 hb1
    obtain ⟨k, hk, rfl, hown, hb⟩ := hrel
    by_cases hlt : k < l.length
    · obtain ⟨ad, hx, rfl, had, hc0, hc1, hc2, hc3⟩ := (h.below hb hD).four hlt
      have g0 := Lib.hid (fl_get c4_len l k hx 0 (by omega)); have g1 := Lib.hid (fl_get c4_len l k hx 1 (by omega)); have g2 := Lib.hid (fl_get c4_len l k hx 2 (by omega)); have g3 := Lib.hid (fl_get c4_len l k hx 3 (by omega))
      obtain ⟨e, he⟩ : ∃ e, e = l[k] := ⟨_, rfl⟩
      rw [← he] at hc0 hc1 hc2 hc3 g0 g1 g2 g3
      obtain ⟨x, y, z, u⟩ := e
      simp only at hc0 hc1 hc2 hc3
      have HO := Lib.hid hown; have HB := Lib.hid hb
      clear he hown hb
      go_wp2_with fail
      refine (tocontact4 _ x y z u).mono ?_
      rintro e w2 ⟨rfl, b2⟩
      have O2 := HO.out.on b2
      have B2 := HB.out.trans (b2.mono HB.out.size)
      obtain ⟨u0, hu0⟩ := O2.cellS (k * 4) (by omega)
      obtain ⟨u1, hu1⟩ := O2.cellS (k * 4 + 1) (by omega)
      obtain ⟨u2, hu2⟩ := O2.cellS (k * 4 + 2) (by omega)
      obtain ⟨u3, hu3⟩ := O2.cellS (k * 4 + 3) (by omega)
      have hf0 := O2.row.frozenAt (k * 4)
      have hf1 := O2.row.frozenAt (k * 4 + 1)
      have hf2 := O2.row.frozenAt (k * 4 + 2)
      have hf3 := O2.row.frozenAt (k * 4 + 3)
      have hfin := Lib.hid (O2.fill4 (hyl.out) (by rw [fl_len c4_len]; omega) g0.out g1.out g2.out g3.out)
      have hBf := Lib.hid (O2.below B2 B2.size hfin.out.2)
      have hOf := Lib.hid hfin.out.1
      clear hfin O2 B2 b2 HO HB
      go_wp2
      go_roundw
      case rel => exact ⟨k + 1, by omega, by go_num, hOf.out, hBf.out⟩
      case measure => simp [intOf]; omega
    · have hfin : Own wr w.heap.size 62 4 (some ⟨w.heap.size, 0, none⟩) l.length l.length (fl c4 l) := by
        have e : k = l.length := by omega
        subst e
        have e1 : (fl c4 l).take (l.length * 4) = fl c4 l := List.take_of_length_le (by rw [fl_len c4_len]; omega)
        have e2 : ys.drop (l.length * 4) = [] := List.drop_of_length_le (by rw [hyl.out, fl_len c4_len]; omega)
        rw [e1, e2, List.append_nil] at hown
        exact hown
      have HF := Lib.hid hfin; clear hfin hown
      go_wp2
      go_ret
      exact ⟨⟨_, _, rfl, HF.out⟩, hb⟩
theorem szcontacts (w : World) (A : Option Addr) (n c : Nat) (z : Int) (hz0 : 0 ≤ z) (hz : z ≤ 1048576) (hn : n ≤ 9223372036854775807) :
    Calls Try.prog 17 #[.slice A n c, .int .i64 z] w fun e w' => e = .returned (.int .i64 (if z < n then -1 else z - n)) ∧ w = w' := by
  by_cases h : z < (n : Int)
  · rw [if_pos h]
    have h' : z - (n : Int) < 0 := by omega
    go_enter Try.func17, Try.ntmps17
    go_wp2
    go_ret
    exact ⟨rfl, rfl⟩
  · rw [if_neg h]
    have h' : ¬ (z - (n : Int) < 0) := by omega
    go_enter Try.func17, Try.ntmps17
    go_wp2
    go_ret
    exact ⟨rfl, rfl⟩
theorem eqcontact_same (w : World) (x y z u : Int) : Calls Try.prog 49 #[.agg #[.int .i64 x, .int .i64 y, .int .i64 z, .int .i64 u], .agg #[.int .i64 x, .int .i64 y, .int .i64 z, .int .i64 u]] w (Says w true) := by
  go_enter Try.func49, Try.ntmps49
  go_wp2
  go_ret
  exact ⟨rfl, ((Below.refl _ _).alloc (Nat.le_refl _) _).alloc (by simp) _⟩
set_option maxRecDepth 100000 in
theorem eqcontacts (w : World) (D D' : Nat) (A A' : Option Addr) (n c c' : Nat) (l : List Sat4) (h : Sl w D 4 A n c (fl c4 l)) (h' : Sl w D' 4 A' n c' (fl c4 l)) (hD : D ≤ w.heap.size) (hD' : D' ≤ w.heap.size) :
    Calls Try.prog 21 #[.slice A n c, .slice A' n c'] w fun e w' => e = .returned (.bool true) ∧ Below w.heap.size w w' := by
  obtain rfl : n = l.length := h.num c4_len (by omega)
  have hcap := h.cap; have hcapm := h.capm
  go_enter Try.func21, Try.ntmps21
  go_wp2
  go_loopw [5] (fun i wr => ∃ k : Nat, k ≤ l.length ∧ i = .int .i64 k ∧ Below w.heap.size w wr) (fun i _ => l.length - (intOf i).toNat)
  case atStart => exact ⟨0, Nat.zero_le _, rfl, Below.refl _ _⟩
  case round =>
    obtain ⟨k, hk2, rfl, hb⟩ := hrel
    by_cases hlt : k < l.length
    · have HC : Hid (∀ {w' : World}, Below w.heap.size w w' → _) := Lib.hid fun hb => And.intro ((h.below hb hD).four hlt) ((h'.below hb hD').four hlt)
      obtain ⟨ad, hx, rfl, had, -⟩ := h.four hlt
      obtain ⟨ad', hx', rfl, had', -⟩ := h'.four hlt
      obtain ⟨e, he⟩ : ∃ e, e = l[k] := ⟨_, rfl⟩
      have HC2 : Hid (∀ {w' : World}, Below w.heap.size w w' → (w'.cell? (ad.add (k * 4)) = some (.int .i64 e.p) ∧ w'.cell? ⟨(ad.add (k * 4)).block, (ad.add (k * 4)).off + 1, none⟩ = some (.int .i64 e.h) ∧ w'.cell? ⟨(ad.add (k * 4)).block, (ad.add (k * 4)).off + 2, none⟩ = some (.int .i64 e.v) ∧ w'.cell? ⟨(ad.add (k * 4)).block, (ad.add (k * 4)).off + 3, none⟩ = some (.int .i64 e.e)) ∧
          w'.cell? (ad'.add (k * 4)) = some (.int .i64 e.p) ∧ w'.cell? ⟨(ad'.add (k * 4)).block, (ad'.add (k * 4)).off + 1, none⟩ = some (.int .i64 e.h) ∧ w'.cell? ⟨(ad'.add (k * 4)).block, (ad'.add (k * 4)).off + 2, none⟩ = some (.int .i64 e.v) ∧ w'.cell? ⟨(ad'.add (k * 4)).block, (ad'.add (k * 4)).off + 3, none⟩ = some (.int .i64 e.e)) := Lib.hid fun hb => by
        obtain ⟨⟨a1, _, e1, _, q0, q1, q2, q3⟩, ⟨a2, _, e2, _, p0, p1, p2, p3⟩⟩ := HC.out hb
        injection e1 with e1; injection e2 with e2
        subst e1 e2
        rw [he]
        exact ⟨⟨q0, q1, q2, q3⟩, p0, p1, p2, p3⟩
      obtain ⟨x, y, z, u⟩ := e
      have HB := Lib.hid hb
      obtain ⟨⟨k0, k1, k2, k3⟩, k4, k5, k6, k7⟩ := HC2.out hb
      simp only at k0 k1 k2 k3 k4 k5 k6 k7
      have f1 : (0 : Int) ≤ (k : Int) := by omega
      have f2 : (k : Int) < (l.length : Int) := by omega
      clear he hb HC
      go_wp2_with fail
      go_region_held3 (fun w' => (w'.cell? (ad.add (k * 4)) = some (.int .i64 x) ∧ w'.cell? ⟨(ad.add (k * 4)).block, (ad.add (k * 4)).off + 1, none⟩ = some (.int .i64 y) ∧ w'.cell? ⟨(ad.add (k * 4)).block, (ad.add (k * 4)).off + 2, none⟩ = some (.int .i64 z) ∧ w'.cell? ⟨(ad.add (k * 4)).block, (ad.add (k * 4)).off + 3, none⟩ = some (.int .i64 u)) ∧
          w'.cell? (ad'.add (k * 4)) = some (.int .i64 x) ∧ w'.cell? ⟨(ad'.add (k * 4)).block, (ad'.add (k * 4)).off + 1, none⟩ = some (.int .i64 y) ∧ w'.cell? ⟨(ad'.add (k * 4)).block, (ad'.add (k * 4)).off + 2, none⟩ = some (.int .i64 z) ∧ w'.cell? ⟨(ad'.add (k * 4)).block, (ad'.add (k * 4)).off + 3, none⟩ = some (.int .i64 u)) (first | exact ⟨⟨k0, k1, k2, k3⟩, k4, k5, k6, k7⟩ | exact hcA | go_keep) (first
        | (go_at_call 49; refine (eqcontact_same _ x y z u).mono ?_; rintro e wA ⟨rfl, bA⟩; have HBA : Hid (Below w.heap.size w wA) := Lib.hid (by first | exact HB.out.drew.trans (bA.mono HB.out.size) | exact HB.out.trans (bA.mono HB.out.size)); have hcA := HC2.out HBA.out; clear bA))
      go_wp2
      go_roundw
      case rel => exact ⟨k + 1, by omega, by go_num, HBA.out⟩
      case measure => simp [intOf]; omega
    · go_wp2
      go_ret
      exact ⟨rfl, hb⟩
theorem eqcontacts2 (w : World) (D D' : Nat) (A A' : Option Addr) (n n' c c' : Nat) (l : List Sat4) (h : Sl w D 4 A n c (fl c4 l)) (h' : Sl w D' 4 A' n' c' (fl c4 l)) (hD : D ≤ w.heap.size) (hD' : D' ≤ w.heap.size) :
    Calls Try.prog 21 #[.slice A n c, .slice A' n' c'] w fun e w' => e = .returned (.bool true) ∧ Below w.heap.size w w' := by
  obtain rfl : n' = n := (h'.num c4_len (by omega)).trans (h.num c4_len (by omega)).symm
  exact eqcontacts w D D' A A' n' c c' l h h' hD hD'
end Go.Proofs.Ytfnhfpahdgbfgaa
