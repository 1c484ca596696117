/- The contracts of the laws' own helpers on slices of spans: copies, comparisons, marks. -/
import Derived.Test.YtfnhfpahdgbfgaaSpanPut
import Derived.Test.YtfnhfpahdgbfgaaCopies
import Derived.Deep.QuietTactic
import Derived.BigQuiet
import Derived.Deep.RegionHeld3
namespace Go.Proofs.Ytfnhfpahdgbfgaa
open Go.ChangeShapes Go.WideShapes Go.ChangeAt Go.RowKit
set_option linter.unusedVariables false
theorem eqspan (w : World) (x y x' y' : Int) (b : Bool) (h : decide (x = x' ∧ y = y') = b) :
    Calls Try.prog 53 #[.agg #[.int .i64 x, .int .i64 y], .agg #[.int .i64 x', .int .i64 y']] w (Says w b) := by
  by_cases h1 : x = x'
  · subst h1
    by_cases h2 : y = y'
    · subst h2
      obtain rfl : b = true := by rw [← h]; simp
      clear h
      go_enter Try.func53, Try.ntmps53
      go_wp2
      go_ret
      exact ⟨rfl, ((Below.refl _ _).alloc (Nat.le_refl _) _).alloc (by simp) _⟩
    · obtain rfl : b = false := by rw [← h]; simp [h2]
      have h2' : (y == y') = false := by simpa using h2
      have h2'' : (y != y') = true := by simpa using h2
      clear h h2
      go_enter Try.func53, Try.ntmps53
      go_wp2
      go_ret
      exact ⟨rfl, ((Below.refl _ _).alloc (Nat.le_refl _) _).alloc (by simp) _⟩
  · obtain rfl : b = false := by rw [← h]; simp [h1]
    have h2' : (x == x') = false := by simpa using h1
    have h2'' : (x != x') = true := by simpa using h1
    clear h h1
    go_enter Try.func53, Try.ntmps53
    go_wp2
    go_ret
    exact ⟨rfl, ((Below.refl _ _).alloc (Nat.le_refl _) _).alloc (by simp) _⟩
theorem eqspan_same (w : World) (x y : Int) : Calls Try.prog 53 #[.agg #[.int .i64 x, .int .i64 y], .agg #[.int .i64 x, .int .i64 y]] w (Says w true) := eqspan w x y x y true (by simp)
theorem Own.fill2 {w : World} {B : Nat} {E : TypeId} {g n c : Nat} {M xs : List Value} {k : Nat} {u v : Value} (h : Own w B E 2 (some ⟨g, 0, none⟩) n c (M.take (k * 2) ++ xs.drop (k * 2))) (hl : xs.length = M.length) (hk : k * 2 + 1 < M.length)
    (hu : M[k * 2]? = some u) (hv : M[k * 2 + 1]? = some v) :
    Own ((w.setCell ⟨g, k * 2, none⟩ u).setCell ⟨g, k * 2 + 1, none⟩ v) B E 2 (some ⟨g, 0, none⟩) n c (M.take ((k + 1) * 2) ++ xs.drop ((k + 1) * 2)) ∧
      w.grownBy ((w.setCell ⟨g, k * 2, none⟩ u).setCell ⟨g, k * 2 + 1, none⟩ v) (some g) := by
  have eu : u = M[k * 2] := by rw [List.getElem?_eq_getElem (by omega)] at hu; exact (Option.some.inj hu).symm
  have ev : v = M[k * 2 + 1] := by rw [List.getElem?_eq_getElem hk] at hv; exact (Option.some.inj hv).symm
  have h1 := h.row.stored (k * 2) u
  rw [eu, fill_set M xs (k * 2) hl (by omega), ← eu] at h1
  have h2 := h1.1.stored (k * 2 + 1) v
  rw [ev, fill_set M xs (k * 2 + 1) hl hk, ← ev] at h2
  refine ⟨⟨?_⟩, h1.2.trans h2.2⟩
  have e : (k + 1) * 2 = k * 2 + 1 + 1 := by omega
  rw [e]; exact h2.1
theorem Own.cell2 {w : World} {B : Nat} {E : TypeId} {g n c : Nat} {xs : List Value} (h : Own w B E 2 (some ⟨g, 0, none⟩) n c xs) (j : Nat) (hj : j < n * 2) : ∃ u, w.cell? ⟨g, j, none⟩ = some u := by
  have := h.row.cellAt j hj
  rw [this]
  exact ⟨xs[j]'(by have := h.len; omega), List.getElem?_eq_getElem _⟩
set_option maxRecDepth 100000 in
theorem eqspans (w : World) (D D' : Nat) (A A' : Option Addr) (n n' c c' : Nat) (l : List (Int × Int)) (h : Sl w D 2 A n c (sv l)) (h' : Sl w D' 2 A' n' c' (sv l)) (hD : D ≤ w.heap.size) (hD' : D' ≤ w.heap.size) :
    Calls Try.prog 29 #[.slice A n c, .slice A' n' c'] w fun e w' => e = .returned (.bool true) ∧ Below w.heap.size w w' := by
  have hlen := h.len
  rw [sv_len] at hlen
  obtain rfl : n = l.length := by omega
  obtain rfl : n' = l.length := by have := h'.len; rw [sv_len] at this; omega
  clear hlen
  have hcap := h.cap; have hcapm := h.capm
  go_enter Try.func29, Try.ntmps29
  go_wp2
  go_loopw [5] (fun i wr => ∃ k : Nat, k ≤ l.length ∧ i = .int .i64 k ∧ Below w.heap.size w wr) (fun i _ => l.length - (intOf i).toNat)
  case atStart => exact ⟨0, Nat.zero_le _, rfl, Below.refl _ _⟩
  case round =>
    obtain ⟨k, hk2, rfl, hb⟩ := hrel
    by_cases hlt : k < l.length
    · obtain ⟨ad, hx, rfl, had, hc0, hc1⟩ := h.two hlt
      obtain ⟨ad', hx', rfl, had', hd0, hd1⟩ := h'.two hlt
      obtain ⟨x, hxx⟩ : ∃ x, x = l[k].1 := ⟨_, rfl⟩
      obtain ⟨y, hy⟩ : ∃ y, y = l[k].2 := ⟨_, rfl⟩
      rw [← hxx] at hc0 hd0; rw [← hy] at hc1 hd1
      have HC : Hid (∀ {w' : World}, Below w.heap.size w w' → w'.cell? (ad.add (k * 2)) = some (.int .i64 x) ∧ w'.cell? ⟨(ad.add (k * 2)).block, (ad.add (k * 2)).off + 1, none⟩ = some (.int .i64 y) ∧ w'.cell? (ad'.add (k * 2)) = some (.int .i64 x) ∧ w'.cell? ⟨(ad'.add (k * 2)).block, (ad'.add (k * 2)).off + 1, none⟩ = some (.int .i64 y)) :=
        Lib.hid fun hb => by
          have q : (ad.add (k * 2)).block < w.heap.size := by rw [block_of_add]; omega
          have q' : (ad'.add (k * 2)).block < w.heap.size := by rw [block_of_add]; omega
          exact ⟨(hb.cell q).trans hc0, (hb.cell (p := ⟨(ad.add (k * 2)).block, (ad.add (k * 2)).off + 1, none⟩) q).trans hc1, (hb.cell q').trans hd0, (hb.cell (p := ⟨(ad'.add (k * 2)).block, (ad'.add (k * 2)).off + 1, none⟩) q').trans hd1⟩
      have HB := Lib.hid hb
      obtain ⟨k0, k1, k2, k3⟩ := HC.out hb
      have f1 : (0 : Int) ≤ (k : Int) := by omega
      have f2 : (k : Int) < (l.length : Int) := by omega
      clear hxx hy hc0 hc1 hd0 hd1 hb
      go_wp2_with fail
      go_region_held3 (fun w' => w'.cell? (ad.add (k * 2)) = some (.int .i64 x) ∧ w'.cell? ⟨(ad.add (k * 2)).block, (ad.add (k * 2)).off + 1, none⟩ = some (.int .i64 y) ∧ w'.cell? (ad'.add (k * 2)) = some (.int .i64 x) ∧ w'.cell? ⟨(ad'.add (k * 2)).block, (ad'.add (k * 2)).off + 1, none⟩ = some (.int .i64 y)) (first | exact ⟨k0, k1, k2, k3⟩ | exact hcA | go_keep) (first
        | (go_at_call 53; refine (eqspan_same _ x y).mono ?_; rintro e wA ⟨rfl, bA⟩; have HBA : Hid (Below w.heap.size w wA) := Lib.hid (by first | exact HB.out.drew.trans (bA.mono HB.out.size) | exact HB.out.trans (bA.mono HB.out.size)); have hcA := HC.out HBA.out; clear bA))
      go_wp2
      go_roundw
      case rel => exact ⟨k + 1, by omega, by go_num, HBA.out⟩
      case measure => simp [intOf]; omega
    · go_wp2
      go_ret
      exact ⟨rfl, hb⟩
theorem marks64_at (a : Int) (n k : Nat) (h : k < n) : (marks64 a n)[k]? = some (.int .i64 (a + k)) := by
  rw [List.getElem?_eq_getElem (by rw [marks64_len]; exact h), marks64_get]
set_option maxRecDepth 100000 in
theorem markspans (w : World) (B : Nat) (A : Option Addr) (n c : Nat) (xs : List Value) (h : Own w B 30 2 A n c xs) (a : Int) (ha0 : 0 ≤ a) (ha : a + n * 2 ≤ 1000000000000) :
    Calls Try.prog 30 #[.slice A n c, .int .i64 a] w fun e w' => e = .returned (.int .i64 (a + n * 2)) ∧ Own w' B 30 2 A n c (marks64 a (n * 2)) ∧ w.grownBy w' (Value.slice A n c).ownBlock := by
  have hlen := Lib.hid h.len
  have hcap := h.capm
  have h0 : Hid (Own w B 30 2 A n c ((marks64 a (n * 2)).take (0 * 2) ++ xs.drop (0 * 2))) := Lib.hid (by simpa using h)
  clear h
  go_enter Try.func30, Try.ntmps30
  go_wp2
  go_loopw [1, 5] (fun m i wr => ∃ k : Nat, k ≤ n ∧ i = .int .i64 k ∧ m = .int .i64 (a + k * 2) ∧ Own wr B 30 2 A n c ((marks64 a (n * 2)).take (k * 2) ++ xs.drop (k * 2)) ∧ w.grownBy wr (Value.slice A n c).ownBlock)
    (fun _ i _ => n - (intOf i).toNat)
  case atStart => exact ⟨0, Nat.zero_le _, rfl, by simp, h0.out, World.grownBy.refl _ _⟩
  case round =>
    clear h0
    obtain ⟨k, hk, rfl, rfl, hown, hg⟩ := hrel
    by_cases hlt : k < n
    · rcases hown.form with ⟨_, h0, _⟩ | ⟨g, rfl, hBg, hgl, _⟩
      · omega
      · obtain ⟨u0, hu0⟩ := hown.cell2 (k * 2) (by omega)
        obtain ⟨u1, hu1⟩ := hown.cell2 (k * 2 + 1) (by omega)
        have hf0 := hown.row.frozenAt (k * 2)
        have hf1 := hown.row.frozenAt (k * 2 + 1)
        have m0 : (marks64 a (n * 2))[k * 2]? = some (.int .i64 (a + k * 2)) := by rw [marks64_at _ _ _ (by omega)]; congr 2 <;> omega
        have m1 : (marks64 a (n * 2))[k * 2 + 1]? = some (.int .i64 (a + k * 2 + 1)) := by rw [marks64_at _ _ _ (by omega)]; congr 2 <;> omega
        have hfin := Lib.hid (hown.fill2 (M := marks64 a (n * 2)) (by rw [hlen.out, marks64_len]) (by rw [marks64_len]; omega) m0 m1)
        have hO := Lib.hid hfin.out.1
        have hG := Lib.hid (hg.trans hfin.out.2)
        clear hfin hown hg m0 m1
        go_wp2
        go_roundw
        case rel => exact ⟨k + 1, by omega, by go_num, by go_num, hO.out, hG.out⟩
        case measure => simp [intOf]; omega
    · obtain rfl : k = n := by omega
      have e1 : (marks64 a (k * 2)).take (k * 2) ++ xs.drop (k * 2) = marks64 a (k * 2) := by
        rw [List.take_of_length_le (by rw [marks64_len]; omega), List.drop_of_length_le (by rw [hlen.out]; omega), List.append_nil]
      rw [e1] at hown
      clear e1
      go_wp2
      go_ret
      exact ⟨rfl, hown, hg⟩
set_option maxRecDepth 100000 in
theorem heldspans (w : World) (D : Nat) (A : Option Addr) (n c : Nat) (a : Int) (h : Sl w D 2 A n c (marks64 a (n * 2))) (ha0 : 0 ≤ a) (ha : a + n * 2 ≤ 1000000000000) :
    Calls Try.prog 31 #[.slice A n c, .int .i64 a] w fun e w' => e = .returned (.int .i64 (a + n * 2)) ∧ w = w' := by
  have hcap := h.cap; have hcapm := h.capm
  go_enter Try.func31, Try.ntmps31
  go_wp2
  go_loop [1, 5] (fun m i => ∃ k : Nat, k ≤ n ∧ i = .int .i64 k ∧ m = .int .i64 (a + k * 2)) (fun _ i => n - (intOf i).toNat)
  case atStart => exact ⟨0, Nat.zero_le _, rfl, by simp⟩
  case round =>
    obtain ⟨k, hk, rfl, rfl⟩ := hrel
    by_cases hlt : k < n
    · obtain ⟨ad, e, had, hc⟩ := h.rd (by rw [marks64_len]; omega)
      subst e
      have hc0 : w.cell? (ad.add (k * 2)) = some (.int .i64 (a + k * 2)) := hc _ _ (by rw [marks64_at _ _ _ (by omega)]; congr 2 <;> omega)
      have hc1 : w.cell? ⟨(ad.add (k * 2)).block, (ad.add (k * 2)).off + 1, none⟩ = some (.int .i64 (a + k * 2 + 1)) := by
        rw [add_two]; exact hc _ _ (by rw [marks64_at _ _ _ (by omega)]; congr 2 <;> omega)
      clear hc
      go_wp2
      go_round
      case rel => exact ⟨k + 1, by omega, by go_num, by go_num⟩
      case measure => simp [intOf]; omega
    · obtain rfl : k = n := by omega
      go_wp2
      go_ret
      exact ⟨rfl, rfl⟩
end Go.Proofs.Ytfnhfpahdgbfgaa
