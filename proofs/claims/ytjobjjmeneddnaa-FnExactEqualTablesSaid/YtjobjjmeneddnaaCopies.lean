/- The contracts of the laws' own helpers on slices of bytes and of integers: copies, comparisons, marks. -/
import Derived.Test.YtjobjjmeneddnaaProg
import Derived.Test.YtjobjjmeneddnaaSlices
import Derived.WalkKit
import Derived.ProofKit
import Derived.OpenShut
import Derived.Handy
import Derived.Lib.Hide
import Derived.LoopTactic
import Derived.Deep.QuietTactic
import Derived.BigQuiet
namespace Go.Proofs.Ytjobjjmeneddnaa
open Go.ChangeShapes Go.WideShapes Go.ChangeAt Go.RowKit
set_option linter.unusedVariables false
theorem u8_info : (Try.prog.info? 5).map (fun i => (i.zero, i.size, i.bytes)) = some (some (.int .u8 0), 1, 1) := by kernel_rfl
theorem fill_set (M xs : List Value) (k : Nat) (hl : xs.length = M.length) (hk : k < M.length) : (M.take k ++ xs.drop k).set k M[k] = M.take (k + 1) ++ xs.drop (k + 1) := by
  rw [List.set_append_right _ _ (by rw [List.length_take]; omega), List.length_take, Nat.min_eq_left (by omega), Nat.sub_self, List.drop_eq_getElem_cons (by omega), List.set_cons_zero, List.take_succ_eq_append_getElem hk, List.append_assoc, List.singleton_append]
/-- a store of the next cell into one's own -/
theorem Own.fill {w : World} {B : Nat} {E : TypeId} {g n c : Nat} {M xs : List Value} {k : Nat} (h : Own w B E 1 (some ⟨g, 0, none⟩) n c (M.take k ++ xs.drop k)) (hl : xs.length = M.length) (hk : k < M.length) :
    Own (w.setCell ⟨g, k, none⟩ M[k]) B E 1 (some ⟨g, 0, none⟩) n c (M.take (k + 1) ++ xs.drop (k + 1)) ∧ w.grownBy (w.setCell ⟨g, k, none⟩ M[k]) (some g) := by
  have hs := h.row.stored k M[k]
  rw [fill_set M xs k hl hk] at hs
  exact ⟨⟨hs.1⟩, hs.2⟩
theorem Own.cell {w : World} {B : Nat} {E : TypeId} {g n c : Nat} {xs : List Value} (h : Own w B E 1 (some ⟨g, 0, none⟩) n c xs) (k : Nat) (hk : k < n) : ∃ u, w.cell? ⟨g, k, none⟩ = some u := by
  have := h.row.cellAt k (by omega)
  rw [this]
  exact ⟨xs[k]'(by have := h.len; omega), List.getElem?_eq_getElem _⟩
/-- marks: the numbers from a on, as integers of kind k -/
def marks8 (a : Int) (n : Nat) : List Value := (List.range n).map fun i : Nat => Value.int .u8 ((a + i) % 256)
def marks64 (a : Int) (n : Nat) : List Value := (List.range n).map fun i : Nat => Value.int .i64 (a + i)
theorem marks8_len (a : Int) (n : Nat) : (marks8 a n).length = n := by simp [marks8]
theorem marks64_len (a : Int) (n : Nat) : (marks64 a n).length = n := by simp [marks64]
theorem marks8_get (a : Int) (n k : Nat) (h : k < (marks8 a n).length) : (marks8 a n)[k] = .int .u8 ((a + k) % 256) := by simp [marks8]
theorem marks64_get (a : Int) (n k : Nat) (h : k < (marks64 a n).length) : (marks64 a n)[k] = .int .i64 (a + k) := by simp [marks64]
theorem i64_info : (Try.prog.info? 3).map (fun i => (i.zero, i.size, i.bytes)) = some (some (.int .i64 0), 1, 8) := by kernel_rfl
set_option maxRecDepth 100000 in
theorem toints (w : World) (D : Nat) (A : Option Addr) (n c : Nat) (l : List Int) (h : Sl w D 1 A n c (iv l)) (hD : D ≤ w.heap.size) (hn : n ≤ 16777216) (hl : ∀ z ∈ l, -9223372036854775808 ≤ z ∧ z ≤ 9223372036854775807) :
    Calls Try.prog 63 #[.slice A n c] w fun e w' => (∃ A' c', e = .returned (.slice A' n c') ∧ Own w' w.heap.size 3 1 A' n c' (iv l)) ∧ Below w.heap.size w w' := by
  obtain ⟨i0, hi, hz0, hz1, hz2⟩ := info_parts i64_info
  have hlen := h.len
  rw [iv_len] at hlen
  have Hl := Lib.hid hlen; clear hlen
  have hcap := h.cap; have hcapm := h.capm
  go_enter Try.func63, Try.ntmps63
  go_wp2_with (at_make; refine wpList_make_full _ rfl _ _ 27 rfl w.heap.size 3 i0 (.int .i64 0) 1 Try.underlying27 hi hz0 hz1 .i64 .i64 _ _ n rfl rfl rfl rfl (by rw [hz2]; omega) (by unfold maxLen; omega) (Nat.le_refl _) ?_; intro w1 hown hgrow)
  have hown1 : Hid (Own w1 w.heap.size 3 1 (some ⟨w.heap.size, 0, none⟩) n n ((iv l).take 0 ++ (List.replicate n (Value.int .i64 0)).drop 0)) := by
    refine Lib.hid ⟨?_⟩
    rw [show (Value.int .i64 0).cells = #[Value.int .i64 0] from rfl, toList_madeCells_one, Nat.mul_one] at hown
    simpa using hown
  have hb1 : Hid (Below w.heap.size w w1) := Lib.hid ((Below.refl _ _).grown hgrow (Nat.le_refl _) (fun k hk => by cases hk))
  clear hown hgrow hi hz0 hz1 hz2
  go_loopw [4] (fun i wr => ∃ k : Nat, k ≤ n ∧ i = .int .i64 k ∧ Own wr w.heap.size 3 1 (some ⟨w.heap.size, 0, none⟩) n n ((iv l).take k ++ (List.replicate n (Value.int .i64 0)).drop k) ∧ Below w.heap.size w wr)
    (fun i _ => n - (intOf i).toNat)
  case atStart => exact ⟨0, Nat.zero_le _, rfl, hown1.out, hb1.out⟩
  case round =>
    obtain ⟨k, hk, rfl, hown, hb⟩ := hrel
    by_cases hlt : k < n
    · obtain ⟨ad, hx, rfl, had, hcx⟩ := (h.below hb hD).at_ hlt
      rw [iv_get l k hx] at hcx
      obtain ⟨u, hu⟩ := hown.cell k hlt
      have hf := hown.row.frozenAt k
      have hlk : k < l.length := by rw [Hl.out]; omega
      have hfin := Lib.hid (hown.fill (k := k) (by rw [iv_len, List.length_replicate, Hl.out]; omega) (by rw [iv_len]; exact hlk))
      have hB := Lib.hid (hown.below hb hb.size hfin.out.2)
      have hO := Lib.hid hfin.out.1
      rw [iv_get] at hB hO
      clear hfin hown hb
      go_wp2
      go_roundw
      case rel => exact ⟨k + 1, by omega, by go_num, hO.out, hB.out⟩
      case measure => simp [intOf]; omega
    · have hfin : Own wr w.heap.size 3 1 (some ⟨w.heap.size, 0, none⟩) n n (iv l) := by
        have e : k = n := by omega
        subst e
        have e1 : (iv l).take k = iv l := List.take_of_length_le (by rw [iv_len, Hl.out]; omega)
        rw [e1] at hown
        simpa using hown
      have HF := Lib.hid hfin; clear hfin hown
      go_wp2
      go_ret
      exact ⟨⟨_, _, rfl, HF.out⟩, hb⟩
set_option maxRecDepth 100000 in
theorem eqints (w : World) (D D' : Nat) (A A' : Option Addr) (n n' c c' : Nat) (xs : List Value) (h : Sl w D 1 A n c xs) (h' : Sl w D' 1 A' n' c' xs) (hk : Kind .i64 xs) :
    Calls Try.prog 35 #[.slice A n c, .slice A' n' c'] w fun e w' => e = .returned (.bool true) ∧ Below w.heap.size w w' := by
  obtain rfl : n = n' := by have := h.len; have := h'.len; omega
  have hcap := h.cap; have hcapm := h.capm
  go_enter Try.func35, Try.ntmps35
  go_wp2
  go_loopw [5] (fun i wr => ∃ k : Nat, k ≤ n ∧ i = .int .i64 k ∧ ∃ j : Nat, wr = w.drewN j) (fun i _ => n - (intOf i).toNat)
  case atStart => exact ⟨0, Nat.zero_le _, rfl, 0, rfl⟩
  case round =>
    obtain ⟨k, hk2, rfl, j, rfl⟩ := hrel
    by_cases hlt : k < n
    · obtain ⟨ad, hx, rfl, had, hcx⟩ := h.at_ hlt
      obtain ⟨ad', hx', rfl, had', hcx'⟩ := h'.at_ hlt
      obtain ⟨z, hz, hzb⟩ := hk xs[k] (List.getElem_mem hx)
      rw [hz] at hcx hcx'
      clear hz
      go_wp2
      go_quiet (fail)
      go_wp2
      go_roundw
      case rel => exact ⟨k + 1, by omega, by go_num, _, rfl⟩
      case measure => simp [intOf]; omega
    · go_wp2
      go_ret
      exact ⟨rfl, rfl, rfl, rfl, Nat.le_refl _, fun _ _ => rfl⟩
set_option maxRecDepth 100000 in
theorem markints (w : World) (B : Nat) (A : Option Addr) (n c : Nat) (xs : List Value) (h : Own w B 3 1 A n c xs) (a : Int) (ha0 : 0 ≤ a) (ha : a + n ≤ 1000000000000) :
    Calls Try.prog 36 #[.slice A n c, .int .i64 a] w fun e w' => e = .returned (.int .i64 (a + n)) ∧ Own w' B 3 1 A n c (marks64 a n) ∧ w.grownBy w' (Value.slice A n c).ownBlock := by
  have hlen := Lib.hid h.len
  have hcap := h.capm
  have h0 : Hid (Own w B 3 1 A n c ((marks64 a n).take 0 ++ xs.drop 0)) := Lib.hid (by simpa using h)
  clear h
  go_enter Try.func36, Try.ntmps36
  go_wp2
  go_loopw [1, 5] (fun m i wr => ∃ k : Nat, k ≤ n ∧ i = .int .i64 k ∧ m = .int .i64 (a + k) ∧ Own wr B 3 1 A n c ((marks64 a n).take k ++ xs.drop k) ∧ w.grownBy wr (Value.slice A n c).ownBlock)
    (fun _ i _ => n - (intOf i).toNat)
  case atStart => exact ⟨0, Nat.zero_le _, rfl, by simp, h0.out, World.grownBy.refl _ _⟩
  case round =>
    clear h0
    obtain ⟨k, hk, rfl, rfl, hown, hg⟩ := hrel
    by_cases hlt : k < n
    · rcases hown.form with ⟨_, h0, _⟩ | ⟨g, rfl, hBg, hgl, _⟩
      · omega
      · obtain ⟨u, hu⟩ := hown.cell k hlt
        have hf := hown.row.frozenAt k
        have hlm : k < (marks64 a n).length := by rw [marks64_len]; exact hlt
        have hfin := Lib.hid (hown.fill (M := marks64 a n) (k := k) (by rw [hlen.out, marks64_len, Nat.mul_one]) hlm)
        have hO := Lib.hid hfin.out.1
        have hG := Lib.hid (hg.trans hfin.out.2)
        rw [marks64_get] at hO hG
        clear hfin hown hg
        go_wp2
        go_roundw
        case rel => exact ⟨k + 1, by omega, by go_num, by go_num, hO.out, hG.out⟩
        case measure => simp [intOf]; omega
    · obtain rfl : k = n := by omega
      have e1 : (marks64 a k).take k ++ xs.drop k = marks64 a k := by
        rw [List.take_of_length_le (by rw [marks64_len]; omega), List.drop_of_length_le (by rw [hlen.out]; omega), List.append_nil]
      rw [e1] at hown
      clear e1
      go_wp2
      go_ret
      exact ⟨rfl, hown, hg⟩
set_option maxRecDepth 100000 in
theorem heldints (w : World) (D : Nat) (A : Option Addr) (n c : Nat) (a : Int) (h : Sl w D 1 A n c (marks64 a n)) (ha0 : 0 ≤ a) (ha : a + n ≤ 1000000000000) :
    Calls Try.prog 37 #[.slice A n c, .int .i64 a] w fun e w' => e = .returned (.int .i64 (a + n)) ∧ w = w' := by
  have hcap := h.cap; have hcapm := h.capm
  go_enter Try.func37, Try.ntmps37
  go_wp2
  go_loop [1, 5] (fun m i => ∃ k : Nat, k ≤ n ∧ i = .int .i64 k ∧ m = .int .i64 (a + k)) (fun _ i => n - (intOf i).toNat)
  case atStart => exact ⟨0, Nat.zero_le _, rfl, by simp⟩
  case round =>
    obtain ⟨k, hk, rfl, rfl⟩ := hrel
    by_cases hlt : k < n
    · obtain ⟨ad, hx, rfl, had, hcx⟩ := h.at_ hlt
      rw [marks64_get] at hcx
      go_wp2
      go_round
      case rel => exact ⟨k + 1, by omega, by go_num, by go_num⟩
      case measure => simp [intOf]; omega
    · obtain rfl : k = n := by omega
      go_wp2
      go_ret
      exact ⟨rfl, rfl⟩
end Go.Proofs.Ytjobjjmeneddnaa
