/- slices.Repeat of one integer. -/
import Derived.Test.YtclillkneadplaaWords
import Derived.Test.YtclillkneadplaaSlices
import Derived.Test.YtclillkneadplaaChecked
import Derived.WalkKit
import Derived.ProofKit
import Derived.Lib.Hide
import Derived.BigQuiet
import Derived.Laws.CopyOwn
import Derived.Laws.BitsLemmas
import Derived.Deep.CutBlock
import Derived.Deep.RegionLaw
import Derived.Deep.RegionHeld3
namespace Go.Proofs.Ytclillkneadplaa
open Go.ChangeShapes Go.WideShapes Go.ChangeAt Go.RowKit
set_option linter.unusedVariables false
theorem and32 (n : Nat) (h : n < 4294967296) : bits .and .u64 (n : Int) 4294967295 = (n : Int) := by
  have h127 : (BitVec.ofInt 64 4294967295).toNat = 2 ^ 32 - 1 := by decide
  have key : (BitVec.ofInt 64 (n : Int) &&& BitVec.ofInt 64 4294967295).toNat = ((n : Int) % ((2 ^ 64 : Nat) : Int)).toNat % 2 ^ 32 := by
    rw [BitVec.toNat_and, BitVec.toNat_ofInt, h127, Nat.and_two_pow_sub_one_eq_mod]
  show IntKind.u64.wrap ((BitVec.ofInt 64 (n : Int) &&& BitVec.ofInt 64 4294967295).toNat : Nat) = (n : Int)
  rw [key, IntKind.wrap_u64]
  omega
set_option maxRecDepth 100000 in
theorem imul64 (w : World) (n : Nat) (h : n < 4294967296) :
    Calls Try.prog 56 #[.int .u64 1, .int .u64 (n : Nat)] w fun e w' => e = .returned (.tuple #[.int .u64 0, .int .u64 (n : Nat)]) ∧ w = w' := by
  have e1 := and32 n h
  have e2 : bits .and .u64 1 4294967295 = 1 := and32 1 (by omega)
  have e3 : (n : Int) / 4294967296 = 0 := by omega
  have e4 : bits .and .u64 0 4294967295 = 0 := and32 0 (by omega)
  go_enter Try.func56, Try.ntmps56
  go_wp2_with fail
  go_ret2
  exact ⟨rfl, rfl⟩
set_option maxRecDepth 100000 in
theorem imul (w : World) (n : Nat) (h : n < 4294967296) :
    Calls Try.prog 48 #[.int .u64 1, .int .u64 (n : Nat)] w fun e w' => e = .returned (.tuple #[.int .u64 0, .int .u64 (n : Nat)]) ∧ w = w' := by
  go_enter Try.func48, Try.ntmps48
  go_wp2_with fail
  refine (imul64 w n h).mono ?_
  rintro e w1 ⟨rfl, rfl⟩
  go_wp2_with fail
  go_ret2
  exact ⟨rfl, rfl⟩
theorem intR_info : (Try.prog.info? 3).map (fun i => (i.zero, i.size, i.bytes)) = some (some (.int .i64 0), 1, 8) := by kernel_rfl
/-- k places filled, the others 0 -/
def filled (x : Int) (N k : Nat) : List Int := List.replicate k x ++ List.replicate (N - k) 0
theorem filled_len (x : Int) (N k : Nat) (h : k ≤ N) : (filled x N k).length = N := by simp [filled]; omega
theorem filled_all (x : Int) (N : Nat) : filled x N N = List.replicate N x := by simp [filled]
theorem filled_none (x : Int) (N : Nat) : filled x N 0 = List.replicate N 0 := by simp [filled]
theorem filled_at (x : Int) (N k j : Nat) (h : j < k) (hk : k ≤ N) : (filled x N k)[j]? = some x := by
  unfold filled
  rw [List.getElem?_append_left (by simpa using h), List.getElem?_replicate, if_pos h]
theorem filled_splice (x : Int) (N k m : Nat) (h : k + m ≤ N) : splice (iv (filled x N k)) k (iv (List.replicate m x)) = iv (filled x N (k + m)) := by
  unfold splice filled iv
  simp only [List.map_append, List.map_replicate, List.length_replicate]
  rw [List.take_left' (by simp), ← List.append_assoc, List.replicate_append_replicate, List.drop_append]
  simp only [List.drop_replicate, List.length_replicate]
  rw [show k - (k + m) = 0 by omega, List.replicate_zero, List.nil_append, show N - k - (k + m - k) = N - (k + m) by omega]
theorem Own.full {w : World} {B n g : Nat} {E : TypeId} {xs : List Value} (h : Own w B E 1 (some ⟨g, 0, none⟩) n n xs) : Blk w g E xs.toArray := by
  rcases h.row.2 with ⟨hv, _⟩ | ⟨g', cap, cur, hv, hb, hg, hnc, hcm, hcs, htk⟩
  · simp at hv
  · simp at hv
    obtain ⟨rfl, rfl⟩ := hv
    have e : cur.toList = xs := by rw [← htk, List.take_of_length_le (by simp; omega)]
    unfold Blk
    rw [hg, ← e]
theorem Blk.own {w : World} {B g : Nat} {E : TypeId} {xs : List Value} (h : Blk w g E xs.toArray) (hB : B ≤ g) (hn : xs.length ≤ 9223372036854775807) : Own w B E 1 (some ⟨g, 0, none⟩) xs.length xs.length xs :=
  ⟨by simp, .inr ⟨g, xs.length, xs.toArray, rfl, hB, h, Nat.le_refl _, by unfold maxLen; omega, by simp, by simp⟩⟩
theorem goInt_nat (k : Nat) (h : k ≤ 9223372036854775807) : goInt k = .int .i64 (k : Nat) := by
  unfold goInt
  rfl
set_option maxRecDepth 100000 in
set_option maxHeartbeats 1000000 in
theorem irep (w : World) (D c n : Nat) (A : Option Addr) (x : Int) (h : Sl w D 1 A 1 c [.int .i64 x]) (hD : D ≤ w.heap.size) (hn : n ≤ 16777216) :
    Calls Try.prog 32 #[.slice A 1 c, .int .i64 (n : Nat)] w fun e w' => e = .returned (.slice (some ⟨w.heap.size, 0, none⟩) n n) ∧ Own w' w.heap.size 3 1 (some ⟨w.heap.size, 0, none⟩) n n (iv (List.replicate n x)) ∧ Below w.heap.size w w' := by
  obtain ⟨i0, hi, hz0, hz1, hz2⟩ := info_parts intR_info
  have HS := Lib.hid h
  have HSZ : Hid ((Try.prog.info? 3).map (·.size) = some 1) := Lib.hid (by rw [hi]; simp [hz1])
  have hc := h.cap; have hcm := h.capm
  obtain ⟨ad, hx0, hA, had, hcell⟩ := h.at_ (show 0 < 1 by omega)
  have HA := Lib.hid hA; have HAD := Lib.hid had; have HCELL : Hid (w.cell? (ad.add 0) = some (.int .i64 x)) := Lib.hid (by simpa using hcell)
  clear h hA had hcell hx0
  go_enter Try.func32, Try.ntmps32
  go_wp2_with fail
  refine (imul w n (by omega)).mono ?_
  rintro e w1 ⟨rfl, rfl⟩
  go_upto_region 7 with (at_make; refine wpList_make_full _ rfl _ _ 27 rfl w.heap.size 3 i0 (.int .i64 0) 1 Try.underlying27 hi hz0 hz1 .i64 .i64 _ _ n rfl rfl rfl rfl (by rw [hz2]; omega) (by unfold maxLen; omega) (Nat.le_refl _) ?_; intro w2 hown hgrow)
  have HM : Hid (Blk w2 w.heap.size 3 (iv (filled x n 0)).toArray ∧ Below w.heap.size w w2) := Lib.hid ⟨by
    rw [show (Value.int .i64 0).cells = #[Value.int .i64 0] from rfl, toList_madeCells_one, Nat.mul_one] at hown
    have h1 : Own w2 w.heap.size 3 1 (some ⟨w.heap.size, 0, none⟩) n n _ := ⟨hown⟩
    have h2 := h1.full
    rw [filled_none]
    simpa [iv] using h2, (Below.refl _ _).grown hgrow (Nat.le_refl _) (fun k hk => by cases hk)⟩
  clear hown hgrow hz0 hz1 hz2 hi
  obtain ⟨m, hm⟩ : ∃ m, m = min 1 n := ⟨_, rfl⟩
  have HN : Hid ((iv (List.replicate m x)).length = Nat.min 1 n) := Lib.hid (by rw [iv_len, List.length_replicate, hm])
  have HC : Hid (0 < (iv (List.replicate m x)).length → (some (⟨w.heap.size, 0, none⟩ : Addr)) = some ⟨w.heap.size, 0, none⟩ ∧ ∃ ad, A = some ad ∧ ∀ j v, (iv (List.replicate m x))[j]? = some v → w2.cell? (ad.add j) = some v) := Lib.hid fun hp => ⟨rfl, ad, HA.out, fun j v hj => by
    have hj0 : j = 0 := by have := (List.getElem?_eq_some_iff.1 hj).1; rw [iv_len, List.length_replicate] at this; omega
    subst hj0
    obtain ⟨k, rfl⟩ : ∃ k, m = k + 1 := ⟨m - 1, by rw [iv_len, List.length_replicate] at hp; omega⟩
    simp [iv, List.replicate_succ] at hj
    subst hj
    have h1 := HM.out.2.cell (p := ad.add 0) (by rw [block_of_add]; have := HAD.out; omega)
    rw [h1]
    simpa using HCELL.out⟩
  have HFIT : Hid (0 + (iv (List.replicate m x)).length ≤ (iv (filled x n 0)).length) := Lib.hid (by rw [iv_len, iv_len, filled_len _ _ _ (Nat.zero_le _), List.length_replicate]; omega)
  have HLM : Hid ((iv (List.replicate m x)).length = m) := Lib.hid (by rw [iv_len, List.length_replicate])
  have HSP : Hid (splice (iv (filled x n 0)) 0 (iv (List.replicate m x)) = iv (filled x n m)) := Lib.hid (by have := filled_splice x n 0 m (by omega); rwa [Nat.zero_add] at this)
  have hm1 : m ≤ n := by omega
  have hm2 : 0 < n → 0 < m := by omega
  clear hm
  go_wp2_with (guard_target =~ wpList _ _ _ ({ dst := some 33, op := _, type := _, pos := _, after := _, guard := _ } :: _) _ _; refine wpList_copy_splice rfl (.tmp 31) (.tmp 32) 27 27 rfl 3 Try.underlying27 HSZ.out _ _ n n 1 c rfl rfl w.heap.size 0 (iv (filled x n 0)) 3 HM.out.1 (iv (List.replicate m x)) HN.out HC.out HFIT.out (iv_one _) w.heap.size w HM.out.2 (Nat.le_refl _) ?_; intro w3 HG3 hb3; rw [HLM.out]; have HF : Hid (Blk w3 w.heap.size 3 (iv (filled x n m)).toArray ∧ Below w.heap.size w w3) := Lib.hid ⟨by rw [← HSP.out]; exact HG3.out, hb3⟩; clear HG3 hb3)
  clear HM HC HFIT HN HCELL HA HAD HS HLM HSP
  go_loopw [8] (fun v wr => ∃ k : Nat, k ≤ n ∧ (0 < n → 0 < k) ∧ v = .int .i64 k ∧ Blk wr w.heap.size 3 (iv (filled x n k)).toArray ∧ Below w.heap.size w wr) (fun v _ => n - (intOf v).toNat)
  case atStart => exact ⟨m, hm1, hm2, rfl, HF.out.1, HF.out.2⟩
  case round =>
    clear HF hm1 hm2
    obtain ⟨k, hk1, hk2, rfl, hblk, hbel⟩ := hrel
    have HM := Lib.hid hblk; have HB := Lib.hid hbel
    clear hblk hbel
    by_cases hlt : k < n
    case neg =>
      obtain rfl : k = n := by omega
      have HF : Hid (Own wr w.heap.size 3 1 (some ⟨w.heap.size, 0, none⟩) k k (iv (List.replicate k x)) ∧ Below w.heap.size w wr) := Lib.hid ⟨by
        have h1 := HM.out.own (B := w.heap.size) (Nat.le_refl _) (by rw [iv_len, filled_len _ _ _ (Nat.le_refl _)]; omega)
        rw [iv_len, filled_all, List.length_replicate] at h1
        exact h1, HB.out⟩
      clear HM HB
      go_wp2_with fail
      go_ret
      exact ⟨rfl, HF.out⟩
    case pos =>
      obtain ⟨j, hj⟩ : ∃ j, j = min k (n - k) := ⟨_, rfl⟩
      have HJ : Hid (j = min k (n - k) ∧ 0 < j ∧ k + j ≤ n) := Lib.hid (by omega)
      have HN : Hid ((iv (List.replicate j x)).length = Nat.min k (n - k)) := Lib.hid (by rw [iv_len, List.length_replicate, hj])
      have HC : Hid (0 < (iv (List.replicate j x)).length → ∃ ad, some (⟨w.heap.size, 0, none⟩ : Addr) = some ad ∧ ∀ i v, (iv (List.replicate j x))[i]? = some v → wr.drew.cell? (ad.add i) = some v) := Lib.hid fun hp => ⟨_, rfl, fun i v hi => by
        have hi0 : i < j := by have := (List.getElem?_eq_some_iff.1 hi).1; rwa [iv_len, List.length_replicate] at this
        have e : (⟨w.heap.size, 0, none⟩ : Addr).add i = ⟨w.heap.size, i, none⟩ := by unfold Addr.add; split <;> simp_all
        rw [e, HM.out.drew.cell]
        have h1 := filled_at x n k i (by omega) (by omega)
        simp [iv, hi0] at hi
        rw [← hi]
        simp only [iv, List.getElem?_toArray, List.getElem?_map, h1, Option.map_some]⟩
      have HFIT : Hid (k + (iv (List.replicate j x)).length ≤ (iv (filled x n k)).length) := Lib.hid (by rw [iv_len, iv_len, filled_len _ _ _ (by omega), List.length_replicate]; omega)
      have HLM : Hid ((iv (List.replicate j x)).length = j) := Lib.hid (by rw [iv_len, List.length_replicate])
      have HSP : Hid (splice (iv (filled x n k)) k (iv (List.replicate j x)) = iv (filled x n (k + j))) := Lib.hid (filled_splice x n k j (by omega))
      have HBD := Lib.hid HB.out.drew
      have hk0 : (k : Int) < (n : Int) := by omega
      have HW : Hid (IntKind.i64.wrap ((k : Int) + (j : Int)) = ((k + j : Nat) : Int)) := Lib.hid (by rw [IntKind.wrap_i64]; omega)
      clear hj
      go_wp2_with fail
      go_region_held3 (fun _ => True) (trivial) (first | (refine step_copy_splice rfl (.tmp 41) (.tmp 44) 27 27 rfl 3 Try.underlying27 HSZ.out _ _ _ _ _ _ rfl rfl w.heap.size k (iv (filled x n k)) 3 HM.out.drew (iv (List.replicate j x)) HN.out (fun hp => ⟨by first | rfl | rw [if_neg (by omega)], HC.out hp⟩) HFIT.out (iv_one _) w.heap.size w HBD.out (Nat.le_refl _) ?_; intro w3 HG3 hb3; rw [HLM.out]; have HF : Hid (Blk w3 w.heap.size 3 (iv (filled x n (k + j))).toArray ∧ Below w.heap.size w w3) := Lib.hid ⟨by rw [← HSP.out]; exact HG3.out, hb3⟩; clear HG3 hb3))
      go_wp2_with fail
      go_roundw
      case rel => exact ⟨k + j, HJ.out.2.2, by omega, by rw [HW.out], HF.out.1, HF.out.2⟩
      case measure => rw [HW.out]; have := HJ.out; simp [intOf]; omega
end Go.Proofs.Ytclillkneadplaa
