/- slices.Repeat of one integer. The program's paths.isNode and paths.spread. -/
import Derived.Test.YtjobjjmeneddnaaWords
import Derived.Test.YtjobjjmeneddnaaSlices
import Derived.Test.YtjobjjmeneddnaaChecked
import Derived.WalkKit
import Derived.ProofKit
import Derived.Lib.Hide
import Derived.BigQuiet
import Derived.Laws.CopyOwn
import Derived.Laws.BitsLemmas
import Derived.Deep.CutBlock
import Derived.Deep.RegionLaw
import Derived.Deep.RegionHeld3
import Derived.Test.YtjobjjmeneddnaaWaiting
import Derived.Test.YtjobjjmeneddnaaNear
import Derived.Test.YtjobjjmeneddnaaDistM
namespace Go.Proofs.Ytjobjjmeneddnaa
open Go.ChangeShapes Go.WideShapes Go.ChangeAt Go.RowKit
set_option linter.unusedVariables false
theorem and32 (n : Nat) (h : n < 4294967296) : bits .and .u64 (n : Int) 4294967295 = (n : Int) := by
  have h127 : (BitVec.ofInt 64 4294967295).toNat = 2 ^ 32 - 1 := by decide
  have key : (BitVec.ofInt 64 (n : Int) &&& BitVec.ofInt 64 4294967295).toNat = ((n : Int) % ((2 ^ 64 : Nat) : Int)).toNat % 2 ^ 32 := by
    rw [BitVec.toNat_and, BitVec.toNat_ofInt, h127, Nat.and_two_pow_sub_one_eq_mod]
  show IntKind.u64.wrap ((BitVec.ofInt 64 (n : Int) &&& BitVec.ofInt 64 4294967295).toNat : Nat) = (n : Int)
  rw [key, IntKind.wrap_u64]
  omega
set_option maxRecDepth 100000 in
theorem imul64 (w : World) (n : Nat) (h : n < 4294967296) :
    Calls Try.prog 83 #[.int .u64 1, .int .u64 (n : Nat)] w fun e w' => e = .returned (.tuple #[.int .u64 0, .int .u64 (n : Nat)]) ∧ w = w' := by
  have e1 := and32 n h
  have e2 : bits .and .u64 1 4294967295 = 1 := and32 1 (by omega)
  have e3 : (n : Int) / 4294967296 = 0 := by omega
  have e4 : bits .and .u64 0 4294967295 = 0 := and32 0 (by omega)
  go_enter Try.func83, Try.ntmps83
  go_wp2_with fail
  go_ret2
  exact ⟨rfl, rfl⟩
set_option maxRecDepth 100000 in
theorem imul (w : World) (n : Nat) (h : n < 4294967296) :
    Calls Try.prog 75 #[.int .u64 1, .int .u64 (n : Nat)] w fun e w' => e = .returned (.tuple #[.int .u64 0, .int .u64 (n : Nat)]) ∧ w = w' := by
  go_enter Try.func75, Try.ntmps75
  go_wp2_with fail
  refine (imul64 w n h).mono ?_
  rintro e w1 ⟨rfl, rfl⟩
  go_wp2_with fail
  go_ret2
  exact ⟨rfl, rfl⟩
theorem intR_info : (Try.prog.info? 3).map (fun i => (i.zero, i.size, i.bytes)) = some (some (.int .i64 0), 1, 8) := by kernel_rfl
/-- k places filled, the others 0 -/
def filled (x : Int) (N k : Nat) : List Int := List.replicate k x ++ List.replicate (N - k) 0
theorem filled_len (x : Int) (N k : Nat) (h : k ≤ N) : (filled x N k).length = N := by simp [filled]; omega
theorem filled_all (x : Int) (N : Nat) : filled x N N = List.replicate N x := by simp [filled]
theorem filled_none (x : Int) (N : Nat) : filled x N 0 = List.replicate N 0 := by simp [filled]
theorem filled_at (x : Int) (N k j : Nat) (h : j < k) (hk : k ≤ N) : (filled x N k)[j]? = some x := by
  unfold filled
  rw [List.getElem?_append_left (by simpa using h), List.getElem?_replicate, if_pos h]
theorem filled_splice (x : Int) (N k m : Nat) (h : k + m ≤ N) : splice (iv (filled x N k)) k (iv (List.replicate m x)) = iv (filled x N (k + m)) := by
  unfold splice filled iv
  simp only [List.map_append, List.map_replicate, List.length_replicate]
  rw [List.take_left' (by simp), ← List.append_assoc, List.replicate_append_replicate, List.drop_append]
  simp only [List.drop_replicate, List.length_replicate]
  rw [show k - (k + m) = 0 by omega, List.replicate_zero, List.nil_append, show N - k - (k + m - k) = N - (k + m) by omega]
theorem Own.full {w : World} {B n g : Nat} {E : TypeId} {xs : List Value} (h : Own w B E 1 (some ⟨g, 0, none⟩) n n xs) : Blk w g E xs.toArray := by
  rcases h.row.2 with ⟨hv, _⟩ | ⟨g', cap, cur, hv, hb, hg, hnc, hcm, hcs, htk⟩
  · simp at hv
  · simp at hv
    obtain ⟨rfl, rfl⟩ := hv
    have e : cur.toList = xs := by rw [← htk, List.take_of_length_le (by simp; omega)]
    unfold Blk
    rw [hg, ← e]
theorem Blk.own {w : World} {B g : Nat} {E : TypeId} {xs : List Value} (h : Blk w g E xs.toArray) (hB : B ≤ g) (hn : xs.length ≤ 9223372036854775807) : Own w B E 1 (some ⟨g, 0, none⟩) xs.length xs.length xs :=
  ⟨by simp, .inr ⟨g, xs.length, xs.toArray, rfl, hB, h, Nat.le_refl _, by unfold maxLen; omega, by simp, by simp⟩⟩
theorem goInt_nat (k : Nat) (h : k ≤ 9223372036854775807) : goInt k = .int .i64 (k : Nat) := by
  unfold goInt
  rfl
set_option maxRecDepth 100000 in
set_option maxHeartbeats 1000000 in
theorem irep (w : World) (D c n : Nat) (A : Option Addr) (x : Int) (h : Sl w D 1 A 1 c [.int .i64 x]) (hD : D ≤ w.heap.size) (hn : n ≤ 16777216) :
    Calls Try.prog 54 #[.slice A 1 c, .int .i64 (n : Nat)] w fun e w' => e = .returned (.slice (some ⟨w.heap.size, 0, none⟩) n n) ∧ Own w' w.heap.size 3 1 (some ⟨w.heap.size, 0, none⟩) n n (iv (List.replicate n x)) ∧ Below w.heap.size w w' := by
  obtain ⟨i0, hi, hz0, hz1, hz2⟩ := info_parts intR_info
  have HS := Lib.hid h
  have HSZ : Hid ((Try.prog.info? 3).map (·.size) = some 1) := Lib.hid (by rw [hi]; simp [hz1])
  have hc := h.cap; have hcm := h.capm
  obtain ⟨ad, hx0, hA, had, hcell⟩ := h.at_ (show 0 < 1 by omega)
  have HA := Lib.hid hA; have HAD := Lib.hid had; have HCELL : Hid (w.cell? (ad.add 0) = some (.int .i64 x)) := Lib.hid (by simpa using hcell)
  clear h hA had hcell hx0
  go_enter Try.func54, Try.ntmps54
  go_wp2_with fail
  refine (imul w n (by omega)).mono ?_
  rintro e w1 ⟨rfl, rfl⟩
  go_upto_region 7 with (at_make; refine wpList_make_full _ rfl _ _ 27 rfl w.heap.size 3 i0 (.int .i64 0) 1 Try.underlying27 hi hz0 hz1 .i64 .i64 _ _ n rfl rfl rfl rfl (by rw [hz2]; omega) (by unfold maxLen; omega) (Nat.le_refl _) ?_; intro w2 hown hgrow)
  have HM : Hid (Blk w2 w.heap.size 3 (iv (filled x n 0)).toArray ∧ Below w.heap.size w w2) := Lib.hid ⟨by
    rw [show (Value.int .i64 0).cells = #[Value.int .i64 0] from rfl, toList_madeCells_one, Nat.mul_one] at hown
    have h1 : Own w2 w.heap.size 3 1 (some ⟨w.heap.size, 0, none⟩) n n _ := ⟨hown⟩
    have h2 := h1.full
    rw [filled_none]
    simpa [iv] using h2, (Below.refl _ _).grown hgrow (Nat.le_refl _) (fun k hk => by cases hk)⟩
  clear hown hgrow hz0 hz1 hz2 hi
  obtain ⟨m, hm⟩ : ∃ m, m = min 1 n := ⟨_, rfl⟩
  have HN : Hid ((iv (List.replicate m x)).length = Nat.min 1 n) := Lib.hid (by rw [iv_len, List.length_replicate, hm])
  have HC : Hid (0 < (iv (List.replicate m x)).length → (some (⟨w.heap.size, 0, none⟩ : Addr)) = some ⟨w.heap.size, 0, none⟩ ∧ ∃ ad, A = some ad ∧ ∀ j v, (iv (List.replicate m x))[j]? = some v → w2.cell? (ad.add j) = some v) := Lib.hid fun hp => ⟨rfl, ad, HA.out, fun j v hj => by
    have hj0 : j = 0 := by have := (List.getElem?_eq_some_iff.1 hj).1; rw [iv_len, List.length_replicate] at this; omega
    subst hj0
    obtain ⟨k, rfl⟩ : ∃ k, m = k + 1 := ⟨m - 1, by rw [iv_len, List.length_replicate] at hp; omega⟩
    simp [iv, List.replicate_succ] at hj
    subst hj
    have h1 := HM.out.2.cell (p := ad.add 0) (by rw [block_of_add]; have := HAD.out; omega)
    rw [h1]
    simpa using HCELL.out⟩
  have HFIT : Hid (0 + (iv (List.replicate m x)).length ≤ (iv (filled x n 0)).length) := Lib.hid (by rw [iv_len, iv_len, filled_len _ _ _ (Nat.zero_le _), List.length_replicate]; omega)
  have HLM : Hid ((iv (List.replicate m x)).length = m) := Lib.hid (by rw [iv_len, List.length_replicate])
  have HSP : Hid (splice (iv (filled x n 0)) 0 (iv (List.replicate m x)) = iv (filled x n m)) := Lib.hid (by have := filled_splice x n 0 m (by omega); rwa [Nat.zero_add] at this)
  have hm1 : m ≤ n := by omega
  have hm2 : 0 < n → 0 < m := by omega
  clear hm
  go_wp2_with (guard_target =~ wpList _ _ _ ({ dst := some 33, op := _, type := _, pos := _, after := _, guard := _ } :: _) _ _; refine wpList_copy_splice rfl (.tmp 31) (.tmp 32) 27 27 rfl 3 Try.underlying27 HSZ.out _ _ n n 1 c rfl rfl w.heap.size 0 (iv (filled x n 0)) 3 HM.out.1 (iv (List.replicate m x)) HN.out HC.out HFIT.out (iv_one _) w.heap.size w HM.out.2 (Nat.le_refl _) ?_; intro w3 HG3 hb3; rw [HLM.out]; have HF : Hid (Blk w3 w.heap.size 3 (iv (filled x n m)).toArray ∧ Below w.heap.size w w3) := Lib.hid ⟨by rw [← HSP.out]; exact HG3.out, hb3⟩; clear HG3 hb3)
  clear HM HC HFIT HN HCELL HA HAD HS HLM HSP
  go_loopw [8] (fun v wr => ∃ k : Nat, k ≤ n ∧ (0 < n → 0 < k) ∧ v = .int .i64 k ∧ Blk wr w.heap.size 3 (iv (filled x n k)).toArray ∧ Below w.heap.size w wr) (fun v _ => n - (intOf v).toNat)
  case atStart => exact ⟨m, hm1, hm2, rfl, HF.out.1, HF.out.2⟩
  case round =>
    clear HF hm1 hm2
    obtain ⟨k, hk1, hk2, rfl, hblk, hbel⟩ := hrel
    have HM := Lib.hid hblk; have HB := Lib.hid hbel
    clear hblk hbel
    by_cases hlt : k < n
    case neg =>
      obtain rfl : k = n := by omega
      have HF : Hid (Own wr w.heap.size 3 1 (some ⟨w.heap.size, 0, none⟩) k k (iv (List.replicate k x)) ∧ Below w.heap.size w wr) := Lib.hid ⟨by
        have h1 := HM.out.own (B := w.heap.size) (Nat.le_refl _) (by rw [iv_len, filled_len _ _ _ (Nat.le_refl _)]; omega)
        rw [iv_len, filled_all, List.length_replicate] at h1
        exact h1, HB.out⟩
      clear HM HB
      go_wp2_with fail
      go_ret
      exact ⟨rfl, HF.out⟩
    case pos =>
      obtain ⟨j, hj⟩ : ∃ j, j = min k (n - k) := ⟨_, rfl⟩
      have HJ : Hid (j = min k (n - k) ∧ 0 < j ∧ k + j ≤ n) := Lib.hid (by omega)
      have HN : Hid ((iv (List.replicate j x)).length = Nat.min k (n - k)) := Lib.hid (by rw [iv_len, List.length_replicate, hj])
      have HC : Hid (0 < (iv (List.replicate j x)).length → ∃ ad, some (⟨w.heap.size, 0, none⟩ : Addr) = some ad ∧ ∀ i v, (iv (List.replicate j x))[i]? = some v → wr.drew.cell? (ad.add i) = some v) := Lib.hid fun hp => ⟨_, rfl, fun i v hi => by
        have hi0 : i < j := by have := (List.getElem?_eq_some_iff.1 hi).1; rwa [iv_len, List.length_replicate] at this
        have e : (⟨w.heap.size, 0, none⟩ : Addr).add i = ⟨w.heap.size, i, none⟩ := by unfold Addr.add; split <;> simp_all
        rw [e, HM.out.drew.cell]
        have h1 := filled_at x n k i (by omega) (by omega)
        simp [iv, hi0] at hi
        rw [← hi]
        simp only [iv, List.getElem?_toArray, List.getElem?_map, h1, Option.map_some]⟩
      have HFIT : Hid (k + (iv (List.replicate j x)).length ≤ (iv (filled x n k)).length) := Lib.hid (by rw [iv_len, iv_len, filled_len _ _ _ (by omega), List.length_replicate]; omega)
      have HLM : Hid ((iv (List.replicate j x)).length = j) := Lib.hid (by rw [iv_len, List.length_replicate])
      have HSP : Hid (splice (iv (filled x n k)) k (iv (List.replicate j x)) = iv (filled x n (k + j))) := Lib.hid (filled_splice x n k j (by omega))
      have HBD := Lib.hid HB.out.drew
      have hk0 : (k : Int) < (n : Int) := by omega
      have HW : Hid (IntKind.i64.wrap ((k : Int) + (j : Int)) = ((k + j : Nat) : Int)) := Lib.hid (by rw [IntKind.wrap_i64]; omega)
      clear hj
      go_wp2_with fail
      go_region_held3 (fun _ => True) (trivial) (first | (refine step_copy_splice rfl (.tmp 41) (.tmp 44) 27 27 rfl 3 Try.underlying27 HSZ.out _ _ _ _ _ _ rfl rfl w.heap.size k (iv (filled x n k)) 3 HM.out.drew (iv (List.replicate j x)) HN.out (fun hp => ⟨by first | rfl | rw [if_neg (by omega)], HC.out hp⟩) HFIT.out (iv_one _) w.heap.size w HBD.out (Nat.le_refl _) ?_; intro w3 HG3 hb3; rw [HLM.out]; have HF : Hid (Blk w3 w.heap.size 3 (iv (filled x n (k + j))).toArray ∧ Below w.heap.size w w3) := Lib.hid ⟨by rw [← HSP.out]; exact HG3.out, hb3⟩; clear HG3 hb3))
      go_wp2_with fail
      go_roundw
      case rel => exact ⟨k + j, HJ.out.2.2, by omega, by rw [HW.out], HF.out.1, HF.out.2⟩
      case measure => rw [HW.out]; have := HJ.out; simp [intOf]; omega
end Go.Proofs.Ytjobjjmeneddnaa
namespace Go.Proofs.Ytjobjjmeneddnaa
open Go.ChangeShapes Go.WideShapes Go.ChangeAt Go.RowKit
set_option linter.unusedVariables false
/-- a value of the program's paths -/
def pv (A : Option Addr) (n c : Nat) (f dst : Int) (A' : Option Addr) (N c' : Nat) : Value := .agg #[.slice A n c, .int .i64 f, .int .i64 dst, .slice A' N c']
def pcells (A : Option Addr) (n c : Nat) (f dst : Int) (A' : Option Addr) (N c' : Nat) : Array Value := #[.slice A n c, .int .i64 f, .int .i64 dst, .slice A' N c']
def isN (N : Nat) (x : Int) : Bool := decide (0 ≤ x ∧ x ≤ (N : Int) - 1)
set_option maxRecDepth 100000 in
theorem ipnode (w : World) (A A' : Option Addr) (n c N c' : Nat) (f dst x : Int) (hN : N ≤ 16777216) (b : Bool) (hb : isN N x = b) :
    Calls Try.prog 81 #[.agg #[.slice A n c, .int .i64 f, .int .i64 dst, .slice A' N c'], .int .i64 x] w (Says w b) := by
  have HB : Hid (Below w.heap.size w (w.alloc (.cells (pcells A n c f dst A' N c') 90))) := Lib.hid ((Below.refl _ _).alloc (Nat.le_refl _) _)
  have hblk : Blk (w.alloc (.cells (pcells A n c f dst A' N c') 90)) w.heap.size 90 (pcells A n c f dst A' N c') := Blk.new _ _ _
  have c3 : (w.alloc (.cells (pcells A n c f dst A' N c') 90)).cell? ⟨w.heap.size, 3, none⟩ = some (.slice A' N c') := hblk.cell 3
  unfold pcells at c3 HB
  have HX := Lib.hid hb
  have hw : wrap64 ((N : Int) - 1) = (N : Int) - 1 := by unfold wrap64; omega
  clear hblk hb
  go_enter Try.func81, Try.ntmps81
  cases b
  case false =>
    have HN : Hid (¬ (0 ≤ x ∧ x ≤ (N : Int) - 1)) := Lib.hid (of_decide_eq_false HX.out)
    go_wp2_with fail
    refine (iinr_f x 0 ((N : Int) - 1) _ HN.out).mono ?_
    rintro e w1 ⟨rfl, rfl⟩
    go_wp2_with fail
    go_ret
    exact ⟨rfl, HB.out⟩
  case true =>
    have HN : Hid (0 ≤ x ∧ x ≤ (N : Int) - 1) := Lib.hid (of_decide_eq_true HX.out)
    go_wp2_with fail
    refine (iinr_t x 0 ((N : Int) - 1) _ HN.out.1 HN.out.2).mono ?_
    rintro e w1 ⟨rfl, rfl⟩
    go_wp2_with fail
    go_ret
    exact ⟨rfl, HB.out⟩
theorem isN_iff (N : Nat) (x : Int) : isN N x = true ↔ 0 ≤ x ∧ x < (N : Int) := by
  unfold isN
  rw [decide_eq_true_iff]; omega
set_option maxRecDepth 100000 in
set_option maxHeartbeats 2000000 in
theorem ispread (w : World) (D B g q N : Nat) (A : Option Addr) (n c : Nat) (l : List (Int × Int)) (f dst a : Int) (d todo : List Int) (k : Nat) (h : Sl w D 2 A n c (sv l)) (hD : D ≤ B) (hn : n ≤ 16777216)
    (hgq : B ≤ g ∧ B ≤ q ∧ g ≠ q) (ho : Own w B 3 1 (some ⟨g, 0, none⟩) N N (iv d)) (hr : RgW w q (wq f dst todo (k + 1))) (hb : Bfs l N f dst d todo k) (hk : todo[k]? = some a) (hrel : Rel f dst a) (hu : ∀ y, atD d y < todo.length) (hN : N ≤ 12) :
    Calls Try.prog 71 #[.agg #[.slice A n c, .int .i64 f, .int .i64 dst, .slice (some ⟨g, 0, none⟩) N N], .int .i64 a, .func (.func 70) #[.pointer (some ⟨q, 0, none⟩)] #[]] w fun e w' => e = .returned (.tuple #[]) ∧
      ∃ d' todo', Own w' B 3 1 (some ⟨g, 0, none⟩) N N (iv d') ∧ RgW w' q (wq f dst todo' (k + 1)) ∧ Bfs l N f dst d' todo' (k + 1) ∧ k + 1 ≤ todo'.length ∧ (∀ y, atD d' y < todo'.length) ∧ Two g q w w' := by
  have hgl : g < w.heap.size := by rcases ho.form with ⟨h1, _⟩ | ⟨g', h1, _, h2, _⟩; · cases h1
                                   · injection h1 with h1; cases h1; exact h2
  have hql := hr.lt
  have HS := Lib.hid h; have HO := Lib.hid ho; have HR := Lib.hid hr; have HBF := Lib.hid hb; have HK := Lib.hid hk; have HREL := Lib.hid hrel; have HU := Lib.hid hu
  have HGQ := Lib.hid hgq
  clear h ho hr hb hk hrel hgq hu
  obtain ⟨W0, hW0⟩ : ∃ W, W = w.alloc (.cells (pcells A n c f dst (some ⟨g, 0, none⟩) N N) 90) := ⟨_, rfl⟩
  obtain ⟨s0, hs0⟩ : ∃ s, s = w.heap.size := ⟨_, rfl⟩
  have hblk : Blk W0 s0 90 (pcells A n c f dst (some ⟨g, 0, none⟩) N N) := by rw [hW0, hs0]; exact Blk.new _ _ _
  have hb0 : Below w.heap.size w W0 := by rw [hW0]; exact (Below.refl _ _).alloc (Nat.le_refl _) _
  have HB0 := Lib.hid hb0; have HP0 := Lib.hid hblk
  have HS0 : Hid (Sl W0 D 2 A n c (sv l)) := Lib.hid (HS.out.below hb0 (by have := HGQ.out; omega))
  have hD0 : D ≤ W0.heap.size := by have := hb0.size; have := HGQ.out; omega
  have hgs : g < s0 ∧ q < s0 := by omega
  have HGS := Lib.hid hgs
  have HS0L : Hid (s0 < W0.heap.size ∧ w.heap.size ≤ W0.heap.size) := Lib.hid ⟨hblk.lt, hb0.size⟩
  have e0 : W0.cell? ⟨s0, 0, none⟩ = some (.slice A n c) := hblk.cell 0
  have e3 : W0.cell? ⟨s0, 3, none⟩ = some (.slice (some ⟨g, 0, none⟩) N N) := hblk.cell 3
  unfold pcells at hW0
  clear hblk hb0 hgs HS
  go_enter Try.func71, Try.ntmps71
  go_wp2_with fail
  rw [← hW0, ← hs0]
  have HSE := Lib.hid hs0
  clear hW0 hs0
  go_wp2_with fail
  refine (inb W0 D A n c l HS0.out hD0 hn a).mono ?_
  rintro e w1 ⟨A1, n1, c1, rfl, o1, b1⟩
  obtain ⟨NB, hNB⟩ : ∃ x, x = nbL l a := ⟨_, rfl⟩
  rw [← hNB] at o1
  obtain rfl : n1 = NB.length := by have h1 := o1.len; rw [iv_len] at h1; omega
  have HNB := Lib.hid hNB
  have hnl : NB.length ≤ 9223372036854775807 := by have := o1.capm; omega
  have HF : Hid (∀ wr, Two g q w1 wr → Blk wr s0 90 (pcells A n c f dst (some ⟨g, 0, none⟩) N N) ∧ OwnC wr W0.heap.size 3 1 A1 NB.length c1 (iv NB)) := Lib.hid fun wr ht =>
    ⟨ht.blk (HP0.out.below b1 HS0L.out.1) (by have := HGS.out; omega) (by have := HGS.out; omega), o1.two ht (by have := HGS.out; have := HS0L.out; omega) (by have := HGS.out; have := HS0L.out; omega)⟩
  have HO1 := Lib.hid ((HO.out.on HB0.out).on b1); have HR1 := Lib.hid ((HR.out.on HB0.out).on b1)
  have HT1 : Hid (Two g q w w1) := Lib.hid ((Two.of_below HB0.out).belowOn b1)
  clear b1 o1 hNB HO HR HP0 HB0 HS0 e0 e3 hD0
  go_wp2_with fail
  go_loopw [13] (fun i wr => ∃ (j : Nat) (d todo : List Int), j ≤ NB.length ∧ i = .int .i64 j ∧ Own wr B 3 1 (some ⟨g, 0, none⟩) N N (iv d) ∧ RgW wr q (wq f dst todo (k + 1)) ∧ Bfs l N f dst d todo k ∧ todo[k]? = some a ∧ (∀ y, atD d y < todo.length) ∧ (∀ y ∈ NB.take j, 0 ≤ y → y < (N : Int) → 0 ≤ atD d y) ∧ Two g q w1 wr) (fun i _ => NB.length - (intOf i).toNat)
  case atStart => exact ⟨0, d, todo, Nat.zero_le _, rfl, HO1.out, HR1.out, HBF.out, HK.out, HU.out, (fun y hy => by cases hy), Two.refl _ _ _⟩
  case round =>
    clear HO1 HR1 HBF HK HU d todo
    obtain ⟨j, d, todo, hj, rfl, ho, hr, hb, hk, hu, hall, ht⟩ := hrel
    have HO := Lib.hid ho; have HR := Lib.hid hr; have HBF := Lib.hid hb; have HK := Lib.hid hk; have HU := Lib.hid hu; have HALL := Lib.hid hall; have HT := Lib.hid ht
    clear ho hr hb hk hu hall ht
    have HKL : Hid (k < todo.length) := Lib.hid (List.getElem?_eq_some_iff.1 HK.out).1
    by_cases hlt : j < NB.length
    case neg =>
      obtain rfl : j = NB.length := by omega
      have HFIN : Hid (∃ d' todo', Own wr B 3 1 (some ⟨g, 0, none⟩) N N (iv d') ∧ RgW wr q (wq f dst todo' (k + 1)) ∧ Bfs l N f dst d' todo' (k + 1) ∧ k + 1 ≤ todo'.length ∧ (∀ y, atD d' y < todo'.length) ∧ Two g q w wr) := Lib.hid
        ⟨d, todo, HO.out, HR.out, HBF.out.next HK.out (fun _ i h0 h1 hi => HALL.out i (by rw [List.take_length, HNB.out]; exact hi) h0 h1), HKL.out, HU.out, HT1.out.trans HT.out⟩
      clear HO HR HBF HK HU HALL HT
      go_wp2_with fail
      go_end0
      exact ⟨rfl, HFIN.out⟩
    case pos =>
      have hkl : (j : Int) < (NB.length : Int) := by omega
      obtain ⟨ad, hx0, hA1, had, q1⟩ := (HF.out wr HT.out).2.sl.int hlt
      subst hA1
      have hp := (HF.out wr HT.out).1
      have e0 : wr.cell? ⟨s0, 0, none⟩ = some (.slice A n c) := hp.cell 0
      have e1 : wr.cell? ⟨s0, 1, none⟩ = some (.int .i64 f) := hp.cell 1
      have e2 : wr.cell? ⟨s0, 2, none⟩ = some (.int .i64 dst) := hp.cell 2
      have e3 : wr.cell? ⟨s0, 3, none⟩ = some (.slice (some ⟨g, 0, none⟩) N N) := hp.cell 3
      have HTK : Hid (NB.take (j + 1) = NB.take j ++ [NB[j]]) := Lib.hid (List.take_succ_eq_append_getElem hlt)
      have HMEM : Hid (NB[j] ∈ nbL l a) := Lib.hid (by rw [← HNB.out]; exact List.getElem_mem hlt)
      obtain ⟨x, hxx⟩ : ∃ x, x = NB[j] := ⟨_, rfl⟩
      rw [← hxx] at q1 HTK HMEM
      clear hxx hp
      -- what goes on once x is known to be met
      have HGO : Hid ((0 ≤ x → x < (N : Int) → 0 ≤ atD d x) → ∀ y ∈ NB.take (j + 1), 0 ≤ y → y < (N : Int) → 0 ≤ atD d y) := Lib.hid fun h y hy h0 h1 => by
        rw [HTK.out] at hy
        rcases List.mem_append.1 hy with hy | hy
        · exact HALL.out y hy h0 h1
        · obtain rfl := List.mem_singleton.1 hy
          exact h h0 h1
      obtain ⟨b, hbb⟩ : ∃ b, isN N x = b := ⟨_, rfl⟩
      have HBX := Lib.hid hbb
      clear hbb
      go_wp2_with fail
      refine (ipnode wr A (some ⟨g, 0, none⟩) n c N N f dst x (by omega) b HBX.out).mono ?_
      rintro e w2 ⟨rfl, b2⟩
      have HO2 := Lib.hid (HO.out.on b2); have HR2 := Lib.hid (HR.out.on b2); have HT2 := Lib.hid (HT.out.belowOn b2)
      clear HO HR HT b2 e0 e1 e2 e3 q1
      cases b
      case false =>
        have HN := Lib.hid (HGO.out fun h0 h1 => by have := (isN_iff N x).2 ⟨h0, h1⟩; rw [HBX.out] at this; cases this)
        clear HGO HBX HTK HMEM
        go_wp2_with fail
        go_roundw
        case rel => exact ⟨j + 1, d, todo, by omega, by go_num, HO2.out, HR2.out, HBF.out, HK.out, HU.out, HN.out, HT2.out⟩
        case measure => simp [intOf]; omega
      case true =>
        obtain ⟨hx0, hx1⟩ := (isN_iff N x).1 HBX.out
        obtain ⟨xi, rfl⟩ : ∃ xi : Nat, (xi : Int) = x := ⟨x.toNat, by omega⟩
        have hdl : d.length = N := HBF.out.len
        have hxl : xi < d.length := by omega
        have hxN : xi < N := by omega
        have hp := (HF.out w2 HT2.out).1
        have e1 : w2.cell? ⟨s0, 1, none⟩ = some (.int .i64 f) := hp.cell 1
        have e3 : w2.cell? ⟨s0, 3, none⟩ = some (.slice (some ⟨g, 0, none⟩) N N) := hp.cell 3
        obtain ⟨q2, q3⟩ := HO2.out.cellI xi hxl
        rw [← atD_nat d xi hxl] at q2
        have hlow := HBF.out.low xi
        obtain ⟨vx, hvx⟩ : ∃ v, v = atD d xi := ⟨_, rfl⟩
        rw [← hvx] at q2 hlow
        have HVX := Lib.hid hvx
        clear hvx hp
        by_cases hm : vx = -1
        case neg =>
          have HN := Lib.hid (HGO.out fun _ _ => by have := HVX.out; omega)
          have hmb : (vx == -1) = false := by simpa using hm
          clear HGO HBX HTK HMEM hm
          go_wp2_with fail
          go_roundw
          case rel => exact ⟨j + 1, d, todo, by omega, by go_num, HO2.out, HR2.out, HBF.out, HK.out, HU.out, HN.out, HT2.out⟩
          case measure => simp [intOf]; omega
        case pos =>
          subst hm
          obtain ⟨ha0, ha1⟩ := HBF.out.lt (List.mem_of_getElem? HK.out)
          obtain ⟨ai, rfl⟩ : ∃ ai : Nat, (ai : Int) = a := ⟨a.toNat, by omega⟩
          have hal : ai < d.length := by omega
          have haN : ai < N := by omega
          obtain ⟨q4, q5⟩ := HO2.out.cellI ai hal
          rw [← atD_nat d ai hal] at q4
          have hva0 : 0 ≤ atD d ai := (HBF.out.mem ai).1 (List.mem_of_getElem? HK.out)
          have hva1 := HU.out ai
          have hfew : todo.length ≤ N := HBF.out.few
          obtain ⟨va, hva⟩ : ∃ v, v = atD d ai := ⟨_, rfl⟩
          rw [← hva] at q4 hva0 hva1
          have HVA := Lib.hid hva
          have hneg : atD d xi < 0 := by rw [← HVX.out]; omega
          have HB2 : Hid (Bfs l N f dst (d.set xi (va + 1)) (todo ++ [(xi : Int)]) k) := Lib.hid (by
            have h := HBF.out.put HK.out ⟨hx0, hx1⟩ hneg HMEM.out HREL.out
            rw [← HVA.out, show ((xi : Int).toNat) = xi by omega] at h
            exact h)
          have HK2 : Hid ((todo ++ [(xi : Int)])[k]? = some (ai : Int)) := Lib.hid (get_old HK.out)
          have hset : ∀ y, atD (d.set xi (va + 1)) y = if y = (xi : Int) then va + 1 else atD d y := fun y => by
            have h := atD_set d (xi : Int) (va + 1) y hx0 (by omega)
            rwa [show ((xi : Int).toNat) = xi by omega] at h
          have HU2 : Hid (∀ y, atD (d.set xi (va + 1)) y < (todo ++ [(xi : Int)]).length) := Lib.hid fun y => by
            rw [hset, List.length_append, List.length_singleton]
            have := HU.out y
            split <;> omega
          have HL2 : Hid (∀ y ∈ NB.take (j + 1), 0 ≤ y → y < (N : Int) → 0 ≤ atD (d.set xi (va + 1)) y) := Lib.hid fun y hy h0 h1 => by
            rw [hset]
            split
            · omega
            · rename_i hne
              rw [HTK.out] at hy
              rcases List.mem_append.1 hy with hy | hy
              · exact HALL.out y hy h0 h1
              · exact absurd (List.mem_singleton.1 hy) hne
          have HW2 : Hid ((wq f dst todo (k + 1)).length < 11) := Lib.hid (by
            have h1 := HB2.out.few
            rw [List.length_append, List.length_singleton] at h1
            have h2 := wq_len f dst todo (k + 1)
            have h3 := HKL.out
            omega)
          have HQ2 := Lib.hid (wq_put f dst todo (k + 1) (xi : Int) HKL.out)
          have HND : Hid ((xi : Int) ≠ dst) := Lib.hid fun e => by have := (HBF.out.zero xi).2 e; omega
          obtain ⟨W3, hW3⟩ : ∃ W, W = (w2.setCell ⟨g, xi, none⟩ (.int .i64 (va + 1))).drew := ⟨_, rfl⟩
          obtain ⟨o3, g3⟩ := HO2.out.storeI xi (va + 1)
          have HO3 : Hid (Own W3 B 3 1 (some ⟨g, 0, none⟩) N N (iv (d.set xi (va + 1)))) := Lib.hid (by rw [hW3]; exact o3.on ((Below.refl _ _).drew))
          have HT3 : Hid (Two g q w1 W3) := Lib.hid (by rw [hW3]; exact (HT2.out.trans (Two.of_grown g3)).drew)
          have HR3 : Hid (RgW W3 q (wq f dst todo (k + 1))) := Lib.hid (HR2.out.same (by rw [hW3]; exact Below.heap_setCell w2 _ _ q (by have := HGQ.out; simp; omega)))
          have hp := (HF.out W3 HT3.out).1
          have m1 : W3.cell? ⟨s0, 1, none⟩ = some (.int .i64 f) := hp.cell 1
          clear o3 g3 hset hneg hp hva HBX HTK HGO HMEM HALL HBF HK HU HR2 HT2 HO2 hlow
          go_wp2_with fail
          go_region
          go_upto_region 6 with fail
          rw [← hW3]
          clear hW3 e1 e3 q2 q3 q4 q5
          by_cases hf : (xi : Int) < f
          case pos =>
            have HRP : Hid (wq f dst (todo ++ [(xi : Int)]) (k + 1) = wq f dst todo (k + 1) ++ [(xi : Int)]) := Lib.hid (by rw [HQ2.out, if_pos (show Rel f dst (xi : Int) from Or.inl hf)])
            go_wp2_with fail
            refine (iputW W3 q (wq f dst todo (k + 1)) (xi : Int) HR3.out HW2.out).mono ?_
            rintro e w4 ⟨rfl, r4, t4⟩
            rw [← HRP.out] at r4
            have HR4 := Lib.hid r4
            have HO4 : Hid (Own w4 B 3 1 (some ⟨g, 0, none⟩) N N (iv (d.set xi (va + 1)))) := Lib.hid (HO3.out.kept t4.grownBy (.inr (by have := HGQ.out; simp [Value.ownBlock]; omega)))
            have HT4 := Lib.hid (HT3.out.trans (Two.of_turn (g := g) t4))
            clear r4 t4 HO3 HT3 HR3 m1
            go_wp2_with fail
            go_roundw
            case rel => exact ⟨j + 1, _, _, by omega, by go_num, HO4.out, HR4.out, HB2.out, HK2.out, HU2.out, HL2.out, HT4.out⟩
            case measure => simp [intOf]; omega
          case neg =>
            have HRP : Hid (wq f dst (todo ++ [(xi : Int)]) (k + 1) = wq f dst todo (k + 1)) := Lib.hid (by
              rw [HQ2.out, if_neg (fun h => by rcases h with h | h; exact hf h; exact HND.out h), List.append_nil])
            rw [← HRP.out] at HR3
            go_wp2_with fail
            go_roundw
            case rel => exact ⟨j + 1, _, _, by omega, by go_num, HO3.out, HR3.out, HB2.out, HK2.out, HU2.out, HL2.out, HT3.out⟩
            case measure => simp [intOf]; omega
end Go.Proofs.Ytjobjjmeneddnaa
