/- Plain facts on words of 64 bits: a set of ticks as words, and the number of bits that are set, as Go's library counts them. No program. The contracts of the program's sets of ticks: the library's count of bits, has, or, and, without. The contract of the program's ticksIn: the set of the ticks of a list. -/
import Derived.Test.YtmmnnbgfomcihaaSpans
import Derived.Laws.BitsAllLaws
import Derived.Test.YtmmnnbgfomcihaaSpanPut
import Derived.IntWalk
import Derived.RegionTactic
import Derived.Deep.WholeRow
import Derived.StillTailTactics
import Derived.LoopTactic
import Derived.Laws.Bits128
namespace Go.Proofs.Ytmmnnbgfomcihaa
set_option linter.unusedVariables false
/-- the word of the n ticks from a on -/
def wdl (S : Nat → Bool) (a : Nat) : Nat → Nat
  | 0 => 0
  | n + 1 => (S a).toNat + 2 * wdl S (a + 1) n
theorem wdl_lt (S : Nat → Bool) (a n : Nat) : wdl S a n < 2 ^ n := by
  induction n generalizing a with
  | zero => exact Nat.one_pos
  | succ n ih =>
    have h1 := ih (a + 1)
    have h2 := Bool.toNat_le (S a)
    have h3 : wdl S a (n + 1) = (S a).toNat + 2 * wdl S (a + 1) n := rfl
    rw [Nat.pow_succ]; omega
theorem wdl_bit (S : Nat → Bool) (a n j : Nat) : (wdl S a n).testBit j = (decide (j < n) && S (a + j)) := by
  induction n generalizing a j with
  | zero => simp [wdl]
  | succ n ih =>
    have h3 : wdl S a (n + 1) = (S a).toNat + 2 * wdl S (a + 1) n := rfl
    have h2 := Bool.toNat_le (S a)
    rcases j with _ | j
    · rw [h3, Nat.testBit_zero]
      cases S a <;> simp <;> omega
    · rw [Nat.testBit_succ, h3, show ((S a).toNat + 2 * wdl S (a + 1) n) / 2 = wdl S (a + 1) n by omega, ih, show a + 1 + j = a + (j + 1) by omega]
      congr 1
      simp
theorem wdl_congr (S T : Nat → Bool) (a n : Nat) (h : ∀ k, S k = T k) : wdl S a n = wdl T a n := by rw [show S = T from funext h]
theorem wdl_or (S T : Nat → Bool) (a n : Nat) : wdl S a n ||| wdl T a n = wdl (fun k => S k || T k) a n := by
  refine Nat.eq_of_testBit_eq fun j => ?_
  rw [Nat.testBit_or, wdl_bit, wdl_bit, wdl_bit]
  cases decide (j < n) <;> simp
theorem wdl_and (S T : Nat → Bool) (a n : Nat) : wdl S a n &&& wdl T a n = wdl (fun k => S k && T k) a n := by
  refine Nat.eq_of_testBit_eq fun j => ?_
  rw [Nat.testBit_and, wdl_bit, wdl_bit, wdl_bit]
  cases decide (j < n) <;> simp
theorem wdl_andNot (S T : Nat → Bool) (a n : Nat) : wdl S a n &&& (2 ^ n - 1 - wdl T a n) = wdl (fun k => S k && !T k) a n := by
  refine Nat.eq_of_testBit_eq fun j => ?_
  have h1 : 2 ^ n - 1 - wdl T a n = 2 ^ n - (wdl T a n + 1) := by omega
  rw [Nat.testBit_and, h1, Nat.testBit_two_pow_sub_succ (wdl_lt T a n), wdl_bit, wdl_bit, wdl_bit]
  cases decide (j < n) <;> simp
/-- one tick more -/
def with1 (S : Nat → Bool) (t : Nat) (k : Nat) : Bool := S k || decide (k = t)
theorem wdl_with (S : Nat → Bool) (a n r : Nat) (h : r < n) : wdl S a n ||| 2 ^ r = wdl (with1 S (a + r)) a n := by
  refine Nat.eq_of_testBit_eq fun j => ?_
  rw [Nat.testBit_or, wdl_bit, wdl_bit, Nat.testBit_two_pow]
  unfold with1
  by_cases hj : r = j
  · subst hj; simp [h]
  · have h2 : ¬ (j = r) := fun e => hj e.symm
    simp [hj, h2]
theorem wdl_other (S : Nat → Bool) (a n t : Nat) (h : t < a ∨ a + n ≤ t) : wdl (with1 S t) a n = wdl S a n := by
  refine Nat.eq_of_testBit_eq fun j => ?_
  rw [wdl_bit, wdl_bit]
  by_cases hj : j < n
  · unfold with1
    have : ¬ (a + j = t) := by omega
    simp [this]
  · simp [hj]
/-- the bits that are set, of n -/
def pc : Nat → Nat → Nat
  | 0, _ => 0
  | n + 1, x => x % 2 + pc n (x / 2)
theorem pc_wdl (S : Nat → Bool) (a n : Nat) : pc n (wdl S a n) = cnt S a n := by
  induction n generalizing a with
  | zero => rfl
  | succ n ih =>
    have h2 := Bool.toNat_le (S a)
    have h3 : wdl S a (n + 1) = (S a).toNat + 2 * wdl S (a + 1) n := rfl
    show wdl S a (n + 1) % 2 + pc n (wdl S a (n + 1) / 2) = (S a).toNat + cnt S (a + 1) n
    rw [h3, show ((S a).toNat + 2 * wdl S (a + 1) n) / 2 = wdl S (a + 1) n by omega, ih]
    omega
theorem pc_8 (m x : Nat) : pc (m + 8) x = pc 8 (x % 256) + pc m (x / 256) := by
  have e : x / 256 = x / 2 / 2 / 2 / 2 / 2 / 2 / 2 / 2 := by omega
  rw [e]
  simp only [pc, Nat.add_zero]
  omega
/-- n equal bytes; a function on each byte -/
def bs (c : Nat) : Nat → Nat
  | 0 => 0
  | n + 1 => c + 256 * bs c n
def onB (g : Nat → Nat) : Nat → Nat → Nat
  | 0, _ => 0
  | n + 1, x => g (x % 256) + 256 * onB g n (x / 256)
theorem and_split (a b c d : Nat) (ha : a < 256) (hc : c < 256) : (a + 256 * b) &&& (c + 256 * d) = (a &&& c) + 256 * (b &&& d) := by
  have e : ∀ a b : Nat, a < 256 → a + 256 * b = 2 ^ 8 * b + a := fun a b _ => by omega
  have hac : a &&& c < 2 ^ 8 := Nat.and_lt_two_pow _ hc
  rw [e a b ha, e c d hc, e (a &&& c) (b &&& d) hac]
  refine Nat.eq_of_testBit_eq fun j => ?_
  rw [Nat.testBit_and, Nat.testBit_two_pow_mul_add _ ha, Nat.testBit_two_pow_mul_add _ hc, Nat.testBit_two_pow_mul_add _ hac]
  by_cases hj : j < 8
  · simp [hj]
  · simp [hj]
def g1 (b : Nat) : Nat := ((b / 2) &&& 85) + (b &&& 85)
def g2 (b : Nat) : Nat := ((b / 4) &&& 51) + (b &&& 51)
def g3 (b : Nat) : Nat := (b / 16 + b) &&& 15
theorem g1_low : ∀ b < 256, ∀ e < 2, (b / 2 + 128 * e) &&& 85 = (b / 2) &&& 85 := by decide +kernel
theorem g2_low : ∀ b < 256, ∀ e < 4, (b / 4 + 64 * e) &&& 51 = (b / 4) &&& 51 := by decide +kernel
theorem g1_lt : ∀ b < 256, g1 b < 256 := by decide +kernel
theorem g2_ok : ∀ b < 256, g2 b % 16 ≤ 6 ∧ g2 b < 112 := by decide +kernel
theorem g2_nib : ∀ b < 256, g2 (g1 b) % 16 ≤ 4 ∧ g2 (g1 b) / 16 ≤ 4 ∧ g2 (g1 b) < 256 := by decide +kernel
theorem g3_pc : ∀ b < 256, g3 (g2 (g1 b)) = pc 8 b := by decide +kernel
theorem step1 (n x : Nat) (h : x < 256 ^ n) : ((x / 2) &&& bs 85 n) + (x &&& bs 85 n) = onB g1 n x := by
  induction n generalizing x with
  | zero => simp [bs, onB]
  | succ n ih =>
    have h1 : x / 256 < 256 ^ n := by rw [Nat.pow_succ] at h; omega
    have hx : x = x % 256 + 256 * (x / 256) := by omega
    have hb : x % 256 < 256 := by omega
    have h2 : x / 2 = (x % 256 / 2 + 128 * (x / 256 % 2)) + 256 * (x / 256 / 2) := by omega
    have h3 := ih _ h1
    have h4 := g1_low (x % 256) hb (x / 256 % 2) (by omega)
    show ((x / 2) &&& (85 + 256 * bs 85 n)) + (x &&& (85 + 256 * bs 85 n)) = g1 (x % 256) + 256 * onB g1 n (x / 256)
    rw [h2, and_split _ _ _ _ (by omega) (by omega), h4]
    have h5 : x &&& (85 + 256 * bs 85 n) = ((x % 256) &&& 85) + 256 * ((x / 256) &&& bs 85 n) := by
      have := and_split (x % 256) (x / 256) 85 (bs 85 n) (by omega) (by omega)
      rw [← hx] at this; exact this
    rw [h5, ← h3]; unfold g1; omega
theorem step2 (n x : Nat) (h : x < 256 ^ n) : ((x / 4) &&& bs 51 n) + (x &&& bs 51 n) = onB g2 n x := by
  induction n generalizing x with
  | zero => simp [bs, onB]
  | succ n ih =>
    have h1 : x / 256 < 256 ^ n := by rw [Nat.pow_succ] at h; omega
    have hx : x = x % 256 + 256 * (x / 256) := by omega
    have hb : x % 256 < 256 := by omega
    have h2 : x / 4 = (x % 256 / 4 + 64 * (x / 256 % 4)) + 256 * (x / 256 / 4) := by omega
    have h3 := ih _ h1
    have h4 := g2_low (x % 256) hb (x / 256 % 4) (by omega)
    show ((x / 4) &&& (51 + 256 * bs 51 n)) + (x &&& (51 + 256 * bs 51 n)) = g2 (x % 256) + 256 * onB g2 n (x / 256)
    rw [h2, and_split _ _ _ _ (by omega) (by omega), h4]
    have h5 : x &&& (51 + 256 * bs 51 n) = ((x % 256) &&& 51) + 256 * ((x / 256) &&& bs 51 n) := by
      have := and_split (x % 256) (x / 256) 51 (bs 51 n) (by omega) (by omega)
      rw [← hx] at this; exact this
    rw [h5, ← h3]; unfold g2; omega
/-- every byte's two halves are at most 4 -/
def nibs : Nat → Nat → Prop
  | 0, x => x = 0
  | n + 1, x => x % 16 ≤ 4 ∧ x % 256 / 16 ≤ 4 ∧ nibs n (x / 256)
theorem nibs_lt (n x : Nat) (h : nibs n x) : 255 * x ≤ 68 * (256 ^ n - 1) := by
  induction n generalizing x with
  | zero => obtain rfl : x = 0 := h; simp
  | succ n ih =>
    obtain ⟨h1, h2, h3⟩ := h
    have h4 := ih _ h3
    have h5 : 0 < 256 ^ n := Nat.pow_pos (by omega)
    rw [Nat.pow_succ]; omega
theorem step3 (n x : Nat) (h : nibs n x) : (x / 16 + x) &&& bs 15 n = onB g3 n x := by
  induction n generalizing x with
  | zero => simp [bs, onB]
  | succ n ih =>
    obtain ⟨h1, h2, h3⟩ := h
    have h4 := ih _ h3
    have h3' : n = 0 ∨ x / 256 % 16 ≤ 4 := by
      rcases n with _ | n
      · exact .inl rfl
      · exact .inr h3.1
    have h3'' : x / 256 % 16 ≤ 4 := by
      rcases h3' with rfl | h
      · have : x / 256 = 0 := h3
        omega
      · exact h
    have h5 : x / 16 + x = (x % 256 / 16 + 16 * (x / 256 % 16) + x % 256) + 256 * (x / 256 / 16 + x / 256) := by omega
    show (x / 16 + x) &&& (15 + 256 * bs 15 n) = g3 (x % 256) + 256 * onB g3 n (x / 256)
    rw [h5, and_split _ _ _ _ (by omega) (by omega), h4]
    have m15 : ∀ y : Nat, y &&& 15 = y % 16 := fun y => Nat.and_two_pow_sub_one_eq_mod y 4
    unfold g3
    rw [m15, m15]
    omega
theorem onB_lt (g : Nat → Nat) (hg : ∀ b < 256, g b < 256) (n x : Nat) : onB g n x < 256 ^ n := by
  induction n generalizing x with
  | zero => exact Nat.one_pos
  | succ n ih =>
    have h1 := ih (x / 256); have h2 := hg (x % 256) (by omega)
    show g (x % 256) + 256 * onB g n (x / 256) < _
    rw [Nat.pow_succ]; omega
theorem onB_onB (f g : Nat → Nat) (hg : ∀ b < 256, g b < 256) (n x : Nat) : onB f n (onB g n x) = onB (fun b => f (g b)) n x := by
  induction n generalizing x with
  | zero => rfl
  | succ n ih =>
    have h2 := hg (x % 256) (by omega)
    show f ((g (x % 256) + 256 * onB g n (x / 256)) % 256) + 256 * onB f n ((g (x % 256) + 256 * onB g n (x / 256)) / 256) = f (g (x % 256)) + 256 * onB (fun b => f (g b)) n (x / 256)
    rw [show (g (x % 256) + 256 * onB g n (x / 256)) % 256 = g (x % 256) by omega, show (g (x % 256) + 256 * onB g n (x / 256)) / 256 = onB g n (x / 256) by omega, ih]
theorem onB_nibs (n x : Nat) : nibs n (onB (fun b => g2 (g1 b)) n x) := by
  induction n generalizing x with
  | zero => exact rfl
  | succ n ih =>
    have h := g2_nib (x % 256) (by omega)
    have e : onB (fun b => g2 (g1 b)) (n + 1) x = g2 (g1 (x % 256)) + 256 * onB (fun b => g2 (g1 b)) n (x / 256) := rfl
    refine ⟨by omega, by omega, ?_⟩
    rw [e, show (g2 (g1 (x % 256)) + 256 * onB (fun b => g2 (g1 b)) n (x / 256)) / 256 = onB (fun b => g2 (g1 b)) n (x / 256) by omega]
    exact ih _
theorem g2_lt : ∀ b < 256, g2 b < 256 := fun b h => by have := g2_ok b h; omega
theorem onB_congr (f g : Nat → Nat) (h : ∀ b < 256, f b = g b) (n x : Nat) : onB f n x = onB g n x := by
  induction n generalizing x with
  | zero => rfl
  | succ n ih => show f (x % 256) + 256 * onB f n (x / 256) = g (x % 256) + 256 * onB g n (x / 256); rw [h _ (by omega), ih]
theorem dv {A B m q : Nat} (h : q = A + m * B) (hA : A < m) : q / m = B := by
  subst h
  rw [Nat.add_mul_div_left _ _ (by omega), Nat.div_eq_of_lt hA, Nat.zero_add]
theorem md {A B m q : Nat} (h : q = A + m * B) (hA : A < m) : q % m = A := by
  subst h
  rw [Nat.add_mul_mod_self_left, Nat.mod_eq_of_lt hA]
/-- eight digits to the base 256 -/
def dig8 (c0 c1 c2 c3 c4 c5 c6 c7 : Nat) : Nat := c0 + 256 * c1 + 65536 * c2 + 16777216 * c3 + 4294967296 * c4 + 1099511627776 * c5 + 281474976710656 * c6 + 72057594037927936 * c7
theorem dig8_lt {c0 c1 c2 c3 c4 c5 c6 c7 : Nat} (h0 : c0 ≤ 64) (h1 : c1 ≤ 64) (h2 : c2 ≤ 64) (h3 : c3 ≤ 64) (h4 : c4 ≤ 64) (h5 : c5 ≤ 64) (h6 : c6 ≤ 64) (h7 : c7 ≤ 64) : dig8 c0 c1 c2 c3 c4 c5 c6 c7 < 9223372036854775808 := by
  unfold dig8; omega
theorem dig8_1 (c0 c1 c2 c3 c4 c5 c6 c7 : Nat) (h0 : c0 ≤ 64) : dig8 c0 c1 c2 c3 c4 c5 c6 c7 / 256 = dig8 c1 c2 c3 c4 c5 c6 c7 0 :=
  dv (A := c0) (by unfold dig8; omega) (by omega)
theorem dig8_2 (c0 c1 c2 c3 c4 c5 c6 c7 : Nat) (h0 : c0 ≤ 64) (h1 : c1 ≤ 64) : dig8 c0 c1 c2 c3 c4 c5 c6 c7 / 65536 = dig8 c2 c3 c4 c5 c6 c7 0 0 :=
  dv (A := c0 + 256 * c1) (by unfold dig8; omega) (by omega)
theorem dig8_4 (c0 c1 c2 c3 c4 c5 c6 c7 : Nat) (h0 : c0 ≤ 64) (h1 : c1 ≤ 64) (h2 : c2 ≤ 64) (h3 : c3 ≤ 64) : dig8 c0 c1 c2 c3 c4 c5 c6 c7 / 4294967296 = dig8 c4 c5 c6 c7 0 0 0 0 :=
  dv (A := c0 + 256 * c1 + 65536 * c2 + 16777216 * c3) (by unfold dig8; omega) (by omega)
theorem dig8_add (c0 c1 c2 c3 c4 c5 c6 c7 d0 d1 d2 d3 d4 d5 d6 d7 : Nat) : dig8 c0 c1 c2 c3 c4 c5 c6 c7 + dig8 d0 d1 d2 d3 d4 d5 d6 d7 = dig8 (c0 + d0) (c1 + d1) (c2 + d2) (c3 + d3) (c4 + d4) (c5 + d5) (c6 + d6) (c7 + d7) := by
  unfold dig8; omega
theorem dig8_mod (c0 c1 c2 c3 c4 c5 c6 c7 : Nat) (h0 : c0 ≤ 64) : dig8 c0 c1 c2 c3 c4 c5 c6 c7 % 128 = c0 :=
  md (B := 2 * c1 + 512 * c2 + 131072 * c3 + 33554432 * c4 + 8589934592 * c5 + 2199023255552 * c6 + 562949953421312 * c7) (by unfold dig8; omega) (by omega)
/-- the eight bytes' counts, added up as Go's library does it -/
theorem fold_ok (c0 c1 c2 c3 c4 c5 c6 c7 x y z u : Nat) (h0 : c0 ≤ 8) (h1 : c1 ≤ 8) (h2 : c2 ≤ 8) (h3 : c3 ≤ 8) (h4 : c4 ≤ 8) (h5 : c5 ≤ 8) (h6 : c6 ≤ 8) (h7 : c7 ≤ 8)
    (hx : x = dig8 c0 c1 c2 c3 c4 c5 c6 c7)
    (hy : y = x + x / 256) (hz : z = y + y / 65536) (hu : u = z + z / 4294967296) :
    u % 128 = c0 + c1 + c2 + c3 + c4 + c5 + c6 + c7 ∧ u < 9223372036854775808 ∧ x < 9223372036854775808 ∧ y < 9223372036854775808 ∧ z < 9223372036854775808 := by
  have hxb : x < 9223372036854775808 := by rw [hx]; apply dig8_lt <;> omega
  rw [hx, dig8_1 _ _ _ _ _ _ _ _ (by omega), dig8_add] at hy
  have hyb : y < 9223372036854775808 := by rw [hy]; apply dig8_lt <;> omega
  rw [hy, dig8_2 _ _ _ _ _ _ _ _ (by omega) (by omega), dig8_add] at hz
  have hzb : z < 9223372036854775808 := by rw [hz]; apply dig8_lt <;> omega
  rw [hz, dig8_4 _ _ _ _ _ _ _ _ (by omega) (by omega) (by omega) (by omega), dig8_add] at hu
  have hub : u < 9223372036854775808 := by rw [hu]; apply dig8_lt <;> omega
  refine ⟨?_, hub, hxb, hyb, hzb⟩
  rw [hu, dig8_mod _ _ _ _ _ _ _ _ (by omega)]
  omega
theorem onB_succ (g : Nat → Nat) (n x : Nat) : onB g (n + 1) x = g (x % 256) + 256 * onB g n (x / 256) := rfl
theorem onB8 (g : Nat → Nat) (x : Nat) : onB g 8 x = dig8 (g (x % 256)) (g (x / 256 % 256)) (g (x / 256 / 256 % 256)) (g (x / 256 / 256 / 256 % 256)) (g (x / 256 / 256 / 256 / 256 % 256)) (g (x / 256 / 256 / 256 / 256 / 256 % 256)) (g (x / 256 / 256 / 256 / 256 / 256 / 256 % 256)) (g (x / 256 / 256 / 256 / 256 / 256 / 256 / 256 % 256)) := by
  rw [onB_succ g 7, onB_succ g 6, onB_succ g 5, onB_succ g 4, onB_succ g 3, onB_succ g 2, onB_succ g 1, onB_succ g 0]
  unfold dig8 onB
  omega
theorem pc_0 (y : Nat) : pc 0 y = 0 := rfl
theorem pc8_le (y : Nat) : pc 8 y ≤ 8 := by
  have h : ∀ n y, pc n y ≤ n := by
    intro n
    induction n with
    | zero => intro y; exact Nat.le_refl _
    | succ n ih => intro y; have := ih (y / 2); show y % 2 + pc n (y / 2) ≤ n + 1; omega
  exact h 8 y
theorem pc64 (x : Nat) : pc 64 x = pc 8 (x % 256) + pc 8 (x / 256 % 256) + pc 8 (x / 256 / 256 % 256) + pc 8 (x / 256 / 256 / 256 % 256) + pc 8 (x / 256 / 256 / 256 / 256 % 256) + pc 8 (x / 256 / 256 / 256 / 256 / 256 % 256) + pc 8 (x / 256 / 256 / 256 / 256 / 256 / 256 % 256) + pc 8 (x / 256 / 256 / 256 / 256 / 256 / 256 / 256 % 256) := by
  have a0 : pc 64 x = pc 8 (x % 256) + pc 56 (x / 256) := pc_8 56 x
  have a1 : pc 56 (x / 256) = pc 8 (x / 256 % 256) + pc 48 (x / 256 / 256) := pc_8 48 _
  have a2 : pc 48 (x / 256 / 256) = pc 8 (x / 256 / 256 % 256) + pc 40 (x / 256 / 256 / 256) := pc_8 40 _
  have a3 : pc 40 (x / 256 / 256 / 256) = pc 8 (x / 256 / 256 / 256 % 256) + pc 32 (x / 256 / 256 / 256 / 256) := pc_8 32 _
  have a4 : pc 32 (x / 256 / 256 / 256 / 256) = pc 8 (x / 256 / 256 / 256 / 256 % 256) + pc 24 (x / 256 / 256 / 256 / 256 / 256) := pc_8 24 _
  have a5 : pc 24 (x / 256 / 256 / 256 / 256 / 256) = pc 8 (x / 256 / 256 / 256 / 256 / 256 % 256) + pc 16 (x / 256 / 256 / 256 / 256 / 256 / 256) := pc_8 16 _
  have a6 : pc 16 (x / 256 / 256 / 256 / 256 / 256 / 256) = pc 8 (x / 256 / 256 / 256 / 256 / 256 / 256 % 256) + pc 8 (x / 256 / 256 / 256 / 256 / 256 / 256 / 256) := pc_8 8 _
  have a7 : pc 8 (x / 256 / 256 / 256 / 256 / 256 / 256 / 256) = pc 8 (x / 256 / 256 / 256 / 256 / 256 / 256 / 256 % 256) + pc 0 (x / 256 / 256 / 256 / 256 / 256 / 256 / 256 / 256) := pc_8 0 _
  rw [a0, a1, a2, a3, a4, a5, a6, a7, pc_0]
  simp only [Nat.add_assoc, Nat.add_zero]
theorem bs85 : bs 85 8 = 6148914691236517205 := by decide +kernel
theorem bs51 : bs 51 8 = 3689348814741910323 := by decide +kernel
theorem bs15 : bs 15 8 = 1085102592571150095 := by decide +kernel
theorem pow8 : (256 : Nat) ^ 8 = 18446744073709551616 := by decide +kernel
/-- what Go's library counts, step by step, is the number of bits that are set -/
theorem ones_ok (x a b c d e f : Nat) (hx : x < 18446744073709551616)
    (ha : a = ((x / 2) &&& 6148914691236517205) + (x &&& 6148914691236517205)) (hb : b = ((a / 4) &&& 3689348814741910323) + (a &&& 3689348814741910323))
    (hc : c = (b / 16 + b) &&& 1085102592571150095) (hd : d = c + c / 256) (he : e = d + d / 65536) (hf : f = e + e / 4294967296) :
    f % 128 = pc 64 x ∧ a < 18446744073709551616 ∧ b < 9223372036854775808 ∧ b / 16 + b < 18446744073709551616 ∧ c < 9223372036854775808 ∧ d < 9223372036854775808 ∧ e < 9223372036854775808 ∧ f < 9223372036854775808 := by
  rw [← bs85, step1 8 x (by rw [pow8]; exact hx)] at ha
  have ha' : a < 256 ^ 8 := by rw [ha]; exact onB_lt g1 g1_lt 8 x
  rw [← bs51, step2 8 a ha', ha, onB_onB g2 g1 g1_lt] at hb
  have hn : nibs 8 b := by rw [hb]; exact onB_nibs 8 x
  have hbl := nibs_lt 8 b hn
  rw [pow8] at hbl ha'
  have hb1 : b < 9223372036854775808 := by omega
  have hb2 : b / 16 + b < 18446744073709551616 := by omega
  rw [← bs15, step3 8 b hn, hb, onB_onB g3 (fun b => g2 (g1 b)) (fun b h => g2_lt _ (g1_lt b h)), onB_congr _ _ g3_pc] at hc
  have hcs : c = dig8 (pc 8 (x % 256)) (pc 8 (x / 256 % 256)) (pc 8 (x / 256 / 256 % 256)) (pc 8 (x / 256 / 256 / 256 % 256)) (pc 8 (x / 256 / 256 / 256 / 256 % 256)) (pc 8 (x / 256 / 256 / 256 / 256 / 256 % 256)) (pc 8 (x / 256 / 256 / 256 / 256 / 256 / 256 % 256)) (pc 8 (x / 256 / 256 / 256 / 256 / 256 / 256 / 256 % 256)) := by
    rw [hc, onB8]
  rw [pc64]
  have q0 := pc8_le (x % 256); have q1 := pc8_le (x / 256 % 256); have q2 := pc8_le (x / 256 / 256 % 256); have q3 := pc8_le (x / 256 / 256 / 256 % 256)
  have q4 := pc8_le (x / 256 / 256 / 256 / 256 % 256); have q5 := pc8_le (x / 256 / 256 / 256 / 256 / 256 % 256); have q6 := pc8_le (x / 256 / 256 / 256 / 256 / 256 / 256 % 256); have q7 := pc8_le (x / 256 / 256 / 256 / 256 / 256 / 256 / 256 % 256)
  clear hc hb ha hbl hn
  generalize pc 8 (x % 256) = c0 at *
  generalize pc 8 (x / 256 % 256) = c1 at *
  generalize pc 8 (x / 256 / 256 % 256) = c2 at *
  generalize pc 8 (x / 256 / 256 / 256 % 256) = c3 at *
  generalize pc 8 (x / 256 / 256 / 256 / 256 % 256) = c4 at *
  generalize pc 8 (x / 256 / 256 / 256 / 256 / 256 % 256) = c5 at *
  generalize pc 8 (x / 256 / 256 / 256 / 256 / 256 / 256 % 256) = c6 at *
  generalize pc 8 (x / 256 / 256 / 256 / 256 / 256 / 256 / 256 % 256) = c7 at *
  have hfin := fold_ok c0 c1 c2 c3 c4 c5 c6 c7 c d e f q0 q1 q2 q3 q4 q5 q6 q7 hcs hd he hf
  exact ⟨hfin.1, ha', hb1, hb2, hfin.2.2.1, hfin.2.2.2.1, hfin.2.2.2.2, hfin.2.1⟩
/-- the sixteen words of a set -/
def wd (S : Nat → Bool) (i : Nat) : Nat := wdl S (64 * i) 64
theorem wd_lt (S : Nat → Bool) (i : Nat) : wd S i < 18446744073709551616 := wdl_lt S (64 * i) 64
def cells16 (f : Nat → Nat) : Array Value := ((List.range 16).map fun i : Nat => Value.int .u64 (f i : Nat)).toArray
def wv (S : Nat → Bool) : Array Value := cells16 (wd S)
theorem cells16_size (f : Nat → Nat) : (cells16 f).size = 16 := by simp [cells16]
theorem cells16_at (f : Nat → Nat) (i : Nat) (h : i < 16) : (cells16 f)[i]? = some (.int .u64 (f i : Nat)) := by simp [cells16, h]
theorem cells16_set (f : Nat → Nat) (i v : Nat) (h : i < 16) : (cells16 f).setIfInBounds i (.int .u64 (v : Nat)) = cells16 (fun j => if j = i then v else f j) := by
  refine Array.ext (by simp [cells16]) fun j h1 h2 => ?_
  rw [Array.getElem_setIfInBounds]
  · by_cases hj : i = j
    · subst hj; simp [cells16]
    · simp [cells16, hj, show ¬ j = i from fun e => hj e.symm]
  · simpa using h1
theorem cells16_congr (f g : Nat → Nat) (h : ∀ i < 16, f i = g i) : cells16 f = cells16 g := by
  unfold cells16
  congr 1
  refine List.map_congr_left fun i hi => ?_
  rw [h i (List.mem_range.1 hi)]
theorem cells16_one (f : Nat → Nat) : (cells16 f).all (fun x => x.oneCell') = true := by
  rw [Array.all_eq_true]
  intro i hi
  simp [cells16, Value.oneCell']
theorem wv_with (S : Nat → Bool) (t : Nat) (h : t < 1024) : (wv S).setIfInBounds (t / 64) (.int .u64 ((wd S (t / 64) ||| 2 ^ (t % 64) : Nat) : Nat)) = wv (with1 S t) := by
  unfold wv
  rw [cells16_set _ _ _ (by omega)]
  refine cells16_congr _ _ fun i hi => ?_
  by_cases hj : i = t / 64
  · subst hj
    rw [if_pos rfl]
    unfold wd
    rw [wdl_with _ _ _ _ (by omega), show 64 * (t / 64) + t % 64 = t by omega]
  · rw [if_neg hj]
    unfold wd
    rw [wdl_other _ _ _ _ (by omega)]
theorem wd_has (S : Nat → Bool) (t : Nat) : wd S (t / 64) / 2 ^ (t % 64) % 2 = (S t).toNat := by
  have h := wdl_bit S (64 * (t / 64)) 64 (t % 64)
  rw [show 64 * (t / 64) + t % 64 = t by omega, Nat.testBit_eq_decide_div_mod_eq] at h
  unfold wd
  have h2 : t % 64 < 64 := by omega
  cases hs : S t
  · rw [hs] at h; simp at h; rw [h]; rfl
  · rw [hs] at h; simp [h2] at h; rw [h]; rfl
theorem wv_congr (S T : Nat → Bool) (h : ∀ k, S k = T k) : wv S = wv T := by rw [show S = T from funext h]
/-- the count of the first i words -/
theorem cnt_words (S : Nat → Bool) (i : Nat) : cnt S 0 (64 * (i + 1)) = cnt S 0 (64 * i) + pc 64 (wd S i) := by
  unfold wd
  rw [pc_wdl, show 64 * (i + 1) = 64 * i + 64 by omega, cnt_app, Nat.zero_add]
theorem cnt_all (l : List (Int × Int)) : cnt (tk l) 0 (64 * 16) = cnt (tk l) 0 1000 := by
  have h0 : cnt (tk l) (0 + 1000) 24 = 0 := by
    refine cnt_none (tk l) (0 + 1000) 24 fun k h1 h2 => ?_
    cases h : tk l k
    · rfl
    · have := inL_bd l k h; omega
  rw [show 64 * 16 = 1000 + 24 by omega, cnt_app, h0, Nat.add_zero]
end Go.Proofs.Ytmmnnbgfomcihaa
namespace Go.Proofs.Ytmmnnbgfomcihaa
open Go.ChangeShapes Go.WideShapes Go.ChangeAt Go.RowKit
set_option linter.unusedVariables false
theorem wrap_u64_of (n : Nat) (h : n < 18446744073709551616) : IntKind.u64.wrap (n : Int) = (n : Int) := by rw [IntKind.wrap_u64]; omega
theorem wdl_andNot64 (S T : Nat → Bool) (a n : Nat) (h : n = 64) : wdl S a n &&& (18446744073709551615 - wdl T a n) = wdl (fun k => S k && !T k) a n := by
  subst h; exact wdl_andNot S T a 64
/-- a whole row stored into a block from B on -/
theorem below_setRow {B g : Nat} {a w : World} {cs : Array Value} (h : Below B a w) (hg : B ≤ g) : Below B a (w.setRow g cs) :=
  ⟨h.os, h.tape, h.output, by simpa using h.size, fun k hk => (setRow_other w g k cs (by omega)).trans (h.block k hk)⟩
theorem zero_tick : (∀ w, (zeroValue 105).run Try.prog w = .ok (.agg (wv fun _ => false)) w) ∧ (Try.prog.info? 105).map (·.size) = some 16 := zero_of_info (by kernel_rfl)
/-- what a function that answers a set of ticks answers -/
def Sets (w : World) (S : Nat → Bool) (e : Ending) (w' : World) : Prop := e = .returned (.agg (wv S)) ∧ Below w.heap.size w w'
theorem ihas (w : World) (S : Nat → Bool) (t : Nat) (ht : t < 1024) (b : Bool) (hb : S t = b) :
    Calls Try.prog 80 #[.agg (wv S), .int .i64 t] w (Says w b) := by
  have HB : Hid (Blk (w.alloc (.cells (wv S) 105)) w.heap.size 105 (wv S)) := Lib.hid (Blk.new _ _ _)
  have hc : (w.alloc (.cells (wv S) 105)).cell? ⟨w.heap.size, t / 64, none⟩ = some (.int .u64 (wd S (t / 64) : Nat)) := by
    rw [HB.out.cell]; exact cells16_at _ _ (by omega)
  have hv : Hid ((bits BinOp.and IntKind.u64 ((wd S (t / 64) : Int) / 2 ^ (t % 64)) 1 == 1) = b) := by
    have h1 := wd_has S t
    have h2 := wd_lt S (t / 64)
    have h3 : wd S (t / 64) / 2 ^ (t % 64) < 18446744073709551616 := Nat.lt_of_le_of_lt (Nat.div_le_self _ _) h2
    have h4 := u64_and_nat (wd S (t / 64) / 2 ^ (t % 64)) 1 h3 (by omega)
    rw [Nat.and_one_is_mod, h1, hb] at h4
    have h5 : ((wd S (t / 64) : Int) / 2 ^ (t % 64)) = ((wd S (t / 64) / 2 ^ (t % 64) : Nat) : Int) := by rw [Int.natCast_ediv, Int.natCast_pow]; rfl
    refine Lib.hid ?_
    rw [h5]
    rw [show ((1 : Nat) : Int) = 1 from rfl] at h4
    rw [h4]
    cases b <;> rfl
  go_enter Try.func80, Try.ntmps80
  go_wp2
  go_ret
  exact ⟨ret_bool hv.out, (Below.refl _ _).alloc (Nat.le_refl _) _⟩
theorem mix_at (f h : Nat → Nat) (k i : Nat) (hi : i < 16) : (cells16 (fun j => if j < k then f j else h j))[i]? = some (.int .u64 ((if i < k then f i else h i : Nat) : Nat)) := cells16_at _ _ hi
theorem ior (w : World) (S T : Nat → Bool) :
    Calls Try.prog 75 #[.agg (wv S), .agg (wv T)] w (Sets w (fun k => S k ||T k)) := by
  obtain ⟨zc, hzc⟩ : ∃ zc : Array Value, zc = #[Value.int IntKind.u64 0, Value.int IntKind.u64 0, Value.int IntKind.u64 0, Value.int IntKind.u64 0,
          Value.int IntKind.u64 0, Value.int IntKind.u64 0, Value.int IntKind.u64 0, Value.int IntKind.u64 0,
          Value.int IntKind.u64 0, Value.int IntKind.u64 0, Value.int IntKind.u64 0, Value.int IntKind.u64 0,
          Value.int IntKind.u64 0, Value.int IntKind.u64 0, Value.int IntKind.u64 0, Value.int IntKind.u64 0] := ⟨_, rfl⟩
  obtain ⟨U, hU⟩ : ∃ U : Nat → Bool, U = fun k => S k ||T k := ⟨_, rfl⟩
  rw [← hU]
  have HU : Hid (∀ i, bits .or .u64 (wd S i : Int) (wd T i : Int) = (wd U i : Int)) := Lib.hid fun i => by rw [u64_or_nat _ _ (wd_lt S i) (wd_lt T i), hU]; exact congrArg (fun n : Nat => (n : Int)) (by first | exact wdl_or S T _ 64 | exact wdl_andNot64 S T _ 64 rfl)
  clear hU
  have h0 : Hid (Blk (((w.alloc (.cells (wv S) 105)).alloc (.cells (wv T) 105)).alloc (.cells zc 105)) w.heap.size 105 (cells16 (fun j => if j < 0 then wd U j else wd S j)) ∧
      Blk (((w.alloc (.cells (wv S) 105)).alloc (.cells (wv T) 105)).alloc (.cells zc 105)) (w.heap.size + 1) 105 (wv T) ∧
      Blk (((w.alloc (.cells (wv S) 105)).alloc (.cells (wv T) 105)).alloc (.cells zc 105)) (w.heap.size + 1 + 1) 105 zc ∧
      Below w.heap.size w (((w.alloc (.cells (wv S) 105)).alloc (.cells (wv T) 105)).alloc (.cells zc 105))) := by
    refine Lib.hid ⟨?_, ?_, ?_, ?_⟩
    · have h1 : cells16 (fun j => if j < 0 then wd U j else wd S j) = wv S := cells16_congr _ _ fun i _ => by rw [if_neg (by omega)]
      rw [h1]
      exact ((Blk.new w _ _).alloc _).alloc _
    · rw [show w.heap.size + 1 = (w.alloc (.cells (wv S) 105)).heap.size by simp]
      exact (Blk.new (w.alloc _) _ _).alloc _
    · rw [show w.heap.size + 1 + 1 = ((w.alloc (.cells (wv S) 105)).alloc (.cells (wv T) 105)).heap.size by simp]
      exact Blk.new _ _ _
    · exact (((Below.refl _ _).alloc (Nat.le_refl _) _).alloc (by simp) _).alloc (by simp; omega) _
  have HZ : Hid (zc.size = 16) := Lib.hid (by rw [hzc]; rfl)
  go_enter Try.func75, Try.ntmps75
  go_wp2
  rw [← hzc]
  clear hzc
  go_loopw [6] (fun i wr => ∃ k : Nat, k ≤ 16 ∧ i = .int .i64 k ∧ Blk wr w.heap.size 105 (cells16 (fun j => if j < k then wd U j else wd S j)) ∧ Blk wr (w.heap.size + 1) 105 (wv T) ∧ Blk wr (w.heap.size + 1 + 1) 105 zc ∧ Below w.heap.size w wr) (fun i _ => 16 - (intOf i).toNat)
  case atStart => exact ⟨0, by omega, rfl, h0.out⟩
  case round =>
    clear h0
    obtain ⟨k, hk, rfl, h1, h2, h3, hb⟩ := hrel
    by_cases hlt : k < 16
    · have hc1 : wr.cell? ⟨w.heap.size, k, none⟩ = some (.int .u64 (wd S k : Nat)) := by rw [h1.cell, mix_at _ _ _ _ hlt, if_neg (by omega)]
      have hc2 : wr.cell? ⟨w.heap.size + 1, k, none⟩ = some (.int .u64 (wd T k : Nat)) := by rw [h2.cell]; exact cells16_at _ _ hlt
      have hf := h1.frozen k
      have ho : bits .or .u64 (wd S k : Int) (wd T k : Int) = (wd U k : Int) := HU.out k
      have H1 : Hid (Blk (wr.setCell ⟨w.heap.size, k, none⟩ (.int .u64 (wd U k : Nat))) w.heap.size 105 (cells16 (fun j => if j < k + 1 then wd U j else wd S j))) := by
        refine Lib.hid ?_
        have h4 := h1.set_ k (.int .u64 (wd U k : Nat))
        rw [cells16_set _ _ _ hlt] at h4
        have h5 : cells16 (fun j => if j = k then wd U k else if j < k then wd U j else wd S j) = cells16 (fun j => if j < k + 1 then wd U j else wd S j) := cells16_congr _ _ fun i _ => by
          by_cases h6 : i = k
          · subst h6; rw [if_pos rfl, if_pos (by omega)]
          · rw [if_neg h6]
            by_cases h7 : i < k
            · rw [if_pos h7, if_pos (by omega)]
            · rw [if_neg h7, if_neg (by omega)]
        rw [h5] at h4; exact h4
      have H2 := Lib.hid (h2.far (p := ⟨w.heap.size, k, none⟩) (by simp) (.int .u64 (wd U k : Nat)))
      have H3 := Lib.hid (h3.far (p := ⟨w.heap.size, k, none⟩) (by simp; omega) (.int .u64 (wd U k : Nat)))
      have HB := Lib.hid (hb.setCell (p := ⟨w.heap.size, k, none⟩) (Nat.le_refl _) (.int .u64 (wd U k : Nat)))
      clear h1 h2 h3 hb
      go_wp2
      go_region
      go_wp2
      go_roundw
      case rel => exact ⟨k + 1, by omega, by go_num, H1.out, H2.out, H3.out, HB.out.drew⟩
      case measure => simp [intOf]; omega
    · obtain rfl : k = 16 := by omega
      have h4 : cells16 (fun j => if j < 16 then wd U j else wd S j) = wv U := cells16_congr _ _ fun i hi => if_pos hi
      rw [h4] at h1
      have H1 := Lib.hid h1; have H3 := Lib.hid h3
      have HW : Hid ((wr.setRow (w.heap.size + 1 + 1) (wv U)).heap[w.heap.size + 1 + 1]? = some (.cells (wv U) 105 (0, 0)) ∧ Below w.heap.size w (wr.setRow (w.heap.size + 1 + 1) (wv U))) :=
        Lib.hid ⟨setRow_heap _ _ _ _ _ _ h3, below_setRow hb (by omega)⟩
      clear h1 h2 h3 hb h4
      go_wp2_with (first
        | (refine wpList_load_row rfl 105 (.tmp 2) rfl w.heap.size rfl 105 (wv U) (0, 0) _ H1.out Try.underlying105 rfl (by rw [zero_tick.2, wv, cells16_size]) ?_)
        | (refine wpList_store_row rfl 105 (.tmp 4) (.tmp 18) rfl (w.heap.size + 1 + 1) (wv U) rfl rfl 105 zc H3.out (by rw [zero_tick.2, wv, cells16_size]) (by rw [HZ.out, wv, cells16_size]) (cells16_one _) ?_))
      exact bodyPost_ret (v := .agg (wv U)) (results_cell_row (p := 4) (ty := 105) rfl _ _ (w.heap.size + 1 + 1) 105 (wv U) (0, 0) _ rfl HW.out.1 Try.underlying105 rfl (by rw [zero_tick.2, wv, cells16_size])) rfl ⟨rfl, HW.out.2⟩
theorem iand (w : World) (S T : Nat → Bool) :
    Calls Try.prog 76 #[.agg (wv S), .agg (wv T)] w (Sets w (fun k => S k &&T k)) := by
  obtain ⟨zc, hzc⟩ : ∃ zc : Array Value, zc = #[Value.int IntKind.u64 0, Value.int IntKind.u64 0, Value.int IntKind.u64 0, Value.int IntKind.u64 0,
          Value.int IntKind.u64 0, Value.int IntKind.u64 0, Value.int IntKind.u64 0, Value.int IntKind.u64 0,
          Value.int IntKind.u64 0, Value.int IntKind.u64 0, Value.int IntKind.u64 0, Value.int IntKind.u64 0,
          Value.int IntKind.u64 0, Value.int IntKind.u64 0, Value.int IntKind.u64 0, Value.int IntKind.u64 0] := ⟨_, rfl⟩
  obtain ⟨U, hU⟩ : ∃ U : Nat → Bool, U = fun k => S k &&T k := ⟨_, rfl⟩
  rw [← hU]
  have HU : Hid (∀ i, bits .and .u64 (wd S i : Int) (wd T i : Int) = (wd U i : Int)) := Lib.hid fun i => by rw [u64_and_nat _ _ (wd_lt S i) (wd_lt T i), hU]; exact congrArg (fun n : Nat => (n : Int)) (by first | exact wdl_and S T _ 64 | exact wdl_andNot64 S T _ 64 rfl)
  clear hU
  have h0 : Hid (Blk (((w.alloc (.cells (wv S) 105)).alloc (.cells (wv T) 105)).alloc (.cells zc 105)) w.heap.size 105 (cells16 (fun j => if j < 0 then wd U j else wd S j)) ∧
      Blk (((w.alloc (.cells (wv S) 105)).alloc (.cells (wv T) 105)).alloc (.cells zc 105)) (w.heap.size + 1) 105 (wv T) ∧
      Blk (((w.alloc (.cells (wv S) 105)).alloc (.cells (wv T) 105)).alloc (.cells zc 105)) (w.heap.size + 1 + 1) 105 zc ∧
      Below w.heap.size w (((w.alloc (.cells (wv S) 105)).alloc (.cells (wv T) 105)).alloc (.cells zc 105))) := by
    refine Lib.hid ⟨?_, ?_, ?_, ?_⟩
    · have h1 : cells16 (fun j => if j < 0 then wd U j else wd S j) = wv S := cells16_congr _ _ fun i _ => by rw [if_neg (by omega)]
      rw [h1]
      exact ((Blk.new w _ _).alloc _).alloc _
    · rw [show w.heap.size + 1 = (w.alloc (.cells (wv S) 105)).heap.size by simp]
      exact (Blk.new (w.alloc _) _ _).alloc _
    · rw [show w.heap.size + 1 + 1 = ((w.alloc (.cells (wv S) 105)).alloc (.cells (wv T) 105)).heap.size by simp]
      exact Blk.new _ _ _
    · exact (((Below.refl _ _).alloc (Nat.le_refl _) _).alloc (by simp) _).alloc (by simp; omega) _
  have HZ : Hid (zc.size = 16) := Lib.hid (by rw [hzc]; rfl)
  go_enter Try.func76, Try.ntmps76
  go_wp2
  rw [← hzc]
  clear hzc
  go_loopw [6] (fun i wr => ∃ k : Nat, k ≤ 16 ∧ i = .int .i64 k ∧ Blk wr w.heap.size 105 (cells16 (fun j => if j < k then wd U j else wd S j)) ∧ Blk wr (w.heap.size + 1) 105 (wv T) ∧ Blk wr (w.heap.size + 1 + 1) 105 zc ∧ Below w.heap.size w wr) (fun i _ => 16 - (intOf i).toNat)
  case atStart => exact ⟨0, by omega, rfl, h0.out⟩
  case round =>
    clear h0
    obtain ⟨k, hk, rfl, h1, h2, h3, hb⟩ := hrel
    by_cases hlt : k < 16
    · have hc1 : wr.cell? ⟨w.heap.size, k, none⟩ = some (.int .u64 (wd S k : Nat)) := by rw [h1.cell, mix_at _ _ _ _ hlt, if_neg (by omega)]
      have hc2 : wr.cell? ⟨w.heap.size + 1, k, none⟩ = some (.int .u64 (wd T k : Nat)) := by rw [h2.cell]; exact cells16_at _ _ hlt
      have hf := h1.frozen k
      have ho : bits .and .u64 (wd S k : Int) (wd T k : Int) = (wd U k : Int) := HU.out k
      have H1 : Hid (Blk (wr.setCell ⟨w.heap.size, k, none⟩ (.int .u64 (wd U k : Nat))) w.heap.size 105 (cells16 (fun j => if j < k + 1 then wd U j else wd S j))) := by
        refine Lib.hid ?_
        have h4 := h1.set_ k (.int .u64 (wd U k : Nat))
        rw [cells16_set _ _ _ hlt] at h4
        have h5 : cells16 (fun j => if j = k then wd U k else if j < k then wd U j else wd S j) = cells16 (fun j => if j < k + 1 then wd U j else wd S j) := cells16_congr _ _ fun i _ => by
          by_cases h6 : i = k
          · subst h6; rw [if_pos rfl, if_pos (by omega)]
          · rw [if_neg h6]
            by_cases h7 : i < k
            · rw [if_pos h7, if_pos (by omega)]
            · rw [if_neg h7, if_neg (by omega)]
        rw [h5] at h4; exact h4
      have H2 := Lib.hid (h2.far (p := ⟨w.heap.size, k, none⟩) (by simp) (.int .u64 (wd U k : Nat)))
      have H3 := Lib.hid (h3.far (p := ⟨w.heap.size, k, none⟩) (by simp; omega) (.int .u64 (wd U k : Nat)))
      have HB := Lib.hid (hb.setCell (p := ⟨w.heap.size, k, none⟩) (Nat.le_refl _) (.int .u64 (wd U k : Nat)))
      clear h1 h2 h3 hb
      go_wp2
      go_region
      go_wp2
      go_roundw
      case rel => exact ⟨k + 1, by omega, by go_num, H1.out, H2.out, H3.out, HB.out.drew⟩
      case measure => simp [intOf]; omega
    · obtain rfl : k = 16 := by omega
      have h4 : cells16 (fun j => if j < 16 then wd U j else wd S j) = wv U := cells16_congr _ _ fun i hi => if_pos hi
      rw [h4] at h1
      have H1 := Lib.hid h1; have H3 := Lib.hid h3
      have HW : Hid ((wr.setRow (w.heap.size + 1 + 1) (wv U)).heap[w.heap.size + 1 + 1]? = some (.cells (wv U) 105 (0, 0)) ∧ Below w.heap.size w (wr.setRow (w.heap.size + 1 + 1) (wv U))) :=
        Lib.hid ⟨setRow_heap _ _ _ _ _ _ h3, below_setRow hb (by omega)⟩
      clear h1 h2 h3 hb h4
      go_wp2_with (first
        | (refine wpList_load_row rfl 105 (.tmp 2) rfl w.heap.size rfl 105 (wv U) (0, 0) _ H1.out Try.underlying105 rfl (by rw [zero_tick.2, wv, cells16_size]) ?_)
        | (refine wpList_store_row rfl 105 (.tmp 4) (.tmp 18) rfl (w.heap.size + 1 + 1) (wv U) rfl rfl 105 zc H3.out (by rw [zero_tick.2, wv, cells16_size]) (by rw [HZ.out, wv, cells16_size]) (cells16_one _) ?_))
      exact bodyPost_ret (v := .agg (wv U)) (results_cell_row (p := 4) (ty := 105) rfl _ _ (w.heap.size + 1 + 1) 105 (wv U) (0, 0) _ rfl HW.out.1 Try.underlying105 rfl (by rw [zero_tick.2, wv, cells16_size])) rfl ⟨rfl, HW.out.2⟩
theorem iwithout (w : World) (S T : Nat → Bool) :
    Calls Try.prog 77 #[.agg (wv S), .agg (wv T)] w (Sets w (fun k => S k &&!T k)) := by
  obtain ⟨zc, hzc⟩ : ∃ zc : Array Value, zc = #[Value.int IntKind.u64 0, Value.int IntKind.u64 0, Value.int IntKind.u64 0, Value.int IntKind.u64 0,
          Value.int IntKind.u64 0, Value.int IntKind.u64 0, Value.int IntKind.u64 0, Value.int IntKind.u64 0,
          Value.int IntKind.u64 0, Value.int IntKind.u64 0, Value.int IntKind.u64 0, Value.int IntKind.u64 0,
          Value.int IntKind.u64 0, Value.int IntKind.u64 0, Value.int IntKind.u64 0, Value.int IntKind.u64 0] := ⟨_, rfl⟩
  obtain ⟨U, hU⟩ : ∃ U : Nat → Bool, U = fun k => S k &&!T k := ⟨_, rfl⟩
  rw [← hU]
  have HU : Hid (∀ i, bits .andNot .u64 (wd S i : Int) (wd T i : Int) = (wd U i : Int)) := Lib.hid fun i => by rw [u64_andNot_nat _ _ (wd_lt S i) (wd_lt T i), hU]; exact congrArg (fun n : Nat => (n : Int)) (by first | exact wdl_andNot S T _ 64 | exact wdl_andNot64 S T _ 64 rfl)
  clear hU
  have h0 : Hid (Blk (((w.alloc (.cells (wv S) 105)).alloc (.cells (wv T) 105)).alloc (.cells zc 105)) w.heap.size 105 (cells16 (fun j => if j < 0 then wd U j else wd S j)) ∧
      Blk (((w.alloc (.cells (wv S) 105)).alloc (.cells (wv T) 105)).alloc (.cells zc 105)) (w.heap.size + 1) 105 (wv T) ∧
      Blk (((w.alloc (.cells (wv S) 105)).alloc (.cells (wv T) 105)).alloc (.cells zc 105)) (w.heap.size + 1 + 1) 105 zc ∧
      Below w.heap.size w (((w.alloc (.cells (wv S) 105)).alloc (.cells (wv T) 105)).alloc (.cells zc 105))) := by
    refine Lib.hid ⟨?_, ?_, ?_, ?_⟩
    · have h1 : cells16 (fun j => if j < 0 then wd U j else wd S j) = wv S := cells16_congr _ _ fun i _ => by rw [if_neg (by omega)]
      rw [h1]
      exact ((Blk.new w _ _).alloc _).alloc _
    · rw [show w.heap.size + 1 = (w.alloc (.cells (wv S) 105)).heap.size by simp]
      exact (Blk.new (w.alloc _) _ _).alloc _
    · rw [show w.heap.size + 1 + 1 = ((w.alloc (.cells (wv S) 105)).alloc (.cells (wv T) 105)).heap.size by simp]
      exact Blk.new _ _ _
    · exact (((Below.refl _ _).alloc (Nat.le_refl _) _).alloc (by simp) _).alloc (by simp; omega) _
  have HZ : Hid (zc.size = 16) := Lib.hid (by rw [hzc]; rfl)
  go_enter Try.func77, Try.ntmps77
  go_wp2
  rw [← hzc]
  clear hzc
  go_loopw [6] (fun i wr => ∃ k : Nat, k ≤ 16 ∧ i = .int .i64 k ∧ Blk wr w.heap.size 105 (cells16 (fun j => if j < k then wd U j else wd S j)) ∧ Blk wr (w.heap.size + 1) 105 (wv T) ∧ Blk wr (w.heap.size + 1 + 1) 105 zc ∧ Below w.heap.size w wr) (fun i _ => 16 - (intOf i).toNat)
  case atStart => exact ⟨0, by omega, rfl, h0.out⟩
  case round =>
    clear h0
    obtain ⟨k, hk, rfl, h1, h2, h3, hb⟩ := hrel
    by_cases hlt : k < 16
    · have hc1 : wr.cell? ⟨w.heap.size, k, none⟩ = some (.int .u64 (wd S k : Nat)) := by rw [h1.cell, mix_at _ _ _ _ hlt, if_neg (by omega)]
      have hc2 : wr.cell? ⟨w.heap.size + 1, k, none⟩ = some (.int .u64 (wd T k : Nat)) := by rw [h2.cell]; exact cells16_at _ _ hlt
      have hf := h1.frozen k
      have ho : bits .andNot .u64 (wd S k : Int) (wd T k : Int) = (wd U k : Int) := HU.out k
      have H1 : Hid (Blk (wr.setCell ⟨w.heap.size, k, none⟩ (.int .u64 (wd U k : Nat))) w.heap.size 105 (cells16 (fun j => if j < k + 1 then wd U j else wd S j))) := by
        refine Lib.hid ?_
        have h4 := h1.set_ k (.int .u64 (wd U k : Nat))
        rw [cells16_set _ _ _ hlt] at h4
        have h5 : cells16 (fun j => if j = k then wd U k else if j < k then wd U j else wd S j) = cells16 (fun j => if j < k + 1 then wd U j else wd S j) := cells16_congr _ _ fun i _ => by
          by_cases h6 : i = k
          · subst h6; rw [if_pos rfl, if_pos (by omega)]
          · rw [if_neg h6]
            by_cases h7 : i < k
            · rw [if_pos h7, if_pos (by omega)]
            · rw [if_neg h7, if_neg (by omega)]
        rw [h5] at h4; exact h4
      have H2 := Lib.hid (h2.far (p := ⟨w.heap.size, k, none⟩) (by simp) (.int .u64 (wd U k : Nat)))
      have H3 := Lib.hid (h3.far (p := ⟨w.heap.size, k, none⟩) (by simp; omega) (.int .u64 (wd U k : Nat)))
      have HB := Lib.hid (hb.setCell (p := ⟨w.heap.size, k, none⟩) (Nat.le_refl _) (.int .u64 (wd U k : Nat)))
      clear h1 h2 h3 hb
      go_wp2
      go_region
      go_wp2
      go_roundw
      case rel => exact ⟨k + 1, by omega, by go_num, H1.out, H2.out, H3.out, HB.out.drew⟩
      case measure => simp [intOf]; omega
    · obtain rfl : k = 16 := by omega
      have h4 : cells16 (fun j => if j < 16 then wd U j else wd S j) = wv U := cells16_congr _ _ fun i hi => if_pos hi
      rw [h4] at h1
      have H1 := Lib.hid h1; have H3 := Lib.hid h3
      have HW : Hid ((wr.setRow (w.heap.size + 1 + 1) (wv U)).heap[w.heap.size + 1 + 1]? = some (.cells (wv U) 105 (0, 0)) ∧ Below w.heap.size w (wr.setRow (w.heap.size + 1 + 1) (wv U))) :=
        Lib.hid ⟨setRow_heap _ _ _ _ _ _ h3, below_setRow hb (by omega)⟩
      clear h1 h2 h3 hb h4
      go_wp2_with (first
        | (refine wpList_load_row rfl 105 (.tmp 2) rfl w.heap.size rfl 105 (wv U) (0, 0) _ H1.out Try.underlying105 rfl (by rw [zero_tick.2, wv, cells16_size]) ?_)
        | (refine wpList_store_row rfl 105 (.tmp 4) (.tmp 18) rfl (w.heap.size + 1 + 1) (wv U) rfl rfl 105 zc H3.out (by rw [zero_tick.2, wv, cells16_size]) (by rw [HZ.out, wv, cells16_size]) (cells16_one _) ?_))
      exact bodyPost_ret (v := .agg (wv U)) (results_cell_row (p := 4) (ty := 105) rfl _ _ (w.heap.size + 1 + 1) 105 (wv U) (0, 0) _ rfl HW.out.1 Try.underlying105 rfl (by rw [zero_tick.2, wv, cells16_size])) rfl ⟨rfl, HW.out.2⟩
end Go.Proofs.Ytmmnnbgfomcihaa
namespace Go.Proofs.Ytmmnnbgfomcihaa
open Go.ChangeShapes Go.WideShapes Go.ChangeAt Go.RowKit
set_option linter.unusedVariables false
/-- the ticks from x up to t beside those of S -/
def upto (S : Nat → Bool) (x t : Nat) (j : Nat) : Bool := S j || decide (x ≤ j ∧ j < t)
theorem upto_start (S : Nat → Bool) (x : Nat) : wv (upto S x x) = wv S := wv_congr _ _ fun j => by
  unfold upto
  have : ¬ (x ≤ j ∧ j < x) := by omega
  simp [this]
theorem upto_next (S : Nat → Bool) (x t : Nat) (h : x ≤ t) : wv (with1 (upto S x t) t) = wv (upto S x (t + 1)) := wv_congr _ _ fun j => by
  unfold upto with1
  rw [Bool.or_assoc]
  congr 1
  rw [Bool.eq_iff_iff]; simp; omega
set_option maxRecDepth 100000 in
set_option maxHeartbeats 800000 in
theorem iticks (w : World) (D : Nat) (A : Option Addr) (n c : Nat) (l : List (Int × Int)) (h : Sl w D 2 A n c (sv l)) (hD : D ≤ w.heap.size) :
    Calls Try.prog 78 #[.slice A n c] w (Sets w (tk l)) := by
  have hlen := h.len
  rw [sv_len] at hlen
  obtain rfl : n = l.length := by omega
  clear hlen
  have hcap := h.cap; have hcapm := h.capm
  have H := Lib.hid h; clear h
  obtain ⟨zc, hzc⟩ : ∃ zc : Array Value, zc = #[Value.int IntKind.u64 0, Value.int IntKind.u64 0, Value.int IntKind.u64 0, Value.int IntKind.u64 0,
          Value.int IntKind.u64 0, Value.int IntKind.u64 0, Value.int IntKind.u64 0, Value.int IntKind.u64 0,
          Value.int IntKind.u64 0, Value.int IntKind.u64 0, Value.int IntKind.u64 0, Value.int IntKind.u64 0,
          Value.int IntKind.u64 0, Value.int IntKind.u64 0, Value.int IntKind.u64 0, Value.int IntKind.u64 0] := ⟨_, rfl⟩
  have hz : zc = wv (tk []) := by rw [hzc]; rfl
  have h0 : Hid (Blk ((w.alloc (.cells zc 105)).alloc (.cells zc 105)) w.heap.size 105 zc ∧ Blk ((w.alloc (.cells zc 105)).alloc (.cells zc 105)) (w.heap.size + 1) 105 (wv (tk (l.take 0))) ∧ Below w.heap.size w ((w.alloc (.cells zc 105)).alloc (.cells zc 105))) := by
    refine Lib.hid ⟨(Blk.new w _ _).alloc _, ?_, ((Below.refl _ _).alloc (Nat.le_refl _) _).alloc (by simp) _⟩
    rw [List.take_zero, ← hz, show w.heap.size + 1 = (w.alloc (.cells zc 105)).heap.size by simp]
    exact Blk.new _ _ _
  have HZ : Hid (zc.size = 16) := Lib.hid (by rw [hzc]; rfl)
  clear hz
  go_enter Try.func78, Try.ntmps78
  go_wp2
  rw [← hzc]
  clear hzc
  go_loopw [10] (fun i wr => ∃ k : Nat, k ≤ l.length ∧ i = .int .i64 k ∧ Blk wr w.heap.size 105 zc ∧ Blk wr (w.heap.size + 1) 105 (wv (tk (l.take k))) ∧ Below w.heap.size w wr) (fun i _ => l.length - (intOf i).toNat)
  case atStart => exact ⟨0, Nat.zero_le _, rfl, h0.out⟩
  case round =>
    clear h0
    obtain ⟨wo, rfl⟩ : ∃ wo : World, wo = wr := ⟨_, rfl⟩
    obtain ⟨k, hk, rfl, h1, h2, hb⟩ := hrel
    by_cases hlt : k < l.length
    · obtain ⟨ad, hx, rfl, had, hc0, hc1⟩ := (H.out.below hb hD).two hlt
      obtain ⟨x, hxx⟩ : ∃ x, x = l[k].1 := ⟨_, rfl⟩
      obtain ⟨y, hy⟩ : ∃ y, y = l[k].2 := ⟨_, rfl⟩
      have hp : l[k] = (x, y) := by rw [hxx, hy]
      have hsn : Hid (∀ j, tk (l.take (k + 1)) j = (tk (l.take k) j || inS (x, y) j)) := Lib.hid fun j => by unfold tk; rw [List.take_succ_eq_append_getElem hx, inL_snoc, hp]
      rw [← hxx] at hc0; rw [← hy] at hc1
      have HC2 := Lib.hid (Blk.lt h2)
      have HB1 := Lib.hid ((h1.alloc (.cells #[.int .i64 x, .int .i64 y] 60))); have HB2 := Lib.hid ((h2.alloc (.cells #[.int .i64 x, .int .i64 y] 60)))
      have HBs : Hid (Blk (wo.alloc (.cells #[.int .i64 x, .int .i64 y] 60)) wo.heap.size 60 #[.int .i64 x, .int .i64 y]) := Lib.hid (Blk.new _ _ _)
      have HB := Lib.hid (hb.alloc hb.size (.cells #[.int .i64 x, .int .i64 y] 60))
      have hsz : w.heap.size + 1 < wo.heap.size := HC2.out
      obtain ⟨v, hv⟩ : ∃ v, isS (x, y) = v := ⟨_, rfl⟩
      have HV := Lib.hid hv
      clear hxx hy hp h1 h2 hb hv HC2
      go_wp2_with fail
      refine (iisspan _ _ _ _ HV.out).mono ?_
      rintro e w2 ⟨rfl, b2⟩
      have q1 : Hid (Blk w2 w.heap.size 105 zc) := Lib.hid (HB1.out.below b2 (by simp; omega))
      have q2 : Hid (Blk w2 (w.heap.size + 1) 105 (wv (tk (l.take k)))) := Lib.hid (HB2.out.below b2 (by simp; omega))
      have q3 : Hid (Blk w2 wo.heap.size 60 #[.int .i64 x, .int .i64 y]) := Lib.hid (HBs.out.below b2 (by simp))
      have qb : Hid (Below w.heap.size w w2) := Lib.hid (HB.out.trans (b2.mono HB.out.size))
      have s0 : w2.cell? ⟨wo.heap.size, 0, none⟩ = some (.int .i64 x) := q3.out.cell 0
      have s1 : w2.cell? ⟨wo.heap.size, 1, none⟩ = some (.int .i64 y) := q3.out.cell 1
      clear b2 HB1 HB2 HBs HB
      cases v
      · have q4 : Hid (Blk w2 (w.heap.size + 1) 105 (wv (tk (l.take (k + 1))))) := by
          refine Lib.hid ?_
          rw [wv_congr (tk (l.take (k + 1))) (tk (l.take k)) fun j => ?_]
          · exact q2.out
          · rw [hsn.out]
            cases hi : inS (x, y) j
            · simp
            · have := (isS_iff (x, y)).2 ((inS_iff (x, y) j).1 hi).1; rw [HV.out] at this; cases this
        clear s0 s1 hsn
        go_wp2
        go_roundw
        case rel => exact ⟨k + 1, by omega, by go_num, q1.out, q4.out, qb.out⟩
        case measure => simp [intOf]; omega
      · have hvv := (isS_iff (x, y)).1 HV.out
        simp only at hvv
        obtain ⟨a, rfl⟩ := Int.eq_ofNat_of_zero_le hvv.1
        obtain ⟨b, rfl⟩ := Int.eq_ofNat_of_zero_le (show 0 ≤ y by omega)
        have hab : a < b ∧ b ≤ 1000 := by omega
        obtain ⟨hab1, hab2⟩ := hab
        obtain ⟨S, hS⟩ : ∃ S, S = tk (l.take k) := ⟨_, rfl⟩
        have hfin : Hid (wv (upto S a b) = wv (tk (l.take (k + 1)))) := Lib.hid (wv_congr _ _ fun j => by
          rw [hsn.out, hS]; unfold upto
          congr 1
          rw [Bool.eq_iff_iff, inS_iff]; simp; omega)
        rw [← hS, ← upto_start S a] at q2
        clear hS hsn hvv
        go_wp2
        go_loopw [6] (fun i w3 => ∃ t : Nat, a ≤ t ∧ t ≤ b ∧ i = .int .i64 t ∧ Blk w3 w.heap.size 105 zc ∧ Blk w3 (w.heap.size + 1) 105 (wv (upto S a t)) ∧ Blk w3 wo.heap.size 60 #[.int .i64 (a : Int), .int .i64 (b : Int)] ∧ Below w.heap.size w w3) (fun i _ => b - (intOf i).toNat)
        case atStart => exact ⟨a, Nat.le_refl _, by omega, rfl, q1.out, q2.out, q3.out, qb.out⟩
        case round =>
          clear q1 q2 q3 qb s0 s1
          obtain ⟨t, ht1, ht2, rfl, r1, r2, r3, rb⟩ := hrel
          have s1 : wr.cell? ⟨wo.heap.size, 1, none⟩ = some (.int .i64 (b : Int)) := r3.cell 1
          by_cases ht : t < b
          · have hd1 : wr.cell? ⟨w.heap.size + 1, t / 64, none⟩ = some (.int .u64 (wd (upto S a t) (t / 64) : Nat)) := by rw [r2.cell]; exact cells16_at _ _ (by omega)
            have hf := r2.frozen (t / 64)
            have hp64 : 2 ^ (t % 64) < 18446744073709551616 := by
              have h1 : 2 ^ (t % 64) < 2 ^ 64 := Nat.pow_lt_pow_right (by omega) (by omega)
              exact h1
            have hz : bits .or .u64 (wd (upto S a t) (t / 64) : Int) (IntKind.u64.wrap (2 ^ (t % 64))) = ((wd (upto S a t) (t / 64) ||| 2 ^ (t % 64) : Nat) : Int) := by
              rw [show ((2 : Int) ^ (t % 64)) = ((2 ^ (t % 64) : Nat) : Int) by rw [Int.natCast_pow]; rfl, wrap_u64_of _ hp64]
              exact u64_or_nat _ _ (wd_lt _ _) hp64
            have R2 : Hid (Blk (wr.setCell ⟨w.heap.size + 1, t / 64, none⟩ (.int .u64 (bits .or .u64 (wd (upto S a t) (t / 64) : Int) (IntKind.u64.wrap (2 ^ (t % 64)))))) (w.heap.size + 1) 105 (wv (upto S a (t + 1)))) := by
              refine Lib.hid ?_
              rw [hz, ← upto_next S a t ht1, ← wv_with _ _ (by omega)]
              exact r2.set_ _ _
            have R1 := Lib.hid (r1.far (p := ⟨w.heap.size + 1, t / 64, none⟩) (by simp) (.int .u64 (bits .or .u64 (wd (upto S a t) (t / 64) : Int) (IntKind.u64.wrap (2 ^ (t % 64))))))
            have R3 := Lib.hid (r3.far (p := ⟨w.heap.size + 1, t / 64, none⟩) (by simp; omega) (.int .u64 (bits .or .u64 (wd (upto S a t) (t / 64) : Int) (IntKind.u64.wrap (2 ^ (t % 64))))))
            have RB := Lib.hid (rb.setCell (p := ⟨w.heap.size + 1, t / 64, none⟩) (by simp) (.int .u64 (bits .or .u64 (wd (upto S a t) (t / 64) : Int) (IntKind.u64.wrap (2 ^ (t % 64))))))
            clear hp64 hz r1 r2 r3 rb
            go_wp2
            go_region
            go_wp2
            go_roundw
            case rel => exact ⟨t + 1, by omega, by omega, by go_num, R1.out, R2.out, R3.out, RB.out.drew⟩
            case measure => simp [intOf]; omega
          · obtain rfl : t = b := by omega
            rw [hfin.out] at r2
            have R1 := Lib.hid r1; have R2 := Lib.hid r2; have RB := Lib.hid rb
            clear r1 r2 r3 rb
            go_wp2
            go_roundw
            case rel => exact ⟨k + 1, by omega, by go_num, R1.out, R2.out, RB.out⟩
            case measure => simp [intOf]; omega
    · obtain rfl : k = l.length := by omega
      rw [List.take_length] at h2
      have H1 := Lib.hid h1; have H2 := Lib.hid h2
      have HW : Hid ((wo.setRow w.heap.size (wv (tk l))).heap[w.heap.size]? = some (.cells (wv (tk l)) 105 (0, 0)) ∧ Below w.heap.size w (wo.setRow w.heap.size (wv (tk l)))) :=
        Lib.hid ⟨setRow_heap _ _ _ _ _ _ h1, below_setRow hb (Nat.le_refl _)⟩
      clear h1 h2 hb
      go_wp2_with (first
        | (refine wpList_load_row rfl 105 (.tmp 3) rfl (w.heap.size + 1) rfl 105 (wv (tk l)) (0, 0) _ H2.out Try.underlying105 rfl (by rw [zero_tick.2, wv, cells16_size]) ?_)
        | (refine wpList_store_row rfl 105 (.tmp 2) (.tmp 35) rfl w.heap.size (wv (tk l)) rfl rfl 105 zc H1.out (by rw [zero_tick.2, wv, cells16_size]) (by rw [HZ.out, wv, cells16_size]) (cells16_one _) ?_))
      exact bodyPost_ret (v := .agg (wv (tk l))) (results_cell_row (p := 2) (ty := 105) rfl _ _ w.heap.size 105 (wv (tk l)) (0, 0) _ rfl HW.out.1 Try.underlying105 rfl (by rw [zero_tick.2, wv, cells16_size])) rfl ⟨rfl, HW.out.2⟩
end Go.Proofs.Ytmmnnbgfomcihaa
