/- Plain facts on the varints of chapter 2: groups of seven bits, least first. No program. -/
import Derived.Handy
namespace Go.Proofs.Ytehmnipaiihndaa
/-- the varint of n -/
def uv (n : Nat) : List Nat := if n < 128 then [n] else (n % 128 + 128) :: uv (n / 128)
/-- what AppendUvarint appends -/
def enc1 (m : Int) : List Nat := if 0 ≤ m ∧ m ≤ 1000000000000 then uv m.toNat else []
/-- the varints of a list -/
def encs (l : List Int) : List Nat := l.flatMap enc1
/-- the groups up to the first byte below 128, at most f of them -/
def rdG : Nat → List Nat → Option (List Nat)
  | 0, _ => none
  | _ + 1, [] => none
  | f + 1, b :: bs => if b < 128 then some [b] else (rdG f bs).map (b :: ·)
/-- the integer of groups -/
def val : List Nat → Nat
  | [] => 0
  | b :: bs => b % 128 + 128 * val bs
/-- a shorter varint stands for the same integer -/
def padded (g : List Nat) : Bool := decide (1 < g.length) && (g.getLast?.getD 1 == 0)
/-- the integer that a varint at the head of a list stands for, and the varint's length -/
def rd (l : List Nat) : Option (Nat × Nat) :=
  match rdG 6 l with
  | none => none
  | some g => if padded g = true ∨ 1000000000000 < val g then none else some (val g, g.length)
theorem uv_small (n : Nat) (h : n < 128) : uv n = [n] := by rw [uv, if_pos h]
theorem uv_big (n : Nat) (h : 128 ≤ n) : uv n = (n % 128 + 128) :: uv (n / 128) := by rw [uv, if_neg (by omega)]
theorem uv_byte (n : Nat) : ∀ b ∈ uv n, b < 256 := by
  induction n using Nat.strongRecOn with
  | ind n ih =>
    by_cases h : n < 128
    · rw [uv_small n h]; simp; omega
    · rw [uv_big n (by omega)]
      intro b hb
      rcases List.mem_cons.1 hb with rfl | hb
      · omega
      · exact ih (n / 128) (by omega) b hb
theorem uv_len (f n : Nat) (h : n < 128 ^ (f + 1)) : (uv n).length ≤ f + 1 := by
  induction f generalizing n with
  | zero => rw [uv_small n (by simpa using h)]; simp
  | succ f ih =>
    by_cases hn : n < 128
    · rw [uv_small n hn]; simp
    · rw [uv_big n (by omega), List.length_cons]
      have := ih (n / 128) (by rw [Nat.pow_succ] at h; omega)
      omega
theorem uv_pos (n : Nat) : 0 < (uv n).length := by
  by_cases hn : n < 128
  · rw [uv_small n hn]; simp
  · rw [uv_big n (by omega)]; simp
theorem uv_len6 (n : Nat) (h : n ≤ 1000000000000) : (uv n).length ≤ 6 := uv_len 5 n (by omega)
theorem enc1_len (m : Int) : (enc1 m).length ≤ 6 := by
  unfold enc1
  by_cases h : 0 ≤ m ∧ m ≤ 1000000000000
  · rw [if_pos h]; exact uv_len6 _ (by omega)
  · rw [if_neg h]; simp
theorem enc1_byte (m : Int) : ∀ b ∈ enc1 m, b < 256 := by
  unfold enc1
  by_cases h : 0 ≤ m ∧ m ≤ 1000000000000
  · rw [if_pos h]; exact uv_byte _
  · rw [if_neg h]; simp
theorem enc1_in (m : Int) (h0 : 0 ≤ m) (h1 : m ≤ 1000000000000) : enc1 m = uv m.toNat := by unfold enc1; rw [if_pos ⟨h0, h1⟩]
theorem enc1_out (m : Int) (h : ¬ (0 ≤ m ∧ m ≤ 1000000000000)) : enc1 m = [] := by unfold enc1; rw [if_neg h]
theorem encs_len (l : List Int) : (encs l).length ≤ 6 * l.length := by
  unfold encs
  induction l with
  | nil => simp
  | cons m l ih => rw [List.flatMap_cons, List.length_append, List.length_cons]; have := enc1_len m; omega
theorem encs_byte (l : List Int) : ∀ b ∈ encs l, b < 256 := by
  intro b hb
  obtain ⟨m, _, hm⟩ := List.mem_flatMap.1 hb
  exact enc1_byte m b hm
theorem encs_one (m : Int) : encs [m] = enc1 m := by simp [encs]
theorem encs_snoc (l : List Int) (m : Int) : encs (l ++ [m]) = encs l ++ enc1 m := by simp [encs]
/-- a varint reads back, whatever follows -/
theorem rdG_uv (f n : Nat) (r : List Nat) (h : n < 128 ^ (f + 1)) : rdG (f + 1) (uv n ++ r) = some (uv n) := by
  induction f generalizing n with
  | zero =>
    have hn : n < 128 := by simpa using h
    rw [uv_small n hn]; simp [rdG, hn]
  | succ f ih =>
    by_cases hn : n < 128
    · rw [uv_small n hn]; simp [rdG, hn]
    · rw [uv_big n (by omega), List.cons_append, rdG, if_neg (by omega), ih (n / 128) (by rw [Nat.pow_succ] at h; omega)]
      rfl
theorem val_uv (n : Nat) : val (uv n) = n := by
  induction n using Nat.strongRecOn with
  | ind n ih =>
    by_cases h : n < 128
    · rw [uv_small n h]; simp [val]; omega
    · rw [uv_big n (by omega), val, ih (n / 128) (by omega)]; omega
theorem uv_ne (n : Nat) : uv n ≠ [] := by intro h; have := uv_pos n; rw [h] at this; simp at this
theorem uv_last (n : Nat) (h : 0 < n) : (uv n).getLast?.getD 1 ≠ 0 := by
  induction n using Nat.strongRecOn with
  | ind n ih =>
    by_cases hn : n < 128
    · rw [uv_small n hn]; simp; omega
    · rw [uv_big n (by omega), List.getLast?_cons_of_ne_nil (uv_ne _)]
      exact ih (n / 128) (by omega) (by omega)
theorem padded_uv (n : Nat) : padded (uv n) = false := by
  unfold padded
  rcases Nat.eq_zero_or_pos n with rfl | h
  · rw [uv_small 0 (by omega)]; rfl
  · rw [Bool.and_eq_false_iff]; right; simpa using uv_last n h
theorem rd_uv (n : Nat) (r : List Nat) (h : n ≤ 1000000000000) : rd (uv n ++ r) = some (n, (uv n).length) := by
  unfold rd
  rw [rdG_uv 5 n r (by omega)]
  show (if padded (uv n) = true ∨ 1000000000000 < val (uv n) then none else some (val (uv n), (uv n).length)) = _
  rw [val_uv, padded_uv, if_neg (by simp; omega)]
/-- the shape of groups: all but the last from 128 on, the last below -/
def Grp : List Nat → Prop
  | [] => False
  | [b] => b < 128
  | b :: bs => 128 ≤ b ∧ b < 256 ∧ Grp bs
theorem rdG_grp (f : Nat) (l g : List Nat) (hb : ∀ b ∈ l, b < 256) (h : rdG f l = some g) : Grp g ∧ g.length ≤ f ∧ ∃ r, l = g ++ r := by
  induction f generalizing l g with
  | zero => cases h
  | succ f ih =>
    match l, hb, h with
    | b :: bs, hb, h =>
      rw [rdG] at h
      by_cases hb1 : b < 128
      · rw [if_pos hb1] at h; injection h with h; subst h
        exact ⟨hb1, by simp, bs, rfl⟩
      · rw [if_neg hb1] at h
        cases hg : rdG f bs with
        | none => rw [hg] at h; cases h
        | some g' =>
          rw [hg] at h; injection h with h; subst h
          obtain ⟨h1, h2, r, h3⟩ := ih bs g' (fun x hx => hb x (by simp [hx])) hg
          refine ⟨?_, by simp; omega, r, by rw [h3]; rfl⟩
          match g', h1 with
          | c :: cs, h1 => exact ⟨by omega, hb b (by simp), h1⟩
theorem uv_of_grp (g : List Nat) (hg : Grp g) (hp : padded g = false) : uv (val g) = g := by
  induction g with
  | nil => cases hg
  | cons b bs ih =>
    match bs, hg, hp, ih with
    | [], hg, _, _ => have h : b < 128 := hg; simp only [val]; rw [uv_small _ (by omega)]; simp; omega
    | c :: cs, hg, hp, ih =>
      obtain ⟨h1, h2, h3⟩ : 128 ≤ b ∧ b < 256 ∧ Grp (c :: cs) := hg
      have hl : (c :: cs).getLast?.getD 1 ≠ 0 := by
        unfold padded at hp
        rw [List.getLast?_cons_of_ne_nil (by simp)] at hp
        simpa using hp
      have hp' : padded (c :: cs) = false := by
        unfold padded; rw [Bool.and_eq_false_iff]; right; simpa using hl
      have hv : 0 < val (c :: cs) := by
        have e := ih h3 hp'
        rcases Nat.eq_zero_or_pos (val (c :: cs)) with h0 | h0
        · rw [h0, uv_small 0 (by omega)] at e
          rw [← e] at hl; simp at hl
        · exact h0
      have e : val (b :: c :: cs) = b % 128 + 128 * val (c :: cs) := rfl
      rw [e, uv_big _ (by omega)]
      have e1 : (b % 128 + 128 * val (c :: cs)) / 128 = val (c :: cs) := by omega
      rw [e1, ih h3 hp']
      congr 1; omega
theorem rd_some (l : List Nat) (hb : ∀ b ∈ l, b < 256) (n k : Nat) (h : rd l = some (n, k)) :
    n ≤ 1000000000000 ∧ 0 < k ∧ k ≤ l.length ∧ k ≤ 6 ∧ uv n = l.take k := by
  unfold rd at h
  cases hg : rdG 6 l with
  | none => rw [hg] at h; cases h
  | some g =>
    rw [hg] at h
    obtain ⟨h1, h2, r, h3⟩ := rdG_grp 6 l g hb hg
    by_cases hc : padded g = true ∨ 1000000000000 < val g
    · simp only [if_pos hc] at h; cases h
    · simp only [if_neg hc] at h
      injection h with h; injection h with ha hk; subst ha hk
      have hp : padded g = false := by cases e : padded g; rfl; exact absurd (.inl e) hc
      have hv : val g ≤ 1000000000000 := by omega
      refine ⟨hv, ?_, by rw [h3]; simp, h2, ?_⟩
      · match g, h1 with
        | _ :: _, _ => simp
      · rw [uv_of_grp g h1 hp, h3, List.take_left]
/-! what a loop over the bytes sees -/
/-- the first k bytes are there and go on -/
def Pre (k : Nat) (l : List Nat) : Prop := k ≤ l.length ∧ ∀ b ∈ l.take k, 128 ≤ b
theorem Pre_zero (l : List Nat) : Pre 0 l := ⟨by omega, by simp⟩
theorem Pre_succ (k : Nat) (l : List Nat) (h : Pre k l) (hk : k < l.length) (hb : 128 ≤ l[k]) : Pre (k + 1) l :=
  ⟨by omega, fun b hm => by
    rw [List.take_succ_eq_append_getElem hk] at hm
    rcases List.mem_append.1 hm with hm | hm
    · exact h.2 b hm
    · simp at hm; omega⟩
theorem rdG_pre (f k : Nat) (l : List Nat) (h : Pre k l) : rdG (k + f) l = (rdG f (l.drop k)).map (l.take k ++ ·) := by
  induction k generalizing l with
  | zero => simp
  | succ k ih =>
    match l, h with
    | [], h => have := h.1; simp at this
    | b :: bs, h =>
      have hb : 128 ≤ b := h.2 b (by simp)
      have h' : Pre k bs := ⟨by have := h.1; simp at this; omega, fun c hc => h.2 c (by simp [hc])⟩
      rw [show k + 1 + f = (k + f) + 1 from by omega, rdG, if_neg (by omega), ih bs h', List.drop_succ_cons, List.take_succ_cons]
      cases rdG f (bs.drop k) <;> rfl
theorem rdG_stop (k : Nat) (l : List Nat) (h : Pre k l) (h6 : k < 6) (hk : k < l.length) (hb : l[k] < 128) : rdG 6 l = some (l.take (k + 1)) := by
  have e := rdG_pre (6 - k - 1 + 1) k l h
  rw [show k + (6 - k - 1 + 1) = 6 from by omega] at e
  rw [e, List.drop_eq_getElem_cons hk, rdG, if_pos hb, List.take_succ_eq_append_getElem hk]
  rfl
theorem rdG_end (k : Nat) (l : List Nat) (h : Pre k l) (hk : k = 6 ∨ k = l.length) (h6 : k ≤ 6) : rdG 6 l = none := by
  have e := rdG_pre (6 - k) k l h
  rw [show k + (6 - k) = 6 from by omega] at e
  rw [e]
  rcases hk with rfl | rfl
  · rfl
  · rw [List.drop_length]
    cases (6 - l.length) <;> rfl
theorem val_snoc (l : List Nat) (b : Nat) : val (l ++ [b]) = val l + (b % 128) * 128 ^ l.length := by
  induction l with
  | nil => simp [val]
  | cons c l ih =>
    rw [List.cons_append, val, ih, val, List.length_cons, Nat.pow_succ, Nat.mul_add, Nat.mul_left_comm, Nat.mul_comm 128 (128 ^ l.length)]
    omega
theorem val_lt (l : List Nat) : val l < 128 ^ l.length := by
  induction l with
  | nil => simp [val]
  | cons c l ih => rw [val, List.length_cons, Nat.pow_succ]; omega
theorem val_take (k : Nat) (l : List Nat) (hk : k < l.length) : val (l.take (k + 1)) = val (l.take k) + (l[k] % 128) * 128 ^ k := by
  rw [List.take_succ_eq_append_getElem hk, val_snoc, List.length_take, Nat.min_eq_left (by omega)]
end Go.Proofs.Ytehmnipaiihndaa
