/- Plain facts about numerals: which lists of bytes are the decimal form of a number. No program. -/
import Derived.Lib.ItoaNum
namespace Go.Proofs.YtpjkfkpfmjcjiaaDoor
theorem snocRec {α : Type} {P : List α → Prop} (nil : P []) (snoc : ∀ (r : List α) (c : α), P r → P (r ++ [c])) (l : List α) : P l := by
  have h : ∀ m : List α, P m.reverse := by
    intro m
    induction m with
    | nil => exact nil
    | cons a r ih => rw [List.reverse_cons]; exact snoc _ _ ih
  have := h l.reverse
  rwa [List.reverse_reverse] at this
/-- a decimal digit -/
def isDig (c : UInt8) : Bool := decide (48 ≤ c.toNat) && decide (c.toNat ≤ 57)
def digs (l : List UInt8) : Bool := l.all isDig
/-- the number that the digits write -/
def valOf (l : List UInt8) : Nat := l.foldl (fun n c => 10 * n + (c.toNat - 48)) 0
/-- how many bytes of l are b -/
def cnt (b : Nat) (l : List UInt8) : Nat := l.countP (fun c => decide (c.toNat = b))
/-- how many bytes of l are from 48 on and below k -/
def dcnt (k : Nat) (l : List UInt8) : Nat := l.countP (fun c => decide (48 ≤ c.toNat) && decide (c.toNat < k))
def lead (l : List UInt8) : Bool := decide (l.head? = some 48) && decide (1 < l.length)
/-- what the program's test of a numeral says -/
def isNum (l : List UInt8) : Bool := decide (1 ≤ l.length) && decide (l.length ≤ 13) && !lead l && digs l
/-- is l the decimal form of a number from 0 to MaxValue? -/
def pok (l : List UInt8) : Bool := isNum l && decide (valOf l ≤ 1000000000000)
def pval (l : List UInt8) : Nat := if pok l then valOf l else 0
theorem cnt_snoc (b : Nat) (l : List UInt8) (c : UInt8) : cnt b (l ++ [c]) = cnt b l + if c.toNat = b then 1 else 0 := by
  unfold cnt; rw [List.countP_append]; simp [List.countP_cons]
theorem dcnt_step (k : Nat) (h : 48 ≤ k) (l : List UInt8) : dcnt (k + 1) l = dcnt k l + cnt k l := by
  induction l with
  | nil => rfl
  | cons c r ih =>
    unfold dcnt cnt at *
    simp only [List.countP_cons] at *
    rw [ih]
    by_cases h1 : c.toNat = k
    · have e1 : (decide (48 ≤ c.toNat) && decide (c.toNat < k + 1)) = true := by simp; omega
      have e2 : (decide (48 ≤ c.toNat) && decide (c.toNat < k)) = false := by simp; omega
      have e3 : decide (c.toNat = k) = true := by simpa using h1
      rw [e1, e2, e3]; simp; omega
    · have e3 : decide (c.toNat = k) = false := by simpa using h1
      have e1 : (decide (48 ≤ c.toNat) && decide (c.toNat < k + 1)) = (decide (48 ≤ c.toNat) && decide (c.toNat < k)) := by
        rw [Bool.eq_iff_iff]; simp; omega
      rw [e1, e3]; simp; omega
theorem dcnt_zero (l : List UInt8) : dcnt 48 l = 0 := by
  unfold dcnt; rw [List.countP_eq_zero]; intro c _; simp
theorem dcnt_le (k : Nat) (l : List UInt8) : dcnt k l ≤ l.length := List.countP_le_length
theorem cnt_le (k : Nat) (l : List UInt8) : cnt k l ≤ l.length := List.countP_le_length
theorem dcnt_all (l : List UInt8) : decide ((dcnt 58 l : Int) = (l.length : Int)) = digs l := by
  rw [Bool.eq_iff_iff]
  unfold dcnt digs isDig
  rw [decide_eq_true_iff, Int.ofNat_inj, List.countP_eq_length, List.all_eq_true]
  constructor
  · intro h c hc; have := h c hc; simp only [Bool.and_eq_true, decide_eq_true_eq] at this ⊢; omega
  · intro h c hc; have := h c hc; simp only [Bool.and_eq_true, decide_eq_true_eq] at this ⊢; omega
theorem valOf_snoc (l : List UInt8) (c : UInt8) : valOf (l ++ [c]) = 10 * valOf l + (c.toNat - 48) := by
  unfold valOf; rw [List.foldl_append]; rfl
theorem digs_snoc (l : List UInt8) (c : UInt8) : digs (l ++ [c]) = (digs l && isDig c) := by
  unfold digs; rw [List.all_append]; simp
theorem valOf_lt (l : List UInt8) (h : digs l = true) : valOf l < 10 ^ l.length := by
  induction l using snocRec with
  | nil => simp [valOf]
  | snoc r c ih =>
    rw [digs_snoc, Bool.and_eq_true] at h
    have := ih h.1
    rw [valOf_snoc, List.length_append, List.length_singleton, Nat.pow_succ]
    have h2 := h.2
    unfold isDig at h2
    simp at h2
    omega
theorem dec_head (u : Nat) (h : 0 < u) : (Lib.decDigits u).head? ≠ some 48 := by
  induction u using Nat.strongRecOn with
  | _ u ih =>
    rw [Lib.decDigits]
    by_cases h2 : u < 10
    · rw [dif_pos h2]
      intro e
      have e2 := Option.some.inj (by simpa using e : some (UInt8.ofNat (48 + u)) = some 48)
      have e3 := congrArg UInt8.toNat e2
      rw [UInt8.toNat_ofNat'] at e3
      simp at e3; omega
    · rw [dif_neg h2]
      have := ih (u / 10) (by omega) (by omega)
      intro e
      apply this
      have hne : Lib.decDigits (u / 10) ≠ [] := by
        intro e0
        have := Lib.decDigits_length (u / 10)
        have h3 := Lib.nDigits_pos (u / 10)
        rw [e0] at this; simp at this; omega
      cases hd : Lib.decDigits (u / 10) with
      | nil => exact absurd hd hne
      | cons a r => rw [hd] at e; simpa using e
theorem byte_back (c : UInt8) (h : 48 ≤ c.toNat) : UInt8.ofNat (48 + (c.toNat - 48)) = c := by
  rw [show 48 + (c.toNat - 48) = c.toNat by omega]; simp
/-- without a leading zero the digits are the decimal form of their number -/
theorem dec_valOf (l : List UInt8) (hd : digs l = true) (h1 : 1 ≤ l.length) (hl : l.head? ≠ some 48 ∨ l.length = 1) : Lib.decDigits (valOf l) = l ∧ (l.head? ≠ some 48 → 1 ≤ valOf l) := by
  induction l using snocRec with
  | nil => simp at h1
  | snoc r c ih =>
    rw [digs_snoc, Bool.and_eq_true] at hd
    obtain ⟨hdr, hdc⟩ := hd
    unfold isDig at hdc
    simp only [Bool.and_eq_true, decide_eq_true_eq] at hdc
    rw [valOf_snoc]
    cases r with
    | nil =>
      simp only [List.nil_append, List.head?_cons] at *
      have hv : valOf [] = 0 := rfl
      rw [hv]
      refine ⟨?_, ?_⟩
      · rw [Lib.decDigits, dif_pos (by omega)]
        simp only [Nat.mul_zero, Nat.zero_add]
        rw [byte_back c hdc.1]
      · intro hne
        have : c.toNat ≠ 48 := fun e => hne (by rw [← UInt8.toNat_inj.1 (e.trans (by rfl : (48 : Nat) = (48 : UInt8).toNat))])
        omega
    | cons a r =>
      have hne : (a :: r).head? ≠ some 48 := by
        rcases hl with h | h
        · simpa using h
        · simp at h
      obtain ⟨i1, i2⟩ := ih hdr (by simp) (Or.inl hne)
      have i3 := i2 hne
      refine ⟨?_, fun _ => by omega⟩
      rw [Lib.decDigits, dif_neg (by omega)]
      have e1 : (10 * valOf (a :: r) + (c.toNat - 48)) / 10 = valOf (a :: r) := by omega
      have e2 : (10 * valOf (a :: r) + (c.toNat - 48)) % 10 = c.toNat - 48 := by omega
      rw [e1, e2, i1, byte_back c hdc.1]
/-- of digits: the decimal form of their number is they themselves just if there is no leading zero -/
theorem itoa_valOf (l : List UInt8) (hd : digs l = true) (h1 : 1 ≤ l.length) : decide (Lib.itoa (valOf l : Int) = l) = !lead l := by
  have hi : Lib.itoa (valOf l : Int) = Lib.decDigits (valOf l) := by
    unfold Lib.itoa; rw [if_neg (by omega)]; simp
  rw [hi, Bool.eq_iff_iff]
  unfold lead
  simp only [decide_eq_true_eq, Bool.not_eq_true', Bool.and_eq_false_iff, decide_eq_false_iff_not]
  constructor
  · intro e
    by_cases h2 : l.head? = some 48
    · refine Or.inr ?_
      by_cases h3 : valOf l = 0
      · rw [h3] at e
        have : Lib.decDigits 0 = [48] := by rw [Lib.decDigits]; rfl
        rw [← e, this]; simp
      · exact absurd (by rw [e]; exact h2) (dec_head (valOf l) (by omega))
    · exact Or.inl h2
  · intro h
    refine (dec_valOf l hd h1 ?_).1
    rcases h with h | h
    · exact Or.inl h
    · exact Or.inr (by omega)
theorem dec_digs (u : Nat) : digs (Lib.decDigits u) = true := by
  induction u using Nat.strongRecOn with
  | _ u ih =>
    rw [Lib.decDigits]
    have hb : ∀ r, r < 10 → isDig (UInt8.ofNat (48 + r)) = true := by
      intro r hr; unfold isDig; rw [UInt8.toNat_ofNat']; simp; omega
    by_cases h2 : u < 10
    · rw [dif_pos h2]; unfold digs; rw [List.all_cons, hb u h2]; rfl
    · rw [dif_neg h2, digs_snoc, ih (u / 10) (by omega), hb _ (by omega)]; rfl
theorem dec_val (u : Nat) : valOf (Lib.decDigits u) = u := by
  induction u using Nat.strongRecOn with
  | _ u ih =>
    rw [Lib.decDigits]
    have hb : ∀ r, r < 10 → (UInt8.ofNat (48 + r)).toNat - 48 = r := by
      intro r hr; rw [UInt8.toNat_ofNat']; omega
    by_cases h2 : u < 10
    · rw [dif_pos h2]; show 10 * 0 + _ = u; rw [hb u h2]; omega
    · rw [dif_neg h2, valOf_snoc, ih (u / 10) (by omega), hb _ (by omega)]; omega
theorem dec_lead (u : Nat) : lead (Lib.decDigits u) = false := by
  unfold lead
  by_cases h : 0 < u
  · rw [decide_eq_false (dec_head u h)]; rfl
  · have : u = 0 := by omega
    subst this
    rw [Lib.decDigits_length, Lib.nDigits_small (by omega)]; simp
theorem nDigits_le (k u : Nat) (h : u < 10 ^ (k + 1)) : Lib.nDigits u ≤ k + 1 := by
  induction k generalizing u with
  | zero => rw [Lib.nDigits_small (by simpa using h)]; exact Nat.le_refl _
  | succ k ih =>
    by_cases h2 : u < 10
    · rw [Lib.nDigits_small h2]; omega
    · rw [Lib.nDigits_big h2]
      have := ih (u / 10) (by rw [Nat.pow_succ] at h; omega)
      omega
/-- the decimal form of a number in range is parsed to it; no other one's is -/
theorem pok_itoa (m : Int) : pok (Lib.itoa m) = (decide (0 ≤ m) && decide (m ≤ 1000000000000)) := by
  by_cases h : 0 ≤ m
  · obtain ⟨u, rfl⟩ : ∃ u : Nat, m = u := ⟨m.toNat, by omega⟩
    have hi : Lib.itoa (u : Int) = Lib.decDigits u := by unfold Lib.itoa; rw [if_neg (by omega)]; simp
    rw [hi, decide_eq_true h, Bool.true_and]
    unfold pok
    rw [dec_val]
    by_cases h2 : u ≤ 1000000000000
    · have hn : isNum (Lib.decDigits u) = true := by
        unfold isNum
        rw [dec_lead, dec_digs, Lib.decDigits_length, decide_eq_true (Lib.nDigits_pos u), decide_eq_true (nDigits_le 12 u (by omega))]; rfl
      rw [hn, decide_eq_true h2, decide_eq_true (by omega)]; rfl
    · rw [decide_eq_false h2, decide_eq_false (by omega)]; simp
  · rw [decide_eq_false h, Bool.false_and]
    have hd : digs (Lib.itoa m) = false := by
      unfold Lib.itoa digs; rw [if_pos (by omega), List.all_cons]
      have : isDig 45 = false := by decide
      rw [this]; rfl
    unfold pok isNum; rw [hd]; simp
theorem pval_itoa (m : Int) (h : 0 ≤ m) (h2 : m ≤ 1000000000000) : (pval (Lib.itoa m) : Int) = m := by
  have hp := pok_itoa m
  rw [decide_eq_true h, decide_eq_true h2, Bool.and_self] at hp
  unfold pval; rw [hp, if_pos rfl]
  obtain ⟨u, rfl⟩ : ∃ u : Nat, m = u := ⟨m.toNat, by omega⟩
  have hi : Lib.itoa (u : Int) = Lib.decDigits u := by unfold Lib.itoa; rw [if_neg (by omega)]; simp
  rw [hi, dec_val]
theorem itoa_pval (l : List UInt8) (h : pok l = true) : Lib.itoa (pval l : Int) = l := by
  have h' := h
  unfold pok isNum at h
  simp only [Bool.and_eq_true, decide_eq_true_eq, Bool.not_eq_true'] at h
  unfold pval; rw [h', if_pos rfl]
  have := itoa_valOf l h.1.2 h.1.1.1.1
  rw [h.1.1.2] at this
  exact of_decide_eq_true (by rw [this]; rfl)
theorem pval_le (l : List UInt8) : pval l ≤ 1000000000000 := by
  unfold pval
  by_cases h : pok l = true
  · rw [if_pos h]; unfold pok at h; simp at h; exact h.2
  · rw [if_neg h]; omega
end Go.Proofs.YtpjkfkpfmjcjiaaDoor
