/- Plain facts on spans: lists in order, the ticks of a list, cuts and counts. No program. -/
import Derived.Test.YtjobjjmeneddnaaSlices
namespace Go.Proofs.Ytjobjjmeneddnaa
/-- spans as cells -/
def sv (l : List (Int × Int)) : List Value := l.flatMap fun p => [.int .i64 p.1, .int .i64 p.2]
theorem sv_nil : sv [] = [] := rfl
theorem sv_cons (p : Int × Int) (l : List (Int × Int)) : sv (p :: l) = .int .i64 p.1 :: .int .i64 p.2 :: sv l := by simp [sv]
theorem sv_len (l : List (Int × Int)) : (sv l).length = l.length * 2 := by
  induction l with
  | nil => rfl
  | cons p l ih => rw [sv_cons]; simp [ih]; omega
theorem sv_app (l m : List (Int × Int)) : sv (l ++ m) = sv l ++ sv m := by simp [sv]
theorem sv_get0 (l : List (Int × Int)) (k : Nat) (h : k < l.length) : (sv l)[k * 2]? = some (.int .i64 l[k].1) := by
  induction l generalizing k with
  | nil => simp at h
  | cons p l ih =>
    rcases k with _ | k
    · rw [sv_cons]; simp
    · rw [sv_cons, show (k + 1) * 2 = k * 2 + 1 + 1 by omega, List.getElem?_cons_succ, List.getElem?_cons_succ, ih k (by simpa using h)]; rfl
theorem sv_get1 (l : List (Int × Int)) (k : Nat) (h : k < l.length) : (sv l)[k * 2 + 1]? = some (.int .i64 l[k].2) := by
  induction l generalizing k with
  | nil => simp at h
  | cons p l ih =>
    rcases k with _ | k
    · rw [sv_cons]; simp
    · rw [sv_cons, show (k + 1) * 2 + 1 = k * 2 + 1 + 1 + 1 by omega, List.getElem?_cons_succ, List.getElem?_cons_succ, ih k (by simpa using h)]; rfl
theorem sv_set0 (l : List (Int × Int)) (k : Nat) (h : k < l.length) (a : Int) : (sv l).set (k * 2) (.int .i64 a) = sv (l.set k (a, l[k].2)) := by
  induction l generalizing k with
  | nil => simp at h
  | cons p l ih =>
    rcases k with _ | k
    · simp [sv_cons]
    · rw [sv_cons, show (k + 1) * 2 = k * 2 + 1 + 1 by omega, List.set_cons_succ, List.set_cons_succ, ih k (by simpa using h), List.set_cons_succ, sv_cons]; rfl
theorem sv_set1 (l : List (Int × Int)) (k : Nat) (h : k < l.length) (a : Int) : (sv l).set (k * 2 + 1) (.int .i64 a) = sv (l.set k (l[k].1, a)) := by
  induction l generalizing k with
  | nil => simp at h
  | cons p l ih =>
    rcases k with _ | k
    · simp [sv_cons]
    · rw [sv_cons, show (k + 1) * 2 + 1 = k * 2 + 1 + 1 + 1 by omega, List.set_cons_succ, List.set_cons_succ, ih k (by simpa using h), List.set_cons_succ, sv_cons]; rfl
theorem sv_one (l : List (Int × Int)) : ∀ u ∈ sv l, u.oneCell' = true := by
  intro u hu
  obtain ⟨p, _, hp⟩ := List.mem_flatMap.1 hu
  rcases List.mem_cons.1 hp with rfl | hp
  · rfl
  · rcases List.mem_cons.1 hp with rfl | hp
    · rfl
    · cases hp
/-- integers of 64 bits -/
def I64 (z : Int) : Prop := -9223372036854775808 ≤ z ∧ z ≤ 9223372036854775807
def Rng (l : List (Int × Int)) : Prop := ∀ p ∈ l, I64 p.1 ∧ I64 p.2
theorem Rng.at_ {l : List (Int × Int)} (h : Rng l) {k : Nat} (hk : k < l.length) : (-9223372036854775808 ≤ l[k].1 ∧ l[k].1 ≤ 9223372036854775807) ∧ (-9223372036854775808 ≤ l[k].2 ∧ l[k].2 ≤ 9223372036854775807) := h _ (List.getElem_mem hk)
theorem Rng.nil : Rng [] := fun p hp => by cases hp
/-- a span that is valid; a tick of it; a tick of a valid span of a list -/
def isS (p : Int × Int) : Bool := decide (0 ≤ p.1 ∧ p.2 ≤ 1000 ∧ p.1 < p.2)
def inS (p : Int × Int) (t : Int) : Bool := decide ((0 ≤ p.1 ∧ p.2 ≤ 1000 ∧ p.1 < p.2) ∧ p.1 ≤ t ∧ t < p.2)
def inL (l : List (Int × Int)) (t : Int) : Bool := l.any fun p => inS p t
theorem isS_iff (p : Int × Int) : isS p = true ↔ 0 ≤ p.1 ∧ p.2 ≤ 1000 ∧ p.1 < p.2 := by simp [isS]
theorem inS_iff (p : Int × Int) (t : Int) : inS p t = true ↔ (0 ≤ p.1 ∧ p.2 ≤ 1000 ∧ p.1 < p.2) ∧ p.1 ≤ t ∧ t < p.2 := by simp [inS]
theorem inL_iff (l : List (Int × Int)) (t : Int) : inL l t = true ↔ ∃ p ∈ l, inS p t = true := by simp [inL]
theorem inL_nil (t : Int) : inL [] t = false := rfl
theorem inL_snoc (l : List (Int × Int)) (p : Int × Int) (t : Int) : inL (l ++ [p]) t = (inL l t || inS p t) := by simp [inL]
theorem inL_bd (l : List (Int × Int)) (t : Int) (h : inL l t = true) : 0 ≤ t ∧ t < 1000 := by
  obtain ⟨p, _, hp⟩ := (inL_iff l t).1 h
  have := (inS_iff p t).1 hp; omega
/-- the ticks of a list -/
def tk (l : List (Int × Int)) (k : Nat) : Bool := inL l (k : Int)
/-- the end of the last valid span -/
def lastStep (m : Int) (p : Int × Int) : Int := if isS p then (if m < p.2 then p.2 else m) else m
def lastOf (l : List (Int × Int)) : Int := l.foldl lastStep 0
theorem lastOf_snoc (l : List (Int × Int)) (p : Int × Int) : lastOf (l ++ [p]) = lastStep (lastOf l) p := by simp [lastOf]
theorem lastOf_bd (l : List (Int × Int)) : 0 ≤ lastOf l ∧ lastOf l ≤ 1000 := by
  suffices h : ∀ (l : List (Int × Int)) (m : Int), 0 ≤ m ∧ m ≤ 1000 → 0 ≤ l.foldl lastStep m ∧ l.foldl lastStep m ≤ 1000 from h l 0 (by omega)
  intro l
  induction l with
  | nil => intro m h; exact h
  | cons p l ih =>
    intro m h
    refine ih _ ?_
    unfold lastStep
    by_cases hs : isS p = true
    · rw [if_pos hs]; have := (isS_iff p).1 hs; split <;> omega
    · rw [if_neg hs]; exact h
theorem lastOf_max (l : List (Int × Int)) (t : Int) (h : inL l t = true) : t < lastOf l := by
  suffices hh : ∀ (l : List (Int × Int)) (m : Int), m ≤ l.foldl lastStep m ∧ (∀ p ∈ l, isS p = true → p.2 ≤ l.foldl lastStep m) by
    obtain ⟨p, hp, hi⟩ := (inL_iff l t).1 h
    have h1 := (inS_iff p t).1 hi
    have := (hh l 0).2 p hp ((isS_iff p).2 h1.1)
    unfold lastOf; omega
  intro l
  induction l with
  | nil => intro m; exact ⟨Int.le_refl _, fun p hp => by cases hp⟩
  | cons q l ih =>
    intro m
    obtain ⟨i1, i2⟩ := ih (lastStep m q)
    have hm : m ≤ lastStep m q ∧ (isS q = true → q.2 ≤ lastStep m q) := by
      unfold lastStep
      by_cases hs : isS q = true
      · rw [if_pos hs]; split <;> (refine ⟨by omega, fun _ => by omega⟩)
      · rw [if_neg hs]; exact ⟨Int.le_refl _, fun h => absurd h hs⟩
    refine ⟨Int.le_trans hm.1 i1, fun p hp hs => ?_⟩
    rcases List.mem_cons.1 hp with rfl | hp
    · exact Int.le_trans (hm.2 hs) i1
    · exact i2 p hp hs
/-- a tick laid behind a list in order -/
def endOf (l : List (Int × Int)) : Int × Int := l.getD (l.length - 1) (0, 0)
def grows (l : List (Int × Int)) (t : Int) : Bool := decide (0 < l.length ∧ (endOf l).2 = t)
def put (l : List (Int × Int)) (t : Int) : List (Int × Int) := if grows l t then l.set (l.length - 1) ((endOf l).1, t + 1) else l ++ [(t, t + 1)]
theorem endOf_at (l : List (Int × Int)) (h : 0 < l.length) : endOf l = l[l.length - 1]'(by omega) := by
  unfold endOf
  rw [List.getD_eq_getElem?_getD, List.getElem?_eq_getElem (by omega), Option.getD_some]
theorem put_len (l : List (Int × Int)) (t : Int) : (put l t).length ≤ l.length + 1 := by unfold put; split <;> simp
/-- the list in order with the ticks below n that S has -/
def runs (S : Nat → Bool) : Nat → List (Int × Int)
  | 0 => []
  | k + 1 => if S k then put (runs S k) (k : Int) else runs S k
theorem runs_len (S : Nat → Bool) (n : Nat) : (runs S n).length ≤ n := by
  induction n with
  | zero => exact Nat.le_refl _
  | succ n ih => unfold runs; split; have := put_len (runs S n) n; omega; omega
theorem runs_more (S : Nat → Bool) (m n : Nat) (hmn : m ≤ n) (h : ∀ k, m ≤ k → k < n → S k = false) : runs S n = runs S m := by
  induction n with
  | zero => rw [show m = 0 by omega]
  | succ n ih =>
    rcases Nat.lt_or_ge m (n + 1) with hlt | hge
    · show (if S n then _ else runs S n) = _
      rw [h n (by omega) (by omega)]
      exact ih (by omega) (fun k h1 h2 => h k h1 (by omega))
    · rw [show m = n + 1 by omega]
/-- how many ticks -/
def cnt (S : Nat → Bool) (a : Nat) : Nat → Nat
  | 0 => 0
  | n + 1 => (S a).toNat + cnt S (a + 1) n
theorem cnt_snoc (S : Nat → Bool) (a n : Nat) : cnt S a (n + 1) = cnt S a n + (S (a + n)).toNat := by
  induction n generalizing a with
  | zero => simp [cnt]
  | succ n ih =>
    rw [show cnt S a (n + 1 + 1) = (S a).toNat + cnt S (a + 1) (n + 1) from rfl, ih (a + 1), show cnt S a (n + 1) = (S a).toNat + cnt S (a + 1) n from rfl, show a + 1 + n = a + (n + 1) by omega]
    omega
theorem cnt_app (S : Nat → Bool) (a m n : Nat) : cnt S a (m + n) = cnt S a m + cnt S (a + m) n := by
  induction n with
  | zero => rfl
  | succ n ih => rw [show m + (n + 1) = m + n + 1 by omega, cnt_snoc, ih, cnt_snoc, show a + m + n = a + (m + n) by omega]; omega
theorem cnt_none (S : Nat → Bool) (a n : Nat) (h : ∀ k, a ≤ k → k < a + n → S k = false) : cnt S a n = 0 := by
  induction n with
  | zero => rfl
  | succ n ih => rw [cnt_snoc, ih (fun k h1 h2 => h k h1 (by omega)), h (a + n) (by omega) (by omega)]; rfl
theorem cnt_le (S : Nat → Bool) (a n : Nat) : cnt S a n ≤ n := by
  induction n with
  | zero => exact Nat.le_refl _
  | succ n ih => rw [cnt_snoc]; have := Bool.toNat_le (S (a + n)); omega
theorem cnt_mono (S T : Nat → Bool) (a n : Nat) (h : ∀ k, S k = true → T k = true) : cnt S a n ≤ cnt T a n := by
  induction n with
  | zero => exact Nat.le_refl _
  | succ n ih =>
    rw [cnt_snoc, cnt_snoc]
    have : (S (a + n)).toNat ≤ (T (a + n)).toNat := by
      cases hs : S (a + n)
      · exact Nat.zero_le _
      · rw [h _ hs]; exact Nat.le_refl _
    omega
theorem cnt_split (S T : Nat → Bool) (a n : Nat) : cnt (fun k => S k && T k) a n + cnt (fun k => S k && !T k) a n = cnt S a n := by
  induction n with
  | zero => rfl
  | succ n ih =>
    rw [cnt_snoc, cnt_snoc, cnt_snoc]
    cases hs : S (a + n) <;> cases ht : T (a + n) <;> simp <;> omega
theorem cnt_congr (S T : Nat → Bool) (a n : Nat) (h : ∀ k, S k = T k) : cnt S a n = cnt T a n := by rw [show S = T from funext h]
/-- the sum of the lengths -/
def sumL (l : List (Int × Int)) : Int := l.foldl (fun s p => s + p.2 - p.1) 0
theorem sumL_snoc (l : List (Int × Int)) (p : Int × Int) : sumL (l ++ [p]) = sumL l + p.2 - p.1 := by simp [sumL]
/-- what a list in order is good for -/
structure Good (l : List (Int × Int)) (S : Nat → Bool) (n : Nat) : Prop where
  bd : ∀ p ∈ l, 0 ≤ p.1 ∧ p.1 < p.2 ∧ p.2 ≤ n
  tick : ∀ t : Nat, (∃ p ∈ l, p.1 ≤ (t : Int) ∧ (t : Int) < p.2) ↔ t < n ∧ S t = true
  chain : ∀ i, (h : i + 1 < l.length) → (l[i]'(by omega)).2 < l[i + 1].1
  sum : sumL l = (cnt S 0 n : Int)
theorem getElem_congr' {l : List (Int × Int)} {i j : Nat} (h : i = j) (hi : i < l.length) : l[i] = l[j]'(h ▸ hi) := by subst h; rfl
theorem dropLast_snoc (l : List (Int × Int)) (h : 0 < l.length) : l = l.take (l.length - 1) ++ [l[l.length - 1]'(by omega)] := by
  have h1 := List.take_succ_eq_append_getElem (l := l) (i := l.length - 1) (by omega)
  rw [show l.length - 1 + 1 = l.length by omega, List.take_length] at h1
  exact h1
theorem good_put (l : List (Int × Int)) (S : Nat → Bool) (n : Nat) (h : Good l S n) (hs : S n = true) : Good (put l n) S (n + 1) := by
  unfold put
  by_cases hg : grows l n = true
  · rw [if_pos hg]
    have hg' : 0 < l.length ∧ (endOf l).2 = n := by simpa [grows] using hg
    obtain ⟨hl, he⟩ := hg'
    rw [endOf_at l hl] at he ⊢
    have hlast : l[l.length - 1] ∈ l := List.getElem_mem _
    have hb := h.bd _ hlast
    refine ⟨fun p hp => ?_, fun t => ?_, fun i hi => ?_, ?_⟩
    · rcases List.mem_or_eq_of_mem_set hp with hp | rfl
      · have := h.bd p hp; omega
      · simp only; omega
    · have ht := h.tick t
      constructor
      · rintro ⟨p, hp, h1, h2⟩
        rcases List.mem_or_eq_of_mem_set hp with hp | rfl
        · have := ht.1 ⟨p, hp, h1, h2⟩; exact ⟨by omega, this.2⟩
        · simp only at h1 h2
          rcases Nat.lt_or_ge t n with hlt | hge
          · have := ht.1 ⟨_, hlast, h1, by omega⟩; exact ⟨by omega, this.2⟩
          · obtain rfl : t = n := by omega
            exact ⟨by omega, hs⟩
      · rintro ⟨h1, h2⟩
        rcases Nat.lt_or_ge t n with hlt | hge
        · obtain ⟨p, hp, h3, h4⟩ := ht.2 ⟨hlt, h2⟩
          obtain ⟨i, hi, rfl⟩ := List.mem_iff_getElem.1 hp
          by_cases hi2 : i = l.length - 1
          · subst hi2
            exact ⟨_, List.mem_set (by omega) _, by simp only; omega, by simp only; omega⟩
          · refine ⟨l[i], ?_, h3, h4⟩
            have : (l.set (l.length - 1) (l[l.length - 1].1, (n : Int) + 1))[i]'(by simpa using hi) = l[i] := by
              rw [List.getElem_set_ne (by omega)]
            rw [← this]; exact List.getElem_mem _
        · obtain rfl : t = n := by omega
          exact ⟨_, List.mem_set (by omega) _, by simp only; omega, by simp only; omega⟩
    · rw [List.length_set] at hi
      have hc := h.chain i hi
      rw [List.getElem_set_ne (by omega)]
      by_cases h2 : i + 1 = l.length - 1
      · have e : l[i + 1].1 = (l[l.length - 1]).1 := by rw [getElem_congr' h2 hi]
        have : (l.set (l.length - 1) (l[l.length - 1].1, (n : Int) + 1))[i + 1]'(by simpa using hi) = (l[l.length - 1].1, (n : Int) + 1) := by
          rw [List.getElem_set, if_pos h2.symm]
        rw [this]; simp only; omega
      · rw [List.getElem_set_ne (by omega)]; exact hc
    · have h1 := dropLast_snoc l hl
      have h2 : l.set (l.length - 1) (l[l.length - 1].1, (n : Int) + 1) = l.take (l.length - 1) ++ [(l[l.length - 1].1, (n : Int) + 1)] := by
        have hk : (l.take (l.length - 1)).length = l.length - 1 := by rw [List.length_take]; omega
        refine List.ext_getElem (by simp; omega) fun i h3 h4 => ?_
        rw [List.getElem_set]
        by_cases hi : l.length - 1 = i
        · subst hi
          rw [if_pos rfl, List.getElem_append_right (by omega)]
          simp [hk]
        · rw [if_neg hi, List.getElem_append_left (by rw [hk]; rw [List.length_set] at h3; omega), List.getElem_take]
      have h3 := h.sum
      rw [h1, sumL_snoc] at h3
      rw [h2, sumL_snoc, cnt_snoc, Nat.zero_add, hs]
      simp only [Bool.toNat_true]
      omega
  · rw [if_neg hg]
    have hg' : ¬ (0 < l.length ∧ (endOf l).2 = n) := by simpa [grows] using hg
    refine ⟨fun p hp => ?_, fun t => ?_, fun i hi => ?_, ?_⟩
    · rcases List.mem_append.1 hp with hp | hp
      · have := h.bd p hp; omega
      · obtain rfl := List.mem_singleton.1 hp; simp only; omega
    · have ht := h.tick t
      constructor
      · rintro ⟨p, hp, h1, h2⟩
        rcases List.mem_append.1 hp with hp | hp
        · have := ht.1 ⟨p, hp, h1, h2⟩; exact ⟨by omega, this.2⟩
        · obtain rfl := List.mem_singleton.1 hp
          simp only at h1 h2
          obtain rfl : t = n := by omega
          exact ⟨by omega, hs⟩
      · rintro ⟨h1, h2⟩
        rcases Nat.lt_or_ge t n with hlt | hge
        · obtain ⟨p, hp, h3, h4⟩ := ht.2 ⟨hlt, h2⟩
          exact ⟨p, List.mem_append_left _ hp, h3, h4⟩
        · obtain rfl : t = n := by omega
          exact ⟨_, List.mem_append_right _ (List.mem_singleton.2 rfl), by simp only; omega, by simp only; omega⟩
    · rw [List.length_append, List.length_singleton] at hi
      rw [List.getElem_append_left (by omega)]
      by_cases h2 : i + 1 < l.length
      · rw [List.getElem_append_left h2]; exact h.chain i h2
      · rw [List.getElem_append_right (by omega)]
        have hl : 0 < l.length := by omega
        have e := endOf_at l hl
        have hb := h.bd _ (List.getElem_mem (l := l) (n := i) (by omega))
        have hne : (l[i]'(by omega)).2 ≠ n := fun e2 => hg' ⟨hl, by rw [e, getElem_congr' (show l.length - 1 = i by omega)]; exact e2⟩
        have e3 : ([((n : Int), (n : Int) + 1)] : List (Int × Int))[i + 1 - l.length]'(by simp; omega) = ((n : Int), (n : Int) + 1) := by
          rw [getElem_congr' (show i + 1 - l.length = 0 by omega)]; rfl
        rw [e3]; simp only; omega
    · rw [sumL_snoc, h.sum, cnt_snoc, Nat.zero_add, hs]
      simp only [Bool.toNat_true]
      omega
theorem good_runs (S : Nat → Bool) (n : Nat) : Good (runs S n) S n := by
  induction n with
  | zero => exact ⟨(fun p hp => by cases hp), (fun t => ⟨(fun ⟨p, hp, _⟩ => by cases hp), (fun h => by omega)⟩), (fun i hi => by simp [runs] at hi), rfl⟩
  | succ n ih =>
    unfold runs
    by_cases hs : S n = true
    · rw [if_pos hs]; exact good_put _ S n ih hs
    · rw [if_neg hs]
      refine ⟨fun p hp => by have := ih.bd p hp; omega, fun t => ?_, ih.chain, ?_⟩
      · rw [ih.tick t]
        constructor
        · rintro ⟨h1, h2⟩; exact ⟨by omega, h2⟩
        · rintro ⟨h1, h2⟩
          refine ⟨?_, h2⟩
          rcases Nat.lt_or_ge t n with hlt | hge
          · exact hlt
          · obtain rfl : t = n := by omega
            exact absurd h2 hs
      · rw [ih.sum, cnt_snoc, Nat.zero_add]
        have : S n = false := by simpa using hs
        rw [this]; simp
/-- the ticks of a list in order are those that it was made of -/
theorem tk_runs (S : Nat → Bool) (n : Nat) (hn : n ≤ 1000) (t : Nat) : tk (runs S n) t = (decide (t < n) && S t) := by
  have hg := good_runs S n
  have ht := hg.tick t
  rw [Bool.eq_iff_iff]
  unfold tk
  rw [inL_iff]
  simp only [Bool.and_eq_true, decide_eq_true_eq]
  rw [← ht]
  constructor
  · rintro ⟨p, hp, hi⟩; have := (inS_iff p t).1 hi; exact ⟨p, hp, by omega, by omega⟩
  · rintro ⟨p, hp, h1, h2⟩; have := hg.bd p hp; exact ⟨p, hp, (inS_iff p t).2 (by omega)⟩
theorem runs_rng (S : Nat → Bool) (n : Nat) (hn : n ≤ 1000) : Rng (runs S n) := fun p hp => by
  have := (good_runs S n).bd p hp
  unfold I64; omega
theorem runs_valid (S : Nat → Bool) (n : Nat) (hn : n ≤ 1000) : ∀ p ∈ runs S n, 0 ≤ p.1 ∧ p.1 < p.2 ∧ p.2 ≤ 1000 := fun p hp => by
  have := (good_runs S n).bd p hp; omega
theorem sum_runs (S : Nat → Bool) (n : Nat) : sumL (runs S n) = (cnt S 0 n : Int) := (good_runs S n).sum
/-- the answers of the chapter -/
def joinOf (l : List (Int × Int)) : List (Int × Int) := runs (tk l) 1000
def meetOf (l m : List (Int × Int)) : List (Int × Int) := runs (fun k => tk l k && tk m k) 1000
def cutOf (l m : List (Int × Int)) : List (Int × Int) := runs (fun k => tk l k && !tk m k) 1000
def ticksOf (l : List (Int × Int)) : Int := (cnt (tk l) 0 1000 : Nat)
theorem tk_out (l : List (Int × Int)) (k : Nat) (h : lastOf l ≤ (k : Int)) : tk l k = false := by
  cases ht : tk l k
  · rfl
  · have := lastOf_max l k ht; omega
theorem runs_last (l : List (Int × Int)) (S : Nat → Bool) (h : ∀ k, S k = true → tk l k = true) (n : Nat) (hn : (n : Int) = lastOf l) : runs S n = runs S 1000 := by
  refine (runs_more S n 1000 (by have := lastOf_bd l; omega) fun k h1 _ => ?_).symm
  cases hs : S k
  · rfl
  · have h2 := h k hs
    rw [tk_out l k (by omega)] at h2; cases h2
/-- a span without its first a and its last b ticks -/
def shS (a b : Int) (p : Int × Int) : List (Int × Int) := if a < p.2 - p.1 ∧ b < p.2 - p.1 - a then [(p.1 + a, p.2 - b)] else []
def shorten (a b : Int) (l : List (Int × Int)) : List (Int × Int) := l.flatMap (shS a b)
theorem shorten_snoc (a b : Int) (l : List (Int × Int)) (p : Int × Int) : shorten a b (l ++ [p]) = shorten a b l ++ shS a b p := by simp [shorten]
theorem shorten_len (a b : Int) (l : List (Int × Int)) : (shorten a b l).length ≤ l.length := by
  induction l with
  | nil => exact Nat.le_refl _
  | cons p l ih =>
    have h1 : (shS a b p).length ≤ 1 := by unfold shS; split <;> simp
    have h2 : shorten a b (p :: l) = shS a b p ++ shorten a b l := by simp [shorten]
    rw [h2, List.length_append, List.length_cons]; omega
def shortOf (l : List (Int × Int)) (a b : Int) : List (Int × Int) := if a < 0 ∨ b < 0 then [] else shorten a b (joinOf l)
theorem shortOf_mem (l : List (Int × Int)) (a b : Int) (p : Int × Int) (h : p ∈ shortOf l a b) : 0 ≤ a ∧ 0 ≤ b ∧ ∃ q ∈ joinOf l, a < q.2 - q.1 ∧ b < q.2 - q.1 - a ∧ p = (q.1 + a, q.2 - b) := by
  unfold shortOf at h
  by_cases hn : a < 0 ∨ b < 0
  · rw [if_pos hn] at h; cases h
  · rw [if_neg hn] at h
    obtain ⟨q, hq, hp⟩ := List.mem_flatMap.1 h
    unfold shS at hp
    split at hp
    · exact ⟨by omega, by omega, q, hq, by omega, by omega, List.mem_singleton.1 hp⟩
    · cases hp
theorem shortOf_rng (l : List (Int × Int)) (a b : Int) : Rng (shortOf l a b) := fun p hp => by
  obtain ⟨h1, h2, q, hq, h3, h4, rfl⟩ := shortOf_mem l a b p hp
  have := runs_valid (tk l) 1000 (by omega) q hq
  unfold I64; simp only; omega
theorem shortOf_len (l : List (Int × Int)) (a b : Int) : (shortOf l a b).length ≤ 1000 := by
  unfold shortOf
  split
  · simp
  · have h1 := shorten_len a b (joinOf l); have h2 := runs_len (tk l) 1000; unfold joinOf at h1 ⊢; omega
theorem tk_join (l : List (Int × Int)) (t : Nat) : tk (joinOf l) t = tk l t := by
  unfold joinOf
  rw [tk_runs _ _ (Nat.le_refl _)]
  cases h : tk l t
  · simp
  · have := inL_bd l t h; simp; omega
theorem tk_meet (l m : List (Int × Int)) (t : Nat) : tk (meetOf l m) t = (tk l t && tk m t) := by
  unfold meetOf
  rw [tk_runs _ _ (Nat.le_refl _)]
  cases h : tk l t
  · simp
  · have := inL_bd l t h; simp; intro; omega
theorem tk_cut (l m : List (Int × Int)) (t : Nat) : tk (cutOf l m) t = (tk l t && !tk m t) := by
  unfold cutOf
  rw [tk_runs _ _ (Nat.le_refl _)]
  cases h : tk l t
  · simp
  · have := inL_bd l t h; simp; intro; omega
theorem tk_short (l : List (Int × Int)) (a b : Int) (t : Nat) (h : tk (shortOf l a b) t = true) : tk l t = true := by
  obtain ⟨p, hp, hi⟩ := (inL_iff _ _).1 h
  obtain ⟨h1, h2, q, hq, h3, h4, rfl⟩ := shortOf_mem l a b p hp
  have hv := runs_valid (tk l) 1000 (by omega) q hq
  have h5 := (inS_iff _ _).1 hi
  simp only at h5
  rw [← tk_join]
  exact (inL_iff _ _).2 ⟨q, hq, (inS_iff q t).2 (by omega)⟩
theorem inL_neg (l : List (Int × Int)) (t : Int) (h : t < 0) : inL l t = false := by
  cases ht : inL l t
  · rfl
  · have := inL_bd l t ht; omega
/-- the same of ticks that may be negative -/
theorem inL_all (l m : List (Int × Int)) (S : Bool → Bool) (hS : S false = false) (h : ∀ t : Nat, tk l t = S (tk m t)) (t : Int) : inL l t = S (inL m t) := by
  rcases Int.lt_or_le t 0 with h0 | h0
  · rw [inL_neg l t h0, inL_neg m t h0, hS]
  · obtain ⟨k, rfl⟩ := Int.eq_ofNat_of_zero_le h0
    exact h k
theorem ticks_split (l m : List (Int × Int)) : ticksOf (meetOf l m) + ticksOf (cutOf l m) = ticksOf l := by
  unfold ticksOf
  rw [cnt_congr _ _ 0 1000 (tk_meet l m), cnt_congr _ _ 0 1000 (tk_cut l m)]
  have := cnt_split (tk l) (tk m) 0 1000
  omega
theorem ticks_short (l : List (Int × Int)) (a b : Int) : ticksOf (shortOf l a b) ≤ ticksOf l := by
  unfold ticksOf
  have := cnt_mono (tk (shortOf l a b)) (tk l) 0 1000 (tk_short l a b)
  omega
theorem ticks_bd (l : List (Int × Int)) : 0 ≤ ticksOf l ∧ ticksOf l ≤ 1000 := by
  unfold ticksOf
  have := cnt_le (tk l) 0 1000
  omega
theorem join_chain (l : List (Int × Int)) (i : Nat) (h : i + 1 < (joinOf l).length) : ((joinOf l)[i]'(by omega)).2 < (joinOf l)[i + 1].1 := (good_runs (tk l) 1000).chain i h
end Go.Proofs.Ytjobjjmeneddnaa
