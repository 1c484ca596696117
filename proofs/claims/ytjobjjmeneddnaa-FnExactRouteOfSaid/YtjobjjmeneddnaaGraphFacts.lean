/- Graphs in time in plain words: the links at a tick, the ticks at which they change, the pieces between, a node's neighbors. No program. -/
import Derived.Test.YtjobjjmeneddnaaContactFacts
namespace Go.Proofs.Ytjobjjmeneddnaa
open Go.ChangeShapes Go.WideShapes Go.ChangeAt Go.RowKit
set_option linter.unusedVariables false
/-- the nodes of a contact -/
def conN (x : Sat4) : Int × Int := (x.p, x.h)
/-- a contact's link is laid behind those that are there -/
def linkStep (t : Int) (out : List (Int × Int)) (x : Sat4) : List (Int × Int) := if inS (conS x) t = true ∧ conN x ∉ out then out ++ [conN x] else out
def linksL (l : List Sat4) (t : Int) : List (Int × Int) := l.foldl (linkStep t) []
theorem linksL_snoc (l : List Sat4) (k : Nat) (hk : k < l.length) (t : Int) : linksL (l.take (k + 1)) t = linkStep t (linksL (l.take k) t) l[k] := by
  unfold linksL
  rw [List.take_succ_eq_append_getElem hk, List.foldl_append]; rfl
theorem linkStep_len (t : Int) (out : List (Int × Int)) (x : Sat4) : (linkStep t out x).length ≤ out.length + 1 := by unfold linkStep; split <;> simp
theorem linksL_len (l : List Sat4) (t : Int) : (linksL l t).length ≤ l.length := by
  suffices h : ∀ (l : List Sat4) (o : List (Int × Int)), (l.foldl (linkStep t) o).length ≤ o.length + l.length by simpa [linksL] using h l []
  intro l
  induction l with
  | nil => intro o; simp
  | cons x l ih =>
    intro o
    have h1 := ih (linkStep t o x); have h2 := linkStep_len t o x
    rw [List.foldl_cons, List.length_cons]; omega
theorem mem_links (l : List Sat4) (t : Int) (r : Int × Int) : r ∈ linksL l t ↔ ∃ x ∈ l, inS (conS x) t = true ∧ conN x = r := by
  suffices h : ∀ (l : List Sat4) (o : List (Int × Int)), r ∈ l.foldl (linkStep t) o ↔ r ∈ o ∨ ∃ x ∈ l, inS (conS x) t = true ∧ conN x = r by simpa [linksL] using h l []
  intro l
  induction l with
  | nil => intro o; simp
  | cons x l ih =>
    intro o
    rw [List.foldl_cons, ih]
    unfold linkStep
    by_cases h : inS (conS x) t = true ∧ conN x ∉ o
    · rw [if_pos h]
      rw [List.mem_append, List.mem_singleton]
      simp only [List.mem_cons, exists_eq_or_imp]
      constructor
      · rintro ((h1 | h1) | h1)
        · exact .inl h1
        · exact .inr (.inl ⟨h.1, h1.symm⟩)
        · exact .inr (.inr h1)
      · rintro (h1 | ⟨_, h1⟩ | h1)
        · exact .inl (.inl h1)
        · exact .inl (.inr h1.symm)
        · exact .inr h1
    · rw [if_neg h]
      simp only [List.mem_cons, exists_eq_or_imp]
      constructor
      · rintro (h1 | h1)
        · exact .inl h1
        · exact .inr (.inr h1)
      · rintro (h1 | ⟨h0, h1⟩ | h1)
        · exact .inl h1
        · subst h1
          exact .inl (Classical.byContradiction fun hn => h ⟨h0, hn⟩)
        · exact .inr h1
/-- each link stands there once -/
theorem nodup_links (l : List Sat4) (t : Int) : (linksL l t).Nodup := by
  suffices h : ∀ (l : List Sat4) (o : List (Int × Int)), o.Nodup → (l.foldl (linkStep t) o).Nodup from h l [] List.nodup_nil
  intro l
  induction l with
  | nil => intro o h; exact h
  | cons x l ih =>
    intro o h
    rw [List.foldl_cons]
    refine ih _ ?_
    unfold linkStep
    split
    · rename_i hx
      rw [List.nodup_append]
      exact ⟨h, by simp, fun a ha b hb e => by obtain rfl := List.mem_singleton.1 hb; subst e; exact hx.2 ha⟩
    · exact h
theorem links_rng (l : List Sat4) (h : ∀ x ∈ l, J64 x.p ∧ J64 x.h) (t : Int) : Rng (linksL l t) := fun r hr => by
  obtain ⟨x, hx, _, rfl⟩ := (mem_links l t r).1 hr
  exact h x hx
/-- the ticks from a + 1 to a + n at which L differs from what it was a tick before -/
def chg {α : Type} [DecidableEq α] (L : Int → α) (a : Int) : Nat → List Int
  | 0 => []
  | n + 1 => chg L a n ++ if L (a + n) = L (a + n + 1) then [] else [a + n + 1]
section
variable {α : Type} [DecidableEq α] {L : Int → α} {a : Int} {n : Nat}
theorem mem_chg (t : Int) : t ∈ chg L a n ↔ a < t ∧ t ≤ a + n ∧ L (t - 1) ≠ L t := by
  induction n with
  | zero => simp [chg]; omega
  | succ n ih =>
    unfold chg
    rw [List.mem_append, ih]
    by_cases h : L (a + n) = L (a + n + 1)
    · rw [if_pos h]
      constructor
      · rintro (⟨h1, h2, h3⟩ | h1)
        · exact ⟨h1, by omega, h3⟩
        · cases h1
      · rintro ⟨h1, h2, h3⟩
        by_cases e : t = a + n + 1
        · subst e
          rw [show a + n + 1 - 1 = a + n by omega] at h3
          exact absurd h h3
        · exact .inl ⟨h1, by omega, h3⟩
    · rw [if_neg h, List.mem_singleton]
      constructor
      · rintro (⟨h1, h2, h3⟩ | rfl)
        · exact ⟨h1, by omega, h3⟩
        · exact ⟨by omega, by omega, by rw [show a + n + 1 - 1 = a + n by omega]; exact h⟩
      · rintro ⟨h1, h2, h3⟩
        by_cases e : t = a + n + 1
        · exact .inr e
        · exact .inl ⟨h1, by omega, h3⟩
theorem chg_asc : (chg L a n).Pairwise (· < ·) := by
  induction n with
  | zero => exact List.Pairwise.nil
  | succ n ih =>
    unfold chg
    rw [List.pairwise_append]
    refine ⟨ih, by split <;> simp, fun x hx y hy => ?_⟩
    have h1 := (mem_chg x).1 hx
    split at hy
    · cases hy
    · obtain rfl := List.mem_singleton.1 hy
      omega
theorem chg_len : (chg L a n).length ≤ n := by
  induction n with
  | zero => exact Nat.le_refl _
  | succ n ih => unfold chg; rw [List.length_append]; split <;> simp <;> omega
end
/-- two lists in ascending order with the same members are one -/
theorem asc_eq {l m : List Int} (hl : l.Pairwise (· < ·)) (hm : m.Pairwise (· < ·)) (h : ∀ x, x ∈ l ↔ x ∈ m) : l = m := by
  induction l generalizing m with
  | nil =>
    cases m with
    | nil => rfl
    | cons y m => exact absurd ((h y).2 List.mem_cons_self) (by simp)
  | cons x l ih =>
    cases m with
    | nil => exact absurd ((h x).1 List.mem_cons_self) (by simp)
    | cons y m =>
      rw [List.pairwise_cons] at hl hm
      have e : x = y := by
        rcases List.mem_cons.1 ((h x).1 List.mem_cons_self) with e | e
        · exact e
        · rcases List.mem_cons.1 ((h y).2 List.mem_cons_self) with e2 | e2
          · exact e2.symm
          · have h1 := hl.1 y e2; have h2 := hm.1 x e; omega
      subst e
      rw [ih hl.2 hm.2 fun z => ⟨fun hz => ?_, fun hz => ?_⟩]
      · rcases List.mem_cons.1 ((h z).1 (List.mem_cons_of_mem _ hz)) with e | e
        · subst e; have := hl.1 _ hz; omega
        · exact e
      · rcases List.mem_cons.1 ((h z).2 (List.mem_cons_of_mem _ hz)) with e | e
        · subst e; have := hm.1 _ hz; omega
        · exact e
/-- the spans between the ends c, from u on -/
def pcs (u : Int) : List Int → List (Int × Int)
  | [] => []
  | c :: cs => (u, c) :: pcs c cs
/-- the last end -/
def lastE (u : Int) : List Int → Int
  | [] => u
  | c :: cs => lastE c cs
theorem pcs_snoc (u : Int) (l : List Int) (c : Int) : pcs u (l ++ [c]) = pcs u l ++ [(lastE u l, c)] := by
  induction l generalizing u with
  | nil => rfl
  | cons x l ih => rw [List.cons_append]; unfold pcs lastE; rw [ih]; rfl
theorem lastE_snoc (u : Int) (l : List Int) (c : Int) : lastE u (l ++ [c]) = c := by
  induction l generalizing u with
  | nil => rfl
  | cons x l ih => rw [List.cons_append]; unfold lastE; exact ih x
theorem pcs_len (u : Int) (l : List Int) : (pcs u l).length = l.length := by
  induction l generalizing u with
  | nil => rfl
  | cons x l ih => unfold pcs; simp [ih]
/-- a piece: from the end before it to its own -/
theorem pcs_get (u : Int) (l : List Int) (i : Nat) (h : i < l.length) : (pcs u l)[i]'(by rw [pcs_len]; exact h) = ((u :: l)[i]'(by simp; omega), l[i]) := by
  induction l generalizing u i with
  | nil => simp at h
  | cons x l ih =>
    cases i with
    | zero => rfl
    | succ i =>
      have := ih x i (by simpa using h)
      simpa [pcs] using this
/-- all pieces of a range -/
def piecesL (l : List Sat4) (a b : Int) : List (Int × Int) := if isS (a, b) = true then pcs a (chg (linksL l) a (b - 1 - a).toNat ++ [b]) else []
section
variable {l : List Sat4} {a b : Int}
theorem pieces_len (l : List Sat4) (a b : Int) : (piecesL l a b).length ≤ 1000 := by
  unfold piecesL
  split
  · rename_i h
    have h1 := (isS_iff _).1 h
    simp only at h1
    rw [pcs_len, List.length_append]
    have := chg_len (L := linksL l) (a := a) (n := (b - 1 - a).toNat)
    simp; omega
  · simp
/-- the ends of the pieces -/
theorem ends_asc (h : a < b) : (a :: (chg (linksL l) a (b - 1 - a).toNat ++ [b])).Pairwise (· < ·) := by
  rw [List.pairwise_cons, List.pairwise_append]
  refine ⟨fun x hx => ?_, chg_asc, by simp, fun x hx y hy => ?_⟩
  · rcases List.mem_append.1 hx with hx | hx
    · exact ((mem_chg x).1 hx).1
    · obtain rfl := List.mem_singleton.1 hx; exact h
  · obtain rfl := List.mem_singleton.1 hy
    have := (mem_chg x).1 hx
    omega
/-- piece i of a range -/
structure Piece (l : List Sat4) (a b : Int) (i : Nat) (p : Int × Int) : Prop where
  lo : a ≤ p.1
  lt : p.1 < p.2
  hi : p.2 ≤ b
  same : ∀ t, p.1 ≤ t → t < p.2 → linksL l t = linksL l p.1
  first : i = 0 → p.1 = a
  last : i + 1 = (piecesL l a b).length → p.2 = b
theorem piece_at (hs : isS (a, b) = true) (i : Nat) (h : i < (piecesL l a b).length) : Piece l a b i (piecesL l a b)[i] ∧ ∀ j, (hj : j + 1 = i) → ((piecesL l a b)[j]'(by omega)).2 = (piecesL l a b)[i].1 ∧ linksL l ((piecesL l a b)[j]'(by omega)).1 ≠ linksL l (piecesL l a b)[i].1 := by
  have hab := (isS_iff _).1 hs
  simp only at hab
  obtain ⟨C, hC⟩ : ∃ C, C = chg (linksL l) a (b - 1 - a).toNat := ⟨_, rfl⟩
  have hp : piecesL l a b = pcs a (C ++ [b]) := by unfold piecesL; rw [if_pos hs, hC]
  have hasc : (a :: (C ++ [b])).Pairwise (· < ·) := by rw [hC]; exact ends_asc (by omega)
  have hlen : (piecesL l a b).length = C.length + 1 := by rw [hp, pcs_len]; simp
  have hget : ∀ i, (h : i < (piecesL l a b).length) → (piecesL l a b)[i] = ((a :: (C ++ [b]))[i]'(by simp; omega), (C ++ [b])[i]'(by simp; omega)) := by
    intro i h
    have := pcs_get a (C ++ [b]) i (by simp; omega)
    simp only [hp]; exact this
  have hC' : ∀ t, t ∈ C ↔ a < t ∧ t < b ∧ linksL l (t - 1) ≠ linksL l t := fun t => by
    rw [hC, mem_chg]
    constructor
    · rintro ⟨h1, h2, h3⟩; exact ⟨h1, by omega, h3⟩
    · rintro ⟨h1, h2, h3⟩; exact ⟨h1, by omega, h3⟩
  have hbd : ∀ i, (h : i < (a :: (C ++ [b])).length) → a ≤ (a :: (C ++ [b]))[i] ∧ (a :: (C ++ [b]))[i] ≤ b := fun i h => by
    have hm := List.getElem_mem h
    rcases List.mem_cons.1 hm with e | e
    · rw [e]; omega
    · rcases List.mem_append.1 e with e | e
      · have := (hC' _).1 e; omega
      · rw [List.mem_singleton.1 e]; omega
  have key : ∀ i, (h : i < (piecesL l a b).length) → Piece l a b i (piecesL l a b)[i] := by
    intro i h
    rw [hget i h]
    have hi1 : i < (a :: (C ++ [b])).length := by simp; omega
    have hi2 : i + 1 < (a :: (C ++ [b])).length := by simp; omega
    have e2 : (C ++ [b])[i]'(by simp; omega) = (a :: (C ++ [b]))[i + 1] := rfl
    have hlt := List.pairwise_iff_getElem.1 hasc i (i + 1) hi1 hi2 (by omega)
    have hb1 := hbd i hi1; have hb2 := hbd (i + 1) hi2
    rw [e2]
    refine ⟨hb1.1, hlt, hb2.2, ?_, fun e => by subst e; rfl, fun e => ?_⟩
    · intro t h1 h2
      simp only at h1 h2 ⊢
      obtain ⟨d, rfl⟩ : ∃ d : Nat, t = (a :: (C ++ [b]))[i] + d := ⟨(t - (a :: (C ++ [b]))[i]).toNat, by omega⟩
      induction d with
      | zero => simp
      | succ d ih =>
        rw [← ih (by omega) (by omega)]
        apply Classical.byContradiction
        intro hne
        have hm : (a :: (C ++ [b]))[i] + ((d + 1 : Nat) : Int) ∈ C := (hC' _).2 ⟨by omega, by omega, fun e => hne (by rw [← e]; congr 1; omega)⟩
        obtain ⟨q, hq, eq⟩ := List.getElem_of_mem hm
        have eq2 : (a :: (C ++ [b]))[q + 1]'(by simp; omega) = (a :: (C ++ [b]))[i] + ((d + 1 : Nat) : Int) := by
          rw [← eq]; show (C ++ [b])[q]'(by simp; omega) = _
          rw [List.getElem_append_left hq]
        by_cases hqi : q + 1 ≤ i
        · by_cases hqe : q + 1 = i
          · subst hqe; omega
          · have := List.pairwise_iff_getElem.1 hasc (q + 1) i (by simp; omega) hi1 (by omega); omega
        · by_cases hqe : q + 1 = i + 1
          · have : q = i := by omega
            subst this; omega
          · have := List.pairwise_iff_getElem.1 hasc (i + 1) (q + 1) hi2 (by simp; omega) (by omega); omega
    · have : i = C.length := by omega
      subst this
      show (C ++ [b])[C.length]'(by simp) = b
      simp
  refine ⟨key i h, fun j hj => ?_⟩
  subst hj
  have hP := key j (by omega)
  have e1 : ((piecesL l a b)[j]'(by omega)).2 = (piecesL l a b)[j + 1].1 := by rw [hget j (by omega), hget (j + 1) h]; rfl
  refine ⟨e1, fun e => ?_⟩
  have hm : (piecesL l a b)[j + 1].1 ∈ C := by
    rw [hget (j + 1) h]
    show (C ++ [b])[j]'(by simp; omega) ∈ C
    rw [List.getElem_append_left (by omega)]
    exact List.getElem_mem _
  have h3 := (hC' _).1 hm
  have h4 := hP.same ((piecesL l a b)[j + 1].1 - 1) (by have := hP.lt; omega) (by omega)
  rw [h4] at h3
  exact h3.2.2 e
theorem pieces_none (h : isS (a, b) = false) : piecesL l a b = [] := by unfold piecesL; rw [if_neg (by rw [h]; simp)]
theorem pieces_some (h : isS (a, b) = true) : 0 < (piecesL l a b).length := by unfold piecesL; rw [if_pos h, pcs_len]; simp
end
/-- the other end of a link of v -/
def farE (v : Int) (x : Int × Int) : Option Int := if x.1 = v then some x.2 else if x.2 = v then some x.1 else none
/-- a number laid into a list in ascending order -/
def insN : List Int → Int → List Int
  | [], n => [n]
  | x :: xs, n => if x < n then x :: insN xs n else if x = n then x :: xs else n :: x :: xs
def nbStep (v : Int) (out : List Int) (x : Int × Int) : List Int := match farE v x with | some n => insN out n | none => out
def nbL (l : List (Int × Int)) (v : Int) : List Int := l.foldl (nbStep v) []
theorem nbL_snoc (l : List (Int × Int)) (k : Nat) (hk : k < l.length) (v : Int) : nbL (l.take (k + 1)) v = nbStep v (nbL (l.take k) v) l[k] := by
  unfold nbL
  rw [List.take_succ_eq_append_getElem hk, List.foldl_append]; rfl
theorem mem_insN (l : List Int) (n x : Int) : x ∈ insN l n ↔ x ∈ l ∨ x = n := by
  induction l with
  | nil => simp [insN]
  | cons y l ih =>
    unfold insN
    by_cases h : y < n
    · rw [if_pos h, List.mem_cons, ih, List.mem_cons, or_assoc]
    · rw [if_neg h]
      by_cases h2 : y = n
      · rw [if_pos h2]
        subst h2
        simp only [List.mem_cons]
        constructor
        · exact .inl
        · rintro (h | h)
          · exact h
          · exact .inl h
      · rw [if_neg h2]
        simp only [List.mem_cons]
        constructor
        · rintro (h | h)
          · exact .inr h
          · exact .inl h
        · rintro (h | h)
          · exact .inr h
          · exact .inl h
theorem insN_asc {l : List Int} (h : l.Pairwise (· < ·)) (n : Int) : (insN l n).Pairwise (· < ·) := by
  induction l with
  | nil => simp [insN]
  | cons y l ih =>
    rw [List.pairwise_cons] at h
    unfold insN
    by_cases h1 : y < n
    · rw [if_pos h1, List.pairwise_cons]
      refine ⟨fun z hz => ?_, ih h.2⟩
      rcases (mem_insN l n z).1 hz with hz | hz
      · exact h.1 z hz
      · omega
    · rw [if_neg h1]
      by_cases h2 : y = n
      · rw [if_pos h2, List.pairwise_cons]; exact h
      · rw [if_neg h2, List.pairwise_cons, List.pairwise_cons]
        refine ⟨fun z hz => ?_, h⟩
        rcases List.mem_cons.1 hz with hz | hz
        · omega
        · have := h.1 z hz; omega
theorem insN_len (l : List Int) (n : Int) : (insN l n).length ≤ l.length + 1 := by
  induction l with
  | nil => simp [insN]
  | cons y l ih => unfold insN; split <;> (try split) <;> simp <;> omega
/-- the place is known: all ahead of it are less, and none behind it -/
theorem insN_at (l : List Int) (n : Int) (k : Nat) (hk : k ≤ l.length) (h1 : ∀ i, (h : i < l.length) → i < k → l[i] < n) (h2 : ∀ h : k < l.length, ¬ l[k] < n) :
    insN l n = if ∃ h : k < l.length, l[k] = n then l else l.take k ++ n :: l.drop k := by
  induction l generalizing k with
  | nil => simp [insN]
  | cons y l ih =>
    cases k with
    | zero =>
      have h3 := h2 (by simp)
      simp only [List.getElem_cons_zero] at h3
      unfold insN
      rw [if_neg h3]
      by_cases h4 : y = n
      · rw [if_pos h4, if_pos ⟨by simp, by simpa using h4⟩]
      · rw [if_neg h4, if_neg (by rintro ⟨_, e⟩; simp at e; exact h4 e)]; simp
    | succ k =>
      have h3 := h1 0 (by simp) (by omega)
      simp only [List.getElem_cons_zero] at h3
      unfold insN
      rw [if_pos h3, ih k (by simpa using hk) (fun i hi hik => by have := h1 (i + 1) (by simpa using hi) (by omega); simpa using this) (fun hi => by have := h2 (by simpa using hi); simpa using this)]
      by_cases h4 : ∃ h : k < l.length, l[k] = n
      · obtain ⟨a, b⟩ := h4
        rw [if_pos ⟨a, b⟩, if_pos ⟨by simpa using a, by simpa using b⟩]
      · rw [if_neg h4, if_neg (by rintro ⟨a, b⟩; exact h4 ⟨by simpa using a, by simpa using b⟩)]; simp
theorem mem_nb (l : List (Int × Int)) (v n : Int) : n ∈ nbL l v ↔ ∃ x ∈ l, farE v x = some n := by
  suffices h : ∀ (l : List (Int × Int)) (o : List Int), n ∈ l.foldl (nbStep v) o ↔ n ∈ o ∨ ∃ x ∈ l, farE v x = some n by simpa [nbL] using h l []
  intro l
  induction l with
  | nil => intro o; simp
  | cons x l ih =>
    intro o
    rw [List.foldl_cons, ih]
    unfold nbStep
    simp only [List.mem_cons, exists_eq_or_imp]
    cases hx : farE v x with
    | none => simp
    | some m =>
      simp only [mem_insN, Option.some.injEq]
      constructor
      · rintro ((h | h) | h)
        · exact .inl h
        · exact .inr (.inl h.symm)
        · exact .inr (.inr h)
      · rintro (h | h | h)
        · exact .inl (.inl h)
        · exact .inl (.inr h.symm)
        · exact .inr h
theorem nb_asc (l : List (Int × Int)) (v : Int) : (nbL l v).Pairwise (· < ·) := by
  suffices h : ∀ (l : List (Int × Int)) (o : List Int), o.Pairwise (· < ·) → (l.foldl (nbStep v) o).Pairwise (· < ·) from h l [] List.Pairwise.nil
  intro l
  induction l with
  | nil => intro o h; exact h
  | cons x l ih =>
    intro o h
    rw [List.foldl_cons]
    refine ih _ ?_
    unfold nbStep
    split
    · exact insN_asc h _
    · exact h
theorem nbL_len (l : List (Int × Int)) (v : Int) : (nbL l v).length ≤ l.length := by
  suffices h : ∀ (l : List (Int × Int)) (o : List Int), (l.foldl (nbStep v) o).length ≤ o.length + l.length by simpa [nbL] using h l []
  intro l
  induction l with
  | nil => intro o; simp
  | cons x l ih =>
    intro o
    rw [List.foldl_cons, List.length_cons]
    have h1 := ih (nbStep v o x)
    have h2 : (nbStep v o x).length ≤ o.length + 1 := by
      unfold nbStep
      split
      · exact insN_len _ _
      · omega
    omega
/-- neighbors are so both ways -/
theorem nb_sym (l : List (Int × Int)) (v n : Int) (h : n ∈ nbL l v) : v ∈ nbL l n := by
  obtain ⟨x, hx, e⟩ := (mem_nb l v n).1 h
  refine (mem_nb l n v).2 ⟨x, hx, ?_⟩
  unfold farE at e ⊢
  by_cases h1 : x.1 = v
  · rw [if_pos h1] at e
    injection e with e
    by_cases h2 : x.1 = n
    · rw [if_pos h2, e, ← h2, h1]
    · rw [if_neg h2, if_pos e, h1]
  · rw [if_neg h1] at e
    by_cases h2 : x.2 = v
    · rw [if_pos h2] at e
      injection e with e
      rw [if_pos e, h2]
    · rw [if_neg h2] at e; cases e
theorem nb_rng (l : List (Int × Int)) (h : Rng l) (v : Int) : ∀ n ∈ nbL l v, -9223372036854775808 ≤ n ∧ n ≤ 9223372036854775807 := fun n hn => by
  obtain ⟨x, hx, e⟩ := (mem_nb l v n).1 hn
  have h1 := h x hx
  unfold farE at e
  unfold I64 at h1
  split at e
  · injection e with e; omega
  · split at e
    · injection e with e; omega
    · cases e
end Go.Proofs.Ytjobjjmeneddnaa
