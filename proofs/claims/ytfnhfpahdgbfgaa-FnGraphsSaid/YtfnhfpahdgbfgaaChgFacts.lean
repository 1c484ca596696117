/- The ticks of change, found at the begins and ends of contacts alone. No program. -/
import Derived.Test.YtfnhfpahdgbfgaaGraphFacts
namespace Go.Proofs.Ytfnhfpahdgbfgaa
open Go.ChangeShapes Go.WideShapes Go.ChangeAt Go.RowKit
set_option linter.unusedVariables false
/-- the elements of a list at which L differs from what it was at the one before, or at u -/
def chE {α : Type} [DecidableEq α] (L : Int → α) (u : Int) : List Int → List Int
  | [] => []
  | t :: T => (if L u = L t then [] else [t]) ++ chE L t T
section
variable {α : Type} [DecidableEq α] {L : Int → α}
theorem chE_snoc (u : Int) (T : List Int) (t : Int) : chE L u (T ++ [t]) = chE L u T ++ (if L (lastE u T) = L t then [] else [t]) := by
  induction T generalizing u with
  | nil => show (if L u = L t then [] else [t]) ++ [] = [] ++ _; rw [List.append_nil, List.nil_append]; rfl
  | cons x T ih =>
    rw [List.cons_append]
    unfold chE
    rw [ih, List.append_assoc]
    rfl
theorem chE_len (u : Int) (T : List Int) : (chE L u T).length ≤ T.length := by
  induction T generalizing u with
  | nil => simp [chE]
  | cons x T ih =>
    unfold chE
    rw [List.length_append, List.length_cons]
    have := ih x
    split <;> simp <;> omega
theorem chE_sub (u : Int) (T : List Int) : (chE L u T).Sublist T := by
  induction T generalizing u with
  | nil => simp [chE]
  | cons x T ih =>
    unfold chE
    split
    · exact (ih x).cons x
    · exact (ih x).cons_cons x
theorem mem_chE (b : Int) (T : List Int) (hT : T.Pairwise (· < ·)) (u : Int) (hu : ∀ x ∈ T, u < x ∧ x < b) (H : ∀ s t, u ≤ s → s ≤ t → t < b → (∀ x ∈ T, ¬ (s < x ∧ x ≤ t)) → L s = L t) (t : Int) :
    t ∈ chE L u T ↔ t ∈ T ∧ L (t - 1) ≠ L t := by
  induction T generalizing u with
  | nil => simp [chE]
  | cons x T ih =>
    rw [List.pairwise_cons] at hT
    have hx := hu x List.mem_cons_self
    have e : L (x - 1) = L u := (H u (x - 1) (by omega) (by omega) (by omega) fun y hy h => by
      rcases List.mem_cons.1 hy with rfl | hy
      · omega
      · have := hT.1 y hy; omega).symm
    have ih' := ih hT.2 x (fun y hy => ⟨hT.1 y hy, (hu y (List.mem_cons_of_mem _ hy)).2⟩) (fun s t h1 h2 h3 h4 => H s t (by omega) h2 h3 fun y hy h => by
      rcases List.mem_cons.1 hy with rfl | hy
      · omega
      · exact h4 y hy h)
    unfold chE
    rw [List.mem_append, ih', List.mem_cons]
    by_cases h : L u = L x
    · rw [if_pos h]
      constructor
      · rintro (h1 | ⟨h1, h2⟩)
        · cases h1
        · exact ⟨.inr h1, h2⟩
      · rintro ⟨rfl | h1, h2⟩
        · exact absurd (e.trans h) h2
        · exact .inr ⟨h1, h2⟩
    · rw [if_neg h, List.mem_singleton]
      constructor
      · rintro (rfl | ⟨h1, h2⟩)
        · exact ⟨.inl rfl, by rw [e]; exact h⟩
        · exact ⟨.inr h1, h2⟩
      · rintro ⟨rfl | h1, h2⟩
        · exact .inl rfl
        · exact .inr ⟨h1, h2⟩
end
/-- between two begins or ends the links are the same -/
theorem links_const (l : List Sat4) (s t : Int) (hst : s ≤ t) (h : ∀ x ∈ l, ¬ (s < x.v ∧ x.v ≤ t) ∧ ¬ (s < x.e ∧ x.e ≤ t)) : linksL l s = linksL l t := by
  unfold linksL
  suffices ∀ (o : List (Int × Int)), l.foldl (linkStep s) o = l.foldl (linkStep t) o from this []
  induction l with
  | nil => intro o; rfl
  | cons x l ih =>
    intro o
    have e : inS (conS x) s = inS (conS x) t := by
      have := h x List.mem_cons_self
      unfold inS conS
      rw [decide_eq_decide]
      simp only
      omega
    rw [List.foldl_cons, List.foldl_cons, ih fun y hy => h y (List.mem_cons_of_mem _ hy)]
    unfold linkStep
    rw [e]
theorem changes_eq (l : List Sat4) (a b : Int) (hab : a < b) (T : List Int) (hT : T.Pairwise (· < ·)) (hm : ∀ t, t ∈ T ↔ (∃ x ∈ l, t = x.v ∨ t = x.e) ∧ a + 1 ≤ t ∧ t < b) :
    chE (linksL l) a T = chg (linksL l) a (b - 1 - a).toNat := by
  have H : ∀ s t, a ≤ s → s ≤ t → t < b → (∀ x ∈ T, ¬ (s < x ∧ x ≤ t)) → linksL l s = linksL l t := fun s t h1 h2 h3 h4 => links_const l s t h2 fun x hx => ⟨fun h => h4 x.v ((hm _).2 ⟨⟨x, hx, .inl rfl⟩, by omega, by omega⟩) h, fun h => h4 x.e ((hm _).2 ⟨⟨x, hx, .inr rfl⟩, by omega, by omega⟩) h⟩
  refine asc_eq (hT.sublist (chE_sub a T)) chg_asc fun t => ?_
  rw [mem_chE b T hT a (fun x hx => by have := ((hm x).1 hx).2; omega) H, mem_chg]
  constructor
  · rintro ⟨h1, h2⟩
    have := ((hm t).1 h1).2
    exact ⟨by omega, by omega, h2⟩
  · rintro ⟨h1, h2, h3⟩
    refine ⟨Classical.byContradiction fun hn => h3 (H (t - 1) t (by omega) (by omega) (by omega) fun x hx h => ?_), h3⟩
    obtain rfl : x = t := by omega
    exact hn hx
end Go.Proofs.Ytfnhfpahdgbfgaa
