/- Paths in plain words: distances by their own laws, a breadth-first search's state, next nodes, paths, loops. No program. -/
import Derived.Test.YtjobjjmeneddnaaGraphFacts
namespace Go.Proofs.Ytjobjjmeneddnaa
open Go.ChangeShapes Go.WideShapes Go.ChangeAt Go.RowKit
set_option linter.unusedVariables false
/-- the element at a number, -1 where there is none -/
def atD (d : List Int) (x : Int) : Int := if 0 ≤ x then d.getD x.toNat (-1) else -1
theorem atD_nat (d : List Int) (i : Nat) (h : i < d.length) : atD d i = d[i] := by
  unfold atD
  rw [if_pos (by omega)]
  simp [List.getD, h]
theorem atD_out (d : List Int) (x : Int) (h : x < 0 ∨ (d.length : Int) ≤ x) : atD d x = -1 := by
  unfold atD
  split
  · have : d.length ≤ x.toNat := by omega
    simp [List.getD, this]
  · rfl
theorem atD_in (d : List Int) (x : Int) (h : 0 ≤ atD d x) : 0 ≤ x ∧ x < d.length := by
  by_cases h1 : x < 0 ∨ (d.length : Int) ≤ x
  · rw [atD_out d x h1] at h; omega
  · omega
theorem atD_set (d : List Int) (x v y : Int) (h0 : 0 ≤ x) (hn : x < d.length) : atD (d.set x.toNat v) y = if y = x then v else atD d y := by
  unfold atD
  by_cases hy : 0 ≤ y
  · rw [if_pos hy, if_pos hy]
    by_cases e : y = x
    · subst e
      rw [if_pos rfl]
      simp [List.getD, show y.toNat < d.length by omega]
    · rw [if_neg e]
      simp only [List.getD]
      rw [List.getElem?_set_ne (by omega)]
  · rw [if_neg hy, if_neg hy, if_neg (by omega)]
theorem list_ext_atD {d d' : List Int} (hl : d.length = d'.length) (h : ∀ i : Nat, i < d.length → atD d i = atD d' i) : d = d' := by
  apply List.ext_getElem hl
  intro i h1 h2
  have := h i h1
  rwa [atD_nat d i h1, atD_nat d' i h2] at this
/-- who may relay to dst -/
def Rel (f dst j : Int) : Prop := j < f ∨ j = dst
instance (f dst j : Int) : Decidable (Rel f dst j) := by unfold Rel; infer_instance
structure IsDist (L : List (Int × Int)) (n : Nat) (f dst : Int) (d : List Int) : Prop where
  len : d.length = n
  low : ∀ i, -1 ≤ atD d i
  zero : ∀ i, atD d i = 0 ↔ i = dst
  edge : ∀ i j : Int, 0 ≤ i → i < n → i ∈ nbL L j → 0 ≤ atD d j → Rel f dst j → 0 ≤ atD d i ∧ atD d i ≤ atD d j + 1
  down : ∀ i, 0 < atD d i → ∃ j, j ∈ nbL L i ∧ Rel f dst j ∧ atD d j = atD d i - 1
section
variable {L : List (Int × Int)} {n : Nat} {f dst : Int} {d d' : List Int}
theorem IsDist.le (h : IsDist L n f dst d) (h' : IsDist L n f dst d') (k : Nat) : ∀ i, atD d i = k → 0 ≤ atD d' i ∧ atD d' i ≤ k := by
  induction k with
  | zero =>
    intro i hi
    have := (h'.zero i).2 ((h.zero i).1 (by omega))
    omega
  | succ k ih =>
    intro i hi
    obtain ⟨j, hj, hr, he⟩ := h.down i (by omega)
    have h1 := ih j (by omega)
    have hin := atD_in d i (by omega)
    rw [h.len] at hin
    have h2 := h'.edge i j hin.1 hin.2 (nb_sym L i j hj) h1.1 hr
    omega
theorem IsDist.uniq (h : IsDist L n f dst d) (h' : IsDist L n f dst d') : d = d' := by
  refine list_ext_atD (h.len.trans h'.len.symm) fun i hi => ?_
  have a := h.low i; have b := h'.low i
  by_cases h1 : 0 ≤ atD d i
  · have c := h.le h' (atD d i).toNat i (by omega)
    have e := h'.le h (atD d' i).toNat i (by omega)
    omega
  · by_cases h2 : 0 ≤ atD d' i
    · have e := h'.le h (atD d' i).toNat i (by omega)
      omega
    · omega
open Classical in
noncomputable def distL (L : List (Int × Int)) (n : Nat) (f dst : Int) : List Int := if h : ∃ d, IsDist L n f dst d then h.choose else []
theorem IsDist.eq (h : IsDist L n f dst d) : distL L n f dst = d := by
  have he : ∃ d, IsDist L n f dst d := ⟨d, h⟩
  unfold distL
  rw [dif_pos he]
  exact he.choose_spec.uniq h
theorem nodup_le {α : Type} [DecidableEq α] {A B : List α} (hn : A.Nodup) (hs : ∀ x ∈ A, x ∈ B) : A.length ≤ B.length := by
  induction A generalizing B with
  | nil => simp
  | cons x A ih =>
    rw [List.nodup_cons] at hn
    have hx := hs x List.mem_cons_self
    have h1 := ih (B := B.erase x) hn.2 fun y hy => (List.mem_erase_of_ne (fun e => hn.1 (by rw [← e]; exact hy))).2 (hs y (List.mem_cons_of_mem _ hy))
    rw [List.length_erase_of_mem hx] at h1
    have := List.length_pos_of_mem hx
    rw [List.length_cons]; omega
theorem IsDist.all (h : IsDist L n f dst d) (m : Nat) : (∃ i, atD d i = m) → ∀ v, v ≤ m → ∃ i, atD d i = v := by
  induction m with
  | zero => rintro ⟨i, hi⟩ v hv; obtain rfl : v = 0 := by omega
            exact ⟨i, hi⟩
  | succ m ih =>
    rintro ⟨i, hi⟩ v hv
    by_cases e : v = m + 1
    · subst e; exact ⟨i, hi⟩
    · obtain ⟨j, _, _, hj⟩ := h.down i (by omega)
      exact ih ⟨j, by omega⟩ v (by omega)
/-- a distance is less than the number of nodes -/
theorem IsDist.lt (h : IsDist L n f dst d) (i : Int) (hi : 0 ≤ atD d i) : atD d i < n := by
  have hall := h.all (atD d i).toNat ⟨i, by omega⟩
  have h1 := nodup_le (A := (List.range ((atD d i).toNat + 1)).map fun v : Nat => (v : Int)) (B := d) (by
    rw [List.nodup_iff_pairwise_ne, List.pairwise_map]
    exact List.nodup_range.imp fun hne e => hne (by omega)) fun x hx => by
    obtain ⟨v, hv, rfl⟩ := List.mem_map.1 hx
    obtain ⟨j, hj⟩ := hall v (by have := List.mem_range.1 hv; omega)
    have hin := atD_in d j (by omega)
    have e : atD d j = d[j.toNat]'(by omega) := by
      have := atD_nat d j.toNat (by omega)
      rwa [show ((j.toNat : Nat) : Int) = j by omega] at this
    rw [← hj, e]
    exact List.getElem_mem _
  rw [List.length_map, List.length_range, h.len] at h1
  omega
end
end Go.Proofs.Ytjobjjmeneddnaa
