/- Contacts in plain words (a contact as four numbers: both nodes, from, to): which are valid, plans in order, who can speak when, the contacts of two nodes and of a sky. No program. -/
import Derived.Test.YtjobjjmeneddnaaSpans
import Derived.Test.YtjobjjmeneddnaaSky
import Derived.Test.YtjobjjmeneddnaaInts
namespace Go.Proofs.Ytjobjjmeneddnaa
open Go.ChangeShapes Go.WideShapes Go.ChangeAt Go.RowKit
set_option linter.unusedVariables false
def conS (x : Sat4) : Int × Int := (x.v, x.e)
def conOk (n : Int) (x : Sat4) : Bool := decide (0 ≤ x.p ∧ x.p < x.h ∧ x.h < n) && isS (conS x)
/-- the first one stands before the second one -/
def conLt (x y : Sat4) : Bool := if x.p ≠ y.p then decide (x.p < y.p) else if x.h ≠ y.h then decide (x.h < y.h) else decide (x.e < y.v)
def PlanOk (n : Int) (l : List Sat4) : Prop := (∀ x ∈ l, conOk n x = true) ∧ ∀ i, ∀ h : i + 1 < l.length, conLt (l[i]'(by omega)) l[i + 1] = true
noncomputable instance (n : Int) (l : List Sat4) : Decidable (PlanOk n l) := Classical.propDecidable _
def canS (l : List Sat4) (a b t : Int) : Bool := l.any fun x => decide (x.p = mnf a b ∧ x.h = mxf a b) && inS (conS x) t
theorem mnf_sym (p q : Int) : mnf p q = mnf q p := by unfold mnf; split <;> split <;> omega
theorem mxf_sym (p q : Int) : mxf p q = mxf q p := by unfold mxf; split <;> split <;> omega
theorem canS_comm (l : List Sat4) (a b t : Int) : canS l a b t = canS l b a t := by unfold canS; rw [mnf_sym a b, mxf_sym a b]
def conTicks (l : List Sat4) : Int := (l.map fun x => if isS (conS x) = true then x.e - x.v else 0).sum
/-- the contacts of a and b, where L is the list of spans in which they speak -/
def conL (a b Q : Int) (ok : Bool) (L : List (Int × Int)) : List Sat4 := if a = b ∨ ok = false then [] else (shortOf L Q 0).map fun p => ⟨mnf a b, mxf a b, p.1, p.2⟩
/-- the contacts of all pairs of n nodes -/
def planL (n : Nat) (f : Nat → Nat → List Sat4) : List Sat4 := (List.range n).flatMap fun a => (List.range (n - (a + 1))).flatMap fun k => f a (a + 1 + k)
theorem chain_all (l : List (Int × Int)) (hv : ∀ p ∈ l, p.1 < p.2) (hc : ∀ i, ∀ h : i + 1 < l.length, (l[i]'(by omega)).2 < l[i + 1].1) : l.Pairwise fun p q => p.2 < q.1 := by
  rw [List.pairwise_iff_getElem]
  intro i j hi hj hij
  obtain ⟨d, rfl⟩ : ∃ d, j = i + 1 + d := ⟨j - (i + 1), by omega⟩
  induction d with
  | zero => exact hc i hj
  | succ d ih =>
    have h1 := ih (by omega) (by omega)
    have h2 := hc (i + 1 + d) hj
    have h3 := hv _ (List.getElem_mem (show i + 1 + d < l.length by omega))
    have e : l[i + 1 + (d + 1)] = l[i + 1 + d + 1] := rfl
    rw [e]
    omega
theorem short_pairs (L : List (Int × Int)) (Q : Int) : (shortOf L Q 0).Pairwise fun p q => p.2 < q.1 := by
  unfold shortOf
  split
  · exact List.Pairwise.nil
  · rename_i hq
    have hj : (joinOf L).Pairwise fun p q => p.2 < q.1 := chain_all _ (fun p hp => (runs_valid (tk L) 1000 (by omega) p hp).2.1) fun i h => join_chain L i h
    unfold shorten
    rw [List.pairwise_flatMap]
    refine ⟨fun p _ => ?_, hj.imp fun {p q} h x hx y hy => ?_⟩
    · unfold shS; split
      · exact List.pairwise_singleton _ _
      · exact List.Pairwise.nil
    · unfold shS at hx hy
      split at hx
      · split at hy
        · simp only [List.mem_singleton] at hx hy
          subst hx hy
          simp only
          omega
        · cases hy
      · cases hx
/-- a contact of a and b: its span, and the ticks ahead of it, are ticks in which they speak -/
theorem conL_mem {a b Q : Int} {ok : Bool} {L : List (Int × Int)} {x : Sat4} (h : x ∈ conL a b Q ok L) : (¬ a = b ∧ ok = true) ∧ 0 ≤ Q ∧ x.p = mnf a b ∧ x.h = mxf a b ∧ isS (conS x) = true ∧ ∀ t, x.v - Q ≤ t → t < x.e → inL L t = true := by
  unfold conL at h
  by_cases hn : a = b ∨ ok = false
  · rw [if_pos hn] at h; cases h
  · rw [if_neg hn] at h
    obtain ⟨p, hp, rfl⟩ := List.mem_map.1 h
    obtain ⟨h1, h2, q, hq, h3, h4, rfl⟩ := shortOf_mem L Q 0 p hp
    have hv := runs_valid (tk L) 1000 (by omega) q hq
    refine ⟨⟨fun e => hn (.inl e), ?_⟩, h1, rfl, rfl, ?_, fun t h5 h6 => ?_⟩
    · cases ok
      · exact absurd (.inr rfl) hn
      · rfl
    · unfold isS conS; simp only; exact decide_eq_true (by omega)
    · simp only at h5 h6
      obtain ⟨k, rfl⟩ : ∃ k : Nat, t = k := ⟨t.toNat, by omega⟩
      have e : inL (joinOf L) k = true := (inL_iff _ _).2 ⟨q, hq, (inS_iff _ _).2 ⟨by omega, by omega, by omega⟩⟩
      have := tk_join L k
      unfold tk at this
      rw [← this]; exact e
theorem conL_pairs (a b Q : Int) (ok : Bool) (L : List (Int × Int)) : (conL a b Q ok L).Pairwise fun x y => conLt x y = true := by
  unfold conL
  split
  · exact List.Pairwise.nil
  · rw [List.pairwise_map]
    refine (short_pairs L Q).imp fun {p q} h => ?_
    unfold conLt; simp; exact h
theorem planOk_of {n : Int} {l : List Sat4} (h1 : ∀ x ∈ l, conOk n x = true) (h2 : l.Pairwise fun x y => conLt x y = true) : PlanOk n l :=
  ⟨h1, fun i h => List.pairwise_iff_getElem.1 h2 i (i + 1) (by omega) h (by omega)⟩
/-- the contacts of all pairs are a plan -/
theorem planL_ok (n : Nat) (Q : Int) (ok : Bool) (L : Nat → Nat → List (Int × Int)) : PlanOk n (planL n fun a b => conL a b Q ok (L a b)) := by
  have hmm : ∀ a k : Nat, mnf (a : Int) ((a + 1 + k : Nat) : Int) = a ∧ mxf (a : Int) ((a + 1 + k : Nat) : Int) = ((a + 1 + k : Nat) : Int) := fun a k => by unfold mnf mxf; constructor <;> split <;> omega
  refine planOk_of (fun x hx => ?_) ?_
  · obtain ⟨a, ha, hx⟩ := List.mem_flatMap.1 hx
    obtain ⟨k, hk, hx⟩ := List.mem_flatMap.1 hx
    have ha := List.mem_range.1 ha; have hk := List.mem_range.1 hk
    obtain ⟨-, -, h1, h2, h3, -⟩ := conL_mem hx
    obtain ⟨e1, e2⟩ := hmm a k
    unfold conOk
    rw [h3, h1, h2, e1, e2, decide_eq_true (by omega)]; rfl
  · unfold planL
    rw [List.pairwise_flatMap]
    refine ⟨fun a ha => ?_, ?_⟩
    · rw [List.pairwise_flatMap]
      refine ⟨fun k _ => conL_pairs _ _ _ _ _, ?_⟩
      refine List.pairwise_lt_range.imp fun {k k'} hkk x hx y hy => ?_
      obtain ⟨-, -, h1, h2, -, -⟩ := conL_mem hx
      obtain ⟨-, -, g1, g2, -, -⟩ := conL_mem hy
      obtain ⟨e1, e2⟩ := hmm a k
      obtain ⟨e3, e4⟩ := hmm a k'
      unfold conLt
      rw [h1, h2, g1, g2, e1, e2, e3, e4]
      rw [if_neg (by simp), if_pos (by omega)]
      exact decide_eq_true (by omega)
    · refine List.pairwise_lt_range.imp fun {a a'} haa x hx y hy => ?_
      obtain ⟨k, hk, hx⟩ := List.mem_flatMap.1 hx
      obtain ⟨k', hk', hy⟩ := List.mem_flatMap.1 hy
      obtain ⟨-, -, h1, h2, -, -⟩ := conL_mem hx
      obtain ⟨-, -, g1, g2, -, -⟩ := conL_mem hy
      obtain ⟨e1, e2⟩ := hmm a k
      obtain ⟨e3, e4⟩ := hmm a' k'
      unfold conLt
      rw [h1, g1, e1, e3, if_pos (by omega)]
      exact decide_eq_true (by omega)
theorem planOk_step {n : Int} {l : List Sat4} {k : Nat} (hk : k < l.length) (h : ∀ i, (h : i < l.length) → i < k → conOk n l[i] = true ∧ (∀ j, (hj : j + 1 = i) → conLt (l[j]'(by omega)) l[i] = true)) (h1 : conOk n l[k] = true) (h2 : ∀ j, (hj : j + 1 = k) → conLt (l[j]'(by omega)) l[k] = true) :
    ∀ i, (h : i < l.length) → i < k + 1 → conOk n l[i] = true ∧ (∀ j, (hj : j + 1 = i) → conLt (l[j]'(by omega)) l[i] = true) := by
  intro i hi hik
  by_cases e : i = k
  · subst e; exact ⟨h1, h2⟩
  · exact h i hi (by omega)
theorem planOk_all {n : Int} {l : List Sat4} (h : ∀ i, (h : i < l.length) → i < l.length → conOk n l[i] = true ∧ (∀ j, (hj : j + 1 = i) → conLt (l[j]'(by omega)) l[i] = true)) : PlanOk n l := by
  refine ⟨fun x hx => ?_, fun i hi => (h (i + 1) hi hi).2 i rfl⟩
  obtain ⟨i, hi, rfl⟩ := List.getElem_of_mem hx
  exact (h i hi hi).1
theorem any_taken4 (l : List Sat4) (p : Sat4 → Bool) (k : Nat) (hk : k < l.length) (h : (l.take k).any p = false) : (l.take (k + 1)).any p = p l[k] := by
  rw [List.take_succ_eq_append_getElem hk, List.any_append, h]; simp
theorem any_at4 {l : List Sat4} {p : Sat4 → Bool} {k : Nat} (hk : k < l.length) (h : p l[k] = true) : l.any p = true := List.any_eq_true.2 ⟨_, List.getElem_mem hk, h⟩
/-- a contact of a lesser and a greater node at a tick -/
def conHit (m M t : Int) (x : Sat4) : Bool := decide (x.p = m ∧ x.h = M) && inS (conS x) t
theorem conTicks_take (l : List Sat4) (k : Nat) (hk : k < l.length) : conTicks (l.take (k + 1)) = conTicks (l.take k) + if isS (conS l[k]) = true then l[k].e - l[k].v else 0 := by
  unfold conTicks
  rw [List.take_succ_eq_append_getElem hk, List.map_append, List.sum_append]
  simp
theorem conTicks_bd (l : List Sat4) : 0 ≤ conTicks l ∧ conTicks l ≤ 1000 * (l.length : Int) := by
  unfold conTicks
  induction l with
  | nil => simp
  | cons x l ih =>
    rw [List.map_cons, List.sum_cons, List.length_cons]
    by_cases h : isS (conS x) = true
    · have h1 := (isS_iff _).1 h
      unfold conS at h1; simp only at h1
      rw [if_pos h]; push_cast; omega
    · rw [if_neg h]; push_cast; omega
end Go.Proofs.Ytjobjjmeneddnaa
