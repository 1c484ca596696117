/- A breadth-first search's state: what has been reached, and in which order. No program. -/
import Derived.Test.YtjobjjmeneddnaaPathFacts
namespace Go.Proofs.Ytjobjjmeneddnaa
open Go.ChangeShapes Go.WideShapes Go.ChangeAt Go.RowKit
set_option linter.unusedVariables false
theorem get_snoc {l : List Int} {x a : Int} {p : Nat} (h : (l ++ [x])[p]? = some a) : (p < l.length ∧ l[p]? = some a) ∨ (p = l.length ∧ a = x) := by
  rw [List.getElem?_append] at h
  split at h
  · rename_i hp; exact .inl ⟨hp, h⟩
  · rename_i hp
    have h1 : p - l.length = 0 := by
      cases e : p - l.length with
      | zero => rfl
      | succ m => rw [e] at h; simp at h
    rw [h1] at h
    simp at h
    exact .inr ⟨by omega, h.symm⟩
theorem get_old {l : List Int} {x a : Int} {p : Nat} (h : l[p]? = some a) : (l ++ [x])[p]? = some a := by
  have hp : p < l.length := (List.getElem?_eq_some_iff.1 h).1
  rw [List.getElem?_append_left hp]; exact h
/-- d: the distances so far; todo: the nodes that were reached, in order; the first k of them are done -/
structure Bfs (L : List (Int × Int)) (n : Nat) (f dst : Int) (d todo : List Int) (k : Nat) : Prop where
  dst0 : 0 ≤ dst ∧ dst < n
  len : d.length = n
  low : ∀ i, -1 ≤ atD d i
  zero : ∀ i, atD d i = 0 ↔ i = dst
  nd : todo.Nodup
  mem : ∀ x, x ∈ todo ↔ 0 ≤ atD d x
  mono : ∀ (p q : Nat) (a b : Int), todo[p]? = some a → todo[q]? = some b → p ≤ q → atD d a ≤ atD d b
  cap : ∀ (p q : Nat) (a b : Int), todo[p]? = some a → todo[q]? = some b → k ≤ p → atD d b ≤ atD d a + 1
  done : ∀ (p : Nat) (a : Int), todo[p]? = some a → p < k → Rel f dst a → ∀ i : Int, 0 ≤ i → i < n → i ∈ nbL L a → 0 ≤ atD d i ∧ atD d i ≤ atD d a + 1
  par : ∀ x, 0 < atD d x → ∃ y, y ∈ nbL L x ∧ Rel f dst y ∧ atD d y = atD d x - 1
section
variable {L : List (Int × Int)} {n : Nat} {f dst : Int} {d todo : List Int} {k : Nat}
theorem atD_rep (n : Nat) (x : Int) : atD (List.replicate n (-1)) x = -1 := by
  unfold atD
  split
  · simp only [List.getD, List.getElem?_replicate]
    split <;> rfl
  · rfl
theorem Bfs.start (h : 0 ≤ dst ∧ dst < n) : Bfs L n f dst ((List.replicate n (-1)).set dst.toNat 0) [dst] 0 := by
  have hs : ∀ y, atD ((List.replicate n (-1)).set dst.toNat 0) y = if y = dst then 0 else -1 := fun y => by
    rw [atD_set _ _ _ _ h.1 (by simpa using h.2), atD_rep]
  have hone : ∀ p a, [dst][p]? = some a → p = 0 ∧ a = dst := fun p a e => by
    cases p with
    | zero => simp at e; exact ⟨rfl, e.symm⟩
    | succ p => simp at e
  refine ⟨h, by simp, fun i => ?_, fun i => ?_, by simp, fun x => ?_, fun p q a b ha hb _ => ?_, fun p q a b ha hb _ => ?_, fun p a ha hp => by omega, fun x hx => ?_⟩
  · rw [hs]; split <;> omega
  · rw [hs]; split <;> rename_i e <;> simp [e]
  · rw [hs]; split <;> rename_i e <;> simp [e]
  · rw [(hone p a ha).2, (hone q b hb).2]; omega
  · rw [(hone p a ha).2, (hone q b hb).2]; omega
  · rw [hs] at hx; split at hx <;> omega
/-- a neighbor that was not reached -/
theorem Bfs.put {a x : Int} (h : Bfs L n f dst d todo k) (hk : todo[k]? = some a) (hx : 0 ≤ x ∧ x < n) (hneg : atD d x < 0) (hnb : x ∈ nbL L a) (hr : Rel f dst a) : Bfs L n f dst (d.set x.toNat (atD d a + 1)) (todo ++ [x]) k := by
  have ha0 : 0 ≤ atD d a := (h.mem a).1 (List.mem_of_getElem? hk)
  have hs : ∀ y, atD (d.set x.toNat (atD d a + 1)) y = if y = x then atD d a + 1 else atD d y := fun y => atD_set d x _ y hx.1 (by rw [h.len]; exact hx.2)
  have hne : ∀ y, 0 ≤ atD d y → y ≠ x := fun y hy e => by subst e; omega
  have hold : ∀ p b, todo[p]? = some b → atD (d.set x.toNat (atD d a + 1)) b = atD d b ∧ 0 ≤ atD d b := fun p b hb => by
    have h0 := (h.mem b).1 (List.mem_of_getElem? hb)
    rw [hs, if_neg (hne b h0)]; exact ⟨rfl, h0⟩
  have hkl : k < todo.length := (List.getElem?_eq_some_iff.1 hk).1
  refine ⟨h.dst0, by rw [List.length_set]; exact h.len, fun i => ?_, fun i => ?_, ?_, fun y => ?_, fun p q b c hb hc hpq => ?_, fun p q b c hb hc hkp => ?_, fun p b hb hp hrb i hi0 hin hib => ?_, fun y hy => ?_⟩
  · rw [hs]; split
    · omega
    · exact h.low i
  · rw [hs]; split
    · rename_i e
      subst e
      constructor
      · intro e; omega
      · intro e; have := (h.zero i).2 e; omega
    · exact h.zero i
  · rw [List.nodup_append]
    refine ⟨h.nd, by simp, fun y hy z hz e => ?_⟩
    obtain rfl := List.mem_singleton.1 hz
    subst e
    have := (h.mem y).1 hy; omega
  · rw [hs, List.mem_append, List.mem_singleton]
    split
    · rename_i e; simp [e]; omega
    · rename_i e; simp [e]; exact h.mem y
  · rcases get_snoc hb with ⟨hp, hb2⟩ | ⟨hp, e1⟩
    · rcases get_snoc hc with ⟨hq, hc2⟩ | ⟨hq, e2⟩
      · rw [(hold p b hb2).1, (hold q c hc2).1]; exact h.mono p q b c hb2 hc2 hpq
      · rw [(hold p b hb2).1, hs, if_pos e2]; exact h.cap k p a b hk hb2 (Nat.le_refl _)
    · rcases get_snoc hc with ⟨hq, hc2⟩ | ⟨hq, e2⟩
      · omega
      · rw [e1, e2]; omega
  · rcases get_snoc hb with ⟨hp, hb2⟩ | ⟨hp, e1⟩
    · rcases get_snoc hc with ⟨hq, hc2⟩ | ⟨hq, e2⟩
      · rw [(hold p b hb2).1, (hold q c hc2).1]; exact h.cap p q b c hb2 hc2 hkp
      · rw [(hold p b hb2).1, hs, if_pos e2]
        have := h.mono k p a b hk hb2 hkp; omega
    · rcases get_snoc hc with ⟨hq, hc2⟩ | ⟨hq, e2⟩
      · rw [(hold q c hc2).1, hs, if_pos e1]
        have := h.cap k q a c hk hc2 (Nat.le_refl _); omega
      · rw [e1, e2]; omega
  · rcases get_snoc hb with ⟨hp', hb⟩ | ⟨hp', rfl⟩
    · have h1 := h.done p b hb hp hrb i hi0 hin hib
      rw [(hold p b hb).1, hs, if_neg (hne i h1.1)]; exact h1
    · omega
  · rw [hs] at hy
    rw [hs y]
    by_cases e : y = x
    · subst e
      rw [if_pos rfl]
      exact ⟨a, nb_sym L a y hnb, hr, by rw [(hold k a hk).1]; omega⟩
    · rw [if_neg e] at hy ⊢
      obtain ⟨z, h1, h2, h3⟩ := h.par y hy
      exact ⟨z, h1, h2, by rw [hs, if_neg (hne z (by omega))]; exact h3⟩
/-- a node is done: all its neighbors have been seen, or it may not relay -/
theorem Bfs.next {a : Int} (h : Bfs L n f dst d todo k) (hk : todo[k]? = some a) (hall : Rel f dst a → ∀ i : Int, 0 ≤ i → i < n → i ∈ nbL L a → 0 ≤ atD d i) : Bfs L n f dst d todo (k + 1) := by
  refine ⟨h.dst0, h.len, h.low, h.zero, h.nd, h.mem, h.mono, fun p q b c hb hc hkp => h.cap p q b c hb hc (by omega), fun p b hb hp hrb i hi0 hin hib => ?_, h.par⟩
  by_cases e : p = k
  · subst e
    obtain rfl : a = b := by rw [hk] at hb; injection hb
    have h0 := hall hrb i hi0 hin hib
    obtain ⟨q, hq⟩ := List.mem_iff_getElem?.1 ((h.mem i).2 h0)
    exact ⟨h0, h.cap p q a i hk hq (Nat.le_refl _)⟩
  · exact h.done p b hb (by omega) hrb i hi0 hin hib
theorem Bfs.fin (h : Bfs L n f dst d todo todo.length) : IsDist L n f dst d := by
  refine ⟨h.len, h.low, h.zero, fun i j hi0 hin hij hj hr => ?_, h.par⟩
  obtain ⟨p, hp⟩ := List.mem_iff_getElem?.1 ((h.mem j).2 hj)
  exact h.done p j hp (List.getElem?_eq_some_iff.1 hp).1 hr i hi0 hin hij
/-- the nodes that were reached are at most n -/
theorem Bfs.few (h : Bfs L n f dst d todo k) : todo.length ≤ n := by
  have h1 := nodup_le (A := todo) (B := (List.range n).map fun v : Nat => (v : Int)) h.nd fun x hx => by
    have hin := atD_in d x ((h.mem x).1 hx)
    rw [h.len] at hin
    exact List.mem_map.2 ⟨x.toNat, List.mem_range.2 (by omega), by omega⟩
  rw [List.length_map, List.length_range] at h1
  exact h1
theorem Bfs.lt {x : Int} (h : Bfs L n f dst d todo k) (hx : x ∈ todo) : 0 ≤ x ∧ x < n := by
  have hin := atD_in d x ((h.mem x).1 hx)
  rw [h.len] at hin
  exact hin
end
end Go.Proofs.Ytjobjjmeneddnaa
