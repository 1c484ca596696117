/- Who uses a node, found backwards: the nodes before a node, a search over them, and what it counts. No program. The program's map of the nodes before each node (nodesBefore): rows that grow inside a map. -/
import Derived.Test.YtjobjjmeneddnaaTableM
import Derived.Test.YtjobjjmeneddnaaIntMap
import Derived.Test.YtjobjjmeneddnaaSpan
import Derived.Deep.CutBlock
namespace Go.Proofs.Ytjobjjmeneddnaa
open Go.ChangeShapes Go.WideShapes Go.ChangeAt Go.RowKit
set_option linter.unusedVariables false
section
variable {next : List Int} {dst : Int}
theorem pathGo_more (m : Nat) : ∀ (m' : Nat) (a : Int) (p : List Int), m ≤ m' → pathGo next dst m a = some p → pathGo next dst m' a = some p := by
  induction m with
  | zero => intro m' a p _ h; simp [pathGo] at h
  | succ m ih =>
    intro m' a p hm h
    obtain ⟨k, rfl⟩ : ∃ k, m' = k + 1 := ⟨m' - 1, by omega⟩
    unfold pathGo at h ⊢
    split at h
    · rename_i hin
      rw [if_pos hin]
      split at h
      · rename_i hd
        rw [if_pos hd]; exact h
      · rename_i hd
        rw [if_neg hd]
        rw [Option.map_eq_some_iff] at h ⊢
        obtain ⟨q, hq, e⟩ := h
        exact ⟨q, ih k _ q (by omega) hq, e⟩
    · cases h
theorem pathGo_same {m m' : Nat} {a : Int} {p p' : List Int} (h : pathGo next dst m a = some p) (h' : pathGo next dst m' a = some p') : p = p' := by
  have h1 := pathGo_more m (max m m') a p (Nat.le_max_left _ _) h
  have h2 := pathGo_more m' (max m m') a p' (Nat.le_max_right _ _) h'
  rw [h1] at h2
  injection h2
theorem pathGo_tight (m : Nat) : ∀ (a : Int) (p : List Int), pathGo next dst m a = some p → pathGo next dst p.length a = some p ∧ p ≠ [] := by
  induction m with
  | zero => intro a p h; simp [pathGo] at h
  | succ m ih =>
    intro a p h
    unfold pathGo at h
    split at h
    · rename_i hin
      split at h
      · rename_i hd
        injection h with h
        subst h
        refine ⟨?_, by simp⟩
        show pathGo next dst (0 + 1) a = _
        unfold pathGo
        rw [if_pos hin, if_pos hd]
      · rename_i hd
        rw [Option.map_eq_some_iff] at h
        obtain ⟨q, hq, e⟩ := h
        subst e
        refine ⟨?_, by simp⟩
        rw [List.length_cons]
        unfold pathGo
        rw [if_pos hin, if_neg hd, (ih _ q hq).1]
        rfl
    · cases h
/-- what stands behind an element of a path is a path -/
theorem pathGo_suffix (m : Nat) : ∀ (a : Int) (p : List Int), pathGo next dst m a = some p → ∀ x ∈ p, ∃ q, pathGo next dst q.length x = some q ∧ q ≠ [] ∧ q.length ≤ p.length := by
  induction m with
  | zero => intro a p h; simp [pathGo] at h
  | succ m ih =>
    intro a p h x hx
    have ht := pathGo_tight _ _ _ h
    unfold pathGo at h
    split at h
    · rename_i hin
      split at h
      · rename_i hd
        injection h with h
        subst h
        rw [List.mem_singleton] at hx
        subst hx
        exact ⟨_, ht.1, ht.2, Nat.le_refl _⟩
      · rename_i hd
        rw [Option.map_eq_some_iff] at h
        obtain ⟨q, hq, e⟩ := h
        subst e
        rcases List.mem_cons.1 hx with e | hx
        · subst e
          exact ⟨_, ht.1, ht.2, Nat.le_refl _⟩
        · obtain ⟨r, h1, h2, h3⟩ := ih _ q hq x hx
          exact ⟨r, h1, h2, by rw [List.length_cons]; omega⟩
    · cases h
theorem pathGo_nodup (m : Nat) : ∀ (a : Int) (p : List Int), pathGo next dst m a = some p → p.Nodup ∧ ∀ x ∈ p, 0 ≤ x ∧ x < next.length := by
  induction m with
  | zero => intro a p h; simp [pathGo] at h
  | succ m ih =>
    intro a p h
    have h0 := h
    unfold pathGo at h
    split at h
    · rename_i hin
      split at h
      · rename_i hd
        injection h with h
        subst h
        refine ⟨by simp, fun x hx => ?_⟩
        rw [List.mem_singleton] at hx
        subst hx; exact hin
      · rename_i hd
        rw [Option.map_eq_some_iff] at h
        obtain ⟨q, hq, e⟩ := h
        subst e
        obtain ⟨h1, h2⟩ := ih _ q hq
        refine ⟨List.nodup_cons.2 ⟨fun ha => ?_, h1⟩, fun x hx => ?_⟩
        · obtain ⟨r, r1, r2, r3⟩ := pathGo_suffix _ _ _ hq a ha
          have e := pathGo_same h0 r1
          rw [← e, List.length_cons] at r3
          omega
        · rcases List.mem_cons.1 hx with e | hx
          · subst e; exact hin
          · exact h2 x hx
    · cases h
theorem ints_len {p : List Int} {n : Nat} (hn : p.Nodup) (h : ∀ x ∈ p, 0 ≤ x ∧ x < n) : p.length ≤ n := by
  have h1 := nodup_le (A := p) (B := (List.range n).map fun v : Nat => (v : Int)) hn fun x hx => by
    have := h x hx
    exact List.mem_map.2 ⟨x.toNat, List.mem_range.2 (by omega), by omega⟩
  rwa [List.length_map, List.length_range] at h1
theorem pathGo_le {m : Nat} {a : Int} {p : List Int} (h : pathGo next dst m a = some p) : p.length ≤ next.length := ints_len (pathGo_nodup _ _ _ h).1 (pathGo_nodup _ _ _ h).2
theorem pathL_of {m : Nat} {a : Int} {p : List Int} (h : pathGo next dst m a = some p) : pathL next a dst = p := by
  have h1 := pathGo_more _ (next.length + 1) a p (by have := pathGo_le h; omega) (pathGo_tight _ _ _ h).1
  unfold pathL
  rw [h1]; rfl
theorem pathL_go {a : Int} (h : pathL next a dst ≠ []) : pathGo next dst (next.length + 1) a = some (pathL next a dst) := by
  unfold pathL at h ⊢
  cases e : pathGo next dst (next.length + 1) a with
  | none => rw [e] at h; exact absurd rfl h
  | some p => rfl
theorem pathL_out {a : Int} (h : ¬ (0 ≤ a ∧ a < next.length)) : pathL next a dst = [] := by
  unfold pathL pathGo
  rw [if_neg h]; rfl
theorem pathL_dst (h : 0 ≤ dst ∧ dst < next.length) : pathL next dst dst = [dst] := by
  unfold pathL pathGo
  rw [if_pos h, if_pos rfl]; rfl
theorem pathL_cons {a : Int} (h : 0 ≤ a ∧ a < next.length) (hd : a ≠ dst) : pathL next a dst = if pathL next (atD next a) dst = [] then [] else a :: pathL next (atD next a) dst := by
  by_cases e : pathL next (atD next a) dst = []
  · rw [if_pos e]
    by_cases e2 : pathL next a dst = []
    · exact e2
    · have h1 := pathL_go e2
      unfold pathGo at h1
      rw [if_pos h, if_neg hd, Option.map_eq_some_iff] at h1
      obtain ⟨q, hq, _⟩ := h1
      rw [pathL_of hq] at e
      exact absurd e (pathGo_tight _ _ _ hq).2
  · rw [if_neg e]
    have h1 := pathL_go e
    have h2 := pathGo_more _ next.length _ _ (pathGo_le h1) (pathGo_tight _ _ _ h1).1
    refine pathL_of (m := next.length + 1) ?_
    unfold pathGo
    rw [if_pos h, if_neg hd, h2]; rfl
theorem pathL_mem {a x : Int} (h : x ∈ pathL next a dst) : pathL next x dst ≠ [] := by
  have h0 : pathL next a dst ≠ [] := fun e => by rw [e] at h; cases h
  obtain ⟨q, h1, h2, _⟩ := pathGo_suffix _ _ _ (pathL_go h0) x h
  rw [pathL_of h1]; exact h2
theorem pathL_self {a : Int} (h : pathL next a dst ≠ []) : a ∈ pathL next a dst := by
  by_cases hin : 0 ≤ a ∧ a < next.length
  · by_cases hd : a = dst
    · subst hd; rw [pathL_dst hin]; simp
    · rw [pathL_cons hin hd] at h ⊢
      split at h
      · exact absurd rfl h
      · rename_i e; rw [if_neg e]; simp
  · exact absurd (pathL_out hin) h
theorem pathL_in {a : Int} (h : pathL next a dst ≠ []) : 0 ≤ a ∧ a < next.length := Decidable.byContradiction fun e => h (pathL_out e)
end
/-- the nodes below k that have x as their next one, where x is an index -/
def prevL (ln : List Int) (k : Nat) (x : Int) : List Int := ((List.range k).filter fun i : Nat => decide (atD ln i = x ∧ 0 ≤ x ∧ x < ln.length)).map fun i : Nat => (i : Int)
theorem mem_prevL {ln : List Int} {k : Nat} {x z : Int} : z ∈ prevL ln k x ↔ ∃ j : Nat, j < k ∧ (j : Int) = z ∧ atD ln j = x ∧ 0 ≤ x ∧ x < ln.length := by
  unfold prevL
  rw [List.mem_map]
  constructor
  · rintro ⟨j, hj, e⟩
    rw [List.mem_filter, List.mem_range] at hj
    exact ⟨j, hj.1, e, of_decide_eq_true hj.2⟩
  · rintro ⟨j, hj, e, h⟩
    exact ⟨j, by rw [List.mem_filter, List.mem_range]; exact ⟨hj, decide_eq_true h⟩, e⟩
theorem prevL_zero (ln : List Int) (x : Int) : prevL ln 0 x = [] := rfl
theorem prevL_hit {ln : List Int} {k : Nat} {x : Int} (h : atD ln k = x) (h0 : 0 ≤ x) (h1 : x < ln.length) : prevL ln (k + 1) x = prevL ln k x ++ [(k : Int)] := by
  unfold prevL
  rw [List.range_succ, List.filter_append, List.map_append]
  simp [h, h0, h1]
theorem prevL_miss {ln : List Int} {k : Nat} {x : Int} (h : ¬ (atD ln k = x ∧ 0 ≤ x ∧ x < ln.length)) : prevL ln (k + 1) x = prevL ln k x := by
  unfold prevL
  rw [List.range_succ, List.filter_append, List.map_append, show List.filter (fun i : Nat => decide (atD ln i = x ∧ 0 ≤ x ∧ x < ln.length)) [k] = [] by rw [List.filter_cons, if_neg (by simpa using h)]; rfl]
  simp
theorem prevL_len (ln : List Int) (k : Nat) (x : Int) : (prevL ln k x).length ≤ k := by
  unfold prevL
  rw [List.length_map]
  refine Nat.le_trans (List.length_filter_le _ _) ?_
  simp
theorem prevL_nodup (ln : List Int) (k : Nat) (x : Int) : (prevL ln k x).Nodup := by
  unfold prevL
  rw [List.nodup_iff_pairwise_ne, List.pairwise_map]
  refine List.Pairwise.filter _ ?_
  exact (List.nodup_range (n := k)).imp fun h e => h (by omega)
/-- of them, those that go on: neither the node itself nor the destination -/
def usrL (S node : Int) (P : List Int) : List Int := P.filter fun u => decide (u ≠ node ∧ u ≠ S)
theorem mem_usrL {S node z : Int} {P : List Int} : z ∈ usrL S node P ↔ z ∈ P ∧ z ≠ node ∧ z ≠ S := by
  unfold usrL
  rw [List.mem_filter]
  simp
theorem usrL_len (S node : Int) (P : List Int) : (usrL S node P).length ≤ P.length := List.length_filter_le _ _
theorem usrL_hit {S node : Int} {P : List Int} {k : Nat} (hk : k < P.length) (h1 : P[k] ≠ node) (h2 : P[k] ≠ S) : usrL S node (P.take (k + 1)) = usrL S node (P.take k) ++ [P[k]] := by
  unfold usrL
  rw [List.take_succ_eq_append_getElem hk, List.filter_append]
  simp [h1, h2]
theorem usrL_miss {S node : Int} {P : List Int} {k : Nat} (hk : k < P.length) (h : P[k] = node ∨ P[k] = S) : usrL S node (P.take (k + 1)) = usrL S node (P.take k) := by
  unfold usrL
  rw [List.take_succ_eq_append_getElem hk, List.filter_append, show List.filter (fun u => decide (u ≠ node ∧ u ≠ S)) [P[k]] = [] by
    rw [List.filter_cons, if_neg (by rcases h with h | h <;> simp [h])]; rfl]
  simp
/-- m are nodes that have been met going back from the node; behind the first k of them one has looked -/
structure MetB (S : Int) (ln : List Int) (node : Int) (m : List Int) (k : Nat) : Prop where
  nd : m.Nodup
  hd : ∃ r, m = node :: r
  use : ∀ x ∈ m, x = node ∨ ∃ i : Nat, (i : Int) = x ∧ i < ln.length ∧ useB S ln node i = true
  cl : ∀ p x, p < k → m[p]? = some x → ∀ u ∈ prevL ln ln.length x, u ≠ node → u ≠ S → u ∈ m
  fr : ∀ x ∈ m, x ≠ node → ∃ p, p < k ∧ m[p]? = some (atD ln x)
section
variable {S : Int} {ln : List Int} {node : Int} {m : List Int} {k : Nat}
theorem MetB.start (S : Int) (ln : List Int) (node : Int) : MetB S ln node [node] 0 :=
  ⟨by simp, ⟨[], rfl⟩, fun x hx => .inl (List.mem_singleton.1 hx), fun p x h => by omega, fun x hx hne => absurd (List.mem_singleton.1 hx) hne⟩
theorem useB_path {i : Nat} (h : useB S ln node i = true) : (i : Int) ≠ node ∧ (i : Int) ≠ S ∧ node ∈ pathL ln i S := of_decide_eq_true h
theorem MetB.path (h : MetB S ln node m k) (hp : pathL ln node S ≠ []) {x : Int} (hx : x ∈ m) : node ∈ pathL ln x S := by
  rcases h.use x hx with e | ⟨i, e, hi, hu⟩
  · rw [e]; exact pathL_self hp
  · rw [← e]; exact (useB_path hu).2.2
theorem MetB.in_ (h : MetB S ln node m k) (hp : pathL ln node S ≠ []) {x : Int} (hx : x ∈ m) : 0 ≤ x ∧ x < ln.length :=
  pathL_in (dst := S) fun e => by have := h.path hp hx; rw [e] at this; cases this
theorem MetB.len (h : MetB S ln node m k) (hp : pathL ln node S ≠ []) : m.length ≤ ln.length := ints_len h.nd fun x hx => h.in_ hp hx
theorem MetB.step (h : MetB S ln node m k) (hp : pathL ln node S ≠ []) {x : Int} (hx : m[k]? = some x) : MetB S ln node (m ++ usrL S node (prevL ln ln.length x)) (k + 1) := by
  have hxm : x ∈ m := List.mem_of_getElem? hx
  have hkl : k < m.length := (List.getElem?_eq_some_iff.1 hx).1
  obtain ⟨r, hr⟩ := h.hd
  have hnew : ∀ u ∈ usrL S node (prevL ln ln.length x), ∃ j : Nat, (j : Int) = u ∧ j < ln.length ∧ atD ln u = x ∧ u ≠ node ∧ u ≠ S := fun u hu => by
    obtain ⟨h1, h2, h3⟩ := mem_usrL.1 hu
    obtain ⟨j, hj, e, e2, _⟩ := mem_prevL.1 h1
    exact ⟨j, e, hj, by rw [← e]; exact e2, h2, h3⟩
  refine ⟨List.nodup_append.2 ⟨h.nd, ?_, fun a ha b hb e => ?_⟩, ⟨r ++ usrL S node (prevL ln ln.length x), by rw [hr]; rfl⟩, fun y hy => ?_, fun p y hpk hy u hu h1 h2 => ?_, fun y hy hne => ?_⟩
  · unfold usrL
    exact List.Pairwise.filter _ (prevL_nodup ln _ _)
  · subst e
    obtain ⟨j, e, hj, e2, h1, h2⟩ := hnew a hb
    obtain ⟨p, hpk, hpe⟩ := h.fr a ha h1
    rw [e2] at hpe
    have h3 := (List.getElem?_inj (i := p) (j := k) (by omega) h.nd).1 (by rw [hpe, hx])
    omega
  · rcases List.mem_append.1 hy with hy | hy
    · exact h.use y hy
    · right
      obtain ⟨j, e, hj, e2, h1, h2⟩ := hnew y hy
      refine ⟨j, e, hj, decide_eq_true ⟨by rw [e]; exact h1, by rw [e]; exact h2, ?_⟩⟩
      have hpx := h.path hp hxm
      rw [e, pathL_cons (by omega) h2, e2, if_neg (fun e3 => by rw [e3] at hpx; cases hpx)]
      exact List.mem_cons_of_mem _ hpx
  · by_cases hp2 : p < k
    · rw [List.getElem?_append_left (by omega)] at hy
      exact List.mem_append.2 (.inl (h.cl p y hp2 hy u hu h1 h2))
    · obtain rfl : p = k := by omega
      rw [List.getElem?_append_left hkl, hx] at hy
      injection hy with hy
      subst hy
      exact List.mem_append.2 (.inr (mem_usrL.2 ⟨hu, h1, h2⟩))
  · rcases List.mem_append.1 hy with hy | hy
    · obtain ⟨p, h1, h2⟩ := h.fr y hy hne
      exact ⟨p, by omega, by rw [List.getElem?_append_left (by omega)]; exact h2⟩
    · obtain ⟨j, e, hj, e2, h1, h2⟩ := hnew y hy
      exact ⟨k, by omega, by rw [List.getElem?_append_left hkl, hx, e2]⟩
theorem MetB.all (h : MetB S ln node m m.length) (hp : pathL ln node S ≠ []) (v : Nat) : ∀ i : Nat, (pathL ln i S).length ≤ v → i < ln.length → useB S ln node i = true → (i : Int) ∈ m := by
  obtain ⟨r, hr⟩ := h.hd
  have hnm : node ∈ m := by rw [hr]; simp
  induction v with
  | zero =>
    intro i hl hi hu
    have h1 := (useB_path hu).2.2
    have := List.length_pos_of_mem h1
    omega
  | succ v ih =>
    intro i hl hi hu
    obtain ⟨h1, h2, h3⟩ := useB_path hu
    have hin : (0 : Int) ≤ (i : Int) ∧ (i : Int) < ln.length := by omega
    have hc := pathL_cons (next := ln) hin h2
    have hne : ¬ pathL ln (atD ln i) S = [] := fun e => by rw [hc, if_pos e] at h3; cases h3
    rw [if_neg hne] at hc
    have hnx := pathL_in hne
    have key : atD ln i ∈ m := by
      by_cases e : atD ln i = node
      · rw [e]; exact hnm
      · obtain ⟨j, hj⟩ : ∃ j : Nat, (j : Int) = atD ln i := ⟨(atD ln i).toNat, by omega⟩
        rw [hc] at h3
        rcases List.mem_cons.1 h3 with e3 | h3
        · exact absurd e3.symm h1
        · rw [← hj]
          refine ih j (by rw [hj]; rw [hc, List.length_cons] at hl; omega) (by omega) (decide_eq_true ⟨by rw [hj]; exact e, fun e4 => ?_, by rw [hj]; exact h3⟩)
          rw [hj] at e4
          rw [e4, pathL_dst (by rw [← e4]; exact hnx)] at h3
          rw [List.mem_singleton] at h3
          exact e (by rw [e4, h3])
    obtain ⟨p, hp2, hpe⟩ := List.getElem_of_mem key
    exact h.cl p (atD ln i) hp2 (by rw [List.getElem?_eq_getElem hp2, hpe]) i (mem_prevL.2 ⟨i, hi, rfl, rfl, hnx⟩) h1 h2
theorem MetB.count (h : MetB S ln node m m.length) (hp : pathL ln node S ≠ []) : m.length = usesL S ln node + 1 := by
  have hall := h.all hp
  obtain ⟨r, hr⟩ := h.hd
  have hnd := h.nd
  rw [hr, List.nodup_cons] at hnd
  have e1 : usesL S ln node = (((List.range ln.length).filter (useB S ln node)).map fun i : Nat => (i : Int)).length := by
    unfold usesL
    rw [List.length_map, List.countP_eq_length_filter]
  have hn2 : (((List.range ln.length).filter (useB S ln node)).map fun i : Nat => (i : Int)).Nodup := by
    rw [List.nodup_iff_pairwise_ne, List.pairwise_map]
    refine List.Pairwise.filter _ ?_
    exact (List.nodup_range (n := ln.length)).imp fun h e => h (by omega)
  have a1 := nodup_le (A := r) (B := ((List.range ln.length).filter (useB S ln node)).map fun i : Nat => (i : Int)) hnd.2 fun x hx => by
    rcases h.use x (by rw [hr]; exact List.mem_cons_of_mem _ hx) with e | ⟨i, e, hi, hu⟩
    · subst e; exact absurd hx hnd.1
    · exact List.mem_map.2 ⟨i, List.mem_filter.2 ⟨List.mem_range.2 hi, hu⟩, e⟩
  have a2 := nodup_le (A := ((List.range ln.length).filter (useB S ln node)).map fun i : Nat => (i : Int)) (B := r) hn2 fun x hx => by
    obtain ⟨i, hi, e⟩ := List.mem_map.1 hx
    obtain ⟨h1, h2⟩ := List.mem_filter.1 hi
    have h3 := hall _ i (Nat.le_refl _) (List.mem_range.1 h1) h2
    rw [hr, List.mem_cons] at h3
    rcases h3 with h3 | h3
    · exact absurd h3 (useB_path h2).1
    · rw [← e]; exact h3
  have e2 : m.length = r.length + 1 := by rw [hr]; rfl
  omega
theorem uses_zero (h : pathL ln node S = []) : usesL S ln node = 0 := by
  unfold usesL
  rw [List.countP_eq_zero]
  intro i _ hu
  exact pathL_mem (useB_path hu).2.2 h
end
end Go.Proofs.Ytjobjjmeneddnaa
namespace Go.Proofs.Ytjobjjmeneddnaa
open Go.ChangeShapes Go.WideShapes Go.ChangeAt Go.RowKit Go.Maps
set_option linter.unusedVariables false
/-- the map g holds, for each x that has some before it, the nodes below k that lead to x, in rows of their own from B on, apart from one another -/
structure Bef (w : World) (B : Nat) (ln : List Int) (k : Nat) (g : Int → Option Value) : Prop where
  key : ∀ z, J64 z → (g z).isSome = decide (prevL ln k z ≠ [])
  row : ∀ z v, J64 z → g z = some v → ∃ (A : Option Addr) (n c : Nat), v = .slice A n c ∧ Own w B 3 1 A n c (iv (prevL ln k z))
  ap : ∀ z z' v v', J64 z → J64 z' → z ≠ z' → g z = some v → g z' = some v' → v.ownBlock = none ∨ v.ownBlock ≠ v'.ownBlock
section
variable {w w' : World} {B : Nat} {ln : List Int} {k : Nat} {g : Int → Option Value}
theorem Bef.start (w : World) (B : Nat) (ln : List Int) : Bef w B ln 0 (fun _ => none) :=
  ⟨fun z _ => by simp [prevL_zero], fun z v _ h => (by cases h), fun z z' v v' _ _ _ h => (by cases h)⟩
theorem Bef.skip (h : Bef w B ln k g) (hk : ¬ (0 ≤ atD ln k ∧ atD ln k < ln.length)) : Bef w B ln (k + 1) g := by
  have e : ∀ z, prevL ln (k + 1) z = prevL ln k z := fun z => prevL_miss fun h => hk (by rw [h.1]; exact h.2)
  exact ⟨fun z hz => by rw [e]; exact h.key z hz, fun z v hz hv => by rw [e]; exact h.row z v hz hv, h.ap⟩
theorem Bef.on (h : Bef w B ln k g) (hb : Below w.heap.size w w') : Bef w' B ln k g := ⟨h.key, fun z v hz hv => by
  obtain ⟨A, n, c, e, o⟩ := h.row z v hz hv
  exact ⟨A, n, c, e, o.on hb⟩, h.ap⟩
/-- what a look-up finds, also where there is nothing -/
theorem Bef.look (h : Bef w B ln k g) {x : Int} (hx : J64 x) : ∃ (A : Option Addr) (n c : Nat), (g x).getD (.slice none 0 0) = .slice A n c ∧ Own w B 3 1 A n c (iv (prevL ln k x)) ∧ ((.slice A n c : Value).ownBlock = none ∨ g x = some (.slice A n c)) := by
  cases hg : g x with
  | none =>
    have h1 := h.key x hx
    rw [hg] at h1
    have h2 : prevL ln k x = [] := Decidable.byContradiction fun e => by rw [decide_eq_true e] at h1; cases h1
    exact ⟨none, 0, 0, rfl, by rw [h2]; exact Own.empty _ _ _ _, .inl rfl⟩
  | some v =>
    obtain ⟨A, n, c, e, o⟩ := h.row x v hx hg
    subst e
    exact ⟨A, n, c, rfl, o, .inr rfl⟩
theorem Bef.push {W2 w3 w4 : World} {x : Int} {A0 A2 : Option Addr} {n0 c0 n2 c2 mb : Nat} (h : Bef w B ln k g) (hx : atD ln k = x) (h0 : 0 ≤ x) (h1 : x < ln.length) (hJ : J64 x)
    (hl : (.slice A0 n0 c0 : Value).ownBlock = none ∨ g x = some (.slice A0 n0 c0)) (b2 : Below w.heap.size w W2) (ho : Own w3 B 3 1 A2 n2 c2 (iv (prevL ln k x) ++ [.int .i64 (k : Int)]))
    (hg3 : W2.grownBy w3 (.slice A0 n0 c0 : Value).ownBlock) (hb : (.slice A2 n2 c2 : Value).ownBlock = (.slice A0 n0 c0 : Value).ownBlock ∨ (.slice A2 n2 c2 : Value).ownBlock = some W2.heap.size)
    (hg4 : w3.grownBy w4 (some mb)) (hmb : mb < B) : Bef w4 B ln (k + 1) (fun y => if y = x then some (.slice A2 n2 c2) else g y) := by
  have hmbO : ∀ {A : Option Addr} {n c : Nat} {xs : List Value} {wx : World}, Own wx B 3 1 A n c xs → (Value.slice A n c).ownBlock = none ∨ (Value.slice A n c).ownBlock ≠ some mb := fun h => by
    rcases h.blk with e | ⟨b, e, hb, _⟩
    · exact .inl e
    · exact .inr (by rw [e]; intro e2; injection e2 with e2; omega)
  have hit : prevL ln (k + 1) x = prevL ln k x ++ [(k : Int)] := prevL_hit hx h0 h1
  have miss : ∀ z, z ≠ x → prevL ln (k + 1) z = prevL ln k z := fun z hz => prevL_miss fun h => hz (h.1.symm.trans hx)
  have far : ∀ z v, J64 z → z ≠ x → g z = some v → v.ownBlock = none ∨ v.ownBlock ≠ (.slice A0 n0 c0 : Value).ownBlock := fun z v hz hne hv => by
    rcases hl with hl | hl
    · rw [hl]
      cases e : v.ownBlock with
      | none => exact .inl rfl
      | some b => exact .inr (by simp)
    · exact h.ap z x v _ hz hJ hne hv hl
  refine ⟨fun z hz => ?_, fun z v hz hv => ?_, fun z z' v v' hz hz' hne hv hv' => ?_⟩
  · by_cases e : z = x
    · subst e
      rw [if_pos rfl, hit]
      simp
    · rw [if_neg e, miss z e]
      exact h.key z hz
  · by_cases e : z = x
    · subst e
      rw [if_pos rfl] at hv
      injection hv with hv
      subst hv
      refine ⟨A2, n2, c2, rfl, ?_⟩
      rw [hit, iv_app]
      exact ho.kept hg4 (hmbO ho)
    · rw [if_neg e] at hv
      obtain ⟨A, n, c, ev, o⟩ := h.row z v hz hv
      subst ev
      refine ⟨A, n, c, rfl, ?_⟩
      rw [miss z e]
      exact ((o.on b2).kept hg3 (far z _ hz e hv)).kept hg4 (hmbO o)
  · have key : ∀ z v, J64 z → z ≠ x → g z = some v → (v.ownBlock = none ∨ v.ownBlock ≠ (.slice A2 n2 c2 : Value).ownBlock) ∧ ((.slice A2 n2 c2 : Value).ownBlock = none ∨ (.slice A2 n2 c2 : Value).ownBlock ≠ v.ownBlock) := fun z v hz e hv => by
      obtain ⟨A, n, c, ev, o⟩ := h.row z v hz hv
      subst ev
      rcases o.blk with e1 | ⟨b, e1, _, hlt⟩
      · refine ⟨.inl e1, ?_⟩
        rw [e1]
        cases e2 : (Value.slice A2 n2 c2).ownBlock with
        | none => exact .inl rfl
        | some b => exact .inr (by simp)
      · have hs := b2.size
        rcases hb with hb | hb
        · rw [hb]
          rcases far z _ hz e hv with h2 | h2
          · rw [e1] at h2; cases h2
          · exact ⟨.inr h2, .inr fun e3 => h2 e3.symm⟩
        · rw [hb, e1]
          exact ⟨.inr (by intro e3; injection e3 with e3; omega), .inr (by intro e3; injection e3 with e3; omega)⟩
    by_cases e : z = x
    · have e' : z' ≠ x := fun e2 => hne (e.trans e2.symm)
      rw [if_pos e] at hv
      rw [if_neg e'] at hv'
      injection hv with hv
      subst hv
      exact (key z' v' hz' e' hv').2
    · rw [if_neg e] at hv
      by_cases e' : z' = x
      · rw [if_pos e'] at hv'
        injection hv' with hv'
        subst hv'
        exact (key z v hz e hv).1
      · rw [if_neg e'] at hv'
        exact h.ap z z' v v' hz hz' hne hv hv'
end
theorem intM_info : (Try.prog.info? 3).map (fun i => (i.zero, i.size, i.bytes)) = some (some (.int .i64 0), 1, 8) := by kernel_rfl
theorem zeroInts (w : World) : (zeroValue 27).run Try.prog w = .ok (.slice none 0 0) w := by kernel_rfl
set_option maxRecDepth 100000 in
set_option maxHeartbeats 1000000 in
theorem ibefore (w : World) (D : Nat) (An : Option Addr) (nn cn : Nat) (ln : List Int) (h : Sl w D 1 An nn cn (iv ln)) (hD : D ≤ w.heap.size) (hn : nn ≤ 16777216) :
    Calls Try.prog 51 #[.slice An nn cn] w fun e w' => (∃ mb g, e = .returned (.map (some mb)) ∧ Mi w' mb ln.length g ∧ Bef w' (mb + 1) ln ln.length g ∧ w.heap.size ≤ mb) ∧ Below w.heap.size w w' := by
  have hmm := @run_makeMap Try.prog
  obtain ⟨i0, hi0, hy0, hy1, hy2⟩ := info_parts intM_info
  obtain rfl : nn = ln.length := by have h1 := h.len; rw [iv_len] at h1; omega
  obtain ⟨W1, hW1⟩ : ∃ W, W = w.alloc (.map #[] 0) := ⟨_, rfl⟩
  obtain ⟨mb, hmb⟩ : ∃ g, g = w.heap.size := ⟨_, rfl⟩
  have b1 : Below mb w W1 := by rw [hW1, hmb]; exact (Below.refl _ _).alloc (Nat.le_refl _) _
  have HM1 : Hid (Mi W1 mb 0 (fun _ => none)) := Lib.hid (by rw [hW1, hmb]; exact Mi.made _)
  have hsz : W1.heap.size = mb + 1 := by rw [hW1, hmb]; simp
  have HS : Hid (∀ wr, Below mb w wr → Sl wr D 1 An ln.length cn (iv ln)) := Lib.hid fun wr hb => h.below hb (by omega)
  have HB1 := Lib.hid b1; have HW1 := Lib.hid hW1; have HMB := Lib.hid hmb; have HSZ := Lib.hid hsz
  have hcap := h.cap; have hcapm := h.capm
  have hw1 : wrap64 ((ln.length : Int) - 1) = (ln.length : Int) - 1 := by unfold wrap64; omega
  clear h b1 hW1 hmb hsz
  go_enter Try.func51, Try.ntmps51
  go_upto_region 2 with fail
  rw [← HW1.out, ← HMB.out]
  go_wp2_with fail
  go_loopw [9] (fun iv_ wr => ∃ (k : Nat) (g : Int → Option Value), k ≤ ln.length ∧ iv_ = .int .i64 k ∧ Mi wr mb k g ∧ Bef wr (mb + 1) ln k g ∧ Below mb w wr ∧ mb + 1 ≤ wr.heap.size) (fun iv_ _ => ln.length - (intOf iv_).toNat)
  case atStart => exact ⟨0, _, Nat.zero_le _, rfl, HM1.out, Bef.start _ _ _, HB1.out, by rw [HSZ.out]; exact Nat.le_refl _⟩
  case round =>
    obtain ⟨k, g, hk, rfl, hm, hbf, hb, hsz⟩ := hrel
    have HM := Lib.hid hm; have HF := Lib.hid hbf; have HB := Lib.hid hb; have HZ := Lib.hid hsz
    clear hm hbf hb hsz
    have hk0 : (0 : Int) ≤ (k : Int) := by omega
    by_cases hlt : k < ln.length
    case neg =>
      obtain rfl : k = ln.length := by omega
      go_wp2_with fail
      go_ret
      exact ⟨⟨mb, g, rfl, HM.out, HF.out, by rw [← HMB.out]; exact Nat.le_refl _⟩, by rw [← HMB.out]; exact HB.out⟩
    case pos =>
      have hkl : (k : Int) < (ln.length : Int) := by omega
      obtain ⟨ad, hx, rfl, had, c0⟩ := (HS.out _ HB.out).int hlt
      obtain ⟨x, hx2⟩ : ∃ z, z = ln[k] := ⟨_, rfl⟩
      rw [← hx2] at c0
      have HX : Hid (atD ln k = x) := Lib.hid (by rw [hx2, atD_nat ln k hlt])
      clear hx2 hx had
      by_cases hin : 0 ≤ x ∧ x ≤ (ln.length : Int) - 1
      case neg =>
        have HF2 := Lib.hid (HF.out.skip (by rw [HX.out]; omega))
        have HM2 := Lib.hid (HM.out.mono (m := k + 1) (by omega))
        have HIN := Lib.hid hin
        clear hin
        go_wp2_with fail
        refine (iinr_f x 0 ((ln.length : Int) - 1) _ HIN.out).mono ?_
        rintro e w2 ⟨rfl, rfl⟩
        go_wp2_with fail
        go_roundw
        case rel => exact ⟨k + 1, g, by omega, by go_num, HM2.out, HF2.out, HB.out, HZ.out⟩
        case measure => simp [intOf]; omega
      case pos =>
        obtain ⟨hx0, hx1⟩ := hin
        have hJ : J64 x := by unfold J64; omega
        obtain ⟨A0, n0, c0', e0, o0, l0⟩ := HF.out.look hJ
        have HL : (Instr.lookup 72 (.map (some mb)) (.int .i64 x) false).run Try.prog wr = .ok (.slice A0 n0 c0') wr := by
          rw [← e0]; exact HM.out.look Try.underlying72 (zeroInts _) x hJ
        have HO := Lib.hid o0; have HL0 := Lib.hid l0; have HJ := Lib.hid hJ
        have HX0 := Lib.hid hx0; have HX1 := Lib.hid hx1
        clear e0 o0 l0 hJ
        go_wp2_with fail
        refine (iinr_t x 0 ((ln.length : Int) - 1) _ HX0.out HX1.out).mono ?_
        rintro e w2 ⟨rfl, rfl⟩
        obtain ⟨W2, hW2⟩ : ∃ W, W = wr.alloc (.cells #[.int .i64 (k : Int)] 3) := ⟨_, rfl⟩
        have b2 : Below wr.heap.size wr W2 := by rw [hW2]; exact (Below.refl _ _).alloc (Nat.le_refl _) _
        have HB2 := Lib.hid b2; have HO2 := Lib.hid (HO.out.on b2); have HM2 := Lib.hid (HM.out.on b2)
        have HSL : Hid (Sl W2 (wr.heap.size + 1) 1 (some ⟨wr.heap.size, 0, none⟩) 1 1 [.int .i64 (k : Int)]) := Lib.hid (by rw [hW2]; exact Sl.one _ _ _)
        have HW2 := Lib.hid hW2
        have hlen := HO.out.len
        rw [iv_len] at hlen
        have hpl := prevL_len ln k x
        have hsz : mb + 1 ≤ W2.heap.size := Nat.le_trans HZ.out b2.size
        have HBB : Hid (∀ (A2 : Option Addr) (n2 c2 : Nat) (w3 w4 : World), W2.grownBy w3 (.slice A0 n0 c0' : Value).ownBlock → w3.grownBy w4 (some mb) → Below mb w w4 ∧ mb + 1 ≤ w4.heap.size) := Lib.hid fun A2 n2 c2 w3 w4 h1 h2 => by
          have s1 := h1.size; have s2 := h2.size
          refine ⟨Below.grownBy ((HO2.out.fewer (Nat.le_succ mb)).below (HB.out.trans (HB2.out.mono (Nat.le_of_succ_le HZ.out))) (by omega) h1) h2 (by omega) (fun j e => by injection e with e; omega), by omega⟩
        clear hW2 b2
        have hn0 : n0 ≤ 16777216 := by omega
        have HKM : Hid (∀ w3, W2.grownBy w3 (.slice A0 n0 c0' : Value).ownBlock → Mi w3 mb k g) := Lib.hid fun w3 h3 => HM2.out.kept h3 (by
          rcases HO2.out.blk with e | ⟨b, e, hb, _⟩
          · rw [e]; simp
          · rw [e]; intro e2; injection e2 with e2; omega)
        go_wp2_with (first
          | (at_builtin; go_loud (rw [← HW2.out]; refine wpList_append_sl _ rfl (.tmp 23) (.tmp 25) 27 rfl (mb + 1) 3 i0 _ 1 8 Try.underlying27 hi0 hy0 hy1 hy2 rfl (by omega) A0 n0 c0' (iv (prevL ln k x)) rfl HO2.out (wr.heap.size + 1) _ 1 1 [.int .i64 (k : Int)] rfl HSL.out (by simp [Value.oneCell']) (by omega) (by omega) hsz ?_; intro A3 c3 w3 hown3 hg3 hat3; have HO3 := Lib.hid hown3; have HG3 := Lib.hid hg3; have HA3 := Lib.hid hat3; have HM3 := Lib.hid (HKM.out w3 hg3); clear hown3 hg3 hat3))
          | (at_mapUpdate; go_loud (refine wpList_put_mi _ rfl (.tmp 19) (.tmp 20) (.tmp 26) 72 rfl 27 Try.underlying72 mb k g rfl HM3.out (by omega) x _ rfl rfl HJ.out ?_; intro w4 hm4 hg4; have HR : Hid (Mi w4 mb (k + 1) (fun y => if y = x then some (.slice A3 (n0 + 1) c3) else g y) ∧ Bef w4 (mb + 1) ln (k + 1) (fun y => if y = x then some (.slice A3 (n0 + 1) c3) else g y) ∧ Below mb w w4 ∧ mb + 1 ≤ w4.heap.size) := Lib.hid ⟨hm4, HF.out.push HX.out HX0.out (by have := HX1.out; omega) HJ.out HL0.out HB2.out HO3.out HG3.out HA3.out hg4 (Nat.lt_succ_self _), HBB.out A3 (n0 + 1) c3 w3 w4 HG3.out hg4⟩; clear hm4 hg4)))
        go_roundw
        case rel => exact ⟨k + 1, _, by omega, by go_num, HR.out.1, HR.out.2.1, HR.out.2.2.1, HR.out.2.2.2⟩
        case measure => simp [intOf]; omega
end Go.Proofs.Ytjobjjmeneddnaa
