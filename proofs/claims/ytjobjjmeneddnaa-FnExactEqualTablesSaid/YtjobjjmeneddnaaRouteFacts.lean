/- Next nodes, paths along them, loops and counts in plain words. No program. -/
import Derived.Test.YtjobjjmeneddnaaPathFacts
namespace Go.Proofs.Ytjobjjmeneddnaa
open Go.ChangeShapes Go.WideShapes Go.ChangeAt Go.RowKit
set_option linter.unusedVariables false
/-- x is a next node of i -/
def okN (f dst : Int) (d : List Int) (i x : Int) : Bool := decide ((0 ≤ x ∧ x < d.length) ∧ Rel f dst x ∧ atD d x = atD d i - 1)
def nextAt (L : List (Int × Int)) (f dst : Int) (d : List Int) (i : Int) : Int := if 0 < atD d i then ((nbL L i).find? (okN f dst d i)).getD (-1) else -1
def nextL (L : List (Int × Int)) (f dst : Int) (d : List Int) : List Int := (List.range d.length).map fun i : Nat => nextAt L f dst d i
theorem nextL_len (L : List (Int × Int)) (f dst : Int) (d : List Int) : (nextL L f dst d).length = d.length := by simp [nextL]
theorem atD_next (L : List (Int × Int)) (f dst : Int) (d : List Int) (i : Int) : atD (nextL L f dst d) i = if 0 ≤ i ∧ i < d.length then nextAt L f dst d i else -1 := by
  split
  · rename_i h
    obtain ⟨k, rfl⟩ : ∃ k : Nat, (k : Int) = i := ⟨i.toNat, by omega⟩
    rw [atD_nat _ k (by rw [nextL_len]; omega)]
    simp [nextL]
  · rw [atD_out]
    rw [nextL_len]; omega
/-- the way from a to dst along next, within m nodes -/
def pathGo (next : List Int) (dst : Int) : Nat → Int → Option (List Int)
  | 0, _ => none
  | m + 1, a => if 0 ≤ a ∧ a < next.length then (if a = dst then some [a] else (pathGo next dst m (atD next a)).map (a :: ·)) else none
def pathL (next : List Int) (a dst : Int) : List Int := (pathGo next dst (next.length + 1) a).getD []
theorem pathGo_len (next : List Int) (dst : Int) (m : Nat) (a : Int) (p : List Int) (h : pathGo next dst m a = some p) : p.length ≤ m := by
  induction m generalizing a p with
  | zero => simp [pathGo] at h
  | succ m ih =>
    unfold pathGo at h
    split at h
    · split at h
      · injection h with h; subst h; simp
      · rw [Option.map_eq_some_iff] at h
        obtain ⟨q, hq, rfl⟩ := h
        have := ih _ q hq
        simp; omega
    · cases h
theorem pathL_len (next : List Int) (a dst : Int) : (pathL next a dst).length ≤ next.length + 1 := by
  unfold pathL
  cases h : pathGo next dst (next.length + 1) a with
  | none => simp
  | some p => exact pathGo_len _ _ _ _ _ h
/-- k steps along next -/
def itr (next : List Int) : Nat → Int → Int
  | 0, a => a
  | k + 1, a => atD next (itr next k a)
def loopAt (next : List Int) (i : Nat) : Bool := (List.range next.length).any fun k => decide (itr next (k + 1) i = i)
def loopB (next : List Int) : Bool := (List.range next.length).any (loopAt next)
/-- how many are reached -/
def cntL (d : List Int) : Nat := d.countP fun z => decide (0 ≤ z)
theorem cntL_le (d : List Int) : cntL d ≤ d.length := List.countP_le_length
section
variable {L : List (Int × Int)} {n : Nat} {f dst : Int} {d : List Int}
theorem IsDist.next_some (h : IsDist L n f dst d) (i : Int) (hi : 0 < atD d i) : Rel f dst (nextAt L f dst d i) ∧ atD d (nextAt L f dst d i) = atD d i - 1 := by
  unfold nextAt
  rw [if_pos hi]
  cases e : (nbL L i).find? (okN f dst d i) with
  | none =>
    obtain ⟨j, hj, hr, hd⟩ := h.down i hi
    have := List.find?_eq_none.1 e j hj
    have hin := atD_in d j (by omega)
    exact absurd (decide_eq_true ⟨hin, hr, hd⟩) this
  | some x =>
    have e2 : okN f dst d i x = true := List.find?_some e
    have := of_decide_eq_true e2
    exact ⟨this.2.1, this.2.2⟩
theorem next_none (i : Int) (hi : ¬ 0 < atD d i) : nextAt L f dst d i = -1 := by unfold nextAt; rw [if_neg hi]
theorem IsDist.path_some (h : IsDist L n f dst d) (m : Nat) : ∀ (i : Int) (u : Nat), atD d i = m → m < u → ∃ p, pathGo (nextL L f dst d) dst u i = some p ∧ p.length = m + 1 ∧ p[0]? = some i ∧ ∀ k, 1 ≤ k → k + 1 < p.length → ∃ x, p[k]? = some x ∧ x < f := by
  induction m with
  | zero =>
    intro i u hi hu
    obtain ⟨v, rfl⟩ : ∃ v, u = v + 1 := ⟨u - 1, by omega⟩
    have hin := atD_in d i (by omega)
    obtain rfl := (h.zero i).1 (by omega)
    refine ⟨[i], ?_, rfl, rfl, fun k h1 h2 => by simp at h2⟩
    unfold pathGo
    rw [nextL_len, if_pos hin, if_pos rfl]
  | succ m ih =>
    intro i u hi hu
    obtain ⟨v, rfl⟩ : ∃ v, u = v + 1 := ⟨u - 1, by omega⟩
    have hin := atD_in d i (by omega)
    have hne : i ≠ dst := fun e => by have := (h.zero i).2 e; omega
    obtain ⟨hr, hd⟩ := h.next_some i (by omega)
    obtain ⟨p, hp, hl, h0, hk⟩ := ih (nextAt L f dst d i) v (by omega) (by omega)
    refine ⟨i :: p, ?_, by simp [hl], rfl, fun k h1 h2 => ?_⟩
    · unfold pathGo
      rw [nextL_len, if_pos hin, if_neg hne, atD_next, if_pos hin, hp]; rfl
    · obtain ⟨k, rfl⟩ : ∃ j, k = j + 1 := ⟨k - 1, by omega⟩
      rw [List.getElem?_cons_succ]
      rw [List.length_cons] at h2
      by_cases hk0 : k = 0
      · subst hk0
        refine ⟨_, h0, ?_⟩
        rcases hr with hr | hr
        · exact hr
        · have := (h.zero _).2 hr; omega
      · exact hk k (by omega) (by omega)
theorem IsDist.path_none (h : IsDist L n f dst d) (i : Int) (u : Nat) (hi : atD d i < 0) (hu : 2 ≤ u) : pathGo (nextL L f dst d) dst u i = none := by
  obtain ⟨v, rfl⟩ : ∃ v, u = v + 2 := ⟨u - 2, by omega⟩
  have hne : i ≠ dst := fun e => by have := (h.zero i).2 e; omega
  unfold pathGo
  split
  · rename_i hin
    rw [atD_next, if_pos (by rw [nextL_len] at hin; exact hin), next_none i (by omega)]
    unfold pathGo
    rw [if_neg (by omega)]; rfl
  · rfl
/-- the path from a node has as many nodes as its distance and one, and relays before f alone -/
theorem IsDist.path (h : IsDist L n f dst d) (hn : 1 ≤ n) (i : Int) : ((pathL (nextL L f dst d) i dst).length : Int) = atD d i + 1 ∧ ∀ k, 1 ≤ k → k + 1 < (pathL (nextL L f dst d) i dst).length → ∃ x, (pathL (nextL L f dst d) i dst)[k]? = some x ∧ x < f := by
  have hlow := h.low i
  unfold pathL
  rw [nextL_len, h.len]
  by_cases hi : 0 ≤ atD d i
  · have hlt := h.lt i hi
    obtain ⟨p, hp, hl, _, hk⟩ := h.path_some (atD d i).toNat i (n + 1) (by omega) (by omega)
    rw [hp]
    exact ⟨by simp [hl]; omega, hk⟩
  · rw [h.path_none i (n + 1) (by omega) (by omega)]
    exact ⟨by simp; omega, fun k h1 h2 => by simp at h2⟩
theorem IsDist.itr_down (h : IsDist L n f dst d) (i : Int) (k : Nat) (hk : 0 ≤ itr (nextL L f dst d) k i) : atD d (itr (nextL L f dst d) k i) = atD d i - k := by
  induction k with
  | zero => simp [itr]
  | succ k ih =>
    unfold itr at hk ⊢
    rw [atD_next] at hk ⊢
    split at hk
    · rename_i hin
      rw [if_pos hin]
      by_cases hp : 0 < atD d (itr (nextL L f dst d) k i)
      · rw [(h.next_some _ hp).2, ih hin.1]; omega
      · rw [next_none _ hp] at hk; omega
    · omega
theorem IsDist.no_loop (h : IsDist L n f dst d) : loopB (nextL L f dst d) = false := by
  unfold loopB
  rw [List.any_eq_false]
  intro i _
  unfold loopAt
  rw [Bool.not_eq_true, List.any_eq_false]
  intro k _ e
  have e2 := of_decide_eq_true e
  have := h.itr_down i (k + 1) (by rw [e2]; omega)
  rw [e2] at this
  omega
end
end Go.Proofs.Ytjobjjmeneddnaa
