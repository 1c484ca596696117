/- Loops of next nodes as the program finds them: each node remembers the walk that met it first. -/
import Derived.Test.YtclillkneadplaaWalk
namespace Go.Proofs.Ytclillkneadplaa
open Go.ChangeShapes Go.WideShapes Go.ChangeAt Go.RowKit
set_option linter.unusedVariables false
/-- a walk from x comes to an end -/
def Out (next : List Int) (x : Int) : Prop := ∃ k, ¬ inN next (itr next k x)
theorem itr_add (next : List Int) (a : Int) (i j : Nat) : itr next (i + j) a = itr next i (itr next j a) := by
  induction i with
  | zero => simp [itr]
  | succ i ih => rw [show i + 1 + j = (i + j) + 1 by omega]; show atD next _ = atD next _; rw [ih]
theorem out_back {next : List Int} {a : Int} {j : Nat} (h : Out next (itr next j a)) : Out next a := by
  obtain ⟨k, hk⟩ := h
  exact ⟨k + j, by rw [itr_add]; exact hk⟩
theorem out_wl {next : List Int} {a : Int} {k : Nat} (h : Out next (itr next k a)) : ∀ y ∈ wl next a k, Out next y := by
  intro y hy
  obtain ⟨j, hj, rfl⟩ := List.mem_map.1 hy
  have hj := List.mem_range.1 hj
  refine out_back (j := k - j) ?_
  rw [← itr_add, show k - j + j = k by omega]; exact h
theorem out_stays {next : List Int} {a : Int} (h : ¬ inN next a) (m : Nat) : ¬ inN next (itr next m a) := by
  induction m with
  | zero => exact h
  | succ m ih =>
    show ¬ inN next (atD next (itr next m a))
    rw [atD_out]
    · unfold inN; omega
    · unfold inN at ih; omega
theorem round_not_out {next : List Int} {i : Int} {k : Nat} (h : itr next (k + 1) i = i) (hi : inN next i) : ¬ Out next i := by
  rintro ⟨m, hm⟩
  have h1 : ∀ t, itr next ((k + 1) * t) i = i := by
    intro t
    induction t with
    | zero => rfl
    | succ t ih => rw [show (k + 1) * (t + 1) = (k + 1) * t + (k + 1) by rw [Nat.mul_succ], itr_add, h]; exact ih
  have h2 := out_stays hm ((k + 1) * m - m)
  rw [← itr_add, Nat.sub_add_cancel (by rw [Nat.succ_mul]; omega), h1] at h2
  exact h2 hi
theorem loopB_no {next : List Int} (h : ∀ j : Nat, j < next.length → Out next j) : loopB next = false := by
  unfold loopB
  rw [List.any_eq_false]
  intro i hi
  have hi := List.mem_range.1 hi
  unfold loopAt
  rw [Bool.not_eq_true, List.any_eq_false]
  intro k _ e
  exact round_not_out (of_decide_eq_true e) (show inN next i by unfold inN; omega) (h i hi)
theorem loopB_yes {next : List Int} {y : Int} {d : Nat} (hy : inN next y) (hd : d < next.length) (h : itr next (d + 1) y = y) : loopB next = true := by
  unfold loopB
  obtain ⟨i, rfl⟩ : ∃ i : Nat, (i : Int) = y := ⟨y.toNat, by unfold inN at hy; omega⟩
  rw [List.any_eq_true]
  refine ⟨i, List.mem_range.2 (by unfold inN at hy; omega), ?_⟩
  unfold loopAt
  rw [List.any_eq_true]
  exact ⟨d, List.mem_range.2 hd, decide_eq_true h⟩
/-- what the nodes remember while the walk from s goes on and has met q -/
structure Met (next met : List Int) (s : Nat) (q : List Int) : Prop where
  len : met.length = next.length
  low : ∀ x, -1 ≤ atD met x
  top : ∀ x, atD met x ≤ s
  hit : ∀ x, atD met x = s ↔ x ∈ q
  old : ∀ x, 0 ≤ atD met x → x ∉ q → Out next x
  nd : q.Nodup
  rng : ∀ x ∈ q, inN next x
  vis : ∀ j : Nat, j < s → 0 ≤ atD met j
section
variable {next met q : List Int} {s : Nat}
theorem Met.start (next : List Int) : Met next (List.replicate next.length (-1)) 0 [] := by
  refine ⟨by simp, fun x => by rw [atD_rep]; omega, fun x => by rw [atD_rep]; omega, fun x => ?_, fun x hx => ?_, by simp, (fun x hx => by cases hx), fun j hj => by omega⟩
  · rw [atD_rep]; simp
  · rw [atD_rep] at hx; omega
theorem Met.few (h : Met next met s q) : q.length ≤ next.length := by
  have h1 := nodup_le (A := q) (B := (List.range next.length).map fun v : Nat => (v : Int)) h.nd fun x hx => by
    have h2 := h.rng x hx
    unfold inN at h2
    exact List.mem_map.2 ⟨x.toNat, List.mem_range.2 (by omega), by omega⟩
  rw [List.length_map, List.length_range] at h1
  exact h1
theorem Met.put (h : Met next met s q) {x : Nat} (hx : x < next.length) (hn : atD met x < 0) : Met next (met.set x s) s (q ++ [(x : Int)]) := by
  have hs : ∀ y, atD (met.set x s) y = if y = (x : Int) then (s : Int) else atD met y := fun y => by
    have h1 := atD_set met (x : Int) (s : Int) y (by omega) (by rw [h.len]; omega)
    rwa [show ((x : Int).toNat) = x by omega] at h1
  have hxq : (x : Int) ∉ q := fun hq => by have := (h.hit x).2 hq; omega
  refine ⟨by rw [List.length_set]; exact h.len, fun y => ?_, fun y => ?_, fun y => ?_, fun y hy hyq => ?_, ?_, fun y hy => ?_, fun j hj => ?_⟩
  · rw [hs]; split
    · omega
    · exact h.low y
  · rw [hs]; split
    · omega
    · exact h.top y
  · rw [hs, List.mem_append, List.mem_singleton]
    by_cases e : y = (x : Int)
    · rw [if_pos e]; simp [e]
    · rw [if_neg e, h.hit]; simp [e]
  · rw [List.mem_append, List.mem_singleton] at hyq
    rw [hs, if_neg (fun e => hyq (.inr e))] at hy
    exact h.old y hy fun hq => hyq (.inl hq)
  · rw [List.nodup_append]
    refine ⟨h.nd, by simp, fun y hy z hz e => ?_⟩
    rw [List.mem_singleton.1 hz] at e
    exact hxq (e ▸ hy)
  · rcases List.mem_append.1 hy with hy | hy
    · exact h.rng y hy
    · rw [List.mem_singleton.1 hy]; unfold inN; omega
  · rw [hs]; split
    · omega
    · exact h.vis j hj
theorem Met.after (h : Met next met s q) (ho : ∀ x ∈ q, Out next x) (hv : 0 ≤ atD met s) : Met next met (s + 1) [] := by
  refine ⟨h.len, h.low, fun x => by have := h.top x; omega, fun x => ?_, fun x hx _ => ?_, by simp, (fun x hx => by cases hx), fun j hj => ?_⟩
  · have := h.top x
    constructor
    · intro e; omega
    · intro e; cases e
  · by_cases hq : x ∈ q
    · exact ho x hq
    · exact h.old x hx hq
  · by_cases e : j = s
    · subst e; exact hv
    · exact h.vis j (by omega)
theorem Met.fin (h : Met next met next.length []) : loopB next = false :=
  loopB_no fun j hj => h.old j (h.vis j hj) (by simp)
end
/-- the marks that loops over iterators have left -/
def marks (ms : List Nat) : List Deferred := ms.map fun D => { target := .collected D, args := #[] }
/-- a function leaves over its marks -/
theorem leaves_marks {F : Fence} {n : Nat} {P : Program} {fn : Func} {tmps : Array Value} {R : Ending → World → Prop} (B : Nat) (ms : List Nat) : ∀ W : World, ms.Nodup → (∀ D ∈ ms, B ≤ D ∧ W.heap[D]? = some (.deferred (some []))) →
    (∀ W' : World, Below B W W' → (∀ p v, W.cell? p = some v → W'.cell? p = some v) → ∃ v, (results fn tmps).run P W' = .ok v W' ∧ R (.returned v) W') → LeavesInM F n P fn tmps R (marks ms) .returning W := by
  induction ms with
  | nil => intro W _ _ h; exact h W (Below.refl _ _) fun _ _ h => h
  | cons D ms ih =>
    intro W hnd hm h
    rw [List.nodup_cons] at hnd
    obtain ⟨hBD, hD⟩ := hm D List.mem_cons_self
    refine ⟨by simp, .inl ⟨_, _, rfl, run_takeDeferred hD, ih _ hnd.2 (fun E hE => ?_) fun W' hb hc => ?_⟩⟩
    · obtain ⟨h1, h2⟩ := hm E (List.mem_cons_of_mem _ hE)
      exact ⟨h1, (World.putObj_heap_other (fun e => hnd.1 (by rw [← e]; exact hE))).trans h2⟩
    · refine h W' (Below.trans ?_ hb) fun p v hp => hc p v ?_
      · exact (Below.refl B W).grown (grownBy_putObj' W D _) (by have := (Array.getElem?_eq_some_iff.1 hD).1; omega) (fun k e => by cases e; exact hBD)
      · exact cell_kept hp (grownBy_putObj' W D (.deferred none)) (fun r e => by cases e; exact ⟨_, hD, rfl⟩)
end Go.Proofs.Ytclillkneadplaa
