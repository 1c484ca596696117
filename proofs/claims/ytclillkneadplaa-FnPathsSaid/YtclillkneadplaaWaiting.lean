/- The nodes that wait in the ring, as a breadth-first search has them; what a call leaves that turns two blocks. -/
import Derived.Test.YtclillkneadplaaRing
import Derived.Test.YtclillkneadplaaBfs
import Derived.Test.YtclillkneadplaaOwnCut
import Derived.Test.YtclillkneadplaaDrawOwn
namespace Go.Proofs.Ytclillkneadplaa
open Go.ChangeShapes Go.WideShapes Go.ChangeAt Go.RowKit
set_option linter.unusedVariables false
/-- the nodes behind the first k that may relay -/
def wq (f dst : Int) (todo : List Int) (k : Nat) : List Int := (todo.drop k).filter fun x => decide (Rel f dst x)
theorem wq_put (f dst : Int) (todo : List Int) (k : Nat) (x : Int) (hk : k ≤ todo.length) : wq f dst (todo ++ [x]) k = wq f dst todo k ++ (if Rel f dst x then [x] else []) := by
  unfold wq
  rw [List.drop_append_of_le_length hk, List.filter_append]
  by_cases h : Rel f dst x <;> simp [h]
theorem wq_len (f dst : Int) (todo : List Int) (k : Nat) : (wq f dst todo k).length ≤ todo.length - k := by
  unfold wq
  have := List.length_filter_le (fun x => decide (Rel f dst x)) (todo.drop k)
  rw [List.length_drop] at this; exact this
section
variable {L : List (Int × Int)} {n : Nat} {f dst : Int} {d todo : List Int}
theorem Bfs.pop (m : Nat) : ∀ k, todo.length - k = m → k ≤ todo.length → Bfs L n f dst d todo k → ∀ a rest, wq f dst todo k = a :: rest → ∃ k', k ≤ k' ∧ k' < todo.length ∧ Bfs L n f dst d todo k' ∧ todo[k']? = some a ∧ Rel f dst a ∧ wq f dst todo (k' + 1) = rest := by
  induction m with
  | zero =>
    intro k hm hk h a rest e
    have := wq_len f dst todo k
    rw [e, List.length_cons] at this
    omega
  | succ m ih =>
    intro k hm hk h a rest e
    have hkl : k < todo.length := by omega
    have hd : todo.drop k = todo[k] :: todo.drop (k + 1) := List.drop_eq_getElem_cons hkl
    have hge : todo[k]? = some todo[k] := List.getElem?_eq_getElem hkl
    unfold wq at e
    rw [hd, List.filter_cons] at e
    by_cases hr : Rel f dst todo[k]
    · rw [if_pos (by simpa using hr)] at e
      injection e with e1 e2
      exact ⟨k, Nat.le_refl _, hkl, h, by rw [hge, e1], by rw [← e1]; exact hr, e2⟩
    · rw [if_neg (by simpa using hr)] at e
      obtain ⟨k', h1, h2⟩ := ih (k + 1) (by omega) (by omega) (h.next hge fun h2 => absurd h2 hr) a rest e
      exact ⟨k', by omega, h2⟩
theorem Bfs.skip (m : Nat) : ∀ k, todo.length - k = m → k ≤ todo.length → Bfs L n f dst d todo k → wq f dst todo k = [] → Bfs L n f dst d todo todo.length := by
  induction m with
  | zero =>
    intro k hm hk h _
    obtain rfl : k = todo.length := by omega
    exact h
  | succ m ih =>
    intro k hm hk h e
    have hkl : k < todo.length := by omega
    have hd : todo.drop k = todo[k] :: todo.drop (k + 1) := List.drop_eq_getElem_cons hkl
    have hge : todo[k]? = some todo[k] := List.getElem?_eq_getElem hkl
    unfold wq at e
    rw [hd, List.filter_cons] at e
    by_cases hr : Rel f dst todo[k]
    · rw [if_pos (by simpa using hr)] at e; cases e
    · rw [if_neg (by simpa using hr)] at e
      exact ih (k + 1) (by omega) (by omega) (h.next hge fun h2 => absurd h2 hr) e
end
/-- the ring in block q holds W -/
def RgW (w : World) (q : Nat) (W : List Int) : Prop := ∃ ps h, Rg w q ps h W.length ∧ ∀ j (hj : j < W.length), ps[(h + j) % 11]? = some W[j]
section
variable {w w' : World} {q : Nat} {W : List Int}
theorem RgW.lt (h : RgW w q W) : q < w.heap.size := by obtain ⟨ps, hd, hr, _⟩ := h; exact hr.blk.lt
theorem RgW.count (h : RgW w q W) : w.cell? ⟨q, 12, none⟩ = some (.int .i64 (W.length : Nat)) := by obtain ⟨ps, hd, hr, _⟩ := h; exact hr.count
theorem RgW.same (h : RgW w q W) (hb : w'.heap[q]? = w.heap[q]?) : RgW w' q W := by
  obtain ⟨ps, hd, hr, hj⟩ := h
  exact ⟨ps, hd, ⟨hr.len, hr.hh, hb.trans hr.blk⟩, hj⟩
theorem RgW.on (h : RgW w q W) (hb : Below w.heap.size w w') : RgW w' q W := h.same (hb.block q h.lt)
end
theorem iputW (w : World) (q : Nat) (W : List Int) (x : Int) (hr : RgW w q W) (hc : W.length < 11) :
    Calls Try.prog 33 #[.pointer (some ⟨q, 0, none⟩), .int .i64 x] w fun e w' => e = .returned (.tuple #[]) ∧ RgW w' q (W ++ [x]) ∧ Turn q w w' := by
  obtain ⟨ps, h, hr, hj⟩ := hr
  refine (iput w q h W.length ps x hr hc).mono ?_
  rintro e w' ⟨rfl, hr', ht⟩
  refine ⟨rfl, ⟨ps.set ((h + W.length) % 11) x, h, by rw [List.length_append]; exact hr', fun j hl => ?_⟩, ht⟩
  rw [List.length_append, List.length_singleton] at hl
  have hlen := hr.len; have hh := hr.hh
  by_cases e : j = W.length
  · subst e
    rw [List.getElem?_set_self (by omega)]
    simp
  · rw [List.getElem?_set_ne (by omega), hj j (by omega), List.getElem_append_left (by omega)]
theorem itakeW (w : World) (q : Nat) (a : Int) (W : List Int) (hr : RgW w q (a :: W)) (hc : W.length < 100) :
    Calls Try.prog 35 #[.pointer (some ⟨q, 0, none⟩)] w fun e w' => e = .returned (.int .i64 a) ∧ RgW w' q W ∧ Turn q w w' := by
  obtain ⟨ps, h, hr, hj⟩ := hr
  refine (itake w q h W.length ps hr hc).mono ?_
  rintro e w' ⟨⟨hl, rfl⟩, hr', ht⟩
  have hlen := hr.len; have hh := hr.hh
  refine ⟨?_, ⟨ps, (h + 1) % 11, hr', fun j hjl => ?_⟩, ht⟩
  · have h0 := hj 0 (by simp)
    rw [Nat.add_zero, Nat.mod_eq_of_lt hh, List.getElem?_eq_getElem hl] at h0
    injection h0 with h0
    rw [h0]; rfl
  · have h1 := hj (j + 1) (by simpa using hjl)
    rw [show (h + (j + 1)) % 11 = ((h + 1) % 11 + j) % 11 by omega] at h1
    rw [h1]; rfl
/-- a call that turned two blocks alone, beside new ones -/
structure Two (g q : Nat) (w w' : World) : Prop where
  os : w'.os = w.os
  tape : w'.tape = w.tape
  output : w'.output = w.output
  size : w.heap.size ≤ w'.heap.size
  block : ∀ k, k < w.heap.size → k ≠ g → k ≠ q → w'.heap[k]? = w.heap[k]?
section
variable {g q : Nat} {a b c w : World}
theorem Two.refl (g q : Nat) (w : World) : Two g q w w := ⟨rfl, rfl, rfl, Nat.le_refl _, fun _ _ _ _ => rfl⟩
theorem Two.trans (h : Two g q a b) (k : Two g q b c) : Two g q a c :=
  ⟨k.os.trans h.os, k.tape.trans h.tape, k.output.trans h.output, Nat.le_trans h.size k.size, fun j hj h1 h2 => (k.block j (Nat.lt_of_lt_of_le hj h.size) h1 h2).trans (h.block j hj h1 h2)⟩
theorem Two.of_below (h : Below a.heap.size a w) : Two g q a w := ⟨h.os, h.tape, h.output, h.size, fun k hk _ _ => h.block k hk⟩
theorem Two.of_turn (h : Turn q a w) : Two g q a w := ⟨h.os, h.tape, h.output, h.size, fun k hk _ h2 => h.block k hk h2⟩
theorem Two.of_grown (h : a.grownBy w (some g)) : Two g q a w := ⟨h.os, h.tape, h.output, h.size, fun k hk h1 _ => h.block k hk (fun e => h1 (by injection e))⟩
theorem Two.drew (h : Two g q a w) : Two g q a w.drew := ⟨h.os, h.tape, h.output, h.size, h.block⟩
theorem Two.drewN (h : Two g q a w) (n : Nat) : Two g q a (w.drewN n) := by
  induction n with
  | zero => exact h
  | succ n ih => exact ih.drew
theorem Two.belowOn (h : Two g q a b) (hb : Below b.heap.size b w) : Two g q a w := h.trans (Two.of_below hb)
/-- what was there before both blocks, while both are turned -/
theorem Two.below {B : Nat} (h : Two g q a w) (hB : B ≤ a.heap.size) (hg : B ≤ g) (hq : B ≤ q) : Below B a w := ⟨h.os, h.tape, h.output, h.size, fun k hk => h.block k (by omega) (by omega) (by omega)⟩
theorem Two.blk (h : Two g q a w) {p : Nat} {t : TypeId} {cs : Array Value} (hb : Blk a p t cs) (h1 : p ≠ g) (h2 : p ≠ q) : Blk w p t cs := (h.block p hb.lt h1 h2).trans hb
end
theorem Own.two {g q : Nat} {w w' : World} {B s n c : Nat} {E : TypeId} {A : Option Addr} {xs : List Value} (h : Own w B E s A n c xs) (ht : Two g q w w') (hg : g < B) (hq : q < B) : Own w' B E s A n c xs := by
  refine ⟨h.row.1, ?_⟩
  rcases h.row.2 with h1 | ⟨g', cap, cur, hv, hb, hc, r⟩
  · exact .inl h1
  · exact .inr ⟨g', cap, cur, hv, hb, (ht.block g' (Array.getElem?_eq_some_iff.1 hc).1 (by omega) (by omega)).trans hc, r⟩
theorem OwnC.two {g q : Nat} {w w' : World} {B s n c : Nat} {E : TypeId} {A : Option Addr} {xs : List Value} (h : OwnC w B E s A n c xs) (ht : Two g q w w') (hg : g < B) (hq : q < B) : OwnC w' B E s A n c xs := by
  obtain ⟨C, hC, hO⟩ := h.own
  exact ⟨⟨C, hC, hO.two ht hg hq⟩, h.cap, h.nil⟩
end Go.Proofs.Ytclillkneadplaa
