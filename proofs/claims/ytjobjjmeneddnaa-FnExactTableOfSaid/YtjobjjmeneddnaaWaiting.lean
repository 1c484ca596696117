/- The program's ring buffer of nodes (put, take). The nodes that wait in the ring, as a breadth-first search has them; what a call leaves that turns two blocks. -/
import Derived.Test.YtjobjjmeneddnaaWords
import Derived.Test.YtjobjjmeneddnaaSlices
import Derived.Test.YtjobjjmeneddnaaChecked
import Derived.WalkKit
import Derived.ProofKit
import Derived.Lib.Hide
import Derived.BigQuiet
import Derived.Deep.CutBlock
import Derived.Test.YtjobjjmeneddnaaBfs
import Derived.Test.YtjobjjmeneddnaaOwnCut
import Derived.Test.YtjobjjmeneddnaaDrawOwn
namespace Go.Proofs.Ytjobjjmeneddnaa
open Go.ChangeShapes Go.WideShapes Go.ChangeAt Go.RowKit
set_option linter.unusedVariables false
/-- block q is a ring: 11 places, the head, the count -/
structure Rg (w : World) (q : Nat) (ps : List Int) (h c : Nat) : Prop where
  len : ps.length = 11
  hh : h < 11
  blk : Blk w q 93 (iv ps ++ [Value.int .i64 (h : Nat), Value.int .i64 (c : Nat)]).toArray
section
variable {w w' : World} {q h c : Nat} {ps : List Int}
theorem Rg.at_ (hr : Rg w q ps h c) (i : Nat) (hi : i < ps.length) : w.cell? ⟨q, i, none⟩ = some (.int .i64 ps[i]) := by
  rw [hr.blk.cell]
  simp [iv, List.getElem?_append, hi]
theorem Rg.head (hr : Rg w q ps h c) : w.cell? ⟨q, 11, none⟩ = some (.int .i64 (h : Nat)) := by
  rw [hr.blk.cell]
  have := hr.len
  simp [iv, this]
theorem Rg.count (hr : Rg w q ps h c) : w.cell? ⟨q, 12, none⟩ = some (.int .i64 (c : Nat)) := by
  rw [hr.blk.cell]
  have := hr.len
  simp [iv, this]
theorem Rg.setP (hr : Rg w q ps h c) (i : Nat) (hi : i < 11) (x : Int) : Rg (w.setCell ⟨q, i, none⟩ (.int .i64 x)) q (ps.set i x) h c := by
  refine ⟨by rw [List.length_set]; exact hr.len, hr.hh, ?_⟩
  have h1 := hr.blk.set_ i (.int .i64 x)
  have e : ((iv ps ++ [Value.int .i64 (h : Nat), Value.int .i64 (c : Nat)]).toArray.setIfInBounds i (.int .i64 x)) = (iv (ps.set i x) ++ [Value.int .i64 (h : Nat), Value.int .i64 (c : Nat)]).toArray := by
    rw [List.setIfInBounds_toArray, List.set_append_left _ _ (by rw [iv_len, hr.len]; exact hi)]
    simp [iv, List.map_set]
  rw [e] at h1; exact h1
theorem Rg.setC (hr : Rg w q ps h c) (v : Int) (c' : Nat) (hv : v = c') : Rg (w.setCell ⟨q, 12, none⟩ (.int .i64 v)) q ps h c' := by
  refine ⟨hr.len, hr.hh, ?_⟩
  subst hv
  have h1 := hr.blk.set_ 12 (.int .i64 (c' : Nat))
  have e : ((iv ps ++ [Value.int .i64 (h : Nat), Value.int .i64 (c : Nat)]).toArray.setIfInBounds 12 (.int .i64 (c' : Nat))) = (iv ps ++ [Value.int .i64 (h : Nat), Value.int .i64 (c' : Nat)]).toArray := by
    rw [List.setIfInBounds_toArray, List.set_append_right _ _ (by rw [iv_len, hr.len]; omega), iv_len, hr.len]
    rfl
  rw [e] at h1; exact h1
theorem Rg.setH (hr : Rg w q ps h c) (v : Int) (h' : Nat) (hv : v = h') (hl : h' < 11) : Rg (w.setCell ⟨q, 11, none⟩ (.int .i64 v)) q ps h' c := by
  refine ⟨hr.len, hl, ?_⟩
  subst hv
  have h1 := hr.blk.set_ 11 (.int .i64 (h' : Nat))
  have e : ((iv ps ++ [Value.int .i64 (h : Nat), Value.int .i64 (c : Nat)]).toArray.setIfInBounds 11 (.int .i64 (h' : Nat))) = (iv ps ++ [Value.int .i64 (h' : Nat), Value.int .i64 (c : Nat)]).toArray := by
    rw [List.setIfInBounds_toArray, List.set_append_right _ _ (by rw [iv_len, hr.len]; omega), iv_len, hr.len]
    rfl
  rw [e] at h1; exact h1
theorem Rg.drew (hr : Rg w q ps h c) : Rg w.drew q ps h c := ⟨hr.len, hr.hh, hr.blk.drew⟩
theorem Rg.drewN (hr : Rg w q ps h c) (n : Nat) : Rg (w.drewN n) q ps h c := ⟨hr.len, hr.hh, hr.blk.drewN n⟩
end
set_option maxRecDepth 100000 in
set_option maxHeartbeats 1000000 in
theorem iput (w : World) (q h c : Nat) (ps : List Int) (x : Int) (hr : Rg w q ps h c) (hc : c < 11) :
    Calls Try.prog 70 #[.pointer (some ⟨q, 0, none⟩), .int .i64 x] w fun e w' => e = .returned (.tuple #[]) ∧ Rg w' q (ps.set ((h + c) % 11) x) h (c + 1) ∧ Turn q w w' := by
  have hil : (h + c) % 11 < 11 := by omega
  have hlen := hr.len; have hh := hr.hh
  have c0 := hr.at_ ((h + c) % 11) (by omega)
  have c1 := hr.head; have c2 := hr.count
  have f0 := hr.blk.frozen ((h + c) % 11)
  have r1 := (hr.setP ((h + c) % 11) hil x).drew
  have t1 := ((Turn.refl q w).set_ ((h + c) % 11) (.int .i64 x)).drew
  obtain ⟨W1, hW1⟩ : ∃ W, W = (w.setCell ⟨q, (h + c) % 11, none⟩ (.int .i64 x)).drew := ⟨_, rfl⟩
  rw [← hW1] at r1 t1
  have d2 := r1.count; have g2 := r1.blk.frozen 12
  have HR := Lib.hid r1; have HT := Lib.hid t1
  clear hr r1 t1
  go_enter Try.func70, Try.ntmps70
  go_wp2_with fail
  go_region
  go_upto_region 1 with fail
  rw [← hW1]
  clear hW1 c0 c1 c2 f0
  go_wp2_with fail
  go_end0
  exact ⟨rfl, HR.out.setC _ _ (by omega), HT.out.set_ _ _⟩
set_option maxRecDepth 100000 in
set_option maxHeartbeats 1000000 in
theorem itake (w : World) (q h c : Nat) (ps : List Int) (hr : Rg w q ps h (c + 1)) (hc : c < 100) :
    Calls Try.prog 72 #[.pointer (some ⟨q, 0, none⟩)] w fun e w' => (∃ (hl : h < ps.length), e = .returned (.int .i64 ps[h])) ∧ Rg w' q ps ((h + 1) % 11) c ∧ Turn q w w' := by
  have hlen := hr.len; have hh := hr.hh
  have hl : h < ps.length := by omega
  have c0 := hr.at_ h hl
  have c1 := hr.head; have c2 := hr.count
  obtain ⟨z, hz⟩ : ∃ z, z = ps[h] := ⟨_, rfl⟩
  rw [← hz] at c0
  have HZ : Hid (∃ (hl : h < ps.length), (Ending.returned (.int .i64 z)) = .returned (.int .i64 ps[h])) := Lib.hid ⟨hl, by rw [hz]⟩
  clear hz
  have HR := Lib.hid hr
  have f1 := hr.blk.frozen 11; have f2 := hr.blk.frozen 12
  clear hr
  go_enter Try.func72, Try.ntmps72
  go_wp2_with fail
  go_quiet (fail)
  go_wp2_with fail
  go_ret
  exact ⟨HZ.out, ((HR.out.drewN nq).setH _ ((h + 1) % 11) (by omega) (by omega)).setC _ c rfl, (((Turn.refl q w).drewN nq).set_ 11 _).set_ 12 _⟩
end Go.Proofs.Ytjobjjmeneddnaa
namespace Go.Proofs.Ytjobjjmeneddnaa
open Go.ChangeShapes Go.WideShapes Go.ChangeAt Go.RowKit
set_option linter.unusedVariables false
/-- the nodes behind the first k that may relay -/
def wq (f dst : Int) (todo : List Int) (k : Nat) : List Int := (todo.drop k).filter fun x => decide (Rel f dst x)
theorem wq_put (f dst : Int) (todo : List Int) (k : Nat) (x : Int) (hk : k ≤ todo.length) : wq f dst (todo ++ [x]) k = wq f dst todo k ++ (if Rel f dst x then [x] else []) := by
  unfold wq
  rw [List.drop_append_of_le_length hk, List.filter_append]
  by_cases h : Rel f dst x <;> simp [h]
theorem wq_len (f dst : Int) (todo : List Int) (k : Nat) : (wq f dst todo k).length ≤ todo.length - k := by
  unfold wq
  have := List.length_filter_le (fun x => decide (Rel f dst x)) (todo.drop k)
  rw [List.length_drop] at this; exact this
section
variable {L : List (Int × Int)} {n : Nat} {f dst : Int} {d todo : List Int}
theorem Bfs.pop (m : Nat) : ∀ k, todo.length - k = m → k ≤ todo.length → Bfs L n f dst d todo k → ∀ a rest, wq f dst todo k = a :: rest → ∃ k', k ≤ k' ∧ k' < todo.length ∧ Bfs L n f dst d todo k' ∧ todo[k']? = some a ∧ Rel f dst a ∧ wq f dst todo (k' + 1) = rest := by
  induction m with
  | zero =>
    intro k hm hk h a rest e
    have := wq_len f dst todo k
    rw [e, List.length_cons] at this
    omega
  | succ m ih =>
    intro k hm hk h a rest e
    have hkl : k < todo.length := by omega
    have hd : todo.drop k = todo[k] :: todo.drop (k + 1) := List.drop_eq_getElem_cons hkl
    have hge : todo[k]? = some todo[k] := List.getElem?_eq_getElem hkl
    unfold wq at e
    rw [hd, List.filter_cons] at e
    by_cases hr : Rel f dst todo[k]
    · rw [if_pos (by simpa using hr)] at e
      injection e with e1 e2
      exact ⟨k, Nat.le_refl _, hkl, h, by rw [hge, e1], by rw [← e1]; exact hr, e2⟩
    · rw [if_neg (by simpa using hr)] at e
      obtain ⟨k', h1, h2⟩ := ih (k + 1) (by omega) (by omega) (h.next hge fun h2 => absurd h2 hr) a rest e
      exact ⟨k', by omega, h2⟩
theorem Bfs.skip (m : Nat) : ∀ k, todo.length - k = m → k ≤ todo.length → Bfs L n f dst d todo k → wq f dst todo k = [] → Bfs L n f dst d todo todo.length := by
  induction m with
  | zero =>
    intro k hm hk h _
    obtain rfl : k = todo.length := by omega
    exact h
  | succ m ih =>
    intro k hm hk h e
    have hkl : k < todo.length := by omega
    have hd : todo.drop k = todo[k] :: todo.drop (k + 1) := List.drop_eq_getElem_cons hkl
    have hge : todo[k]? = some todo[k] := List.getElem?_eq_getElem hkl
    unfold wq at e
    rw [hd, List.filter_cons] at e
    by_cases hr : Rel f dst todo[k]
    · rw [if_pos (by simpa using hr)] at e; cases e
    · rw [if_neg (by simpa using hr)] at e
      exact ih (k + 1) (by omega) (by omega) (h.next hge fun h2 => absurd h2 hr) e
end
/-- the ring in block q holds W -/
def RgW (w : World) (q : Nat) (W : List Int) : Prop := ∃ ps h, Rg w q ps h W.length ∧ ∀ j (hj : j < W.length), ps[(h + j) % 11]? = some W[j]
section
variable {w w' : World} {q : Nat} {W : List Int}
theorem RgW.lt (h : RgW w q W) : q < w.heap.size := by obtain ⟨ps, hd, hr, _⟩ := h; exact hr.blk.lt
theorem RgW.count (h : RgW w q W) : w.cell? ⟨q, 12, none⟩ = some (.int .i64 (W.length : Nat)) := by obtain ⟨ps, hd, hr, _⟩ := h; exact hr.count
theorem RgW.same (h : RgW w q W) (hb : w'.heap[q]? = w.heap[q]?) : RgW w' q W := by
  obtain ⟨ps, hd, hr, hj⟩ := h
  exact ⟨ps, hd, ⟨hr.len, hr.hh, hb.trans hr.blk⟩, hj⟩
theorem RgW.on (h : RgW w q W) (hb : Below w.heap.size w w') : RgW w' q W := h.same (hb.block q h.lt)
end
theorem iputW (w : World) (q : Nat) (W : List Int) (x : Int) (hr : RgW w q W) (hc : W.length < 11) :
    Calls Try.prog 70 #[.pointer (some ⟨q, 0, none⟩), .int .i64 x] w fun e w' => e = .returned (.tuple #[]) ∧ RgW w' q (W ++ [x]) ∧ Turn q w w' := by
  obtain ⟨ps, h, hr, hj⟩ := hr
  refine (iput w q h W.length ps x hr hc).mono ?_
  rintro e w' ⟨rfl, hr', ht⟩
  refine ⟨rfl, ⟨ps.set ((h + W.length) % 11) x, h, by rw [List.length_append]; exact hr', fun j hl => ?_⟩, ht⟩
  rw [List.length_append, List.length_singleton] at hl
  have hlen := hr.len; have hh := hr.hh
  by_cases e : j = W.length
  · subst e
    rw [List.getElem?_set_self (by omega)]
    simp
  · rw [List.getElem?_set_ne (by omega), hj j (by omega), List.getElem_append_left (by omega)]
theorem itakeW (w : World) (q : Nat) (a : Int) (W : List Int) (hr : RgW w q (a :: W)) (hc : W.length < 100) :
    Calls Try.prog 72 #[.pointer (some ⟨q, 0, none⟩)] w fun e w' => e = .returned (.int .i64 a) ∧ RgW w' q W ∧ Turn q w w' := by
  obtain ⟨ps, h, hr, hj⟩ := hr
  refine (itake w q h W.length ps hr hc).mono ?_
  rintro e w' ⟨⟨hl, rfl⟩, hr', ht⟩
  have hlen := hr.len; have hh := hr.hh
  refine ⟨?_, ⟨ps, (h + 1) % 11, hr', fun j hjl => ?_⟩, ht⟩
  · have h0 := hj 0 (by simp)
    rw [Nat.add_zero, Nat.mod_eq_of_lt hh, List.getElem?_eq_getElem hl] at h0
    injection h0 with h0
    rw [h0]; rfl
  · have h1 := hj (j + 1) (by simpa using hjl)
    rw [show (h + (j + 1)) % 11 = ((h + 1) % 11 + j) % 11 by omega] at h1
    rw [h1]; rfl
/-- a call that turned two blocks alone, beside new ones -/
structure Two (g q : Nat) (w w' : World) : Prop where
  os : w'.os = w.os
  tape : w'.tape = w.tape
  output : w'.output = w.output
  size : w.heap.size ≤ w'.heap.size
  block : ∀ k, k < w.heap.size → k ≠ g → k ≠ q → w'.heap[k]? = w.heap[k]?
section
variable {g q : Nat} {a b c w : World}
theorem Two.refl (g q : Nat) (w : World) : Two g q w w := ⟨rfl, rfl, rfl, Nat.le_refl _, fun _ _ _ _ => rfl⟩
theorem Two.trans (h : Two g q a b) (k : Two g q b c) : Two g q a c :=
  ⟨k.os.trans h.os, k.tape.trans h.tape, k.output.trans h.output, Nat.le_trans h.size k.size, fun j hj h1 h2 => (k.block j (Nat.lt_of_lt_of_le hj h.size) h1 h2).trans (h.block j hj h1 h2)⟩
theorem Two.of_below (h : Below a.heap.size a w) : Two g q a w := ⟨h.os, h.tape, h.output, h.size, fun k hk _ _ => h.block k hk⟩
theorem Two.of_turn (h : Turn q a w) : Two g q a w := ⟨h.os, h.tape, h.output, h.size, fun k hk _ h2 => h.block k hk h2⟩
theorem Two.of_grown (h : a.grownBy w (some g)) : Two g q a w := ⟨h.os, h.tape, h.output, h.size, fun k hk h1 _ => h.block k hk (fun e => h1 (by injection e))⟩
theorem Two.drew (h : Two g q a w) : Two g q a w.drew := ⟨h.os, h.tape, h.output, h.size, h.block⟩
theorem Two.drewN (h : Two g q a w) (n : Nat) : Two g q a (w.drewN n) := by
  induction n with
  | zero => exact h
  | succ n ih => exact ih.drew
theorem Two.belowOn (h : Two g q a b) (hb : Below b.heap.size b w) : Two g q a w := h.trans (Two.of_below hb)
/-- what was there before both blocks, while both are turned -/
theorem Two.below {B : Nat} (h : Two g q a w) (hB : B ≤ a.heap.size) (hg : B ≤ g) (hq : B ≤ q) : Below B a w := ⟨h.os, h.tape, h.output, h.size, fun k hk => h.block k (by omega) (by omega) (by omega)⟩
theorem Two.blk (h : Two g q a w) {p : Nat} {t : TypeId} {cs : Array Value} (hb : Blk a p t cs) (h1 : p ≠ g) (h2 : p ≠ q) : Blk w p t cs := (h.block p hb.lt h1 h2).trans hb
end
theorem Own.two {g q : Nat} {w w' : World} {B s n c : Nat} {E : TypeId} {A : Option Addr} {xs : List Value} (h : Own w B E s A n c xs) (ht : Two g q w w') (hg : g < B) (hq : q < B) : Own w' B E s A n c xs := by
  refine ⟨h.row.1, ?_⟩
  rcases h.row.2 with h1 | ⟨g', cap, cur, hv, hb, hc, r⟩
  · exact .inl h1
  · exact .inr ⟨g', cap, cur, hv, hb, (ht.block g' (Array.getElem?_eq_some_iff.1 hc).1 (by omega) (by omega)).trans hc, r⟩
theorem OwnC.two {g q : Nat} {w w' : World} {B s n c : Nat} {E : TypeId} {A : Option Addr} {xs : List Value} (h : OwnC w B E s A n c xs) (ht : Two g q w w') (hg : g < B) (hq : q < B) : OwnC w' B E s A n c xs := by
  obtain ⟨C, hC, hO⟩ := h.own
  exact ⟨⟨C, hC, hO.two ht hg hq⟩, h.cap, h.nil⟩
end Go.Proofs.Ytjobjjmeneddnaa
