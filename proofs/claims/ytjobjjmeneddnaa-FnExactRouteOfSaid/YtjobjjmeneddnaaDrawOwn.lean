/- A cursor that is turned, beside a slice of one's own that grows. No program of its own. -/
import Derived.Test.YtjobjjmeneddnaaDraw
import Derived.Test.YtjobjjmeneddnaaSlices
namespace Go.Proofs.Ytjobjjmeneddnaa
open Go.RowKit
theorem Turn.grownBy {p : Nat} {w w' : World} (h : Turn p w w') : w.grownBy w' (some p) := ⟨h.os, h.tape, h.output, h.size, fun k hk hne => h.block k hk (fun e => hne (by rw [e]))⟩
/-- one's own, while the cursor is turned -/
theorem Own.turn {p : Nat} {w w' : World} {B s n c : Nat} {E : TypeId} {A : Option Addr} {xs : List Value} (h : Own w B E s A n c xs) (ht : Turn p w w') (hp : p < B) : Own w' B E s A n c xs := by
  refine h.kept ht.grownBy ?_
  rcases h.blk with e | ⟨g, e, hg, _⟩
  · exact .inl e
  · right; rw [e]; simp; omega
/-- the cursor, while one's own grows -/
theorem Cur.grown {w w' : World} {p : Nat} {A : Option Addr} {cap : Nat} {xs : List Value} {B s n c : Nat} {E : TypeId} {A' : Option Addr} {ys : List Value} (h : Cur w p A cap xs) (ho : Own w B E s A' n c ys) (hp : p < B) (hg : w.grownBy w' (Value.slice A' n c).ownBlock) : Cur w' p A cap xs := by
  refine h.turned fun k hk => hg.block k (by have := h.lt; omega) fun e => ?_
  rcases ho.blk with e2 | ⟨g, e2, hg2, _⟩
  · rw [e2] at e; cases e
  · rw [e2] at e; injection e with e; omega
theorem Turn.grown {p : Nat} {w w1 w' : World} {s n c : Nat} {E : TypeId} {A' : Option Addr} {ys : List Value} (h : Turn p w w1) (ho : Own w1 w.heap.size E s A' n c ys) (hg : w1.grownBy w' (Value.slice A' n c).ownBlock) : Turn p w w' := by
  refine ⟨hg.os.trans h.os, hg.tape.trans h.tape, hg.output.trans h.output, Nat.le_trans h.size hg.size, fun k hk hne => (hg.block k (by have := h.size; omega) fun e => ?_).trans (h.block k hk hne)⟩
  rcases ho.blk with e2 | ⟨g, e2, hg2, _⟩
  · rw [e2] at e; cases e
  · rw [e2] at e; injection e with e; omega
theorem Turn.belowOn {p : Nat} {w w1 w' : World} (h : Turn p w w1) (hb : Below w1.heap.size w1 w') : Turn p w w' := h.trans (Turn.of_below hb (Nat.le_refl _))
end Go.Proofs.Ytjobjjmeneddnaa
