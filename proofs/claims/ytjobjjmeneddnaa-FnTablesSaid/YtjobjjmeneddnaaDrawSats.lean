/- Draws beside blocks of one's own, in one word; the contracts of chapter 6's draws: satellites. -/
import Derived.Test.YtjobjjmeneddnaaDrawArcs
import Derived.Test.YtjobjjmeneddnaaDrawOwn
import Derived.Test.YtjobjjmeneddnaaSky
namespace Go.Proofs.Ytjobjjmeneddnaa
open Go.ChangeShapes Go.WideShapes Go.ChangeAt Go.RowKit
set_option linter.unusedVariables false
/-- since w0 the cursor at p has been turned, and new blocks were made and written -/
structure Dr (w0 : World) (p : Nat) (A : Option Addr) (cap : Nat) (xs : List Value) (w : World) : Prop where
  lt : p < w0.heap.size
  cur : Cur w p A cap xs
  turn : Turn p w0 w
section
variable {w0 w w' : World} {p : Nat} {A : Option Addr} {cap : Nat} {xs : List Value}
theorem Dr.start (h : Cur w p A cap xs) : Dr w p A cap xs w := ⟨h.lt, h, Turn.refl _ _⟩
theorem Dr.call (h : Dr w0 p A cap xs w) (c : Cur w' p A cap xs) (u : Turn p w w') : Dr w0 p A cap xs w' := ⟨h.lt, c, h.turn.trans u⟩
theorem Dr.alloc (h : Dr w0 p A cap xs w) (o : Obj) : Dr w0 p A cap xs (w.alloc o) := ⟨h.lt, h.cur.alloc o, h.turn.alloc o⟩
theorem Dr.size (h : Dr w0 p A cap xs w) : w0.heap.size ≤ w.heap.size := h.turn.size
theorem Dr.set_ (h : Dr w0 p A cap xs w) {a : Addr} (ha : w0.heap.size ≤ a.block) (u : Value) : Dr w0 p A cap xs (w.setCell a u) := by
  have := h.lt
  obtain ⟨c, t⟩ := put_far (w := w0) (w5 := w) (p := p) a u (by omega) ha h.cur h.turn
  exact ⟨h.lt, c, t⟩
theorem Dr.grown {E : TypeId} {s n c : Nat} {A' : Option Addr} {ys : List Value} (h : Dr w0 p A cap xs w) (ho : Own w w0.heap.size E s A' n c ys) (hg : w.grownBy w' (Value.slice A' n c).ownBlock) : Dr w0 p A cap xs w' := ⟨h.lt, h.cur.grown ho h.lt hg, h.turn.grown ho hg⟩
theorem Dr.below (h : Dr w0 p A cap xs w) (hb : Below w.heap.size w w') : Dr w0 p A cap xs w' := ⟨h.lt, h.cur.below hb, h.turn.belowOn hb⟩
end
/-- a call that answers v and turns the cursor -/
def DrV (w : World) (p : Nat) (A : Option Addr) (cap : Nat) (xs : List Value) (Q : Value → Prop) (e : Ending) (w' : World) : Prop := (∃ v, e = .returned v ∧ Q v) ∧ Cur w' p A cap xs ∧ Turn p w w'
theorem j64 {z : Int} (h0 : -9223372036854775808 ≤ z) (h1 : z ≤ 9223372036854775807) : J64 z := ⟨h0, h1⟩
/-- a drawn satellite: its error is small -/
def Oke (x : Sat4) : Prop := J64 x.p ∧ J64 x.h ∧ J64 x.v ∧ (J64 x.e ∧ x.e ≤ 21)
theorem Oke.ok4 {x : Sat4} (h : Oke x) : Ok4 x := ⟨h.1, h.2.1, h.2.2.1, h.2.2.2.1⟩
theorem oke {x y z u : Int} (a : J64 x) (b : J64 y) (c : J64 z) (d : J64 u) (e : u ≤ 21) : Oke ⟨x, y, z, u⟩ := ⟨a, b, c, d, e⟩
/-- a satellite as a value -/
def satV (x : Sat4) : Value := .agg #[.int .i64 x.p, .int .i64 x.h, .int .i64 x.v, .int .i64 x.e]
end Go.Proofs.Ytjobjjmeneddnaa
