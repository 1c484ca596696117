/- A slice of one's own that is cut off with three indexes: it has a smaller capacity than its block. No program. -/
import Derived.Test.YtjobjjmeneddnaaSlices
namespace Go.Proofs.Ytjobjjmeneddnaa
open Go.RowKit
set_option linter.unusedVariables false
structure OwnC (w : World) (B : Nat) (E : TypeId) (s : Nat) (A : Option Addr) (n c : Nat) (xs : List Value) : Prop where
  own : ∃ C, c ≤ C ∧ Own w B E s A n C xs
  cap : n ≤ c
  nil : A = none → c = 0
theorem block_cap (A : Option Addr) (n c n' c' : Nat) : (Value.slice A n c).ownBlock = (Value.slice A n' c').ownBlock := by cases A <;> rfl
section
variable {w w' : World} {B B' s n c : Nat} {E : TypeId} {A : Option Addr} {xs : List Value}
theorem OwnC.capm (h : OwnC w B E s A n c xs) : n ≤ c ∧ c ≤ 9223372036854775807 := by
  obtain ⟨C, hC, hO⟩ := h.own
  have := hO.capm
  exact ⟨h.cap, by omega⟩
theorem OwnC.len (h : OwnC w B E s A n c xs) : xs.length = n * s := h.own.choose_spec.2.len
theorem OwnC.sl (h : OwnC w B E s A n c xs) : Sl w w.heap.size s A n c xs := by
  obtain ⟨C, hC, hO⟩ := h.own
  exact ⟨hO.sl.len, hO.sl.rd, h.cap, h.capm.2, h.nil⟩
theorem OwnC.kept {row : Option Nat} (h : OwnC w B E s A n c xs) (hg : w.grownBy w' row) (hne : (Value.slice A n c).ownBlock = none ∨ (Value.slice A n c).ownBlock ≠ row) : OwnC w' B E s A n c xs := by
  obtain ⟨C, hC, hO⟩ := h.own
  rw [block_cap A n c n C] at hne
  exact ⟨⟨C, hC, hO.kept hg hne⟩, h.cap, h.nil⟩
theorem OwnC.on (h : OwnC w B E s A n c xs) (hb : Below w.heap.size w w') : OwnC w' B E s A n c xs := by
  obtain ⟨C, hC, hO⟩ := h.own
  exact ⟨⟨C, hC, hO.on hb⟩, h.cap, h.nil⟩
theorem OwnC.fewer (h : OwnC w B E s A n c xs) (hB : B' ≤ B) : OwnC w B' E s A n c xs := by
  obtain ⟨C, hC, hO⟩ := h.own
  exact ⟨⟨C, hC, hO.fewer hB⟩, h.cap, h.nil⟩
theorem OwnC.below {a : World} (h : OwnC w B E s A n c xs) (hb : Below B a w) (hB : B ≤ w.heap.size) (hg : w.grownBy w' (Value.slice A n c).ownBlock) : Below B a w' := by
  obtain ⟨C, hC, hO⟩ := h.own
  rw [block_cap A n c n C] at hg
  exact hO.below hb hB hg
theorem OwnC.apart {w1 : World} {B1 s1 n1 c1 : Nat} {E1 : TypeId} {A1 : Option Addr} {xs1 : List Value} (h : OwnC w B E s A n c xs) (h1 : Own w1 B1 E1 s1 A1 n1 c1 xs1) (hB : w.heap.size ≤ B1) :
    (Value.slice A n c).ownBlock = none ∨ (Value.slice A n c).ownBlock ≠ (Value.slice A1 n1 c1).ownBlock := by
  obtain ⟨C, hC, hO⟩ := h.own
  rw [block_cap A n c n C]
  exact hO.apart h1 hB
theorem OwnC.apart' {w1 : World} {B1 s1 n1 c1 : Nat} {E1 : TypeId} {A1 : Option Addr} {xs1 : List Value} (h : OwnC w B E s A n c xs) (h1 : Own w1 B1 E1 s1 A1 n1 c1 xs1) (hB : w.heap.size ≤ B1) :
    (Value.slice A1 n1 c1).ownBlock = none ∨ (Value.slice A1 n1 c1).ownBlock ≠ (Value.slice A n c).ownBlock := by
  obtain ⟨C, hC, hO⟩ := h.own
  rw [block_cap A n c n C]
  exact hO.apart' h1 hB
theorem Own.apartC {w1 : World} {B1 s1 n1 c1 : Nat} {E1 : TypeId} {A1 : Option Addr} {xs1 : List Value} (h : Own w B E s A n c xs) (h1 : OwnC w1 B1 E1 s1 A1 n1 c1 xs1) (hB : w.heap.size ≤ B1) :
    (Value.slice A n c).ownBlock = none ∨ (Value.slice A n c).ownBlock ≠ (Value.slice A1 n1 c1).ownBlock := by
  obtain ⟨C, hC, hO⟩ := h1.own
  rw [block_cap A1 n1 c1 n1 C]
  exact h.apart hO hB
theorem Own.apartC' {w1 : World} {B1 s1 n1 c1 : Nat} {E1 : TypeId} {A1 : Option Addr} {xs1 : List Value} (h : Own w B E s A n c xs) (h1 : OwnC w1 B1 E1 s1 A1 n1 c1 xs1) (hB : w.heap.size ≤ B1) :
    (Value.slice A1 n1 c1).ownBlock = none ∨ (Value.slice A1 n1 c1).ownBlock ≠ (Value.slice A n c).ownBlock := by
  obtain ⟨C, hC, hO⟩ := h1.own
  rw [block_cap A1 n1 c1 n1 C]
  exact h.apart' hO hB
theorem OwnC.apartC {w1 : World} {B1 s1 n1 c1 : Nat} {E1 : TypeId} {A1 : Option Addr} {xs1 : List Value} (h : OwnC w B E s A n c xs) (h1 : OwnC w1 B1 E1 s1 A1 n1 c1 xs1) (hB : w.heap.size ≤ B1) :
    (Value.slice A n c).ownBlock = none ∨ (Value.slice A n c).ownBlock ≠ (Value.slice A1 n1 c1).ownBlock := by
  obtain ⟨C, hC, hO⟩ := h1.own
  rw [block_cap A1 n1 c1 n1 C]
  exact h.apart hO hB
theorem OwnC.apartC' {w1 : World} {B1 s1 n1 c1 : Nat} {E1 : TypeId} {A1 : Option Addr} {xs1 : List Value} (h : OwnC w B E s A n c xs) (h1 : OwnC w1 B1 E1 s1 A1 n1 c1 xs1) (hB : w.heap.size ≤ B1) :
    (Value.slice A1 n1 c1).ownBlock = none ∨ (Value.slice A1 n1 c1).ownBlock ≠ (Value.slice A n c).ownBlock := by
  obtain ⟨C, hC, hO⟩ := h1.own
  rw [block_cap A1 n1 c1 n1 C]
  exact h.apart' hO hB
theorem Own.cut {C : Nat} (h : Own w B E s A n C xs) (hn : n ≤ c) (hc : c ≤ C) : OwnC w B E s A n c xs := ⟨⟨C, hc, h⟩, hn, fun e => by
  rcases h.form with ⟨_, _, h1, _⟩ | ⟨g, h1, _⟩
  · omega
  · rw [h1] at e; cases e⟩
end
end Go.Proofs.Ytjobjjmeneddnaa
