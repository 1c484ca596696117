/- Rows that lie apart: a block that is not a slice's, two slices in different blocks; what an append leaves of them. A region that draws its order, whose operations only read and whose callees leave a class of worlds alone: one walk, in the order of the text. No program. -/
import Derived.Test.YtjobjjmeneddnaaSlices
import Derived.BigQuiet
import Derived.WalkKit
namespace Go.Proofs.Ytjobjjmeneddnaa
open Go.ChangeShapes Go.WideShapes Go.ChangeAt Go.RowKit
set_option linter.unusedVariables false
/-- a block that stands below one's own stays, when that grows -/
theorem Blk.grown {w w' : World} {g B : Nat} {t : TypeId} {cs : Array Value} {E : TypeId} {s n c : Nat} {A' : Option Addr} {ys : List Value} (h : Blk w g t cs) (ho : Own w B E s A' n c ys) (hg : w.grownBy w' (Value.slice A' n c).ownBlock) (hB : g < B) : Blk w' g t cs := by
  refine (hg.block g h.lt fun e => ?_).trans h
  rcases ho.blk with e2 | ⟨g2, e2, hg2, _⟩
  · rw [e2] at e; cases e
  · rw [e2] at e; injection e with e; omega
theorem Sl.one4 (w : World) (u v z y : Value) (t : TypeId) : Sl (w.alloc (.cells #[u, v, z, y] t)) (w.heap.size + 1) 4 (some ⟨w.heap.size, 0, none⟩) 1 1 [u, v, z, y] :=
  ⟨rfl, fun _ => ⟨_, rfl, by simp, fun j x hx => by
    have e : (⟨w.heap.size, 0, none⟩ : Addr).add j = ⟨w.heap.size, j, none⟩ := by unfold Addr.add; split <;> simp_all
    rw [e, cell_of_row _ _ _ _ _ _ (heap_alloc_new w _), ← hx]
    simp⟩, Nat.le_refl _, by omega, fun h => by cases h⟩
/-- a slice that does not lie in block s; two slices that lie in different blocks -/
def NotAt (s : Nat) (A : Option Addr) : Prop := ∀ a, A = some a → a.block ≠ s
def Apart (A A' : Option Addr) : Prop := ∀ a b, A = some a → A' = some b → a.block ≠ b.block
theorem Apart.none_ (A : Option Addr) : Apart A none := fun a b _ h => by cases h
theorem NotAt.apart {g : Nat} {A : Option Addr} (h : NotAt g A) : Apart A (some ⟨g, 0, none⟩) := fun a b h1 h2 => by injection h2 with h2; subst h2; exact h a h1
theorem NotAt.none_ (s : Nat) : NotAt s none := fun a h => by cases h
theorem Own.notAt {w : World} {B s n c t : Nat} {E : TypeId} {A : Option Addr} {xs : List Value} (h : Own w B E s A n c xs) (ht : w.heap.size ≤ t) : NotAt t A := by
  intro a e
  rcases h.form with ⟨h1, _⟩ | ⟨g, h1, _, h2, _⟩
  · rw [h1] at e; cases e
  · rw [h1] at e; injection e with e; subst e; simp; omega
theorem Apart.none_l (A : Option Addr) : Apart none A := fun a b h => by cases h
theorem Apart.at_ {g : Nat} {A : Option Addr} (h : Apart (some ⟨g, 0, none⟩) A) : NotAt g A := fun a e => fun e2 => h _ a rfl e e2.symm
theorem Apart.at' {g : Nat} {A : Option Addr} (h : Apart A (some ⟨g, 0, none⟩)) : NotAt g A := fun a e => h a _ e rfl
theorem grown_set (w : World) (a : Addr) (u : Value) : w.grownBy (w.setCell a u) (some a.block) := ⟨rfl, rfl, rfl, by simp, fun k hk hne => Below.heap_setCell w a u k (fun e => hne (by rw [e]))⟩
theorem Own.ne_ {w : World} {B s n c : Nat} {E : TypeId} {A : Option Addr} {xs : List Value} (h : Own w B E s A n c xs) {a : Addr} (ha : NotAt a.block A) (u : Value) : Own (w.setCell a u) B E s A n c xs := by
  refine h.kept (row := some a.block) (grown_set w a u) ?_
  rcases A with _ | b
  · exact .inl rfl
  · right
    intro e
    simp [Value.ownBlock] at e
    exact ha b rfl e
theorem Own.low {w : World} {B s n c t : Nat} {E : TypeId} {A : Option Addr} {xs : List Value} (h : Own w B E s A n c xs) (ht : t < B) : NotAt t A := by
  intro a e
  rcases h.form with ⟨h1, _⟩ | ⟨g, h1, h2, _⟩
  · rw [h1] at e; cases e
  · rw [h1] at e; injection e with e; subst e; simp; omega
theorem Sl.one3 (w : World) (u v z : Value) (t : TypeId) : Sl (w.alloc (.cells #[u, v, z] t)) (w.heap.size + 1) 3 (some ⟨w.heap.size, 0, none⟩) 1 1 [u, v, z] :=
  ⟨rfl, fun _ => ⟨_, rfl, by simp, fun j x hx => by
    have e : (⟨w.heap.size, 0, none⟩ : Addr).add j = ⟨w.heap.size, j, none⟩ := by unfold Addr.add; split <;> simp_all
    rw [e, cell_of_row _ _ _ _ _ _ (heap_alloc_new w _), ← hx]
    simp⟩, Nat.le_refl _, by omega, fun h => by cases h⟩
theorem Blk.grown' {w w' : World} {g : Nat} {t : TypeId} {cs : Array Value} {n c : Nat} {A' : Option Addr} (h : Blk w g t cs) (hA : NotAt g A') (hg : w.grownBy w' (Value.slice A' n c).ownBlock) : Blk w' g t cs := by
  refine (hg.block g h.lt fun e => ?_).trans h
  rcases A' with _ | a
  · simp [Value.ownBlock] at e
  · simp [Value.ownBlock] at e
    exact hA a rfl e.symm
end Go.Proofs.Ytjobjjmeneddnaa
namespace Go.Proofs.Ytjobjjmeneddnaa
/-- a world of a class -/
structure Wld (C : World → Prop) where
  w : World
  h : C w
theorem wp_region_quiet_cls {P : Program} {C : World → Prop} {id : Nat} {Q : Exit → Act → World → Prop} {a : Act} {w : World} {l : List Oper} (hm : P.follows .mixedOrders = true) (hB : Region.lexB .any l.toArray = true) (hC : C w.drew)
    (h : wpQuiet P l.toArray C (fun a' => ∀ w', C w' → Q .normal a' w') l a) : (Code.region id l.toArray true).wp P Q a w :=
  wp_region_quiet hm hB hC (by simpa using h)
end Go.Proofs.Ytjobjjmeneddnaa
