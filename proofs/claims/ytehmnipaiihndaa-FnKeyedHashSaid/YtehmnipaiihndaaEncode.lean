/- The contracts of chapter 2's encoders, of the program and of the model. -/
import Derived.Test.YtehmnipaiihndaaProg
import Derived.Test.YtehmnipaiihndaaCopies
import Derived.Test.YtehmnipaiihndaaVarint
import Derived.Test.YtehmnipaiihndaaInts
import Derived.OneCell
namespace Go.Proofs.Ytehmnipaiihndaa
open Go.ChangeShapes Go.WideShapes Go.ChangeAt Go.RowKit
set_option linter.unusedVariables false
/-- the blocks of S are as they were -/
structure Still (S : Nat → Prop) (w w' : World) : Prop where
  os : w'.os = w.os
  tape : w'.tape = w.tape
  output : w'.output = w.output
  size : w.heap.size ≤ w'.heap.size
  block : ∀ k, S k → w'.heap[k]? = w.heap[k]?
theorem Still.refl (S : Nat → Prop) (w : World) : Still S w w := ⟨rfl, rfl, rfl, Nat.le_refl _, fun _ _ => rfl⟩
theorem Still.trans {S : Nat → Prop} {a b c : World} (h : Still S a b) (k : Still S b c) : Still S a c :=
  ⟨k.os.trans h.os, k.tape.trans h.tape, k.output.trans h.output, Nat.le_trans h.size k.size, fun i hi => (k.block i hi).trans (h.block i hi)⟩
theorem Still.sl {S : Nat → Prop} {w w' : World} {D s n c : Nat} {A : Option Addr} {xs : List Value} (h : Still S w w') (hs : Sl w D s A n c xs) (hS : 0 < xs.length → ∀ ad, A = some ad → S ad.block) : Sl w' D s A n c xs := by
  refine ⟨hs.len, fun hn => ?_, hs.cap, hs.capm, hs.nil⟩
  obtain ⟨ad, e, hb, hc⟩ := hs.rd hn
  exact ⟨ad, e, hb, fun j u hu => (World.cell?_of_block (w := w) (by rw [block_of_add]; exact h.block _ (hS hn ad e))).trans (hc j u hu)⟩
theorem Own.ne_blk {w : World} {B s n c p : Nat} {E T : TypeId} {A : Option Addr} {xs : List Value} {cs : Array Value} (h : Own w B E s A n c xs) (hp : w.heap[p]? = some (.cells cs T (0, 0))) (hne : E ≠ T) : (Value.slice A n c).ownBlock ≠ some p := by
  rcases h.row.2 with ⟨hv, _⟩ | ⟨g, cap, cur, hv, _, hg, _⟩
  · rw [hv]; simp [Value.ownBlock]
  · rw [hv]
    intro e
    have : g = p := by simpa [Value.ownBlock] using e
    subst this
    rw [hg] at hp
    injection hp with hp
    injection hp with _ ht
    exact hne ht
end Go.Proofs.Ytehmnipaiihndaa
