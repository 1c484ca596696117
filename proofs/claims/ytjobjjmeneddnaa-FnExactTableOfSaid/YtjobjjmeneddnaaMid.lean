/- A stretch of blocks that stays while a row outside of it grows. No program. -/
import Derived.Test.YtjobjjmeneddnaaSlices
namespace Go.Proofs.Ytjobjjmeneddnaa
open Go.RowKit
set_option linter.unusedVariables false
/-- the blocks from lo to hi are as they were -/
def Keeps (lo hi : Nat) (w w' : World) : Prop := hi ≤ w'.heap.size ∧ ∀ b, lo ≤ b → b < hi → w'.heap[b]? = w.heap[b]?
/-- a slice that does not lie among them -/
def Off (lo hi : Nat) (A : Option Addr) : Prop := ∀ a, A = some a → a.block < lo ∨ hi ≤ a.block
section
variable {w w' w'' : World} {lo hi B s n c : Nat} {E : TypeId} {A : Option Addr} {xs : List Value}
theorem Keeps.refl (w : World) (lo : Nat) : Keeps lo w.heap.size w w := ⟨Nat.le_refl _, fun _ _ _ => rfl⟩
theorem Keeps.below (h : Keeps lo hi w w') (hb : Below w'.heap.size w' w'') : Keeps lo hi w w'' :=
  ⟨Nat.le_trans h.1 hb.size, fun b h1 h2 => (hb.block b (Nat.lt_of_lt_of_le h2 h.1)).trans (h.2 b h1 h2)⟩
theorem Keeps.grown {A1 : Option Addr} {n1 c1 : Nat} (h : Keeps lo hi w w') (hg : w'.grownBy w'' (Value.slice A1 n1 c1).ownBlock) (ho : Off lo hi A1) : Keeps lo hi w w'' := by
  refine ⟨Nat.le_trans h.1 hg.size, fun b h1 h2 => (hg.block b (Nat.lt_of_lt_of_le h2 h.1) fun e => ?_).trans (h.2 b h1 h2)⟩
  rcases A1 with _ | a
  · simp [Value.ownBlock] at e
  · simp [Value.ownBlock] at e
    have := ho a rfl
    omega
theorem Keeps.blk {g : Nat} {t : TypeId} {cs : Array Value} (h : Keeps lo hi w w') (hb : Blk w g t cs) (h1 : lo ≤ g) (h2 : g < hi) : Blk w' g t cs := (h.2 g h1 h2).trans hb
theorem Keeps.cell {p : Addr} (h : Keeps lo hi w w') (h1 : lo ≤ p.block) (h2 : p.block < hi) : w'.cell? p = w.cell? p := by
  unfold World.cell?
  rw [h.2 _ h1 h2]
theorem Own.off (h : Own w B E s A n c xs) (hl : w.heap.size ≤ lo) : Off lo hi A := by
  intro a e
  rcases h.form with ⟨h1, _⟩ | ⟨g, h1, _, h2, _⟩
  · rw [h1] at e; cases e
  · rw [h1] at e; injection e with e; subst e; left; simp; omega
theorem Off.app {A2 : Option Addr} {n2 c2 : Nat} (h : Off lo hi A) (hat : (Value.slice A2 n2 c2).ownBlock = (Value.slice A n c).ownBlock ∨ (Value.slice A2 n2 c2).ownBlock = some w.heap.size) (hs : hi ≤ w.heap.size) : Off lo hi A2 := by
  intro a e
  subst e
  rcases hat with e | e
  · rcases A with _ | b
    · simp [Value.ownBlock] at e
    · simp [Value.ownBlock] at e
      rw [e]; exact h b rfl
  · simp [Value.ownBlock] at e
    omega
theorem Own.mid (h : Own w B E s A n c xs) (hl : lo ≤ B) (hh : w.heap.size ≤ hi) (hk : Keeps lo hi w w') : Sl w' hi s A n c xs := by
  have hs := h.sl
  refine ⟨hs.len, fun hn => ?_, hs.cap, hs.capm, hs.nil⟩
  obtain ⟨ad, e, had, hc⟩ := hs.rd hn
  rcases h.form with ⟨h1, _⟩ | ⟨g, h1, h2, h3, _⟩
  · rw [h1] at e; cases e
  · rw [h1] at e; injection e with e; subst e
    refine ⟨_, h1, by simp; omega, fun j u hu => ?_⟩
    rw [hk.cell (by rw [block_of_add]; simp; omega) (by rw [block_of_add]; simp; omega)]
    exact hc j u hu
end
end Go.Proofs.Ytjobjjmeneddnaa
