/- The contracts of chapter 5's draws: angles and arcs. -/
import Derived.Test.YtjobjjmeneddnaaDrawInts
import Derived.Deep.RegionHeld3
namespace Go.Proofs.Ytjobjjmeneddnaa
open Go.ChangeShapes Go.WideShapes Go.ChangeAt Go.RowKit
set_option linter.unusedVariables false
/-- some pair, as a value -/
def SomePair (e : Ending) : Prop := ∃ x y : Int, e = .returned (.agg #[.int .i64 x, .int .i64 y])
/-- a pair is stored into a block of two cells that lies above the cursor -/
theorem put_pair {w w5 : World} {p g : Nat} {T : TypeId} {A : Option Addr} {cap : Nat} {xs : List Value} {u v : Value} (x y : Int) (hp : p < g) (hg : w.heap.size ≤ g) (hc : Cur w5 p A cap xs) (ht : Turn p w w5) (hb : Blk w5 g T #[u, v]) :
    w5.frozen? ⟨g, 0, none⟩ = false ∧ w5.cell? ⟨g, 0, none⟩ = some u ∧ (w5.setCell ⟨g, 0, none⟩ (.int .i64 x)).cell? ⟨g, 1, none⟩ = some v ∧ (w5.setCell ⟨g, 0, none⟩ (.int .i64 x)).frozen? ⟨g, 1, none⟩ = false ∧
    (w5.setCell ⟨g, 0, none⟩ (.int .i64 x)).cell? ⟨g, 0, none⟩ = some (.int .i64 x) ∧
    ((w5.setCell ⟨g, 0, none⟩ (.int .i64 x)).setCell ⟨g, 1, none⟩ (.int .i64 y)).cell? ⟨g, 0, none⟩ = some (.int .i64 x) ∧
    ((w5.setCell ⟨g, 0, none⟩ (.int .i64 x)).setCell ⟨g, 1, none⟩ (.int .i64 y)).cell? ⟨g, 1, none⟩ = some (.int .i64 y) ∧
    Blk ((w5.setCell ⟨g, 0, none⟩ (.int .i64 x)).setCell ⟨g, 1, none⟩ (.int .i64 y)) g T #[.int .i64 x, .int .i64 y] ∧
    Cur ((w5.setCell ⟨g, 0, none⟩ (.int .i64 x)).setCell ⟨g, 1, none⟩ (.int .i64 y)) p A cap xs ∧ Turn p w ((w5.setCell ⟨g, 0, none⟩ (.int .i64 x)).setCell ⟨g, 1, none⟩ (.int .i64 y)) := by
  have h2 := hb.set_ 0 (.int .i64 x)
  have h1 := h2.set_ 1 (.int .i64 y)
  refine ⟨hb.frozen 0, hb.cell 0, h2.cell 1, h2.frozen 1, h2.cell 0, h1.cell 0, h1.cell 1, by simpa using h1, ?_, ?_⟩
  · exact hc.turned fun k hk => (Below.heap_setCell _ _ _ k (by simp; omega)).trans (Below.heap_setCell _ _ _ k (by simp; omega))
  · exact ⟨ht.os, ht.tape, ht.output, by simpa using ht.size, fun k hk hne => ((Below.heap_setCell _ _ _ k (by simp; omega)).trans (Below.heap_setCell _ _ _ k (by simp; omega))).trans (ht.block k hk hne)⟩
/-- a value is stored into a block above the cursor -/
theorem put_far {w w5 : World} {p : Nat} {A : Option Addr} {cap : Nat} {xs : List Value} (a : Addr) (u : Value) (hp : p < a.block) (hg : w.heap.size ≤ a.block) (hc : Cur w5 p A cap xs) (ht : Turn p w w5) :
    Cur (w5.setCell a u) p A cap xs ∧ Turn p w (w5.setCell a u) :=
  ⟨hc.turned fun k hk => Below.heap_setCell _ _ _ k (by omega), ht.os, ht.tape, ht.output, by simpa using ht.size, fun k hk hne => (Below.heap_setCell _ _ _ k (by omega)).trans (ht.block k hk hne)⟩
end Go.Proofs.Ytjobjjmeneddnaa
