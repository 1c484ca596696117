/- The contracts of IsSpan, InSpan and InSpans, of the program and of the model. -/
import Derived.Test.YtjobjjmeneddnaaProg
import Derived.Test.YtjobjjmeneddnaaSpans
import Derived.WalkKit
import Derived.ProofKit
import Derived.OpenShut
import Derived.Handy
import Derived.Lib.Hide
import Derived.LoopTactic
namespace Go.Proofs.Ytjobjjmeneddnaa
open Go.ChangeShapes Go.WideShapes Go.ChangeAt Go.RowKit
set_option linter.unusedVariables false
theorem add_two (a : Addr) (j : Nat) : (⟨(a.add j).block, (a.add j).off + 1, none⟩ : Addr) = a.add (j + 1) := by
  rw [← add_of_add]; rfl
/-- the cells of an element -/
theorem Sl.two {w : World} {B n c : Nat} {A : Option Addr} {l : List (Int × Int)} (h : Sl w B 2 A n c (sv l)) {k : Nat} (hk : k < n) :
    ∃ (ad : Addr) (hx : k < l.length), A = some ad ∧ ad.block < B ∧ w.cell? (ad.add (k * 2)) = some (.int .i64 l[k].1) ∧ w.cell? ⟨(ad.add (k * 2)).block, (ad.add (k * 2)).off + 1, none⟩ = some (.int .i64 l[k].2) := by
  have hl := h.len
  rw [sv_len] at hl
  have hx : k < l.length := by omega
  obtain ⟨ad, e, hb, hc⟩ := h.rd (by rw [sv_len]; omega)
  refine ⟨ad, hx, e, hb, hc _ _ (sv_get0 l k hx), ?_⟩
  rw [add_two]
  exact hc _ _ (sv_get1 l k hx)
theorem bcell {W w1 : World} (hb : Below W.heap.size W w1) : (∀ b o, b < W.heap.size → w1.cell? ⟨b, o, none⟩ = W.cell? ⟨b, o, none⟩) ∧ (∀ b o, b < W.heap.size → w1.frozen? ⟨b, o, none⟩ = W.frozen? ⟨b, o, none⟩) :=
  ⟨fun b o h => hb.cell (p := ⟨b, o, none⟩) h, fun b o h => hb.frozen (p := ⟨b, o, none⟩) h⟩
theorem ret_bool {a b : Bool} (h : a = b) : Ending.returned (.bool a) = .returned (.bool b) := by rw [h]
/-- a call that answers a Bool and makes memory of its own at most -/
def Says (w : World) (b : Bool) (e : Ending) (w' : World) : Prop := e = .returned (.bool b) ∧ Below w.heap.size w w'
end Go.Proofs.Ytjobjjmeneddnaa
