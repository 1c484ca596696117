/- Arguments that are slices of structs of four integers: opened. -/
import Derived.Test.YtfnhfpahdgbfgaaShell
import Derived.Test.YtfnhfpahdgbfgaaSky
import Derived.Deep.Slices
import Derived.Lib.SmallJoins
import Derived.ChangeSame
namespace Go.Proofs.Ytfnhfpahdgbfgaa
open Go.ChangeShapes Go.WideShapes Go.ChangeAt Go.RowKit Go.Joins Go.Deep
section
variable {H : Type} {enc : TypeId × Value → H} {P : Program} {w : World} {base : Nat}
theorem open_fours {T E : TypeId} {f0 f1 f2 f3 : Field} {v : Value} {d : DataW H} {ps : List MemPlace} (hT : P.underlying T = some (.slice E)) (hE : P.underlying E = some (.struct #[f0, f1, f2, f3])) (hone : oneCellFields P #[f0, f1, f2, f3] = true) (hC : P.cellsOf E = 4)
    (h0 : P.underlying f0.type = some (.int .i64)) (h1 : P.underlying f1.type = some (.int .i64)) (h2 : P.underlying f2.type = some (.int .i64)) (h3 : P.underlying f3.type = some (.int .i64)) (ho : Value.okWide P w .any base T v) (h : DataW.Trod enc P w 0 (fun _ => true) true T v d ps) :
    ∃ (A : Option Addr) (l : List Sat4) (cap : Nat), v = .slice A l.length cap ∧ l.length ≤ cap ∧ cap ≤ 9223372036854775807 ∧ (∀ x ∈ l, Ok4 x) ∧ Reads w w.heap.size A (fl c4 l) ∧ (A = none → cap = 0) := by
  obtain ⟨a0, len0, cap0, rfl⟩ := WideShapes.okWide_slice hT ho
  obtain ⟨fuel, hf⟩ := h
  obtain ⟨A, l, cap, e, hq, hs⟩ := open_rows (u := .slice a0 len0 cap0) c4 c4_len Ok4 hT hC (by omega) (fun _ _ _ h => el_four hE hone hC h0 h1 h2 h3 h) hf
  exact ⟨A, l, cap, e, hs.cap, hs.capm, hq, hs.rd, hs.nil⟩
end
end Go.Proofs.Ytfnhfpahdgbfgaa
