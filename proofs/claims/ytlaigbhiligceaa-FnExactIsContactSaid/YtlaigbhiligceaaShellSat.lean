/- Arguments that are structs of three or four integers: opened. The law's own copy of a satellite. -/
import Derived.Test.YtlaigbhiligceaaShell
import Derived.Test.YtlaigbhiligceaaWords
import Derived.Lib.SmallJoins
import Derived.ChangeSame
import Derived.Lib.Hide
namespace Go.Proofs.Ytlaigbhiligceaa
open Go.ChangeShapes Go.WideShapes Go.ChangeAt Go.RowKit Go.Joins Go.Deep
section
variable {H : Type} {enc : TypeId × Value → H} {P : Program} {w : World} {base : Nat}
theorem open_four {T : TypeId} {f0 f1 f2 f3 : Field} {v : Value} {d : DataW H} {ps : List MemPlace} (hT : P.underlying T = some (.struct #[f0, f1, f2, f3])) (hone : oneCellFields P #[f0, f1, f2, f3] = true) (hC : P.cellsOf T = 4)
    (h0 : P.underlying f0.type = some (.int .i64)) (h1 : P.underlying f1.type = some (.int .i64)) (h2 : P.underlying f2.type = some (.int .i64)) (h3 : P.underlying f3.type = some (.int .i64))
    (ho : Value.okWide P w .any base T v) (h : DataW.Trod enc P w 0 (fun _ => true) true T v d ps) :
    ∃ x y z u : Int, v = .agg #[.int .i64 x, .int .i64 y, .int .i64 z, .int .i64 u] ∧ (Lit.int .i64 x).wf = true ∧ (Lit.int .i64 y).wf = true ∧ (Lit.int .i64 z).wf = true ∧ (Lit.int .i64 u).wf = true := by
  obtain ⟨cs, rfl, hsz⟩ := okWide_struct hT ho
  rw [hC] at hsz
  obtain ⟨l, rfl⟩ : ∃ l, cs = List.toArray l := ⟨cs.toList, rfl⟩
  match l, hsz with
  | [v0, v1, v2, v3], _ =>
    obtain ⟨fuel, hf⟩ := h
    obtain ⟨y0, y1, y2, y3, n, hx, _, t0, t1, t2, t3⟩ := trod_struct4 hT hf
    obtain ⟨o0, k0⟩ := hone_of hone 0 f0 rfl
    obtain ⟨o1, k1⟩ := hone_of hone 1 f1 rfl
    obtain ⟨o2, k2⟩ := hone_of hone 2 f2 rfl
    obtain ⟨o3, k3⟩ := hone_of hone 3 f3 rfl
    have t0' : DataW.trod enc P w 0 (fun _ => true) true n f0.type [v0] = some y0 := by simpa [Value.cells, o0, k0] using t0
    have t1' : DataW.trod enc P w 0 (fun _ => true) true n f1.type [v1] = some y1 := by simpa [Value.cells, o1, k1] using t1
    have t2' : DataW.trod enc P w 0 (fun _ => true) true n f2.type [v2] = some y2 := by simpa [Value.cells, o2, k2] using t2
    have t3' : DataW.trod enc P w 0 (fun _ => true) true n f3.type [v3] = some y3 := by simpa [Value.cells, o3, k3] using t3
    obtain ⟨x, e0, _, w0⟩ := DataW.trod_int h0 t0'
    obtain ⟨y, e1, _, w1⟩ := DataW.trod_int h1 t1'
    obtain ⟨z, e2, _, w2⟩ := DataW.trod_int h2 t2'
    obtain ⟨u, e3, _, w3⟩ := DataW.trod_int h3 t3'
    simp only [List.cons.injEq, and_true] at e0 e1 e2 e3
    exact ⟨x, y, z, u, by rw [e0, e1, e2, e3], w0, w1, w2, w3⟩
end
end Go.Proofs.Ytlaigbhiligceaa
