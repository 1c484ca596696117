/- Arguments that are structs of two integers, or slices of such: opened. -/
import Derived.Test.YtjobjjmeneddnaaShell
import Derived.Test.YtjobjjmeneddnaaSpans
import Derived.Deep.Slices
import Derived.Lib.SmallJoins
import Derived.ChangeSame
namespace Go.Proofs.Ytjobjjmeneddnaa
open Go.ChangeShapes Go.WideShapes Go.ChangeAt Go.RowKit Go.Joins Go.Deep
section
variable {H : Type} {enc : TypeId × Value → H} {P : Program} {w : World} {base : Nat}
theorem open_pair {T : TypeId} {f0 f1 : Field} {v : Value} {d : DataW H} {ps : List MemPlace} (hT : P.underlying T = some (.struct #[f0, f1])) (hone : oneCellFields P #[f0, f1] = true) (hC : P.cellsOf T = 2)
    (h0 : P.underlying f0.type = some (.int .i64)) (h1 : P.underlying f1.type = some (.int .i64)) (ho : Value.okWide P w .any base T v) (h : DataW.Trod enc P w 0 (fun _ => true) true T v d ps) :
    ∃ x y : Int, v = .agg #[.int .i64 x, .int .i64 y] ∧ (Lit.int .i64 x).wf = true ∧ (Lit.int .i64 y).wf = true := by
  obtain ⟨v0, v1, y0, y1, n, rfl, _, _, t0, t1⟩ := open_agg2 hT hone hC ho h
  obtain ⟨x, e0, _, w0⟩ := DataW.trod_int h0 t0
  obtain ⟨y, e1, _, w1⟩ := DataW.trod_int h1 t1
  simp only [List.cons.injEq, and_true] at e0 e1
  exact ⟨x, y, by rw [e0, e1], w0, w1⟩
theorem wf_i64 {z : Int} (h : (Lit.int .i64 z).wf = true) : I64 z := by
  simp [Lit.wf, IntKind.min, IntKind.max, IntKind.bits, IntKind.signed] at h
  unfold I64; omega
theorem open_pairs {T E : TypeId} {f0 f1 : Field} {v : Value} {d : DataW H} {ps : List MemPlace} (hT : P.underlying T = some (.slice E)) (hE : P.underlying E = some (.struct #[f0, f1])) (hone : oneCellFields P #[f0, f1] = true) (hC : P.cellsOf E = 2)
    (h0 : P.underlying f0.type = some (.int .i64)) (h1 : P.underlying f1.type = some (.int .i64)) (ho : Value.okWide P w .any base T v) (h : DataW.Trod enc P w 0 (fun _ => true) true T v d ps) :
    ∃ (A : Option Addr) (l : List (Int × Int)) (cap : Nat), v = .slice A l.length cap ∧ l.length ≤ cap ∧ cap ≤ 9223372036854775807 ∧ Rng l ∧ Reads w w.heap.size A (sv l) ∧ (A = none → cap = 0) := by
  obtain ⟨a0, len0, cap0, rfl⟩ := WideShapes.okWide_slice hT ho
  obtain ⟨fuel, hf⟩ := h
  rcases open_slice hT hf with ⟨hcs, _⟩ | ⟨a, len, cap, m, n, D, Pl, hcs, _, hl, hm, hmm, _, hi⟩
  · simp [Value.cells] at hcs
    obtain ⟨rfl, rfl, rfl⟩ := hcs
    exact ⟨none, [], 0, rfl, Nat.le_refl _, by omega, Rng.nil, (fun hn => by simp [sv] at hn), fun _ => rfl⟩
  · simp [Value.cells] at hcs
    obtain ⟨rfl, rfl, rfl⟩ := hcs
    simp only [if_true] at hmm
    unfold maxLen at hm
    have key : ∀ i : Nat, ∃ p : Int × Int, i < len0 → w.cell? (a.add (i * 2)) = some (.int .i64 p.1) ∧ w.cell? (a.add (i * 2 + 1)) = some (.int .i64 p.2) ∧ I64 p.1 ∧ I64 p.2 := by
      intro i
      by_cases hlt : i < len0
      · obtain ⟨cs', hc, ht⟩ := hi i (by omega)
        rw [hC] at hc
        obtain ⟨_, hcl, hat⟩ := World.cells?_some hc
        obtain ⟨y0, y1, n', hx, _, t0, t1⟩ := trod_struct2 hE ht
        obtain ⟨o0, k0⟩ := hone_of hone 0 f0 rfl
        obtain ⟨o1, k1⟩ := hone_of hone 1 f1 rfl
        rw [o0, k0] at t0; rw [o1, k1] at t1
        obtain ⟨x, e0, _, w0⟩ := DataW.trod_int h0 t0
        obtain ⟨y, e1, _, w1⟩ := DataW.trod_int h1 t1
        match cs', hcl with
        | [u0, u1], _ =>
          simp at e0 e1
          have c0 := hat 0 (by omega)
          have c1 := hat 1 (by omega)
          rw [add_of_add] at c0 c1
          simp at c0 c1
          exact ⟨(x, y), fun _ => ⟨by rw [c0, e0], by rw [c1, e1], wf_i64 w0, wf_i64 w1⟩⟩
      · exact ⟨(0, 0), fun h => absurd h hlt⟩
    obtain ⟨f, hf2⟩ := Classical.axiomOfChoice key
    have hlen : ((List.range len0).map f).length = len0 := by simp
    refine ⟨some a, (List.range len0).map f, cap0, by rw [hlen], by rw [hlen]; exact hl, by omega, ?_, fun hn => ?_, fun e => by cases e⟩
    · intro p hp
      obtain ⟨i, hi2, rfl⟩ := List.mem_map.1 hp
      have := hf2 i (List.mem_range.1 hi2)
      exact ⟨this.2.2.1, this.2.2.2⟩
    · rw [sv_len, hlen] at hn
      refine ⟨a, rfl, ?_, fun j u hu => ?_⟩
      · have h5 := (hf2 0 (by omega)).1
        rcases Nat.lt_or_ge a.block w.heap.size with h | h
        · exact h
        · simp [World.cell?, Array.getElem?_eq_none h, Addr.add] at h5
      · have hj : j < len0 * 2 := by have := (List.getElem?_eq_some_iff.1 hu).1; rw [sv_len, hlen] at this; exact this
        have hk : j / 2 < ((List.range len0).map f).length := by rw [hlen]; omega
        have h5 := hf2 (j / 2) (by omega)
        rcases Nat.mod_two_eq_zero_or_one j with hr | hr
        · have e : j = j / 2 * 2 := by omega
          rw [e, sv_get0 _ _ hk] at hu
          rw [e, h5.1, ← hu]
          simp
        · have e : j = j / 2 * 2 + 1 := by omega
          rw [e, sv_get1 _ _ hk] at hu
          rw [e, h5.2.1, ← hu]
          simp
end
end Go.Proofs.Ytjobjjmeneddnaa
