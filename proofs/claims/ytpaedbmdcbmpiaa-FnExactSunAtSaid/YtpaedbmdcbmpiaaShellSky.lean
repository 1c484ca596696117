/- An argument that is a sky: opened. -/
import Derived.Test.YtpaedbmdcbmpiaaShell
import Derived.Test.YtpaedbmdcbmpiaaSky
namespace Go.Proofs.Ytpaedbmdcbmpiaa
open Go.ChangeShapes Go.WideShapes Go.ChangeAt Go.RowKit Go.Joins Go.Deep
/-- every number of a sky is an integer of 64 bits -/
structure OkSky (P R X V U D Q : Int) (ls : List Sat4) (li lz : List Tri) : Prop where
  P : J64 P
  R : J64 R
  X : J64 X
  V : J64 V
  U : J64 U
  D : J64 D
  Q : J64 Q
  s : ∀ x ∈ ls, Ok4 x
  i : ∀ x ∈ li, Ok3 x
  z : ∀ x ∈ lz, Ok3 x
section
variable {H : Type} {enc : TypeId × Value → H} {w : World} {base : Nat}
set_option maxRecDepth 100000 in
theorem open_sky {v : Value} {d : DataW H} {ps : List MemPlace} (ho : Value.okWide Try.prog w .any base 26 v) (h : DataW.Trod enc Try.prog w 0 (fun _ => true) true 26 v d ps) :
    ∃ (P R X V U D Q : Int) (As : Option Addr) (ns cs : Nat) (Ai : Option Addr) (ni ci : Nat) (Az : Option Addr) (nz cz : Nat) (ls : List Sat4) (li lz : List Tri),
      v = .agg #[.int .i64 P, .slice As ns cs, .slice Ai ni ci, .int .i64 R, .int .i64 X, .int .i64 V, .int .i64 U, .int .i64 D, .slice Az nz cz, .int .i64 Q] ∧
      InSky w w.heap.size As ns cs Ai ni ci Az nz cz ls li lz ∧ OkSky P R X V U D Q ls li lz := by
  obtain ⟨cs, rfl, hsz⟩ := okWide_struct Try.underlying26 ho
  rw [show Try.prog.cellsOf 26 = 10 by kernel_rfl] at hsz
  obtain ⟨l, rfl⟩ : ∃ l, cs = List.toArray l := ⟨cs.toList, rfl⟩
  obtain ⟨fuel, hf⟩ := h
  obtain ⟨xs, n, _, _, _, hlen, hf⟩ := DataW.trod_struct Try.underlying26 hf
  match l, hsz, xs, hlen with
  | [v0, v1, v2, v3, v4, v5, v6, v7, v8, v9], _, [y0, y1, y2, y3, y4, y5, y6, y7, y8, y9], _ =>
    have g0 : DataW.trod enc Try.prog w 0 (fun _ => true) true n 3 [v0] = some y0 := by
      have h := hf 0 _ rfl
      rw [show Try.prog.cellsOf (Field.type _) = 1 by kernel_rfl] at h
      exact h
    have g1 : DataW.trod enc Try.prog w 0 (fun _ => true) true n 22 [v1] = some y1 := by
      have h := hf 1 _ rfl
      rw [show Try.prog.cellsOf (Field.type _) = 1 by kernel_rfl] at h
      exact h
    have g2 : DataW.trod enc Try.prog w 0 (fun _ => true) true n 23 [v2] = some y2 := by
      have h := hf 2 _ rfl
      rw [show Try.prog.cellsOf (Field.type _) = 1 by kernel_rfl] at h
      exact h
    have g3 : DataW.trod enc Try.prog w 0 (fun _ => true) true n 3 [v3] = some y3 := by
      have h := hf 3 _ rfl
      rw [show Try.prog.cellsOf (Field.type _) = 1 by kernel_rfl] at h
      exact h
    have g4 : DataW.trod enc Try.prog w 0 (fun _ => true) true n 3 [v4] = some y4 := by
      have h := hf 4 _ rfl
      rw [show Try.prog.cellsOf (Field.type _) = 1 by kernel_rfl] at h
      exact h
    have g5 : DataW.trod enc Try.prog w 0 (fun _ => true) true n 3 [v5] = some y5 := by
      have h := hf 5 _ rfl
      rw [show Try.prog.cellsOf (Field.type _) = 1 by kernel_rfl] at h
      exact h
    have g6 : DataW.trod enc Try.prog w 0 (fun _ => true) true n 3 [v6] = some y6 := by
      have h := hf 6 _ rfl
      rw [show Try.prog.cellsOf (Field.type _) = 1 by kernel_rfl] at h
      exact h
    have g7 : DataW.trod enc Try.prog w 0 (fun _ => true) true n 3 [v7] = some y7 := by
      have h := hf 7 _ rfl
      rw [show Try.prog.cellsOf (Field.type _) = 1 by kernel_rfl] at h
      exact h
    have g8 : DataW.trod enc Try.prog w 0 (fun _ => true) true n 24 [v8] = some y8 := by
      have h := hf 8 _ rfl
      rw [show Try.prog.cellsOf (Field.type _) = 1 by kernel_rfl] at h
      exact h
    have g9 : DataW.trod enc Try.prog w 0 (fun _ => true) true n 3 [v9] = some y9 := by
      have h := hf 9 _ rfl
      rw [show Try.prog.cellsOf (Field.type _) = 1 by kernel_rfl] at h
      exact h
    obtain ⟨P, e0, _, w0⟩ := DataW.trod_int Try.underlying3 g0
    obtain ⟨R, e3, _, w3⟩ := DataW.trod_int Try.underlying3 g3
    obtain ⟨X, e4, _, w4⟩ := DataW.trod_int Try.underlying3 g4
    obtain ⟨V, e5, _, w5⟩ := DataW.trod_int Try.underlying3 g5
    obtain ⟨U, e6, _, w6⟩ := DataW.trod_int Try.underlying3 g6
    obtain ⟨D, e7, _, w7⟩ := DataW.trod_int Try.underlying3 g7
    obtain ⟨Q, e9, _, w9⟩ := DataW.trod_int Try.underlying3 g9
    obtain ⟨As, ls, ca, hs, os, ss⟩ := open_rows (s := 4) c4 c4_len Ok4 Try.underlying22 (by kernel_rfl) (by omega) (fun _ _ _ h => el_four Try.underlying52 (by kernel_rfl) (by kernel_rfl) Try.underlying3 Try.underlying3 Try.underlying3 Try.underlying3 h) g1
    obtain ⟨Ai, li, ci, hi, oi, si⟩ := open_rows (s := 3) c3 c3_len Ok3 Try.underlying23 (by kernel_rfl) (by omega) (fun _ _ _ h => el_tri Try.underlying56 (by kernel_rfl) (by kernel_rfl) Try.underlying3 Try.underlying3 Try.underlying3 h) g2
    obtain ⟨Az, lz, cz, hz, oz, sz⟩ := open_rows (s := 3) c3 c3_len Ok3 Try.underlying24 (by kernel_rfl) (by omega) (fun _ _ _ h => el_one_two Try.underlying64 (by kernel_rfl) (by kernel_rfl) Try.underlying3 Try.underlying62 (by kernel_rfl) Try.underlying3 Try.underlying3 h) g8
    refine ⟨P, R, X, V, U, D, Q, As, _, ca, Ai, _, ci, Az, _, cz, ls, li, lz, ?_, ⟨ss, si, sz⟩, ⟨wf_j64 w0, wf_j64 w3, wf_j64 w4, wf_j64 w5, wf_j64 w6, wf_j64 w7, wf_j64 w9, os, oi, oz⟩⟩
    simp only [List.cons.injEq, and_true] at e0 e3 e4 e5 e6 e7 e9
    rw [e0, e3, e4, e5, e6, e7, e9, hs, hi, hz]
end
end Go.Proofs.Ytpaedbmdcbmpiaa
