/- The program's sentinels: what errors.Is says of them, and what the row's list of variables gives. The program's two sentinels of chapter 5: where they lie, that they are two, and that they stay. -/
import Derived.Test.YtpaedbmdcbmpiaaDoorChecked
import Derived.WalkKit
import Derived.ProofKit
import Derived.Handy
import Derived.LaidEql
import Derived.Stop.Asserts
import Derived.Stop.LaidTwo
import Derived.RowKitTokens
import Derived.Lib.Hide
import Derived.Test.YtpaedbmdcbmpiaaDoorRows
namespace Go.Proofs.YtpaedbmdcbmpiaaDoor
open Go.RowKit Go.Extern.Stop Go.Stop Go.Extern
end Go.Proofs.YtpaedbmdcbmpiaaDoor
namespace Go.Proofs.YtpaedbmdcbmpiaaDoor
open Go.RowKit Go.ChangeShapes Go.WideShapes Go.ChangeAt
set_option linter.unusedVariables false
theorem es_row (u : TypeId) (h : Tryd.prog.typeName? 3 u = some "*errors.errorString") : u = 136 :=
  typeName_ptr_named (nm := "errors.errorString") (by rw [show "*" ++ "errors.errorString" = "*errors.errorString" by decide]; kernel_rfl) (by kernel_rfl) (by decide) u (by rw [show "*" ++ "errors.errorString" = "*errors.errorString" by decide]; exact h)
/-- nA: the sentinel 'no angle'; tW: the sentinel 'too wide' -/
structure Errs (w : World) (nA tW : Addr) : Prop where
  cN : w.cell? ⟨0, 0, none⟩ = some (.iface 136 (.pointer (some nA)))
  cT : w.cell? ⟨1, 0, none⟩ = some (.iface 136 (.pointer (some tW)))
  ne : nA ≠ tW
  hN : ∃ c t, w.heap[nA.block]? = some (.cells c t (0, 0))
  hT : ∃ c t, w.heap[tW.block]? = some (.cells c t (0, 0))
theorem errs_of {w : World} (h : laidMet Tryd.prog [("loop.example/g00599/impl.errNoAngle", Rows.laid_loop_example_g00599_impl_errNoAngle), ("loop.example/g00599/impl.errTooWide", Rows.laid_loop_example_g00599_impl_errTooWide)] w) : ∃ nA tW, Errs w nA tW := by
  obtain ⟨a0, a1, s0, s1, c0, c1, t0, t1, hv0, hv1, hc0, hs0, hz0, hc1, hs1, hz1, hne, hb0, hb1⟩ :=
    laid_sentinels2 (g0 := 0) (g1 := 1) (ti := 105) h (by kernel_rfl) (by kernel_rfl) (by kernel_rfl) (by kernel_rfl) Tryd.underlying105 es_row Tryd.underlying136 Tryd.underlying156 rfl rfl Tryd.underlying9 (by kernel_rfl) (by kernel_rfl)
  refine ⟨a0, a1, ⟨?_, ?_, hne, ⟨_, _, hb0⟩, ⟨_, _, hb1⟩⟩⟩
  · simpa using World.var?_cell (show Tryd.prog.globalNamed "loop.example/g00599/impl.errNoAngle" = some 0 by kernel_rfl) hv0 0
  · simpa using World.var?_cell (show Tryd.prog.globalNamed "loop.example/g00599/impl.errTooWide" = some 1 by kernel_rfl) hv1 0
theorem lt_of_get {w : World} {k : Nat} {x : Obj} (h : w.heap[k]? = some x) : k < w.heap.size := by
  rcases Nat.lt_or_ge k w.heap.size with h' | h'
  · exact h'
  · simp [Array.getElem?_eq_none h'] at h
theorem lt_of_cell {w : World} {a : Addr} {x : Value} (h : w.cell? a = some x) : a.block < w.heap.size := by
  rcases Nat.lt_or_ge a.block w.heap.size with h' | h'
  · exact h'
  · simp [World.cell?, Array.getElem?_eq_none h'] at h
theorem Errs.below {w w' : World} {nA tW : Addr} (h : Errs w nA tW) (hb : Below w.heap.size w w') : Errs w' nA tW := by
  refine ⟨?_, ?_, h.ne, ?_, ?_⟩
  · rw [hb.cell (p := ⟨0, 0, none⟩) (lt_of_cell h.cN)]; exact h.cN
  · rw [hb.cell (p := ⟨1, 0, none⟩) (lt_of_cell h.cT)]; exact h.cT
  · obtain ⟨c, t, e⟩ := h.hN
    exact ⟨c, t, by rw [hb.block _ (lt_of_get e)]; exact e⟩
  · obtain ⟨c, t, e⟩ := h.hT
    exact ⟨c, t, by rw [hb.block _ (lt_of_get e)]; exact e⟩
theorem Errs.drew {w : World} {nA tW : Addr} (h : Errs w nA tW) : Errs w.drew nA tW := ⟨h.cN, h.cT, h.ne, h.hN, h.hT⟩
/-- the reason why a width is out of range -/
theorem iwf_n {w : World} {nA tW : Addr} (h : Errs w nA tW) (n : Int) (h1 : n < 0) :
    Calls Tryd.prog 60 #[.int .i64 n] w fun e w' => e = .returned (.iface 136 (.pointer (some nA))) ∧ w = w' := by
  have hc := h.cN
  clear h
  go_enter Tryd.func60, Tryd.ntmps60
  go_wp2
  go_ret
  exact ⟨rfl, rfl⟩
theorem iwf_t {w : World} {nA tW : Addr} (h : Errs w nA tW) (n : Int) (h1 : 360 ≤ n) :
    Calls Tryd.prog 60 #[.int .i64 n] w fun e w' => e = .returned (.iface 136 (.pointer (some tW))) ∧ w = w' := by
  have hc := h.cT
  clear h
  go_enter Tryd.func60, Tryd.ntmps60
  go_wp2
  go_ret
  exact ⟨rfl, rfl⟩
theorem iwf_o (w : World) (n : Int) (h1 : 0 ≤ n) (h2 : n < 360) :
    Calls Tryd.prog 60 #[.int .i64 n] w fun e w' => e = .returned .nilIface ∧ w = w' := by
  go_enter Tryd.func60, Tryd.ntmps60
  go_wp2
  go_ret
  exact ⟨rfl, rfl⟩
end Go.Proofs.YtpaedbmdcbmpiaaDoor
