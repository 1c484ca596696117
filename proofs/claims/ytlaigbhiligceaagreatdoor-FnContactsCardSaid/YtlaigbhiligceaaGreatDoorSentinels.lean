/- The program's sentinels: what errors.Is says of them, and what the row's list of variables gives. The program's two sentinels of chapter 5: where they lie, that they are two, and that they stay. -/
import Derived.Test.YtlaigbhiligceaaGreatDoorChecked
import Derived.WalkKit
import Derived.ProofKit
import Derived.Handy
import Derived.LaidEql
import Derived.Stop.Asserts
import Derived.Stop.LaidTwo
import Derived.RowKitTokens
import Derived.Lib.Hide
import Derived.Test.YtlaigbhiligceaaGreatDoorRows
namespace Go.Proofs.YtlaigbhiligceaaGreatDoor
open Go.RowKit Go.Extern.Stop Go.Stop Go.Extern
/-! Closed facts -/
theorem es_typeOf (v : Value) (w : World) : (Extern.ReflectliteType.typeOf #[.iface 234 v]).run Tryz.prog w = .ok (.iface 200 (.agg #[.pointer (some ⟨3, 234, none⟩)])) w := by kernel_rfl
theorem es_cmp (w : World) : (callFunc 215 #[.agg #[.pointer (some ⟨3, 234, none⟩)]]).run Tryz.prog w = .ok (.value (.bool true)) w := by
  rw [@run_callFunc_extern Tryz.prog 215 _ (Extern.ReflectliteType.method fun t => do Extern.Rtype.noPackHeld "Comparable" t; pure (.bool (← typeInfo t).comparable)) Tryz.func215 (by kernel_rfl) (by kernel_rfl) (by kernel_rfl) (by kernel_rfl)]
  kernel_rfl
theorem es_method (v : Value) (w : World) : (Go.method 367 200 v "Comparable").run Tryz.prog w = .ok (215, v) w := by kernel_rfl
theorem es_comp : (Tryz.prog.info? 234).map (·.comparable) = some true := by kernel_rfl
theorem es_size : (Tryz.prog.info? 255).map (·.size) = some 1 := by kernel_rfl
theorem es_noIs (v : Value) (xT : TypeId) (w : World) : (Instr.typeAssert (.iface 234 v) xT 232 true).run Tryz.prog w = .ok (.tuple #[.nilIface, .bool false]) w := run_typeAssert_lacksB Tryz.underlying232 (by kernel_rfl) (by kernel_rfl) v xT w
theorem es_noUnwrap (v : Value) (xT : TypeId) (w : World) : (Instr.typeAssert (.iface 234 v) xT 208 true).run Tryz.prog w = .ok (.tuple #[.nilIface, .bool false]) w := run_typeAssert_lacksB Tryz.underlying208 (by kernel_rfl) (by kernel_rfl) v xT w
theorem es_noUnwraps (v : Value) (xT : TypeId) (w : World) : (Instr.typeAssert (.iface 234 v) xT 210 true).run Tryz.prog w = .ok (.tuple #[.nilIface, .bool false]) w := run_typeAssert_lacksB Tryz.underlying210 (by kernel_rfl) (by kernel_rfl) v xT w
/-- errors.is(x, x, true) -/
theorem is_same_in (a : Addr) (w : World) :
    Calls Tryz.prog 182 #[.iface 234 (.pointer (some a)), .iface 234 (.pointer (some a)), .bool true] w fun e w' => e = .returned (.bool true) ∧ w' = w := by
  obtain ⟨i, hi, hcmp⟩ := Option.map_eq_some_iff.1 es_comp
  obtain ⟨j, hj, hjs⟩ := Option.map_eq_some_iff.1 es_size
  have heq := run_eql_iface_ptr_same (P := Tryz.prog) w a Tryz.underlying64 Tryz.underlying234 hi hcmp hj
  go_enter Tryz.func182, Tryz.ntmps182
  go_wp2
  refine wp_loop_rounds 1 ?_
  rw [rounds_succ]
  go_wp2
  go_ret
  exact ⟨rfl, rfl⟩
/-- errors.is(x, y, true), two different sentinels -/
theorem is_other_in (a b : Addr) (ca cb : Array Value) (ta tb : TypeId) (w : World) (hne : a ≠ b) (ha : w.heap[a.block]? = some (.cells ca ta (0, 0))) (hb : w.heap[b.block]? = some (.cells cb tb (0, 0))) :
    Calls Tryz.prog 182 #[.iface 234 (.pointer (some a)), .iface 234 (.pointer (some b)), .bool true] w fun e w' => e = .returned (.bool false) ∧ w' = w := by
  obtain ⟨i, hi, hcmp⟩ := Option.map_eq_some_iff.1 es_comp
  obtain ⟨j, hj, hjs⟩ := Option.map_eq_some_iff.1 es_size
  have nE := es_noIs
  have uE := es_noUnwrap
  have vE := es_noUnwraps
  have heq := run_eql_iface_ptr_other (P := Tryz.prog) w Tryz.underlying64 Tryz.underlying234 hi hcmp hj (by rw [hjs]; decide) hne ha hb
  go_enter Tryz.func182, Tryz.ntmps182
  go_wp2
  refine wp_loop_rounds 1 ?_
  rw [rounds_succ]
  go_wp2
  go_ret
  exact ⟨rfl, rfl⟩
/-- errors.Is of two sentinels, by errors.is -/
theorem is_by (a b : Addr) (v : Bool) (w : World) (h : Calls Tryz.prog 182 #[.iface 234 (.pointer (some a)), .iface 234 (.pointer (some b)), .bool true] w fun e w' => e = .returned (.bool v) ∧ w' = w) :
    Calls Tryz.prog 177 #[.iface 234 (.pointer (some a)), .iface 234 (.pointer (some b))] w fun e w' => e = .returned (.bool v) ∧ w' = w := by
  have h8 := @run_callFunc_extern Tryz.prog 153 _ Extern.ReflectliteType.typeOf Tryz.func153 (by kernel_rfl) (by kernel_rfl) (by kernel_rfl) (by kernel_rfl)
  have tT := es_typeOf
  have cT := es_cmp
  have mR := es_method
  go_enter Tryz.func177, Tryz.ntmps177
  go_wp2_with fail
  refine h.mono ?_
  rintro e w' ⟨rfl, rfl⟩
  go_wp2
  go_ret
  exact ⟨rfl, rfl⟩
end Go.Proofs.YtlaigbhiligceaaGreatDoor
namespace Go.Proofs.YtlaigbhiligceaaGreatDoor
open Go.RowKit Go.ChangeShapes Go.WideShapes Go.ChangeAt
set_option linter.unusedVariables false
theorem es_row (u : TypeId) (h : Tryz.prog.typeName? 3 u = some "*errors.errorString") : u = 234 :=
  typeName_ptr_named (nm := "errors.errorString") (by rw [show "*" ++ "errors.errorString" = "*errors.errorString" by decide]; kernel_rfl) (by kernel_rfl) (by decide) u (by rw [show "*" ++ "errors.errorString" = "*errors.errorString" by decide]; exact h)
/-- nA: the sentinel 'no angle'; tW: the sentinel 'too wide' -/
structure Errs (w : World) (nA tW : Addr) : Prop where
  cN : w.cell? ⟨1, 0, none⟩ = some (.iface 234 (.pointer (some nA)))
  cT : w.cell? ⟨2, 0, none⟩ = some (.iface 234 (.pointer (some tW)))
  ne : nA ≠ tW
  hN : ∃ c t, w.heap[nA.block]? = some (.cells c t (0, 0))
  hT : ∃ c t, w.heap[tW.block]? = some (.cells c t (0, 0))
theorem errs_of {w : World} (h : laidMet Tryz.prog [("loop.example/g00599/impl.errNoAngle", Rows.laid_loop_example_g00599_impl_errNoAngle), ("loop.example/g00599/impl.errTooWide", Rows.laid_loop_example_g00599_impl_errTooWide)] w) : ∃ nA tW, Errs w nA tW := by
  obtain ⟨a0, a1, s0, s1, c0, c1, t0, t1, hv0, hv1, hc0, hs0, hz0, hc1, hs1, hz1, hne, hb0, hb1⟩ :=
    laid_sentinels2 (g0 := 1) (g1 := 2) (ti := 64) h (by kernel_rfl) (by kernel_rfl) (by kernel_rfl) (by kernel_rfl) Tryz.underlying64 es_row Tryz.underlying234 Tryz.underlying255 rfl rfl Tryz.underlying9 (by kernel_rfl) (by kernel_rfl)
  refine ⟨a0, a1, ⟨?_, ?_, hne, ⟨_, _, hb0⟩, ⟨_, _, hb1⟩⟩⟩
  · simpa using World.var?_cell (show Tryz.prog.globalNamed "loop.example/g00599/impl.errNoAngle" = some 1 by kernel_rfl) hv0 0
  · simpa using World.var?_cell (show Tryz.prog.globalNamed "loop.example/g00599/impl.errTooWide" = some 2 by kernel_rfl) hv1 0
theorem lt_of_get {w : World} {k : Nat} {x : Obj} (h : w.heap[k]? = some x) : k < w.heap.size := by
  rcases Nat.lt_or_ge k w.heap.size with h' | h'
  · exact h'
  · simp [Array.getElem?_eq_none h'] at h
theorem lt_of_cell {w : World} {a : Addr} {x : Value} (h : w.cell? a = some x) : a.block < w.heap.size := by
  rcases Nat.lt_or_ge a.block w.heap.size with h' | h'
  · exact h'
  · simp [World.cell?, Array.getElem?_eq_none h'] at h
theorem Errs.below {w w' : World} {nA tW : Addr} (h : Errs w nA tW) (hb : Below w.heap.size w w') : Errs w' nA tW := by
  refine ⟨?_, ?_, h.ne, ?_, ?_⟩
  · rw [hb.cell (p := ⟨1, 0, none⟩) (lt_of_cell h.cN)]; exact h.cN
  · rw [hb.cell (p := ⟨2, 0, none⟩) (lt_of_cell h.cT)]; exact h.cT
  · obtain ⟨c, t, e⟩ := h.hN
    exact ⟨c, t, by rw [hb.block _ (lt_of_get e)]; exact e⟩
  · obtain ⟨c, t, e⟩ := h.hT
    exact ⟨c, t, by rw [hb.block _ (lt_of_get e)]; exact e⟩
theorem Errs.drew {w : World} {nA tW : Addr} (h : Errs w nA tW) : Errs w.drew nA tW := ⟨h.cN, h.cT, h.ne, h.hN, h.hT⟩
/-- errors.Is of a sentinel and 'too wide' -/
theorem is_tT {w : World} {nA tW : Addr} (h : Errs w nA tW) :
    Calls Tryz.prog 177 #[.iface 234 (.pointer (some tW)), .iface 234 (.pointer (some tW))] w fun e w' => e = .returned (.bool true) ∧ w' = w :=
  is_by _ _ _ _ (is_same_in tW w)
theorem is_nT {w : World} {nA tW : Addr} (h : Errs w nA tW) :
    Calls Tryz.prog 177 #[.iface 234 (.pointer (some nA)), .iface 234 (.pointer (some tW))] w fun e w' => e = .returned (.bool false) ∧ w' = w := by
  obtain ⟨c0, t0, e0⟩ := h.hN
  obtain ⟨c1, t1, e1⟩ := h.hT
  exact is_by _ _ _ _ (is_other_in nA tW c0 c1 t0 t1 w h.ne e0 e1)
/-- the reason why a width is out of range -/
theorem iwf_n {w : World} {nA tW : Addr} (h : Errs w nA tW) (n : Int) (h1 : n < 0) :
    Calls Tryz.prog 113 #[.int .i64 n] w fun e w' => e = .returned (.iface 234 (.pointer (some nA))) ∧ w = w' := by
  have hc := h.cN
  clear h
  go_enter Tryz.func113, Tryz.ntmps113
  go_wp2
  go_ret
  exact ⟨rfl, rfl⟩
theorem iwf_t {w : World} {nA tW : Addr} (h : Errs w nA tW) (n : Int) (h1 : 360 ≤ n) :
    Calls Tryz.prog 113 #[.int .i64 n] w fun e w' => e = .returned (.iface 234 (.pointer (some tW))) ∧ w = w' := by
  have hc := h.cT
  clear h
  go_enter Tryz.func113, Tryz.ntmps113
  go_wp2
  go_ret
  exact ⟨rfl, rfl⟩
theorem iwf_o (w : World) (n : Int) (h1 : 0 ≤ n) (h2 : n < 360) :
    Calls Tryz.prog 113 #[.int .i64 n] w fun e w' => e = .returned .nilIface ∧ w = w' := by
  go_enter Tryz.func113, Tryz.ntmps113
  go_wp2
  go_ret
  exact ⟨rfl, rfl⟩
end Go.Proofs.YtlaigbhiligceaaGreatDoor
