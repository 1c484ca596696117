/- Go's errors.As at the program's own kind of reason (a text and a Bool): of no error, and of such a reason. -/
import Derived.Test.YtlaigbhiligceaaGreatDoorWords
import Derived.Test.YtlaigbhiligceaaGreatDoorChecked
import Derived.Test.YtlaigbhiligceaaGreatDoorRows
import Derived.WalkKit
import Derived.ProofKit
import Derived.Handy
import Derived.LaidEql
import Derived.LaidHandle
import Derived.Stop.Asserts
import Derived.RowKitTokens
import Derived.Lib.Hide
namespace Go.Proofs.YtlaigbhiligceaaGreatDoor
open Go.RowKit Go.Extern.Stop Go.Stop Go.Extern
set_option linter.unusedVariables false
/-- where errors.As finds the kind of an error -/
def Han (w : World) : Prop := w.cell? ⟨0, 0, none⟩ = some (.iface 200 (.agg #[.pointer (some ⟨3, 64, none⟩)]))
theorem Han.below {w w' : World} (h : Han w) (hb : Below w.heap.size w w') : Han w' := by
  unfold Han at *
  have hlt : 0 < w.heap.size := by
    rcases Nat.lt_or_ge 0 w.heap.size with h' | h'
    · exact h'
    · simp [World.cell?, Array.getElem?_eq_none h'] at h
  rw [hb.cell (p := ⟨0, 0, none⟩) hlt]; exact h
theorem as_nil (t : Value) (w : World) :
    Calls Tryz.prog 86 #[.nilIface, t] w fun e w' => e = .returned (.bool false) ∧ w' = w := by
  go_enter Tryz.func86, Tryz.ntmps86
  go_wp2
  go_ret
  exact ⟨rfl, rfl⟩
theorem ra_valueOfP (t : Addr) (w : World) : (ReflectliteValue.unpack (.iface 136 (.pointer (some t)))).run Tryz.prog w
    = .ok (.agg #[.pointer (some ⟨3, 136, none⟩), .pointer (some ⟨w.heap.size, 0, none⟩), .int .u64 150]) (w.alloc (.cells #[.pointer (some t)] 136)) := by kernel_rfl
theorem ra_typeP (a : Addr) (w : World) : (ReflectliteValue.methodAny (ReflectliteValue.valueError "reflectlite.Value.Type" 0) (fun t _ _ _ => ReflectliteType.toType t) #[.agg #[.pointer (some ⟨3, 136, none⟩), .pointer (some a), .int .u64 150]]).run Tryz.prog w
    = .ok (.iface 200 (.agg #[.pointer (some ⟨3, 136, none⟩)])) w := by kernel_rfl
theorem ra_methodKind (h : Value) (w : World) : (Go.method 367 200 (.agg #[h]) "Kind").run Tryz.prog w = .ok (197, h) w := by kernel_rfl
theorem ra_kindP (w : World) : ((ReflectliteType.abiMethod fun t => (fun a : Nat => Value.int IntKind.u8 (a : Int)) <$> Rtype.kind t) #[.pointer (some ⟨3, 136, none⟩)]).run Tryz.prog w = .ok (.int .u8 22) w := by kernel_rfl
theorem ra_kindR (w : World) : ((ReflectliteType.abiMethod fun t => (fun a : Nat => Value.int IntKind.u8 (a : Int)) <$> Rtype.kind t) #[.pointer (some ⟨3, 120, none⟩)]).run Tryz.prog w = .ok (.int .u8 25) w := by kernel_rfl
theorem ra_isNilAt (a : Addr) (w : World) : (ReflectliteValue.method (ReflectliteValue.valueError "reflectlite.Value.IsNil" 0) ReflectliteValue.isNil #[.agg #[.pointer (some ⟨3, 136, none⟩), .pointer (some a), .int .u64 150]]).run Tryz.prog w = (ReflectliteValue.isNil 136 a 150 22).run Tryz.prog w := by kernel_rfl
theorem ra_elemAt (a : Addr) (w : World) : (ReflectliteValue.method (ReflectliteValue.valueError "reflectlite.Value.Elem" 0) ReflectliteValue.elem #[.agg #[.pointer (some ⟨3, 136, none⟩), .pointer (some a), .int .u64 150]]).run Tryz.prog w = (ReflectliteValue.elem 136 a 150 22).run Tryz.prog w := by kernel_rfl
theorem ra_isNil (a p : Addr) (W : World) (ha : W.cell? a = some (.pointer (some p))) :
    (ReflectliteValue.method (ReflectliteValue.valueError "reflectlite.Value.IsNil" 0) ReflectliteValue.isNil #[.agg #[.pointer (some ⟨3, 136, none⟩), .pointer (some a), .int .u64 150]]).run Tryz.prog W = .ok (.bool false) W := by
  rw [ra_isNilAt]
  simp [ReflectliteValue.isNil, loadVar, isAgg, underlying, Tryz.underlying136, ha, Result.andThen]
theorem ra_methodElem (h : Value) (w : World) : (Go.method 367 200 (.agg #[h]) "Elem").run Tryz.prog w = .ok (216, .agg #[h]) w := by kernel_rfl
theorem ra_methodImplements (h : Value) (w : World) : (Go.method 367 200 (.agg #[h]) "Implements").run Tryz.prog w = .ok (217, .agg #[h]) w := by kernel_rfl
theorem ra_methodAssignableTo (h : Value) (w : World) : (Go.method 367 200 (.agg #[h]) "AssignableTo").run Tryz.prog w = .ok (214, .agg #[h]) w := by kernel_rfl
theorem ra_elemP (w : World) : (ReflectliteType.method ReflectliteType.elem #[.agg #[.pointer (some ⟨3, 136, none⟩)]]).run Tryz.prog w = .ok (.iface 200 (.agg #[.pointer (some ⟨3, 120, none⟩)])) w := by kernel_rfl
theorem ra_implements (w : World) : (ReflectliteType.relation "Implements" ReflectliteType.implements_ #[.agg #[.pointer (some ⟨3, 120, none⟩)], .iface 200 (.agg #[.pointer (some ⟨3, 64, none⟩)])]).run Tryz.prog w = .ok (.bool true) w := by kernel_rfl
theorem ra_typeOfR (v : Value) (w : World) : (ReflectliteType.typeOf #[.iface 120 v]).run Tryz.prog w = .ok (.iface 200 (.agg #[.pointer (some ⟨3, 120, none⟩)])) w := by kernel_rfl
theorem ra_assignable (w : World) : (ReflectliteType.relation "AssignableTo" ReflectliteType.assignableTo #[.agg #[.pointer (some ⟨3, 120, none⟩)], .iface 200 (.agg #[.pointer (some ⟨3, 120, none⟩)])]).run Tryz.prog w = .ok (.bool true) w := by kernel_rfl
theorem ra_valueOfR (s : ByteArray) (b : Bool) (w : World) : (ReflectliteValue.unpack (.iface 120 (.agg #[.string s, .bool b]))).run Tryz.prog w
    = .ok (.agg #[.pointer (some ⟨3, 120, none⟩), .pointer (some ⟨w.heap.size, 0, none⟩), .int .u64 153]) (w.alloc (.cells #[.string s, .bool b] 120)) := by kernel_rfl
theorem ra_elemOfP (w : World) : (Rtype.elem? 136).run Tryz.prog w = .ok (some 120) w := by kernel_rfl
theorem ra_mk (p : Addr) (w : World) : (ReflectliteValue.mk 120 p ReflectliteValue.flagAddr).run Tryz.prog w = .ok (.agg #[.pointer (some ⟨3, 120, none⟩), .pointer (some p), .int .u64 409]) w := by kernel_rfl
theorem ra_elemV (a p : Addr) (W : World) (ha : W.cell? a = some (.pointer (some p))) :
    (ReflectliteValue.method (ReflectliteValue.valueError "reflectlite.Value.Elem" 0) ReflectliteValue.elem #[.agg #[.pointer (some ⟨3, 136, none⟩), .pointer (some a), .int .u64 150]]).run Tryz.prog W
      = .ok (.agg #[.pointer (some ⟨3, 120, none⟩), .pointer (some p), .int .u64 409]) W := by
  rw [ra_elemAt]
  simp [ReflectliteValue.elem, loadVar, isAgg, underlying, Tryz.underlying136, ha, Result.andThen, ra_elemOfP, ra_mk]
theorem ra_setAt (a b : Addr) (w : World) : (ReflectliteValue.set #[.agg #[.pointer (some ⟨3, 120, none⟩), .pointer (some a), .int .u64 409], .agg #[.pointer (some ⟨3, 120, none⟩), .pointer (some b), .int .u64 153]]).run Tryz.prog w
    = (do let val ← loadVar 120 b; storeVar 120 a val; pure (.tuple #[]) : Sem Value).run Tryz.prog w := by kernel_rfl
/-- (Value).Set: both cells of the variable get what the error's own copy holds -/
theorem ra_set (g b : Nat) (s : ByteArray) (v : Bool) (o0 o1 : Value) (W : World) (hb0 : W.cell? ⟨b, 0, none⟩ = some (.string s)) (hb1 : W.cell? ⟨b, 1, none⟩ = some (.bool v)) (ht : W.cell? ⟨g, 0, none⟩ = some o0) (hf : W.frozen? ⟨g, 0, none⟩ = false) (ht1 : (W.setCell ⟨g, 0, none⟩ (.string s)).cell? ⟨g, 1, none⟩ = some o1) (hf1 : (W.setCell ⟨g, 0, none⟩ (.string s)).frozen? ⟨g, 1, none⟩ = false) :
    (ReflectliteValue.set #[.agg #[.pointer (some ⟨3, 120, none⟩), .pointer (some ⟨g, 0, none⟩), .int .u64 409], .agg #[.pointer (some ⟨3, 120, none⟩), .pointer (some ⟨b, 0, none⟩), .int .u64 153]]).run Tryz.prog W
      = .ok (.tuple #[]) ((W.setCell ⟨g, 0, none⟩ (.string s)).setCell ⟨g, 1, none⟩ (.bool v)) := by
  rw [ra_setAt]
  simp [loadVar, isAgg, underlying, Tryz.underlying120, hb0, hb1, Result.andThen, loadCells, loadCellsFrom, storeVar, Value.cells, storeCells, Addr.add]
  rw [run_store Tryz.prog W _ _ _ (by rfl)]
  simp only [ht, hf, Bool.false_eq_true, if_false]
  rw [run_store Tryz.prog _ _ _ _ (by rfl)]
  simp [ht1, hf1]
set_option maxRecDepth 100000 in
set_option maxHeartbeats 4000000 in
theorem as_hit (w : World) (g : Nat) (s : ByteArray) (b : Bool) (o0 o1 : Value) (hz : Blk w g 120 #[o0, o1]) (hh : Han w) :
    Calls Tryz.prog 86 #[.iface 120 (.agg #[.string s, .bool b]), .iface 136 (.pointer (some ⟨g, 0, none⟩))] w fun e w' => e = .returned (.bool true) ∧ Blk w' g 120 #[.string s, .bool b] ∧ Below g w w' := by
  have x1 := @run_callFunc_extern Tryz.prog 131 _ (fun args => ReflectliteValue.unpack (args.getD 0 (.tuple #[]))) Tryz.func131 (by kernel_rfl) (by kernel_rfl) (by kernel_rfl) (by kernel_rfl)
  have x2 := @run_callFunc_extern Tryz.prog 132 _ (ReflectliteValue.methodAny (ReflectliteValue.valueError "reflectlite.Value.Type" 0) (fun t _ _ _ => ReflectliteType.toType t)) Tryz.func132 (by kernel_rfl) (by kernel_rfl) (by kernel_rfl) (by kernel_rfl)
  have x3 := @run_callFunc_extern Tryz.prog 133 _ (ReflectliteValue.method (ReflectliteValue.valueError "reflectlite.Value.IsNil" 0) ReflectliteValue.isNil) Tryz.func133 (by kernel_rfl) (by kernel_rfl) (by kernel_rfl) (by kernel_rfl)
  have x4 := @run_callFunc_extern Tryz.prog 197 _ (ReflectliteType.abiMethod fun t => do pure (.int .u8 (← Rtype.kind t))) Tryz.func197 (by kernel_rfl) (by kernel_rfl) (by kernel_rfl) (by kernel_rfl)
  have x5 := @run_callFunc_extern Tryz.prog 216 _ (ReflectliteType.method ReflectliteType.elem) Tryz.func216 (by kernel_rfl) (by kernel_rfl) (by kernel_rfl) (by kernel_rfl)
  have x6 := @run_callFunc_extern Tryz.prog 217 _ (ReflectliteType.relation "Implements" ReflectliteType.implements_) Tryz.func217 (by kernel_rfl) (by kernel_rfl) (by kernel_rfl) (by kernel_rfl)
  have x7 := @run_callFunc_extern Tryz.prog 153 _ ReflectliteType.typeOf Tryz.func153 (by kernel_rfl) (by kernel_rfl) (by kernel_rfl) (by kernel_rfl)
  have x8 := @run_callFunc_extern Tryz.prog 214 _ (ReflectliteType.relation "AssignableTo" ReflectliteType.assignableTo) Tryz.func214 (by kernel_rfl) (by kernel_rfl) (by kernel_rfl) (by kernel_rfl)
  have x9 := @run_callFunc_extern Tryz.prog 154 _ (ReflectliteValue.method (ReflectliteValue.valueError "reflectlite.Value.Elem" 0) ReflectliteValue.elem) Tryz.func154 (by kernel_rfl) (by kernel_rfl) (by kernel_rfl) (by kernel_rfl)
  have x10 := @run_callFunc_extern Tryz.prog 155 _ ReflectliteValue.set Tryz.func155 (by kernel_rfl) (by kernel_rfl) (by kernel_rfl) (by kernel_rfl)
  have m1 := ra_typeOfR; have m2 := ra_methodAssignableTo; have m3 := ra_assignable; have m4 := ra_valueOfR; have m5 := ra_valueOfP; have m6 := ra_typeP; have m7 := ra_methodKind; have m8 := ra_methodElem; have m9 := ra_methodImplements
  have m10 := ra_kindP; have m11 := ra_kindR; have m12 := ra_elemP; have m13 := ra_implements
  have hgl := hz.lt
  obtain ⟨w2, hw2⟩ : ∃ W, W = (w.alloc (.cells #[.pointer (some ⟨g, 0, none⟩)] 136)).alloc (.cells #[.pointer (some ⟨3, 136, none⟩), .pointer (some ⟨w.heap.size, 0, none⟩), .int .u64 150] 176) := ⟨_, rfl⟩
  obtain ⟨w3, hw3⟩ : ∃ W, W = w2.alloc (.cells #[.pointer (some ⟨3, 136, none⟩), .pointer (some ⟨w.heap.size, 0, none⟩), .int .u64 150] 176) := ⟨_, rfl⟩
  obtain ⟨w4, hw4⟩ : ∃ W, W = w3.alloc (.cells #[.string s, .bool b] 120) := ⟨_, rfl⟩
  have b2 : Below w.heap.size w w2 := by rw [hw2]; exact ((Below.refl _ _).alloc (Nat.le_refl _) _).alloc (by simp) _
  have s2 : w2.heap.size = w.heap.size + 1 + 1 := by rw [hw2]; simp
  have b3 : Below w2.heap.size w2 w3 := by rw [hw3]; exact (Below.refl _ _).alloc (Nat.le_refl _) _
  have s3 : w3.heap.size = w.heap.size + 1 + 1 + 1 := by rw [hw3]; simp [s2]
  have b4 : Below w3.heap.size w3 w4 := by rw [hw4]; exact (Below.refl _ _).alloc (Nat.le_refl _) _
  have p2 : w2.cell? ⟨w.heap.size, 0, none⟩ = some (.pointer (some ⟨g, 0, none⟩)) := by rw [hw2]; simp
  have p3 : w3.cell? ⟨w.heap.size, 0, none⟩ = some (.pointer (some ⟨g, 0, none⟩)) := by rw [b3.cell (p := ⟨w.heap.size, 0, none⟩) (by simp; omega)]; exact p2
  have n8 := ra_isNil ⟨w.heap.size, 0, none⟩ ⟨g, 0, none⟩ w2 p2
  have hg2 : w2.cell? ⟨0, 0, none⟩ = some (.iface 200 (.agg #[.pointer (some ⟨3, 64, none⟩)])) := hh.below b2
  have el := ra_elemV ⟨w.heap.size, 0, none⟩ ⟨g, 0, none⟩ w3 p3
  have z4 : Blk w4 g 120 #[o0, o1] := ((hz.below b2 hz.lt).below b3 (by omega)).below b4 (by omega)
  have y4 : Blk w4 w3.heap.size 120 #[.string s, .bool b] := by rw [hw4]; exact Blk.new _ _ _
  have st := ra_set g w3.heap.size s b o0 o1 w4 (y4.cell 0) (y4.cell 1) (z4.cell 0) (z4.frozen 0) ((z4.set_ 0 _).cell 1) ((z4.set_ 0 _).frozen 1)
  have B4 : Hid (Below g w ((w4.setCell ⟨g, 0, none⟩ (.string s)).setCell ⟨g, 1, none⟩ (.bool b))) := Lib.hid ((((((b2.mono (Nat.le_of_lt hgl)).trans (b3.mono (by omega))).trans (b4.mono (by omega))).setCell (Nat.le_refl _) _)).setCell (Nat.le_refl _) _)
  have Z4 : Hid (Blk ((w4.setCell ⟨g, 0, none⟩ (.string s)).setCell ⟨g, 1, none⟩ (.bool b)) g 120 #[.string s, .bool b]) := Lib.hid ((z4.set_ 0 (.string s)).set_ 1 (.bool b))
  rw [s3] at st
  clear z4 y4 b2 b3 b4 hh hz p2 p3 s2 s3
  subst hw4 hw3 hw2
  go_enter Tryz.func86, Tryz.ntmps86
  go_wp2
  refine wp_loop_rounds 1 ?_
  rw [rounds_succ]
  go_wp2
  go_ret
  exact ⟨rfl, Z4.out, B4.out⟩
theorem et_global : Tryz.prog.globalNamed "errors.errorType" = some 0 := by kernel_rfl
theorem et_rtype : (Tryz.prog.cutTypes.find? (·.1 == "internal/reflectlite.rtype")).map (·.2) = some 200 := by kernel_rfl
theorem et_row : ((List.range (367 - 100)).filter fun t => Tryz.prog.rowNamed t [101, 114, 114, 111, 114]) = [64] := by kernel_rfl
theorem et_size : Tryz.prog.types.size = 367 - 100 := by kernel_rfl
theorem han_of {w : World} (h : handlesMet Tryz.prog [("errors.errorType", Rows.laid_errors_errorType)] w) : Han w := by
  obtain ⟨name, u, ty, e1, e2, e3, e4, e5⟩ := h _ (List.mem_singleton.2 rfl)
  have en : name = [101, 114, 114, 111, 114] := (Option.some.inj e1).symm
  subst en
  obtain rfl := Option.some.inj (et_rtype.symm.trans e2)
  have hm : ty ∈ (List.range (367 - 100)).filter fun t => Tryz.prog.rowNamed t [101, 114, 114, 111, 114] := List.mem_filter.2 ⟨List.mem_range.2 (by rw [← et_size]; exact e3), e4⟩
  rw [et_row] at hm
  obtain rfl := List.mem_singleton.1 hm
  have hh : typeHandle Tryz.prog 64 = .pointer (some ⟨3, 64, none⟩) := by kernel_rfl
  rw [hh] at e5
  unfold Han
  simpa using World.var?_cell et_global e5 0
theorem iofsky_nil (w : World) : Calls Tryz.prog 39 #[.nilIface] w fun e w' => e = .returned (.bool false) ∧ Below w.heap.size w w' := by
  go_enter Tryz.func39, Tryz.ntmps39
  go_wp2_with fail
  refine (as_nil _ _).mono ?_
  rintro e w1 ⟨rfl, rfl⟩
  go_wp2_with fail
  go_ret
  exact ⟨rfl, (Below.refl _ _).alloc (Nat.le_refl _) _⟩
theorem iofsky (w : World) (hh : Han w) (s : ByteArray) (b : Bool) : Calls Tryz.prog 39 #[.iface 120 (.agg #[.string s, .bool b])] w fun e w' => e = .returned (.bool b) ∧ Below w.heap.size w w' := by
  obtain ⟨W0, hW0⟩ : ∃ W, W = w.alloc (.cells #[.string ⟨#[]⟩, .bool false] 120) := ⟨_, rfl⟩
  obtain ⟨g, hg⟩ : ∃ g, g = w.heap.size := ⟨_, rfl⟩
  have z0 : Hid (Blk W0 g 120 #[.string ⟨#[]⟩, .bool false]) := Lib.hid (by rw [hW0, hg]; exact Blk.new _ _ _)
  have b0 : Below w.heap.size w W0 := by rw [hW0]; exact (Below.refl _ _).alloc (Nat.le_refl _) _
  have h0 := Lib.hid (hh.below b0)
  have B0 : Hid (Below g w W0) := Lib.hid (by rw [hg]; exact b0)
  have HG := Lib.hid hg
  clear hh b0
  go_enter Tryz.func39, Tryz.ntmps39
  go_wp2_with fail
  rw [← hW0, ← hg]
  clear hW0 hg
  refine (as_hit W0 g s b _ _ z0.out h0.out).mono ?_
  rintro e w1 ⟨rfl, z1, b1⟩
  have a1 : w1.cell? ⟨g, 1, none⟩ = some (.bool b) := z1.cell 1
  have HF : Hid (Below w.heap.size w w1) := Lib.hid (by rw [← HG.out]; exact B0.out.trans b1)
  clear b1 z1
  go_wp2
  go_ret
  exact ⟨rfl, HF.out⟩
end Go.Proofs.YtlaigbhiligceaaGreatDoor
