/- For all arguments, the program's WidenArc answers as the model's (law FnExactWidenArc), where the program's two sentinels lie as their initialisers lay them (a tied card). -/
import Derived.Test.YteingcdjoepeiaaDoorShellSpan
import Derived.Test.YteingcdjoepeiaaDoorCards
import Derived.Test.YteingcdjoepeiaaDoorTie
import Derived.Test.YteingcdjoepeiaaDoorArc3
import Derived.Deep.DeepHandedRow
import Derived.LaidMore
import Derived.Stop.Joined
namespace Go.Proofs.YteingcdjoepeiaaDoor.fnExactWidenArc
open Go.ChangeShapes Go.WideShapes Go.ChangeAt Go.RowKit Go.ChangeMaps
set_option linter.unusedVariables false
theorem walk (w : World) (hL : laidMetH Tryd.prog Rows.fnExactWidenArcRow.laid w) (ax0 ay0 : Int) (wx0 : (Lit.int .i64 ax0).wf = true) (wy0 : (Lit.int .i64 ay0).wf = true) (a1 : Int) (w1 : (Lit.int .i64 a1).wf = true) :
    Calls Tryd.prog 5 #[.agg #[.int .i64 ax0, .int .i64 ay0], .int .i64 a1] w fun e w' => e = .returned (.bool true) ∧ Below w.heap.size w w' := by
  obtain ⟨x, hx⟩ : ∃ x, widS ax0 ay0 a1 = x := ⟨_, rfl⟩
  obtain ⟨y, hy⟩ : ∃ y, widW ay0 a1 = y := ⟨_, rfl⟩
  have HX := Lib.hid hx; have HY := Lib.hid hy; clear hx hy
  obtain ⟨nA, tW, e0⟩ := errs_of (show laidMet _ _ w from hL)
  have T0 := Lib.hid (one_more w #[.int .i64 ax0, .int .i64 ay0] 38)
  have Z0 : Hid (Blk (w.alloc (.cells #[.int .i64 ax0, .int .i64 ay0] 38)) w.heap.size 38 #[.int .i64 ax0, .int .i64 ay0]) := Lib.hid (Blk.new _ _ _)
  have E0 := Lib.hid (e0.more #[.int .i64 ax0, .int .i64 ay0] 38)
  have S0 : Hid (w.heap.size + 1 = (w.alloc (.cells #[.int .i64 ax0, .int .i64 ay0] 38)).heap.size) := Lib.hid (by simp)
  clear e0 hL
  go_enter Tryd.func5, Tryd.ntmps5
  go_wp2_with fail
  refine (toarc _ ax0 ay0).mono ?_
  rintro e w1 ⟨rfl, b1⟩
  have T1 := Lib.hid (T0.out.trans (b1.mono T0.out.size))
  have E1 := Lib.hid (E0.out.below b1)
  have z1 := Z0.out.below b1 (by rw [← S0.out]; omega)
  have c0 : w1.cell? ⟨w.heap.size, 0, none⟩ = some (.int .i64 ax0) := z1.cell 0
  have c1 : w1.cell? ⟨w.heap.size, 1, none⟩ = some (.int .i64 ay0) := z1.cell 1
  have Z1 := Lib.hid z1
  clear b1 z1
  go_wp2_with fail
  refine (swiden _ ax0 ay0 a1 x y HX.out HY.out).mono ?_
  rintro e w2 ⟨rfl, b2⟩
  have z2 := (Z1.out.below b2 Z1.out.lt).alloc (.cells #[.int .i64 x, .int .i64 y] 29)
  have d0 : (w2.alloc (.cells #[.int .i64 x, .int .i64 y] 29)).cell? ⟨w.heap.size, 0, none⟩ = some (.int .i64 ax0) := z2.cell 0
  have d1 : (w2.alloc (.cells #[.int .i64 x, .int .i64 y] 29)).cell? ⟨w.heap.size, 1, none⟩ = some (.int .i64 ay0) := z2.cell 1
  have t2 := T1.out.trans (b2.mono T1.out.size)
  have T2 := Lib.hid (t2.trans ((one_more w2 #[.int .i64 x, .int .i64 y] 29).mono t2.size))
  have E2 := Lib.hid ((E1.out.below b2).more #[.int .i64 x, .int .i64 y] 29)
  have Y2 := Lib.hid (Blk.new w2 29 #[.int .i64 x, .int .i64 y])
  clear b2 z2 t2 c0 c1
  go_wp2_with fail
  refine (toarc _ ax0 ay0).mono ?_
  rintro e w3 ⟨rfl, b3⟩
  have T3 := Lib.hid (T2.out.trans (b3.mono T2.out.size))
  have E3 := Lib.hid (E2.out.below b3)
  have Y3 := Lib.hid (Y2.out.below b3 Y2.out.lt)
  clear b3 d0 d1
  go_wp2_with fail
  refine (iwiden _ nA tW E3.out ax0 ay0 a1 x y HX.out HY.out).mono ?_
  rintro e w4 ⟨rfl, b4⟩
  have t4 := T3.out.trans (b4.mono T3.out.size)
  have T4 := Lib.hid (t4.trans ((one_more w4 #[.int .i64 x, .int .i64 y] 29).mono t4.size))
  have y4 := (Y3.out.below b4 Y3.out.lt).alloc (.cells #[.int .i64 x, .int .i64 y] 29)
  have f0 : (w4.alloc (.cells #[.int .i64 x, .int .i64 y] 29)).cell? ⟨w2.heap.size, 0, none⟩ = some (.int .i64 x) := y4.cell 0
  have f1 : (w4.alloc (.cells #[.int .i64 x, .int .i64 y] 29)).cell? ⟨w2.heap.size, 1, none⟩ = some (.int .i64 y) := y4.cell 1
  clear b4 t4 y4
  go_wp2_with fail
  refine (eqarc_same _ x y).mono ?_
  rintro e w5 ⟨rfl, b5⟩
  have T5 := Lib.hid (T4.out.trans (b5.mono T4.out.size))
  clear b5 f0 f1
  go_wp2
  go_ret
  exact ⟨rfl, T5.out⟩

theorem door_met (os : Os) (args : Array Value) : laidMetH Tryd.prog Rows.fnExactWidenArcRow.laid ((World.doorLaid Tryd.prog 400 os).forCall (fun _ _ => 0) ⟨#[], args, []⟩).memory :=
  laidMet_of_run' 8 (by kernel_rfl) (by kernel_rfl)
set_option maxRecDepth 100000 in
theorem lifted (os : Os) (started : os.Started) (H : Type) (enc : TypeId × Value → H) :
    ReturnsInHanded {} Tryd.checked os 5 .any (fun w args => (Rows.fnExactWidenArcSpec.pre enc Tryd.prog Tryd.f5 [] false w args ∧ laidMetH Tryd.prog Rows.fnExactWidenArcRow.laid w) ∧ sizedMet enc Tryd.prog Tryd.f5 (OpenSpec.ofChange Rows.fnExactWidenArcSpec) false w args) (Rows.fnExactWidenArcSpec.post enc Tryd.prog Tryd.f5 false true false false) := by
  refine returnsInHanded_of_change_and (C := Tryd.checked) (X := fun w _ => laidMetH Tryd.prog Rows.fnExactWidenArcRow.laid w) (fun _ _ _ hh h => h.of_heap hh) Tryd.own started (by kernel_rfl) Tryd.func5
    (ChangeSpec.witness_shaped (enc := enc) (C := Tryd.checked) (os := os) (X := fun w _ => laidMetH Tryd.prog Rows.fnExactWidenArcRow.laid w) false (World.doorLaid Tryd.prog 400 os) #[.agg #[.int .i64 0, .int .i64 0], .int .i64 0] 8 rfl (World.shaped_of_RefB (by kernel_rfl) (by kernel_rfl)) (by kernel_rfl) (by kernel_rfl) (by kernel_rfl) (door_met os _)) ?_
  intro W base args ds gs before hval0 hW hcnd _ hL _
  have hval : ∀ (j : Nat) t v, Tryd.f5.params[j]? = some t → args[j]? = some v → Value.okWide Tryd.prog W .any base t v := hval0
  have hW' := hW
  obtain ⟨p, q, hA0, hV, rfl, hfz, hnd⟩ := hW
  have hA : DataW.TrodAll enc Tryd.prog W 0 (fun _ => true) true Tryd.f5.params.toList args.toList ds p := hA0
  rw [Tryd.params5] at hA hval
  obtain ⟨v0, vs0, d0, ds0, p0, q0, hargs, rfl, rfl, h0, rr0⟩ := trodAll_cons hA
  obtain ⟨v1, vs1, d1, ds1, p1, q1, rfl, rfl, rfl, h1, rr1⟩ := trodAll_cons rr0
  obtain ⟨rfl, rfl, rfl⟩ := trodAll_nil rr1
  obtain rfl : args = #[v0, v1] := by cases args; simp_all
  have hlen := trodVars_len hV
  obtain ⟨g0, g1, rfl⟩ : ∃ g0 g1, gs = [g0, g1] := by
    rcases gs with _ | ⟨g0, _ | ⟨g1, _ | ⟨x, l⟩⟩⟩ <;> simp [Rows.fnExactWidenArcSpec] at hlen ⊢
  obtain ⟨ax0, ay0, rfl, wx0, wy0⟩ := open_pair Tryd.underlying38 (by kernel_rfl) (by kernel_rfl) Tryd.underlying3 Tryd.underlying3 (hval 0 38 v0 rfl rfl) h0
  obtain ⟨a1, rfl, rfl, rfl, w1⟩ := open_int Tryd.underlying3 (hval 1 3 v1 rfl rfl) h1
  clear hA0 hval0
  refine (walk W hL ax0 ay0 wx0 wy0 a1 w1).mono fun e W' ⟨he, hb⟩ => ⟨_, he, ?_⟩
  exact law_post Tryd.laidOut (by kernel_rfl) (by kernel_rfl) (by kernel_rfl) Tryd.underlying4 rfl rfl rfl hW' hb

theorem over : Rows.fnExactWidenArcRow.holds Tryd.pinned (OpenSpec.ofChange Rows.fnExactWidenArcSpec) :=
  OpenClaim.holds_of_wide 5 Tryd.f5 rfl rfl rfl rfl rfl rfl rfl ⟨rfl, rfl, rfl, rfl, rfl⟩ rfl rfl rfl rfl rfl (by kernel_rfl) Tryd.func5 (by kernel_rfl)
    (of_decide_eq_true (by kernel_rfl)) (by unfold Func.isWrapper; first | (rw [if_pos (by decide +kernel)]; kernel_rfl) | (rw [if_neg (by decide +kernel)]; exact ⟨rfl, rfl⟩))
    (fun os started H enc _ => lifted os started H enc)

theorem said : Rows.FnExactWidenArcSaid :=
  over
theorem plain (f : FuncId) (fn : Func) (hf : Tryd.pinned.checked.prog.funcNamed "loop.example/g00599/laws.FnExactWidenArc" = some f) (hfn : Tryd.pinned.checked.prog.funcs[f]? = some fn) :
    true = Tryd.pinned.checked.prog.looks [] ∧ ∀ (j : Nat) t, fn.params[j]? = some t → Tryd.pinned.checked.prog.wantsStandIn t = false := by
  obtain rfl : f = 5 := Option.some.inj ((show Tryd.prog.funcNamed "loop.example/g00599/laws.FnExactWidenArc" = some 5 by kernel_rfl).symm.trans hf) |>.symm
  obtain rfl : fn = Tryd.f5 := (Option.some.inj (Tryd.func5.symm.trans hfn)).symm
  refine ⟨by kernel_rfl, fun j t ht => ?_⟩
  rw [Tryd.params5] at ht
  have hm : t ∈ [38, 3] := by simpa using Array.mem_of_getElem? ht
  have hall : ([38, 3].all fun u => !Tryd.prog.wantsStandIn u) = true := by kernel_rfl
  exact (show Tryd.prog.wantsStandIn t = false by simpa using List.all_eq_true.1 hall t hm)
/-- THE CARD -/
theorem proved : Rows.FnExactWidenArcCardSaid :=
  Claim7.holds_tied_plain_at .later [] _ _ _ _ said (fun _ h => by cases h) (by kernel_rfl) (fun _ h => by cases h) fnExactWidenArc_row_tie rfl ⟨rfl, rfl⟩ (by kernel_rfl) rfl plain (by kernel_rfl)
#print axioms proved
end Go.Proofs.YteingcdjoepeiaaDoor.fnExactWidenArc
