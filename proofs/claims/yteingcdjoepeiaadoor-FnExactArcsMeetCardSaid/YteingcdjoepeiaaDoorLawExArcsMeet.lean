/- For all arcs, the program's ArcsMeet answers as the model's (law FnExactArcsMeet), where the program's two sentinels lie as their initialisers lay them (a tied card). -/
import Derived.Test.YteingcdjoepeiaaDoorShellSpan
import Derived.Test.YteingcdjoepeiaaDoorCards
import Derived.Test.YteingcdjoepeiaaDoorTie
import Derived.Test.YteingcdjoepeiaaDoorArc2
import Derived.Deep.DeepHandedRow
import Derived.LaidMore
import Derived.Stop.Joined
namespace Go.Proofs.YteingcdjoepeiaaDoor.fnExactArcsMeet
open Go.ChangeShapes Go.WideShapes Go.ChangeAt Go.RowKit Go.ChangeMaps
set_option linter.unusedVariables false
theorem two_seen {w W : World} {nA tW : Addr} {x y x' y' : Int} {T : TypeId} (e : Errs w nA tW) (hW : W = (w.alloc (.cells #[.int .i64 x, .int .i64 y] T)).alloc (.cells #[.int .i64 x', .int .i64 y'] T)) :
    Below w.heap.size w W ∧ ∀ w', Below W.heap.size W w' → (w'.cell? ⟨w.heap.size, 0, none⟩ = some (.int .i64 x) ∧ w'.cell? ⟨w.heap.size, 1, none⟩ = some (.int .i64 y) ∧
      w'.cell? ⟨w.heap.size + 1, 0, none⟩ = some (.int .i64 x') ∧ w'.cell? ⟨w.heap.size + 1, 1, none⟩ = some (.int .i64 y')) ∧ Below w.heap.size w w' ∧ Errs w' nA tW := by
  have h1 : Blk (w.alloc (.cells #[.int .i64 x, .int .i64 y] T)) w.heap.size T #[.int .i64 x, .int .i64 y] := Blk.new _ _ _
  have h2 : Blk W w.heap.size T #[.int .i64 x, .int .i64 y] := by rw [hW]; exact h1.alloc _
  have h3 : Blk W (w.heap.size + 1) T #[.int .i64 x', .int .i64 y'] := by
    have := Blk.new (w.alloc (.cells #[.int .i64 x, .int .i64 y] T)) T #[.int .i64 x', .int .i64 y']
    rw [hW]; simpa using this
  have h4 : Below w.heap.size w W := by rw [hW]; exact ((Below.refl _ _).alloc (Nat.le_refl _) _).alloc (by simp) _
  refine ⟨h4, fun w' hb => ?_⟩
  have k2 := h2.below hb h2.lt; have k3 := h3.below hb h3.lt
  exact ⟨⟨k2.cell 0, k2.cell 1, k3.cell 0, k3.cell 1⟩, h4.trans (hb.mono h4.size), (e.below h4).below hb⟩
theorem walk (w : World) (hL : laidMetH Tryd.prog Rows.fnExactArcsMeetRow.laid w) (ax0 ay0 : Int) (wx0 : (Lit.int .i64 ax0).wf = true) (wy0 : (Lit.int .i64 ay0).wf = true) (ax1 ay1 : Int) (wx1 : (Lit.int .i64 ax1).wf = true) (wy1 : (Lit.int .i64 ay1).wf = true) :
    Calls Tryd.prog 6 #[.agg #[.int .i64 ax0, .int .i64 ay0], .agg #[.int .i64 ax1, .int .i64 ay1]] w fun e w' => e = .returned (.bool true) ∧ Below w.heap.size w w' := by
  obtain ⟨v, hv⟩ : ∃ v, meetA ax0 ay0 ax1 ay1 = v := ⟨_, rfl⟩
  have HV := Lib.hid hv; clear hv
  obtain ⟨nA, tW, e0⟩ := errs_of (show laidMet _ _ w from hL)
  obtain ⟨W, hW⟩ : ∃ W, W = (w.alloc (.cells #[.int .i64 ax0, .int .i64 ay0] 38)).alloc (.cells #[.int .i64 ax1, .int .i64 ay1] 38) := ⟨_, rfl⟩
  have hs := (two_seen e0 hW).2
  rw [hW] at hs
  have HC := Lib.hid hs
  have HB0 := Lib.hid (Below.refl W.heap.size W)
  rw [hW] at HB0
  have HD0 := Lib.hid HB0.out.drew
  obtain ⟨k0, k1, k2, k3⟩ := (HC.out _ HB0.out).1
  clear e0 hL hs hW
  go_enter Tryd.func6, Tryd.ntmps6
  go_wp2_with fail
  go_region_held3 (fun w' => w'.cell? ⟨w.heap.size, 0, none⟩ = some (.int .i64 ax0) ∧ w'.cell? ⟨w.heap.size, 1, none⟩ = some (.int .i64 ay0) ∧ w'.cell? ⟨w.heap.size + 1, 0, none⟩ = some (.int .i64 ax1) ∧ w'.cell? ⟨w.heap.size + 1, 1, none⟩ = some (.int .i64 ay1)) (first | assumption | exact ⟨k0, k1, k2, k3⟩ | go_keep) (first
    | (go_at_call_of 19 (Value.agg #[.int .i64 ax0, .int .i64 ay0]); refine (toarc _ ax0 ay0).mono ?_; rintro e wA ⟨rfl, bA⟩; have HA := Lib.hid (HD0.out.trans (bA.mono (by simp))); have kA := (HC.out _ HA.out).1; clear bA)
    | (go_at_call_of 19 (Value.agg #[.int .i64 ax1, .int .i64 ay1]); refine (toarc _ ax1 ay1).mono ?_; rintro e wB ⟨rfl, bB⟩; have HB := Lib.hid (HA.out.trans (bB.mono HA.out.size)); have kB := (HC.out _ HB.out).1; clear bB)
    | (go_at_call 22; refine (smeet _ ax0 ay0 ax1 ay1 v HV.out).mono ?_; rintro e wC ⟨rfl, bC⟩; have HE := Lib.hid (HB.out.trans (bC.mono HB.out.size)); have kC := (HC.out _ HE.out).1; clear bC))
  obtain ⟨j0, j1, j2, j3⟩ := kC
  have HD1 := Lib.hid HE.out.drew
  clear k0 k1 k2 k3 kA kB
  go_wp2_with fail
  go_region_held3 (fun w' => w'.cell? ⟨w.heap.size, 0, none⟩ = some (.int .i64 ax0) ∧ w'.cell? ⟨w.heap.size, 1, none⟩ = some (.int .i64 ay0) ∧ w'.cell? ⟨w.heap.size + 1, 0, none⟩ = some (.int .i64 ax1) ∧ w'.cell? ⟨w.heap.size + 1, 1, none⟩ = some (.int .i64 ay1)) (first | assumption | exact ⟨j0, j1, j2, j3⟩ | go_keep) (first
    | (go_at_call_of 19 (Value.agg #[.int .i64 ax0, .int .i64 ay0]); refine (toarc _ ax0 ay0).mono ?_; rintro e wX ⟨rfl, bX⟩; have HX := Lib.hid (HD1.out.trans (bX.mono HD1.out.size)); have kX := (HC.out _ HX.out).1; clear bX)
    | (go_at_call_of 19 (Value.agg #[.int .i64 ax1, .int .i64 ay1]); refine (toarc _ ax1 ay1).mono ?_; rintro e wY ⟨rfl, bY⟩; have HY := Lib.hid (HX.out.trans (bY.mono HX.out.size)); have kY := (HC.out _ HY.out).1; clear bY)
    | (go_at_call 17; refine (imeet _ nA tW (HC.out _ HY.out).2.2 ax0 ay0 ax1 ay1 v HV.out).mono ?_; rintro e wZ ⟨rfl, bZ⟩; have HZ := Lib.hid (HY.out.trans (bZ.mono HY.out.size)); have kZ := (HC.out _ HZ.out).1; clear bZ))
  cases v
  all_goals
    go_wp2
    go_ret
    exact ⟨rfl, (HC.out _ HZ.out).2.1⟩

theorem door_met (os : Os) (args : Array Value) : laidMetH Tryd.prog Rows.fnExactArcsMeetRow.laid ((World.doorLaid Tryd.prog 400 os).forCall (fun _ _ => 0) ⟨#[], args, []⟩).memory :=
  laidMet_of_run' 8 (by kernel_rfl) (by kernel_rfl)
set_option maxRecDepth 100000 in
theorem lifted (os : Os) (started : os.Started) (H : Type) (enc : TypeId × Value → H) :
    ReturnsInHanded {} Tryd.checked os 6 .any (fun w args => (Rows.fnExactArcsMeetSpec.pre enc Tryd.prog Tryd.f6 [] false w args ∧ laidMetH Tryd.prog Rows.fnExactArcsMeetRow.laid w) ∧ sizedMet enc Tryd.prog Tryd.f6 (OpenSpec.ofChange Rows.fnExactArcsMeetSpec) false w args) (Rows.fnExactArcsMeetSpec.post enc Tryd.prog Tryd.f6 false true false false) := by
  refine returnsInHanded_of_change_and (C := Tryd.checked) (X := fun w _ => laidMetH Tryd.prog Rows.fnExactArcsMeetRow.laid w) (fun _ _ _ hh h => h.of_heap hh) Tryd.own started (by kernel_rfl) Tryd.func6
    (ChangeSpec.witness_shaped (enc := enc) (C := Tryd.checked) (os := os) (X := fun w _ => laidMetH Tryd.prog Rows.fnExactArcsMeetRow.laid w) false (World.doorLaid Tryd.prog 400 os) #[.agg #[.int .i64 0, .int .i64 0], .agg #[.int .i64 0, .int .i64 0]] 8 rfl (World.shaped_of_RefB (by kernel_rfl) (by kernel_rfl)) (by kernel_rfl) (by kernel_rfl) (by kernel_rfl) (door_met os _)) ?_
  intro W base args ds gs before hval0 hW hcnd _ hL _
  have hval : ∀ (j : Nat) t v, Tryd.f6.params[j]? = some t → args[j]? = some v → Value.okWide Tryd.prog W .any base t v := hval0
  have hW' := hW
  obtain ⟨p, q, hA0, hV, rfl, hfz, hnd⟩ := hW
  have hA : DataW.TrodAll enc Tryd.prog W 0 (fun _ => true) true Tryd.f6.params.toList args.toList ds p := hA0
  rw [Tryd.params6] at hA hval
  obtain ⟨v0, vs0, d0, ds0, p0, q0, hargs, rfl, rfl, h0, rr0⟩ := trodAll_cons hA
  obtain ⟨v1, vs1, d1, ds1, p1, q1, rfl, rfl, rfl, h1, rr1⟩ := trodAll_cons rr0
  obtain ⟨rfl, rfl, rfl⟩ := trodAll_nil rr1
  obtain rfl : args = #[v0, v1] := by cases args; simp_all
  have hlen := trodVars_len hV
  obtain ⟨g0, g1, rfl⟩ : ∃ g0 g1, gs = [g0, g1] := by
    rcases gs with _ | ⟨g0, _ | ⟨g1, _ | ⟨x, l⟩⟩⟩ <;> simp [Rows.fnExactArcsMeetSpec] at hlen ⊢
  obtain ⟨ax0, ay0, rfl, wx0, wy0⟩ := open_pair Tryd.underlying38 (by kernel_rfl) (by kernel_rfl) Tryd.underlying3 Tryd.underlying3 (hval 0 38 v0 rfl rfl) h0
  obtain ⟨ax1, ay1, rfl, wx1, wy1⟩ := open_pair Tryd.underlying38 (by kernel_rfl) (by kernel_rfl) Tryd.underlying3 Tryd.underlying3 (hval 1 38 v1 rfl rfl) h1
  clear hA0 hval0
  refine (walk W hL ax0 ay0 wx0 wy0 ax1 ay1 wx1 wy1).mono fun e W' ⟨he, hb⟩ => ⟨_, he, ?_⟩
  exact law_post Tryd.laidOut (by kernel_rfl) (by kernel_rfl) (by kernel_rfl) Tryd.underlying4 rfl rfl rfl hW' hb

theorem over : Rows.fnExactArcsMeetRow.holds Tryd.pinned (OpenSpec.ofChange Rows.fnExactArcsMeetSpec) :=
  OpenClaim.holds_of_wide 6 Tryd.f6 rfl rfl rfl rfl rfl rfl rfl ⟨rfl, rfl, rfl, rfl, rfl⟩ rfl rfl rfl rfl rfl (by kernel_rfl) Tryd.func6 (by kernel_rfl)
    (of_decide_eq_true (by kernel_rfl)) (by unfold Func.isWrapper; first | (rw [if_pos (by decide +kernel)]; kernel_rfl) | (rw [if_neg (by decide +kernel)]; exact ⟨rfl, rfl⟩))
    (fun os started H enc _ => lifted os started H enc)

theorem said : Rows.FnExactArcsMeetSaid :=
  over
theorem plain (f : FuncId) (fn : Func) (hf : Tryd.pinned.checked.prog.funcNamed "loop.example/g00599/laws.FnExactArcsMeet" = some f) (hfn : Tryd.pinned.checked.prog.funcs[f]? = some fn) :
    true = Tryd.pinned.checked.prog.looks [] ∧ ∀ (j : Nat) t, fn.params[j]? = some t → Tryd.pinned.checked.prog.wantsStandIn t = false := by
  obtain rfl : f = 6 := Option.some.inj ((show Tryd.prog.funcNamed "loop.example/g00599/laws.FnExactArcsMeet" = some 6 by kernel_rfl).symm.trans hf) |>.symm
  obtain rfl : fn = Tryd.f6 := (Option.some.inj (Tryd.func6.symm.trans hfn)).symm
  refine ⟨by kernel_rfl, fun j t ht => ?_⟩
  rw [Tryd.params6] at ht
  have hm : t ∈ [38, 38] := by simpa using Array.mem_of_getElem? ht
  have hall : ([38, 38].all fun u => !Tryd.prog.wantsStandIn u) = true := by kernel_rfl
  exact (show Tryd.prog.wantsStandIn t = false by simpa using List.all_eq_true.1 hall t hm)
/-- THE CARD -/
theorem proved : Rows.FnExactArcsMeetCardSaid :=
  Claim7.holds_tied_plain_at .later [] _ _ _ _ said (fun _ h => by cases h) (by kernel_rfl) (fun _ h => by cases h) fnExactArcsMeet_row_tie rfl ⟨rfl, rfl⟩ (by kernel_rfl) rfl plain (by kernel_rfl)
#print axioms proved
end Go.Proofs.YteingcdjoepeiaaDoor.fnExactArcsMeet
