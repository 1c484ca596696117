/- For all arguments, the program's RoundOf answers as the model's (law FnExactRoundOf). -/
import Derived.Test.YtjpjigkamkhaoaaShellSat
import Derived.Test.YtjpjigkamkhaoaaOrbitFirst
namespace Go.Proofs.Ytjpjigkamkhaoaa.fnExactRoundOf
open Go.ChangeShapes Go.WideShapes Go.ChangeAt Go.RowKit Go.ChangeMaps
set_option linter.unusedVariables false
theorem walk (w : World) (a0_0 a0_1 a0_2 a0_3 : Int) (w0_0 : (Lit.int .i64 a0_0).wf = true) (w0_1 : (Lit.int .i64 a0_1).wf = true) (w0_2 : (Lit.int .i64 a0_2).wf = true) (w0_3 : (Lit.int .i64 a0_3).wf = true) :
    Calls Try.prog 4 #[.agg #[.int .i64 a0_0, .int .i64 a0_1, .int .i64 a0_2, .int .i64 a0_3]] w fun e w' => e = .returned (.bool true) ∧ Below w.heap.size w w' := by
  have T0 := Lib.hid ((Below.refl w.heap.size w).alloc (Nat.le_refl _) (.cells #[.int .i64 a0_0, .int .i64 a0_1, .int .i64 a0_2, .int .i64 a0_3] 23))
  have Z0 : Hid (Blk (w.alloc (.cells #[.int .i64 a0_0, .int .i64 a0_1, .int .i64 a0_2, .int .i64 a0_3] 23)) w.heap.size 23 #[.int .i64 a0_0, .int .i64 a0_1, .int .i64 a0_2, .int .i64 a0_3]) := Lib.hid (Blk.new _ _ _)
  have S0 : Hid (w.heap.size + 1 = (w.alloc (.cells #[.int .i64 a0_0, .int .i64 a0_1, .int .i64 a0_2, .int .i64 a0_3] 23)).heap.size) := Lib.hid (by simp)
  go_enter Try.func4, Try.ntmps4
  go_wp2_with fail
  refine (tosat _ a0_0 a0_1 a0_2 a0_3).mono ?_
  rintro e w1 ⟨rfl, b1⟩
  have T1 := Lib.hid (T0.out.trans (b1.mono T0.out.size))
  have Z1 := Lib.hid (Z0.out.below b1 (by rw [← S0.out]; omega))
  clear b1
  go_wp2_with fail
  refine (sround _ _ _ _ _).mono ?_
  rintro e w2 ⟨⟨r, hr, rfl⟩, b2⟩
  have HR := Lib.hid hr
  have T2 := Lib.hid (T1.out.trans (b2.mono T1.out.size))
  have z2 := Z1.out.below b2 Z1.out.lt
  have d0 : w2.cell? ⟨w.heap.size, 0, none⟩ = some (.int .i64 a0_0) := z2.cell 0
  have d1 : w2.cell? ⟨w.heap.size, 1, none⟩ = some (.int .i64 a0_1) := z2.cell 1
  have d2 : w2.cell? ⟨w.heap.size, 2, none⟩ = some (.int .i64 a0_2) := z2.cell 2
  have d3 : w2.cell? ⟨w.heap.size, 3, none⟩ = some (.int .i64 a0_3) := z2.cell 3
  clear b2 z2 hr
  go_wp2_with fail
  refine (tosat _ a0_0 a0_1 a0_2 a0_3).mono ?_
  rintro e w3 ⟨rfl, b3⟩
  have T3 := Lib.hid (T2.out.trans (b3.mono T2.out.size))
  clear b3 d0 d1 d2 d3
  go_wp2_with fail
  refine (iround _ _ _ _ _).mono ?_
  rintro e w4 ⟨⟨r', hr', rfl⟩, b4⟩
  have T4 := Lib.hid (T3.out.trans (b4.mono T3.out.size))
  obtain rfl : r' = r := IsRound.eq hr' HR.out
  clear b4 hr'
  go_wp2
  go_ret
  exact ⟨rfl, T4.out⟩

set_option maxRecDepth 100000 in
theorem lifted (os : Os) (started : os.Started) (H : Type) (enc : TypeId × Value → H) :
    ReturnsInHanded {} Try.checked os 4 .any (Rows.fnExactRoundOfSpec.pre6 enc Try.prog Try.f4 Rows.fnExactRoundOfRow.domain false) (Rows.fnExactRoundOfSpec.post enc Try.prog Try.f4 false true false false) := by
  refine returnsInHanded_of_change (C := Try.checked) Try.own started (by kernel_rfl) Try.func4
    (ChangeSpec.witness6 (enc := enc) (C := Try.checked) false ⟨#[], #[.agg #[.int .i64 0, .int .i64 0, .int .i64 0, .int .i64 0]], []⟩ 8 (by kernel_rfl) (by kernel_rfl) (by kernel_rfl) (by kernel_rfl)) ?_
  intro W base args ds gs before hval0 hW hcnd _
  have hval : ∀ (j : Nat) t v, Try.f4.params[j]? = some t → args[j]? = some v → Value.okWide Try.prog W .any base t v := hval0
  have hW' := hW
  obtain ⟨p, q, hA0, hV, rfl, hfz, hnd⟩ := hW
  have hA : DataW.TrodAll enc Try.prog W 0 (fun _ => true) true Try.f4.params.toList args.toList ds p := hA0
  rw [Try.params4] at hA hval
  obtain ⟨v0, vs0, d0, ds0, p0, q0, hargs, rfl, rfl, h0, rr0⟩ := trodAll_cons hA
  obtain ⟨rfl, rfl, rfl⟩ := trodAll_nil rr0
  obtain rfl : args = #[v0] := by cases args; simp_all
  obtain ⟨rfl, rfl⟩ := trodVars_none hV
  obtain ⟨a0_0, a0_1, a0_2, a0_3, rfl, w0_0, w0_1, w0_2, w0_3⟩ := open_four Try.underlying23 (by kernel_rfl) (by kernel_rfl) Try.underlying3 Try.underlying3 Try.underlying3 Try.underlying3 (hval 0 23 v0 rfl rfl) h0
  clear hA0 hval0
  refine (walk W a0_0 a0_1 a0_2 a0_3 w0_0 w0_1 w0_2 w0_3).mono fun e W' ⟨he, hb⟩ => ⟨_, he, ?_⟩
  exact law_post Try.laidOut (by kernel_rfl) (by kernel_rfl) (by kernel_rfl) Try.underlying4 rfl rfl rfl hW' hb

theorem over : Rows.fnExactRoundOfRow.holds Try.pinned (OpenSpec.ofChange Rows.fnExactRoundOfSpec) :=
  OpenClaim.holds_of_wide 4 Try.f4 rfl rfl rfl rfl rfl rfl rfl ⟨rfl, rfl, rfl, rfl, rfl⟩ rfl rfl rfl rfl rfl (by kernel_rfl) Try.func4 (by kernel_rfl)
    (of_decide_eq_true (by kernel_rfl)) (by unfold Func.isWrapper; first | (rw [if_pos (by decide +kernel)]; kernel_rfl) | (rw [if_neg (by decide +kernel)]; exact ⟨rfl, rfl⟩))
    (fun os started H enc _ => lifted os started H enc)

/-- THE STATEMENT -/
theorem proved : Rows.FnExactRoundOfSaid :=
  over
#print axioms proved
end Go.Proofs.Ytjpjigkamkhaoaa.fnExactRoundOf
