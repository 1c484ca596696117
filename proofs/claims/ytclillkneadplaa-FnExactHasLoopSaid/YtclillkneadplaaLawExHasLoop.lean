/- For all arguments, the program's HasLoop answers as the model's and writes into no argument (law FnExactHasLoop). -/
import Derived.Test.YtclillkneadplaaShell
import Derived.Test.YtclillkneadplaaCoreHasLoop
namespace Go.Proofs.Ytclillkneadplaa.fnExactHasLoop
open Go.ChangeShapes Go.WideShapes Go.ChangeAt Go.RowKit Go.ChangeMaps
set_option linter.unusedVariables false
theorem walk (w : World) (A0 : Option Addr) (a0 : List Int) (c0 : Nat) (n0 : a0.length ≤ c0) (m0 : c0 ≤ 9223372036854775807) (w0 : ∀ z ∈ a0, (Lit.int .i64 z).wf = true) (r0 : Reads w w.heap.size A0 (a0.map (Value.int .i64))) (k0 : A0 = none → c0 = 0) :
    Calls Try.prog 7 #[.slice A0 a0.length c0] w fun e w' => e = .returned (.bool true) ∧ Below w.heap.size w w' := by
  by_cases hbig : a0.length ≤ 1048576
  · have HB0 := hbig
    exact coreHasLoop w A0 a0.length c0 a0 ⟨by rw [iv_len, Nat.mul_one], r0, n0, m0, k0⟩ HB0 (i64_of_wf w0)
  · clear r0 w0 k0
    go_enter Try.func7, Try.ntmps7
    go_wp2
    go_ret
    exact ⟨rfl, Below.refl _ _⟩

set_option maxRecDepth 100000 in
theorem lifted (os : Os) (started : os.Started) (H : Type) (enc : TypeId × Value → H) :
    ReturnsInHanded {} Try.checked os 7 .any (Rows.fnExactHasLoopSpec.pre6 enc Try.prog Try.f7 Rows.fnExactHasLoopRow.domain false) (Rows.fnExactHasLoopSpec.post enc Try.prog Try.f7 false true false false) := by
  refine returnsInHanded_of_change (C := Try.checked) Try.own started (by kernel_rfl) Try.func7
    (ChangeSpec.witness6 (enc := enc) (C := Try.checked) false ⟨#[], #[.slice none 0 0], []⟩ 8 (by kernel_rfl) (by kernel_rfl) (by kernel_rfl) (by kernel_rfl)) ?_
  intro W base args ds gs before hval0 hW hcnd _
  have hval : ∀ (j : Nat) t v, Try.f7.params[j]? = some t → args[j]? = some v → Value.okWide Try.prog W .any base t v := hval0
  have hW' := hW
  obtain ⟨p, q, hA0, hV, rfl, hfz, hnd⟩ := hW
  have hA : DataW.TrodAll enc Try.prog W 0 (fun _ => true) true Try.f7.params.toList args.toList ds p := hA0
  rw [Try.params7] at hA hval
  obtain ⟨v0, vs0, d0, ds0, p0, q0, hargs, rfl, rfl, h0, rr0⟩ := trodAll_cons hA
  obtain ⟨rfl, rfl, rfl⟩ := trodAll_nil rr0
  obtain rfl : args = #[v0] := by cases args; simp_all
  obtain ⟨rfl, rfl⟩ := trodVars_none hV
  obtain ⟨A0, a0, c0, rfl, n0, m0, w0, r0, k0⟩ := open_row2 Try.underlying27 Try.underlying3 (by kernel_rfl) (hval 0 27 v0 rfl rfl) h0
  clear hA0 hval0
  refine (walk W A0 a0 c0 n0 m0 w0 r0 k0).mono fun e W' ⟨he, hb⟩ => ⟨_, he, ?_⟩
  exact law_post Try.laidOut (by kernel_rfl) (by kernel_rfl) (by kernel_rfl) Try.underlying4 rfl rfl rfl hW' hb

theorem over : Rows.fnExactHasLoopRow.holds Try.pinned (OpenSpec.ofChange Rows.fnExactHasLoopSpec) :=
  OpenClaim.holds_of_wide 7 Try.f7 rfl rfl rfl rfl rfl rfl rfl ⟨rfl, rfl, rfl, rfl, rfl⟩ rfl rfl rfl rfl rfl (by kernel_rfl) Try.func7 (by kernel_rfl)
    (of_decide_eq_true (by kernel_rfl)) (by unfold Func.isWrapper; first | (rw [if_pos (by decide +kernel)]; kernel_rfl) | (rw [if_neg (by decide +kernel)]; exact ⟨rfl, rfl⟩))
    (fun os started H enc _ => lifted os started H enc)

/-- THE STATEMENT -/
theorem proved : Rows.FnExactHasLoopSaid :=
  over
#print axioms proved
end Go.Proofs.Ytclillkneadplaa.fnExactHasLoop
