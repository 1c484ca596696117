/- For all arguments, the program's UsesNode answers as the model's and writes into no argument (law FnExactUsesNode). -/
import Derived.Test.YtjobjjmeneddnaaTableCopies
import Derived.Test.YtjobjjmeneddnaaCoreUsesNode
namespace Go.Proofs.Ytjobjjmeneddnaa.fnExactUsesNode
open Go.ChangeShapes Go.WideShapes Go.ChangeAt Go.RowKit Go.ChangeMaps
set_option linter.unusedVariables false
theorem walk (w : World) (S0 : Int) (Ad0 : Option Addr) (nd0 cd0 : Nat) (An0 : Option Addr) (nn0 cn0 : Nat) (ld0 ln0 : List Int) (htab0 : InTab w w.heap.size Ad0 nd0 cd0 An0 nn0 cn0 ld0 ln0) (oktab0 : OkTab S0 ld0 ln0) (a1 : Int) (w1 : (Lit.int .i64 a1).wf = true) :
    Calls Try.prog 9 #[.agg #[.int .i64 S0, .slice Ad0 nd0 cd0, .slice An0 nn0 cn0], .int .i64 a1] w fun e w' => e = .returned (.bool true) ∧ Below w.heap.size w w' := by
  by_cases hbig : nd0 + nn0 ≤ 1048576
  · obtain ⟨p1, q1⟩ := bounds_i64 w1
    exact coreUsesNode w S0 Ad0 nd0 cd0 An0 nn0 cn0 ld0 ln0 htab0 oktab0 a1 p1 q1 hbig
  · obtain ⟨p1, q1⟩ := bounds_i64 w1
    exact bigUsesNode w S0 Ad0 nd0 cd0 An0 nn0 cn0 ld0 ln0 htab0 oktab0 a1 p1 q1 hbig

set_option maxRecDepth 100000 in
theorem lifted (os : Os) (started : os.Started) (H : Type) (enc : TypeId × Value → H) :
    ReturnsInHanded {} Try.checked os 9 .any (Rows.fnExactUsesNodeSpec.pre6 enc Try.prog Try.f9 Rows.fnExactUsesNodeRow.domain false) (Rows.fnExactUsesNodeSpec.post enc Try.prog Try.f9 false true false false) := by
  refine returnsInHanded_of_change (C := Try.checked) Try.own started (by kernel_rfl) Try.func9
    (ChangeSpec.witness6 (enc := enc) (C := Try.checked) false ⟨#[], #[.agg #[.int .i64 0, .slice none 0 0, .slice none 0 0], .int .i64 0], []⟩ 8 (by kernel_rfl) (by kernel_rfl) (by kernel_rfl) (by kernel_rfl)) ?_
  intro W base args ds gs before hval0 hW hcnd _
  have hval : ∀ (j : Nat) t v, Try.f9.params[j]? = some t → args[j]? = some v → Value.okWide Try.prog W .any base t v := hval0
  have hW' := hW
  obtain ⟨p, q, hA0, hV, rfl, hfz, hnd⟩ := hW
  have hA : DataW.TrodAll enc Try.prog W 0 (fun _ => true) true Try.f9.params.toList args.toList ds p := hA0
  rw [Try.params9] at hA hval
  obtain ⟨v0, vs0, d0, ds0, p0, q0, hargs, rfl, rfl, h0, rr0⟩ := trodAll_cons hA
  obtain ⟨v1, vs1, d1, ds1, p1, q1, rfl, rfl, rfl, h1, rr1⟩ := trodAll_cons rr0
  obtain ⟨rfl, rfl, rfl⟩ := trodAll_nil rr1
  obtain rfl : args = #[v0, v1] := by cases args; simp_all
  obtain ⟨rfl, rfl⟩ := trodVars_none hV
  obtain ⟨S0, Ad0, nd0, cd0, An0, nn0, cn0, ld0, ln0, rfl, htab0, oktab0⟩ := open_table (hval 0 47 v0 rfl rfl) h0
  obtain ⟨a1, rfl, rfl, rfl, w1⟩ := open_int Try.underlying3 (hval 1 3 v1 rfl rfl) h1
  clear hA0 hval0
  refine (walk W S0 Ad0 nd0 cd0 An0 nn0 cn0 ld0 ln0 htab0 oktab0 a1 w1).mono fun e W' ⟨he, hb⟩ => ⟨_, he, ?_⟩
  exact law_post Try.laidOut (by kernel_rfl) (by kernel_rfl) (by kernel_rfl) Try.underlying4 rfl rfl rfl hW' hb

theorem over : Rows.fnExactUsesNodeRow.holds Try.pinned (OpenSpec.ofChange Rows.fnExactUsesNodeSpec) :=
  OpenClaim.holds_of_wide 9 Try.f9 rfl rfl rfl rfl rfl rfl rfl ⟨rfl, rfl, rfl, rfl, rfl⟩ rfl rfl rfl rfl rfl (by kernel_rfl) Try.func9 (by kernel_rfl)
    (of_decide_eq_true (by kernel_rfl)) (by unfold Func.isWrapper; first | (rw [if_pos (by decide +kernel)]; kernel_rfl) | (rw [if_neg (by decide +kernel)]; exact ⟨rfl, rfl⟩))
    (fun os started H enc _ => lifted os started H enc)

/-- THE STATEMENT -/
theorem proved : Rows.FnExactUsesNodeSaid :=
  over
#print axioms proved
end Go.Proofs.Ytjobjjmeneddnaa.fnExactUsesNode
