/- For all arguments, the program's SameLinks answers as the model's and writes into no argument (law FnExactSameLinks). -/
import Derived.Test.YtfnhfpahdgbfgaaShellSpan
import Derived.Test.YtfnhfpahdgbfgaaCoreSameLinks
namespace Go.Proofs.Ytfnhfpahdgbfgaa.fnExactSameLinks
open Go.ChangeShapes Go.WideShapes Go.ChangeAt Go.RowKit Go.ChangeMaps
set_option linter.unusedVariables false
theorem walk (w : World) (A0 : Option Addr) (a0 : List (Int × Int)) (c0 : Nat) (n0 : a0.length ≤ c0) (m0 : c0 ≤ 9223372036854775807) (w0 : Rng a0) (r0 : Reads w w.heap.size A0 (sv a0)) (k0 : A0 = none → c0 = 0) (A1 : Option Addr) (a1 : List (Int × Int)) (c1 : Nat) (n1 : a1.length ≤ c1) (m1 : c1 ≤ 9223372036854775807) (w1 : Rng a1) (r1 : Reads w w.heap.size A1 (sv a1)) (k1 : A1 = none → c1 = 0) :
    Calls Try.prog 5 #[.slice A0 a0.length c0, .slice A1 a1.length c1] w fun e w' => e = .returned (.bool true) ∧ Below w.heap.size w w' := by
  by_cases hbig : a0.length + a1.length ≤ 1048576
  · exact coreSameLinks w A0 a0.length c0 a0 ⟨by rw [sv_len], r0, n0, m0, k0⟩ (by omega) w0 A1 a1.length c1 a1 ⟨by rw [sv_len], r1, n1, m1, k1⟩ (by omega) w1 hbig
  · clear r0 w0 k0 r1 w1 k1
    go_enter Try.func5, Try.ntmps5
    go_wp2_with fail
    refine (szlinks _ A0 a0.length c0 (1048576) (by omega) (by omega) (by omega)).mono ?_
    rintro e wz0 ⟨rfl, rfl⟩
    by_cases hb0 : (1048576 : Int) < (a0.length : Int)
    · rw [if_pos hb0]
      go_wp2
      go_ret
      exact ⟨rfl, Below.refl _ _⟩
    · rw [if_neg hb0]
      have hpos0 : ¬ (1048576 - (a0.length : Int) < 0) := by omega
      go_wp2_with fail
      refine (szlinks _ A1 a1.length c1 (1048576 - (a0.length : Int)) (by omega) (by omega) (by omega)).mono ?_
      rintro e wz1 ⟨rfl, rfl⟩
      rw [if_pos (show ((1048576 - (a0.length : Int) : Int) < (a1.length : Int)) by omega)]
      go_wp2
      go_ret
      exact ⟨rfl, Below.refl _ _⟩

set_option maxRecDepth 100000 in
theorem lifted (os : Os) (started : os.Started) (H : Type) (enc : TypeId × Value → H) :
    ReturnsInHanded {} Try.checked os 5 .any (Rows.fnExactSameLinksSpec.pre6 enc Try.prog Try.f5 Rows.fnExactSameLinksRow.domain false) (Rows.fnExactSameLinksSpec.post enc Try.prog Try.f5 false true false false) := by
  refine returnsInHanded_of_change (C := Try.checked) Try.own started (by kernel_rfl) Try.func5
    (ChangeSpec.witness6 (enc := enc) (C := Try.checked) false ⟨#[], #[.slice none 0 0, .slice none 0 0], []⟩ 8 (by kernel_rfl) (by kernel_rfl) (by kernel_rfl) (by kernel_rfl)) ?_
  intro W base args ds gs before hval0 hW hcnd _
  have hval : ∀ (j : Nat) t v, Try.f5.params[j]? = some t → args[j]? = some v → Value.okWide Try.prog W .any base t v := hval0
  have hW' := hW
  obtain ⟨p, q, hA0, hV, rfl, hfz, hnd⟩ := hW
  have hA : DataW.TrodAll enc Try.prog W 0 (fun _ => true) true Try.f5.params.toList args.toList ds p := hA0
  rw [Try.params5] at hA hval
  obtain ⟨v0, vs0, d0, ds0, p0, q0, hargs, rfl, rfl, h0, rr0⟩ := trodAll_cons hA
  obtain ⟨v1, vs1, d1, ds1, p1, q1, rfl, rfl, rfl, h1, rr1⟩ := trodAll_cons rr0
  obtain ⟨rfl, rfl, rfl⟩ := trodAll_nil rr1
  obtain rfl : args = #[v0, v1] := by cases args; simp_all
  obtain ⟨rfl, rfl⟩ := trodVars_none hV
  obtain ⟨A0, a0, c0, rfl, n0, m0, w0, r0, k0⟩ := open_pairs Try.underlying47 Try.underlying76 (by kernel_rfl) (by kernel_rfl) Try.underlying3 Try.underlying3 (hval 0 47 v0 rfl rfl) h0
  obtain ⟨A1, a1, c1, rfl, n1, m1, w1, r1, k1⟩ := open_pairs Try.underlying47 Try.underlying76 (by kernel_rfl) (by kernel_rfl) Try.underlying3 Try.underlying3 (hval 1 47 v1 rfl rfl) h1
  clear hA0 hval0
  refine (walk W A0 a0 c0 n0 m0 w0 r0 k0 A1 a1 c1 n1 m1 w1 r1 k1).mono fun e W' ⟨he, hb⟩ => ⟨_, he, ?_⟩
  exact law_post Try.laidOut (by kernel_rfl) (by kernel_rfl) (by kernel_rfl) Try.underlying4 rfl rfl rfl hW' hb

theorem over : Rows.fnExactSameLinksRow.holds Try.pinned (OpenSpec.ofChange Rows.fnExactSameLinksSpec) :=
  OpenClaim.holds_of_wide 5 Try.f5 rfl rfl rfl rfl rfl rfl rfl ⟨rfl, rfl, rfl, rfl, rfl⟩ rfl rfl rfl rfl rfl (by kernel_rfl) Try.func5 (by kernel_rfl)
    (of_decide_eq_true (by kernel_rfl)) (by unfold Func.isWrapper; first | (rw [if_pos (by decide +kernel)]; kernel_rfl) | (rw [if_neg (by decide +kernel)]; exact ⟨rfl, rfl⟩))
    (fun os started H enc _ => lifted os started H enc)

/-- THE STATEMENT -/
theorem proved : Rows.FnExactSameLinksSaid :=
  over
#print axioms proved
end Go.Proofs.Ytfnhfpahdgbfgaa.fnExactSameLinks
