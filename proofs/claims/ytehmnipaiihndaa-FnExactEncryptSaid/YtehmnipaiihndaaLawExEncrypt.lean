/- For all arguments, the program's Encrypt answers as the model's, writes into no argument and owns its memory (law FnExactEncrypt). -/
import Derived.Test.YtehmnipaiihndaaShell
import Derived.Test.YtehmnipaiihndaaCoreEncrypt
namespace Go.Proofs.Ytehmnipaiihndaa.fnExactEncrypt
open Go.ChangeShapes Go.WideShapes Go.ChangeAt Go.RowKit Go.ChangeMaps
set_option linter.unusedVariables false
theorem walk (w : World) (a0 : Int) (w0 : (Lit.int .i64 a0).wf = true) (A1 : Option Addr) (a1 : List Int) (c1 : Nat) (n1 : a1.length ≤ c1) (m1 : c1 ≤ 9223372036854775807) (w1 : ∀ z ∈ a1, (Lit.int .u8 z).wf = true) (r1 : Reads w w.heap.size A1 (a1.map (Value.int .u8))) (k1 : A1 = none → c1 = 0) :
    Calls Try.prog 9 #[.int .i64 a0, .slice A1 a1.length c1] w fun e w' => e = .returned (.bool true) ∧ Below w.heap.size w w' := by
  by_cases hbig : a1.length ≤ 1048576
  · obtain ⟨p0, q0⟩ := bounds_i64 w0
    obtain ⟨l1, hl1, hn1, hb1⟩ := bytes_bv w1
    rw [hl1] at r1
    have HB1 := hbig
    exact coreEncrypt w a0 p0 q0 A1 a1.length c1 l1 ⟨by rw [bv_len, hn1, Nat.mul_one], r1, n1, m1, k1⟩ HB1 hb1
  · clear r1 w1 k1
    go_enter Try.func9, Try.ntmps9
    go_wp2
    go_ret
    exact ⟨rfl, Below.refl _ _⟩

set_option maxRecDepth 100000 in
theorem lifted (os : Os) (started : os.Started) (H : Type) (enc : TypeId × Value → H) :
    ReturnsInHanded {} Try.checked os 9 .any (Rows.fnExactEncryptSpec.pre6 enc Try.prog Try.f9 Rows.fnExactEncryptRow.domain false) (Rows.fnExactEncryptSpec.post enc Try.prog Try.f9 false true false false) := by
  refine returnsInHanded_of_change (C := Try.checked) Try.own started (by kernel_rfl) Try.func9
    (ChangeSpec.witness6 (enc := enc) (C := Try.checked) false ⟨#[], #[.int .i64 0, .slice none 0 0], []⟩ 8 (by kernel_rfl) (by kernel_rfl) (by kernel_rfl) (by kernel_rfl)) ?_
  intro W base args ds gs before hval0 hW hcnd _
  have hval : ∀ (j : Nat) t v, Try.f9.params[j]? = some t → args[j]? = some v → Value.okWide Try.prog W .any base t v := hval0
  have hW' := hW
  obtain ⟨p, q, hA0, hV, rfl, hfz, hnd⟩ := hW
  have hA : DataW.TrodAll enc Try.prog W 0 (fun _ => true) true Try.f9.params.toList args.toList ds p := hA0
  rw [Try.params9] at hA hval
  obtain ⟨v0, vs0, d0, ds0, p0, q0, hargs, rfl, rfl, h0, rr0⟩ := trodAll_cons hA
  obtain ⟨v1, vs1, d1, ds1, p1, q1, rfl, rfl, rfl, h1, rr1⟩ := trodAll_cons rr0
  obtain ⟨rfl, rfl, rfl⟩ := trodAll_nil rr1
  obtain rfl : args = #[v0, v1] := by cases args; simp_all
  obtain ⟨rfl, rfl⟩ := trodVars_none hV
  obtain ⟨a0, rfl, rfl, rfl, w0⟩ := open_int Try.underlying3 (hval 0 3 v0 rfl rfl) h0
  obtain ⟨A1, a1, c1, rfl, n1, m1, w1, r1, k1⟩ := open_row2 Try.underlying22 Try.underlying5 (by kernel_rfl) (hval 1 22 v1 rfl rfl) h1
  clear hA0 hval0
  refine (walk W a0 w0 A1 a1 c1 n1 m1 w1 r1 k1).mono fun e W' ⟨he, hb⟩ => ⟨_, he, ?_⟩
  exact law_post Try.laidOut (by kernel_rfl) (by kernel_rfl) (by kernel_rfl) Try.underlying4 rfl rfl rfl hW' hb

theorem over : Rows.fnExactEncryptRow.holds Try.pinned (OpenSpec.ofChange Rows.fnExactEncryptSpec) :=
  OpenClaim.holds_of_wide 9 Try.f9 rfl rfl rfl rfl rfl rfl rfl ⟨rfl, rfl, rfl, rfl, rfl⟩ rfl rfl rfl rfl rfl (by kernel_rfl) Try.func9 (by kernel_rfl)
    (of_decide_eq_true (by kernel_rfl)) (by unfold Func.isWrapper; first | (rw [if_pos (by decide +kernel)]; kernel_rfl) | (rw [if_neg (by decide +kernel)]; exact ⟨rfl, rfl⟩))
    (fun os started H enc _ => lifted os started H enc)

/-- THE STATEMENT -/
theorem proved : Rows.FnExactEncryptSaid :=
  over
#print axioms proved
end Go.Proofs.Ytehmnipaiihndaa.fnExactEncrypt
