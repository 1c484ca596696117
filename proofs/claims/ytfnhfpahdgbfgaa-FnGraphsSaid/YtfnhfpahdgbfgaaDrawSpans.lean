/- The contracts of chapter 4's draws: lists of spans. -/
import Derived.Test.YtfnhfpahdgbfgaaDrawInts
import Derived.Test.YtfnhfpahdgbfgaaDrawOwn
import Derived.Test.YtfnhfpahdgbfgaaSpanPut
namespace Go.Proofs.Ytfnhfpahdgbfgaa
open Go.ChangeShapes Go.WideShapes Go.ChangeAt Go.RowKit
set_option linter.unusedVariables false
set_option maxRecDepth 100000 in
theorem draw4 (w : World) (p : Nat) (A : Option Addr) (cap : Nat) (xs : List Value) (hc : Cur w p A cap xs) :
    Calls Try.prog 68 #[.pointer (some ⟨p, 0, none⟩)] w fun e w' => SomeI64 e ∧ Cur w' p A cap xs ∧ Turn p w w' := by
  have hr := Lib.hid (i64_all (l := [-1, 0, 1000, 1001, 9223372036854775807, -9223372036854775808]) (by decide))
  go_enter Try.func68, Try.ntmps68
  go_wp2_with fail
  refine (donce _ _ _ _ _ _ hc (by omega)).mono ?_
  rintro e w1 ⟨⟨b, rfl⟩, hc1, ht1⟩
  cases b
  · go_wp2_with fail
    refine (dbelow _ _ _ _ _ _ hc1 (by omega)).mono ?_
    rintro e w2 ⟨⟨x, hx, rfl⟩, hc2, ht2⟩
    have hx4 := hx.1 (by omega); clear hx
    have HF : Hid (SomeI64 (.returned (.int .i64 (x : Int)))) := Lib.hid ⟨x, by omega, rfl⟩
    clear hx4
    go_wp2
    go_ret
    exact ⟨HF.out, hc2, ht1.trans ht2⟩
  · go_wp2_with fail
    refine (dlist _ _ _ _ _ [-1, 0, 1000, 1001, 9223372036854775807, -9223372036854775808] _ _ _ rfl rfl hc1 (by decide) (by decide) hr.out).mono ?_
    rintro e w2 ⟨⟨z, hz, rfl⟩, hc2, ht2⟩
    have hb := Lib.hid (hr.out z hz)
    clear hz
    go_wp2
    go_ret
    exact ⟨⟨z, hb.out, rfl⟩, hc2, ht1.trans ht2⟩
end Go.Proofs.Ytfnhfpahdgbfgaa
