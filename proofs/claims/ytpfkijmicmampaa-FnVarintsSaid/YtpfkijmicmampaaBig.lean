/- The laws' test of a code's length, and their byte of a code. -/
import Derived.Test.YtpfkijmicmampaaProg
import Derived.Test.YtpfkijmicmampaaSlices
import Derived.WalkKit
import Derived.ProofKit
import Derived.OpenShut
import Derived.Handy
import Derived.Lib.Hide
namespace Go.Proofs.Ytpfkijmicmampaa
open Go.ChangeShapes Go.WideShapes Go.ChangeAt Go.RowKit
set_option linter.unusedVariables false
theorem big_no (w : World) (A : Option Addr) (c n : Nat) (h : n ≤ 1048576) (hm : c ≤ 9223372036854775807) (hn : n ≤ c) :
    Calls Try.prog 13 #[.slice A n c] w fun e w' => e = .returned (.bool false) ∧ w = w' := by
  go_enter Try.func13, Try.ntmps13
  go_wp2
  go_ret
  exact ⟨by simp; omega, rfl⟩
set_option maxRecDepth 100000 in
theorem at_any (w : World) (D : Nat) (A : Option Addr) (n c : Nat) (l : List Nat) (h : Sl w D 1 A n c (bv l)) (hn : n ≤ 1048576) (hb : ∀ b ∈ l, b < 256) (i : Int) (h0 : 0 ≤ i) (h1 : i ≤ 1000000000) :
    Calls Try.prog 23 #[.slice A n c, .int .i64 i] w fun e w' => (∃ x : Nat, x < 256 ∧ e = .returned (.int .i64 x)) ∧ w = w' := by
  obtain ⟨i, rfl⟩ := Int.eq_ofNat_of_zero_le h0
  have hcap := h.cap; have hcapm := h.capm
  by_cases hlt : i < n
  · obtain ⟨ad, hx, rfl, had, hcx⟩ := h.at_ hlt
    rw [bv_get l i hx] at hcx
    have hbb := hb (l[i]'(by simpa [bv] using hx)) (List.getElem_mem _)
    obtain ⟨x, hx2⟩ : ∃ x, x = l[i]'(by simpa [bv] using hx) := ⟨_, rfl⟩
    rw [← hx2] at hcx hbb
    clear hx2
    go_enter Try.func23, Try.ntmps23
    go_wp2
    go_ret
    exact ⟨⟨x, hbb, rfl⟩, rfl⟩
  · have hle : decide ((i : Int) < (n : Int)) = false := by simp; omega
    obtain ⟨x, hx⟩ : ∃ x : Nat, ((i : Int) * 31 + (n : Int) * 7) % 256 = (x : Int) := ⟨(((i : Int) * 31 + (n : Int) * 7) % 256).toNat, by omega⟩
    have hx2 : x < 256 := by omega
    have Hx := Lib.hid hx; clear hx
    go_enter Try.func23, Try.ntmps23
    go_wp2
    go_ret
    exact ⟨⟨x, hx2, by rw [← Hx.out]; rfl⟩, rfl⟩
end Go.Proofs.Ytpfkijmicmampaa
