/- The laws' test of a code's length, and their byte of a code. -/
import Derived.Test.YtehmnipaiihndaaProg
import Derived.Test.YtehmnipaiihndaaSlices
import Derived.WalkKit
import Derived.ProofKit
import Derived.OpenShut
import Derived.Handy
import Derived.Lib.Hide
namespace Go.Proofs.Ytehmnipaiihndaa
open Go.ChangeShapes Go.WideShapes Go.ChangeAt Go.RowKit
set_option linter.unusedVariables false
theorem big_no (w : World) (A : Option Addr) (c n : Nat) (h : n ≤ 1048576) (hm : c ≤ 9223372036854775807) (hn : n ≤ c) :
    Calls Try.prog 12 #[.slice A n c] w fun e w' => e = .returned (.bool false) ∧ w = w' := by
  go_enter Try.func12, Try.ntmps12
  go_wp2
  go_ret
  exact ⟨by simp; omega, rfl⟩
/-- the byte that a code has at i, or what stands for it -/
def atv (l : List Nat) (n i : Nat) : Nat := if h : i < l.length then l[i] else (i * 31 + n * 7) % 256
theorem atv_lt (l : List Nat) (n i : Nat) (hb : ∀ b ∈ l, b < 256) : atv l n i < 256 := by
  unfold atv; split
  · exact hb _ (List.getElem_mem _)
  · omega
set_option maxRecDepth 100000 in
theorem at_is (w : World) (D : Nat) (A : Option Addr) (n c : Nat) (l : List Nat) (h : Sl w D 1 A n c (bv l)) (hn : n ≤ 1048576) (hb : ∀ b ∈ l, b < 256) (i : Nat) (h1 : i ≤ 1000000000) :
    Calls Try.prog 20 #[.slice A n c, .int .i64 i] w fun e w' => e = .returned (.int .i64 (atv l n i : Nat)) ∧ w' = w := by
  have hcap := h.cap; have hcapm := h.capm
  have hlen := h.len
  rw [bv_len, Nat.mul_one] at hlen
  by_cases hlt : i < n
  · obtain ⟨ad, hx, rfl, had, hcx⟩ := h.at_ hlt
    rw [bv_get l i hx] at hcx
    have hbb := hb (l[i]'(by simpa [bv] using hx)) (List.getElem_mem _)
    have hv : atv l n i = l[i]'(by simpa [bv] using hx) := dif_pos (by rw [hlen]; exact hlt)
    obtain ⟨x, hx2⟩ : ∃ x, x = l[i]'(by simpa [bv] using hx) := ⟨_, rfl⟩
    rw [← hx2] at hcx hv hbb
    rw [hv]
    clear hx2 hv
    go_enter Try.func20, Try.ntmps20
    go_wp2
    go_ret
    exact ⟨rfl, rfl⟩
  · have hle : decide ((i : Int) < (n : Int)) = false := by simp; omega
    have hv : ((i : Int) * 31 + (n : Int) * 7) % 256 = (atv l n i : Int) := by unfold atv; rw [dif_neg (by rw [hlen]; exact hlt)]; omega
    obtain ⟨x, hx⟩ : ∃ x, x = atv l n i := ⟨_, rfl⟩
    rw [← hx] at hv ⊢
    have Hx := Lib.hid hv; clear hx hv hlen
    go_enter Try.func20, Try.ntmps20
    go_wp2
    go_ret
    exact ⟨by rw [← Hx.out]; rfl, rfl⟩
theorem at_any (w : World) (D : Nat) (A : Option Addr) (n c : Nat) (l : List Nat) (h : Sl w D 1 A n c (bv l)) (hn : n ≤ 1048576) (hb : ∀ b ∈ l, b < 256) (i : Int) (h0 : 0 ≤ i) (h1 : i ≤ 1000000000) :
    Calls Try.prog 20 #[.slice A n c, .int .i64 i] w fun e w' => (∃ x : Nat, x < 256 ∧ e = .returned (.int .i64 x)) ∧ w = w' := by
  obtain ⟨i, rfl⟩ := Int.eq_ofNat_of_zero_le h0
  refine (at_is w D A n c l h hn hb i (by omega)).mono ?_
  rintro e w' ⟨rfl, rfl⟩
  exact ⟨⟨_, atv_lt l n i hb, rfl⟩, rfl⟩
end Go.Proofs.Ytehmnipaiihndaa
