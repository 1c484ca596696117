/- The contracts of chapter 1's draws: what they yield, for whatever code. -/
import Derived.Test.YtpfkijmicmampaaDraw
namespace Go.Proofs.Ytpfkijmicmampaa
open Go.ChangeShapes Go.WideShapes Go.ChangeAt Go.RowKit
set_option linter.unusedVariables false
theorem i64_all {l : List Int} (h : l.all (fun z => decide (-9223372036854775808 ≤ z) && decide (z ≤ 9223372036854775807)) = true) : ∀ z ∈ l, -9223372036854775808 ≤ z ∧ z ≤ 9223372036854775807 := by
  rw [List.all_eq_true] at h
  intro z hz; have := h z hz; simpa using this
set_option maxRecDepth 100000 in
theorem dnum (w : World) (p : Nat) (A : Option Addr) (cap : Nat) (xs : List Value) (hc : Cur w p A cap xs) :
    Calls Try.prog 54 #[.pointer (some ⟨p, 0, none⟩)] w fun e w' => (∃ x : Nat, x ≤ 1000000000000 ∧ e = .returned (.int .i64 x)) ∧ Cur w' p A cap xs ∧ Turn p w w' := by
  go_enter Try.func54, Try.ntmps54
  go_wp2_with fail
  refine (dbelow _ _ _ _ _ _ hc (by omega)).mono ?_
  rintro e w1 ⟨⟨x, hx, rfl⟩, hc1, ht1⟩
  have hx4 := hx.1 (by omega); clear hx
  by_cases x0 : x = 0
  · subst x0
    go_wp2_with fail
    refine (dbelow _ _ _ _ _ _ hc1 (by omega)).mono ?_
    rintro e w2 ⟨⟨y, hy, rfl⟩, hc2, ht2⟩
    have := hy.1 (by omega); clear hy
    go_wp2
    go_ret
    exact ⟨⟨y, by omega, rfl⟩, hc2, ht1.trans ht2⟩
  · have e0 : ((x : Int) == 0) = false := by simp; omega
    by_cases x1 : x = 1
    · subst x1
      go_wp2_with fail
      refine (dlist _ _ _ _ _ [0, 1, 127, 128, 2147483646, 2147483647, 1000000000000] _ _ _ rfl rfl hc1 (by decide) (by decide) (i64_all (by decide))).mono ?_
      rintro e w2 ⟨⟨z, hz, rfl⟩, hc2, ht2⟩
      have hb : 0 ≤ z ∧ z ≤ 1000000000000 := by simp at hz; omega
      clear hz
      go_wp2
      go_ret
      exact ⟨⟨z.toNat, by omega, by rw [Int.toNat_of_nonneg hb.1]; rfl⟩, hc2, ht1.trans ht2⟩
    · have e1 : ((x : Int) == 1) = false := by simp; omega
      by_cases x2 : x = 2
      · subst x2
        go_wp2_with fail
        refine (dbelow _ _ _ _ _ _ hc1 (by omega)).mono ?_
        rintro e w2 ⟨⟨y, hy, rfl⟩, hc2, ht2⟩
        have hy1 := hy.1 (by omega); clear hy
        go_wp2_with fail
        refine (dbelow _ _ _ _ _ _ hc2 (by omega)).mono ?_
        rintro e w3 ⟨⟨z, hz, rfl⟩, hc3, ht3⟩
        have hz1 := hz.1 (by omega); clear hz
        have hm : y * z ≤ 1000000 * 1000000 := Nat.mul_le_mul (by omega) (by omega)
        have hm0 : 0 ≤ (y : Int) * (z : Int) := by rw [← Int.natCast_mul]; omega
        have hm1 : (y : Int) * (z : Int) ≤ 1000000000000 := by rw [← Int.natCast_mul]; omega
        go_wp2
        go_ret
        exact ⟨⟨y * z, by omega, by simp⟩, hc3, (ht1.trans ht2).trans ht3⟩
      · have e2 : ((x : Int) == 2) = false := by simp; omega
        go_wp2_with fail
        refine (dbelow _ _ _ _ _ _ hc1 (by omega)).mono ?_
        rintro e w2 ⟨⟨y, hy, rfl⟩, hc2, ht2⟩
        have := hy.1 (by omega); clear hy
        go_wp2
        go_ret
        exact ⟨⟨y, by omega, rfl⟩, hc2, ht1.trans ht2⟩
/-- some integer of 64 bits -/
def SomeI64 (e : Ending) : Prop := ∃ z : Int, (-9223372036854775808 ≤ z ∧ z ≤ 9223372036854775807) ∧ e = .returned (.int .i64 z)
set_option maxRecDepth 100000 in
theorem dodd (w : World) (p : Nat) (A : Option Addr) (cap : Nat) (xs : List Value) (hc : Cur w p A cap xs) :
    Calls Try.prog 64 #[.pointer (some ⟨p, 0, none⟩)] w fun e w' => SomeI64 e ∧ Cur w' p A cap xs ∧ Turn p w w' := by
  have hr := Lib.hid (i64_all (l := [-1, 0, 1, 2, 255, 256, 65535, 2147483647, 2147483648, 4294967295, 4294967296, -2147483648, 9223372036854775807, -9223372036854775808]) (by decide))
  go_enter Try.func64, Try.ntmps64
  go_wp2_with fail
  refine (dlist _ _ _ _ _ [-1, 0, 1, 2, 255, 256, 65535, 2147483647, 2147483648, 4294967295, 4294967296, -2147483648, 9223372036854775807, -9223372036854775808] _ _ _ rfl rfl hc (by decide) (by decide) hr.out).mono ?_
  rintro e w2 ⟨⟨z, hz, rfl⟩, hc2, ht2⟩
  have hb := Lib.hid (hr.out z hz)
  clear hz
  go_wp2
  go_ret
  exact ⟨⟨z, hb.out, rfl⟩, hc2, ht2⟩
set_option maxRecDepth 100000 in
theorem draw_ (w : World) (p : Nat) (A : Option Addr) (cap : Nat) (xs : List Value) (hc : Cur w p A cap xs) :
    Calls Try.prog 61 #[.pointer (some ⟨p, 0, none⟩)] w fun e w' => SomeI64 e ∧ Cur w' p A cap xs ∧ Turn p w w' := by
  go_enter Try.func61, Try.ntmps61
  go_wp2_with fail
  refine (donce _ _ _ _ _ _ hc (by omega)).mono ?_
  rintro e w1 ⟨⟨b, rfl⟩, hc1, ht1⟩
  cases b
  · go_wp2_with fail
    refine (dlist _ _ _ _ _ [-1, 1000000000000, 1000000000001] _ _ _ rfl rfl hc1 (by decide) (by decide) (i64_all (by decide))).mono ?_
    rintro e w2 ⟨⟨z, hz, rfl⟩, hc2, ht2⟩
    have hb : -9223372036854775808 ≤ z ∧ z ≤ 9223372036854775807 := by simp at hz; omega
    have Hb := Lib.hid hb
    clear hz hb
    go_wp2
    go_ret
    exact ⟨⟨z, Hb.out, rfl⟩, hc2, ht1.trans ht2⟩
  · go_wp2_with fail
    refine (dodd _ _ _ _ _ hc1).mono ?_
    rintro e w2 ⟨⟨z, hz, rfl⟩, hc2, ht2⟩
    have Hb := Lib.hid hz
    clear hz
    go_wp2
    go_ret
    exact ⟨⟨z, Hb.out, rfl⟩, hc2, ht1.trans ht2⟩
set_option maxRecDepth 100000 in
theorem done_ (w : World) (p : Nat) (A : Option Addr) (cap : Nat) (xs : List Value) (hc : Cur w p A cap xs) :
    Calls Try.prog 47 #[.pointer (some ⟨p, 0, none⟩)] w fun e w' => SomeI64 e ∧ Cur w' p A cap xs ∧ Turn p w w' := by
  go_enter Try.func47, Try.ntmps47
  go_wp2_with fail
  refine (donce _ _ _ _ _ _ hc (by omega)).mono ?_
  rintro e w1 ⟨⟨b, rfl⟩, hc1, ht1⟩
  cases b
  · go_wp2_with fail
    refine (dnum _ _ _ _ _ hc1).mono ?_
    rintro e w2 ⟨⟨z, hz, rfl⟩, hc2, ht2⟩
    go_wp2
    go_ret
    exact ⟨⟨z, by omega, rfl⟩, hc2, ht1.trans ht2⟩
  · go_wp2_with fail
    refine (draw_ _ _ _ _ _ hc1).mono ?_
    rintro e w2 ⟨⟨z, hz, rfl⟩, hc2, ht2⟩
    have Hb := Lib.hid hz
    clear hz
    go_wp2
    go_ret
    exact ⟨⟨z, Hb.out, rfl⟩, hc2, ht1.trans ht2⟩
end Go.Proofs.Ytpfkijmicmampaa
