/- The laws' marks, laid into a slice that is cut off. -/
import Derived.Test.YtfnhfpahdgbfgaaCopies
import Derived.Test.YtfnhfpahdgbfgaaOwnCut
namespace Go.Proofs.Ytfnhfpahdgbfgaa
open Go.ChangeShapes Go.WideShapes Go.ChangeAt Go.RowKit
set_option linter.unusedVariables false
set_option maxRecDepth 100000 in
theorem markintsX (w : World) (B : Nat) (A : Option Addr) (n c C : Nat) (xs : List Value) (h : Own w B 3 1 A n C xs) (hc0 : n ≤ c) (hc1 : c ≤ 9223372036854775807) (a : Int) (ha0 : 0 ≤ a) (ha : a + n ≤ 1000000000000) :
    Calls Try.prog 34 #[.slice A n c, .int .i64 a] w fun e w' => e = .returned (.int .i64 (a + n)) ∧ Own w' B 3 1 A n C (marks64 a n) ∧ w.grownBy w' (Value.slice A n C).ownBlock := by
  have hlen := Lib.hid h.len
  have hcap := h.capm
  have h0 : Hid (Own w B 3 1 A n C ((marks64 a n).take 0 ++ xs.drop 0)) := Lib.hid (by simpa using h)
  clear h
  go_enter Try.func34, Try.ntmps34
  go_wp2
  go_loopw [1, 5] (fun m i wr => ∃ k : Nat, k ≤ n ∧ i = .int .i64 k ∧ m = .int .i64 (a + k) ∧ Own wr B 3 1 A n C ((marks64 a n).take k ++ xs.drop k) ∧ w.grownBy wr (Value.slice A n C).ownBlock)
    (fun _ i _ => n - (intOf i).toNat)
  case atStart => exact ⟨0, Nat.zero_le _, rfl, by simp, h0.out, World.grownBy.refl _ _⟩
  case round =>
    clear h0
    obtain ⟨k, hk, rfl, rfl, hown, hg⟩ := hrel
    by_cases hlt : k < n
    · rcases hown.form with ⟨_, h0, _⟩ | ⟨g, rfl, hBg, hgl, _⟩
      · omega
      · obtain ⟨u, hu⟩ := hown.cell k hlt
        have hf := hown.row.frozenAt k
        have hlm : k < (marks64 a n).length := by rw [marks64_len]; exact hlt
        have hfin := Lib.hid (hown.fill (M := marks64 a n) (k := k) (by rw [hlen.out, marks64_len, Nat.mul_one]) hlm)
        have hO := Lib.hid hfin.out.1
        have hG := Lib.hid (hg.trans hfin.out.2)
        rw [marks64_get] at hO hG
        clear hfin hown hg
        go_wp2
        go_roundw
        case rel => exact ⟨k + 1, by omega, by go_num, by go_num, hO.out, hG.out⟩
        case measure => simp [intOf]; omega
    · obtain rfl : k = n := by omega
      have e1 : (marks64 a k).take k ++ xs.drop k = marks64 a k := by
        rw [List.take_of_length_le (by rw [marks64_len]; omega), List.drop_of_length_le (by rw [hlen.out]; omega), List.append_nil]
      rw [e1] at hown
      clear e1
      go_wp2
      go_ret
      exact ⟨rfl, hown, hg⟩
theorem markintsC (w : World) (B : Nat) (A : Option Addr) (n c : Nat) (xs : List Value) (h : OwnC w B 3 1 A n c xs) (a : Int) (ha0 : 0 ≤ a) (ha : a + n ≤ 1000000000000) :
    Calls Try.prog 34 #[.slice A n c, .int .i64 a] w fun e w' => e = .returned (.int .i64 (a + n)) ∧ OwnC w' B 3 1 A n c (marks64 a n) ∧ w.grownBy w' (Value.slice A n c).ownBlock := by
  have hcm := h.capm; have hnil := h.nil
  obtain ⟨C, hC, hO⟩ := h.own
  refine (markintsX w B A n c C xs hO hcm.1 hcm.2 a ha0 ha).mono ?_
  rintro e w' ⟨rfl, o, g⟩
  exact ⟨rfl, ⟨⟨C, hC, o⟩, hcm.1, hnil⟩, by rw [block_cap A n c n C]; exact g⟩
end Go.Proofs.Ytfnhfpahdgbfgaa
