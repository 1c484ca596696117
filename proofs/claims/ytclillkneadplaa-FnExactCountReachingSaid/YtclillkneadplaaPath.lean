/- The program's chapter 14: DistancesTo, NextTo, PathTo, HasLoop (by import) and CountReaching. -/
import Derived.Test.YtclillkneadplaaNextP
import Derived.Test.YtclillkneadplaaPathP
import Derived.Test.YtclillkneadplaaLoopP
namespace Go.Proofs.Ytclillkneadplaa
open Go.ChangeShapes Go.WideShapes Go.ChangeAt Go.RowKit
set_option linter.unusedVariables false
theorem cntL_step (l : List Int) (k : Nat) (hk : k < l.length) : cntL (l.take (k + 1)) = cntL (l.take k) + (if 0 ≤ l[k] then 1 else 0) := by
  unfold cntL
  rw [List.take_succ_eq_append_getElem hk, List.countP_append]
  by_cases h : 0 ≤ l[k] <;> simp [h]
set_option maxRecDepth 100000 in
theorem icount (w : World) (D : Nat) (A : Option Addr) (n c : Nat) (l : List Int) (h : Sl w D 1 A n c (iv l)) (hD : D ≤ w.heap.size) (hn : n ≤ 16777216) :
    Calls Try.prog 15 #[.slice A n c] w fun e w' => e = .returned (.int .i64 (cntL l : Nat)) ∧ Below w.heap.size w w' := by
  obtain rfl : n = l.length := by have h1 := h.len; rw [iv_len] at h1; omega
  have HS := Lib.hid h
  clear h
  go_enter Try.func15, Try.ntmps15
  go_wp2_with fail
  go_loopw [3, 8] (fun r i wr => ∃ k : Nat, k ≤ l.length ∧ i = .int .i64 k ∧ r = .int .i64 (cntL (l.take k) : Nat) ∧ wr = w) (fun _ i _ => l.length - (intOf i).toNat)
  case atStart => exact ⟨0, Nat.zero_le _, rfl, by simp [cntL], rfl⟩
  case round =>
    obtain ⟨k, hk, rfl, rfl, rfl⟩ := hrel
    have hle := cntL_le (l.take k)
    rw [List.length_take] at hle
    by_cases hlt : k < l.length
    case neg =>
      obtain rfl : k = l.length := by omega
      have HT : Hid (cntL (l.take l.length) = cntL l) := Lib.hid (by rw [List.take_length])
      clear hle
      rw [HT.out]
      go_wp2_with fail
      go_ret
      exact ⟨rfl, Below.refl _ _⟩
    case pos =>
      obtain ⟨ad, hx, rfl, had, q1⟩ := HS.out.int hlt
      have HST := Lib.hid (cntL_step l k hlt)
      obtain ⟨x, hxx⟩ : ∃ x, x = l[k] := ⟨_, rfl⟩
      rw [← hxx] at q1 HST
      obtain ⟨m, hm⟩ : ∃ m, m = cntL (l.take k) := ⟨_, rfl⟩
      rw [← hm] at HST hle ⊢
      have hkI : (k : Int) < (l.length : Int) := by omega
      clear hxx hm
      by_cases h0 : 0 ≤ x
      case pos =>
        have HR : Hid (cntL (l.take (k + 1)) = m + 1) := Lib.hid (by rw [HST.out, if_pos h0])
        go_wp2_with fail
        go_roundw
        case rel => exact ⟨k + 1, by omega, by go_num, by rw [HR.out]; go_num, trivial⟩
        case measure => simp [intOf]; omega
      case neg =>
        have HR : Hid (cntL (l.take (k + 1)) = m) := Lib.hid (by rw [HST.out, if_neg h0]; rfl)
        have h0d : decide (0 ≤ x) = false := decide_eq_false h0
        clear h0
        go_wp2_with fail
        go_roundw
        case rel => exact ⟨k + 1, by omega, by go_num, by rw [HR.out], trivial⟩
        case measure => simp [intOf]; omega
end Go.Proofs.Ytclillkneadplaa
