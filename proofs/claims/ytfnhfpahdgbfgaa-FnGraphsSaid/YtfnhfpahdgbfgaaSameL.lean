/- The program's SameLinks: slices.Equal at links. -/
import Derived.Test.YtfnhfpahdgbfgaaSpans
import Derived.Test.YtfnhfpahdgbfgaaSpan
import Derived.BigQuiet
import Derived.Laws.StructEq
import Derived.Deep.Cut
namespace Go.Proofs.Ytfnhfpahdgbfgaa
open Go.ChangeShapes Go.WideShapes Go.ChangeAt Go.RowKit
set_option linter.unusedVariables false
theorem same_all {α : Type} {l m : List α} (h : l.length = m.length) (h2 : l.take l.length = m.take l.length) : l = m := by
  rw [List.take_length, h, List.take_length] at h2; exact h2
theorem same_step {α : Type} {l m : List α} {k : Nat} (hl : k < l.length) (hm : k < m.length) : l.take (k + 1) = m.take (k + 1) ↔ l.take k = m.take k ∧ l[k] = m[k] := by
  rw [List.take_succ_eq_append_getElem hl, List.take_succ_eq_append_getElem hm]
  constructor
  · intro h
    have := List.append_inj h (by simp; omega)
    exact ⟨this.1, by simpa using this.2⟩
  · rintro ⟨h1, h2⟩; rw [h1, h2]
set_option maxRecDepth 100000 in
set_option maxHeartbeats 1000000 in
theorem iequalL (w : World) (D D' : Nat) (A A' : Option Addr) (n n' c c' : Nat) (l m : List (Int × Int)) (h : Sl w D 2 A n c (sv l)) (h' : Sl w D' 2 A' n' c' (sv m)) (hD : D ≤ w.heap.size) (hD' : D' ≤ w.heap.size) (b : Bool) (hb : decide (l = m) = b) :
    Calls Try.prog 38 #[.slice A n c, .slice A' n' c'] w (Says w b) := by
  have hna : n = l.length := by have h1 := h.len; rw [sv_len] at h1; omega
  have hnb : n' = m.length := by have h1 := h'.len; rw [sv_len] at h1; omega
  subst hna hnb
  have hcap := h.cap; have hcapm := h.capm; have hcap' := h'.cap; have hcapm' := h'.capm
  have HS := Lib.hid h; have HS' := Lib.hid h'; have HB := Lib.hid hb
  clear h h' hb
  by_cases hll : l.length = m.length
  case neg =>
    obtain rfl : b = false := by rw [← HB.out]; exact decide_eq_false fun e => hll (by rw [e])
    have hne : ((l.length : Int) == (m.length : Int)) = false := by simp; omega
    have hne2 : ((l.length : Int) != (m.length : Int)) = true := by simp; omega
    go_enter Try.func38, Try.ntmps38
    go_wp2_with fail
    go_ret
    exact ⟨rfl, Below.refl _ _⟩
  case pos =>
    have hne2 : ((l.length : Int) != (m.length : Int)) = false := by simp; omega
    have HLL := Lib.hid hll
    clear hll
    go_enter Try.func38, Try.ntmps38
    go_wp2_with fail
    go_loopw [5, 13] (fun v i wr => ∃ k : Nat, k ≤ l.length ∧ i = .int .i64 k ∧ Hid (l.take k = m.take k) ∧ Below w.heap.size w wr) (fun _ i _ => l.length - (intOf i).toNat)
    case atStart => exact ⟨0, Nat.zero_le _, rfl, Lib.hid rfl, Below.refl _ _⟩
    case round =>
      obtain ⟨k, hk, rfl, hi, hbw⟩ := hrel
      have HBW := Lib.hid hbw
      clear hbw
      by_cases hlt : k < l.length
      case neg =>
        obtain rfl : k = l.length := by omega
        obtain rfl : b = true := by rw [← HB.out]; exact decide_eq_true (same_all HLL.out hi.out)
        go_wp2_with fail
        go_ret
        exact ⟨rfl, HBW.out⟩
      case pos =>
        have hltm : k < m.length := by have := HLL.out; omega
        obtain ⟨ad, hx, rfl, had, p0, p1⟩ := (HS.out.below HBW.out hD).two hlt
        obtain ⟨bd, hx', rfl, hbd, q0, q1⟩ := (HS'.out.below HBW.out hD').two hltm
        have HST : Hid (l[k] = m[k] → l.take (k + 1) = m.take (k + 1)) := Lib.hid fun e => (same_step hlt hltm).2 ⟨hi.out, e⟩
        have HNE : Hid (l[k] ≠ m[k] → b = false) := Lib.hid fun e => by
          rw [← HB.out]
          exact decide_eq_false fun e2 => e (by subst e2; rfl)
        obtain ⟨x, hxx⟩ : ∃ x, x = l[k] := ⟨_, rfl⟩
        obtain ⟨y, hyy⟩ : ∃ x, x = m[k] := ⟨_, rfl⟩
        rw [← hxx] at p0 p1 HST HNE; rw [← hyy] at q0 q1 HST HNE
        clear hxx hyy
        obtain ⟨x1, x2⟩ := x
        obtain ⟨y1, y2⟩ := y
        simp only at p0 p1 q0 q1
        have hk0 : (0 : Int) ≤ (k : Int) := by omega
        have hkl : (k : Int) < (l.length : Int) := by omega
        have hkm : (k : Int) < (m.length : Int) := by omega
        by_cases h1 : x1 = y1 ∧ x2 = y2
        case pos =>
          obtain ⟨rfl, rfl⟩ := h1
          replace HST := Lib.hid (HST.out rfl)
          clear HNE
          go_wp2_with fail
          go_quiet (fail)
          have HB2 : Hid (Below w.heap.size w (wr.drewN nq)) := Lib.hid ⟨HBW.out.os, HBW.out.tape, HBW.out.output, HBW.out.size, HBW.out.block⟩
          go_wp2_with fail
          go_roundw
          case rel => exact ⟨k + 1, by omega, by go_num, HST, HB2.out⟩
          case measure => simp [intOf]; omega
        case neg =>
          obtain rfl : b = false := HNE.out (fun e => h1 (by injection e with a b; exact ⟨a, b⟩))
          have HNN := Lib.hid h1
          by_cases h2 : x1 = y1
          · subst h2
            have h3 : (x2 == y2) = false := by simp; intro e; exact h1 ⟨rfl, e⟩
            clear h1
            go_wp2_with fail
            go_quiet (fail)
            have HB2 : Hid (Below w.heap.size w (wr.drewN nq)) := Lib.hid ⟨HBW.out.os, HBW.out.tape, HBW.out.output, HBW.out.size, HBW.out.block⟩
            go_wp2_with fail
            go_ret
            exact ⟨rfl, HB2.out⟩
          · have h3 : (x1 == y1) = false := by simpa using h2
            clear h1 h2
            go_wp2_with fail
            go_quiet (fail)
            have HB2 : Hid (Below w.heap.size w (wr.drewN nq)) := Lib.hid ⟨HBW.out.os, HBW.out.tape, HBW.out.output, HBW.out.size, HBW.out.block⟩
            go_wp2_with fail
            go_ret
            exact ⟨rfl, HB2.out⟩
theorem isame (w : World) (D D' : Nat) (A A' : Option Addr) (n n' c c' : Nat) (l m : List (Int × Int)) (h : Sl w D 2 A n c (sv l)) (h' : Sl w D' 2 A' n' c' (sv m)) (hD : D ≤ w.heap.size) (hD' : D' ≤ w.heap.size) (b : Bool) (hb : decide (l = m) = b) :
    Calls Try.prog 11 #[.slice A n c, .slice A' n' c'] w (Says w b) := by
  go_enter Try.func11, Try.ntmps11
  go_wp2_with fail
  refine (iequalL w D D' A A' n n' c c' l m h h' hD hD' b hb).mono ?_
  rintro e w' ⟨rfl, hbw⟩
  have HBW := Lib.hid hbw
  clear hbw h h' hb
  go_wp2_with fail
  go_ret
  exact ⟨rfl, HBW.out⟩
end Go.Proofs.Ytfnhfpahdgbfgaa
