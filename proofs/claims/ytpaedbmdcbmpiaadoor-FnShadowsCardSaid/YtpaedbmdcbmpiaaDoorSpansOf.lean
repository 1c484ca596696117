/- The contract of the program's spans: the list in order of a set of ticks. The contracts of the program's mergeSpans, JoinSpans, MeetSpans, CutSpans, TicksOf. The contracts of the program's JoinSpans, MeetSpans, CutSpans and TicksOf, and of the model's TicksOf. -/
import Derived.Test.YtpaedbmdcbmpiaaDoorTickSet
import Derived.Test.YtpaedbmdcbmpiaaDoorSpanPut
import Derived.Deep.RegionHeld3
import Derived.Deep.QuietTactic
import Derived.BigQuiet
namespace Go.Proofs.YtpaedbmdcbmpiaaDoor
open Go.ChangeShapes Go.WideShapes Go.ChangeAt Go.RowKit
set_option linter.unusedVariables false
end Go.Proofs.YtpaedbmdcbmpiaaDoor
namespace Go.Proofs.YtpaedbmdcbmpiaaDoor
open Go.ChangeShapes Go.WideShapes Go.ChangeAt Go.RowKit
set_option linter.unusedVariables false
end Go.Proofs.YtpaedbmdcbmpiaaDoor
namespace Go.Proofs.YtpaedbmdcbmpiaaDoor
open Go.ChangeShapes Go.WideShapes Go.ChangeAt Go.RowKit
set_option linter.unusedVariables false
theorem below_drewN {B : Nat} {a w : World} (h : Below B a w) (n : Nat) : Below B a (w.drewN n) := by
  induction n with
  | zero => exact h
  | succ n ih => exact ih.drew
theorem or_nil (l : List (Int × Int)) : runs (fun k => tk l k || tk [] k) 1000 = joinOf l := by
  unfold joinOf
  congr 1
  funext k
  show (tk l k || false) = _
  rw [Bool.or_false]
theorem run_index_wv (S : Nat → Bool) (k : Nat) (hk : k < 16) (w : World) : (Instr.index 80 (.agg (wv S)) (.int .i64 (k : Int))).run Tryd.prog w = .ok (.int .u64 (wd S k : Nat)) w := by
  have hu : Tryd.prog.underlying 80 = some (.array 16 78) := Tryd.underlying80
  have hs : Tryd.prog.cellsOf 78 = 1 := by kernel_rfl
  have hc : (wv S)[k]? = some (.int .u64 (wd S k : Nat)) := cells16_at _ _ hk
  simp [Instr.index, run_underlying hu, asIntOf, go_sem]
  rw [if_pos hk, hc]
  rfl
set_option maxRecDepth 100000 in
theorem iticksOf (w : World) (D : Nat) (A : Option Addr) (n c : Nat) (l : List (Int × Int)) (h : Sl w D 2 A n c (sv l)) (hD : D ≤ w.heap.size) :
    Calls Tryd.prog 16 #[.slice A n c] w (NumB w (ticksOf l)) := by
  have HJ := Lib.hid (iticks w D A n c l h hD)
  clear h
  obtain ⟨S, hS⟩ : ∃ S, S = tk l := ⟨_, rfl⟩
  have HT : Hid (∀ N : Nat, N = 16 → (cnt S 0 (64 * N) : Int) = ticksOf l) := Lib.hid (fun N e => by rw [e, hS, cnt_all]; rfl)
  rw [← hS] at HJ
  clear hS
  go_enter Tryd.func16, Tryd.ntmps16
  go_wp2_with fail
  refine HJ.out.mono ?_
  rintro e w1 ⟨rfl, b⟩
  have B := Lib.hid b; clear b HJ
  go_wp2
  go_loop [3, 8] (fun m i => ∃ k : Nat, k ≤ 16 ∧ i = .int .i64 k ∧ m = .int .i64 (cnt S 0 (64 * k) : Nat)) (fun _ i => 16 - (intOf i).toNat)
  case atStart => exact ⟨0, by omega, rfl, rfl⟩
  case round =>
    obtain ⟨k, hk, rfl, rfl⟩ := hrel
    by_cases hlt : k < 16
    · have hix := fun w => run_index_wv S k hlt w
      have hw := cnt_words S k
      have hcb : cnt S 0 (64 * k) ≤ 1024 := by have := cnt_le S 0 (64 * k); omega
      have hpb : cnt S 0 (64 * (k + 1)) ≤ 1024 := by have := cnt_le S 0 (64 * (k + 1)); omega
      obtain ⟨z, hz⟩ : ∃ z, z = pc 64 (wd S k) := ⟨_, rfl⟩
      obtain ⟨q, hq⟩ : ∃ q, q = cnt S 0 (64 * k) := ⟨_, rfl⟩
      have HZ : Hid (∀ N : Nat, N = 64 → pc N (wd S k) = z) := Lib.hid fun N e => by rw [e, hz]
      rw [← hz] at hw
      rw [← hq] at hw hcb
      rw [← hq]
      have hzb : z ≤ 1024 := by omega
      have HW : Hid (∀ N : Nat, N = k + 1 → cnt S 0 (64 * N) = q + z) := Lib.hid fun N e => by rw [e]; exact hw
      clear hz hq hpb hw
      go_wp2_with fail
      refine (iones _ _ (wd_lt S k)).mono ?_
      rintro e w2 ⟨rfl, rfl⟩
      rw [HZ.out 64 rfl]
      go_wp2
      go_round
      case rel => exact ⟨k + 1, by omega, by go_num, by rw [HW.out (k + 1) rfl]; go_num⟩
      case measure => simp [intOf]; omega
    · have h16 := HT.out k (by omega)
      obtain ⟨q, hq⟩ : ∃ q, q = cnt S 0 (64 * k) := ⟨_, rfl⟩
      rw [← hq] at h16 ⊢
      have H16 := Lib.hid h16
      clear h16 hq
      go_wp2
      go_ret
      exact ⟨ret_int H16.out, B.out⟩
theorem sumL_bd (l : List (Int × Int)) (h : ∀ p ∈ l, 0 ≤ p.1 ∧ p.1 < p.2 ∧ p.2 ≤ 1000) : 0 ≤ sumL l ∧ sumL l ≤ 1000 * l.length := by
  suffices hh : ∀ (l : List (Int × Int)) (s : Int), (∀ p ∈ l, 0 ≤ p.1 ∧ p.1 < p.2 ∧ p.2 ≤ 1000) → s ≤ l.foldl (fun s p => s + p.2 - p.1) s ∧ l.foldl (fun s p => s + p.2 - p.1) s ≤ s + 1000 * l.length by
    have := hh l 0 h; unfold sumL; omega
  intro l
  induction l with
  | nil => intro s _; simp
  | cons q l ih =>
    intro s hl
    have h1 := hl q (by simp)
    have h2 := ih (s + q.2 - q.1) (fun p hp => hl p (by simp [hp]))
    simp only [List.foldl_cons, List.length_cons]
    omega
end Go.Proofs.YtpaedbmdcbmpiaaDoor
