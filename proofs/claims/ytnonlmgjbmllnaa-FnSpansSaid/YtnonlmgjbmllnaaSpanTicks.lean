/- The contracts of the program's JoinSpans, MeetSpans, CutSpans and TicksOf, and of the model's TicksOf. -/
import Derived.Test.YtnonlmgjbmllnaaMerge
import Derived.Deep.QuietTactic
import Derived.BigQuiet
namespace Go.Proofs.Ytnonlmgjbmllnaa
open Go.ChangeShapes Go.WideShapes Go.ChangeAt Go.RowKit
set_option linter.unusedVariables false
theorem below_drewN {B : Nat} {a w : World} (h : Below B a w) (n : Nat) : Below B a (w.drewN n) := by
  induction n with
  | zero => exact h
  | succ n ih => exact ih.drew
theorem or_nil (l : List (Int × Int)) : runs (fun k => tk l k || tk [] k) 1000 = joinOf l := by
  unfold joinOf
  congr 1
  funext k
  show (tk l k || false) = _
  rw [Bool.or_false]
theorem ijoin (w : World) (D : Nat) (A : Option Addr) (n c : Nat) (l : List (Int × Int)) (h : Sl w D 2 A n c (sv l)) (hD : D ≤ w.heap.size) :
    Calls Try.prog 14 #[.slice A n c] w (GivesS w (joinOf l)) := by
  have HJ : Hid (Calls Try.prog 38 #[.int .i64 0, .slice A n c, .slice none 0 0] w (GivesS w (joinOf l))) := Lib.hid (by
    have h1 := imerge0 w D w.heap.size A none n 0 c 0 l [] h (Sl.nil_ w w.heap.size 2) hD (Nat.le_refl _)
    rw [or_nil] at h1; exact h1)
  clear h
  go_enter Try.func14, Try.ntmps14
  go_wp2_with fail
  refine HJ.out.mono ?_
  rintro e w1 ⟨A1, n1, c1, rfl, o, b⟩
  have HF : Hid (GivesS w (joinOf l) (.returned (.slice A1 n1 c1)) w1) := Lib.hid ⟨_, _, _, rfl, o, b⟩
  clear o b
  go_wp2
  go_ret
  exact HF.out
theorem imeet (w : World) (D D' : Nat) (A A' : Option Addr) (n n' c c' : Nat) (l l' : List (Int × Int)) (h : Sl w D 2 A n c (sv l)) (h' : Sl w D' 2 A' n' c' (sv l')) (hD : D ≤ w.heap.size) (hD' : D' ≤ w.heap.size) :
    Calls Try.prog 16 #[.slice A n c, .slice A' n' c'] w (GivesS w (meetOf l l')) := by
  have HJ : Hid (Calls Try.prog 38 #[.int .i64 1, .slice A n c, .slice A' n' c'] w (GivesS w (meetOf l l'))) := Lib.hid (imerge1 w D D' A A' n n' c c' l l' h h' hD hD')
  clear h h'
  go_enter Try.func16, Try.ntmps16
  go_wp2_with fail
  refine HJ.out.mono ?_
  rintro e w1 ⟨A1, n1, c1, rfl, o, b⟩
  have HF : Hid (GivesS w (meetOf l l') (.returned (.slice A1 n1 c1)) w1) := Lib.hid ⟨_, _, _, rfl, o, b⟩
  clear o b
  go_wp2
  go_ret
  exact HF.out
theorem icut (w : World) (D D' : Nat) (A A' : Option Addr) (n n' c c' : Nat) (l l' : List (Int × Int)) (h : Sl w D 2 A n c (sv l)) (h' : Sl w D' 2 A' n' c' (sv l')) (hD : D ≤ w.heap.size) (hD' : D' ≤ w.heap.size) :
    Calls Try.prog 17 #[.slice A n c, .slice A' n' c'] w (GivesS w (cutOf l l')) := by
  have HJ : Hid (Calls Try.prog 38 #[.int .i64 2, .slice A n c, .slice A' n' c'] w (GivesS w (cutOf l l'))) := Lib.hid (imerge2 w D D' A A' n n' c c' l l' h h' hD hD')
  clear h h'
  go_enter Try.func17, Try.ntmps17
  go_wp2_with fail
  refine HJ.out.mono ?_
  rintro e w1 ⟨A1, n1, c1, rfl, o, b⟩
  have HF : Hid (GivesS w (cutOf l l') (.returned (.slice A1 n1 c1)) w1) := Lib.hid ⟨_, _, _, rfl, o, b⟩
  clear o b
  go_wp2
  go_ret
  exact HF.out
theorem run_index_wv (S : Nat → Bool) (k : Nat) (hk : k < 16) (w : World) : (Instr.index 61 (.agg (wv S)) (.int .i64 (k : Int))).run Try.prog w = .ok (.int .u64 (wd S k : Nat)) w := by
  have hu : Try.prog.underlying 61 = some (.array 16 59) := Try.underlying61
  have hs : Try.prog.cellsOf 59 = 1 := by kernel_rfl
  have hc : (wv S)[k]? = some (.int .u64 (wd S k : Nat)) := cells16_at _ _ hk
  simp [Instr.index, run_underlying hu, asIntOf, go_sem]
  rw [if_pos hk, hc]
  rfl
set_option maxRecDepth 100000 in
theorem iticksOf (w : World) (D : Nat) (A : Option Addr) (n c : Nat) (l : List (Int × Int)) (h : Sl w D 2 A n c (sv l)) (hD : D ≤ w.heap.size) :
    Calls Try.prog 21 #[.slice A n c] w (NumB w (ticksOf l)) := by
  have HJ := Lib.hid (iticks w D A n c l h hD)
  clear h
  obtain ⟨S, hS⟩ : ∃ S, S = tk l := ⟨_, rfl⟩
  have HT : Hid (∀ N : Nat, N = 16 → (cnt S 0 (64 * N) : Int) = ticksOf l) := Lib.hid (fun N e => by rw [e, hS, cnt_all]; rfl)
  rw [← hS] at HJ
  clear hS
  go_enter Try.func21, Try.ntmps21
  go_wp2_with fail
  refine HJ.out.mono ?_
  rintro e w1 ⟨rfl, b⟩
  have B := Lib.hid b; clear b HJ
  go_wp2
  go_loop [3, 8] (fun m i => ∃ k : Nat, k ≤ 16 ∧ i = .int .i64 k ∧ m = .int .i64 (cnt S 0 (64 * k) : Nat)) (fun _ i => 16 - (intOf i).toNat)
  case atStart => exact ⟨0, by omega, rfl, rfl⟩
  case round =>
    obtain ⟨k, hk, rfl, rfl⟩ := hrel
    by_cases hlt : k < 16
    · have hix := fun w => run_index_wv S k hlt w
      have hw := cnt_words S k
      have hcb : cnt S 0 (64 * k) ≤ 1024 := by have := cnt_le S 0 (64 * k); omega
      have hpb : cnt S 0 (64 * (k + 1)) ≤ 1024 := by have := cnt_le S 0 (64 * (k + 1)); omega
      obtain ⟨z, hz⟩ : ∃ z, z = pc 64 (wd S k) := ⟨_, rfl⟩
      obtain ⟨q, hq⟩ : ∃ q, q = cnt S 0 (64 * k) := ⟨_, rfl⟩
      have HZ : Hid (∀ N : Nat, N = 64 → pc N (wd S k) = z) := Lib.hid fun N e => by rw [e, hz]
      rw [← hz] at hw
      rw [← hq] at hw hcb
      rw [← hq]
      have hzb : z ≤ 1024 := by omega
      have HW : Hid (∀ N : Nat, N = k + 1 → cnt S 0 (64 * N) = q + z) := Lib.hid fun N e => by rw [e]; exact hw
      clear hz hq hpb hw
      go_wp2_with fail
      refine (iones _ _ (wd_lt S k)).mono ?_
      rintro e w2 ⟨rfl, rfl⟩
      rw [HZ.out 64 rfl]
      go_wp2
      go_round
      case rel => exact ⟨k + 1, by omega, by go_num, by rw [HW.out (k + 1) rfl]; go_num⟩
      case measure => simp [intOf]; omega
    · have h16 := HT.out k (by omega)
      obtain ⟨q, hq⟩ : ∃ q, q = cnt S 0 (64 * k) := ⟨_, rfl⟩
      rw [← hq] at h16 ⊢
      have H16 := Lib.hid h16
      clear h16 hq
      go_wp2
      go_ret
      exact ⟨ret_int H16.out, B.out⟩
theorem sumL_bd (l : List (Int × Int)) (h : ∀ p ∈ l, 0 ≤ p.1 ∧ p.1 < p.2 ∧ p.2 ≤ 1000) : 0 ≤ sumL l ∧ sumL l ≤ 1000 * l.length := by
  suffices hh : ∀ (l : List (Int × Int)) (s : Int), (∀ p ∈ l, 0 ≤ p.1 ∧ p.1 < p.2 ∧ p.2 ≤ 1000) → s ≤ l.foldl (fun s p => s + p.2 - p.1) s ∧ l.foldl (fun s p => s + p.2 - p.1) s ≤ s + 1000 * l.length by
    have := hh l 0 h; unfold sumL; omega
  intro l
  induction l with
  | nil => intro s _; simp
  | cons q l ih =>
    intro s hl
    have h1 := hl q (by simp)
    have h2 := ih (s + q.2 - q.1) (fun p hp => hl p (by simp [hp]))
    simp only [List.foldl_cons, List.length_cons]
    omega
set_option maxRecDepth 100000 in
theorem sticksOf (w : World) (D : Nat) (A : Option Addr) (n c : Nat) (l : List (Int × Int)) (h : Sl w D 2 A n c (sv l)) (hD : D ≤ w.heap.size) :
    Calls Try.prog 35 #[.slice A n c] w (NumB w (ticksOf l)) := by
  have HJ := Lib.hid (sjoin w D A n c l h hD)
  clear h
  obtain ⟨L, hL⟩ : ∃ L, L = joinOf l := ⟨_, rfl⟩
  have HT : Hid (sumL L = ticksOf l) := Lib.hid (by rw [hL]; exact sum_runs _ _)
  have HV : Hid (∀ p ∈ L, 0 ≤ p.1 ∧ p.1 < p.2 ∧ p.2 ≤ 1000) := Lib.hid (by rw [hL]; exact runs_valid _ _ (Nat.le_refl _))
  have hLl : L.length ≤ 1000 := by rw [hL]; exact runs_len _ _
  rw [← hL] at HJ
  clear hL
  go_enter Try.func35, Try.ntmps35
  go_wp2_with fail
  refine HJ.out.mono ?_
  rintro e w1 ⟨A1, n1, c1, rfl, o, b⟩
  obtain rfl : n1 = L.length := by have h2 := o.len; rw [sv_len] at h2; omega
  have hcap := o.capm
  have O := Lib.hid o.sl
  have B := Lib.hid b; clear b o HJ
  go_wp2
  go_loopw [3, 5] (fun m i wr => ∃ (k : Nat) (z : Int) (j : Nat), k ≤ L.length ∧ i = .int .i64 k ∧ m = .int .i64 z ∧ Hid (z = sumL (L.take k)) ∧ wr = w1.drewN j) (fun _ i _ => L.length - (intOf i).toNat)
  case atStart => exact ⟨0, 0, 0, Nat.zero_le _, rfl, rfl, Lib.hid rfl, rfl⟩
  case round =>
    obtain ⟨k, z, j, hk, rfl, rfl, hz, rfl⟩ := hrel
    by_cases hlt : k < L.length
    · obtain ⟨ad, hx, rfl, had, hc0, hc1⟩ := O.out.two hlt
      have hzb := sumL_bd (L.take k) (fun p hp => HV.out p (List.mem_of_mem_take hp))
      rw [List.length_take, Nat.min_eq_left (by omega), ← hz.out] at hzb
      have hpv := HV.out L[k] (List.getElem_mem hx)
      have hsn : Hid (sumL (L.take (k + 1)) = z + L[k].2 - L[k].1) := Lib.hid (by rw [List.take_succ_eq_append_getElem hx, sumL_snoc, ← hz.out])
      obtain ⟨x, hxx⟩ : ∃ x, x = L[k].1 := ⟨_, rfl⟩
      obtain ⟨y, hy⟩ : ∃ y, y = L[k].2 := ⟨_, rfl⟩
      rw [← hxx] at hc0 hsn hpv; rw [← hy] at hc1 hsn hpv
      have g1 : IntKind.i64.wrap (z + y) = z + y := IntWalk.i64_in _ (by omega)
      have g2 : IntKind.i64.wrap (z + y - x) = z + y - x := IntWalk.i64_in _ (by omega)
      have f1 : (0 : Int) ≤ (k : Int) := by omega
      have f2 : (k : Int) < (L.length : Int) := by omega
      clear hxx hy hz hzb hpv
      go_wp2
      go_quiet (fail)
      go_wp2
      go_roundw
      case rel => exact ⟨k + 1, _, _, by omega, by go_num, rfl, Lib.hid hsn.out.symm, rfl⟩
      case measure => simp [intOf]; omega
    · have e1 : L.take k = L := List.take_of_length_le (by omega)
      rw [e1] at hz
      have HF : Hid (NumB w (ticksOf l) (.returned (.int .i64 z)) (w1.drewN j)) := Lib.hid ⟨ret_int (hz.out.trans HT.out), below_drewN B.out _⟩
      clear e1
      go_wp2
      go_ret
      exact HF.out
end Go.Proofs.Ytnonlmgjbmllnaa
