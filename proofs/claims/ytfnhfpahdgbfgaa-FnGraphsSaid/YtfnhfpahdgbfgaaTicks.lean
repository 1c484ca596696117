/- The range of ticks of the program (ticksBetween) where nothing wraps, and Max of what comes behind a tick. -/
import Derived.Test.YtfnhfpahdgbfgaaLset
namespace Go.Proofs.Ytfnhfpahdgbfgaa
open Go.ChangeShapes Go.WideShapes Go.ChangeAt Go.RowKit
set_option linter.unusedVariables false
theorem rmax (a b : Int) (w : World) :
    Calls Try.prog 57 #[.int .i64 a, .int .i64 b] w fun e w' => e = .returned (.int .i64 (mxf a b)) ∧ Below w.heap.size w w' := by
  have hc : (w.alloc (Obj.cells #[.int .i64 b] 3)).cell? ⟨w.heap.size, 0, none⟩ = some (.int .i64 b) := by go_cell
  go_enter Try.func57, Try.ntmps57
  go_wp2_with (go_at_call 70; refine (lag _ _ _ _ hc).mono ?_; rintro e w' ⟨rfl, rfl⟩)
  go_ret
  exact ⟨rfl, (Below.refl _ _).alloc (Nat.le_refl _) _⟩
theorem rmin (a b : Int) (w : World) :
    Calls Try.prog 69 #[.int .i64 a, .int .i64 b] w fun e w' => e = .returned (.int .i64 (mnf a b)) ∧ Below w.heap.size w w' := by
  have hc : (w.alloc (Obj.cells #[.int .i64 b] 3)).cell? ⟨w.heap.size, 0, none⟩ = some (.int .i64 b) := by go_cell
  go_enter Try.func69, Try.ntmps69
  go_wp2_with (go_at_call 70; refine (lag _ _ _ _ hc).mono ?_; rintro e w' ⟨rfl, rfl⟩)
  go_ret
  exact ⟨rfl, (Below.refl _ _).alloc (Nat.le_refl _) _⟩
theorem rticks (w : World) (a b : Int) (ha : 0 ≤ a) (hb0 : -1000 ≤ b) (hb : b ≤ 1000) :
    Calls Try.prog 56 #[.int .i64 a, .int .i64 b] w fun e w' => e = .returned (.agg #[.int .i64 a, .int .i64 b]) ∧ Below w.heap.size w w' := by
  obtain ⟨W0, hW0⟩ : ∃ W, W = w.alloc (.cells #[.int .i64 0, .int .i64 0] 30) := ⟨_, rfl⟩
  obtain ⟨g, hg⟩ : ∃ g, g = w.heap.size := ⟨_, rfl⟩
  have T0 : Hid (Below w.heap.size w W0) := Lib.hid (by rw [hW0]; exact (Below.refl _ _).alloc (Nat.le_refl _) _)
  have Y0 : Hid (Blk W0 g 30 #[.int .i64 0, .int .i64 0]) := Lib.hid (by rw [hW0, hg]; exact Blk.new _ _ _)
  have HG : Hid (w.heap.size ≤ g) := Lib.hid (by omega)
  obtain ⟨m, hm⟩ : ∃ m, m = b - 1 := ⟨_, rfl⟩
  have hmb : -1001 ≤ m ∧ m ≤ 999 := by omega
  obtain rfl : b = m + 1 := by omega
  have h1 : mxf a 0 = a := by unfold mxf; split <;> omega
  have h2 : mnf m 999 = m := by unfold mnf; split <;> omega
  have hs : m + 1 - 1 = m := by omega
  clear hm
  go_enter Try.func56, Try.ntmps56
  go_wp2_with fail
  rw [← hW0, ← hg]
  clear hW0 hg
  refine (rmax a 0 _).mono ?_
  rintro e w1 ⟨rfl, b1⟩
  rw [h1]
  have B1 := Lib.hid b1
  clear b1 h1
  go_wp2_with fail
  refine (rmin _ 999 _).mono ?_
  rintro e w2 ⟨rfl, b2⟩
  rw [h2]
  have B2 := Lib.hid (B1.out.trans (b2.mono B1.out.size))
  have Y2 := Lib.hid (Y0.out.below B2.out Y0.out.lt)
  obtain ⟨e2, m0, e3, m1, n0, n1⟩ := two_out Y2.out (.int .i64 a) (.int .i64 (m + 1))
  have HO : Hid (Below w.heap.size w ((w2.setCell ⟨g, 0, none⟩ (.int .i64 a)).setCell ⟨g, 1, none⟩ (.int .i64 (m + 1)))) := Lib.hid (((T0.out.trans (B2.out.mono T0.out.size)).setCell HG.out _).setCell HG.out _)
  clear b2 h2 hs
  go_wp2
  (try simp only [Exit.inBlock, Exit.then])
  refine bodyPost_ret (v := .agg #[.int .i64 a, .int .i64 (m + 1)]) (by simp [results, Try.results56, go_sem, n0, n1]; try rfl) rfl ⟨rfl, HO.out⟩
end Go.Proofs.Ytfnhfpahdgbfgaa
