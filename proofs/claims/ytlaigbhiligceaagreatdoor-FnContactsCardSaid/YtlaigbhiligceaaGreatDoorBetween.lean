/- The ticks of a range as the program takes them: Max, ticksBetween. -/
import Derived.Test.YtlaigbhiligceaaGreatDoorPlaces
namespace Go.Proofs.YtlaigbhiligceaaGreatDoor
open Go.ChangeShapes Go.WideShapes Go.ChangeAt Go.RowKit
set_option linter.unusedVariables false
/-- the first tick that counts, and the one behind the last -/
def lowT (from_ : Int) : Int := mxf from_ 0
def highT (till : Int) : Int := mnf (wrap64 (till - 1)) 999 + 1
theorem low_bd (from_ : Int) (h : J64 from_) : 0 ≤ lowT from_ ∧ lowT from_ ≤ 9223372036854775807 := by unfold lowT mxf; unfold J64 at h; split <;> omega
theorem high_bd (till : Int) : -9223372036854775807 ≤ highT till ∧ highT till ≤ 1000 := by unfold highT mnf wrap64; split <;> omega
theorem imaxB (a b : Int) (w : World) :
    Calls Tryz.prog 12 #[.int .i64 a, .int .i64 b] w fun e w' => e = .returned (.int .i64 (mxf a b)) ∧ Below w.heap.size w w' := by
  have hc : (w.alloc (Obj.cells #[.int .i64 b] 3)).cell? ⟨w.heap.size, 0, none⟩ = some (.int .i64 b) := by go_cell
  go_enter Tryz.func12, Tryz.ntmps12
  go_wp2_with (go_at_call 36; refine (lag _ _ _ _ hc).mono ?_; rintro e w' ⟨rfl, rfl⟩)
  go_ret
  exact ⟨rfl, (Below.refl _ _).alloc (Nat.le_refl _) _⟩
theorem ibetween (w : World) (from_ till lo hi : Int) (h1 : J64 till) (hlo : lowT from_ = lo) (hhi : highT till = hi) :
    Calls Tryz.prog 165 #[.int .i64 from_, .int .i64 till] w (SaysP w lo hi) := by
  obtain ⟨W0, hW0⟩ : ∃ W, W = w.alloc (.cells #[.int .i64 0, .int .i64 0] 83) := ⟨_, rfl⟩
  have T0 : Hid (Below w.heap.size w W0) := Lib.hid (by rw [hW0]; exact (Below.refl _ _).alloc (Nat.le_refl _) _)
  have Y0 : Hid (Blk W0 w.heap.size 83 #[.int .i64 0, .int .i64 0]) := Lib.hid (by rw [hW0]; exact Blk.new _ _ _)
  obtain ⟨L, hL⟩ : ∃ z, wrap64 (till - 1) = z := ⟨_, rfl⟩
  obtain ⟨m, hm⟩ : ∃ z, mnf L 999 = z := ⟨_, rfl⟩
  have hmb : -9223372036854775808 ≤ m ∧ m ≤ 999 := by rw [← hm, ← hL]; unfold mnf wrap64; split <;> omega
  have hmh : m + 1 = hi := by rw [← hhi, ← hm, ← hL]; rfl
  subst hmh
  have HLO := Lib.hid hlo; have HM := Lib.hid hm
  clear hlo hm hhi
  go_enter Tryz.func165, Tryz.ntmps165
  go_wp2_with fail
  rw [← hW0]
  clear hW0
  refine (imaxB from_ 0 _).mono ?_
  rintro e w1 ⟨rfl, b1⟩
  rw [show mxf from_ 0 = lo from HLO.out]
  have B1 := Lib.hid b1
  clear b1
  go_wp2_with fail
  refine (iminB L 999 _).mono ?_
  rintro e w2 ⟨rfl, b2⟩
  rw [HM.out]
  have B2 := Lib.hid (B1.out.trans (b2.mono B1.out.size))
  have Y2 := Lib.hid (Y0.out.below B2.out Y0.out.lt)
  obtain ⟨e2, m0, e3, m1, n0, n1⟩ := pair_out Y2.out lo (m + 1)
  have HO : Hid (Below w.heap.size w ((w2.setCell ⟨w.heap.size, 0, none⟩ (.int .i64 lo)).setCell ⟨w.heap.size, 1, none⟩ (.int .i64 (m + 1)))) := Lib.hid (((T0.out.trans (B2.out.mono T0.out.size)).setCell (by simp) _).setCell (by simp) _)
  clear b2
  go_wp2
  (try simp only [Exit.inBlock, Exit.then])
  refine bodyPost_ret (v := .agg #[.int .i64 lo, .int .i64 (m + 1)]) (by simp [results, Tryz.results165, go_sem, n0, n1]; try rfl) rfl ⟨rfl, HO.out⟩
end Go.Proofs.YtlaigbhiligceaaGreatDoor
