/- The program's SunAt. -/
import Derived.Test.YtpaedbmdcbmpiaaNodes
import Derived.Test.YtpaedbmdcbmpiaaOrbit
namespace Go.Proofs.Ytpaedbmdcbmpiaa
open Go.ChangeShapes Go.WideShapes Go.ChangeAt Go.RowKit
set_option linter.unusedVariables false
theorem isun (w : World) (P R X V U D Q : Int) (ns ni nz : Nat) (ls : List Sat4) (li lz : List Tri) (As : Option Addr) (cs : Nat) (Ai : Option Addr) (ci : Nat) (Az : Option Addr) (cz : Nat) (t z : Int) (hz : plc 0 U t = z) :
    Calls Try.prog 7 #[.agg #[.int .i64 P, .slice As ns cs, .slice Ai ni ci, .int .i64 R, .int .i64 X, .int .i64 V, .int .i64 U, .int .i64 D, .slice Az nz cz, .int .i64 Q], .int .i64 t] w (Num w z) := by
  obtain ⟨W0, hW0⟩ : ∃ W, W = w.alloc (.cells #[.int .i64 P, .slice As ns cs, .slice Ai ni ci, .int .i64 R, .int .i64 X, .int .i64 V, .int .i64 U, .int .i64 D, .slice Az nz cz, .int .i64 Q] 33) := ⟨_, rfl⟩
  have T0 : Hid (Below w.heap.size w W0) := Lib.hid (by rw [hW0]; exact (Below.refl _ _).alloc (Nat.le_refl _) _)
  have Z0 : Hid (Blk W0 w.heap.size 33 #[.int .i64 P, .slice As ns cs, .slice Ai ni ci, .int .i64 R, .int .i64 X, .int .i64 V, .int .i64 U, .int .i64 D, .slice Az nz cz, .int .i64 Q]) := Lib.hid (by rw [hW0]; exact Blk.new _ _ _)
  obtain ⟨c0, c1, c2, c3, c4, c5, c6, c7, c8, c9⟩ := Z0.out.ten
  have HZ := Lib.hid hz
  clear hz
  go_enter Try.func7, Try.ntmps7
  go_wp2_with fail
  rw [← hW0]
  refine (iplace 0 0 U 0 t _).mono ?_
  rintro e w1 ⟨rfl, b1⟩
  have HF := Lib.hid (T0.out.trans (b1.mono T0.out.size))
  rw [show plc 0 U t = z from HZ.out]
  clear b1 hW0
  go_wp2
  go_ret
  exact ⟨rfl, HF.out⟩
end Go.Proofs.Ytpaedbmdcbmpiaa
