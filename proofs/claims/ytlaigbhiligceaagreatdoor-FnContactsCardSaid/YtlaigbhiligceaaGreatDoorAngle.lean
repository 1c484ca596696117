/- What chapter 5's functions on angles answer, of the program and of the model. -/
import Derived.Test.YtlaigbhiligceaaGreatDoorProg
import Derived.Test.YtlaigbhiligceaaGreatDoorInts
import Derived.WalkKit
import Derived.ProofKit
import Derived.OpenShut
import Derived.Handy
import Derived.Lib.Hide
namespace Go.Proofs.YtlaigbhiligceaaGreatDoor
open Go.ChangeShapes Go.WideShapes Go.ChangeAt Go.RowKit
set_option linter.unusedVariables false
/-- the angle of a number -/
def ang (n : Int) : Int := n % 360
theorem ang_eq (n : Int) : modf n 360 = ang n := by unfold modf ang; rw [if_pos (by omega)]
theorem ang_lo (n : Int) : 0 ≤ ang n := by unfold ang; omega
theorem ang_hi (n : Int) : ang n < 360 := by unfold ang; omega
/-- the gap between two angles -/
def gapf (a b : Int) : Int := mnf (ang (ang a - ang b)) (ang (ang b - ang a))
theorem gapf_eq (a b : Int) : mnf (ang (ang a - ang b)) (360 - ang (ang a - ang b)) = gapf a b := by
  unfold gapf mnf ang; split <;> split <;> omega
theorem iang (n : Int) (w : World) :
    Calls Tryz.prog 166 #[.int .i64 n] w fun e w' => e = .returned (.int .i64 (ang n)) ∧ w = w' := by
  go_enter Tryz.func166, Tryz.ntmps166
  go_wp2_with fail
  refine (imod _ _ _).mono ?_
  rintro e w' ⟨rfl, rfl⟩
  go_wp2
  go_ret
  exact ⟨ret_int (ang_eq n), rfl⟩
theorem sang (n : Int) (w : World) :
    Calls Tryz.prog 105 #[.int .i64 n] w fun e w' => e = .returned (.int .i64 (ang n)) ∧ w = w' := by
  go_enter Tryz.func105, Tryz.ntmps105
  go_wp2_with fail
  refine (smod _ _ _).mono ?_
  rintro e w' ⟨rfl, rfl⟩
  go_wp2
  go_ret
  exact ⟨ret_int (ang_eq n), rfl⟩
theorem iminB (a b : Int) (w : World) :
    Calls Tryz.prog 11 #[.int .i64 a, .int .i64 b] w fun e w' => e = .returned (.int .i64 (mnf a b)) ∧ Below w.heap.size w w' := by
  have hc : (w.alloc (Obj.cells #[.int .i64 b] 3)).cell? ⟨w.heap.size, 0, none⟩ = some (.int .i64 b) := by go_cell
  go_enter Tryz.func11, Tryz.ntmps11
  go_wp2_with (go_at_call 36; refine (lag _ _ _ _ hc).mono ?_; rintro e w' ⟨rfl, rfl⟩)
  go_ret
  exact ⟨rfl, (Below.refl _ _).alloc (Nat.le_refl _) _⟩
theorem iangleAt (n : Int) (w : World) :
    Calls Tryz.prog 148 #[.int .i64 n] w fun e w' => e = .returned (.int .i64 (ang n)) ∧ w = w' := by
  go_enter Tryz.func148, Tryz.ntmps148
  go_wp2_with fail
  refine (iang _ _).mono ?_
  rintro e w' ⟨rfl, rfl⟩
  go_wp2
  go_ret
  exact ⟨rfl, rfl⟩
theorem iturned (a by_ : Int) (w : World) (h1 : -9223372036854775808 ≤ a + by_) (h2 : a + by_ ≤ 9223372036854775807) :
    Calls Tryz.prog 150 #[.int .i64 a, .int .i64 by_] w fun e w' => e = .returned (.int .i64 (ang (a + by_))) ∧ w = w' := by
  go_enter Tryz.func150, Tryz.ntmps150
  go_wp2_with fail
  refine (iangleAt _ _).mono ?_
  rintro e w' ⟨rfl, rfl⟩
  go_wp2
  go_ret
  exact ⟨rfl, rfl⟩
theorem iafter (a b : Int) (w : World) (h1 : -9223372036854775808 ≤ a - b) (h2 : a - b ≤ 9223372036854775807) :
    Calls Tryz.prog 167 #[.int .i64 a, .int .i64 b] w fun e w' => e = .returned (.int .i64 (ang (a - b))) ∧ w = w' := by
  go_enter Tryz.func167, Tryz.ntmps167
  go_wp2_with fail
  refine (iang _ _).mono ?_
  rintro e w' ⟨rfl, rfl⟩
  go_wp2
  go_ret
  exact ⟨rfl, rfl⟩
theorem igap (a b : Int) (w : World) (h1 : 0 ≤ a) (h2 : a < 360) (h3 : 0 ≤ b) (h4 : b < 360) :
    Calls Tryz.prog 149 #[.int .i64 a, .int .i64 b] w fun e w' => e = .returned (.int .i64 (mnf (ang (a - b)) (ang (b - a)))) ∧ Below w.heap.size w w' := by
  go_enter Tryz.func149, Tryz.ntmps149
  go_wp2_with fail
  refine (iafter _ _ _ (by omega) (by omega)).mono ?_
  rintro e w1 ⟨rfl, rfl⟩
  go_wp2_with fail
  refine (iafter _ _ _ (by omega) (by omega)).mono ?_
  rintro e w2 ⟨rfl, rfl⟩
  go_wp2_with fail
  refine (iminB _ _ _).mono ?_
  rintro e w3 ⟨rfl, g⟩
  have G := Lib.hid g; clear g
  go_wp2
  go_ret
  exact ⟨rfl, G.out⟩
theorem igapOf (a b : Int) (w : World) :
    Calls Tryz.prog 127 #[.int .i64 a, .int .i64 b] w fun e w' => e = .returned (.int .i64 (gapf a b)) ∧ Below w.heap.size w w' := by
  go_enter Tryz.func127, Tryz.ntmps127
  go_wp2_with fail
  refine (iangleAt _ _).mono ?_
  rintro e w1 ⟨rfl, rfl⟩
  go_wp2_with fail
  refine (iangleAt _ _).mono ?_
  rintro e w2 ⟨rfl, rfl⟩
  go_wp2_with fail
  refine (igap _ _ _ (ang_lo _) (ang_hi _) (ang_lo _) (ang_hi _)).mono ?_
  rintro e w3 ⟨rfl, g⟩
  have G := Lib.hid g; clear g
  go_wp2
  go_ret
  exact ⟨rfl, G.out⟩
theorem sgapOf (a b : Int) (w : World) :
    Calls Tryz.prog 170 #[.int .i64 a, .int .i64 b] w fun e w' => e = .returned (.int .i64 (gapf a b)) ∧ w = w' := by
  have l1 := ang_lo a; have l2 := ang_hi a; have l3 := ang_lo b; have l4 := ang_hi b
  have l5 := ang_lo (ang a - ang b); have l6 := ang_hi (ang a - ang b)
  go_enter Tryz.func170, Tryz.ntmps170
  go_wp2_with fail
  refine (sang _ _).mono ?_
  rintro e w1 ⟨rfl, rfl⟩
  go_wp2_with fail
  refine (sang _ _).mono ?_
  rintro e w2 ⟨rfl, rfl⟩
  go_wp2_with fail
  refine (sang _ _).mono ?_
  rintro e w3 ⟨rfl, rfl⟩
  go_wp2_with fail
  refine (smin _ _ _).mono ?_
  rintro e w4 ⟨rfl, rfl⟩
  go_wp2
  go_ret
  exact ⟨ret_int (gapf_eq a b), rfl⟩
end Go.Proofs.YtlaigbhiligceaaGreatDoor
