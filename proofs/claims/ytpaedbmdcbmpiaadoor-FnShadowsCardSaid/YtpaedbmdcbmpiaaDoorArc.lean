/- What chapter 5's functions on arcs answer, of the program and of the model. -/
import Derived.Test.YtpaedbmdcbmpiaaDoorSentinels
import Derived.Test.YtpaedbmdcbmpiaaDoorAngle
import Derived.Test.YtpaedbmdcbmpiaaDoorSpan
import Derived.Deep.QuietTactic
import Derived.BigQuiet
import Derived.Deep.RegionHeld3
namespace Go.Proofs.YtpaedbmdcbmpiaaDoor
open Go.ChangeShapes Go.WideShapes Go.ChangeAt Go.RowKit
set_option linter.unusedVariables false
/-- is the angle of a in the arc from s on, wd degrees wide? -/
def inA (s wd a : Int) : Bool := decide (0 ≤ wd ∧ ang (ang a - ang s) ≤ wd)
theorem inA_neg {s wd a : Int} (h : wd < 0) : inA s wd a = false := by unfold inA; simp; omega
theorem inA_all {s wd a : Int} (h : 360 ≤ wd) : inA s wd a = true := by have := ang_hi (ang a - ang s); unfold inA; simp; omega
theorem inA_mid {s wd a : Int} (h : 0 ≤ wd) : inA s wd a = decide (ang (ang a - ang s) ≤ wd) := by unfold inA; simp [h]
/-- one block more keeps the sentinels -/
theorem Errs.more {w : World} {nA tW : Addr} (h : Errs w nA tW) (c : Array Value) (t : TypeId) : Errs (w.alloc (.cells c t)) nA tW := h.below ((Below.refl _ _).alloc (Nat.le_refl _) _)
theorem one_more (w : World) (c : Array Value) (t : TypeId) : Below w.heap.size w (w.alloc (.cells c t)) := (Below.refl _ _).alloc (Nat.le_refl _) _
/-- a callee that leaves the world, inside a region that only reads -/
theorem Calls.quiet_eq {P : Program} {f : FuncId} {args : Array Value} {w : World} {n : Nat} {v : Value}
    (h : Calls P f args (w.drewN n) fun e w' => e = .returned v ∧ w.drewN n = w') : Calls P f args (w.drewN n) fun e w'' => e = .returned v ∧ ∃ m, w'' = w.drewN m :=
  h.mono fun _ _ ⟨he, hm⟩ => ⟨he, n, hm.symm⟩
theorem below_drawn {B : Nat} {a w : World} (h : Below B a w) (n : Nat) : Below B a (w.drewN n) := ⟨h.os, h.tape, h.output, h.size, h.block⟩
/-- two blocks of the call's own, that hold an arc each -/
structure Two (w wr : World) (s wd s' wd' : Int) : Prop where
  bx : Blk wr w.heap.size 38 #[.int .i64 s, .int .i64 wd]
  by_ : Blk wr (w.heap.size + 1) 38 #[.int .i64 s', .int .i64 wd']
  bel : Below w.heap.size w wr
theorem Two.start (w : World) (s wd s' wd' : Int) : Two w ((w.alloc (.cells #[.int .i64 s, .int .i64 wd] 38)).alloc (.cells #[.int .i64 s', .int .i64 wd'] 38)) s wd s' wd' := by
  refine ⟨(Blk.new _ _ _).alloc _, ?_, ((Below.refl _ _).alloc (Nat.le_refl _) _).alloc (by simp) _⟩
  have h := Blk.new (w.alloc (.cells #[.int .i64 s, .int .i64 wd] 38)) 38 #[.int .i64 s', .int .i64 wd']
  simpa using h
theorem Two.size {w wr : World} {s wd s' wd' : Int} (h : Two w wr s wd s' wd') : w.heap.size + 1 < wr.heap.size := h.by_.lt
theorem Two.on {w wr wr' : World} {s wd s' wd' : Int} (h : Two w wr s wd s' wd') (hb : Below wr.heap.size wr wr') : Two w wr' s wd s' wd' :=
  ⟨h.bx.below hb h.bx.lt, h.by_.below hb h.by_.lt, h.bel.trans (hb.mono h.bel.size)⟩
theorem Two.drawn {w wr : World} {s wd s' wd' : Int} (h : Two w wr s wd s' wd') (n : Nat) : Two w (wr.drewN n) s wd s' wd' := ⟨h.bx.drewN _, h.by_.drewN _, below_drawn h.bel _⟩
theorem Two.cells {w wr : World} {s wd s' wd' : Int} (h : Two w wr s wd s' wd') : wr.cell? ⟨w.heap.size, 0, none⟩ = some (.int .i64 s) ∧ wr.cell? ⟨w.heap.size, 1, none⟩ = some (.int .i64 wd) ∧
    wr.cell? ⟨w.heap.size + 1, 0, none⟩ = some (.int .i64 s') ∧ wr.cell? ⟨w.heap.size + 1, 1, none⟩ = some (.int .i64 wd') := ⟨h.bx.cell 0, h.bx.cell 1, h.by_.cell 0, h.by_.cell 1⟩
/-- have two arcs an angle in common? -/
def meetA (s wd s' wd' : Int) : Bool := (inA s wd s && inA s' wd' s) || (inA s wd s' && inA s' wd' s')
theorem inA_own (s wd : Int) : inA s wd s = decide (0 ≤ wd) := by
  unfold inA
  have : ang (ang s - ang s) = 0 := by unfold ang; omega
  rw [this]; simp
theorem meetA_eq (s wd s' wd' : Int) : meetA s wd s' wd' = (decide (0 ≤ wd) && decide (0 ≤ wd') && (inA s wd s' || inA s' wd' s)) := by
  unfold meetA
  rw [inA_own, inA_own]
  by_cases h1 : 0 ≤ wd <;> by_cases h2 : 0 ≤ wd'
  · simp [h1, h2, Bool.or_comm]
  · simp [h1, h2, inA_neg (show wd' < 0 by omega)]
  · simp [h1, h2, inA_neg (show wd < 0 by omega)]
  · simp [h1, h2]
end Go.Proofs.YtpaedbmdcbmpiaaDoor
