/- WidenArc and MiddleOf, of the program and of the model, and the laws' own helpers on arcs. -/
import Derived.Test.YtffjkdbnkljmhaaDoorArc
import Derived.StillTailTactics
namespace Go.Proofs.YtffjkdbnkljmhaaDoor
open Go.ChangeShapes Go.WideShapes Go.ChangeAt Go.RowKit
set_option linter.unusedVariables false
/-- a call that answers an integer and makes memory of its own at most -/
def SaysI (w : World) (z : Int) (e : Ending) (w' : World) : Prop := e = .returned (.int .i64 z) ∧ Below w.heap.size w w'
/-- a call that answers a pair -/
def SaysP (w : World) (x y : Int) (e : Ending) (w' : World) : Prop := e = .returned (.agg #[.int .i64 x, .int .i64 y]) ∧ Below w.heap.size w w'
/-- the angle in the middle -/
def midf (s wd : Int) : Int := if 0 ≤ wd ∧ wd < 360 then ang (ang s + wd / 2) else ang s
theorem imiddle (w : World) (nA tW : Addr) (E : Errs w nA tW) (s wd : Int) (z : Int) (h : midf s wd = z) :
    Calls Tryd.prog 86 #[.agg #[.int .i64 s, .int .i64 wd]] w (SaysI w z) := by
  have E1 := Lib.hid (E.more #[.int .i64 s, .int .i64 wd] 41)
  have O1 := Lib.hid (one_more w #[.int .i64 s, .int .i64 wd] 41)
  clear E
  have l3 := ang_lo s; have l4 := ang_hi s
  by_cases h1 : wd < 0
  · obtain rfl : ang s = z := by rw [← h]; unfold midf; rw [if_neg (by omega)]
    clear h
    go_enter Tryd.func86, Tryd.ntmps86
    go_wp2_with fail
    refine (iangleAt s _).mono ?_
    rintro e w2 ⟨rfl, rfl⟩
    go_wp2_with fail
    refine (iwf_n E1.out wd h1).mono ?_
    rintro e w2 ⟨rfl, rfl⟩
    go_wp2
    go_ret
    exact ⟨rfl, O1.out⟩
  by_cases h2 : 360 ≤ wd
  · obtain rfl : ang s = z := by rw [← h]; unfold midf; rw [if_neg (by omega)]
    clear h
    go_enter Tryd.func86, Tryd.ntmps86
    go_wp2_with fail
    refine (iangleAt s _).mono ?_
    rintro e w2 ⟨rfl, rfl⟩
    go_wp2_with fail
    refine (iwf_t E1.out wd h2).mono ?_
    rintro e w2 ⟨rfl, rfl⟩
    go_wp2
    go_ret
    exact ⟨rfl, O1.out⟩
  · have q : wd.tdiv 2 = wd / 2 := Int.tdiv_eq_ediv_of_nonneg (by omega)
    obtain rfl : ang (ang s + wd.tdiv 2) = z := by rw [← h, q]; unfold midf; rw [if_pos (by omega)]
    have q1 : 0 ≤ wd.tdiv 2 := by omega
    have q2 : wd.tdiv 2 < 360 := by omega
    clear h q
    go_enter Tryd.func86, Tryd.ntmps86
    go_wp2_with fail
    refine (iangleAt s _).mono ?_
    rintro e w2 ⟨rfl, rfl⟩
    go_wp2_with fail
    refine (iwf_o _ wd (by omega) (by omega)).mono ?_
    rintro e w2 ⟨rfl, rfl⟩
    go_wp2_with fail
    refine (iturned _ _ _ (by omega) (by omega)).mono ?_
    rintro e w2 ⟨rfl, rfl⟩
    go_wp2
    go_ret
    exact ⟨rfl, O1.out⟩
theorem smiddle (w : World) (s wd : Int) (z : Int) (h : midf s wd = z) :
    Calls Tryd.prog 67 #[.agg #[.int .i64 s, .int .i64 wd]] w (SaysI w z) := by
  have O1 := Lib.hid (one_more w #[.int .i64 s, .int .i64 wd] 41)
  have l3 := ang_lo s; have l4 := ang_hi s
  by_cases h1 : 0 ≤ wd ∧ wd ≤ 359
  · have q : wd.tdiv 2 = wd / 2 := Int.tdiv_eq_ediv_of_nonneg (by omega)
    obtain rfl : ang (ang s + wd.tdiv 2) = z := by rw [← h, q]; unfold midf; rw [if_pos (by omega)]
    have q1 : 0 ≤ wd.tdiv 2 := by omega
    have q2 : wd.tdiv 2 < 360 := by omega
    have q3 : IntKind.i64.wrap (wd.tdiv 2) = wd.tdiv 2 := IntWalk.i64_in _ (by omega)
    have q4 : IntKind.i64.wrap (ang s + wd.tdiv 2) = ang s + wd.tdiv 2 := IntWalk.i64_in _ (by omega)
    clear h q
    go_enter Tryd.func67, Tryd.ntmps67
    go_wp2_with fail
    refine (sinr_t _ _ _ _ h1.1 h1.2).mono ?_
    rintro e w2 ⟨rfl, rfl⟩
    go_wp2_with fail
    go_quiet (first
      | (go_at_call_of 90 (Value.int .i64 s); refine Calls.quiet_eq (sang s _))
      | (go_at_call 90; refine Calls.quiet_eq (sang _ _)))
    go_wp2
    go_ret
    exact ⟨rfl, below_drawn O1.out _⟩
  · obtain rfl : ang s = z := by rw [← h]; unfold midf; rw [if_neg (by omega)]
    have H1 := Lib.hid h1
    clear h h1
    go_enter Tryd.func67, Tryd.ntmps67
    go_wp2_with fail
    refine (sinr_f _ _ _ _ H1.out).mono ?_
    rintro e w2 ⟨rfl, rfl⟩
    go_wp2_with fail
    refine (sang s _).mono ?_
    rintro e w2 ⟨rfl, rfl⟩
    go_wp2
    go_ret
    exact ⟨rfl, O1.out⟩
theorem toarc (w : World) (x y : Int) :
    Calls Tryd.prog 118 #[.agg #[.int .i64 x, .int .i64 y]] w (SaysP w x y) := by
  go_enter Tryd.func118, Tryd.ntmps118
  go_wp2
  refine bodyPost_ret (v := .agg #[.int .i64 x, .int .i64 y]) (by simp [results, Tryd.results118, go_sem]) rfl ⟨rfl, ?_⟩
  exact (((Below.refl _ _).alloc (Nat.le_refl _) _).alloc (by simp) _).alloc (by simp; omega) _
theorem eqarc2_same (w : World) (x y : Int) :
    Calls Tryd.prog 119 #[.agg #[.int .i64 x, .int .i64 y], .agg #[.int .i64 x, .int .i64 y]] w (Says w true) := by
  go_enter Tryd.func119, Tryd.ntmps119
  go_wp2
  go_ret
  exact ⟨rfl, ((Below.refl _ _).alloc (Nat.le_refl _) _).alloc (by simp) _⟩
end Go.Proofs.YtffjkdbnkljmhaaDoor
