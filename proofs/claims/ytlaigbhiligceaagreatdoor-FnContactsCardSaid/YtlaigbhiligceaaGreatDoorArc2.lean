/- WidenArc and MiddleOf, of the program and of the model, and the laws' own helpers on arcs. WidenArc, of the program and of the model. -/
import Derived.Test.YtlaigbhiligceaaGreatDoorArc
import Derived.StillTailTactics
namespace Go.Proofs.YtlaigbhiligceaaGreatDoor
open Go.ChangeShapes Go.WideShapes Go.ChangeAt Go.RowKit
set_option linter.unusedVariables false
/-- a call that answers an integer and makes memory of its own at most -/
def SaysI (w : World) (z : Int) (e : Ending) (w' : World) : Prop := e = .returned (.int .i64 z) ∧ Below w.heap.size w w'
/-- a call that answers a pair -/
def SaysP (w : World) (x y : Int) (e : Ending) (w' : World) : Prop := e = .returned (.agg #[.int .i64 x, .int .i64 y]) ∧ Below w.heap.size w w'
/-- the angle in the middle -/
def midf (s wd : Int) : Int := if 0 ≤ wd ∧ wd < 360 then ang (ang s + wd / 2) else ang s
theorem imiddle (w : World) (nA tW : Addr) (E : Errs w nA tW) (s wd : Int) (z : Int) (h : midf s wd = z) :
    Calls Tryz.prog 128 #[.agg #[.int .i64 s, .int .i64 wd]] w (SaysI w z) := by
  have E1 := Lib.hid (E.more #[.int .i64 s, .int .i64 wd] 115)
  have O1 := Lib.hid (one_more w #[.int .i64 s, .int .i64 wd] 115)
  clear E
  have l3 := ang_lo s; have l4 := ang_hi s
  by_cases h1 : wd < 0
  · obtain rfl : ang s = z := by rw [← h]; unfold midf; rw [if_neg (by omega)]
    clear h
    go_enter Tryz.func128, Tryz.ntmps128
    go_wp2_with fail
    refine (iangleAt s _).mono ?_
    rintro e w2 ⟨rfl, rfl⟩
    go_wp2_with fail
    refine (iwf_n E1.out wd h1).mono ?_
    rintro e w2 ⟨rfl, rfl⟩
    go_wp2
    go_ret
    exact ⟨rfl, O1.out⟩
  by_cases h2 : 360 ≤ wd
  · obtain rfl : ang s = z := by rw [← h]; unfold midf; rw [if_neg (by omega)]
    clear h
    go_enter Tryz.func128, Tryz.ntmps128
    go_wp2_with fail
    refine (iangleAt s _).mono ?_
    rintro e w2 ⟨rfl, rfl⟩
    go_wp2_with fail
    refine (iwf_t E1.out wd h2).mono ?_
    rintro e w2 ⟨rfl, rfl⟩
    go_wp2
    go_ret
    exact ⟨rfl, O1.out⟩
  · have q : wd.tdiv 2 = wd / 2 := Int.tdiv_eq_ediv_of_nonneg (by omega)
    obtain rfl : ang (ang s + wd.tdiv 2) = z := by rw [← h, q]; unfold midf; rw [if_pos (by omega)]
    have q1 : 0 ≤ wd.tdiv 2 := by omega
    have q2 : wd.tdiv 2 < 360 := by omega
    clear h q
    go_enter Tryz.func128, Tryz.ntmps128
    go_wp2_with fail
    refine (iangleAt s _).mono ?_
    rintro e w2 ⟨rfl, rfl⟩
    go_wp2_with fail
    refine (iwf_o _ wd (by omega) (by omega)).mono ?_
    rintro e w2 ⟨rfl, rfl⟩
    go_wp2_with fail
    refine (iturned _ _ _ (by omega) (by omega)).mono ?_
    rintro e w2 ⟨rfl, rfl⟩
    go_wp2
    go_ret
    exact ⟨rfl, O1.out⟩
theorem smiddle (w : World) (s wd : Int) (z : Int) (h : midf s wd = z) :
    Calls Tryz.prog 171 #[.agg #[.int .i64 s, .int .i64 wd]] w (SaysI w z) := by
  have O1 := Lib.hid (one_more w #[.int .i64 s, .int .i64 wd] 115)
  have l3 := ang_lo s; have l4 := ang_hi s
  by_cases h1 : 0 ≤ wd ∧ wd ≤ 359
  · have q : wd.tdiv 2 = wd / 2 := Int.tdiv_eq_ediv_of_nonneg (by omega)
    obtain rfl : ang (ang s + wd.tdiv 2) = z := by rw [← h, q]; unfold midf; rw [if_pos (by omega)]
    have q1 : 0 ≤ wd.tdiv 2 := by omega
    have q2 : wd.tdiv 2 < 360 := by omega
    have q3 : IntKind.i64.wrap (wd.tdiv 2) = wd.tdiv 2 := IntWalk.i64_in _ (by omega)
    have q4 : IntKind.i64.wrap (ang s + wd.tdiv 2) = ang s + wd.tdiv 2 := IntWalk.i64_in _ (by omega)
    clear h q
    go_enter Tryz.func171, Tryz.ntmps171
    go_wp2_with fail
    refine (sinr_t _ _ _ _ h1.1 h1.2).mono ?_
    rintro e w2 ⟨rfl, rfl⟩
    go_wp2_with fail
    go_quiet (first
      | (go_at_call_of 105 (Value.int .i64 s); refine Calls.quiet_eq (sang s _))
      | (go_at_call 105; refine Calls.quiet_eq (sang _ _)))
    go_wp2
    go_ret
    exact ⟨rfl, below_drawn O1.out _⟩
  · obtain rfl : ang s = z := by rw [← h]; unfold midf; rw [if_neg (by omega)]
    have H1 := Lib.hid h1
    clear h h1
    go_enter Tryz.func171, Tryz.ntmps171
    go_wp2_with fail
    refine (sinr_f _ _ _ _ H1.out).mono ?_
    rintro e w2 ⟨rfl, rfl⟩
    go_wp2_with fail
    refine (sang s _).mono ?_
    rintro e w2 ⟨rfl, rfl⟩
    go_wp2
    go_ret
    exact ⟨rfl, O1.out⟩
theorem toarc (w : World) (x y : Int) :
    Calls Tryz.prog 141 #[.agg #[.int .i64 x, .int .i64 y]] w (SaysP w x y) := by
  go_enter Tryz.func141, Tryz.ntmps141
  go_wp2
  refine bodyPost_ret (v := .agg #[.int .i64 x, .int .i64 y]) (by simp [results, Tryz.results141, go_sem]) rfl ⟨rfl, ?_⟩
  exact (((Below.refl _ _).alloc (Nat.le_refl _) _).alloc (by simp) _).alloc (by simp; omega) _
theorem eqarc2_same (w : World) (x y : Int) :
    Calls Tryz.prog 142 #[.agg #[.int .i64 x, .int .i64 y], .agg #[.int .i64 x, .int .i64 y]] w (Says w true) := by
  go_enter Tryz.func142, Tryz.ntmps142
  go_wp2
  go_ret
  exact ⟨rfl, ((Below.refl _ _).alloc (Nat.le_refl _) _).alloc (by simp) _⟩
end Go.Proofs.YtlaigbhiligceaaGreatDoor
namespace Go.Proofs.YtlaigbhiligceaaGreatDoor
open Go.ChangeShapes Go.WideShapes Go.ChangeAt Go.RowKit
set_option linter.unusedVariables false
/-- an arc, widened -/
def widS (s wd d : Int) : Int := if (0 ≤ d ∧ d ≤ 360) ∧ 0 ≤ wd ∧ wd < 360 then ang (ang s - d) else ang s
def widW (wd d : Int) : Int := if (0 ≤ d ∧ d ≤ 360) ∧ 0 ≤ wd ∧ wd < 360 then mnf (2 * d + wd) 359 else wd
theorem wid_no {s wd d : Int} (h : ¬ ((0 ≤ d ∧ d ≤ 360) ∧ 0 ≤ wd ∧ wd < 360)) : widS s wd d = ang s ∧ widW wd d = wd := by unfold widS widW; rw [if_neg h, if_neg h]; exact ⟨rfl, rfl⟩
theorem wid_yes {s wd d : Int} (h : (0 ≤ d ∧ d ≤ 360) ∧ 0 ≤ wd ∧ wd < 360) : widS s wd d = ang (ang s - d) ∧ widW wd d = mnf (2 * d + wd) 359 := by unfold widS widW; rw [if_pos h, if_pos h]; exact ⟨rfl, rfl⟩
theorem iwiden (w : World) (nA tW : Addr) (E : Errs w nA tW) (s wd d x y : Int) (hx : widS s wd d = x) (hy : widW wd d = y) :
    Calls Tryz.prog 203 #[.agg #[.int .i64 s, .int .i64 wd], .int .i64 d] w (SaysP w x y) := by
  have T := Lib.hid (Two.start w s wd 0 0)
  have E1 := Lib.hid (E.below (((Below.refl _ _).alloc (Nat.le_refl _) (.cells #[.int .i64 s, .int .i64 wd] 115)).alloc (by simp) (.cells #[.int .i64 0, .int .i64 0] 115)))
  clear E
  have l3 := ang_lo s; have l4 := ang_hi s
  by_cases h1 : 0 ≤ d ∧ d ≤ 360
  · by_cases h2 : wd < 0
    · obtain ⟨e1, e2⟩ := wid_no (s := s) (wd := wd) (d := d) (by omega)
      rw [e1] at hx; rw [e2] at hy
      subst hx hy
      have H1 := Lib.hid h1
      clear h1 e1 e2
      go_enter Tryz.func203, Tryz.ntmps203
      go_wp2_with fail
      refine (iangleAt s _).mono ?_
      rintro e w2 ⟨rfl, rfl⟩
      go_wp2_with fail
      refine (iinr_t _ _ _ _ H1.out.1 H1.out.2).mono ?_
      rintro e w2 ⟨rfl, rfl⟩
      go_wp2_with fail
      refine (iwf_n E1.out wd h2).mono ?_
      rintro e w2 ⟨rfl, rfl⟩
      go_wp2
      refine bodyPost_ret (v := .agg #[.int .i64 (ang s), .int .i64 wd]) (by simp [results, Tryz.results203, go_sem]) rfl ⟨rfl, ?_⟩
      exact ((Below.refl _ _).alloc (Nat.le_refl _) _).alloc (by simp) _
    by_cases h3 : 360 ≤ wd
    · obtain ⟨e1, e2⟩ := wid_no (s := s) (wd := wd) (d := d) (by omega)
      rw [e1] at hx; rw [e2] at hy
      subst hx hy
      have H1 := Lib.hid h1
      clear h1 e1 e2
      go_enter Tryz.func203, Tryz.ntmps203
      go_wp2_with fail
      refine (iangleAt s _).mono ?_
      rintro e w2 ⟨rfl, rfl⟩
      go_wp2_with fail
      refine (iinr_t _ _ _ _ H1.out.1 H1.out.2).mono ?_
      rintro e w2 ⟨rfl, rfl⟩
      go_wp2_with fail
      refine (iwf_t E1.out wd h3).mono ?_
      rintro e w2 ⟨rfl, rfl⟩
      go_wp2
      refine bodyPost_ret (v := .agg #[.int .i64 (ang s), .int .i64 wd]) (by simp [results, Tryz.results203, go_sem]) rfl ⟨rfl, ?_⟩
      exact ((Below.refl _ _).alloc (Nat.le_refl _) _).alloc (by simp) _
    · obtain ⟨e1, e2⟩ := wid_yes (s := s) (wd := wd) (d := d) (by omega)
      rw [e1, Int.sub_eq_add_neg] at hx; rw [e2] at hy
      have HX := Lib.hid hx; have HY := Lib.hid hy
      have H1 := Lib.hid h1; have H2 : Hid (0 ≤ wd ∧ wd < 360) := Lib.hid (by omega)
      have TD := Lib.hid (T.out.drawn 1)
      obtain ⟨c0, c1, c2, c3⟩ := T.out.cells
      have g1 : IntKind.i64.wrap (-d) = -d := IntWalk.i64_in _ (by omega)
      have g2 : IntKind.i64.wrap (2 * d) = 2 * d := IntWalk.i64_in _ (by omega)
      have g3 : IntKind.i64.wrap (2 * d + wd) = 2 * d + wd := IntWalk.i64_in _ (by omega)
      clear e1 e2 hx hy
      go_enter Tryz.func203, Tryz.ntmps203
      go_wp2_with fail
      refine (iangleAt s _).mono ?_
      rintro e w2 ⟨rfl, rfl⟩
      go_wp2_with fail
      refine (iinr_t _ _ _ _ H1.out.1 H1.out.2).mono ?_
      rintro e w2 ⟨rfl, rfl⟩
      go_wp2_with fail
      refine (iwf_o _ wd H2.out.1 H2.out.2).mono ?_
      rintro e w2 ⟨rfl, rfl⟩
      go_wp2_with fail
      go_region_held3 (fun w' => w'.cell? ⟨w.heap.size, 1, none⟩ = some (.int .i64 wd)) (first | assumption | go_keep) (first
        | (go_at_call 150; refine (iturned _ _ _ (by omega) (by omega)).mono ?_; rintro e wA ⟨rfl, rfl⟩; rw [HX.out])
        | (go_at_call 11; refine (iminB _ _ _).mono ?_; rintro e wM ⟨rfl, bM⟩; rw [HY.out]; have TM := Lib.hid (TD.out.on bM); have kM := TM.out.cells.2.1; have e2 : wM.cell? ⟨w.heap.size + 1, 0, none⟩ = some (.int .i64 0) := TM.out.by_.cell 0; have m0 : wM.frozen? ⟨w.heap.size + 1, 0, none⟩ = false := TM.out.by_.frozen 0; have e3 : (wM.setCell ⟨w.heap.size + 1, 0, none⟩ (.int .i64 x)).cell? ⟨w.heap.size + 1, 1, none⟩ = some (.int .i64 0) := (TM.out.by_.set_ 0 _).cell 1; have m1 : (wM.setCell ⟨w.heap.size + 1, 0, none⟩ (.int .i64 x)).frozen? ⟨w.heap.size + 1, 1, none⟩ = false := (TM.out.by_.set_ 0 _).frozen 1; clear bM))
      have B2 := TM.out.by_.set_ 0 (.int .i64 x)
      have B3 := B2.set_ 1 (.int .i64 y)
      have n0 : ((wM.setCell ⟨w.heap.size + 1, 0, none⟩ (.int .i64 x)).setCell ⟨w.heap.size + 1, 1, none⟩ (.int .i64 y)).cell? ⟨w.heap.size + 1, 0, none⟩ = some (.int .i64 x) := B3.cell 0
      have n1 : ((wM.setCell ⟨w.heap.size + 1, 0, none⟩ (.int .i64 x)).setCell ⟨w.heap.size + 1, 1, none⟩ (.int .i64 y)).cell? ⟨w.heap.size + 1, 1, none⟩ = some (.int .i64 y) := B3.cell 1
      have HO : Hid (Below w.heap.size w ((wM.setCell ⟨w.heap.size + 1, 0, none⟩ (.int .i64 x)).setCell ⟨w.heap.size + 1, 1, none⟩ (.int .i64 y))) := Lib.hid ((TM.out.bel.setCell (by simp) _).setCell (by simp) _)
      clear B2 B3 e2 e3 m0 m1 kM
      go_wp2
      (try simp only [Exit.inBlock, Exit.then])
      refine bodyPost_ret (v := .agg #[.int .i64 x, .int .i64 y]) (by simp [results, Tryz.results203, go_sem, n0, n1]; try rfl) rfl ⟨rfl, HO.out⟩
  · obtain ⟨e1, e2⟩ := wid_no (s := s) (wd := wd) (d := d) (by omega)
    rw [e1] at hx; rw [e2] at hy
    subst hx hy
    have H1 := Lib.hid h1
    clear h1 e1 e2
    go_enter Tryz.func203, Tryz.ntmps203
    go_wp2_with fail
    refine (iangleAt s _).mono ?_
    rintro e w2 ⟨rfl, rfl⟩
    go_wp2_with fail
    refine (iinr_f _ _ _ _ H1.out).mono ?_
    rintro e w2 ⟨rfl, rfl⟩
    go_wp2
    refine bodyPost_ret (v := .agg #[.int .i64 (ang s), .int .i64 wd]) (by simp [results, Tryz.results203, go_sem]) rfl ⟨rfl, ?_⟩
    exact ((Below.refl _ _).alloc (Nat.le_refl _) _).alloc (by simp) _
theorem mnf_turn (a b : Int) : mnf 359 (b + 2 * a) = mnf (2 * a + b) 359 := by unfold mnf; split <;> split <;> omega
theorem swiden (w : World) (s wd d x y : Int) (hx : widS s wd d = x) (hy : widW wd d = y) :
    Calls Tryz.prog 180 #[.agg #[.int .i64 s, .int .i64 wd], .int .i64 d] w (SaysP w x y) := by
  have T := Lib.hid (Two.start w s wd 0 0)
  obtain ⟨c0, c1, c2, c3⟩ := T.out.cells
  have l3 := ang_lo s; have l4 := ang_hi s
  by_cases h1 : 0 ≤ d ∧ d ≤ 360
  · by_cases h2 : 0 ≤ wd ∧ wd ≤ 359
    · obtain ⟨e1, e2⟩ := wid_yes (s := s) (wd := wd) (d := d) (by omega)
      rw [e1] at hx; rw [e2, ← mnf_turn] at hy
      have HX := Lib.hid hx; have HY := Lib.hid hy
      have H1 := Lib.hid h1; have H2 := Lib.hid h2
      have g1 : IntKind.i64.wrap (ang s - d) = ang s - d := IntWalk.i64_in _ (by omega)
      have g2 : IntKind.i64.wrap (2 * d) = 2 * d := IntWalk.i64_in _ (by omega)
      have g3 : IntKind.i64.wrap (wd + 2 * d) = wd + 2 * d := IntWalk.i64_in _ (by omega)
      clear e1 e2 hx hy
      go_enter Tryz.func180, Tryz.ntmps180
      go_wp2_with fail
      refine (sinr_t _ _ _ _ H1.out.1 H1.out.2).mono ?_
      rintro e w2 ⟨rfl, rfl⟩
      go_wp2_with fail
      refine (sinr_t _ _ _ _ H2.out.1 H2.out.2).mono ?_
      rintro e w2 ⟨rfl, rfl⟩
      go_wp2_with fail
      go_region_held3 (fun w' => w'.cell? ⟨w.heap.size, 1, none⟩ = some (.int .i64 wd) ∧ w'.cell? ⟨w.heap.size, 0, none⟩ = some (.int .i64 s)) (first | exact ⟨c1, c0⟩ | go_keep) (first
        | (go_at_call_of 105 (Value.int .i64 s); refine (sang s _).mono ?_; rintro e wA ⟨rfl, rfl⟩)
        | (go_at_call 105; refine (sang _ _).mono ?_; rintro e wA ⟨rfl, rfl⟩; rw [HX.out])
        | (go_at_call 51; refine (smin _ _ _).mono ?_; rintro e wM ⟨rfl, rfl⟩; rw [HY.out]))
      go_wp2
      (try simp only [Exit.inBlock, Exit.then])
      refine bodyPost_ret (v := .agg #[.int .i64 x, .int .i64 y]) (by simp [results, Tryz.results180, go_sem]; try rfl) rfl ⟨rfl, ?_⟩
      exact (((Below.refl _ _).alloc (Nat.le_refl _) _).alloc (by simp) _).drew
    · obtain ⟨e1, e2⟩ := wid_no (s := s) (wd := wd) (d := d) (by omega)
      rw [e1] at hx; rw [e2] at hy
      subst hx hy
      have H1 := Lib.hid h1; have H2 := Lib.hid h2
      clear h1 h2 e1 e2
      go_enter Tryz.func180, Tryz.ntmps180
      go_wp2_with fail
      refine (sinr_t _ _ _ _ H1.out.1 H1.out.2).mono ?_
      rintro e w2 ⟨rfl, rfl⟩
      go_wp2_with fail
      refine (sinr_f _ _ _ _ H2.out).mono ?_
      rintro e w2 ⟨rfl, rfl⟩
      go_wp2_with fail
      go_region_held3 (fun w' => w'.cell? ⟨w.heap.size, 1, none⟩ = some (.int .i64 wd) ∧ w'.cell? ⟨w.heap.size, 0, none⟩ = some (.int .i64 s)) (first | exact ⟨c1, c0⟩ | go_keep) (first
        | (go_at_call 105; refine (sang _ _).mono ?_; rintro e wA ⟨rfl, rfl⟩))
      go_wp2
      (try simp only [Exit.inBlock, Exit.then])
      refine bodyPost_ret (v := .agg #[.int .i64 (ang s), .int .i64 wd]) (by simp [results, Tryz.results180, go_sem]; try rfl) rfl ⟨rfl, ?_⟩
      exact (((Below.refl _ _).alloc (Nat.le_refl _) _).alloc (by simp) _).drew
  · obtain ⟨e1, e2⟩ := wid_no (s := s) (wd := wd) (d := d) (by omega)
    rw [e1] at hx; rw [e2] at hy
    subst hx hy
    have H1 := Lib.hid h1
    clear h1 e1 e2
    go_enter Tryz.func180, Tryz.ntmps180
    go_wp2_with fail
    refine (sinr_f _ _ _ _ H1.out).mono ?_
    rintro e w2 ⟨rfl, rfl⟩
    go_wp2_with fail
    go_region_held3 (fun w' => w'.cell? ⟨w.heap.size, 1, none⟩ = some (.int .i64 wd) ∧ w'.cell? ⟨w.heap.size, 0, none⟩ = some (.int .i64 s)) (first | exact ⟨c1, c0⟩ | go_keep) (first
      | (go_at_call 105; refine (sang _ _).mono ?_; rintro e wA ⟨rfl, rfl⟩))
    go_wp2
    (try simp only [Exit.inBlock, Exit.then])
    refine bodyPost_ret (v := .agg #[.int .i64 (ang s), .int .i64 wd]) (by simp [results, Tryz.results180, go_sem]; try rfl) rfl ⟨rfl, ?_⟩
    exact (((Below.refl _ _).alloc (Nat.le_refl _) _).alloc (by simp) _).drew
end Go.Proofs.YtlaigbhiligceaaGreatDoor
