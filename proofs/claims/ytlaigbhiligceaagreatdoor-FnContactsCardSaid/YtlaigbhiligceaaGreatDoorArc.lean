/- What chapter 5's functions on arcs answer, of the program and of the model. -/
import Derived.Test.YtlaigbhiligceaaGreatDoorSentinels
import Derived.Test.YtlaigbhiligceaaGreatDoorAngle
import Derived.Test.YtlaigbhiligceaaGreatDoorSpan
import Derived.Deep.QuietTactic
import Derived.BigQuiet
import Derived.Deep.RegionHeld3
namespace Go.Proofs.YtlaigbhiligceaaGreatDoor
open Go.ChangeShapes Go.WideShapes Go.ChangeAt Go.RowKit
set_option linter.unusedVariables false
/-- is the angle of a in the arc from s on, wd degrees wide? -/
def inA (s wd a : Int) : Bool := decide (0 ≤ wd ∧ ang (ang a - ang s) ≤ wd)
theorem inA_neg {s wd a : Int} (h : wd < 0) : inA s wd a = false := by unfold inA; simp; omega
theorem inA_all {s wd a : Int} (h : 360 ≤ wd) : inA s wd a = true := by have := ang_hi (ang a - ang s); unfold inA; simp; omega
theorem inA_mid {s wd a : Int} (h : 0 ≤ wd) : inA s wd a = decide (ang (ang a - ang s) ≤ wd) := by unfold inA; simp [h]
/-- one block more keeps the sentinels -/
theorem Errs.more {w : World} {nA tW : Addr} (h : Errs w nA tW) (c : Array Value) (t : TypeId) : Errs (w.alloc (.cells c t)) nA tW := h.below ((Below.refl _ _).alloc (Nat.le_refl _) _)
theorem one_more (w : World) (c : Array Value) (t : TypeId) : Below w.heap.size w (w.alloc (.cells c t)) := (Below.refl _ _).alloc (Nat.le_refl _) _
/-- a callee that leaves the world, inside a region that only reads -/
theorem Calls.quiet_eq {P : Program} {f : FuncId} {args : Array Value} {w : World} {n : Nat} {v : Value}
    (h : Calls P f args (w.drewN n) fun e w' => e = .returned v ∧ w.drewN n = w') : Calls P f args (w.drewN n) fun e w'' => e = .returned v ∧ ∃ m, w'' = w.drewN m :=
  h.mono fun _ _ ⟨he, hm⟩ => ⟨he, n, hm.symm⟩
theorem below_drawn {B : Nat} {a w : World} (h : Below B a w) (n : Nat) : Below B a (w.drewN n) := ⟨h.os, h.tape, h.output, h.size, h.block⟩
theorem iinarc (w : World) (nA tW : Addr) (E : Errs w nA tW) (s wd a : Int) (b : Bool) (h : inA s wd a = b) :
    Calls Tryz.prog 168 #[.agg #[.int .i64 s, .int .i64 wd], .int .i64 a] w (Says w b) := by
  have E1 := Lib.hid (E.more #[.int .i64 s, .int .i64 wd] 115)
  have O1 := Lib.hid (one_more w #[.int .i64 s, .int .i64 wd] 115)
  have hcT : (w.alloc (.cells #[.int .i64 s, .int .i64 wd] 115)).cell? ⟨2, 0, none⟩ = some (.iface 234 (.pointer (some tW))) := E1.out.cT
  clear E
  by_cases h1 : wd < 0
  · obtain rfl : b = false := by rw [← h, inA_neg h1]
    clear h
    go_enter Tryz.func168, Tryz.ntmps168
    go_wp2_with fail
    refine (iwf_n E1.out wd h1).mono ?_
    rintro e w2 ⟨rfl, rfl⟩
    go_wp2_with fail
    refine (is_nT E1.out).mono ?_
    rintro e w2 ⟨rfl, rfl⟩
    go_wp2
    go_ret
    exact ⟨rfl, O1.out⟩
  by_cases h2 : 360 ≤ wd
  · obtain rfl : b = true := by rw [← h, inA_all h2]
    clear h
    go_enter Tryz.func168, Tryz.ntmps168
    go_wp2_with fail
    refine (iwf_t E1.out wd h2).mono ?_
    rintro e w2 ⟨rfl, rfl⟩
    go_wp2_with fail
    refine (is_tT E1.out).mono ?_
    rintro e w2 ⟨rfl, rfl⟩
    go_wp2
    go_ret
    exact ⟨rfl, O1.out⟩
  · rw [inA_mid (by omega)] at h
    have HB := Lib.hid h
    have l1 := ang_lo a; have l2 := ang_hi a; have l3 := ang_lo s; have l4 := ang_hi s
    clear h hcT
    go_enter Tryz.func168, Tryz.ntmps168
    go_wp2_with fail
    refine (iwf_o _ wd (by omega) (by omega)).mono ?_
    rintro e w2 ⟨rfl, rfl⟩
    go_wp2_with fail
    go_quiet (first
      | (go_at_call_of 148 (Value.int .i64 a); refine Calls.quiet_eq (iangleAt a _))
      | (go_at_call_of 148 (Value.int .i64 s); refine Calls.quiet_eq (iangleAt s _))
      | (go_at_call 167; refine Calls.quiet_eq (iafter _ _ _ (by omega) (by omega))))
    go_wp2
    go_ret
    exact ⟨ret_bool HB.out, below_drawn O1.out _⟩
theorem sinarc (w : World) (s wd a : Int) (b : Bool) (h : inA s wd a = b) :
    Calls Tryz.prog 172 #[.agg #[.int .i64 s, .int .i64 wd], .int .i64 a] w (Says w b) := by
  have O1 := Lib.hid (one_more w #[.int .i64 s, .int .i64 wd] 115)
  by_cases h1 : 0 ≤ wd
  · rw [inA_mid h1] at h
    have HB := Lib.hid h
    have l1 := ang_lo a; have l2 := ang_hi a; have l3 := ang_lo s; have l4 := ang_hi s
    have d1 : decide (0 ≤ wd) = true := by simpa using h1
    clear h
    go_enter Tryz.func172, Tryz.ntmps172
    go_wp2_with fail
    go_quiet (first
      | (go_at_call_of 105 (Value.int .i64 a); refine Calls.quiet_eq (sang a _))
      | (go_at_call_of 105 (Value.int .i64 s); refine Calls.quiet_eq (sang s _))
      | (go_at_call 105; refine Calls.quiet_eq (sang _ _)))
    go_wp2
    go_ret
    exact ⟨ret_bool HB.out, below_drawn O1.out _⟩
  · obtain rfl : b = false := by rw [← h, inA_neg (by omega)]
    have d1 : decide (0 ≤ wd) = false := by simpa using h1
    clear h
    go_enter Tryz.func172, Tryz.ntmps172
    go_wp2_with fail
    go_quiet (fail)
    go_wp2
    go_ret
    exact ⟨rfl, below_drawn O1.out _⟩
/-- two blocks of the call's own, that hold an arc each -/
structure Two (w wr : World) (s wd s' wd' : Int) : Prop where
  bx : Blk wr w.heap.size 115 #[.int .i64 s, .int .i64 wd]
  by_ : Blk wr (w.heap.size + 1) 115 #[.int .i64 s', .int .i64 wd']
  bel : Below w.heap.size w wr
theorem Two.start (w : World) (s wd s' wd' : Int) : Two w ((w.alloc (.cells #[.int .i64 s, .int .i64 wd] 115)).alloc (.cells #[.int .i64 s', .int .i64 wd'] 115)) s wd s' wd' := by
  refine ⟨(Blk.new _ _ _).alloc _, ?_, ((Below.refl _ _).alloc (Nat.le_refl _) _).alloc (by simp) _⟩
  have h := Blk.new (w.alloc (.cells #[.int .i64 s, .int .i64 wd] 115)) 115 #[.int .i64 s', .int .i64 wd']
  simpa using h
theorem Two.size {w wr : World} {s wd s' wd' : Int} (h : Two w wr s wd s' wd') : w.heap.size + 1 < wr.heap.size := h.by_.lt
theorem Two.on {w wr wr' : World} {s wd s' wd' : Int} (h : Two w wr s wd s' wd') (hb : Below wr.heap.size wr wr') : Two w wr' s wd s' wd' :=
  ⟨h.bx.below hb h.bx.lt, h.by_.below hb h.by_.lt, h.bel.trans (hb.mono h.bel.size)⟩
theorem Two.drawn {w wr : World} {s wd s' wd' : Int} (h : Two w wr s wd s' wd') (n : Nat) : Two w (wr.drewN n) s wd s' wd' := ⟨h.bx.drewN _, h.by_.drewN _, below_drawn h.bel _⟩
theorem Two.cells {w wr : World} {s wd s' wd' : Int} (h : Two w wr s wd s' wd') : wr.cell? ⟨w.heap.size, 0, none⟩ = some (.int .i64 s) ∧ wr.cell? ⟨w.heap.size, 1, none⟩ = some (.int .i64 wd) ∧
    wr.cell? ⟨w.heap.size + 1, 0, none⟩ = some (.int .i64 s') ∧ wr.cell? ⟨w.heap.size + 1, 1, none⟩ = some (.int .i64 wd') := ⟨h.bx.cell 0, h.bx.cell 1, h.by_.cell 0, h.by_.cell 1⟩
theorem iboth (w : World) (nA tW : Addr) (E : Errs w nA tW) (s wd s' wd' a : Int) (b : Bool) (h : (inA s wd a && inA s' wd' a) = b) :
    Calls Tryz.prog 152 #[.agg #[.int .i64 s, .int .i64 wd], .agg #[.int .i64 s', .int .i64 wd'], .int .i64 a] w (Says w b) := by
  obtain ⟨v, hv⟩ : ∃ v, inA s wd a = v := ⟨_, rfl⟩
  obtain ⟨v', hv'⟩ : ∃ v, inA s' wd' a = v := ⟨_, rfl⟩
  rw [hv, hv'] at h
  have HV := Lib.hid hv; have HV' := Lib.hid hv'
  have T := Lib.hid (Two.start w s wd s' wd')
  have E1 := Lib.hid (E.below (((Below.refl _ _).alloc (Nat.le_refl _) (.cells #[.int .i64 s, .int .i64 wd] 115)).alloc (by simp) (.cells #[.int .i64 s', .int .i64 wd'] 115)))
  clear E hv hv'
  subst h
  go_enter Tryz.func152, Tryz.ntmps152
  go_wp2_with fail
  refine (iinarc _ nA tW E1.out s wd a v HV.out).mono ?_
  rintro e w2 ⟨rfl, b2⟩
  have T2 := Lib.hid (T.out.on b2)
  have E2 := Lib.hid (E1.out.below b2)
  obtain ⟨c0, c1, c2, c3⟩ := T2.out.cells
  clear b2 E1
  cases v
  · go_wp2
    go_ret
    exact ⟨rfl, T2.out.bel⟩
  · go_wp2_with fail
    refine (iinarc _ nA tW E2.out s' wd' a v' HV'.out).mono ?_
    rintro e w3 ⟨rfl, b3⟩
    have T3 := Lib.hid (T2.out.on b3)
    clear b3 c0 c1 c2 c3
    go_wp2
    go_ret
    exact ⟨rfl, T3.out.bel⟩
/-- have two arcs an angle in common? -/
def meetA (s wd s' wd' : Int) : Bool := (inA s wd s && inA s' wd' s) || (inA s wd s' && inA s' wd' s')
theorem inA_own (s wd : Int) : inA s wd s = decide (0 ≤ wd) := by
  unfold inA
  have : ang (ang s - ang s) = 0 := by unfold ang; omega
  rw [this]; simp
theorem meetA_eq (s wd s' wd' : Int) : meetA s wd s' wd' = (decide (0 ≤ wd) && decide (0 ≤ wd') && (inA s wd s' || inA s' wd' s)) := by
  unfold meetA
  rw [inA_own, inA_own]
  by_cases h1 : 0 ≤ wd <;> by_cases h2 : 0 ≤ wd'
  · simp [h1, h2, Bool.or_comm]
  · simp [h1, h2, inA_neg (show wd' < 0 by omega)]
  · simp [h1, h2, inA_neg (show wd < 0 by omega)]
  · simp [h1, h2]
theorem iameet (w : World) (nA tW : Addr) (E : Errs w nA tW) (s wd s' wd' : Int) (b : Bool) (h : meetA s wd s' wd' = b) :
    Calls Tryz.prog 130 #[.agg #[.int .i64 s, .int .i64 wd], .agg #[.int .i64 s', .int .i64 wd']] w (Says w b) := by
  obtain ⟨v, hv⟩ : ∃ v, (inA s wd s && inA s' wd' s) = v := ⟨_, rfl⟩
  obtain ⟨v', hv'⟩ : ∃ v, (inA s wd s' && inA s' wd' s') = v := ⟨_, rfl⟩
  unfold meetA at h
  rw [hv, hv'] at h
  have HV := Lib.hid hv; have HV' := Lib.hid hv'
  have T := Lib.hid (Two.start w s wd s' wd')
  have E1 := Lib.hid (E.below (((Below.refl _ _).alloc (Nat.le_refl _) (.cells #[.int .i64 s, .int .i64 wd] 115)).alloc (by simp) (.cells #[.int .i64 s', .int .i64 wd'] 115)))
  clear E hv hv'
  subst h
  go_enter Tryz.func130, Tryz.ntmps130
  go_wp2_with fail
  refine (iboth _ nA tW E1.out s wd s' wd' s v HV.out).mono ?_
  rintro e w2 ⟨rfl, b2⟩
  have T2 := Lib.hid (T.out.on b2)
  have E2 := Lib.hid (E1.out.below b2)
  obtain ⟨c0, c1, c2, c3⟩ := T2.out.cells
  clear b2 E1
  cases v
  · go_wp2_with fail
    refine (iboth _ nA tW E2.out s wd s' wd' s' v' HV'.out).mono ?_
    rintro e w3 ⟨rfl, b3⟩
    have T3 := Lib.hid (T2.out.on b3)
    clear b3 c0 c1 c2 c3
    go_wp2
    go_ret
    exact ⟨rfl, T3.out.bel⟩
  · go_wp2
    go_ret
    exact ⟨rfl, T2.out.bel⟩
theorem sameet (w : World) (s wd s' wd' : Int) (b : Bool) (h : meetA s wd s' wd' = b) :
    Calls Tryz.prog 158 #[.agg #[.int .i64 s, .int .i64 wd], .agg #[.int .i64 s', .int .i64 wd']] w (Says w b) := by
  rw [meetA_eq] at h
  have T := Lib.hid (Two.start w s wd s' wd')
  by_cases h1 : 0 ≤ wd <;> by_cases h2 : 0 ≤ wd'
  · obtain ⟨v, hv⟩ : ∃ v, inA s wd s' = v := ⟨_, rfl⟩
    obtain ⟨v', hv'⟩ : ∃ v, inA s' wd' s = v := ⟨_, rfl⟩
    obtain rfl : (v || v') = b := by rw [← h, hv, hv']; simp [h1, h2]
    have HV := Lib.hid hv; have HV' := Lib.hid hv'
    have d1 : decide (0 ≤ wd) = true := by simpa using h1
    have d2 : decide (0 ≤ wd') = true := by simpa using h2
    clear h hv hv'
    go_enter Tryz.func158, Tryz.ntmps158
    go_wp2_with fail
    refine (sinarc _ s wd s' v HV.out).mono ?_
    rintro e w2 ⟨rfl, b2⟩
    have T2 := Lib.hid (T.out.on b2)
    obtain ⟨c0, c1, c2, c3⟩ := T2.out.cells
    clear b2
    cases v
    · go_wp2_with fail
      refine (sinarc _ s' wd' s v' HV'.out).mono ?_
      rintro e w3 ⟨rfl, b3⟩
      have T3 := Lib.hid (T2.out.on b3)
      clear b3 c0 c1 c2 c3
      go_wp2
      go_ret
      exact ⟨rfl, T3.out.bel⟩
    · go_wp2
      go_ret
      exact ⟨rfl, T2.out.bel⟩
  all_goals
    obtain rfl : b = false := by rw [← h]; simp [h1, h2]
    clear h
    go_enter Tryz.func158, Tryz.ntmps158
    go_wp2
    go_ret
    exact ⟨rfl, T.out.bel⟩
end Go.Proofs.YtlaigbhiligceaaGreatDoor
