/- Chapter 6 in plain words (a speed, a tick, a place, a round), and what the small functions of the program and of the model answer. -/
import Derived.Test.YtlaigbhiligceaaGreatDoorProg
import Derived.Test.YtlaigbhiligceaaGreatDoorWords
import Derived.Test.YtlaigbhiligceaaGreatDoorInts
import Derived.Test.YtlaigbhiligceaaGreatDoorAngle
import Derived.WalkKit
import Derived.ProofKit
import Derived.OpenShut
import Derived.Handy
import Derived.Lib.Hide
import Derived.LoopTactic
import Derived.Deep.QuietTactic
import Derived.BigQuiet
namespace Go.Proofs.YtlaigbhiligceaaGreatDoor
open Go.ChangeShapes Go.WideShapes Go.ChangeAt Go.RowKit
set_option linter.unusedVariables false
/-- a number, or 0 out of its range -/
def orz (n lo hi : Int) : Int := if lo ≤ n ∧ n ≤ hi then n else 0
/-- the speed that counts -/
def spd (v : Int) : Int := orz v (-60) 60
/-- the tick that counts -/
def tck (t : Int) : Int := orz t 0 1000
theorem spd_lo (v : Int) : -60 ≤ spd v := by unfold spd orz; split <;> omega
theorem spd_hi (v : Int) : spd v ≤ 60 := by unfold spd orz; split <;> omega
theorem tck_lo (v : Int) : 0 ≤ tck v := by unfold tck orz; split <;> omega
theorem tck_hi (v : Int) : tck v ≤ 1000 := by unfold tck orz; split <;> omega
theorem tck_in {t : Int} (h0 : 0 ≤ t) (h1 : t ≤ 1000) : tck t = t := by unfold tck orz; rw [if_pos ⟨h0, h1⟩]
theorem prod_bd {s t : Int} (h0 : -60 ≤ s) (h1 : s ≤ 60) (h2 : 0 ≤ t) (h3 : t ≤ 1000) : -60000 ≤ s * t ∧ s * t ≤ 60000 := by
  have a1 : s * t ≤ 60 * t := Int.mul_le_mul_of_nonneg_right h1 h2
  have a2 : -60 * t ≤ s * t := Int.mul_le_mul_of_nonneg_right h0 h2
  constructor <;> omega
/-- where the program's PlaceAt says that a satellite is: its sum wraps round -/
def plc (ph v t : Int) : Int := ang (wrap64 (ph + spd v * tck t))
/-- r is the round of a satellite of speed v -/
def IsRound (v r : Int) : Prop := 1 ≤ r ∧ r ≤ 360 ∧ ang (spd v * r) = 0 ∧ ∀ u, 1 ≤ u → u < r → ang (spd v * u) ≠ 0
theorem IsRound.eq {v r r' : Int} (h : IsRound v r) (h' : IsRound v r') : r = r' := by
  obtain ⟨a1, a2, a3, a4⟩ := h
  obtain ⟨b1, b2, b3, b4⟩ := h'
  rcases Int.lt_trichotomy r r' with hl | he | hg
  · exact absurd a3 (b4 r a1 hl)
  · exact he
  · exact absurd b3 (a4 r' b1 hg)
theorem ang_turn (s : Int) : ang (s * 360) = 0 := by unfold ang; omega
/-- beginning at 0, nothing wraps round -/
theorem plc_zero (v : Int) {t : Int} (h0 : 0 ≤ t) (h1 : t ≤ 1000) : plc 0 v t = ang (spd v * t) := by
  have hb := prod_bd (spd_lo v) (spd_hi v) h0 h1
  unfold plc
  rw [tck_in h0 h1, Int.zero_add]
  have : wrap64 (spd v * t) = spd v * t := by unfold wrap64; omega
  rw [this]
theorem orb_drawn {B : Nat} {a w : World} (h : Below B a w) (n : Nat) : Below B a (w.drewN n) := ⟨h.os, h.tape, h.output, h.size, h.block⟩
theorem orb_one (w : World) (c : Array Value) (t : TypeId) : Below w.heap.size w (w.alloc (.cells c t)) := (Below.refl _ _).alloc (Nat.le_refl _) _
theorem iorz (n lo hi r : Int) (w : World) (h : orz n lo hi = r) :
    Calls Tryz.prog 205 #[.int .i64 n, .int .i64 lo, .int .i64 hi] w fun e w' => e = .returned (.int .i64 r) ∧ w = w' := by
  by_cases hi : lo ≤ n ∧ n ≤ hi
  · obtain rfl : n = r := by rw [← h]; unfold orz; rw [if_pos hi]
    clear h
    go_enter Tryz.func205, Tryz.ntmps205
    go_wp2_with fail
    refine (iinr_t _ _ _ _ hi.1 hi.2).mono ?_
    rintro e w' ⟨rfl, rfl⟩
    go_wp2
    go_ret
    exact ⟨rfl, rfl⟩
  · obtain rfl : 0 = r := by rw [← h]; unfold orz; rw [if_neg hi]
    clear h
    go_enter Tryz.func205, Tryz.ntmps205
    go_wp2_with fail
    refine (iinr_f _ _ _ _ hi).mono ?_
    rintro e w' ⟨rfl, rfl⟩
    go_wp2
    go_ret
    exact ⟨rfl, rfl⟩
theorem sspd (n r : Int) (w : World) (h : spd n = r) :
    Calls Tryz.prog 181 #[.int .i64 n] w fun e w' => e = .returned (.int .i64 r) ∧ w = w' := by
  by_cases hi : -60 ≤ n ∧ n ≤ 60
  · obtain rfl : n = r := by rw [← h]; unfold spd orz; rw [if_pos hi]
    clear h
    go_enter Tryz.func181, Tryz.ntmps181
    go_wp2_with fail
    refine (sinr_t _ _ _ _ hi.1 hi.2).mono ?_
    rintro e w' ⟨rfl, rfl⟩
    go_wp2
    go_ret
    exact ⟨rfl, rfl⟩
  · obtain rfl : 0 = r := by rw [← h]; unfold spd orz; rw [if_neg hi]
    clear h
    go_enter Tryz.func181, Tryz.ntmps181
    go_wp2_with fail
    refine (sinr_f _ _ _ _ hi).mono ?_
    rintro e w' ⟨rfl, rfl⟩
    go_wp2
    go_ret
    exact ⟨rfl, rfl⟩
theorem orb_quiet {P : Program} {f : FuncId} {args : Array Value} {w : World} {n : Nat} {v : Value}
    (h : Calls P f args (w.drewN n) fun e w' => e = .returned v ∧ w.drewN n = w') : Calls P f args (w.drewN n) fun e w' => e = .returned v ∧ ∃ m, w' = w.drewN m :=
  h.mono fun e w' hh => ⟨hh.1, n, hh.2.symm⟩
theorem iplace (pl ph v er t : Int) (w : World) :
    Calls Tryz.prog 204 #[.agg #[.int .i64 pl, .int .i64 ph, .int .i64 v, .int .i64 er], .int .i64 t] w fun e w' => e = .returned (.int .i64 (plc ph v t)) ∧ Below w.heap.size w w' := by
  have O1 := Lib.hid (orb_one w #[.int .i64 pl, .int .i64 ph, .int .i64 v, .int .i64 er] 109)
  obtain ⟨s, hs⟩ : ∃ s, spd v = s := ⟨_, rfl⟩
  obtain ⟨u, hu⟩ : ∃ u, tck t = u := ⟨_, rfl⟩
  have hp : plc ph v t = ang (wrap64 (ph + s * u)) := by unfold plc; rw [hs, hu]
  have HP := Lib.hid hp
  have l1 : -60 ≤ s := hs ▸ spd_lo v
  have l2 : s ≤ 60 := hs ▸ spd_hi v
  have l3 : 0 ≤ u := hu ▸ tck_lo t
  have l4 : u ≤ 1000 := hu ▸ tck_hi t
  have l5 := (prod_bd l1 l2 l3 l4).1
  have l6 := (prod_bd l1 l2 l3 l4).2
  have HS : Hid (orz v (-60) 60 = s) := Lib.hid hs
  have HU : Hid (orz t 0 1000 = u) := Lib.hid hu
  clear hp hs hu
  go_enter Tryz.func204, Tryz.ntmps204
  go_wp2_with fail
  refine (iorz _ _ _ s _ HS.out).mono ?_
  rintro e w1 ⟨rfl, rfl⟩
  go_wp2_with fail
  go_quiet (first
    | (go_at_call 205; refine orb_quiet (iorz _ _ _ u _ HU.out))
    | (go_at_call 166; refine orb_quiet (iang _ _)))
  go_wp2
  go_ret
  exact ⟨ret_int HP.out.symm, orb_drawn O1.out _⟩
end Go.Proofs.YtlaigbhiligceaaGreatDoor
