/- The model's PlaceAt, in plain words: it takes the angle of the phase before it adds. -/
import Derived.Test.YtpaedbmdcbmpiaaOrbit
import Derived.Deep.QuietTactic
import Derived.BigQuiet
import Derived.Deep.RegionHeld3
namespace Go.Proofs.Ytpaedbmdcbmpiaa
open Go.ChangeShapes Go.WideShapes Go.ChangeAt Go.RowKit
set_option linter.unusedVariables false
def plS (ph v t : Int) : Int := ang (ang ph + spd v * tck t)
theorem plS_zero (v t : Int) : plS 0 v t = plc 0 v t := by
  have h := prod_bd (spd_lo v) (spd_hi v) (tck_lo t) (tck_hi t)
  unfold plS plc
  have e : wrap64 (0 + spd v * tck t) = 0 + spd v * tck t := by
    generalize spd v * tck t = z at h ⊢
    unfold wrap64; omega
  rw [e]; rfl
theorem splace (pl ph v er t z : Int) (w : World) (hz : plS ph v t = z) :
    Calls Try.prog 12 #[.agg #[.int .i64 pl, .int .i64 ph, .int .i64 v, .int .i64 er], .int .i64 t] w fun e w' => e = .returned (.int .i64 z) ∧ Below w.heap.size w w' := by
  have O1 := Lib.hid (orb_one w #[.int .i64 pl, .int .i64 ph, .int .i64 v, .int .i64 er] 42)
  obtain ⟨s, hs⟩ : ∃ s, spd v = s := ⟨_, rfl⟩
  obtain ⟨u, hu⟩ : ∃ u, tck t = u := ⟨_, rfl⟩
  have hp : ang (ang ph + s * u) = z := by rw [← hz]; unfold plS; rw [hs, hu]
  have HP := Lib.hid hp
  have l1 : -60 ≤ s := hs ▸ spd_lo v
  have l2 : s ≤ 60 := hs ▸ spd_hi v
  have l3 : 0 ≤ u := hu ▸ tck_lo t
  have l4 : u ≤ 1000 := hu ▸ tck_hi t
  have l5 := (prod_bd l1 l2 l3 l4).1
  have l6 := (prod_bd l1 l2 l3 l4).2
  have l7 := ang_lo ph; have l8 := ang_hi ph
  have q1 : IntKind.i64.wrap (s * u) = s * u := IntWalk.i64_in _ (by omega)
  have q2 : IntKind.i64.wrap (ang ph + s * u) = ang ph + s * u := IntWalk.i64_in _ (by omega)
  have HS : Hid (spd v = s) := Lib.hid hs
  by_cases ht : 0 ≤ t ∧ t ≤ 1000
  · obtain rfl : t = u := by rw [← hu]; exact (tck_in ht.1 ht.2).symm
    have HT := Lib.hid ht
    clear hp hs hu hz ht
    go_enter Try.func12, Try.ntmps12
    go_wp2_with fail
    refine (sinr_t _ _ _ _ HT.out.1 HT.out.2).mono ?_
    rintro e w1 ⟨rfl, rfl⟩
    go_wp2_with fail
    go_quiet (first
      | (go_at_call 22; refine orb_quiet (sspd _ s _ HS.out))
      | (go_at_call_of 21 (Value.int .i64 ph); refine orb_quiet (sang ph _))
      | (go_at_call 21; refine orb_quiet (sang _ _)))
    go_wp2
    go_ret
    exact ⟨ret_int HP.out, orb_drawn O1.out _⟩
  · obtain rfl : 0 = u := by rw [← hu]; unfold tck orz; rw [if_neg ht]
    have HT := Lib.hid ht
    clear hp hs hu hz ht
    go_enter Try.func12, Try.ntmps12
    go_wp2_with fail
    refine (sinr_f _ _ _ _ HT.out).mono ?_
    rintro e w1 ⟨rfl, rfl⟩
    go_wp2_with fail
    go_quiet (first
      | (go_at_call 22; refine orb_quiet (sspd _ s _ HS.out))
      | (go_at_call_of 21 (Value.int .i64 ph); refine orb_quiet (sang ph _))
      | (go_at_call 21; refine orb_quiet (sang _ _)))
    go_wp2
    go_ret
    exact ⟨ret_int (by have h := HP.out; rw [Int.mul_zero, Int.add_zero] at h; exact h), orb_drawn O1.out _⟩
end Go.Proofs.Ytpaedbmdcbmpiaa
