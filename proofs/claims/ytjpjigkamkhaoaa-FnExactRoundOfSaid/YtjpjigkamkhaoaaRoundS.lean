/- The model's RoundOf answers the round of the satellite. -/
import Derived.Test.YtjpjigkamkhaoaaOrbit
namespace Go.Proofs.Ytjpjigkamkhaoaa
open Go.ChangeShapes Go.WideShapes Go.ChangeAt Go.RowKit
set_option linter.unusedVariables false
/-- a call that answers the round of a satellite of speed v -/
def SaysRound (w : World) (v : Int) (e : Ending) (w' : World) : Prop := (∃ r, IsRound v r ∧ e = .returned (.int .i64 r)) ∧ Below w.heap.size w w'
theorem sround (pl ph v er : Int) (w : World) :
    Calls Try.prog 8 #[.agg #[.int .i64 pl, .int .i64 ph, .int .i64 v, .int .i64 er]] w (SaysRound w v) := by
  obtain ⟨s, hs⟩ : ∃ s, spd v = s := ⟨_, rfl⟩
  have l1 : -60 ≤ s := hs ▸ spd_lo v
  have l2 : s ≤ 60 := hs ▸ spd_hi v
  have HS := Lib.hid hs
  have hR : ∀ r, 1 ≤ r → r ≤ 360 → ang (s * r) = 0 → (∀ u, 1 ≤ u → u < r → ang (s * u) ≠ 0) → IsRound v r := fun r h1 h2 h3 h4 => ⟨h1, h2, by rw [hs]; exact h3, by rw [hs]; exact h4⟩
  have HR := Lib.hid hR
  have O1 := Lib.hid (orb_one w #[.int .i64 pl, .int .i64 ph, .int .i64 v, .int .i64 er] 25)
  have c2 : (w.alloc (.cells #[.int .i64 pl, .int .i64 ph, .int .i64 v, .int .i64 er] 25)).cell? ⟨w.heap.size, 2, none⟩ = some (.int .i64 v) := (Blk.new w 25 #[.int .i64 pl, .int .i64 ph, .int .i64 v, .int .i64 er]).cell 2
  clear hs hR
  go_enter Try.func8, Try.ntmps8
  go_wp2
  obtain ⟨W1, hW⟩ : ∃ W1, w.alloc (.cells #[.int .i64 pl, .int .i64 ph, .int .i64 v, .int .i64 er] 25) = W1 := ⟨_, rfl⟩
  rw [hW] at c2 O1 ⊢
  clear hW
  go_loopw [3] (fun i wr => ∃ k : Int, 1 ≤ k ∧ k ≤ 360 ∧ i = .int .i64 k ∧ wr = W1 ∧ Hid (∀ u, 1 ≤ u → u < k → ang (s * u) ≠ 0)) (fun i _ => 360 - (intOf i).toNat)
  case atStart => exact ⟨1, by omega, by omega, rfl, rfl, Lib.hid (fun u h1 h2 => by omega)⟩
  case round =>
    obtain ⟨k, hk1, hk2, rfl, rfl, HU⟩ := hrel
    by_cases hlt : k < 360
    · have l5 := (prod_bd l1 l2 (t := k) (by omega) (by omega)).1
      have l6 := (prod_bd l1 l2 (t := k) (by omega) (by omega)).2
      go_wp2_with fail
      refine (sspd v s _ HS.out).mono ?_
      rintro e w2 ⟨rfl, rfl⟩
      go_wp2_with fail
      refine (sang (s * k) _).mono ?_
      rintro e w2 ⟨rfl, rfl⟩
      by_cases hz : ang (s * k) = 0
      · have HZ := Lib.hid hz
        go_wp2
        go_ret
        exact ⟨⟨k, HR.out k hk1 hk2 HZ.out HU.out, rfl⟩, O1.out⟩
      · have HZ := Lib.hid hz
        go_wp2
        go_roundw
        case rel =>
          refine ⟨k + 1, by omega, by omega, rfl, trivial, Lib.hid (fun u h1 h2 => ?_)⟩
          by_cases he : u = k
          · rw [he]; exact HZ.out
          · exact HU.out u h1 (by omega)
        case measure => simp [intOf]; omega
    · obtain rfl : k = 360 := by omega
      go_wp2
      go_ret
      exact ⟨⟨360, HR.out 360 (by omega) (by omega) (ang_turn s) HU.out, rfl⟩, O1.out⟩
end Go.Proofs.Ytjpjigkamkhaoaa
