/- Arcs of drawn skies are even and narrow; the gap of a difference of angles, and how far it moves. -/
import Derived.Test.YtpaedbmdcbmpiaaDoorPlaces
import Derived.Test.YtpaedbmdcbmpiaaDoorDrawSats
namespace Go.Proofs.YtpaedbmdcbmpiaaDoor
open Go.RowKit
set_option linter.unusedVariables false
/-- an arc of a drawn sky is at most 42 wide, and even -/
theorem arcW_even (ls : List Sat4) (li : List Tri) (node : Int) (h : ∀ x ∈ ls, Oke x) : ∃ p : Int, arcW ls li node = 2 * p ∧ 0 ≤ p ∧ p ≤ 21 := by
  by_cases h0 : node < 0
  · exact ⟨0, by unfold arcW; rw [if_pos h0]; rfl, by omega, by omega⟩
  by_cases h1 : node < ls.length
  · obtain ⟨k, rfl⟩ : ∃ k : Nat, node = k := ⟨node.toNat, by omega⟩
    have hk : k < ls.length := by omega
    have he := (h _ (List.getElem_mem hk)).2.2.2.2
    rw [(arc_sat ls li 0 hk).2]
    unfold widW
    by_cases h2 : (0 ≤ ls[k].e ∧ ls[k].e ≤ 360) ∧ 0 ≤ (0 : Int) ∧ (0 : Int) < 360
    · rw [if_pos h2]
      exact ⟨ls[k].e, by unfold mnf; split <;> omega, by omega, he⟩
    · rw [if_neg h2]; exact ⟨0, rfl, by omega, by omega⟩
  · exact ⟨0, by unfold arcW; rw [if_neg h0, if_neg h1]; rfl, by omega, by omega⟩
/-- the gap of a difference of angles -/
def gapc (d : Int) : Int := mnf (d % 360) (-d % 360)
theorem gapf_c (a b : Int) : gapf a b = gapc (a - b) := by
  unfold gapf gapc ang
  have e1 : (a % 360 - b % 360) % 360 = (a - b) % 360 := by omega
  have e2 : (b % 360 - a % 360) % 360 = -(a - b) % 360 := by omega
  rw [e1, e2]
theorem gapc_turn (a b : Int) (h : a % 360 = b % 360) : gapc a = gapc b := by
  have e : -a % 360 = -b % 360 := by omega
  unfold gapc; rw [h, e]
theorem gapc_step (x y m : Int) (h0 : y - x ≤ m) (h1 : x - y ≤ m) (h2 : m ≤ 84) : gapc y ≤ gapc x + m := by
  unfold gapc mnf
  split <;> split <;> omega
end Go.Proofs.YtpaedbmdcbmpiaaDoor
