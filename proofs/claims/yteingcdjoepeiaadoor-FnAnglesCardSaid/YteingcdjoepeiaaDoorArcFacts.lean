/- Plain facts on angles and arcs: what law FnAngles says of them. -/
import Derived.Test.YteingcdjoepeiaaDoorArc3
namespace Go.Proofs.YteingcdjoepeiaaDoor
theorem gap_sym (a b : Int) : gapf b a = gapf a b := by unfold gapf mnf; split <;> split <;> omega
theorem gap_bd (a b : Int) : 0 ≤ gapf a b ∧ gapf a b ≤ 180 := by unfold gapf mnf ang; split <;> omega
theorem gap_zero (a b : Int) : gapf a b = 0 ↔ ang a = ang b := by
  unfold gapf mnf ang; split <;> constructor <;> intro h <;> omega
theorem inA_iff {s wd a : Int} : inA s wd a = true ↔ 0 ≤ wd ∧ ang (ang a - ang s) ≤ wd := by unfold inA; simp
theorem wid_has {s wd d t : Int} (h : (0 ≤ d ∧ d ≤ 360) ∧ 0 ≤ wd ∧ wd < 360) (ht : inA s wd t = true) (u : Int) (hu : u = t ∨ u = t + d ∨ u = t - d) : inA (widS s wd d) (widW wd d) u = true := by
  obtain ⟨e1, e2⟩ := wid_yes (s := s) (wd := wd) (d := d) h
  rw [e1, e2]
  rw [inA_iff] at ht ⊢
  unfold mnf ang at *
  rcases hu with rfl | rfl | rfl <;> split <;> omega
theorem mid_bd (s wd : Int) : 0 ≤ midf s wd ∧ midf s wd < 360 := by unfold midf ang; split <;> omega
theorem mid_in {s wd : Int} (h : 0 ≤ wd) : inA s wd (midf s wd) = true := by
  rw [inA_iff]
  refine ⟨h, ?_⟩
  by_cases h2 : wd < 360
  · unfold midf; rw [if_pos ⟨h, h2⟩]; unfold ang; omega
  · have := ang_hi (ang (midf s wd) - ang s); omega
/-- is one of the first k angles in both arcs? -/
def someA (s wd s' wd' : Int) (k : Nat) : Bool := (List.range k).any fun d => inA s wd (d : Int) && inA s' wd' (d : Int)
theorem someA_zero (s wd s' wd' : Int) : someA s wd s' wd' 0 = false := rfl
theorem someA_succ (s wd s' wd' : Int) (k : Nat) : someA s wd s' wd' (k + 1) = (someA s wd s' wd' k || (inA s wd (k : Int) && inA s' wd' (k : Int))) := by
  unfold someA; rw [List.range_succ, List.any_append]; simp
theorem inA_ang (s wd a : Int) : inA s wd (ang a) = inA s wd a := by
  unfold inA; rw [show ang (ang a) = ang a by unfold ang; omega]
theorem someA_meet (s wd s' wd' : Int) : someA s wd s' wd' 360 = meetA s wd s' wd' := by
  rw [Bool.eq_iff_iff]
  constructor
  · intro h
    unfold someA at h
    rw [List.any_eq_true] at h
    obtain ⟨d, hd, h⟩ := h
    rw [Bool.and_eq_true, inA_iff, inA_iff] at h
    obtain ⟨⟨h1, h2⟩, h3, h4⟩ := h
    rw [meetA_eq]
    by_cases hle : ang (ang (d : Int) - ang s) ≤ ang (ang (d : Int) - ang s')
    · have : inA s' wd' s = true := by rw [inA_iff]; refine ⟨h3, ?_⟩; unfold ang at *; omega
      simp [this, h1, h3]
    · have : inA s wd s' = true := by rw [inA_iff]; refine ⟨h1, ?_⟩; unfold ang at *; omega
      simp [this, h1, h3]
  · intro h
    unfold meetA at h
    unfold someA
    rw [List.any_eq_true]
    have key : ∀ a : Int, (inA s wd a && inA s' wd' a) = true → ∃ x, x ∈ List.range 360 ∧ (inA s wd (x : Int) && inA s' wd' (x : Int)) = true := by
      intro a ha
      have h0 := ang_lo a; have h1 := ang_hi a
      refine ⟨(ang a).toNat, by rw [List.mem_range]; omega, ?_⟩
      rw [Int.toNat_of_nonneg h0, inA_ang, inA_ang]; exact ha
    rw [Bool.or_eq_true] at h
    rcases h with h | h
    · exact key s h
    · exact key s' h
end Go.Proofs.YteingcdjoepeiaaDoor
