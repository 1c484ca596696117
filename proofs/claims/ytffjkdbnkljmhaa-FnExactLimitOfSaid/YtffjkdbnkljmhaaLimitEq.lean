/- The model's neighbors are the program's. -/
import Derived.Test.YtffjkdbnkljmhaaLimit4
import Derived.Test.YtffjkdbnkljmhaaLimitS2
namespace Go.Proofs.Ytffjkdbnkljmhaa
open Go.ChangeShapes Go.WideShapes Go.ChangeAt Go.RowKit
set_option linter.unusedVariables false
theorem near_eq (P p q : Int) : nearM P p q = nearI P p q := by
  have hle : mnf p q ≤ mxf p q := by unfold mnf mxf; split <;> split <;> omega
  unfold nearM nearI
  generalize mnf p q = lo at hle ⊢
  generalize mxf p q = hi at hle ⊢
  by_cases g1 : lo < 0
  · simp [g1]
  by_cases g2 : lo < hi
  · by_cases g3 : hi - lo = 1
    · simp [g1, g2, g3]
    · by_cases g4 : lo = 0
      · by_cases g5 : hi = P - 1
        · by_cases g6 : hi ≤ 4
          · have e1 : hi + 1 = P := by omega
            have e2 : 1 ≤ P - 1 ∧ P - 1 ≤ 4 := by omega
            rw [decide_eq_true e1, decide_eq_true e2, decide_eq_true g5, decide_eq_true g6, decide_eq_true g2]; simp
          · have e2 : ¬ (1 ≤ P - 1 ∧ P - 1 ≤ 4) := by omega
            rw [decide_eq_false e2, decide_eq_false g6, decide_eq_true g2]; simp
        · have e1 : ¬ hi + 1 = P := by omega
          rw [decide_eq_false e1, decide_eq_false g5, decide_eq_true g2]; simp
      · rw [decide_eq_false g4, decide_eq_true g2]; simp
  · have e0 : hi = lo := by omega
    have e1 : ¬ (hi - lo = 1) := by omega
    rw [decide_eq_false g2, decide_eq_false e1]
    by_cases g4 : lo = 0
    · have e2 : (decide (hi = P - 1) && decide (1 ≤ P - 1 ∧ P - 1 ≤ 4)) = false := by simp; omega
      rw [e2]; simp
    · rw [decide_eq_false g4]; simp
end Go.Proofs.Ytffjkdbnkljmhaa
