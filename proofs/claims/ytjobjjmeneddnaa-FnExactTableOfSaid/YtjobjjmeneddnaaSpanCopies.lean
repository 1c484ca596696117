/- The contracts of the laws' own helpers on slices of spans: copies, comparisons, marks. -/
import Derived.Test.YtjobjjmeneddnaaSpanPut
import Derived.Test.YtjobjjmeneddnaaCopies
import Derived.Deep.QuietTactic
import Derived.BigQuiet
import Derived.Deep.RegionHeld3
namespace Go.Proofs.Ytjobjjmeneddnaa
open Go.ChangeShapes Go.WideShapes Go.ChangeAt Go.RowKit
set_option linter.unusedVariables false
theorem Own.fill2 {w : World} {B : Nat} {E : TypeId} {g n c : Nat} {M xs : List Value} {k : Nat} {u v : Value} (h : Own w B E 2 (some ⟨g, 0, none⟩) n c (M.take (k * 2) ++ xs.drop (k * 2))) (hl : xs.length = M.length) (hk : k * 2 + 1 < M.length)
    (hu : M[k * 2]? = some u) (hv : M[k * 2 + 1]? = some v) :
    Own ((w.setCell ⟨g, k * 2, none⟩ u).setCell ⟨g, k * 2 + 1, none⟩ v) B E 2 (some ⟨g, 0, none⟩) n c (M.take ((k + 1) * 2) ++ xs.drop ((k + 1) * 2)) ∧
      w.grownBy ((w.setCell ⟨g, k * 2, none⟩ u).setCell ⟨g, k * 2 + 1, none⟩ v) (some g) := by
  have eu : u = M[k * 2] := by rw [List.getElem?_eq_getElem (by omega)] at hu; exact (Option.some.inj hu).symm
  have ev : v = M[k * 2 + 1] := by rw [List.getElem?_eq_getElem hk] at hv; exact (Option.some.inj hv).symm
  have h1 := h.row.stored (k * 2) u
  rw [eu, fill_set M xs (k * 2) hl (by omega), ← eu] at h1
  have h2 := h1.1.stored (k * 2 + 1) v
  rw [ev, fill_set M xs (k * 2 + 1) hl hk, ← ev] at h2
  refine ⟨⟨?_⟩, h1.2.trans h2.2⟩
  have e : (k + 1) * 2 = k * 2 + 1 + 1 := by omega
  rw [e]; exact h2.1
theorem Own.cell2 {w : World} {B : Nat} {E : TypeId} {g n c : Nat} {xs : List Value} (h : Own w B E 2 (some ⟨g, 0, none⟩) n c xs) (j : Nat) (hj : j < n * 2) : ∃ u, w.cell? ⟨g, j, none⟩ = some u := by
  have := h.row.cellAt j hj
  rw [this]
  exact ⟨xs[j]'(by have := h.len; omega), List.getElem?_eq_getElem _⟩
theorem marks64_at (a : Int) (n k : Nat) (h : k < n) : (marks64 a n)[k]? = some (.int .i64 (a + k)) := by
  rw [List.getElem?_eq_getElem (by rw [marks64_len]; exact h), marks64_get]
end Go.Proofs.Ytjobjjmeneddnaa
