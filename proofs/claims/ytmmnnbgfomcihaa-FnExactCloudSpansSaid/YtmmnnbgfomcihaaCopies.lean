/- The contracts of the laws' own helpers on slices of bytes and of integers: copies, comparisons, marks. -/
import Derived.Test.YtmmnnbgfomcihaaProg
import Derived.Test.YtmmnnbgfomcihaaSlices
import Derived.WalkKit
import Derived.ProofKit
import Derived.OpenShut
import Derived.Handy
import Derived.Lib.Hide
import Derived.LoopTactic
import Derived.Deep.QuietTactic
import Derived.BigQuiet
namespace Go.Proofs.Ytmmnnbgfomcihaa
open Go.ChangeShapes Go.WideShapes Go.ChangeAt Go.RowKit
set_option linter.unusedVariables false
theorem u8_info : (Try.prog.info? 5).map (fun i => (i.zero, i.size, i.bytes)) = some (some (.int .u8 0), 1, 1) := by kernel_rfl
theorem fill_set (M xs : List Value) (k : Nat) (hl : xs.length = M.length) (hk : k < M.length) : (M.take k ++ xs.drop k).set k M[k] = M.take (k + 1) ++ xs.drop (k + 1) := by
  rw [List.set_append_right _ _ (by rw [List.length_take]; omega), List.length_take, Nat.min_eq_left (by omega), Nat.sub_self, List.drop_eq_getElem_cons (by omega), List.set_cons_zero, List.take_succ_eq_append_getElem hk, List.append_assoc, List.singleton_append]
/-- a store of the next cell into one's own -/
theorem Own.fill {w : World} {B : Nat} {E : TypeId} {g n c : Nat} {M xs : List Value} {k : Nat} (h : Own w B E 1 (some ⟨g, 0, none⟩) n c (M.take k ++ xs.drop k)) (hl : xs.length = M.length) (hk : k < M.length) :
    Own (w.setCell ⟨g, k, none⟩ M[k]) B E 1 (some ⟨g, 0, none⟩) n c (M.take (k + 1) ++ xs.drop (k + 1)) ∧ w.grownBy (w.setCell ⟨g, k, none⟩ M[k]) (some g) := by
  have hs := h.row.stored k M[k]
  rw [fill_set M xs k hl hk] at hs
  exact ⟨⟨hs.1⟩, hs.2⟩
theorem Own.cell {w : World} {B : Nat} {E : TypeId} {g n c : Nat} {xs : List Value} (h : Own w B E 1 (some ⟨g, 0, none⟩) n c xs) (k : Nat) (hk : k < n) : ∃ u, w.cell? ⟨g, k, none⟩ = some u := by
  have := h.row.cellAt k (by omega)
  rw [this]
  exact ⟨xs[k]'(by have := h.len; omega), List.getElem?_eq_getElem _⟩
/-- marks: the numbers from a on, as integers of kind k -/
def marks8 (a : Int) (n : Nat) : List Value := (List.range n).map fun i : Nat => Value.int .u8 ((a + i) % 256)
def marks64 (a : Int) (n : Nat) : List Value := (List.range n).map fun i : Nat => Value.int .i64 (a + i)
theorem marks8_len (a : Int) (n : Nat) : (marks8 a n).length = n := by simp [marks8]
theorem marks64_len (a : Int) (n : Nat) : (marks64 a n).length = n := by simp [marks64]
theorem marks8_get (a : Int) (n k : Nat) (h : k < (marks8 a n).length) : (marks8 a n)[k] = .int .u8 ((a + k) % 256) := by simp [marks8]
theorem marks64_get (a : Int) (n k : Nat) (h : k < (marks64 a n).length) : (marks64 a n)[k] = .int .i64 (a + k) := by simp [marks64]
end Go.Proofs.Ytmmnnbgfomcihaa
