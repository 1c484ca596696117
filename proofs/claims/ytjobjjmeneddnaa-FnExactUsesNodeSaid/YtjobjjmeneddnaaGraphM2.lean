/- The model's ChangesOf (at valid spans) and PiecesOf. -/
import Derived.Test.YtjobjjmeneddnaaGraphM
import Derived.Test.YtjobjjmeneddnaaMid
import Derived.Test.YtjobjjmeneddnaaInts
namespace Go.Proofs.Ytjobjjmeneddnaa
open Go.ChangeShapes Go.WideShapes Go.ChangeAt Go.RowKit
set_option linter.unusedVariables false
/-- what a function that answers a list of integers answers -/
def GivesIM (w : World) (l : List Int) (e : Ending) (w' : World) : Prop := ∃ A' n' c', e = .returned (.slice A' n' c') ∧ Own w' w.heap.size 3 1 A' n' c' (iv l) ∧ Below w.heap.size w w'
theorem Own.made1 (w : World) (B : Nat) (E : TypeId) (hB : B ≤ w.heap.size) : Own (w.alloc (.cells #[] E)) B E 1 (some ⟨w.heap.size, 0, none⟩) 0 0 [] := ⟨World.ownsRow_made w #[] 0 hB (by unfold maxLen; omega) rfl⟩
theorem intK_info : (Try.prog.info? 3).map (fun i => (i.zero, i.size, i.bytes)) = some (some (.int .i64 0), 1, 8) := by kernel_rfl
theorem iv_snoc (l : List Int) (x : Int) : iv (l ++ [x]) = iv l ++ [.int .i64 x] := by simp [iv]
theorem pcs_take (u : Int) (C : List Int) (k : Nat) (hk : k < C.length) : pcs u (C.take (k + 1)) = pcs u (C.take k) ++ [(lastE u (C.take k), C[k])] := by
  rw [List.take_succ_eq_append_getElem hk, pcs_snoc]
theorem lastE_take (u : Int) (C : List Int) (k : Nat) (hk : k < C.length) : lastE u (C.take (k + 1)) = C[k] := by
  rw [List.take_succ_eq_append_getElem hk, lastE_snoc]
theorem Sl.int {w : World} {B n c : Nat} {A : Option Addr} {l : List Int} (h : Sl w B 1 A n c (iv l)) {k : Nat} (hk : k < n) : ∃ (ad : Addr) (hx : k < l.length), A = some ad ∧ ad.block < B ∧ w.cell? (ad.add k) = some (.int .i64 l[k]) := by
  obtain ⟨ad, hx, e, hb, hc⟩ := h.at_ hk
  have hx' : k < l.length := by simpa [iv] using hx
  exact ⟨ad, hx', e, hb, by rw [hc, iv_get]⟩
end Go.Proofs.Ytjobjjmeneddnaa
