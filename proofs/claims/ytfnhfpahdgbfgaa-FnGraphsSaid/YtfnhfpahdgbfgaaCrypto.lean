/- The contracts of chapter 3's hash functions (Hash, KeyedHash, IsValidKey, BytesToInts, DeriveFromString), of the program and of the model. -/
import Derived.Test.YtfnhfpahdgbfgaaProg
import Derived.Test.YtfnhfpahdgbfgaaCopies
import Derived.Test.YtfnhfpahdgbfgaaHash
import Derived.Test.YtfnhfpahdgbfgaaInts
import Derived.Laws.IdiomStrings
namespace Go.Proofs.Ytfnhfpahdgbfgaa
open Go.ChangeShapes Go.WideShapes Go.ChangeAt Go.RowKit
set_option linter.unusedVariables false
theorem i64_info : (Try.prog.info? 3).map (fun i => (i.zero, i.size, i.bytes)) = some (some (.int .i64 0), 1, 8) := by kernel_rfl
theorem imodP (v : Int) (w : World) :
    Calls Try.prog 75 #[.int .i64 v, .int .i64 2147483647] w fun e w' => (∃ r : Int, (0 ≤ r ∧ r ≤ 2147483646) ∧ r = v % 2147483647 ∧ e = .returned (.int .i64 r)) ∧ w = w' := by
  refine (imod v 2147483647 w).mono ?_
  rintro e w' ⟨rfl, rfl⟩
  have hm : modf v 2147483647 = v % 2147483647 := if_pos (by omega)
  rw [hm]
  exact ⟨⟨_, by omega, rfl, rfl⟩, rfl⟩
set_option maxRecDepth 100000 in
theorem ihash (w : World) (D : Nat) (A : Option Addr) (n c : Nat) (l : List Int) (h : Sl w D 1 A n c (iv l)) (hn : n ≤ 1000000000000) :
    Calls Try.prog 71 #[.slice A n c] w fun e w' => e = .returned (.int .i64 (hs l)) ∧ w = w' := by
  have hlen := h.len
  rw [iv_len, Nat.mul_one] at hlen
  have Hl := Lib.hid hlen; clear hlen
  have hcap := h.cap; have hcapm := h.capm
  go_enter Try.func71, Try.ntmps71
  go_wp2
  go_loop [3, 8] (fun s i => ∃ (k : Nat) (z : Int), k ≤ n ∧ i = .int .i64 k ∧ s = .int .i64 z ∧ Hid (z = hs (l.take k)) ∧ 0 ≤ z ∧ z ≤ 2147483646) (fun _ i => n - (intOf i).toNat)
  case atStart => exact ⟨0, 11, Nat.zero_le _, rfl, rfl, Lib.hid rfl, by omega, by omega⟩
  case round =>
    obtain ⟨k, z, hk, rfl, rfl, hz, hz0, hz1⟩ := hrel
    by_cases hlt : k < n
    · obtain ⟨ad, hx, rfl, had, hcx⟩ := h.at_ hlt
      rw [iv_get l k hx] at hcx
      have hkl : k < l.length := by rw [Hl.out]; omega
      have hsn : Hid (hs (l.take (k + 1)) = hstep z l[k]) := Lib.hid (by rw [List.take_succ_eq_append_getElem hkl, hs_snoc, ← hz.out])
      obtain ⟨v, hv⟩ : ∃ v, v = l[k] := ⟨_, rfl⟩
      rw [← hv] at hcx hsn
      clear hv hz
      go_wp2_with fail
      refine (imodP v _).mono ?_
      rintro e w' ⟨⟨r, ⟨hr0, hr1⟩, hr, rfl⟩, rfl⟩
      have Hr := Lib.hid hr; clear hr
      go_wp2
      go_round
      case rel => exact ⟨k + 1, _, by omega, by go_num, rfl, Lib.hid (by rw [hsn.out]; unfold hstep; rw [Hr.out]), by omega, by omega⟩
      case measure => simp [intOf]; omega
    · have e1 : l.take k = l := List.take_of_length_le (by rw [Hl.out]; omega)
      rw [e1] at hz
      clear e1
      go_wp2
      go_ret
      exact ⟨ret_int hz.out, rfl⟩
/-- what a function that answers a hash answers -/
def Num (w : World) (z : Int) (e : Ending) (w' : World) : Prop := e = .returned (.int .i64 z) ∧ Below w.heap.size w w'
/-- what BytesToInts answers -/
def GivesI (w : World) (l : List Int) (e : Ending) (w' : World) : Prop := (∃ A' n' c', e = .returned (.slice A' n' c') ∧ Own w' w.heap.size 3 1 A' n' c' (iv l)) ∧ Below w.heap.size w w'
end Go.Proofs.Ytfnhfpahdgbfgaa
