/- Marks on contacts, and whether they are held. -/
import Derived.Test.YtfnhfpahdgbfgaaContactCopies
import Derived.Test.YtfnhfpahdgbfgaaSpanCopies
namespace Go.Proofs.Ytfnhfpahdgbfgaa
open Go.ChangeShapes Go.WideShapes Go.ChangeAt Go.RowKit
set_option linter.unusedVariables false
set_option maxRecDepth 100000 in
theorem markcontacts (w : World) (B : Nat) (A : Option Addr) (n c : Nat) (xs : List Value) (h : Own w B 62 4 A n c xs) (a : Int) (ha0 : 0 ≤ a) (ha : a + n * 4 ≤ 1000000000000) :
    Calls Try.prog 22 #[.slice A n c, .int .i64 a] w fun e w' => e = .returned (.int .i64 (a + n * 4)) ∧ Own w' B 62 4 A n c (marks64 a (n * 4)) ∧ w.grownBy w' (Value.slice A n c).ownBlock := by
  have hlen := Lib.hid h.len
  have hcap := h.capm
  have h0 : Hid (Own w B 62 4 A n c ((marks64 a (n * 4)).take (0 * 4) ++ xs.drop (0 * 4))) := Lib.hid (by simpa using h)
  clear h
  go_enter Try.func22, Try.ntmps22
  go_wp2
  go_loopw [1, 5] (fun m i wr => ∃ k : Nat, k ≤ n ∧ i = .int .i64 k ∧ m = .int .i64 (a + k * 4) ∧ Own wr B 62 4 A n c ((marks64 a (n * 4)).take (k * 4) ++ xs.drop (k * 4)) ∧ w.grownBy wr (Value.slice A n c).ownBlock)
    (fun _ i _ => n - (intOf i).toNat)
  case atStart => exact ⟨0, Nat.zero_le _, rfl, by simp, h0.out, World.grownBy.refl _ _⟩
  case round =>
    clear h0
    obtain ⟨k, hk, rfl, rfl, hown, hg⟩ := hrel
    by_cases hlt : k < n
    · rcases hown.form with ⟨_, h0, _⟩ | ⟨g, rfl, hBg, hgl, _⟩
      · omega
      · obtain ⟨u0, hu0⟩ := hown.cellS (k * 4) (by omega)
        obtain ⟨u1, hu1⟩ := hown.cellS (k * 4 + 1) (by omega)
        obtain ⟨u2, hu2⟩ := hown.cellS (k * 4 + 2) (by omega)
        obtain ⟨u3, hu3⟩ := hown.cellS (k * 4 + 3) (by omega)
        have hf0 := hown.row.frozenAt (k * 4)
        have hf1 := hown.row.frozenAt (k * 4 + 1)
        have hf2 := hown.row.frozenAt (k * 4 + 2)
        have hf3 := hown.row.frozenAt (k * 4 + 3)
        have m0 : (marks64 a (n * 4))[k * 4]? = some (.int .i64 (a + k * 4)) := by rw [marks64_at _ _ _ (by omega)]; congr 2 <;> omega
        have m1 : (marks64 a (n * 4))[k * 4 + 1]? = some (.int .i64 (a + k * 4 + 1)) := by rw [marks64_at _ _ _ (by omega)]; congr 2 <;> omega
        have m2 : (marks64 a (n * 4))[k * 4 + 2]? = some (.int .i64 (a + k * 4 + 1 + 1)) := by rw [marks64_at _ _ _ (by omega)]; congr 2 <;> omega
        have m3 : (marks64 a (n * 4))[k * 4 + 3]? = some (.int .i64 (a + k * 4 + 1 + 1 + 1)) := by rw [marks64_at _ _ _ (by omega)]; congr 2 <;> omega
        have hfin := Lib.hid (hown.fill4 (M := marks64 a (n * 4)) (by rw [hlen.out, marks64_len]) (by rw [marks64_len]; omega) m0 m1 m2 m3)
        have hO := Lib.hid hfin.out.1
        have hG := Lib.hid (hg.trans hfin.out.2)
        clear hfin hown hg m0 m1 m2 m3
        go_wp2
        go_roundw
        case rel => exact ⟨k + 1, by omega, by go_num, by go_num, hO.out, hG.out⟩
        case measure => simp [intOf]; omega
    · obtain rfl : k = n := by omega
      have e1 : (marks64 a (k * 4)).take (k * 4) ++ xs.drop (k * 4) = marks64 a (k * 4) := by
        rw [List.take_of_length_le (by rw [marks64_len]; omega), List.drop_of_length_le (by rw [hlen.out]; omega), List.append_nil]
      rw [e1] at hown
      clear e1
      go_wp2
      go_ret
      exact ⟨rfl, hown, hg⟩
end Go.Proofs.Ytfnhfpahdgbfgaa
