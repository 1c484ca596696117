/- The contracts of ParseInt, the program's and the model's: for every string the same two results. -/
import Derived.Test.YtpjkfkpfmjcjiaaDoorDigits
import Derived.Test.YtpjkfkpfmjcjiaaDoorFmtInt
import Derived.Laws.Strings
namespace Go.Proofs.YtpjkfkpfmjcjiaaDoor
open Go.ChangeShapes Go.WideShapes Go.ChangeAt Go.RowKit
set_option linter.unusedVariables false
theorem digs_at (s : ByteArray) (h : digs s.data.toList = true) (k : Nat) (hk : k < s.size) : 48 ≤ s[k].toNat ∧ s[k].toNat ≤ 57 := by
  unfold digs at h
  rw [List.all_eq_true] at h
  have := h s[k] (List.getElem_mem (by rw [size_list]; exact hk))
  unfold isDig at this
  simpa using this
theorem digs_take (l : List UInt8) (h : digs l = true) (k : Nat) : digs (l.take k) = true := by
  unfold digs at *
  rw [List.all_eq_true] at *
  intro c hc; exact h c (List.mem_of_mem_take hc)
theorem val_small (l : List UInt8) (h : digs l = true) (hl : l.length ≤ 13) : valOf l ≤ 10000000000000 := by
  have h1 := valOf_lt l h
  have h2 : 10 ^ l.length ≤ 10 ^ 13 := Nat.pow_le_pow_right (by omega) hl
  omega
theorem val_take (s : ByteArray) (h : digs s.data.toList = true) (hl : s.size ≤ 13) (k : Nat) : valOf (s.data.toList.take k) ≤ 10000000000000 :=
  val_small _ (digs_take _ h k) (by rw [List.length_take, size_list]; omega)
theorem val_step (s : ByteArray) (k : Nat) (h : k < s.size) : valOf (s.data.toList.take (k + 1)) = 10 * valOf (s.data.toList.take k) + (s[k].toNat - 48) := by
  rw [take_snoc s k h, valOf_snoc]
theorem take_all (s : ByteArray) : s.data.toList.take s.size = s.data.toList := by
  rw [← size_list, List.take_length]
theorem bytes_list (s : ByteArray) : s.toList = s.data.toList := ByteArray.toList_eq s
theorem num_parts {l : List UInt8} (h : isNum l = true) : 1 ≤ l.length ∧ l.length ≤ 13 ∧ lead l = false ∧ digs l = true := by
  unfold isNum at h
  simp at h; exact ⟨h.1.1.1, h.1.1.2, h.1.2, h.2⟩
set_option maxRecDepth 100000 in
theorem iparse (s : ByteArray) (w : World) (hm : s.size ≤ 9223372036854775807) :
    Calls Tryd.prog 7 #[.string s] w fun e w' => e = .returned (.tuple #[.int .i64 (pval s.data.toList : Int), .bool (pok s.data.toList)]) ∧ Below w.heap.size w w' := by
  by_cases hn : isNum s.data.toList = true
  · obtain ⟨h1, h2, h3, h4⟩ := num_parts hn
    rw [size_list] at h1 h2
    have Hn := Lib.hid hn; have H3 := Lib.hid h3; have H4 := Lib.hid h4
    clear hn h3 h4
    go_enter Tryd.func7, Tryd.ntmps7
    go_wp2_with (go_at_call 18; refine (isnum _ _ (by omega)).mono ?_; rw [Hn.out]; rintro e w1 ⟨rfl, hb⟩)
    go_loop [4, 5] (fun n i => ∃ k : Nat, k ≤ s.size ∧ i = .int .i64 k ∧ n = .int .i64 (valOf (s.data.toList.take k) : Int)) (fun _ i => s.size - (intOf i).toNat)
    case atStart => exact ⟨0, Nat.zero_le _, rfl, rfl⟩
    case round =>
      obtain ⟨k, hk, rfl, rfl⟩ := hrel
      have hv := val_take s H4.out h2 k
      by_cases hlt : k < s.size
      · obtain ⟨d1, d2⟩ := digs_at s H4.out k hlt
        have hs := Lib.hid (val_step s k hlt)
        go_wp2
        go_round
        case rel => exact ⟨k + 1, by omega, by go_num, by rw [hs.out]; congr 1; omega⟩
        case measure => simp [intOf]; omega
      · obtain rfl : k = s.size := by omega
        rw [take_all] at *
        by_cases hx : valOf s.data.toList ≤ 1000000000000
        · have hp : pok s.data.toList = true := by unfold pok; rw [Hn.out]; simpa using hx
          have Hp := Lib.hid hp; clear hp
          go_wp2
          go_ret2
          exact ⟨by unfold pval; rw [Hp.out]; rfl, hb⟩
        · have hp : pok s.data.toList = false := by unfold pok; rw [Hn.out]; simpa using hx
          have Hp := Lib.hid hp; clear hp
          go_wp2
          go_ret2
          exact ⟨by unfold pval; rw [Hp.out]; rfl, hb⟩
  · have hp : pok s.data.toList = false := by unfold pok; simp at hn; rw [hn]; rfl
    have Hp := Lib.hid hp
    have Hn : Hid (isNum s.data.toList = false) := Lib.hid (by simpa using hn)
    clear hp hn
    go_enter Tryd.func7, Tryd.ntmps7
    go_wp2_with (go_at_call 18; refine (isnum _ _ (by omega)).mono ?_; rw [Hn.out]; rintro e w1 ⟨rfl, hb⟩)
    go_ret2
    exact ⟨by unfold pval; rw [Hp.out]; rfl, hb⟩
end Go.Proofs.YtpjkfkpfmjcjiaaDoor
