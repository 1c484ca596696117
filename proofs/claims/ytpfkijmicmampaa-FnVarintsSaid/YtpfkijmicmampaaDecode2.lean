/- The contract of the model's ReadUvarint. -/
import Derived.Test.YtpfkijmicmampaaDecode
namespace Go.Proofs.Ytpfkijmicmampaa
open Go.ChangeShapes Go.WideShapes Go.ChangeAt Go.RowKit
set_option linter.unusedVariables false
theorem or_nat (a b : Nat) (ha : a < 9223372036854775808) (hb : b < 9223372036854775808) : bits .or .i64 (a : Int) (b : Int) = ((a ||| b : Nat) : Int) := by
  have hx : a ||| b < 2 ^ 63 := Nat.or_lt_two_pow (by omega) (by omega)
  have e : ∀ n : Nat, n < 9223372036854775808 → (BitVec.ofInt 64 (n : Int)).toNat = n := fun n hn => by
    rw [BitVec.ofInt_natCast, BitVec.toNat_ofNat]; exact Nat.mod_eq_of_lt (by omega)
  show IntKind.i64.wrap ((BitVec.ofInt 64 (a : Int) ||| BitVec.ofInt 64 (b : Int)).toNat : Int) = _
  rw [BitVec.toNat_or, e a ha, e b hb, IntKind.wrap_i64]
  omega
theorem or_val (v b k : Nat) (hk : k < 6) (hv : v < 128 ^ k) : bits .or .i64 (v : Int) (wrap64 (bits .and .i64 (b : Int) 127 * 2 ^ (7 * k))) = ((v + b % 128 * 128 ^ k : Nat) : Int) := by
  have hp : (128 : Nat) ^ k ≤ 34359738368 := Nat.le_trans (Nat.pow_le_pow_right (by omega) (show k ≤ 5 by omega)) (by decide)
  have hm : b % 128 * 128 ^ k ≤ 128 * 34359738368 := Nat.mul_le_mul (by omega) hp
  have e := shl_val 0 b k hk (Nat.pow_pos (by omega))
  have e2 : wrap64 (bits .and .i64 (b : Int) 127 * 2 ^ (7 * k)) = ((b % 128 * 128 ^ k : Nat) : Int) := by
    rw [and127]
    have h1 : wrap64 (((0 : Nat) : Int) + wrap64 ((b : Int) % 128 * 2 ^ (7 * k))) = wrap64 ((b : Int) % 128 * 2 ^ (7 * k)) := by
      generalize (b : Int) % 128 * 2 ^ (7 * k) = z
      unfold wrap64; omega
    rw [← h1, e, Nat.zero_add]
  rw [e2, or_nat v _ (by omega) (by omega)]
  congr 1
  have h7 : (128 : Nat) ^ k = 2 ^ (7 * k) := by rw [Nat.pow_mul]
  rw [h7] at hv ⊢
  rw [Nat.or_comm, Nat.mul_comm, ← Nat.two_pow_add_eq_or_of_lt hv, Nat.add_comm]
theorem padded_take (l : List Nat) (k : Nat) (h : k < l.length) : padded (l.take (k + 1)) = (decide (0 < k) && (l[k] == 0)) := by
  unfold padded
  rw [List.length_take, Nat.min_eq_left (by omega), List.take_succ_eq_append_getElem h, List.getLast?_append]
  simp
set_option maxRecDepth 100000 in
theorem sread (w : World) (D : Nat) (A : Option Addr) (n c : Nat) (l : List Nat) (h : Sl w D 1 A n c (bv l)) (hn : n ≤ 1000000000) (hb : ∀ b ∈ l, b < 256) (off : Int) (h0 : -9223372036854775808 ≤ off) (h1 : off ≤ 9223372036854775807) :
    Calls Try.prog 19 #[.slice A n c, .int .i64 off] w fun e w' => ReadsAs (rdAt l off) e ∧ w = w' := by
  have hlen := h.len
  rw [bv_len, Nat.mul_one] at hlen
  have Hl := Lib.hid hlen; clear hlen
  have hcap := h.cap; have hcapm := h.capm
  by_cases hneg : off < 0
  · have HR := Lib.hid (rdAt_none l off (.inl (grp_out l off (by omega))))
    go_enter Try.func19, Try.ntmps19
    go_wp2
    go_loop [7, 8] (fun s i => s = .int .i64 0 ∧ i = .int .i64 0) (fun _ _ => 0)
    case atStart => exact ⟨rfl, rfl⟩
    case round =>
      obtain ⟨rfl, rfl⟩ := hrel
      go_wp2
      go_ret3
      exact ⟨⟨0, 0, false, HR.out, rfl⟩, rfl⟩
  · obtain ⟨o, rfl⟩ := Int.eq_ofNat_of_zero_le (show 0 ≤ off by omega)
    go_enter Try.func19, Try.ntmps19
    go_wp2
    go_loop [7, 8] (fun s i => ∃ k : Nat, k ≤ 6 ∧ i = .int .i64 k ∧ s = .int .i64 (val ((l.drop o).take k)) ∧ Pre k (l.drop o)) (fun _ i => 6 - (intOf i).toNat)
    case atStart => exact ⟨0, Nat.zero_le _, rfl, rfl, Pre_zero _⟩
    case round =>
      obtain ⟨k, hk, rfl, rfl, hp⟩ := hrel
      by_cases h6 : k < 6
      · by_cases hlt : o + k < n
        · obtain ⟨ad, hx, rfl, had, hcx⟩ := h.at_ hlt
          rw [bv_get l _ hx] at hcx
          have hkl : o + k < l.length := by rw [Hl.out]; omega
          have hkd : k < (l.drop o).length := by rw [List.length_drop]; omega
          have hbb := hb l[o + k] (List.getElem_mem hkl)
          have hv := Lib.hid (val_take k (l.drop o) hkd)
          rw [List.getElem_drop] at hv
          have hvl := val_lt ((l.drop o).take k)
          rw [List.length_take, Nat.min_eq_left (by omega)] at hvl
          have HP := Lib.hid hp; clear hp
          obtain ⟨v, hv'⟩ : ∃ v, v = val ((l.drop o).take k) := ⟨_, rfl⟩
          rw [← hv'] at hv hvl ⊢
          clear hv'
          by_cases h128 : l[o + k] < 128
          · have hg := grp_stop l o k HP.out h6 hkl h128
            have hpd := padded_take (l.drop o) k hkd
            rw [List.getElem_drop] at hpd
            have hr0 := rdAt_none l o
            have hr1 := rdAt_some l o
            rw [hg, hpd, hv.out] at hr0 hr1
            have hne : (l.drop o).take (k + 1) ≠ [] := by
              intro e; have := congrArg List.length e; rw [List.length_take] at this; simp at this; omega
            have hgl : ((l.drop o).take (k + 1)).length = k + 1 := by rw [List.length_take]; omega
            rw [hgl] at hr1
            obtain ⟨b, hb'⟩ : ∃ b, b = l[o + k] := ⟨_, rfl⟩
            rw [← hb'] at hcx h128 hv hr0 hr1
            have hor := or_val v b k h6 hvl
            obtain ⟨u, hu⟩ : ∃ u, u = v + b % 128 * 128 ^ k := ⟨_, rfl⟩
            rw [← hu] at hor hr0 hr1
            have hub : u < 4398046511104 := by
              have h1 : (128 : Nat) ^ k ≤ 34359738368 := Nat.le_trans (Nat.pow_le_pow_right (by omega) (show k ≤ 5 by omega)) (by decide)
              have h2 : b % 128 * 128 ^ k ≤ 127 * 34359738368 := Nat.mul_le_mul (by omega) h1
              omega
            have Hu := Lib.hid hu
            clear hb' hbb hu hpd hg hgl hv
            have HR0 := Lib.hid hr0; have HR1 := Lib.hid (hr1 hne)
            clear hr0 hr1 hne
            by_cases hpad : b = 0 ∧ 0 < k
            · have HR := Lib.hid (HR0.out (.inr (.inl (by rw [hpad.1, decide_eq_true hpad.2]; rfl))))
              have e0 : ((b : Int) == 0) = true := by rw [hpad.1]; rfl
              have hk0 := hpad.2
              clear HR0 HR1 hpad
              go_wp2
              go_ret3
              exact ⟨⟨0, 0, false, HR.out, rfl⟩, rfl⟩
            · have hnp : (decide (0 < k) && (b == 0)) = false := by
                rw [Bool.and_eq_false_iff]
                by_cases h : 0 < k
                · right; rw [beq_eq_false_iff_ne]; omega
                · left; exact decide_eq_false h
              rw [hnp] at HR1
              clear hnp
              have hways : (∃ x : Bool, ((b : Int) == 0) = x ∧ (x = true → decide ((0 : Int) < (k : Int)) = false)) := by
                refine ⟨_, rfl, fun h => ?_⟩
                have hb0 : b = 0 := by have := eq_of_beq h; omega
                exact decide_eq_false (by omega)
              obtain ⟨x, e0, ek⟩ := hways
              clear hpad
              cases x
              · clear ek
                by_cases hM : u ≤ 1000000000000
                · have HR := Lib.hid (HR1.out rfl hM)
                  clear HR0 HR1
                  go_wp2
                  go_ret3
                  exact ⟨⟨_, _, true, HR.out, rfl⟩, rfl⟩
                · have HR := Lib.hid (HR0.out (.inr (.inr (by omega))))
                  clear HR0 HR1
                  go_wp2
                  go_ret3
                  exact ⟨⟨0, 0, false, HR.out, rfl⟩, rfl⟩
              · have hk0 : k = 0 := by have := ek rfl; simpa using this
                have hM : u ≤ 1000000000000 := by
                  have hb0 : b = 0 := by have := eq_of_beq e0; omega
                  have := Hu.out
                  have hvk := hvl
                  rw [hk0] at hvk
                  rw [hb0] at this; simp at this hvk; omega
                have HR : Hid (rdAt l (o : Int) = ((u : Int), (o : Int) + 1, true)) := Lib.hid (by rw [HR1.out rfl hM, hk0]; rfl)
                have hk1 : k < 1 := by omega
                clear HR0 HR1 ek hk0
                go_wp2
                go_ret3
                exact ⟨⟨_, _, true, HR.out, rfl⟩, rfl⟩
          · have HP2 := Lib.hid (Pre_succ k _ HP.out hkd (by rw [List.getElem_drop]; omega))
            obtain ⟨b, hb'⟩ : ∃ b, b = l[o + k] := ⟨_, rfl⟩
            rw [← hb'] at hcx h128 hv hbb
            clear hb'
            have h128' : decide ((b : Int) < 128) = false := by simp; omega
            have hor := or_val v b k h6 hvl
            rw [← hv.out] at hor
            go_wp2
            go_round
            case rel => exact ⟨k + 1, by omega, by go_num, rfl, HP2.out⟩
            case measure => simp [intOf]; omega
        · have HR := Lib.hid (rdAt_none l o (.inl (grp_end l o k hp hk (.inr (by rw [Hl.out]; omega)))))
          clear hp
          go_wp2
          go_ret3
          exact ⟨⟨0, 0, false, HR.out, rfl⟩, rfl⟩
      · have HR := Lib.hid (rdAt_none l o (.inl (grp_end l o k hp hk (.inl (by omega)))))
        clear hp
        go_wp2
        go_ret3
        exact ⟨⟨0, 0, false, HR.out, rfl⟩, rfl⟩
end Go.Proofs.Ytpfkijmicmampaa
