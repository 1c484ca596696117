/- The contract of the model's FormatInt: for every integer the decimal numeral. -/
import Derived.Test.YtpjkfkpfmjcjiaaDoorProg
import Derived.WalkKit
import Derived.ProofKit
import Derived.OpenShut
import Derived.Handy
import Derived.Lib.Hide
import Derived.Lib.ItoaNum
import Derived.Laws.IdiomStrings
import Derived.Laws.Concat
namespace Go.Proofs.YtpjkfkpfmjcjiaaDoor
open Go.ChangeShapes Go.WideShapes Go.ChangeAt Go.RowKit
set_option linter.unusedVariables false
/-- the digits of u, none for 0 -/
def dd (u : Nat) : List UInt8 := if u = 0 then [] else Lib.decDigits u
theorem dd_step (u : Nat) (h : u ≠ 0) : dd u = dd (u / 10) ++ [UInt8.ofNat (48 + u % 10)] := by
  unfold dd
  rw [if_neg h]
  by_cases h2 : u < 10
  · rw [if_pos (by omega), Lib.decDigits_one h2, Nat.mod_eq_of_lt h2]; rfl
  · rw [if_neg (by omega)]
    rw [Lib.decDigits, dif_neg h2]
theorem dd_len (u : Nat) (k : Nat) (h : u < 10 ^ k) : (dd u).length ≤ k := by
  induction k generalizing u with
  | zero => have : u = 0 := by simpa using h
            subst this; simp [dd]
  | succ k ih =>
    by_cases h0 : u = 0
    · subst h0; simp [dd]
    · rw [dd_step u h0, List.length_append]
      have := ih (u / 10) (by rw [Nat.pow_succ] at h; omega)
      simp; omega
theorem dig_byte (r : Nat) (h : r < 10) : (UInt8.ofNat (48 + r)).toNat = 48 + r := by
  rw [UInt8.toNat_ofNat']; omega
theorem conv_one (P : Program) (T S E : TypeId) (hs : P.underlying T = some (.slice E)) (he : P.underlying E = some (.int .u8)) (hd : P.underlying S = some .string) (r : Nat) (h : r < 10) (w : World) :
    (convert T S (.slice (some ⟨w.heap.size, 0, none⟩) 1 1)).run P (w.alloc (.cells #[.int .u8 (48 + (r : Int))] E)) = .ok (.string ⟨[UInt8.ofNat (48 + r)].toArray⟩) (w.alloc (.cells #[.int .u8 (48 + (r : Int))] E)) :=
  run_convert_bytes_back (P := P) _ T S E ⟨w.heap.size, 0, none⟩ 1 [UInt8.ofNat (48 + r)] hs he hd (fun j hj => by
    obtain rfl : j = 0 := by simpa using hj
    have hb := dig_byte r h
    show _ = some (Value.int .u8 (((UInt8.ofNat (48 + r)).toNat : Nat) : Int))
    rw [hb]; simp [Addr.add])
theorem cons_one (c : UInt8) (l : List UInt8) : (⟨#[c]⟩ : ByteArray) ++ ⟨l.toArray⟩ = ⟨(c :: l).toArray⟩ := by
  rw [ByteArray.mk_append_mk]; simp
theorem add_one (P : Program) (c : UInt8) (l : List UInt8) (h : l.length ≤ 100) (w : World) :
    (Op.stringOp .add ⟨[c].toArray⟩ ⟨l.toArray⟩).run P w = .ok (.string ⟨(c :: l).toArray⟩) w := by
  rw [run_string_add_sum w _ _ (by simp [ByteArray.size]; omega), ByteArray.mk_append_mk]; simp
theorem itoa_pos (n : Nat) (h : 0 < n) : Lib.itoa n = dd n := by
  unfold Lib.itoa dd
  rw [if_neg (by omega), if_neg (by omega)]; simp
theorem itoa_neg (n : Nat) (h : 0 < n) : Lib.itoa (-(n : Int)) = 45 :: dd n := by
  unfold Lib.itoa dd
  rw [if_pos (by omega), if_neg (by omega)]; simp
set_option maxRecDepth 1000000 in
theorem sfmt_pos (n : Nat) (w : World) (h0 : 0 < n) (h1 : n ≤ 9223372036854775807) :
    Calls Tryd.prog 13 #[.int .i64 (n : Int)] w fun e w' => e = .returned (.string ⟨(Lib.itoa (n : Int)).toArray⟩) ∧ Below w.heap.size w w' := by
  have hz : ((n : Int) == 0) = false := by simp; omega
  have hnn : ((n : Int) < 0) = False := by simp; try omega
  go_enter Tryd.func13, Tryd.ntmps13
  go_wp2
  go_loopw [3, 4] (fun s x wr => ∃ (u : Nat) (l : List UInt8), u ≤ n ∧ x = .int .i64 (u : Int) ∧ s = .string ⟨l.toArray⟩ ∧ dd n = dd u ++ l ∧ Below w.heap.size w wr) (fun _ x _ => (intOf x).natAbs)
  case atStart => exact ⟨n, [], Nat.le_refl _, rfl, rfl, by simp, Below.refl _ _⟩
  case round =>
    obtain ⟨u, l, hu, rfl, rfl, hd, hg⟩ := hrel
    have hlen : l.length ≤ 19 := by
      have := congrArg List.length hd
      have h2 := dd_len n 19 (by omega)
      rw [List.length_append] at this; omega
    by_cases hu0 : u = 0
    · subst hu0
      have Hd := Lib.hid hd; clear hd
      go_wp2
      go_ret
      exact ⟨by rw [itoa_pos n h0, Hd.out]; simp [dd], hg⟩
    · have hu1 : ((u : Int) != 0) = true := by simp; omega
      have Hd : Hid (dd n = dd (u / 10) ++ UInt8.ofNat (48 + u % 10) :: l) := by
        refine Lib.hid ?_; rw [hd, dd_step u hu0]; simp
      clear hd
      have hcv := conv_one Tryd.prog 22 9 5 Tryd.underlying22 Tryd.underlying5 Tryd.underlying9 (u % 10) (by omega) wr
      simp only [Int.natCast_emod, Int.cast_ofNat_Int] at hcv
      have hc1 := cons_one (UInt8.ofNat (48 + u % 10)) l
      simp only [UInt8.ofNat_add, UInt8.reduceOfNat] at hc1
      have Hc := Lib.hid hc1; clear hc1
      go_wp2
      go_roundw
      case rel => exact ⟨u / 10, _, by omega, by simp, congrArg Value.string Hc.out, by rw [Hd.out]; simp, hg.alloc hg.size _⟩
      case measure => simp [intOf]; omega
set_option maxRecDepth 1000000 in
theorem sfmt_neg (n : Nat) (w : World) (h0 : 0 < n) (h1 : n ≤ 9223372036854775808) :
    Calls Tryd.prog 13 #[.int .i64 (-(n : Int))] w fun e w' => e = .returned (.string ⟨(Lib.itoa (-(n : Int))).toArray⟩) ∧ Below w.heap.size w w' := by
  have hz : ((-(n : Int)) == 0) = false := by simp; omega
  have hnn : ((-(n : Int)) < 0) = True := by simp; try omega
  go_enter Tryd.func13, Tryd.ntmps13
  go_wp2
  go_loopw [3, 4] (fun s x wr => ∃ (u : Nat) (l : List UInt8), u ≤ n ∧ x = .int .i64 (-(u : Int)) ∧ s = .string ⟨l.toArray⟩ ∧ dd n = dd u ++ l ∧ Below w.heap.size w wr) (fun _ x _ => (intOf x).natAbs)
  case atStart => exact ⟨n, [], Nat.le_refl _, rfl, rfl, by simp, Below.refl _ _⟩
  case round =>
    obtain ⟨u, l, hu, rfl, rfl, hd, hg⟩ := hrel
    have hlen : l.length ≤ 19 := by
      have := congrArg List.length hd
      have h2 := dd_len n 19 (by omega)
      rw [List.length_append] at this; omega
    by_cases hu0 : u = 0
    · subst hu0
      have Hd := Lib.hid hd; clear hd
      go_wp2
      go_ret
      exact ⟨by rw [itoa_neg n h0, Hd.out]; simp [dd, cons_one], hg⟩
    · have hu1 : ((-(u : Int)) != 0) = true := by simp; omega
      have Hd : Hid (dd n = dd (u / 10) ++ UInt8.ofNat (48 + u % 10) :: l) := by
        refine Lib.hid ?_; rw [hd, dd_step u hu0]; simp
      clear hd
      have hq : (-(u : Int)).tdiv 10 = -((u / 10 : Nat) : Int) := by rw [Int.neg_tdiv]; congr 1
      by_cases hr : u % 10 = 0
      · have ht : (-(u : Int)).tmod 10 = 0 := by rw [Int.neg_tmod]; have : (u : Int).tmod 10 = ((u % 10 : Nat) : Int) := rfl; omega
        have hcv := conv_one Tryd.prog 22 9 5 Tryd.underlying22 Tryd.underlying5 Tryd.underlying9 0 (by omega) wr
        simp at hcv
        have Hc := Lib.hid (cons_one 48 l)
        have Hd' : Hid (dd n = dd (u / 10) ++ 48 :: l) := by refine Lib.hid ?_; rw [Hd.out, hr]; rfl
        clear hr Hd
        go_wp2
        go_roundw
        case rel => exact ⟨u / 10, _, by omega, by simp, congrArg Value.string Hc.out, by rw [Hd'.out], hg.alloc hg.size _⟩
        case measure => simp [intOf]; omega
      · have ht : (-(u : Int)).tmod 10 = -((u % 10 : Nat) : Int) := by rw [Int.neg_tmod]; congr 1
        have hlt : 0 < (u : Int) % 10 := by omega
        clear hr
        have hcv := conv_one Tryd.prog 22 9 5 Tryd.underlying22 Tryd.underlying5 Tryd.underlying9 (u % 10) (by omega) wr
        simp only [Int.natCast_emod, Int.cast_ofNat_Int] at hcv
        have hc1 := cons_one (UInt8.ofNat (48 + u % 10)) l
        simp only [UInt8.ofNat_add, UInt8.reduceOfNat] at hc1
        have Hc := Lib.hid hc1; clear hc1
        go_wp2
        go_roundw
        case rel => exact ⟨u / 10, _, by omega, by simp, congrArg Value.string Hc.out, by rw [Hd.out]; simp, hg.alloc hg.size _⟩
        case measure => simp [intOf]; omega
theorem sfmt_zero (w : World) :
    Calls Tryd.prog 13 #[.int .i64 0] w fun e w' => e = .returned (.string ⟨(Lib.itoa 0).toArray⟩) ∧ Below w.heap.size w w' := by
  go_enter Tryd.func13, Tryd.ntmps13
  go_wp2
  go_ret
  exact ⟨by kernel_rfl, Below.refl _ _⟩
theorem sfmt (n : Int) (w : World) (h0 : -9223372036854775808 ≤ n) (h1 : n ≤ 9223372036854775807) :
    Calls Tryd.prog 13 #[.int .i64 n] w fun e w' => e = .returned (.string ⟨(Lib.itoa n).toArray⟩) ∧ Below w.heap.size w w' := by
  rcases Int.lt_trichotomy n 0 with h | h | h
  · have := sfmt_neg n.natAbs w (by omega) (by omega)
    rwa [show -((n.natAbs : Nat) : Int) = n by omega] at this
  · subst h; exact sfmt_zero w
  · have := sfmt_pos n.toNat w (by omega) (by omega)
    rwa [show ((n.toNat : Nat) : Int) = n by omega] at this
end Go.Proofs.YtpjkfkpfmjcjiaaDoor
