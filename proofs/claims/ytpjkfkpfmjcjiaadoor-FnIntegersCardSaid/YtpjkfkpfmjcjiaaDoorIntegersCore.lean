/- The walk of law FnIntegers, for a code that is read. -/
import Derived.Test.YtpjkfkpfmjcjiaaDoorItoa
import Derived.Test.YtpjkfkpfmjcjiaaDoorParse
import Derived.Test.YtpjkfkpfmjcjiaaDoorInts
import Derived.Test.YtpjkfkpfmjcjiaaDoorDrawInts
import Derived.Deep.DeepCutAuto
namespace Go.Proofs.YtpjkfkpfmjcjiaaDoor
open Go.ChangeShapes Go.WideShapes Go.ChangeAt Go.RowKit
set_option linter.unusedVariables false
theorem bigf (w : World) (A : Option Addr) (c n : Nat) (h : n ≤ 1048576) (hm : c ≤ 9223372036854775807) (hn : n ≤ c) :
    Calls Tryd.prog 5 #[.slice A n c] w fun e w' => e = .returned (.bool false) ∧ w = w' := by
  go_enter Tryd.func5, Tryd.ntmps5
  go_wp2
  go_ret
  exact ⟨by simp; omega, rfl⟩
/-- what the law asks of CeilDiv and Mod -/
theorem cd_out {a b : Int} (h : ¬ (0 ≤ a ∧ a ≤ 1000000000000 ∧ 1 ≤ b ∧ b ≤ 1000000000000)) : cdf a b = 0 := by unfold cdf; rw [if_neg h]
theorem md_out {a b : Int} (h : ¬ (1 ≤ b ∧ b ≤ 1000000000000)) : modf a b = 0 := by unfold modf; rw [if_neg h]
theorem md_in {a b : Int} (h1 : 1 ≤ b) (h2 : b ≤ 1000000000000) : 0 ≤ modf a b ∧ modf a b < b ∧ (a.tmod b - modf a b).tmod b = 0 := by
  unfold modf; rw [if_pos ⟨h1, h2⟩]
  refine ⟨Int.emod_nonneg _ (by omega), Int.emod_lt_of_pos _ (by omega), ?_⟩
  by_cases h : a.tmod b < 0
  · rw [← tmod_neg a b h1 h, show a.tmod b - (a.tmod b + b) = -b by omega, Int.neg_tmod, Int.tmod_self]; rfl
  · rw [← tmod_pos a b h1 (by omega), Int.sub_self]; simp
theorem cd_in {a b : Int} (h0 : 0 ≤ a) (h1 : a ≤ 1000000000000) (h2 : 1 ≤ b) (h3 : b ≤ 1000000000000) : a ≤ cdf a b * b ∧ cdf a b * b - a < b ∧ 0 ≤ cdf a b ∧ cdf a b ≤ 2000000000000 := by
  unfold cdf; rw [if_pos ⟨h0, h1, h2, h3⟩]
  have e := Int.mul_ediv_add_emod (a + b - 1) b
  have r0 := Int.emod_nonneg (a + b - 1) (show b ≠ 0 by omega)
  have r1 := Int.emod_lt_of_pos (a + b - 1) (show 0 < b by omega)
  have q0 : 0 ≤ (a + b - 1) / b := Int.ediv_nonneg (by omega) (by omega)
  have q1 : (a + b - 1) / b ≤ a + b - 1 := Int.ediv_le_self _ (by omega)
  rw [Int.mul_comm] at e
  generalize (a + b - 1) / b = q at *
  refine ⟨by omega, by omega, q0, by omega⟩
/-- v, o are what a text is parsed to -/
def Parsed (s : ByteArray) (v : Int) (o : Bool) : Prop := 0 ≤ v ∧ v ≤ 1000000000000 ∧ (o = true → (Lib.itoa v == s.toList) = true)
theorem iparse_any (s : ByteArray) (w : World) (hm : s.size ≤ 9223372036854775807) :
    Calls Tryd.prog 7 #[.string s] w fun e w' => (∃ (v : Int) (o : Bool), Parsed s v o ∧ e = .returned (.tuple #[.int .i64 v, .bool o])) ∧ Below w.heap.size w w' :=
  (iparse s w hm).mono fun e w' ⟨he, hb⟩ => ⟨⟨_, _, ⟨by omega, by have := pval_le s.data.toList; omega, fun h => by rw [bytes_list]; simpa using itoa_pval _ h⟩, he⟩, hb⟩
theorem iparse_itoa (m : Int) (w : World) (h0 : -9223372036854775808 ≤ m) (h1 : m ≤ 9223372036854775807) :
    Calls Tryd.prog 7 #[.string ⟨(Lib.itoa m).toArray⟩] w fun e w' => (∃ (k : Int) (o : Bool), ((o = true ∧ 0 ≤ m ∧ m ≤ 1000000000000 ∧ k = m) ∨ (o = false ∧ m < 0) ∨ (o = false ∧ 0 ≤ m ∧ 1000000000000 < m)) ∧ e = .returned (.tuple #[.int .i64 k, .bool o])) ∧ Below w.heap.size w w' := by
  have hsz : (Lib.itoa m).length ≤ 100 := by
    unfold Lib.itoa
    by_cases h : m < 0
    · rw [if_pos h, List.length_cons, Lib.decDigits_length]; have := nDigits_le 19 m.natAbs (by omega); omega
    · rw [if_neg h, Lib.decDigits_length]; have := nDigits_le 19 m.toNat (by omega); omega
  refine (iparse _ w (by simp [ByteArray.size]; omega)).mono fun e w' ⟨he, hb⟩ => ⟨⟨_, _, ?_, he⟩, hb⟩
  show (pok (Lib.itoa m) = true ∧ 0 ≤ m ∧ m ≤ 1000000000000 ∧ (pval (Lib.itoa m) : Int) = m) ∨ (pok (Lib.itoa m) = false ∧ m < 0) ∨ (pok (Lib.itoa m) = false ∧ 0 ≤ m ∧ 1000000000000 < m)
  have hp := pok_itoa m
  by_cases m1 : 0 ≤ m
  · by_cases m2 : m ≤ 1000000000000
    · exact Or.inl ⟨by rw [hp, decide_eq_true m1, decide_eq_true m2]; rfl, m1, m2, pval_itoa m m1 m2⟩
    · exact Or.inr (Or.inr ⟨by rw [hp, decide_eq_false m2]; simp, m1, by omega⟩)
  · exact Or.inr (Or.inl ⟨by rw [hp, decide_eq_false m1]; simp, by omega⟩)
set_option maxHeartbeats 1600000 in
set_option maxRecDepth 100000 in
theorem core (w : World) (A : Option Addr) (cap : Nat) (xs : List Value) (hB : Bytes xs) (hbig : xs.length ≤ 1048576) (hcap : xs.length ≤ cap) (hm0 : cap ≤ 9223372036854775807) (r0 : Reads w w.heap.size A xs) (ht : Tab w) :
    Calls Tryd.prog 3 #[.slice A xs.length cap] w fun e w' => e = .returned (.bool true) ∧ Below w.heap.size w w' := by
  have Ht := Lib.hid ht; clear ht
  go_enter Tryd.func3, Tryd.ntmps3
  go_wp2_with fail
  refine (bigf _ _ _ _ hbig hm0 hcap).mono ?_
  rintro e w1 ⟨rfl, rfl⟩
  go_wp2_with fail
  refine (drawParseInt _ _ _ _ hB hbig r0).mono ?_
  rintro e w1 ⟨⟨s, hs, rfl⟩, hb1⟩
  go_wp2_with fail
  refine (iparse_any _ _ (by omega)).mono ?_
  rintro e w2 ⟨⟨v, o, hP, rfl⟩, hb2'⟩
  have hb2 := hb1.trans (hb2'.mono hb1.size); clear hb1 hb2'
  go_wp2_with fail
  refine (drawFormatInt _ _ _ _ hB hbig ((r0.below hb2 (Nat.le_refl _)).more hb2.size)).mono ?_
  rintro e w3 ⟨⟨m, hm, rfl⟩, hb3'⟩
  have hb3 := hb2.trans (hb3'.mono hb2.size); clear hb2 hb3'
  have Hm := Lib.hid hm; clear hm
  go_wp2_with fail
  refine (ifmt _ _ Hm.out.1 Hm.out.2 (tab_later Ht.out hb3)).mono ?_
  rintro e w4 ⟨rfl, hb4'⟩
  have hb4 := hb3.trans (hb4'.mono hb3.size); clear hb3 hb4'
  go_wp2_with fail
  refine (iparse_itoa _ _ Hm.out.1 Hm.out.2).mono ?_
  rintro e w5 ⟨⟨k, f, hK, rfl⟩, hb5'⟩
  have HK := Lib.hid hK; clear hK
  have hb5 := hb4.trans (hb5'.mono hb4.size); clear hb4 hb5'
  go_wp2_with fail
  refine (drawCeilDiv _ _ _ _ hB hbig ((r0.below hb5 (Nat.le_refl _)).more hb5.size)).mono ?_
  rintro e w6 ⟨⟨a, b, ha, hb, rfl⟩, hb6'⟩
  have hb6 := hb5.trans (hb6'.mono hb5.size); clear hb5 hb6'
  have Ha := Lib.hid ha; have Hb := Lib.hid hb; clear ha hb
  go_wp2_with fail
  refine (icdiv _ _ _).mono ?_
  rintro e w7 ⟨rfl, rfl⟩
  go_wp2_with fail
  refine (imod _ _ _).mono ?_
  rintro e w7 ⟨rfl, rfl⟩
  go_upto_region 10 with fail
  go_cut [65] from 41 to 65 (fun c wx => c = .bool false ∧ Below w.heap.size w wx)
  case first =>
    obtain ⟨p1, p2, p3⟩ := hP
    have HC := Lib.hid p3; clear p3
    cases o
    · clear HC
      rcases HK.out with ⟨rfl, m1, m2, rfl⟩ | ⟨rfl, m1⟩ | ⟨rfl, m1, m2⟩
      all_goals
        clear HK
        go_wp2_with fail
        go_meet
        first | exact ⟨rfl, hb6⟩ | exact ⟨congrArg Value.bool (decide_eq_false (by omega)), hb6⟩
    · have hcmp := HC.out rfl
      clear HC
      rcases HK.out with ⟨rfl, m1, m2, rfl⟩ | ⟨rfl, m1⟩ | ⟨rfl, m1, m2⟩
      all_goals
        clear HK
        go_wp2_with fail
        refine (ifmt _ _ (by omega) (by omega) (tab_later Ht.out hb6)).mono ?_
        rintro e w7 ⟨rfl, hb7'⟩
        have hb7 := hb6.trans (hb7'.mono hb6.size)
        go_wp2_with fail
        go_meet
        first | exact ⟨rfl, hb7⟩ | exact ⟨congrArg Value.bool (decide_eq_false (by omega)), hb7⟩
  case rest =>
    obtain ⟨rfl, hbw⟩ := hcut
    by_cases b1 : 1 ≤ b
    · by_cases b2 : b ≤ 1000000000000
      · obtain ⟨r1, r2, r3⟩ := md_in (a := a) b1 b2
        have hbd := tmod_bd a b b1
        have hwr : ((RowKit.wrap64 (a.tmod b - modf a b)).tmod b != 0) = false := by
          rw [IntWalk.wrap64_in _ (by omega), r3]; rfl
        have d1 : decide (modf a b < 0) = false := decide_eq_false (by omega)
        have d2 : decide (b ≤ modf a b) = false := decide_eq_false (by omega)
        have hwr2 : 0 ≤ a → ((RowKit.wrap64 (a % b - modf a b)).tmod b != 0) = false := fun h => by
          rw [← Int.tmod_eq_emod_of_nonneg h]; exact hwr
        have HW2 := Lib.hid hwr2
        clear hwr2 hbd r3
        by_cases a1 : 0 ≤ a
        · have hwr2 := HW2.out a1
          by_cases a2 : a ≤ 1000000000000
          · obtain ⟨q1, q2, q3, q4⟩ := cd_in a1 a2 b1 b2
            go_wp2
            all_goals
              go_ret
              first | exact ⟨rfl, hbw⟩ | (refine ⟨?_, hbw⟩; simp; done) | (refine ⟨?_, hbw⟩; simp; omega) | (refine ⟨?_, hbw⟩; simp [*]; done)
          · have hcd := cd_out (a := a) (b := b) (fun h => a2 h.2.1)
            go_wp2
            all_goals
              go_ret
              first | exact ⟨rfl, hbw⟩ | (refine ⟨?_, hbw⟩; simp; done) | (refine ⟨?_, hbw⟩; simp; omega) | (refine ⟨?_, hbw⟩; simp [*]; done)
        · have hcd := cd_out (a := a) (b := b) (fun h => a1 h.1)
          go_wp2
          all_goals
            go_ret
            first | exact ⟨rfl, hbw⟩ | (refine ⟨?_, hbw⟩; simp; done) | (refine ⟨?_, hbw⟩; simp; omega) | (refine ⟨?_, hbw⟩; simp [*]; done)
      · have hcd := cd_out (a := a) (b := b) (fun h => b2 h.2.2.2)
        have hmd := md_out (a := a) (b := b) (fun h => b2 h.2)
        go_wp2
        all_goals
          go_ret
          first | exact ⟨rfl, hbw⟩ | (refine ⟨?_, hbw⟩; simp; done) | (refine ⟨?_, hbw⟩; simp; omega) | (refine ⟨?_, hbw⟩; simp [*]; done)
    · have hcd := cd_out (a := a) (b := b) (fun h => b1 h.2.2.1)
      have hmd := md_out (a := a) (b := b) (fun h => b1 h.1)
      go_wp2
      all_goals
        go_ret
        first | exact ⟨rfl, hbw⟩ | (refine ⟨?_, hbw⟩; simp; done) | (refine ⟨?_, hbw⟩; simp; omega) | (refine ⟨?_, hbw⟩; simp [*]; done)
end Go.Proofs.YtpjkfkpfmjcjiaaDoor
