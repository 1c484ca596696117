/- The contract of the model's DecodeInts; the contracts of EqualBytes and EqualInts, of the program and of the model. -/
import Derived.Test.YtpfkijmicmampaaDecode3
namespace Go.Proofs.Ytpfkijmicmampaa
open Go.ChangeShapes Go.WideShapes Go.ChangeAt Go.RowKit
set_option linter.unusedVariables false
set_option maxHeartbeats 400000 in
set_option maxRecDepth 100000 in
theorem sdecI (w : World) (D : Nat) (A : Option Addr) (n c : Nat) (l : List Nat) (h : Sl w D 1 A n c (bv l)) (hD : D ≤ w.heap.size) (hn : n ≤ 1000000000) (hb : ∀ b ∈ l, b < 256) (off : Int) (h0 : -9223372036854775808 ≤ off) (h1 : off ≤ 9223372036854775807) (cnt : Int) (m0 : -9223372036854775808 ≤ cnt) (m1 : cnt ≤ 9223372036854775807) :
    Calls Try.prog 38 #[.slice A n c, .int .i64 off, .int .i64 cnt] w (GivesI w (diAt l off cnt)) := by
  obtain ⟨i0, hi, hy0, hy1, hy2⟩ := info_parts i64_info
  have hlen := h.len
  rw [bv_len, Nat.mul_one] at hlen
  have Hl := Lib.hid hlen; clear hlen
  have hcap := h.cap; have hcapm := h.capm
  by_cases hc : 0 ≤ cnt ∧ cnt ≤ 100
  · obtain ⟨q, rfl⟩ := Int.eq_ofNat_of_zero_le hc.1
    have hq : q ≤ 100 := by omega
    by_cases hin : 0 ≤ off ∧ off ≤ n
    · have hin4 : Hid (0 ≤ (q : Int) ∧ (q : Int) ≤ 100 ∧ 0 ≤ off ∧ off ≤ l.length) := Lib.hid ⟨hc.1, hc.2, hin.1, by rw [Hl.out]; exact hin.2⟩
      obtain ⟨hin0, hin1⟩ := hin
      have HS : Hid (∀ p, dec l q off = some p → diAt l off q = (p.1, p.2, true)) := Lib.hid (diAt_some l off q hin4.out)
      have HN : Hid (dec l q off = none → diAt l off q = ([], 0, false)) := Lib.hid (diAt_none l off q)
      have HM := Lib.hid (More.start l q off)
      generalize dec l q off = r at HS HN HM
      have H0 : Hid (Own (w.alloc (.cells #[] 3)) w.heap.size 3 1 (some ⟨w.heap.size, 0, none⟩) 0 0 (iv []) ∧ Below w.heap.size w (w.alloc (.cells #[] 3))) :=
        Lib.hid ⟨Own.lit w w.heap.size 3 #[] 0 (Nat.le_refl _) (by omega) rfl, (Below.refl _ _).alloc (Nat.le_refl _) _⟩
      go_enter Try.func38, Try.ntmps38
      go_wp2_with fail
      refine (sinr_t _ _ _ _ (by omega) (by omega)).mono ?_
      rintro e w' ⟨rfl, rfl⟩
      go_wp2_with fail
      refine (sinr_t _ _ _ _ (by omega) (by omega)).mono ?_
      rintro e w' ⟨rfl, rfl⟩
      go_wp2_with fail
      go_loopw [1, 9, 10] (fun s v i wr => ∃ (cur : Int) (acc : List Int) (k m : Nat) (A1 : Option Addr) (n1 c1 : Nat), 0 ≤ cur ∧ cur ≤ n ∧ s = .int .i64 cur ∧ v = .slice A1 n1 c1 ∧ i = .int .i64 k ∧ k + m = q ∧ acc.length = k ∧ More l m cur acc r ∧ Own wr w.heap.size 3 1 A1 n1 c1 (iv acc) ∧ Below w.heap.size w wr) (fun _ _ i _ => q - (intOf i).toNat)
      case atStart => exact ⟨off, [], 0, q, _, _, _, hin0, hin1, rfl, rfl, rfl, by omega, rfl, HM.out, H0.out.1, H0.out.2⟩
      case round =>
        clear H0 HM
        obtain ⟨cur, acc, k, m, A1, n1, c1, hc0, hc1, rfl, rfl, rfl, hkm, hacc, hM, ho, hbw⟩ := hrel
        have hn1 : n1 = acc.length := by have := ho.len; rw [iv_len] at this; omega
        have hn1b : n1 ≤ 100 := by omega
        have Hacc := Lib.hid hacc; have Hn1 := Lib.hid hn1; have HM := Lib.hid hM; have HB := Lib.hid hbw; have HO := Lib.hid ho
        have hs := h.below hbw hD
        have hsz := hbw.size
        clear hacc hn1 hM hbw ho
        by_cases hlt : k < q
        · obtain ⟨m, rfl⟩ : ∃ m', m = m' + 1 := ⟨m - 1, by omega⟩
          go_wp2_with fail
          refine (sread wr D A n c l hs hn hb cur (by omega) (by omega)).mono ?_
          rintro e w1 ⟨⟨v, nx, ok, hr, rfl⟩, rfl⟩
          have HB1 := HB
          have HO1 := HO
          rcases rdAt_cases l cur hb hr with ⟨rfl, rfl, rfl⟩ | ⟨rfl, o, v', j, rfl, rfl, rfl, hk1, hk2, hk3, hv, -⟩
          · have HR := Lib.hid (HN.out (HM.out.stop hr))
            clear hr HM HN HS
            go_wp2
            go_ret3
            exact givesI_no HB1.out HR.out
          · have HM2 := Lib.hid (HM.out.step hr)
            clear hr HM
            have hjl : o + j ≤ n := by have := Hl.out; omega
            have HO2 := Lib.hid (HO1.out.on ((Below.refl wr.heap.size wr).alloc (Nat.le_refl _) (.cells #[.int .i64 (v' : Int)] 3)))
            have HB2 := Lib.hid (HB1.out.trans (((Below.refl wr.heap.size wr).alloc (Nat.le_refl _) (.cells #[.int .i64 (v' : Int)] 3)).mono hsz))
            go_wp2_with (at_builtin; refine wpList_append_sl _ rfl (.tmp 41) (.tmp 43) 35 rfl w.heap.size 3 i0 _ 1 8 Try.underlying35 hi hy0 hy1 hy2 rfl (by omega) A1 n1 c1 _ rfl HO2.out (wr.heap.size + 1) _ 1 1 [.int .i64 (v' : Int)] rfl (Sl.one wr _ _) (by simp [Value.oneCell']) (by omega) (by omega) (by simp; omega) ?_; intro A3 c3 w3 hown3 hg3 hat3)
            have HO3 : Hid (Own w3 w.heap.size 3 1 A3 (n1 + 1) c3 (iv (acc ++ [(v' : Int)]))) := Lib.hid (by rw [iv_app]; exact hown3)
            have HB3 := Lib.hid (HO2.out.below HB2.out (by simp; omega) hg3)
            clear hown3 hg3 hat3 HO HO1 HO2 HB HB1 HB2
            go_wp2
            go_roundw
            case rel => exact ⟨((o + j : Nat) : Int), _, k + 1, m, A3, n1 + 1, c3, by omega, by omega, by go_num, rfl, by go_num, by omega, by rw [List.length_append, Hacc.out]; rfl, HM2.out, HO3.out, HB3.out⟩
            case measure => simp [intOf]; omega
        · obtain rfl : m = 0 := by omega
          have HR := Lib.hid (HS.out _ HM.out.done)
          clear HM HS HN
          go_wp2
          go_ret3
          exact ⟨⟨A1, n1, c1, _, _, true, HR.out, rfl, HO.out⟩, HB.out⟩
    · have HR := Lib.hid (diAt_out l off q (fun e => hin ⟨e.2.2.1, by have := e.2.2.2; rw [Hl.out] at this; exact this⟩))
      have Hin := Lib.hid hin; clear hin
      go_enter Try.func38, Try.ntmps38
      go_wp2_with fail
      refine (sinr_t _ _ _ _ (by omega) (by omega)).mono ?_
      rintro e w' ⟨rfl, rfl⟩
      go_wp2_with fail
      refine (sinr_f _ _ _ _ Hin.out).mono ?_
      rintro e w' ⟨rfl, rfl⟩
      go_wp2_with fail
      go_ret3
      exact givesI_no (Below.refl _ _) HR.out
  · have HR := Lib.hid (diAt_out l off cnt (fun e => hc ⟨e.1, e.2.1⟩))
    have Hin := Lib.hid hc; clear hc
    go_enter Try.func38, Try.ntmps38
    go_wp2_with fail
    refine (sinr_f _ _ _ _ Hin.out).mono ?_
    rintro e w' ⟨rfl, rfl⟩
    go_wp2_with fail
    go_ret3
    exact givesI_no (Below.refl _ _) HR.out
end Go.Proofs.Ytpfkijmicmampaa
