/- The walk of law FnKeyedHash. -/
import Derived.Test.YtehmnipaiihndaaDrawCrypto
import Derived.Test.YtehmnipaiihndaaBig
import Derived.StillTailTactics
import Derived.IntWalk
namespace Go.Proofs.Ytehmnipaiihndaa
open Go.ChangeShapes Go.WideShapes Go.ChangeAt Go.RowKit
set_option linter.unusedVariables false
set_option maxHeartbeats 1600000 in
set_option maxRecDepth 100000 in
theorem coreKH (w : World) (A : Option Addr) (cap : Nat) (xs : List Value) (lc : List Nat) (hB : Bytes xs) (hbig : xs.length ≤ 1048576) (hcap : xs.length ≤ cap) (hm0 : cap ≤ 9223372036854775807) (r0 : Reads w w.heap.size A xs)
    (s0 : Sl w w.heap.size 1 A xs.length cap (bv lc)) (hlc : ∀ b ∈ lc, b < 256) :
    Calls Try.prog 4 #[.slice A xs.length cap] w fun e w' => e = .returned (.bool true) ∧ Below w.heap.size w w' := by
  obtain ⟨i0, hi, hy0, hy1, hy2⟩ := info_parts i64_info
  have S0 := Lib.hid s0; have HLC := Lib.hid hlc
  clear s0 hlc
  go_enter Try.func4, Try.ntmps4
  go_wp2_with fail
  refine (big_no _ _ _ _ hbig hm0 hcap).mono ?_
  rintro e w1 ⟨rfl, rfl⟩
  go_wp2_with fail
  refine (drawKeyedHash _ _ _ _ hB hbig r0).mono ?_
  rintro e w1 ⟨⟨k, A1, m, c1, zs, rfl, hm, hzs, o⟩, b⟩
  have HZ := Lib.hid hzs; have OL := Lib.hid o; have TB := Lib.hid b
  have cm := o.capm
  have Ll : Hid (zs.length = m) := Lib.hid (by have := o.len; rw [iv_len] at this; omega)
  clear hzs o b
  go_wp2_with fail
  refine (ikeyed _ _ k A1 m c1 zs OL.out.sl (Nat.le_refl _) (by omega)).mono ?_
  rintro e w2 ⟨rfl, b⟩
  replace OL := Lib.hid (OL.out.on b); replace TB := Lib.hid (TB.out.trans (b.mono TB.out.size))
  clear b
  have hkb := kh_bd k zs
  obtain ⟨hh, hhe⟩ : ∃ z, z = kh k zs := ⟨_, rfl⟩
  rw [← hhe] at hkb ⊢
  have HH := Lib.hid hhe
  have f1 : decide (hh < 0) = false := by simp; omega
  have f2 : decide (2147483647 ≤ hh) = false := by simp; omega
  obtain ⟨hkb0, hkb1⟩ := hkb
  clear hhe
  have H0 := Lib.hid (Own.lit w2 w2.heap.size 3 #[.int .i64 k] 1 (Nat.le_refl _) (by omega) rfl)
  have HB0 := Lib.hid ((Below.refl w2.heap.size w2).alloc (Nat.le_refl _) (.cells #[.int .i64 k] 3))
  have H1 := Lib.hid (OL.out.sl.below HB0.out (Nat.le_refl _))
  go_wp2_with (first
    | (at_builtin; refine wpList_append_slg _ rfl (.tmp 29) (.tmp 30) 28 rfl w2.heap.size 3 i0 _ 1 8 Try.underlying28 hi hy0 hy1 hy2 rfl (by omega) _ 1 1 [.int .i64 k] rfl H0.out _ A1 m c1 (iv zs) rfl H1.out (iv_one zs) (by omega) (by omega) (by simp) ?_; intro A2 c2 w3 hown hg hat; have HB1 := Lib.hid (H0.out.below HB0.out (by simp) hg); have H2 := Lib.hid (hown.on ((Below.refl w3.heap.size w3).alloc (Nat.le_refl _) (.cells #[.int .i64 k] 3))); have HB2 := Lib.hid (HB1.out.alloc HB1.out.size (.cells #[.int .i64 k] 3)); have hsz := HB1.out.size; clear hown hg hat H1 H0 HB0 HB1)
    | (at_builtin; refine wpList_append_slg _ rfl (.tmp 31) (.tmp 33) 28 rfl w2.heap.size 3 i0 _ 1 8 Try.underlying28 hi hy0 hy1 hy2 rfl (by omega) A2 (1 + m) c2 ([.int .i64 k] ++ iv zs) rfl H2.out (w3.heap.size + 1) _ 1 1 [.int .i64 k] rfl (Sl.one w3 _ _) (by simp [Value.oneCell']) (by omega) (by omega) (by simp; omega) ?_; intro A3 c3 w4 hown3 hg3 hat3; have HF : Hid (Own w4 w2.heap.size 3 1 A3 (1 + m + 1) c3 (iv ([k] ++ zs ++ [k]))) := Lib.hid (by rw [iv_app, iv_app]; exact hown3); have HB3 := Lib.hid (H2.out.below HB2.out (by simp; omega) hg3); clear hown3 hg3 hat3 H2 HB2))
  refine (ihash _ _ A3 (1 + m + 1) c3 _ HF.out.sl (by omega)).mono ?_
  rintro e w5 ⟨rfl, rfl⟩
  rw [show hs ([k] ++ zs ++ [k]) = hh from HH.out.symm]
  replace OL := Lib.hid (OL.out.on HB3.out); replace TB := Lib.hid (TB.out.trans (HB3.out.mono TB.out.size))
  clear HF HB3
  by_cases hm0' : 0 < m
  · have H4 := Lib.hid (Own.lit w4 w4.heap.size 3 #[] 0 (Nat.le_refl _) (by omega) rfl)
    have HB4 := Lib.hid ((Below.refl w4.heap.size w4).alloc (Nat.le_refl _) (.cells #[] 3))
    have H5 := Lib.hid (OL.out.sl.below HB4.out (Nat.le_refl _))
    go_wp2_with (at_builtin; refine wpList_append_sl _ rfl (.tmp 41) (.tmp 42) 28 rfl w4.heap.size 3 i0 _ 1 8 Try.underlying28 hi hy0 hy1 hy2 rfl (by omega) _ 0 0 [] rfl H4.out _ A1 m c1 (iv zs) rfl H5.out (iv_one zs) (by omega) (by omega) (by simp) ?_; intro A4 c4 w5 hown hg hat)
    have hb5 := H4.out.below HB4.out (by simp) hg
    have hsz4 := TB.out.size
    simp only [Nat.zero_add, List.nil_append] at hown
    replace OL := Lib.hid (OL.out.on hb5); replace TB := Lib.hid (TB.out.trans (hb5.mono TB.out.size))
    have OM := Lib.hid (hown.fewer (B' := w.heap.size) hsz4)
    clear hown hg hat H4 HB4 H5 hb5 hi hy0 hy1 hy2
    rcases OM.out.form with ⟨_, h0, _⟩ | ⟨g, rfl, hg0, hg1, hc0, hc1⟩
    · omega
    refine (at_is _ _ A xs.length cap lc (S0.out.below TB.out (Nat.le_refl _)) hbig HLC.out 0 (by omega)).mono ?_
    rintro e w6 ⟨rfl, rfl⟩
    obtain ⟨x0, hx0⟩ : ∃ x, x = atv lc xs.length 0 := ⟨_, rfl⟩
    rw [← hx0]
    obtain ⟨i, hie⟩ : ∃ i, i = x0 % m := ⟨_, rfl⟩
    have hil : i < m := by rw [hie]; exact Nat.mod_lt _ hm0'
    have hrem : (x0 : Int) % (m : Int) = (i : Int) := by rw [hie]; rfl
    have hx0b : x0 ≤ 255 := by have := atv_lt lc xs.length 0 HLC.out; omega
    clear hx0 hie
    have hiz : i < zs.length := by rw [Ll.out]; exact hil
    have hvb := HZ.out zs[i] (List.getElem_mem hiz)
    have hcv : w6.cell? ⟨g, i, none⟩ = some (.int .i64 zs[i]) := by
      rw [OM.out.row.cellAt i (by omega), List.getElem?_eq_getElem (by rw [iv_len]; exact hiz), iv_get]
    have hfv := OM.out.row.frozenAt i
    obtain ⟨v, hve⟩ : ∃ v, v = zs[i] := ⟨_, rfl⟩
    rw [← hve] at hvb hcv
    have HV := Lib.hid hve
    obtain ⟨x1, hx1⟩ : ∃ x, x = atv lc xs.length 1 := ⟨_, rfl⟩
    have hx1b : x1 ≤ 255 := by have := atv_lt lc xs.length 1 HLC.out; omega
    obtain ⟨nv, hnv⟩ : ∃ z, z = modf (v + 1 + (x1 : Int)) 2147483647 := ⟨_, rfl⟩
    have hne : nv % 2147483647 ≠ v % 2147483647 := by rw [hnv]; unfold modf; rw [if_pos (by omega)]; omega
    have hnvb : 0 ≤ nv ∧ nv ≤ 2147483646 := by rw [hnv]; unfold modf; rw [if_pos (by omega)]; omega
    have g1 : IntKind.i64.wrap (v + 1) = v + 1 := IntWalk.i64_in _ (by omega)
    have g2 : IntKind.i64.wrap (v + 1 + (x1 : Int)) = v + 1 + (x1 : Int) := IntWalk.i64_in _ (by omega)
    have hst := OM.out.row.stored i (.int .i64 nv)
    have hset : (iv zs).set i (.int .i64 nv) = iv (zs.set i nv) := by unfold iv; rw [List.map_set]
    have hkne := Lib.hid (kh_set k zs i nv hiz (by rw [← hve]; exact hne))
    go_wp2_with fail
    rw [hrem]
    refine wp_region_still_tail 12 (by kernel_rfl) (by kernel_rfl) ?_
    change wpStill _ _ w6.drew (fun a' => wpList _ _ _ _ a' w6.drew) _ _
    simp only [List.take_succ_cons, List.take_zero, List.drop_succ_cons, List.drop_zero]
    have hcv7 : w6.drew.cell? ⟨g, i, none⟩ = some (.int .i64 v) := hcv
    have hfv7 : w6.drew.frozen? ⟨g, i, none⟩ = false := hfv
    have TB7 : Below w.heap.size w w6.drew := TB.out.drew
    have OM7 : Own w6.drew w.heap.size 3 1 (some ⟨g, 0, none⟩) m c4 (iv zs) := ⟨OM.out.row⟩
    clear hcv hfv TB OM OL hve hst
    generalize w6.drew = w7 at hcv7 hfv7 TB7 OM7 ⊢
    have hsv := OM7.row.stored i (.int .i64 nv)
    rw [hset] at hsv
    have OM8 : Hid (Own (w7.setCell ⟨g, i, none⟩ (.int .i64 nv)) w.heap.size 3 1 (some ⟨g, 0, none⟩) m c4 (iv (zs.set i nv))) := Lib.hid ⟨hsv.1⟩
    have TB8 := Lib.hid (OM7.below TB7 TB7.size hsv.2)
    have hAt := Lib.hid (at_is w7 _ A xs.length cap lc (S0.out.below TB7 (Nat.le_refl _)) hbig HLC.out 1 (by omega))
    rw [← hx1] at hAt
    have hMod : Hid (Calls Try.prog 21 #[.int .i64 (v + 1 + (x1 : Int)), .int .i64 2147483647] w7 fun e w' => e = .returned (.int .i64 nv) ∧ w' = w7) := Lib.hid (by
      rw [hnv]; exact (smod (v + 1 + (x1 : Int)) 2147483647 w7).mono fun e w' h => ⟨h.1, h.2.symm⟩)
    have TB7' := Lib.hid TB7
    clear hsv hset hnv hx1 TB7 OM7 hne
    have i0' : (0 : Int) ≤ (i : Int) := by omega
    have i1' : (i : Int) < (m : Int) := by omega
    repeat still_step
    still_call hAt.out
    repeat still_step
    still_call hMod.out
    repeat still_step
    try refine wpStill_nil ?_
    clear hAt hMod TB7'
    go_wp2_with fail
    refine (ikeyed _ _ k _ m c4 (zs.set i nv) OM8.out.sl (Nat.le_refl _) (by omega)).mono ?_
    rintro e w8 ⟨rfl, b⟩
    have TB := Lib.hid (TB8.out.trans (b.mono TB8.out.size))
    clear b TB8 OM8
    obtain ⟨h2, hh2⟩ : ∃ z, z = kh k (zs.set i nv) := ⟨_, rfl⟩
    rw [← hh2]
    have hcmp : (h2 == hh) = false := by rw [beq_eq_false_iff_ne, hh2, HH.out]; exact hkne.out
    clear hh2 hkne
    go_wp2_with fail
    refine (drawDerive _ _ _ _ hB hbig ((r0.below TB.out (Nat.le_refl _)).more TB.out.size)).mono ?_
    rintro e wd ⟨⟨k2, s, rfl, hs⟩, b⟩
    replace TB := Lib.hid (TB.out.trans (b.mono TB.out.size))
    clear b
    go_wp2_with fail
    refine (iderive _ k2 s (by omega)).mono ?_
    rintro e we ⟨rfl, b⟩
    replace TB := Lib.hid (TB.out.trans (b.mono TB.out.size))
    clear b
    have HD := Lib.hid (dvs_bd k2 s)
    go_wp2_with fail
    refine (ivalid _ _).mono ?_
    rintro e wf ⟨rfl, rfl⟩
    rw [decide_eq_true HD.out]
    go_wp2
    go_ret
    exact ⟨rfl, TB.out⟩
  · obtain rfl : m = 0 := by omega
    go_wp2_with fail
    refine (drawDerive _ _ _ _ hB hbig ((r0.below TB.out (Nat.le_refl _)).more TB.out.size)).mono ?_
    rintro e wd ⟨⟨k2, s, rfl, hs⟩, b⟩
    replace TB := Lib.hid (TB.out.trans (b.mono TB.out.size))
    clear b
    go_wp2_with fail
    refine (iderive _ k2 s (by omega)).mono ?_
    rintro e we ⟨rfl, b⟩
    replace TB := Lib.hid (TB.out.trans (b.mono TB.out.size))
    clear b
    have HD := Lib.hid (dvs_bd k2 s)
    go_wp2_with fail
    refine (ivalid _ _).mono ?_
    rintro e wf ⟨rfl, rfl⟩
    rw [decide_eq_true HD.out]
    go_wp2
    go_ret
    exact ⟨rfl, TB.out⟩
end Go.Proofs.Ytehmnipaiihndaa
