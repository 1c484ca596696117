/- The contracts of chapter 2's encoders (AppendUvarint, AppendBytes, EncodeInts), of the program and of the model. -/
import Derived.Test.YtpfkijmicmampaaEncode
import Derived.Laws.BitsLemmas
namespace Go.Proofs.Ytpfkijmicmampaa
open Go.ChangeShapes Go.WideShapes Go.ChangeAt Go.RowKit
set_option linter.unusedVariables false
/-- what an encoder answers: a slice of the call's own with these bytes -/
def Gives (w : World) (l : List Nat) (e : Ending) (w' : World) : Prop := (∃ A' n' c', e = .returned (.slice A' n' c') ∧ Own w' w.heap.size 5 1 A' n' c' (bv l)) ∧ Below w.heap.size w w'
set_option maxRecDepth 100000 in
theorem iappend (w : World) (D : Nat) (A : Option Addr) (n c : Nat) (l : List Nat) (h : Sl w D 1 A n c (bv l)) (hD : D ≤ w.heap.size) (hn : n ≤ 1000000000) (z : Int) (hz0 : -9223372036854775808 ≤ z) (hz1 : z ≤ 9223372036854775807) :
    Calls Try.prog 15 #[.slice A n c, .int .i64 z] w (Gives w (l ++ enc1 z)) := by
  go_enter Try.func15, Try.ntmps15
  go_wp2_with fail
  refine (icopy w D A n c l h hD (by omega)).mono ?_
  rintro e w1 ⟨⟨A1, c1, rfl, ho⟩, hb⟩
  have hb1 : Below w1.heap.size w1 (w1.alloc (.cells #[.int .i64 z] 3)) := (Below.refl _ _).alloc (Nat.le_refl _) _
  have H1 := Lib.hid (ho.on hb1)
  have Hap : Hid (∀ ad : Addr, some (⟨w1.heap.size, 0, none⟩ : Addr) = some ad → Old (w1.alloc (.cells #[.int .i64 z] 3)).heap.size (Value.slice A1 n c1).ownBlock ad.block) := by
    refine Lib.hid fun ad e => ?_
    injection e with e; subst e
    refine ⟨by simp, ?_⟩
    rcases ho.blk with e | ⟨g, e, _, hg⟩ <;> rw [e] <;> simp; omega
  have HB1 := Lib.hid hb1; have HB := Lib.hid hb; have HO := Lib.hid ho
  clear hb1 hb ho
  go_wp2_with fail
  refine (iwith _ w.heap.size A1 n c1 l H1.out (by have := HB.out.size; simp; omega) (by omega) _ _ 1 1 [z] (Sl.one w1 (.int .i64 z) 3) (fun _ => Hap.out) (by simp; omega) (by omega)).mono ?_
  rintro e w2 ⟨⟨A2, n2, c2, rfl, ho2, hs2⟩, hg2⟩
  have hfin : Hid (Below w.heap.size w w2) := Lib.hid (H1.out.below ((HB.out.trans (HB1.out.mono HB.out.size))) (by have := HB.out.size; simp; omega) hg2)
  rw [encs_one] at ho2
  have HO2 := Lib.hid ho2
  clear ho2 hs2 hg2
  go_wp2
  go_ret
  exact ⟨⟨A2, n2, c2, rfl, HO2.out⟩, hfin.out⟩
theorem and127 (n : Int) : bits .and .i64 n 127 = n % 128 := by
  have h127 : (BitVec.ofInt 64 127).toNat = 2 ^ 7 - 1 := by decide
  have key : (BitVec.ofInt 64 n &&& BitVec.ofInt 64 127).toNat = (n % ((2 ^ 64 : Nat) : Int)).toNat % 2 ^ 7 := by
    rw [BitVec.toNat_and, BitVec.toNat_ofInt, h127, Nat.and_two_pow_sub_one_eq_mod]
  show IntKind.i64.wrap ((BitVec.ofInt 64 n &&& BitVec.ofInt 64 127).toNat : Nat) = n % 128
  rw [key, IntKind.wrap_i64]
  omega
theorem or128 (x : Nat) : bits .or .i64 (bits .and .i64 (x : Int) 127) 128 = (x : Int) % 128 + 128 := by
  rw [and127]
  have e1 : (BitVec.ofInt 64 ((x : Int) % 128)).toNat = x % 128 := by
    rw [show ((x : Int) % 128) = ((x % 128 : Nat) : Int) from by omega, BitVec.ofInt_natCast, BitVec.toNat_ofNat]; exact Nat.mod_eq_of_lt (by omega)
  have e2 : (BitVec.ofInt 64 128).toNat = 2 ^ 7 := by decide
  show IntKind.i64.wrap ((BitVec.ofInt 64 ((x : Int) % 128) ||| BitVec.ofInt 64 128).toNat : Int) = _
  rw [BitVec.toNat_or, e1, e2, Nat.or_comm]
  have := Nat.two_pow_add_eq_or_of_lt (i := 7) (b := x % 128) (by omega) 1
  rw [Nat.mul_one] at this
  rw [← this, IntKind.wrap_i64]
  omega
set_option maxRecDepth 100000 in
theorem sappend (w : World) (D : Nat) (A : Option Addr) (n c : Nat) (l : List Nat) (h : Sl w D 1 A n c (bv l)) (hD : D ≤ w.heap.size) (hn : n ≤ 1000000000) (z : Int) (hz0 : -9223372036854775808 ≤ z) (hz1 : z ≤ 9223372036854775807) :
    Calls Try.prog 27 #[.slice A n c, .int .i64 z] w (Gives w (l ++ enc1 z)) := by
  obtain ⟨i0, hi, hy0, hy1, hy2⟩ := info_parts u8_info
  have h' : Hid (l.length ≤ 1000000000) := Lib.hid (by have := h.len; rw [bv_len] at this; omega)
  have h0 := Lib.hid (Own.lit w w.heap.size 5 #[] 0 (Nat.le_refl _) (by omega) rfl)
  have hb0 := Lib.hid ((Below.refl w.heap.size w).alloc (Nat.le_refl _) (.cells #[] 5))
  have h1 := Lib.hid (h.below hb0.out hD)
  by_cases hin : 0 ≤ z ∧ z ≤ 1000000000000
  · obtain ⟨x0, rfl⟩ := Int.eq_ofNat_of_zero_le hin.1
    go_enter Try.func27, Try.ntmps27
    go_wp2_with (first
      | (at_builtin; refine wpList_append_sl _ rfl (.tmp 6) (.tmp 7) 22 rfl w.heap.size 5 i0 _ 1 1 Try.underlying22 hi hy0 hy1 hy2 rfl (by omega) _ 0 0 [] rfl h0.out D A n c (bv l) rfl h1.out (bv_one l) (by omega) (by omega) (by simp) ?_; intro A2 c2 w1 hown hg hat)
      | (go_at_call 57; refine (sinr_t _ _ _ _ (by omega) (by omega)).mono ?_; rintro e w' ⟨rfl, rfl⟩))
    have hfirst : Hid (Own w1 w.heap.size 5 1 A2 n c2 (bv (l ++ [])) ∧ Below w.heap.size w w1) := by
      refine Lib.hid ⟨?_, h0.out.below hb0.out (by simp) hg⟩
      simpa using hown
    clear hown hg hat h1 h0 hb0 h
    go_loopw [1, 5] (fun s v wr => ∃ (x : Nat) (d : List Nat) (A1 : Option Addr) (n1 c1 : Nat), x ≤ 1000000000000 ∧ s = .int .i64 x ∧ v = .slice A1 n1 c1 ∧ d ++ uv x = uv x0 ∧ Own wr w.heap.size 5 1 A1 n1 c1 (bv (l ++ d)) ∧ Below w.heap.size w wr) (fun s _ _ => (intOf s).toNat)
    case atStart => exact ⟨x0, [], A2, n, c2, by omega, rfl, rfl, rfl, hfirst.out.1, hfirst.out.2⟩
    case round =>
      clear hfirst
      obtain ⟨x, d, A1, n1, c1, hx1, rfl, rfl, hd, hown, hb⟩ := hrel
      have hdl := uv_part_len d x x0 hd (by omega)
      have hn1 : n1 ≤ 1000000006 := by have := keys_len hown; have h2 := h'.out; rw [List.length_append] at this; omega
      have Hd := Lib.hid hd; clear hd
      have HO1 := Lib.hid (hown.on ((Below.refl wr.heap.size wr).alloc (Nat.le_refl _) (.cells #[.int .u8 ((x : Int) % 128 + 128)] 5)))
      have HB1 := Lib.hid (hb.trans (((Below.refl wr.heap.size wr).alloc (Nat.le_refl _) (.cells #[.int .u8 ((x : Int) % 128 + 128)] 5)).mono hb.size))
      have HO2 := Lib.hid (hown.on ((Below.refl wr.heap.size wr).alloc (Nat.le_refl _) (.cells #[.int .u8 (x : Int)] 5)))
      have HB2 := Lib.hid (hb.trans (((Below.refl wr.heap.size wr).alloc (Nat.le_refl _) (.cells #[.int .u8 (x : Int)] 5)).mono hb.size))
      have hsz := hb.size
      clear hown hb
      by_cases h128 : 127 < x
      · have hor := or128 x
        have hm : x % 128 + 128 < 256 := by omega
        go_wp2_with (at_builtin; refine wpList_append_sl _ rfl (.tmp 15) (.tmp 20) 22 rfl w.heap.size 5 i0 _ 1 1 Try.underlying22 hi hy0 hy1 hy2 rfl (by omega) A1 n1 c1 _ rfl HO1.out (wr.heap.size + 1) _ 1 1 [.int .u8 ((x : Int) % 128 + 128)] rfl (Sl.one wr _ _) (by simp [Value.oneCell']) (by omega) (by omega) (by simp; omega) ?_; intro A3 c3 w3 hown3 hg3 hat3)
        have hfin : Hid (Own w3 w.heap.size 5 1 A3 (n1 + 1) c3 (bv (l ++ (d ++ [x % 128 + 128]))) ∧ Below w.heap.size w w3) := by
          refine Lib.hid ⟨?_, HO1.out.below HB1.out (by simp; omega) hg3⟩
          rw [← List.append_assoc, bv_app]; exact hown3
        clear hown3 hg3 hat3 HO1 HO2 HB1 HB2 hor
        go_wp2
        go_roundw
        case rel => exact ⟨x / 128, _, A3, n1 + 1, c3, by omega, by go_num, rfl, uv_part d x x0 Hd.out (by omega), hfin.out.1, hfin.out.2⟩
        case measure => simp [intOf]; omega
      · go_wp2_with (at_builtin; refine wpList_append_sl _ rfl (.tmp 24) (.tmp 27) 22 rfl w.heap.size 5 i0 _ 1 1 Try.underlying22 hi hy0 hy1 hy2 rfl (by omega) A1 n1 c1 _ rfl HO2.out (wr.heap.size + 1) _ 1 1 [.int .u8 (x : Int)] rfl (Sl.one wr _ _) (by simp [Value.oneCell']) (by omega) (by omega) (by simp; omega) ?_; intro A3 c3 w3 hown3 hg3 hat3)
        have hfin : Hid (Own w3 w.heap.size 5 1 A3 (n1 + 1) c3 (bv (l ++ enc1 x0)) ∧ Below w.heap.size w w3) := by
          refine Lib.hid ⟨?_, HO2.out.below HB2.out (by simp; omega) hg3⟩
          rw [enc1_in _ hin.1 hin.2, Int.toNat_natCast, ← Hd.out, uv_small x (by omega), ← List.append_assoc, bv_app]; exact hown3
        clear hown3 hg3 hat3 HO1 HO2 HB1 HB2
        go_ret
        exact ⟨⟨A3, n1 + 1, c3, rfl, hfin.out.1⟩, hfin.out.2⟩
  · have hno : Hid (enc1 z = []) := Lib.hid (enc1_out z hin)
    have Hin := Lib.hid hin; clear hin
    go_enter Try.func27, Try.ntmps27
    go_wp2_with (first
      | (at_builtin; refine wpList_append_sl _ rfl (.tmp 6) (.tmp 7) 22 rfl w.heap.size 5 i0 _ 1 1 Try.underlying22 hi hy0 hy1 hy2 rfl (by omega) _ 0 0 [] rfl h0.out D A n c (bv l) rfl h1.out (bv_one l) (by omega) (by omega) (by simp) ?_; intro A2 c2 w1 hown hg hat)
      | (go_at_call 57; refine (sinr_f _ _ _ _ Hin.out).mono ?_; rintro e w' ⟨rfl, rfl⟩))
    have hfin : Hid (Own w1 w.heap.size 5 1 A2 n c2 (bv (l ++ enc1 z)) ∧ Below w.heap.size w w1) := by
      refine Lib.hid ⟨?_, h0.out.below hb0.out (by simp) hg⟩
      rw [hno.out]; simpa using hown
    clear hown hg hat hno
    go_ret
    exact ⟨⟨A2, n, c2, rfl, hfin.out.1⟩, hfin.out.2⟩
set_option maxRecDepth 100000 in
theorem iappendB (w : World) (D : Nat) (A : Option Addr) (n c : Nat) (l : List Nat) (h : Sl w D 1 A n c (bv l)) (D' : Nat) (A' : Option Addr) (m c' : Nat) (d : List Nat) (h' : Sl w D' 1 A' m c' (bv d)) (hD : D ≤ w.heap.size) (hD' : D' ≤ w.heap.size) (hn : n ≤ 1000000000) (hm : m ≤ 1000000000) :
    Calls Try.prog 21 #[.slice A n c, .slice A' m c'] w (Gives w (l ++ enc1 m ++ d)) := by
  obtain ⟨i0, hi, hy0, hy1, hy2⟩ := info_parts u8_info
  have hln := h.len
  have hcap := h'.cap; have hcapm := h'.capm
  rw [bv_len, Nat.mul_one] at hln
  have Hln := Lib.hid hln; clear hln
  go_enter Try.func21, Try.ntmps21
  go_wp2_with fail
  refine (iappend w D A n c l h hD hn m (by omega) (by omega)).mono ?_
  rintro e w1 ⟨⟨A1, n1, c1, rfl, ho⟩, hb⟩
  have hn1 : n1 ≤ 1000000006 := by have := keys_len ho; have h2 := Hln.out; have h3 := enc1_len m; rw [List.length_append] at this; omega
  have hs1 := Lib.hid (h'.below hb hD')
  have HO := Lib.hid ho; have HB := Lib.hid hb
  have hsz := hb.size
  clear ho hb
  go_wp2_with (at_builtin; refine wpList_append_sl _ rfl (.tmp 8) (.tmp 9) 22 rfl w.heap.size 5 i0 _ 1 1 Try.underlying22 hi hy0 hy1 hy2 rfl (by omega) A1 n1 c1 _ rfl HO.out D' A' m c' (bv d) rfl hs1.out (bv_one d) (by omega) (by omega) (by omega) ?_; intro A2 c2 w2 hown hg hat)
  have hfin : Hid (Own w2 w.heap.size 5 1 A2 (n1 + m) c2 (bv (l ++ enc1 m ++ d)) ∧ Below w.heap.size w w2) := by
    refine Lib.hid ⟨?_, HO.out.below HB.out (by omega) hg⟩
    rw [bv_app]; exact hown
  clear hown hg hat HO HB
  go_ret
  exact ⟨⟨A2, n1 + m, c2, rfl, hfin.out.1⟩, hfin.out.2⟩
set_option maxRecDepth 100000 in
theorem sappendB (w : World) (D : Nat) (A : Option Addr) (n c : Nat) (l : List Nat) (h : Sl w D 1 A n c (bv l)) (D' : Nat) (A' : Option Addr) (m c' : Nat) (d : List Nat) (h' : Sl w D' 1 A' m c' (bv d)) (hD : D ≤ w.heap.size) (hD' : D' ≤ w.heap.size) (hn : n ≤ 1000000000) (hm : m ≤ 1000000000) :
    Calls Try.prog 32 #[.slice A n c, .slice A' m c'] w (Gives w (l ++ enc1 m ++ d)) := by
  obtain ⟨i0, hi, hy0, hy1, hy2⟩ := info_parts u8_info
  have hln := h.len
  have hcap := h'.cap; have hcapm := h'.capm
  rw [bv_len, Nat.mul_one] at hln
  have Hln := Lib.hid hln; clear hln
  go_enter Try.func32, Try.ntmps32
  go_wp2_with fail
  refine (sappend w D A n c l h hD hn m (by omega) (by omega)).mono ?_
  rintro e w1 ⟨⟨A1, n1, c1, rfl, ho⟩, hb⟩
  have hn1 : n1 ≤ 1000000006 := by have := keys_len ho; have h2 := Hln.out; have h3 := enc1_len m; rw [List.length_append] at this; omega
  have hs1 := Lib.hid (h'.below hb hD')
  have HO := Lib.hid ho; have HB := Lib.hid hb
  have hsz := hb.size
  clear ho hb
  go_wp2_with (at_builtin; refine wpList_append_sl _ rfl (.tmp 8) (.tmp 9) 22 rfl w.heap.size 5 i0 _ 1 1 Try.underlying22 hi hy0 hy1 hy2 rfl (by omega) A1 n1 c1 _ rfl HO.out D' A' m c' (bv d) rfl hs1.out (bv_one d) (by omega) (by omega) (by omega) ?_; intro A2 c2 w2 hown hg hat)
  have hfin : Hid (Own w2 w.heap.size 5 1 A2 (n1 + m) c2 (bv (l ++ enc1 m ++ d)) ∧ Below w.heap.size w w2) := by
    refine Lib.hid ⟨?_, HO.out.below HB.out (by omega) hg⟩
    rw [bv_app]; exact hown
  clear hown hg hat HO HB
  go_ret
  exact ⟨⟨A2, n1 + m, c2, rfl, hfin.out.1⟩, hfin.out.2⟩
set_option maxRecDepth 100000 in
theorem iencode (w : World) (D : Nat) (A : Option Addr) (n c : Nat) (l : List Int) (h : Sl w D 1 A n c (iv l)) (hD : D ≤ w.heap.size) (hn : n ≤ 100000000) (hr : ∀ z ∈ l, -9223372036854775808 ≤ z ∧ z ≤ 9223372036854775807) :
    Calls Try.prog 24 #[.slice A n c] w (Gives w (encs l)) := by
  have hb : Below w.heap.size w (w.alloc (.cells #[] 5)) := (Below.refl _ _).alloc (Nat.le_refl _) _
  have H0 := Lib.hid (Own.lit w w.heap.size 5 #[] 0 (Nat.le_refl _) (by omega) rfl)
  have Hs := Lib.hid (h.below hb hD)
  have Hap : Hid (0 < (iv l).length → ∀ ad : Addr, A = some ad → Old (w.alloc (.cells #[] 5)).heap.size (Value.slice (some ⟨w.heap.size, 0, none⟩) 0 0).ownBlock ad.block) := by
    refine Lib.hid fun hl ad e => ?_
    obtain ⟨ad', e', hlt, _⟩ := h.rd hl
    rw [e] at e'; injection e' with e'; subst e'
    refine ⟨by simp; omega, ?_⟩
    simp [Value.ownBlock]; omega
  have HB := Lib.hid hb; have HR := Lib.hid hr
  clear hb hr h
  go_enter Try.func24, Try.ntmps24
  go_wp2_with fail
  refine (iwith _ w.heap.size _ 0 0 [] H0.out (by simp) (by omega) D A n c l Hs.out Hap.out HR.out hn).mono ?_
  rintro e w2 ⟨⟨A2, n2, c2, rfl, ho2, hs2⟩, hg2⟩
  have hfin : Hid (Below w.heap.size w w2) := Lib.hid (H0.out.below HB.out (by simp) hg2)
  rw [List.nil_append] at ho2
  have HO2 := Lib.hid ho2
  clear ho2 hs2 hg2
  go_wp2
  go_ret
  exact ⟨⟨A2, n2, c2, rfl, HO2.out⟩, hfin.out⟩
set_option maxRecDepth 100000 in
theorem sencode (w : World) (D : Nat) (A : Option Addr) (n c : Nat) (l : List Int) (h : Sl w D 1 A n c (iv l)) (hD : D ≤ w.heap.size) (hn : n ≤ 100000000) (hr : ∀ z ∈ l, -9223372036854775808 ≤ z ∧ z ≤ 9223372036854775807) :
    Calls Try.prog 34 #[.slice A n c] w (Gives w (encs l)) := by
  have hlen := h.len
  rw [iv_len, Nat.mul_one] at hlen
  have Hl := Lib.hid hlen; clear hlen
  have hcap := h.cap; have hcapm := h.capm
  have H0 : Hid (Own (w.alloc (.cells #[] 5)) w.heap.size 5 1 (some ⟨w.heap.size, 0, none⟩) 0 0 (bv (encs (l.take 0))) ∧ Below w.heap.size w (w.alloc (.cells #[] 5))) :=
    Lib.hid ⟨Own.lit w w.heap.size 5 #[] 0 (Nat.le_refl _) (by omega) rfl, (Below.refl _ _).alloc (Nat.le_refl _) _⟩
  have HR := Lib.hid hr; clear hr
  go_enter Try.func34, Try.ntmps34
  go_wp2
  go_loopw [3, 4] (fun v i wr => ∃ (k : Nat) (A1 : Option Addr) (n1 c1 : Nat), k ≤ n ∧ i = .int .i64 k ∧ v = .slice A1 n1 c1 ∧ Own wr w.heap.size 5 1 A1 n1 c1 (bv (encs (l.take k))) ∧ Below w.heap.size w wr) (fun _ i _ => n - (intOf i).toNat)
  case atStart => exact ⟨0, _, _, _, Nat.zero_le _, rfl, rfl, H0.out.1, H0.out.2⟩
  case round =>
    clear H0
    obtain ⟨k, A1, n1, c1, hk, rfl, rfl, ho, hb⟩ := hrel
    by_cases hlt : k < n
    · obtain ⟨ad, hx, rfl, had, hcx⟩ := (h.below hb hD).at_ hlt
      rw [iv_get l k hx] at hcx
      have hkl : k < l.length := by rw [Hl.out]; omega
      have hsn := Lib.hid (take_snoc_i l k hkl)
      have hzr := HR.out l[k] (List.getElem_mem hkl)
      obtain ⟨z, hz⟩ : ∃ z, z = l[k] := ⟨_, rfl⟩
      rw [← hz] at hcx hsn hzr
      have hn1 : n1 ≤ 600000000 := by have := keys_len ho; have h2 := encs_len (l.take k); have h3 := List.length_take_le k l; omega
      have HO := Lib.hid ho; have HB := Lib.hid hb; have hsz := hb.size
      clear hz ho hb
      go_wp2_with fail
      refine (sappend wr wr.heap.size A1 n1 c1 _ HO.out.sl (Nat.le_refl _) (by omega) z hzr.1 hzr.2).mono ?_
      rintro e w1 ⟨⟨A2, n2, c2, rfl, ho2⟩, hb2⟩
      rw [← encs_snoc, ← hsn.out] at ho2
      have HO2 := Lib.hid (ho2.fewer hsz); have HB2 := Lib.hid (HB.out.trans (hb2.mono hsz))
      clear ho2 hb2 hsn HO HB
      go_wp2
      go_roundw
      case rel => exact ⟨k + 1, A2, n2, c2, by omega, by go_num, rfl, HO2.out, HB2.out⟩
      case measure => simp [intOf]; omega
    · have e1 : l.take k = l := List.take_of_length_le (by rw [Hl.out]; omega)
      rw [e1] at ho
      have HO := Lib.hid ho; have HB := Lib.hid hb
      clear ho hb e1
      go_wp2
      go_ret
      exact ⟨⟨A1, n1, c1, rfl, HO.out⟩, HB.out⟩
end Go.Proofs.Ytpfkijmicmampaa
