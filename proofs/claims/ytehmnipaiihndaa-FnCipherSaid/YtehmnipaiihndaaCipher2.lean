/- The contracts of Encrypt and Decrypt, of the program. -/
import Derived.Test.YtehmnipaiihndaaCipher
import Derived.OwnWalk
namespace Go.Proofs.Ytehmnipaiihndaa
open Go.ChangeShapes Go.WideShapes Go.ChangeAt Go.RowKit
set_option linter.unusedVariables false
theorem ienc1 (w : World) (b q : Nat) (hb : b < 256) (hq : q < 256) :
    Calls Try.prog 47 #[.int .u8 (b : Int), .int .u8 (q : Int)] w fun e w' => e = .returned (.int .u8 (((b + q) % 256 : Nat) : Int)) ∧ w = w' := by
  go_enter Try.func47, Try.ntmps47
  go_wp2
  go_ret
  exact ⟨ret_int (by omega), rfl⟩
theorem idec1 (w : World) (b q : Nat) (hb : b < 256) (hq : q < 256) :
    Calls Try.prog 46 #[.int .u8 (b : Int), .int .u8 (q : Int)] w fun e w' => e = .returned (.int .u8 (((b + 256 - q) % 256 : Nat) : Int)) ∧ w = w' := by
  go_enter Try.func46, Try.ntmps46
  go_wp2
  go_ret
  exact ⟨ret_int (by omega), rfl⟩
set_option maxHeartbeats 400000 in
set_option maxRecDepth 100000 in
theorem iencs (w : World) (D : Nat) (k : Int) (A : Option Addr) (n c : Nat) (l : List Nat) (h : Sl w D 1 A n c (bv l)) (hD : D ≤ w.heap.size) (hn : n ≤ 16777216) (hl : ∀ b ∈ l, b < 256) :
    Calls Try.prog 45 #[.int .i64 k, .slice A n c, .func (.func 47) #[] #[]] w (Gives w (encb k l)) := by
  obtain ⟨i0, hi, hz0, hz1, hz2⟩ := info_parts u8_info
  have hlen := h.len
  rw [bv_len, Nat.mul_one] at hlen
  have Hl := Lib.hid hlen; clear hlen
  have hcap := h.cap; have hcapm := h.capm
  have HL := Lib.hid hl; clear hl
  have Hc : Hid ((bv (encb k l)).length = n) := Lib.hid (by rw [bv_len, encb_len, Hl.out])
  go_enter Try.func45, Try.ntmps45
  go_wp2_with fail
  refine (istream w k).mono ?_
  rintro e w1 ⟨⟨p, g, c1, rfl, ⟨hp1, hg1⟩, st⟩, b⟩
  have ST := Lib.hid st; have HB := Lib.hid b
  clear st b
  go_wp2_with (at_make; refine wpList_make_full _ rfl _ _ 22 rfl w1.heap.size 5 i0 (.int .u8 0) 1 Try.underlying22 hi hz0 hz1 .i64 .i64 _ _ n rfl rfl rfl rfl (by rw [hz2]; omega) (by unfold maxLen; omega) (Nat.le_refl _) ?_; intro w2 hown hgrow)
  have hb2 : Below w1.heap.size w1 w2 := (Below.refl _ _).grown hgrow (Nat.le_refl _) (fun k hk => by cases hk)
  have hfirst : Hid (Stream w2 w.heap.size p g c1 k 0 ∧ Own w2 w1.heap.size 5 1 (some ⟨w1.heap.size, 0, none⟩) n n ((bv (encb k l)).take 0 ++ (List.replicate n (Value.int .u8 0)).drop 0) ∧ Below w.heap.size w w2) := by
    refine Lib.hid ⟨ST.out.kept hgrow (by simp) (by simp), ⟨?_⟩, HB.out.trans (hb2.mono HB.out.size)⟩
    rw [show (Value.int .u8 0).cells = #[Value.int .u8 0] from rfl, toList_madeCells_one, Nat.mul_one] at hown
    simpa using hown
  have hpw := ST.out.hp; have hgw := ST.out.hg
  have hsz1 := HB.out.size
  clear hown hgrow hb2 hi hz0 hz1 hz2 ST HB
  go_loopw [22] (fun i wr => ∃ q : Nat, q ≤ n ∧ i = .int .i64 q ∧ Stream wr w.heap.size p g c1 k q ∧ Own wr w1.heap.size 5 1 (some ⟨w1.heap.size, 0, none⟩) n n ((bv (encb k l)).take q ++ (List.replicate n (Value.int .u8 0)).drop q) ∧ Below w.heap.size w wr)
    (fun i _ => n - (intOf i).toNat)
  case atStart => exact ⟨0, Nat.zero_le _, rfl, hfirst.out.1, hfirst.out.2.1, hfirst.out.2.2⟩
  case round =>
    clear hfirst
    obtain ⟨q, hq, rfl, st, ho, hb⟩ := hrel
    by_cases hlt : q < n
    · obtain ⟨ad, hx, rfl, had, hcx⟩ := (h.below hb hD).at_ hlt
      rw [bv_get l q hx] at hcx
      have hql : q < l.length := by rw [Hl.out]; omega
      have hbb := HL.out l[q] (List.getElem_mem hql)
      have hqc : q < (bv (encb k l)).length := by rw [Hc.out]; exact hlt
      have hval : (bv (encb k l))[q] = .int .u8 (_ : Int) := (bv_get (encb k l) q hqc).trans (by rw [encb_get])
      obtain ⟨b, hbe⟩ : ∃ b, b = l[q] := ⟨_, rfl⟩
      rw [← hbe] at hcx hbb hval
      have hpd := pad_lt k q
      have ST := Lib.hid st; have HO := Lib.hid ho; have HB := Lib.hid hb; have HV := Lib.hid hval
      clear hbe st ho hb hval
      go_wp2_with fail
      refine (inext wr w.heap.size p g c1 k q (by omega) ST.out).mono ?_
      rintro e w3 ⟨rfl, st3, hg3⟩
      have ho3 := HO.out.kept hg3 (.inr (by simp [Value.ownBlock]; omega))
      have hb3 := HB.out.grown hg3 HB.out.size (fun j hj => by injection hj with hj; omega)
      obtain ⟨pd, hpe⟩ : ∃ x, x = pad k q := ⟨_, rfl⟩
      rw [← hpe] at hpd HV ⊢
      have ST3 := Lib.hid st3; have HO3 := Lib.hid ho3; have HB3 := Lib.hid hb3
      clear hpe st3 hg3 ho3 hb3 ST HO HB
      go_wp2_with fail
      refine (ienc1 _ b pd hbb hpd).mono ?_
      rintro e w4 ⟨rfl, rfl⟩
      obtain ⟨u, hu⟩ := HO3.out.cell q hlt
      have hf := HO3.out.row.frozenAt q
      have hfin := HO3.out.fill (k := q) (by rw [Hc.out, List.length_replicate]) hqc
      have hB := (HO3.out.fewer hsz1).below HB3.out HB3.out.size hfin.2
      rw [HV.out] at hfin hB
      have ST4 := Lib.hid (ST3.out.kept hfin.2 (by simp; omega) (by simp; omega))
      have HO4 := Lib.hid hfin.1; have HB4 := Lib.hid hB
      clear hfin hB ST3 HO3 HB3
      go_wp2
      go_roundw
      case rel => exact ⟨q + 1, by omega, by go_num, ST4.out, HO4.out, HB4.out⟩
      case measure => simp [intOf]; omega
    · have hfin : Own wr w1.heap.size 5 1 (some ⟨w1.heap.size, 0, none⟩) n n (bv (encb k l)) := by
        have e : q = n := by omega
        subst e
        have e1 : (bv (encb k l)).take q = bv (encb k l) := List.take_of_length_le (by rw [Hc.out]; omega)
        rw [e1] at ho
        simpa using ho
      have ST := Lib.hid st; have HO := Lib.hid hfin; have HB := Lib.hid hb
      clear st ho hb hfin
      go_wp2_with fail
      refine (iforget wr w.heap.size p g c1 k q ST.out).mono ?_
      rintro e w3 ⟨rfl, hg3⟩
      have HO3 := Lib.hid ((HO.out.kept hg3 (.inr (by simp [Value.ownBlock]; omega))).fewer hsz1)
      have HB3 := Lib.hid (HB.out.grown hg3 HB.out.size (fun j hj => by injection hj with hj; omega))
      clear hg3 ST HO HB
      go_wp2
      go_ret
      exact ⟨⟨_, _, _, rfl, HO3.out⟩, HB3.out⟩
theorem iencr (w : World) (D : Nat) (k : Int) (A : Option Addr) (n c : Nat) (l : List Nat) (h : Sl w D 1 A n c (bv l)) (hD : D ≤ w.heap.size) (hn : n ≤ 16777216) (hl : ∀ b ∈ l, b < 256) :
    Calls Try.prog 16 #[.int .i64 k, .slice A n c] w (Gives w (encb k l)) := by
  have H := Lib.hid h; have HL := Lib.hid hl
  clear h hl
  go_enter Try.func16, Try.ntmps16
  go_wp2_with fail
  refine (iencs w D k A n c l H.out hD hn HL.out).mono ?_
  rintro e w1 ⟨⟨A1, n1, c1, rfl, o⟩, b⟩
  have O := Lib.hid o; have B := Lib.hid b
  clear o b
  go_wp2
  go_ret
  exact ⟨⟨A1, n1, c1, rfl, O.out⟩, B.out⟩
set_option maxHeartbeats 400000 in
set_option maxRecDepth 100000 in
theorem idecs (w : World) (D : Nat) (k : Int) (A : Option Addr) (n c : Nat) (l : List Nat) (h : Sl w D 1 A n c (bv l)) (hD : D ≤ w.heap.size) (hn : n ≤ 16777216) (hl : ∀ b ∈ l, b < 256) :
    Calls Try.prog 45 #[.int .i64 k, .slice A n c, .func (.func 46) #[] #[]] w (Gives w (decb k l)) := by
  obtain ⟨i0, hi, hz0, hz1, hz2⟩ := info_parts u8_info
  have hlen := h.len
  rw [bv_len, Nat.mul_one] at hlen
  have Hl := Lib.hid hlen; clear hlen
  have hcap := h.cap; have hcapm := h.capm
  have HL := Lib.hid hl; clear hl
  have Hc : Hid ((bv (decb k l)).length = n) := Lib.hid (by rw [bv_len, decb_len, Hl.out])
  go_enter Try.func45, Try.ntmps45
  go_wp2_with fail
  refine (istream w k).mono ?_
  rintro e w1 ⟨⟨p, g, c1, rfl, ⟨hp1, hg1⟩, st⟩, b⟩
  have ST := Lib.hid st; have HB := Lib.hid b
  clear st b
  go_wp2_with (at_make; refine wpList_make_full _ rfl _ _ 22 rfl w1.heap.size 5 i0 (.int .u8 0) 1 Try.underlying22 hi hz0 hz1 .i64 .i64 _ _ n rfl rfl rfl rfl (by rw [hz2]; omega) (by unfold maxLen; omega) (Nat.le_refl _) ?_; intro w2 hown hgrow)
  have hb2 : Below w1.heap.size w1 w2 := (Below.refl _ _).grown hgrow (Nat.le_refl _) (fun k hk => by cases hk)
  have hfirst : Hid (Stream w2 w.heap.size p g c1 k 0 ∧ Own w2 w1.heap.size 5 1 (some ⟨w1.heap.size, 0, none⟩) n n ((bv (decb k l)).take 0 ++ (List.replicate n (Value.int .u8 0)).drop 0) ∧ Below w.heap.size w w2) := by
    refine Lib.hid ⟨ST.out.kept hgrow (by simp) (by simp), ⟨?_⟩, HB.out.trans (hb2.mono HB.out.size)⟩
    rw [show (Value.int .u8 0).cells = #[Value.int .u8 0] from rfl, toList_madeCells_one, Nat.mul_one] at hown
    simpa using hown
  have hpw := ST.out.hp; have hgw := ST.out.hg
  have hsz1 := HB.out.size
  clear hown hgrow hb2 hi hz0 hz1 hz2 ST HB
  go_loopw [22] (fun i wr => ∃ q : Nat, q ≤ n ∧ i = .int .i64 q ∧ Stream wr w.heap.size p g c1 k q ∧ Own wr w1.heap.size 5 1 (some ⟨w1.heap.size, 0, none⟩) n n ((bv (decb k l)).take q ++ (List.replicate n (Value.int .u8 0)).drop q) ∧ Below w.heap.size w wr)
    (fun i _ => n - (intOf i).toNat)
  case atStart => exact ⟨0, Nat.zero_le _, rfl, hfirst.out.1, hfirst.out.2.1, hfirst.out.2.2⟩
  case round =>
    clear hfirst
    obtain ⟨q, hq, rfl, st, ho, hb⟩ := hrel
    by_cases hlt : q < n
    · obtain ⟨ad, hx, rfl, had, hcx⟩ := (h.below hb hD).at_ hlt
      rw [bv_get l q hx] at hcx
      have hql : q < l.length := by rw [Hl.out]; omega
      have hbb := HL.out l[q] (List.getElem_mem hql)
      have hqc : q < (bv (decb k l)).length := by rw [Hc.out]; exact hlt
      have hval : (bv (decb k l))[q] = .int .u8 (_ : Int) := (bv_get (decb k l) q hqc).trans (by rw [decb_get])
      obtain ⟨b, hbe⟩ : ∃ b, b = l[q] := ⟨_, rfl⟩
      rw [← hbe] at hcx hbb hval
      have hpd := pad_lt k q
      have ST := Lib.hid st; have HO := Lib.hid ho; have HB := Lib.hid hb; have HV := Lib.hid hval
      clear hbe st ho hb hval
      go_wp2_with fail
      refine (inext wr w.heap.size p g c1 k q (by omega) ST.out).mono ?_
      rintro e w3 ⟨rfl, st3, hg3⟩
      have ho3 := HO.out.kept hg3 (.inr (by simp [Value.ownBlock]; omega))
      have hb3 := HB.out.grown hg3 HB.out.size (fun j hj => by injection hj with hj; omega)
      obtain ⟨pd, hpe⟩ : ∃ x, x = pad k q := ⟨_, rfl⟩
      rw [← hpe] at hpd HV ⊢
      have ST3 := Lib.hid st3; have HO3 := Lib.hid ho3; have HB3 := Lib.hid hb3
      clear hpe st3 hg3 ho3 hb3 ST HO HB
      go_wp2_with fail
      refine (idec1 _ b pd hbb hpd).mono ?_
      rintro e w4 ⟨rfl, rfl⟩
      obtain ⟨u, hu⟩ := HO3.out.cell q hlt
      have hf := HO3.out.row.frozenAt q
      have hfin := HO3.out.fill (k := q) (by rw [Hc.out, List.length_replicate]) hqc
      have hB := (HO3.out.fewer hsz1).below HB3.out HB3.out.size hfin.2
      rw [HV.out] at hfin hB
      have ST4 := Lib.hid (ST3.out.kept hfin.2 (by simp; omega) (by simp; omega))
      have HO4 := Lib.hid hfin.1; have HB4 := Lib.hid hB
      clear hfin hB ST3 HO3 HB3
      go_wp2
      go_roundw
      case rel => exact ⟨q + 1, by omega, by go_num, ST4.out, HO4.out, HB4.out⟩
      case measure => simp [intOf]; omega
    · have hfin : Own wr w1.heap.size 5 1 (some ⟨w1.heap.size, 0, none⟩) n n (bv (decb k l)) := by
        have e : q = n := by omega
        subst e
        have e1 : (bv (decb k l)).take q = bv (decb k l) := List.take_of_length_le (by rw [Hc.out]; omega)
        rw [e1] at ho
        simpa using ho
      have ST := Lib.hid st; have HO := Lib.hid hfin; have HB := Lib.hid hb
      clear st ho hb hfin
      go_wp2_with fail
      refine (iforget wr w.heap.size p g c1 k q ST.out).mono ?_
      rintro e w3 ⟨rfl, hg3⟩
      have HO3 := Lib.hid ((HO.out.kept hg3 (.inr (by simp [Value.ownBlock]; omega))).fewer hsz1)
      have HB3 := Lib.hid (HB.out.grown hg3 HB.out.size (fun j hj => by injection hj with hj; omega))
      clear hg3 ST HO HB
      go_wp2
      go_ret
      exact ⟨⟨_, _, _, rfl, HO3.out⟩, HB3.out⟩
theorem idecr (w : World) (D : Nat) (k : Int) (A : Option Addr) (n c : Nat) (l : List Nat) (h : Sl w D 1 A n c (bv l)) (hD : D ≤ w.heap.size) (hn : n ≤ 16777216) (hl : ∀ b ∈ l, b < 256) :
    Calls Try.prog 15 #[.int .i64 k, .slice A n c] w (Gives w (decb k l)) := by
  have H := Lib.hid h; have HL := Lib.hid hl
  clear h hl
  go_enter Try.func15, Try.ntmps15
  go_wp2_with fail
  refine (idecs w D k A n c l H.out hD hn HL.out).mono ?_
  rintro e w1 ⟨⟨A1, n1, c1, rfl, o⟩, b⟩
  have O := Lib.hid o; have B := Lib.hid b
  clear o b
  go_wp2
  go_ret
  exact ⟨⟨A1, n1, c1, rfl, O.out⟩, B.out⟩
end Go.Proofs.Ytehmnipaiihndaa
