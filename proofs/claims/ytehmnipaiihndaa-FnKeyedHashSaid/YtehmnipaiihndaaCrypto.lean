/- The contracts of chapter 3's hash functions (Hash, KeyedHash, IsValidKey, BytesToInts, DeriveFromString), of the program and of the model. -/
import Derived.Test.YtehmnipaiihndaaProg
import Derived.Test.YtehmnipaiihndaaCopies
import Derived.Test.YtehmnipaiihndaaHash
import Derived.Test.YtehmnipaiihndaaInts
import Derived.Laws.IdiomStrings
namespace Go.Proofs.Ytehmnipaiihndaa
open Go.ChangeShapes Go.WideShapes Go.ChangeAt Go.RowKit
set_option linter.unusedVariables false
theorem imodP (v : Int) (w : World) :
    Calls Try.prog 50 #[.int .i64 v, .int .i64 2147483647] w fun e w' => (∃ r : Int, (0 ≤ r ∧ r ≤ 2147483646) ∧ r = v % 2147483647 ∧ e = .returned (.int .i64 r)) ∧ w = w' := by
  refine (imod v 2147483647 w).mono ?_
  rintro e w' ⟨rfl, rfl⟩
  have hm : modf v 2147483647 = v % 2147483647 := if_pos (by omega)
  rw [hm]
  exact ⟨⟨_, by omega, rfl, rfl⟩, rfl⟩
theorem smodP (v : Int) (w : World) :
    Calls Try.prog 21 #[.int .i64 v, .int .i64 2147483647] w fun e w' => (∃ r : Int, (0 ≤ r ∧ r ≤ 2147483646) ∧ r = v % 2147483647 ∧ e = .returned (.int .i64 r)) ∧ w = w' := by
  refine (smod v 2147483647 w).mono ?_
  rintro e w' ⟨rfl, rfl⟩
  have hm : modf v 2147483647 = v % 2147483647 := if_pos (by omega)
  rw [hm]
  exact ⟨⟨_, by omega, rfl, rfl⟩, rfl⟩
set_option maxRecDepth 100000 in
theorem ihash (w : World) (D : Nat) (A : Option Addr) (n c : Nat) (l : List Int) (h : Sl w D 1 A n c (iv l)) (hn : n ≤ 1000000000000) :
    Calls Try.prog 19 #[.slice A n c] w fun e w' => e = .returned (.int .i64 (hs l)) ∧ w = w' := by
  have hlen := h.len
  rw [iv_len, Nat.mul_one] at hlen
  have Hl := Lib.hid hlen; clear hlen
  have hcap := h.cap; have hcapm := h.capm
  go_enter Try.func19, Try.ntmps19
  go_wp2
  go_loop [3, 8] (fun s i => ∃ (k : Nat) (z : Int), k ≤ n ∧ i = .int .i64 k ∧ s = .int .i64 z ∧ Hid (z = hs (l.take k)) ∧ 0 ≤ z ∧ z ≤ 2147483646) (fun _ i => n - (intOf i).toNat)
  case atStart => exact ⟨0, 11, Nat.zero_le _, rfl, rfl, Lib.hid rfl, by omega, by omega⟩
  case round =>
    obtain ⟨k, z, hk, rfl, rfl, hz, hz0, hz1⟩ := hrel
    by_cases hlt : k < n
    · obtain ⟨ad, hx, rfl, had, hcx⟩ := h.at_ hlt
      rw [iv_get l k hx] at hcx
      have hkl : k < l.length := by rw [Hl.out]; omega
      have hsn : Hid (hs (l.take (k + 1)) = hstep z l[k]) := Lib.hid (by rw [List.take_succ_eq_append_getElem hkl, hs_snoc, ← hz.out])
      obtain ⟨v, hv⟩ : ∃ v, v = l[k] := ⟨_, rfl⟩
      rw [← hv] at hcx hsn
      clear hv hz
      go_wp2_with fail
      refine (imodP v _).mono ?_
      rintro e w' ⟨⟨r, ⟨hr0, hr1⟩, hr, rfl⟩, rfl⟩
      have Hr := Lib.hid hr; clear hr
      go_wp2
      go_round
      case rel => exact ⟨k + 1, _, by omega, by go_num, rfl, Lib.hid (by rw [hsn.out]; unfold hstep; rw [Hr.out]), by omega, by omega⟩
      case measure => simp [intOf]; omega
    · have e1 : l.take k = l := List.take_of_length_le (by rw [Hl.out]; omega)
      rw [e1] at hz
      clear e1
      go_wp2
      go_ret
      exact ⟨ret_int hz.out, rfl⟩
set_option maxRecDepth 100000 in
theorem shash (w : World) (D : Nat) (A : Option Addr) (n c : Nat) (l : List Int) (h : Sl w D 1 A n c (iv l)) (hn : n ≤ 1000000000000) :
    Calls Try.prog 25 #[.slice A n c] w fun e w' => e = .returned (.int .i64 (hs l)) ∧ w = w' := by
  have hlen := h.len
  rw [iv_len, Nat.mul_one] at hlen
  have Hl := Lib.hid hlen; clear hlen
  have hcap := h.cap; have hcapm := h.capm
  go_enter Try.func25, Try.ntmps25
  go_wp2
  go_loop [3, 4] (fun s i => ∃ (k : Nat) (z : Int), k ≤ n ∧ i = .int .i64 k ∧ s = .int .i64 z ∧ Hid (z = hs (l.take k)) ∧ 0 ≤ z ∧ z ≤ 2147483646) (fun _ i => n - (intOf i).toNat)
  case atStart => exact ⟨0, 11, Nat.zero_le _, rfl, rfl, Lib.hid rfl, by omega, by omega⟩
  case round =>
    obtain ⟨k, z, hk, rfl, rfl, hz, hz0, hz1⟩ := hrel
    by_cases hlt : k < n
    · obtain ⟨ad, hx, rfl, had, hcx⟩ := h.at_ hlt
      rw [iv_get l k hx] at hcx
      have hkl : k < l.length := by rw [Hl.out]; omega
      have hsn : Hid (hs (l.take (k + 1)) = hstep z l[k]) := Lib.hid (by rw [List.take_succ_eq_append_getElem hkl, hs_snoc, ← hz.out])
      obtain ⟨v, hv⟩ : ∃ v, v = l[k] := ⟨_, rfl⟩
      rw [← hv] at hcx hsn
      clear hv hz
      go_wp2_with fail
      refine (smodP v _).mono ?_
      rintro e w' ⟨⟨r, ⟨hr0, hr1⟩, hr, rfl⟩, rfl⟩
      have Hr := Lib.hid hr; clear hr
      go_wp2
      go_round
      case rel => exact ⟨k + 1, _, by omega, by go_num, rfl, Lib.hid (by rw [hsn.out]; unfold hstep; rw [Hr.out]), by omega, by omega⟩
      case measure => simp [intOf]; omega
    · have e1 : l.take k = l := List.take_of_length_le (by rw [Hl.out]; omega)
      rw [e1] at hz
      clear e1
      go_wp2
      go_ret
      exact ⟨ret_int hz.out, rfl⟩
/-- what a function that answers a hash answers -/
def Num (w : World) (z : Int) (e : Ending) (w' : World) : Prop := e = .returned (.int .i64 z) ∧ Below w.heap.size w w'
set_option maxRecDepth 100000 in
theorem kseq (w : World) (D : Nat) (k : Int) (A : Option Addr) (n c : Nat) (l : List Int) (h : Sl w D 1 A n c (iv l)) (hD : D ≤ w.heap.size) (hn : n ≤ 1000000000) :
    Calls Try.prog 49 #[.int .i64 k, .slice A n c] w fun e w' => (∃ A' c', e = .returned (.slice A' (1 + n + 1) c') ∧ Own w' w.heap.size 3 1 A' (1 + n + 1) c' (iv ([k] ++ l ++ [k]))) ∧ Below w.heap.size w w' := by
  obtain ⟨i0, hi, hy0, hy1, hy2⟩ := info_parts i64_info
  have H0 := Lib.hid (Own.lit w w.heap.size 3 #[.int .i64 k] 1 (Nat.le_refl _) (by omega) rfl)
  have HB0 := Lib.hid ((Below.refl w.heap.size w).alloc (Nat.le_refl _) (.cells #[.int .i64 k] 3))
  have H1 := Lib.hid (h.below HB0.out hD)
  clear h
  go_enter Try.func49, Try.ntmps49
  go_wp2_with (first
    | (at_builtin; refine wpList_append_sl _ rfl (.tmp 7) (.tmp 8) 28 rfl w.heap.size 3 i0 _ 1 8 Try.underlying28 hi hy0 hy1 hy2 rfl (by omega) _ 1 1 [.int .i64 k] rfl H0.out D A n c (iv l) rfl H1.out (iv_one l) (by omega) (by omega) (by simp) ?_; intro A2 c2 w1 hown hg hat; have HB1 := Lib.hid (H0.out.below HB0.out (by simp) hg); have H2 := Lib.hid (hown.on ((Below.refl w1.heap.size w1).alloc (Nat.le_refl _) (.cells #[.int .i64 k] 3))); have HB2 := Lib.hid (HB1.out.alloc HB1.out.size (.cells #[.int .i64 k] 3)); have hsz := HB1.out.size; clear hown hg hat H1 H0 HB0 HB1)
    | (at_builtin; refine wpList_append_sl _ rfl (.tmp 10) (.tmp 12) 28 rfl w.heap.size 3 i0 _ 1 8 Try.underlying28 hi hy0 hy1 hy2 rfl (by omega) A2 (1 + n) c2 ([.int .i64 k] ++ iv l) rfl H2.out (w1.heap.size + 1) _ 1 1 [.int .i64 k] rfl (Sl.one w1 _ _) (by simp [Value.oneCell']) (by omega) (by omega) (by simp; omega) ?_; intro A3 c3 w3 hown3 hg3 hat3; have HF : Hid (Own w3 w.heap.size 3 1 A3 (1 + n + 1) c3 (iv ([k] ++ l ++ [k]))) := Lib.hid (by rw [iv_app, iv_app]; exact hown3); have HB3 := Lib.hid (H2.out.below HB2.out (by simp; omega) hg3); clear hown3 hg3 hat3 H2 HB2))
  go_ret
  exact ⟨⟨A3, c3, rfl, HF.out⟩, HB3.out⟩
theorem ikeyed (w : World) (D : Nat) (k : Int) (A : Option Addr) (n c : Nat) (l : List Int) (h : Sl w D 1 A n c (iv l)) (hD : D ≤ w.heap.size) (hn : n ≤ 1000000000) :
    Calls Try.prog 18 #[.int .i64 k, .slice A n c] w (Num w (kh k l)) := by
  have H := Lib.hid h; clear h
  go_enter Try.func18, Try.ntmps18
  go_wp2_with fail
  refine (kseq w D k A n c l H.out hD hn).mono ?_
  rintro e w1 ⟨⟨A1, c1, rfl, o⟩, b⟩
  have O := Lib.hid o.sl; have B := Lib.hid b
  clear o b
  go_wp2_with fail
  refine (ihash _ _ A1 (1 + n + 1) c1 _ O.out (by omega)).mono ?_
  rintro e w2 ⟨rfl, rfl⟩
  go_wp2
  go_ret
  exact ⟨rfl, B.out⟩
set_option maxRecDepth 100000 in
theorem skeyed (w : World) (D : Nat) (k : Int) (A : Option Addr) (n c : Nat) (l : List Int) (h : Sl w D 1 A n c (iv l)) (hD : D ≤ w.heap.size) (hn : n ≤ 1000000000) :
    Calls Try.prog 28 #[.int .i64 k, .slice A n c] w (Num w (kh k l)) := by
  obtain ⟨i0, hi, hy0, hy1, hy2⟩ := info_parts i64_info
  have H0 := Lib.hid (Own.lit w w.heap.size 3 #[.int .i64 k] 1 (Nat.le_refl _) (by omega) rfl)
  have HB0 := Lib.hid ((Below.refl w.heap.size w).alloc (Nat.le_refl _) (.cells #[.int .i64 k] 3))
  have H1 := Lib.hid (h.below HB0.out hD)
  clear h
  go_enter Try.func28, Try.ntmps28
  go_wp2_with (first
    | (at_builtin; refine wpList_append_sl _ rfl (.tmp 6) (.tmp 7) 28 rfl w.heap.size 3 i0 _ 1 8 Try.underlying28 hi hy0 hy1 hy2 rfl (by omega) _ 1 1 [.int .i64 k] rfl H0.out D A n c (iv l) rfl H1.out (iv_one l) (by omega) (by omega) (by simp) ?_; intro A2 c2 w1 hown hg hat; have HB1 := Lib.hid (H0.out.below HB0.out (by simp) hg); have H2 := Lib.hid (hown.on ((Below.refl w1.heap.size w1).alloc (Nat.le_refl _) (.cells #[.int .i64 k] 3))); have HB2 := Lib.hid (HB1.out.alloc HB1.out.size (.cells #[.int .i64 k] 3)); have hsz := HB1.out.size; clear hown hg hat H1 H0 HB0 HB1)
    | (at_builtin; refine wpList_append_sl _ rfl (.tmp 8) (.tmp 10) 28 rfl w.heap.size 3 i0 _ 1 8 Try.underlying28 hi hy0 hy1 hy2 rfl (by omega) A2 (1 + n) c2 ([.int .i64 k] ++ iv l) rfl H2.out (w1.heap.size + 1) _ 1 1 [.int .i64 k] rfl (Sl.one w1 _ _) (by simp [Value.oneCell']) (by omega) (by omega) (by simp; omega) ?_; intro A3 c3 w3 hown3 hg3 hat3; have HF : Hid (Own w3 w.heap.size 3 1 A3 (1 + n + 1) c3 (iv ([k] ++ l ++ [k]))) := Lib.hid (by rw [iv_app, iv_app]; exact hown3); have HB3 := Lib.hid (H2.out.below HB2.out (by simp; omega) hg3); clear hown3 hg3 hat3 H2 HB2))
  refine (shash _ _ A3 (1 + n + 1) c3 _ HF.out.sl (by omega)).mono ?_
  rintro e w4 ⟨rfl, rfl⟩
  go_wp2
  go_ret
  exact ⟨rfl, HB3.out⟩
theorem ivalid (k : Int) (w : World) :
    Calls Try.prog 23 #[.int .i64 k] w fun e w' => e = .returned (.bool (decide (1 ≤ k ∧ k ≤ 2147483646))) ∧ w = w' := by
  by_cases h : 1 ≤ k ∧ k ≤ 2147483646
  · rw [decide_eq_true h]
    have H := Lib.hid h; clear h
    go_enter Try.func23, Try.ntmps23
    go_wp2_with fail
    refine (iinr_t _ _ _ _ H.out.1 H.out.2).mono ?_
    rintro e w' ⟨rfl, rfl⟩
    go_wp2
    go_ret
    exact ⟨rfl, rfl⟩
  · rw [decide_eq_false h]
    have H := Lib.hid h; clear h
    go_enter Try.func23, Try.ntmps23
    go_wp2_with fail
    refine (iinr_f _ _ _ _ H.out).mono ?_
    rintro e w' ⟨rfl, rfl⟩
    go_wp2
    go_ret
    exact ⟨rfl, rfl⟩
theorem svalid (k : Int) (w : World) :
    Calls Try.prog 29 #[.int .i64 k] w fun e w' => e = .returned (.bool (decide (1 ≤ k ∧ k ≤ 2147483646))) ∧ w = w' := by
  by_cases h : 1 ≤ k ∧ k ≤ 2147483646
  · rw [decide_eq_true h]
    have H := Lib.hid h; clear h
    go_enter Try.func29, Try.ntmps29
    go_wp2_with fail
    refine (sinr_t _ _ _ _ H.out.1 H.out.2).mono ?_
    rintro e w' ⟨rfl, rfl⟩
    go_wp2
    go_ret
    exact ⟨rfl, rfl⟩
  · rw [decide_eq_false h]
    have H := Lib.hid h; clear h
    go_enter Try.func29, Try.ntmps29
    go_wp2_with fail
    refine (sinr_f _ _ _ _ H.out).mono ?_
    rintro e w' ⟨rfl, rfl⟩
    go_wp2
    go_ret
    exact ⟨rfl, rfl⟩
/-- what BytesToInts answers -/
def GivesI (w : World) (l : List Int) (e : Ending) (w' : World) : Prop := (∃ A' n' c', e = .returned (.slice A' n' c') ∧ Own w' w.heap.size 3 1 A' n' c' (iv l)) ∧ Below w.heap.size w w'
set_option maxRecDepth 100000 in
theorem ibti (w : World) (D : Nat) (A : Option Addr) (n c : Nat) (l : List Nat) (h : Sl w D 1 A n c (bv l)) (hD : D ≤ w.heap.size) (hn : n ≤ 100000000) (hl : ∀ b ∈ l, b < 256) :
    Calls Try.prog 32 #[.slice A n c] w (GivesI w (bti l)) := by
  obtain ⟨i0, hi, hy0, hy1, hy2⟩ := info_parts i64_info
  have hlen := h.len
  rw [bv_len, Nat.mul_one] at hlen
  have Hl := Lib.hid hlen; clear hlen
  have hcap := h.cap; have hcapm := h.capm
  have H0 : Hid (Own (w.alloc (.cells #[.int .i64 n] 3)) w.heap.size 3 1 (some ⟨w.heap.size, 0, none⟩) 1 1 (iv (btk n (l.take 0))) ∧ Below w.heap.size w (w.alloc (.cells #[.int .i64 n] 3))) :=
    Lib.hid ⟨Own.lit w w.heap.size 3 #[.int .i64 n] 1 (Nat.le_refl _) (by omega) rfl, (Below.refl _ _).alloc (Nat.le_refl _) _⟩
  have HL := Lib.hid hl; clear hl
  go_enter Try.func32, Try.ntmps32
  go_wp2
  go_loopw [3, 11] (fun v i wr => ∃ (k : Nat) (A1 : Option Addr) (c1 : Nat), k ≤ n ∧ i = .int .i64 k ∧ v = .slice A1 (1 + k) c1 ∧ Own wr w.heap.size 3 1 A1 (1 + k) c1 (iv (btk n (l.take k))) ∧ Below w.heap.size w wr) (fun _ i _ => n - (intOf i).toNat)
  case atStart => exact ⟨0, _, _, Nat.zero_le _, rfl, rfl, H0.out.1, H0.out.2⟩
  case round =>
    clear H0
    obtain ⟨k, A1, c1, hk, rfl, rfl, ho, hb⟩ := hrel
    by_cases hlt : k < n
    · obtain ⟨ad, hx, rfl, had, hcx⟩ := (h.below hb hD).at_ hlt
      rw [bv_get l k hx] at hcx
      have hkl : k < l.length := by rw [Hl.out]; omega
      have hbb := HL.out l[k] (List.getElem_mem hkl)
      have hsn := Lib.hid (btk_take n l k hkl)
      obtain ⟨b, hbe⟩ : ∃ b, b = l[k] := ⟨_, rfl⟩
      rw [← hbe] at hcx hsn hbb
      have HO1 := Lib.hid (ho.on ((Below.refl wr.heap.size wr).alloc (Nat.le_refl _) (.cells #[.int .i64 (b : Int)] 3)))
      have HB1 := Lib.hid (hb.alloc hb.size (.cells #[.int .i64 (b : Int)] 3))
      have hsz := hb.size
      clear hbe ho hb
      go_wp2_with (at_builtin; refine wpList_append_sl _ rfl (.tmp 15) (.tmp 18) 28 rfl w.heap.size 3 i0 _ 1 8 Try.underlying28 hi hy0 hy1 hy2 rfl (by omega) A1 (1 + k) c1 _ rfl HO1.out (wr.heap.size + 1) _ 1 1 [.int .i64 (b : Int)] rfl (Sl.one wr _ _) (by simp [Value.oneCell']) (by omega) (by omega) (by simp; omega) ?_; intro A3 c3 w3 hown3 hg3 hat3)
      have hfin : Hid (Own w3 w.heap.size 3 1 A3 (1 + (k + 1)) c3 (iv (btk n (l.take (k + 1)))) ∧ Below w.heap.size w w3) := by
        refine Lib.hid ⟨?_, HO1.out.below HB1.out (by simp; omega) hg3⟩
        rw [hsn.out, iv_app]; exact hown3
      clear hown3 hg3 hat3 HO1 HB1 hsn
      go_wp2
      go_roundw
      case rel => exact ⟨k + 1, A3, c3, by omega, by go_num, rfl, hfin.out.1, hfin.out.2⟩
      case measure => simp [intOf]; omega
    · have e1 : l.take k = l := List.take_of_length_le (by rw [Hl.out]; omega)
      rw [e1] at ho
      have hfin : Hid (Own wr w.heap.size 3 1 A1 (1 + k) c1 (iv (bti l)) ∧ Below w.heap.size w wr) := Lib.hid ⟨by rw [← Hl.out] at ho; exact ho, hb⟩
      clear ho hb e1
      go_wp2
      go_ret
      exact ⟨⟨A1, 1 + k, c1, rfl, hfin.out.1⟩, hfin.out.2⟩
set_option maxRecDepth 100000 in
theorem sbti (w : World) (D : Nat) (A : Option Addr) (n c : Nat) (l : List Nat) (h : Sl w D 1 A n c (bv l)) (hD : D ≤ w.heap.size) (hn : n ≤ 100000000) (hl : ∀ b ∈ l, b < 256) :
    Calls Try.prog 30 #[.slice A n c] w (GivesI w (bti l)) := by
  obtain ⟨i0, hi, hy0, hy1, hy2⟩ := info_parts i64_info
  have hlen := h.len
  rw [bv_len, Nat.mul_one] at hlen
  have Hl := Lib.hid hlen; clear hlen
  have hcap := h.cap; have hcapm := h.capm
  have H0 : Hid (Own (w.alloc (.cells #[.int .i64 n] 3)) w.heap.size 3 1 (some ⟨w.heap.size, 0, none⟩) 1 1 (iv (btk n (l.take 0))) ∧ Below w.heap.size w (w.alloc (.cells #[.int .i64 n] 3))) :=
    Lib.hid ⟨Own.lit w w.heap.size 3 #[.int .i64 n] 1 (Nat.le_refl _) (by omega) rfl, (Below.refl _ _).alloc (Nat.le_refl _) _⟩
  have HL := Lib.hid hl; clear hl
  go_enter Try.func30, Try.ntmps30
  go_wp2
  go_loopw [3, 4] (fun v i wr => ∃ (k : Nat) (A1 : Option Addr) (c1 : Nat), k ≤ n ∧ i = .int .i64 k ∧ v = .slice A1 (1 + k) c1 ∧ Own wr w.heap.size 3 1 A1 (1 + k) c1 (iv (btk n (l.take k))) ∧ Below w.heap.size w wr) (fun _ i _ => n - (intOf i).toNat)
  case atStart => exact ⟨0, _, _, Nat.zero_le _, rfl, rfl, H0.out.1, H0.out.2⟩
  case round =>
    clear H0
    obtain ⟨k, A1, c1, hk, rfl, rfl, ho, hb⟩ := hrel
    by_cases hlt : k < n
    · obtain ⟨ad, hx, rfl, had, hcx⟩ := (h.below hb hD).at_ hlt
      rw [bv_get l k hx] at hcx
      have hkl : k < l.length := by rw [Hl.out]; omega
      have hbb := HL.out l[k] (List.getElem_mem hkl)
      have hsn := Lib.hid (btk_take n l k hkl)
      obtain ⟨b, hbe⟩ : ∃ b, b = l[k] := ⟨_, rfl⟩
      rw [← hbe] at hcx hsn hbb
      have HO1 := Lib.hid (ho.on ((Below.refl wr.heap.size wr).alloc (Nat.le_refl _) (.cells #[.int .i64 (b : Int)] 3)))
      have HB1 := Lib.hid (hb.alloc hb.size (.cells #[.int .i64 (b : Int)] 3))
      have hsz := hb.size
      clear hbe ho hb
      go_wp2_with (at_builtin; refine wpList_append_sl _ rfl (.tmp 14) (.tmp 20) 28 rfl w.heap.size 3 i0 _ 1 8 Try.underlying28 hi hy0 hy1 hy2 rfl (by omega) A1 (1 + k) c1 _ rfl HO1.out (wr.heap.size + 1) _ 1 1 [.int .i64 (b : Int)] rfl (Sl.one wr _ _) (by simp [Value.oneCell']) (by omega) (by omega) (by simp; omega) ?_; intro A3 c3 w3 hown3 hg3 hat3)
      have hfin : Hid (Own w3 w.heap.size 3 1 A3 (1 + (k + 1)) c3 (iv (btk n (l.take (k + 1)))) ∧ Below w.heap.size w w3) := by
        refine Lib.hid ⟨?_, HO1.out.below HB1.out (by simp; omega) hg3⟩
        rw [hsn.out, iv_app]; exact hown3
      clear hown3 hg3 hat3 HO1 HB1 hsn
      go_wp2
      go_roundw
      case rel => exact ⟨k + 1, A3, c3, by omega, by go_num, rfl, hfin.out.1, hfin.out.2⟩
      case measure => simp [intOf]; omega
    · have e1 : l.take k = l := List.take_of_length_le (by rw [Hl.out]; omega)
      rw [e1] at ho
      have hfin : Hid (Own wr w.heap.size 3 1 A1 (1 + k) c1 (iv (bti l)) ∧ Below w.heap.size w wr) := Lib.hid ⟨by rw [← Hl.out] at ho; exact ho, hb⟩
      clear ho hb e1
      go_wp2
      go_ret
      exact ⟨⟨A1, 1 + k, c1, rfl, hfin.out.1⟩, hfin.out.2⟩
/-- a string's bytes in a block of their own -/
theorem conv_sl (w : World) (s : ByteArray) (hs : s.size ≤ 9223372036854775807) : ∃ (c : Nat) (w1 : World), (convert 9 22 (.string s)).run Try.prog w = .ok (.slice (some ⟨w.heap.size, 0, none⟩) s.size c) w1 ∧ Sl w1 w1.heap.size 1 (some ⟨w.heap.size, 0, none⟩) s.size c (bv (sbytes s)) ∧ Below w.heap.size w w1 := by
  refine ⟨_, _, run_bytes_of_string w 9 22 5 s Try.underlying9 Try.underlying22 Try.underlying5, ⟨?_, fun _ => ⟨_, rfl, by rw [World.size_alloc]; exact Nat.lt_succ_self _, fun j u hu => ?_⟩, grownCap_ge w s.size 0 5, ?_, fun e => by cases e⟩, ((Below.refl w.heap.size w).drew).alloc (Nat.le_refl _) _⟩
  · rw [bv_len, sbytes_len, Nat.mul_one]
  · have hj : j < s.data.size := by
      have := (List.getElem?_eq_some_iff.1 hu).1
      rw [bv_len, sbytes_len] at this; exact this
    have e : (⟨w.heap.size, 0, none⟩ : Addr).add j = ⟨w.heap.size, j, none⟩ := by unfold Addr.add; split <;> simp_all
    rw [e]
    refine (World.cell?_alloc_mark w.drew _ _ _ j).trans ?_
    rw [bytesRow_at s _ j hj, ← hu]
    simp [bv, sbytes, Array.getElem?_eq_getElem hj]
  · have := grownCap_le_maxLen w s.size 0 5 (by unfold maxLen; omega)
    unfold maxLen at this; omega
theorem iderive (w : World) (k : Int) (s : ByteArray) (hs : s.size ≤ 10000000) :
    Calls Try.prog 24 #[.int .i64 k, .string s] w (Num w (dvs k s)) := by
  obtain ⟨c, w1, hcv, h1, hb1⟩ := conv_sl w s (by omega)
  have H1 := Lib.hid h1; have HB1 := Lib.hid hb1; have HS := Lib.hid (sbytes_byte s); have HK := Lib.hid (kh_bd k (bti (sbytes s)))
  have HSL := Lib.hid (sbytes_len s)
  clear h1 hb1
  go_enter Try.func24, Try.ntmps24
  go_wp2_with fail
  refine (ibti w1 _ _ s.size c _ H1.out (Nat.le_refl _) (by omega) HS.out).mono ?_
  rintro e w2 ⟨⟨A2, n2, c2, rfl, o⟩, b⟩
  have hn2 : n2 ≤ 10000001 := by have h1 := o.len; have h2 := HSL.out; rw [iv_len, bti_len] at h1; omega
  have O := Lib.hid o.sl; have HB2 := Lib.hid (HB1.out.trans (b.mono HB1.out.size))
  clear o b
  go_wp2_with fail
  refine (ikeyed w2 _ k A2 n2 c2 _ O.out (Nat.le_refl _) (by omega)).mono ?_
  rintro e w3 ⟨rfl, b⟩
  have HB3 := Lib.hid (HB2.out.trans (b.mono HB2.out.size))
  clear b
  obtain ⟨z, hz⟩ : ∃ z, z = kh k (bti (sbytes s)) := ⟨_, rfl⟩
  have hd : Hid (dvs k s = if z = 0 then 1 else z) := Lib.hid (by rw [hz]; rfl)
  have hzb := HK.out
  rw [← hz] at hzb ⊢
  clear hz HK
  by_cases h0 : z = 0
  · subst h0
    go_wp2
    go_ret
    exact ⟨ret_int (hd.out.symm), HB3.out⟩
  · have h0' : (z == 0) = false := by simpa using h0
    have hd2 : Hid (dvs k s = z) := Lib.hid (by rw [hd.out, if_neg h0])
    clear hd h0
    go_wp2
    go_ret
    exact ⟨ret_int (hd2.out.symm), HB3.out⟩
theorem sderive (w : World) (k : Int) (s : ByteArray) (hs : s.size ≤ 10000000) :
    Calls Try.prog 40 #[.int .i64 k, .string s] w (Num w (dvs k s)) := by
  obtain ⟨c, w1, hcv, h1, hb1⟩ := conv_sl w s (by omega)
  have H1 := Lib.hid h1; have HB1 := Lib.hid hb1; have HS := Lib.hid (sbytes_byte s); have HK := Lib.hid (kh_bd k (bti (sbytes s)))
  have HSL := Lib.hid (sbytes_len s)
  clear h1 hb1
  go_enter Try.func40, Try.ntmps40
  go_wp2_with fail
  refine (sbti w1 _ _ s.size c _ H1.out (Nat.le_refl _) (by omega) HS.out).mono ?_
  rintro e w2 ⟨⟨A2, n2, c2, rfl, o⟩, b⟩
  have hn2 : n2 ≤ 10000001 := by have h1 := o.len; have h2 := HSL.out; rw [iv_len, bti_len] at h1; omega
  have O := Lib.hid o.sl; have HB2 := Lib.hid (HB1.out.trans (b.mono HB1.out.size))
  clear o b
  go_wp2_with fail
  refine (skeyed w2 _ k A2 n2 c2 _ O.out (Nat.le_refl _) (by omega)).mono ?_
  rintro e w3 ⟨rfl, b⟩
  have HB3 := Lib.hid (HB2.out.trans (b.mono HB2.out.size))
  clear b
  go_wp2_with fail
  refine (smax 1 _ _).mono ?_
  rintro e w4 ⟨rfl, rfl⟩
  have hd : Hid (mxf 1 (kh k (bti (sbytes s))) = dvs k s) := Lib.hid (by have := HK.out; unfold mxf dvs; split <;> split <;> omega)
  go_wp2
  go_ret
  exact ⟨ret_int hd.out, HB3.out⟩
end Go.Proofs.Ytehmnipaiihndaa
