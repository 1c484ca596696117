/- The contracts of EqualBytes and EqualInts, of the program and of the model. -/
import Derived.Test.YtjobjjmeneddnaaCopies
import Derived.Laws.BytesArg
namespace Go.Proofs.Ytjobjjmeneddnaa
open Go.ChangeShapes Go.WideShapes Go.ChangeAt Go.RowKit
set_option linter.unusedVariables false
/-- bytes as a string -/
def str (l : List Nat) : ByteArray := ⟨(l.map UInt8.ofNat).toArray⟩
theorem str_inj (l m : List Nat) (hl : ∀ b ∈ l, b < 256) (hm : ∀ b ∈ m, b < 256) (h : (str l).toList = (str m).toList) : l = m := by
  have hs : ∀ x : List Nat, (str x).toList = x.map UInt8.ofNat := fun x => by rw [ByteArray.toList_eq]; simp [str]
  rw [hs, hs] at h
  have hb : ∀ x : List Nat, (∀ b ∈ x, b < 256) → (x.map UInt8.ofNat).map UInt8.toNat = x := fun x hx => by
    rw [List.map_map]
    conv => rhs; rw [← List.map_id x]
    refine List.map_congr_left fun b hb => ?_
    have := hx b hb
    simp only [Function.comp, UInt8.toNat_ofNat', id]
    omega
  rw [← hb l hl, h, hb m hm]
theorem conv_sl {P : Program} {w : World} {D n c : Nat} {A : Option Addr} {l : List Nat} (h : Sl w D 1 A n c (bv l)) (src dst e : TypeId) (hs : P.underlying src = some (.slice e)) (he : P.underlying e = some (.int .u8)) (hd : P.underlying dst = some .string) :
    (convert src dst (.slice A n c)).run P w = .ok (.string (str l)) w := by
  rw [run_convert_bytes_string w src dst e _ n c hs he hd]
  have hlen := h.len
  rw [bv_len, Nat.mul_one] at hlen
  cases A with
  | none =>
    have hc := h.nil rfl
    have hn : l = [] := List.eq_nil_of_length_eq_zero (by have := h.cap; omega)
    subst hn
    simp [Conv.bytesToString, str]; rfl
  | some ad =>
    have hload : (loadCells ad n).run P w = .ok ((l.map Int.ofNat).map (Value.int .u8)).toArray w := by
      have := run_loadCells_list (P := P) w ad (bv l) (fun j v hj => by
        obtain ⟨ad', e', _, hcell⟩ := h.rd (by have := (List.getElem?_eq_some_iff.1 hj).1; omega)
        injection e' with e'; subst e'
        exact hcell j v hj)
      rw [bv_len, hlen] at this
      rw [this]
      congr 2
      simp [bv]
    rw [run_bytesToString w ad n c _ hload, foldl_push_bytes]
    simp [str, ByteArray.empty, ByteArray.emptyWithCapacity]
    rfl
/-- what the two equalities answer -/
def SaysQ (w : World) (P : Prop) [Decidable P] (e : Ending) (w' : World) : Prop := (∃ x : Bool, x = decide P ∧ e = .returned (.bool x)) ∧ Below w.heap.size w w'
set_option maxRecDepth 100000 in
theorem sequalI (w : World) (D D' : Nat) (A A' : Option Addr) (n n' c c' : Nat) (l l' : List Int) (h : Sl w D 1 A n c (iv l)) (h' : Sl w D' 1 A' n' c' (iv l')) (hb : ∀ z ∈ l, -9223372036854775808 ≤ z ∧ z ≤ 9223372036854775807) (hb' : ∀ z ∈ l', -9223372036854775808 ≤ z ∧ z ≤ 9223372036854775807) :
    Calls Try.prog 65 #[.slice A n c, .slice A' n' c'] w (SaysQ w (l = l')) := by
  have hlen := h.len; have hlen' := h'.len
  rw [iv_len, Nat.mul_one] at hlen hlen'
  have Hl := Lib.hid hlen; have Hl' := Lib.hid hlen'; clear hlen hlen'
  have hcap := h.cap; have hcapm := h.capm; have hcap' := h'.cap; have hcapm' := h'.capm
  by_cases hn : n = n'
  · subst hn
    have H := Lib.hid hb; have H' := Lib.hid hb'; clear hb hb'
    go_enter Try.func65, Try.ntmps65
    go_wp2
    go_loopw [5] (fun i wr => ∃ k : Nat, k ≤ n ∧ i = .int .i64 k ∧ l.take k = l'.take k ∧ ∃ j : Nat, wr = w.drewN j) (fun i _ => n - (intOf i).toNat)
    case atStart => exact ⟨0, Nat.zero_le _, rfl, rfl, 0, rfl⟩
    case round =>
      obtain ⟨k, hk, rfl, ht, j, rfl⟩ := hrel
      have HT := Lib.hid ht; clear ht
      by_cases hlt : k < n
      · obtain ⟨ad, hx, rfl, had, hcx⟩ := h.at_ hlt
        obtain ⟨ad', hx', rfl, had', hcx'⟩ := h'.at_ hlt
        rw [iv_get l k hx] at hcx
        rw [iv_get l' k hx'] at hcx'
        have hkl : k < l.length := by rw [Hl.out]; exact hlt
        have hkl' : k < l'.length := by rw [Hl'.out]; exact hlt
        have hz := H.out l[k] (List.getElem_mem hkl)
        have hz' := H'.out l'[k] (List.getElem_mem hkl')
        have hs := Lib.hid (List.take_succ_eq_append_getElem hkl)
        have hs' := Lib.hid (List.take_succ_eq_append_getElem hkl')
        by_cases he : l[k] = l'[k]
        · have HT2 : Hid (l.take (k + 1) = l'.take (k + 1)) := Lib.hid (by rw [hs.out, hs'.out, HT.out, he])
          rw [← he] at hcx'
          obtain ⟨z, hz2⟩ : ∃ z, z = l[k] := ⟨_, rfl⟩
          rw [← hz2] at hcx hcx' hz
          clear hz2 he hs hs' hz'
          go_wp2
          go_quiet (fail)
          go_wp2
          go_roundw
          case rel => exact ⟨k + 1, by omega, by go_num, HT2.out, _, rfl⟩
          case measure => simp [intOf]; omega
        · have HF : Hid (¬ l = l') := Lib.hid (fun e => he (by subst e; rfl))
          obtain ⟨z, hz2⟩ : ∃ z, z = l[k] := ⟨_, rfl⟩
          obtain ⟨z', hz3⟩ : ∃ z', z' = l'[k] := ⟨_, rfl⟩
          rw [← hz2] at hcx hz he
          rw [← hz3] at hcx' hz' he
          have e1 : (z != z') = true := by rw [bne_iff_ne]; exact he
          have e2 : (z == z') = false := by rw [beq_eq_false_iff_ne]; exact he
          clear hz2 hz3 he hs hs'
          go_wp2
          go_quiet (fail)
          go_wp2
          go_ret
          exact ⟨⟨false, (decide_eq_false HF.out).symm, rfl⟩, rfl, rfl, rfl, Nat.le_refl _, fun _ _ => rfl⟩
      · have HF : Hid (l = l') := Lib.hid (by
          have h1 := HT.out
          rwa [List.take_of_length_le (by rw [Hl.out]; omega), List.take_of_length_le (by rw [Hl'.out]; omega)] at h1)
        go_wp2
        go_ret
        exact ⟨⟨true, (decide_eq_true HF.out).symm, rfl⟩, rfl, rfl, rfl, Nat.le_refl _, fun _ _ => rfl⟩
  · have HF : Hid (¬ l = l') := Lib.hid (fun e => hn (by rw [← Hl.out, ← Hl'.out, e]))
    have e1 : ((n : Int) != (n' : Int)) = true := by rw [bne_iff_ne]; omega
    have e2 : ((n : Int) == (n' : Int)) = false := by rw [beq_eq_false_iff_ne]; omega
    clear hn hb hb'
    go_enter Try.func65, Try.ntmps65
    go_wp2
    go_ret
    exact ⟨⟨false, (decide_eq_false HF.out).symm, rfl⟩, Below.refl _ _⟩
set_option maxRecDepth 100000 in
theorem gequalI (w : World) (D D' : Nat) (A A' : Option Addr) (n n' c c' : Nat) (l l' : List Int) (h : Sl w D 1 A n c (iv l)) (h' : Sl w D' 1 A' n' c' (iv l')) (hb : ∀ z ∈ l, -9223372036854775808 ≤ z ∧ z ≤ 9223372036854775807) (hb' : ∀ z ∈ l', -9223372036854775808 ≤ z ∧ z ≤ 9223372036854775807) :
    Calls Try.prog 78 #[.slice A n c, .slice A' n' c'] w (SaysQ w (l = l')) := by
  have hlen := h.len; have hlen' := h'.len
  rw [iv_len, Nat.mul_one] at hlen hlen'
  have Hl := Lib.hid hlen; have Hl' := Lib.hid hlen'; clear hlen hlen'
  have hcap := h.cap; have hcapm := h.capm; have hcap' := h'.cap; have hcapm' := h'.capm
  by_cases hn : n = n'
  · subst hn
    have H := Lib.hid hb; have H' := Lib.hid hb'; clear hb hb'
    go_enter Try.func78, Try.ntmps78
    go_wp2
    go_loopw [13] (fun i wr => ∃ k : Nat, k ≤ n ∧ i = .int .i64 k ∧ l.take k = l'.take k ∧ ∃ j : Nat, wr = w.drewN j) (fun i _ => n - (intOf i).toNat)
    case atStart => exact ⟨0, Nat.zero_le _, rfl, rfl, 0, rfl⟩
    case round =>
      obtain ⟨k, hk, rfl, ht, j, rfl⟩ := hrel
      have HT := Lib.hid ht; clear ht
      by_cases hlt : k < n
      · obtain ⟨ad, hx, rfl, had, hcx⟩ := h.at_ hlt
        obtain ⟨ad', hx', rfl, had', hcx'⟩ := h'.at_ hlt
        rw [iv_get l k hx] at hcx
        rw [iv_get l' k hx'] at hcx'
        have hkl : k < l.length := by rw [Hl.out]; exact hlt
        have hkl' : k < l'.length := by rw [Hl'.out]; exact hlt
        have hz := H.out l[k] (List.getElem_mem hkl)
        have hz' := H'.out l'[k] (List.getElem_mem hkl')
        have hs := Lib.hid (List.take_succ_eq_append_getElem hkl)
        have hs' := Lib.hid (List.take_succ_eq_append_getElem hkl')
        by_cases he : l[k] = l'[k]
        · have HT2 : Hid (l.take (k + 1) = l'.take (k + 1)) := Lib.hid (by rw [hs.out, hs'.out, HT.out, he])
          rw [← he] at hcx'
          obtain ⟨z, hz2⟩ : ∃ z, z = l[k] := ⟨_, rfl⟩
          rw [← hz2] at hcx hcx' hz
          clear hz2 he hs hs' hz'
          go_wp2
          go_quiet (fail)
          go_wp2
          go_roundw
          case rel => exact ⟨k + 1, by omega, by go_num, HT2.out, _, rfl⟩
          case measure => simp [intOf]; omega
        · have HF : Hid (¬ l = l') := Lib.hid (fun e => he (by subst e; rfl))
          obtain ⟨z, hz2⟩ : ∃ z, z = l[k] := ⟨_, rfl⟩
          obtain ⟨z', hz3⟩ : ∃ z', z' = l'[k] := ⟨_, rfl⟩
          rw [← hz2] at hcx hz he
          rw [← hz3] at hcx' hz' he
          have e1 : (z != z') = true := by rw [bne_iff_ne]; exact he
          have e2 : (z == z') = false := by rw [beq_eq_false_iff_ne]; exact he
          clear hz2 hz3 he hs hs'
          go_wp2
          go_quiet (fail)
          go_wp2
          go_ret
          exact ⟨⟨false, (decide_eq_false HF.out).symm, rfl⟩, rfl, rfl, rfl, Nat.le_refl _, fun _ _ => rfl⟩
      · have HF : Hid (l = l') := Lib.hid (by
          have h1 := HT.out
          rwa [List.take_of_length_le (by rw [Hl.out]; omega), List.take_of_length_le (by rw [Hl'.out]; omega)] at h1)
        go_wp2
        go_ret
        exact ⟨⟨true, (decide_eq_true HF.out).symm, rfl⟩, rfl, rfl, rfl, Nat.le_refl _, fun _ _ => rfl⟩
  · have HF : Hid (¬ l = l') := Lib.hid (fun e => hn (by rw [← Hl.out, ← Hl'.out, e]))
    have e1 : ((n : Int) != (n' : Int)) = true := by rw [bne_iff_ne]; omega
    have e2 : ((n : Int) == (n' : Int)) = false := by rw [beq_eq_false_iff_ne]; omega
    clear hn hb hb'
    go_enter Try.func78, Try.ntmps78
    go_wp2
    go_ret
    exact ⟨⟨false, (decide_eq_false HF.out).symm, rfl⟩, Below.refl _ _⟩
theorem iequalI (w : World) (D D' : Nat) (A A' : Option Addr) (n n' c c' : Nat) (l l' : List Int) (h : Sl w D 1 A n c (iv l)) (h' : Sl w D' 1 A' n' c' (iv l')) (hb : ∀ z ∈ l, -9223372036854775808 ≤ z ∧ z ≤ 9223372036854775807) (hb' : ∀ z ∈ l', -9223372036854775808 ≤ z ∧ z ≤ 9223372036854775807) :
    Calls Try.prog 66 #[.slice A n c, .slice A' n' c'] w (SaysQ w (l = l')) := by
  have H := Lib.hid hb; have H' := Lib.hid hb'; clear hb hb'
  go_enter Try.func66, Try.ntmps66
  go_wp2_with fail
  refine (gequalI _ _ _ _ _ _ _ _ _ _ _ h h' H.out H'.out).mono ?_
  rintro e w1 ⟨⟨x, hx, rfl⟩, b⟩
  have HX := Lib.hid hx; clear hx
  go_wp2
  go_ret
  exact ⟨⟨x, HX.out, rfl⟩, b⟩
end Go.Proofs.Ytjobjjmeneddnaa
