/- The contracts of chapter 2's encoders, of the program and of the model. -/
import Derived.Test.YtpfkijmicmampaaProg
import Derived.Test.YtpfkijmicmampaaCopies
import Derived.Test.YtpfkijmicmampaaVarint
import Derived.Test.YtpfkijmicmampaaInts
import Derived.OneCell
namespace Go.Proofs.Ytpfkijmicmampaa
open Go.ChangeShapes Go.WideShapes Go.ChangeAt Go.RowKit
set_option linter.unusedVariables false
/-- the blocks of S are as they were -/
structure Still (S : Nat → Prop) (w w' : World) : Prop where
  os : w'.os = w.os
  tape : w'.tape = w.tape
  output : w'.output = w.output
  size : w.heap.size ≤ w'.heap.size
  block : ∀ k, S k → w'.heap[k]? = w.heap[k]?
theorem Still.refl (S : Nat → Prop) (w : World) : Still S w w := ⟨rfl, rfl, rfl, Nat.le_refl _, fun _ _ => rfl⟩
theorem Still.trans {S : Nat → Prop} {a b c : World} (h : Still S a b) (k : Still S b c) : Still S a c :=
  ⟨k.os.trans h.os, k.tape.trans h.tape, k.output.trans h.output, Nat.le_trans h.size k.size, fun i hi => (k.block i hi).trans (h.block i hi)⟩
theorem Still.sl {S : Nat → Prop} {w w' : World} {D s n c : Nat} {A : Option Addr} {xs : List Value} (h : Still S w w') (hs : Sl w D s A n c xs) (hS : 0 < xs.length → ∀ ad, A = some ad → S ad.block) : Sl w' D s A n c xs := by
  refine ⟨hs.len, fun hn => ?_, hs.cap, hs.capm, hs.nil⟩
  obtain ⟨ad, e, hb, hc⟩ := hs.rd hn
  exact ⟨ad, e, hb, fun j u hu => (World.cell?_of_block (w := w) (by rw [block_of_add]; exact h.block _ (hS hn ad e))).trans (hc j u hu)⟩
theorem Own.ne_blk {w : World} {B s n c p : Nat} {E T : TypeId} {A : Option Addr} {xs : List Value} {cs : Array Value} (h : Own w B E s A n c xs) (hp : w.heap[p]? = some (.cells cs T (0, 0))) (hne : E ≠ T) : (Value.slice A n c).ownBlock ≠ some p := by
  rcases h.row.2 with ⟨hv, _⟩ | ⟨g, cap, cur, hv, _, hg, _⟩
  · rw [hv]; simp [Value.ownBlock]
  · rw [hv]
    intro e
    have : g = p := by simpa [Value.ownBlock] using e
    subst this
    rw [hg] at hp
    injection hp with hp
    injection hp with _ ht
    exact hne ht
set_option maxRecDepth 100000 in
theorem icopy (w : World) (D : Nat) (A : Option Addr) (n c : Nat) (l : List Nat) (h : Sl w D 1 A n c (bv l)) (hD : D ≤ w.heap.size) (hn : n ≤ 1000000000000) :
    Calls Try.prog 49 #[.slice A n c] w fun e w' => (∃ A' c', e = .returned (.slice A' n c') ∧ Own w' w.heap.size 5 1 A' n c' (bv l)) ∧ Below w.heap.size w w' := by
  obtain ⟨i0, hi, hz0, hz1, hz2⟩ := info_parts u8_info
  have h0 := Lib.hid (Own.lit w w.heap.size 5 #[] 0 (Nat.le_refl _) (by omega) rfl)
  have hb0 := Lib.hid ((Below.refl w.heap.size w).alloc (Nat.le_refl _) (.cells #[] 5))
  have h1 := Lib.hid (h.below hb0.out hD)
  go_enter Try.func49, Try.ntmps49
  go_wp2_with (at_builtin; refine wpList_append_sl _ rfl _ _ 22 rfl w.heap.size 5 i0 _ 1 1 Try.underlying22 hi hz0 hz1 hz2 rfl (by omega) _ 0 0 [] rfl h0.out D A n c (bv l) rfl h1.out (bv_one l) (by omega) (by omega) (by simp) ?_; intro A2 c2 w1 hown hg hat)
  have hb := h0.out.below hb0.out (by simp) hg
  simp only [Nat.zero_add, List.nil_append] at hown
  have HO := Lib.hid hown; have HB := Lib.hid hb
  clear hown hg hat hi hz0 hz1 hz2 hb
  go_wp2
  go_ret
  exact ⟨⟨A2, c2, rfl, HO.out⟩, HB.out⟩
set_option maxRecDepth 100000 in
theorem put (S : Nat → Prop) (w : World) (p B : Nat) (A : Option Addr) (n c : Nat) (l : List Nat) (b : Nat) (hb : b < 256) (hp : w.heap[p]? = some (.cells #[.slice A n c] 22 (0, 0))) (h : Own w B 5 1 A n c (bv l)) (hB : B ≤ w.heap.size)
    (hn : n ≤ 1000000000000) (hS : ∀ k, S k → k < w.heap.size ∧ k ≠ p ∧ some k ≠ (Value.slice A n c).ownBlock) :
    Calls Try.prog 62 #[.int .i64 (b : Int), .pointer (some ⟨p, 0, none⟩)] w fun e w' => e = .returned (.tuple #[]) ∧
      (∃ A' c', w'.heap[p]? = some (.cells #[.slice A' (n + 1) c'] 22 (0, 0)) ∧ Own w' B 5 1 A' (n + 1) c' (bv (l ++ [b])) ∧ ((Value.slice A' (n + 1) c').ownBlock = (Value.slice A n c).ownBlock ∨ ∃ g, (Value.slice A' (n + 1) c').ownBlock = some g ∧ w.heap.size ≤ g)) ∧ Still S w w' := by
  obtain ⟨i0, hi, hz0, hz1, hz2⟩ := info_parts u8_info
  have hne := Lib.hid (h.ne_blk hp (by decide))
  have hplt := lt_of_block hp
  have cP := cell_of_one hp
  have hb0 : Below w.heap.size w (w.alloc (.cells #[.int .u8 (b : Int)] 5)) := (Below.refl w.heap.size w).alloc (Nat.le_refl _) _
  have h1 := Lib.hid (h.on hb0)
  have hp1 : Hid ((w.alloc (.cells #[.int .u8 (b : Int)] 5)).heap[p]? = some (.cells #[.slice A n c] 22 (0, 0))) := Lib.hid ((hb0.block p hplt).trans hp)
  have HB0 := Lib.hid hb0; have Hp := Lib.hid hp
  clear hb0 hp
  go_enter Try.func62, Try.ntmps62
  go_wp2_with (at_builtin; refine wpList_append_sl _ rfl _ _ 22 rfl B 5 i0 _ 1 1 Try.underlying22 hi hz0 hz1 hz2 rfl (by omega) A n c (bv l) rfl h1.out (w.heap.size + 1) _ 1 1 [.int .u8 (b : Int)] rfl (Sl.one w _ _) (by simp [Value.oneCell']) (by omega) (by omega) (by simp; omega) ?_; intro A2 c2 w1 hown hg hat; have HP2 := Lib.hid ((hg.block p (by simp; omega) (fun e => hne.out e.symm)).trans hp1.out); have cP1 := cell_of_one HP2.out; have fP1 := free_of_one HP2.out)
  have hp2 := HP2.out
  have hne2 : (Value.slice A2 (n + 1) c2).ownBlock ≠ some p := by
    rcases hat with e | e <;> rw [e]
    · exact hne.out
    · simp; omega
  have hfin : Hid ((w1.setCell ⟨p, 0, none⟩ (.slice A2 (n + 1) c2)).heap[p]? = some (.cells #[.slice A2 (n + 1) c2] 22 (0, 0)) ∧ Own (w1.setCell ⟨p, 0, none⟩ (.slice A2 (n + 1) c2)) B 5 1 A2 (n + 1) c2 (bv (l ++ [b])) ∧
      ((Value.slice A2 (n + 1) c2).ownBlock = (Value.slice A n c).ownBlock ∨ ∃ g, (Value.slice A2 (n + 1) c2).ownBlock = some g ∧ w.heap.size ≤ g) ∧ Still S w (w1.setCell ⟨p, 0, none⟩ (.slice A2 (n + 1) c2))) := by
    refine Lib.hid ⟨one_setCell hp2, ⟨?_⟩, ?_, ?_⟩
    · rw [bv_app]; exact ownsRow_setCell_other hown.row hne2 _
    · rcases hat with e | e
      · exact .inl e
      · exact .inr ⟨_, e, by simp⟩
    · refine ⟨hg.os, hg.tape, hg.output, by have := hg.size; simp at this ⊢; omega, fun k hk => ?_⟩
      obtain ⟨k1, k2, k3⟩ := hS k hk
      exact ((Below.heap_setCell w1 _ _ k k2).trans (hg.block k (by simp; omega) k3)).trans (HB0.out.block k k1)
  clear hown hg hat hi hz0 hz1 hz2 hp2 hne2 hS
  go_wp2
  go_end0
  obtain ⟨f1, f2, f3, f4⟩ := hfin.out
  exact ⟨rfl, ⟨A2, c2, f1, f2, f3⟩, f4⟩
theorem keys_len {w : World} {B n c : Nat} {E : TypeId} {A : Option Addr} {l : List Nat} (h : Own w B E 1 A n c (bv l)) : n = l.length := by
  have := h.len; rw [bv_len] at this; omega
theorem uv_part (d : List Nat) (x x0 : Nat) (h : d ++ uv x = uv x0) (hx : 128 ≤ x) : (d ++ [x % 128 + 128]) ++ uv (x / 128) = uv x0 := by
  rw [uv_big x hx] at h; rw [← h]; simp
theorem uv_part_len (d : List Nat) (x x0 : Nat) (h : d ++ uv x = uv x0) (hx : x0 ≤ 1000000000000) : d.length ≤ 6 := by
  have := uv_len6 x0 hx; rw [← h, List.length_append] at this; omega
theorem take_snoc_i (l : List Int) (k : Nat) (h : k < l.length) : l.take (k + 1) = l.take k ++ [l[k]] := List.take_succ_eq_append_getElem h
/-- the blocks that were there, but one's own -/
def Old (H : Nat) (o : Option Nat) (k : Nat) : Prop := k < H ∧ some k ≠ o
/-- the row lies where it lay, or in a new block -/
def Since (H : Nat) (o : Option Nat) (v : Value) : Prop := v.ownBlock = o ∨ ∃ g, v.ownBlock = some g ∧ H ≤ g
theorem old_clear {w wr : World} {o : Option Nat} {v : Value} (ho : Since w.heap.size o v) (hs : Still (Old w.heap.size o) w wr) : ∀ k, Old w.heap.size o k → k < wr.heap.size ∧ k ≠ w.heap.size ∧ some k ≠ v.ownBlock := by
  intro k hk
  refine ⟨by have := hs.size; have := hk.1; omega, by have := hk.1; omega, ?_⟩
  rcases ho with e | ⟨g, e, hg⟩
  · rw [e]; exact hk.2
  · rw [e]; have := hk.1; simp; omega
theorem Since.on {w wr : World} {S : Nat → Prop} {o : Option Nat} {v v' : Value} (ho : Since w.heap.size o v) (hs : Still S w wr) (h : Since wr.heap.size v.ownBlock v') : Since w.heap.size o v' := by
  rcases h with e | ⟨g, e, hg⟩
  · rcases ho with e2 | ⟨g, e2, hg⟩
    · exact .inl (e.trans e2)
    · exact .inr ⟨g, e.trans e2, hg⟩
  · exact .inr ⟨g, e, by have := hs.size; omega⟩
/-- the state of withVarints at the head of its rounds -/
def With (w wr : World) (B : Nat) (o : Option Nat) (bs : List Nat) : Prop :=
  ∃ (A1 : Option Addr) (n1 c1 : Nat), wr.heap[w.heap.size]? = some (.cells #[.slice A1 n1 c1] 22 (0, 0)) ∧ Own wr B 5 1 A1 n1 c1 (bv bs) ∧ Since w.heap.size o (.slice A1 n1 c1) ∧ Still (Old w.heap.size o) w wr
/-- one byte more -/
theorem put_with (w wr : World) (B : Nat) (o : Option Nat) (bs : List Nat) (b : Nat) (hb : b < 256) (h : With w wr B o bs) (hB : B ≤ w.heap.size) (hn : bs.length ≤ 1000000000000) :
    Calls Try.prog 62 #[.int .i64 (b : Int), .pointer (some ⟨w.heap.size, 0, none⟩)] wr fun e w' => e = .returned (.tuple #[]) ∧ With w w' B o (bs ++ [b]) := by
  obtain ⟨A1, n1, c1, h1, h2, h3, h4⟩ := h
  have hl := keys_len h2
  refine (put (Old w.heap.size o) wr w.heap.size B A1 n1 c1 bs b hb h1 h2 (by have := h4.size; omega) (by omega) (old_clear h3 h4)).mono ?_
  rintro e w' ⟨rfl, ⟨A2, c2, k1, k2, k3⟩, k4⟩
  exact ⟨rfl, A2, n1 + 1, c2, k1, k2, h3.on h4 k3, h4.trans k4⟩
set_option maxHeartbeats 400000 in
set_option maxRecDepth 100000 in
theorem iwith (w : World) (B : Nat) (A : Option Addr) (n c : Nat) (bs : List Nat) (h : Own w B 5 1 A n c (bv bs)) (hB : B ≤ w.heap.size) (hn : n ≤ 1000000000)
    (D : Nat) (A' : Option Addr) (m c' : Nat) (l : List Int) (hl : Sl w D 1 A' m c' (iv l)) (hap : 0 < (iv l).length → ∀ ad, A' = some ad → Old w.heap.size (Value.slice A n c).ownBlock ad.block)
    (hr : ∀ z ∈ l, -9223372036854775808 ≤ z ∧ z ≤ 9223372036854775807) (hm : m ≤ 100000000) :
    Calls Try.prog 48 #[.slice A n c, .slice A' m c'] w fun e w' => (∃ A2 n2 c2, e = .returned (.slice A2 n2 c2) ∧ Own w' B 5 1 A2 n2 c2 (bv (bs ++ encs l)) ∧
      Since w.heap.size (Value.slice A n c).ownBlock (.slice A2 n2 c2)) ∧ w.grownBy w' (Value.slice A n c).ownBlock := by
  have hlen := hl.len
  rw [iv_len, Nat.mul_one] at hlen
  have Hl := Lib.hid hlen; clear hlen
  have hcap := hl.cap; have hcapm := hl.capm
  have hbs := keys_len h
  obtain ⟨o, ho⟩ : ∃ o, o = (Value.slice A n c).ownBlock := ⟨_, rfl⟩
  rw [← ho] at hap ⊢
  have hfirst : Hid (With w (w.alloc (.cells #[.slice A n c] 22)) B o (bs ++ encs (l.take 0))) := by
    refine Lib.hid ⟨A, n, c, heap_alloc_new _ _, ?_, .inl ho.symm, ⟨rfl, rfl, rfl, by simp, fun k hk => Below.heap_alloc _ _ _ hk.1⟩⟩
    simpa [encs] using h.on ((Below.refl w.heap.size w).alloc (Nat.le_refl _) _)
  have Hbs := Lib.hid (show bs.length ≤ 1000000000 by omega); clear hbs h ho
  have hSl : Hid (∀ {wr : World}, Still (Old w.heap.size o) w wr → Sl wr D 1 A' m c' (iv l)) := Lib.hid fun hs => hs.sl hl hap
  have HR := Lib.hid hr
  clear hl hap hr
  go_enter Try.func48, Try.ntmps48
  go_wp2
  go_loopw [11] (fun i wr => ∃ k : Nat, k ≤ m ∧ i = .int .i64 k ∧ With w wr B o (bs ++ encs (l.take k))) (fun i _ => m - (intOf i).toNat)
  case atStart => exact ⟨0, Nat.zero_le _, rfl, hfirst.out⟩
  case round =>
    clear hfirst
    obtain ⟨k, hk, rfl, hW⟩ := hrel
    have hel : (encs (l.take k)).length ≤ 600000000 := Nat.le_trans (encs_len _) (by have := List.length_take_le k l; omega)
    by_cases hlt : k < m
    · obtain ⟨wo, rfl⟩ : ∃ wo : World, wo = wr := ⟨_, rfl⟩
      have hs4 : Hid (Still (Old w.heap.size o) w wo) := by obtain ⟨_, _, _, _, _, _, h4⟩ := hW; exact Lib.hid h4
      obtain ⟨ad, hx, rfl, had, hcx⟩ := (hSl.out hs4.out).at_ hlt
      rw [iv_get l k hx] at hcx
      have hkl : k < l.length := by rw [Hl.out]; omega
      have hsn := Lib.hid (take_snoc_i l k hkl)
      have hzr := HR.out l[k] (List.getElem_mem hkl)
      obtain ⟨z, hz⟩ : ∃ z, z = l[k] := ⟨_, rfl⟩
      rw [← hz] at hcx hsn hzr
      clear hz hs4 HR
      have HW := Lib.hid hW; clear hW
      by_cases hin : 0 ≤ z ∧ z ≤ 1000000000000
      · obtain ⟨x0, rfl⟩ := Int.eq_ofNat_of_zero_le hin.1
        have hx0 : x0 ≤ 1000000000000 := by omega
        have hW1 : Hid (With w wo B o (bs ++ encs (l.take k) ++ [])) := Lib.hid (by simpa using HW.out)
        go_wp2_with (go_at_call 56; refine (iinr_t _ _ _ _ (by omega) (by omega)).mono ?_; rintro e w' ⟨rfl, rfl⟩)
        go_loopw [7] (fun s wi => ∃ (x : Nat) (d : List Nat), x ≤ 1000000000000 ∧ s = .int .i64 x ∧ d ++ uv x = uv x0 ∧ With w wi B o (bs ++ encs (l.take k) ++ d)) (fun s _ => (intOf s).toNat)
        case atStart => exact ⟨x0, [], hx0, rfl, rfl, hW1.out⟩
        case round =>
          clear hW1 HW
          obtain ⟨x, d, hx1, rfl, hd, hWi⟩ := hrel
          have hdl := uv_part_len d x x0 hd hx0
          have Hd := Lib.hid hd; clear hd
          have HWi := Lib.hid hWi; clear hWi
          have Hlen : Hid ((bs ++ encs (l.take k) ++ d).length ≤ 1000000000000) := Lib.hid (by have := Hbs.out; simp only [List.length_append]; omega)
          by_cases h128 : 128 ≤ x
          · go_wp2_with fail
            rw [show ((x : Int) % 128 + 128) = ((x % 128 + 128 : Nat) : Int) from by omega]
            refine (put_with w _ B o _ (x % 128 + 128) (by omega) HWi.out hB Hlen.out).mono ?_
            rintro e w' ⟨rfl, hWn⟩
            go_wp2
            go_roundw
            case rel => exact ⟨x / 128, _, by omega, by go_num, uv_part d x x0 Hd.out h128, by rw [← List.append_assoc]; exact hWn⟩
            case measure => simp [intOf]; omega
          · go_wp2_with fail
            refine (put_with w _ B o _ x (by omega) HWi.out hB Hlen.out).mono ?_
            rintro e w' ⟨rfl, hWn⟩
            have hW2 : Hid (With w w' B o (bs ++ encs (l.take (k + 1)))) := by
              refine Lib.hid ?_
              rw [hsn.out, encs_snoc, enc1_in _ hin.1 hin.2, Int.toNat_natCast, ← Hd.out, uv_small x (by omega)]
              simpa using hWn
            clear hWn
            go_wp2
            go_roundw
            case rel => exact ⟨k + 1, by omega, by go_num, hW2.out⟩
            case measure => simp [intOf]; omega
      · have hW2 : Hid (With w wo B o (bs ++ encs (l.take (k + 1)))) := by
          refine Lib.hid ?_
          rw [hsn.out, encs_snoc, enc1_out _ hin, List.append_nil]
          exact HW.out
        have Hin := Lib.hid hin; clear hin HW
        go_wp2_with (go_at_call 56; refine (iinr_f _ _ _ _ Hin.out).mono ?_; rintro e w' ⟨rfl, rfl⟩)
        go_roundw
        case rel => exact ⟨k + 1, by omega, by go_num, hW2.out⟩
        case measure => simp [intOf]; omega
    · have e1 : l.take k = l := List.take_of_length_le (by rw [Hl.out]; omega)
      rw [e1] at hW
      obtain ⟨A1, n1, c1, h1, h2, h3, h4⟩ := hW
      have cP := cell_of_one h1
      have H2 := Lib.hid h2; have H3 := Lib.hid h3; have H4 := Lib.hid h4
      clear e1 h1 h2 h3 h4
      go_wp2
      go_ret
      exact ⟨⟨A1, n1, c1, rfl, H2.out, H3.out⟩, ⟨H4.out.os, H4.out.tape, H4.out.output, H4.out.size, fun k h1 h2 => H4.out.block k ⟨h1, h2⟩⟩⟩
end Go.Proofs.Ytpfkijmicmampaa
