/- The contracts of Encrypt and Decrypt, of the model: a region that draws its order and holds the keyed hash's call. -/
import Derived.Test.YtehmnipaiihndaaCipher
import Derived.Deep.RegionHeld3
import Derived.IntWalk
namespace Go.Proofs.Ytehmnipaiihndaa
open Go.ChangeShapes Go.WideShapes Go.ChangeAt Go.RowKit
set_option linter.unusedVariables false
theorem kh_letter (k : Int) (i : Nat) : ∃ (z : Int), (0 ≤ z ∧ z ≤ 2147483646) ∧ z = kh k [(i : Int)] ∧ z % 256 = (pad k i : Int) := ⟨_, kh_bd k _, rfl, pad_is k i⟩
theorem modf256 (b pd r : Nat) (hb : b < 256) (hp : pd < 256) (hr : r = (b + 256 - pd) % 256) : modf ((b : Int) - (pd : Int)) 256 = (r : Int) := by
  unfold modf; rw [if_pos (by omega)]; omega
set_option maxHeartbeats 800000 in
set_option maxRecDepth 100000 in
theorem sencr (w : World) (D : Nat) (k : Int) (A : Option Addr) (n c : Nat) (l : List Nat) (h : Sl w D 1 A n c (bv l)) (hD : D ≤ w.heap.size) (hn : n ≤ 16777216) (hl : ∀ b ∈ l, b < 256) :
    Calls Try.prog 37 #[.int .i64 k, .slice A n c] w (Gives w (encb k l)) := by
  obtain ⟨i0, hi, hy0, hy1, hy2⟩ := info_parts u8_info
  have hlen := h.len
  rw [bv_len, Nat.mul_one] at hlen
  have Hl := Lib.hid hlen; clear hlen
  have hcap := h.cap; have hcapm := h.capm
  have HL := Lib.hid hl; clear hl
  have H0 : Hid (Own (w.alloc (.cells #[] 5)) w.heap.size 5 1 (some ⟨w.heap.size, 0, none⟩) 0 0 (bv (encb k (l.take 0))) ∧ Below w.heap.size w (w.alloc (.cells #[] 5))) :=
    Lib.hid ⟨Own.lit w w.heap.size 5 #[] 0 (Nat.le_refl _) (by omega) rfl, (Below.refl _ _).alloc (Nat.le_refl _) _⟩
  go_enter Try.func37, Try.ntmps37
  go_wp2
  go_loopw [5, 6] (fun v i wr => ∃ (q : Nat) (A1 : Option Addr) (c1 : Nat), q ≤ n ∧ i = .int .i64 q ∧ v = .slice A1 q c1 ∧ Own wr w.heap.size 5 1 A1 q c1 (bv (encb k (l.take q))) ∧ Below w.heap.size w wr) (fun _ i _ => n - (intOf i).toNat)
  case atStart => exact ⟨0, _, _, Nat.zero_le _, rfl, rfl, H0.out.1, H0.out.2⟩
  case round =>
    clear H0
    obtain ⟨q, A1, c1, hq, rfl, rfl, ho, hb⟩ := hrel
    by_cases hlt : q < n
    · obtain ⟨ad, hx, rfl, had, hcw⟩ := h.at_ hlt
      rw [bv_get l q hx] at hcw
      have hql : q < l.length := by rw [Hl.out]; omega
      have hbb := HL.out l[q] (List.getElem_mem hql)
      have hsn := Lib.hid (encb_take k l q hql)
      obtain ⟨b, hbe⟩ : ∃ b, b = l[q] := ⟨_, rfl⟩
      rw [← hbe] at hcw hsn hbb
      have hpd := pad_lt k q
      obtain ⟨z, ⟨hz0, hz1⟩, hz, hzp⟩ := kh_letter k q
      have Hz := Lib.hid hz
      obtain ⟨pd, hpe⟩ : ∃ x, x = pad k q := ⟨_, rfl⟩
      rw [← hpe] at hpd hsn hzp
      obtain ⟨r, hre⟩ : ∃ r, r = (b + pd) % 256 := ⟨_, rfl⟩
      rw [← hre] at hsn
      have hr : r < 256 := by omega
      have hab : (ad.add q).block < w.heap.size := by rw [block_of_add]; omega
      have HC : Hid (∀ {w' : World}, Below w.heap.size w w' → w'.cell? (ad.add q) = some (.int .u8 (b : Int))) := Lib.hid fun hb => (hb.cell hab).trans hcw
      have hcx := HC.out hb
      have hb1 : Below wr.heap.size wr (wr.drew.alloc (.cells #[.int .i64 (q : Int)] 3)) := ((Below.refl wr.heap.size wr).drew).alloc (Nat.le_refl _) _
      have HO := Lib.hid (ho.on hb1); have HB := Lib.hid (hb.trans (hb1.mono hb.size))
      have hsz := hb.size
      have g1 : z.tmod 256 = (pd : Int) := by rw [Int.tmod_eq_emod_of_nonneg hz0]; exact hzp
      have g4 : IntKind.i64.wrap (b : Int) = (b : Int) := IntWalk.i64_in _ (by omega)
      have g2 : IntKind.i64.wrap ((b : Int) + (pd : Int)) = (b : Int) + (pd : Int) := IntWalk.i64_in _ (by omega)
      have g3 : ((b : Int) + (pd : Int)).tmod 256 = (r : Int) := by rw [Int.tmod_eq_emod_of_nonneg (by omega)]; omega
      have g6 : IntKind.u8.wrap (r : Int) = (r : Int) := by unfold IntKind.wrap; simp [IntKind.bits, IntKind.signed]; omega
      have f1 : (0 : Int) ≤ (q : Int) := by omega
      have f2 : (q : Int) < (n : Int) := by omega
      clear hbe hz hpe hre ho hb hb1 hzp hcw hbb hpd hz0 hz1
      go_wp2_with fail
      go_region_held3 (fun w' => w'.cell? (ad.add q) = some (.int .u8 (b : Int))) (first | assumption | go_keep) (first
        | (go_at_call 28; refine (skeyed _ _ k _ 1 1 [(q : Int)] (Sl.one wr.drew (.int .i64 (q : Int)) 3) (by simp) (by omega)).mono ?_; rintro e wA ⟨rfl, bA⟩; rw [← Hz.out]; have HOA := Lib.hid ((HO.out.on bA).on ((Below.refl wA.heap.size wA).alloc (Nat.le_refl _) (.cells #[.int .u8 (r : Int)] 5))); have HBA := Lib.hid (HB.out.trans (bA.mono HB.out.size)); have hszA := HBA.out.size; have hcA := HC.out HBA.out; clear bA)
        | (refine step_append_sl _ (by rfl) _ _ 22 (by rfl) w.heap.size 5 i0 _ 1 1 Try.underlying22 hi hy0 hy1 hy2 rfl (by omega) A1 q c1 _ (by rfl) HOA.out (wA.heap.size + 1) _ 1 1 [.int .u8 (r : Int)] (by rfl) (Sl.one wA _ _) (by simp [Value.oneCell']) (by omega) (by omega) (by simp; omega) ?_; intro A3 c3 w3 hown3 hg3 hat3; have HO3 := Lib.hid hown3; have HB3 := Lib.hid (HOA.out.below (HBA.out.alloc HBA.out.size (.cells #[.int .u8 (r : Int)] 5)) (by simp; omega) hg3); have hc3 := HC.out HB3.out; clear hown3 hg3 hat3))
      have hfin : Hid (Own w3 w.heap.size 5 1 A3 (q + 1) c3 (bv (encb k (l.take (q + 1)))) ∧ Below w.heap.size w w3) := by
        refine Lib.hid ⟨?_, HB3.out⟩
        rw [hsn.out, bv_app]; exact HO3.out
      clear HO3 HB3 HOA HBA HO HB hsn
      go_wp2
      go_roundw
      case rel => exact ⟨q + 1, A3, c3, by omega, by go_num, rfl, hfin.out.1, hfin.out.2⟩
      case measure => simp [intOf]; omega
    · have e1 : l.take q = l := List.take_of_length_le (by rw [Hl.out]; omega)
      rw [e1] at ho
      have HO := Lib.hid ho; have HB := Lib.hid hb
      clear ho hb e1
      go_wp2
      go_ret
      exact ⟨⟨A1, q, c1, rfl, HO.out⟩, HB.out⟩
set_option maxHeartbeats 800000 in
set_option maxRecDepth 100000 in
theorem sdecr (w : World) (D : Nat) (k : Int) (A : Option Addr) (n c : Nat) (l : List Nat) (h : Sl w D 1 A n c (bv l)) (hD : D ≤ w.heap.size) (hn : n ≤ 16777216) (hl : ∀ b ∈ l, b < 256) :
    Calls Try.prog 39 #[.int .i64 k, .slice A n c] w (Gives w (decb k l)) := by
  obtain ⟨i0, hi, hy0, hy1, hy2⟩ := info_parts u8_info
  have hlen := h.len
  rw [bv_len, Nat.mul_one] at hlen
  have Hl := Lib.hid hlen; clear hlen
  have hcap := h.cap; have hcapm := h.capm
  have HL := Lib.hid hl; clear hl
  have H0 : Hid (Own (w.alloc (.cells #[] 5)) w.heap.size 5 1 (some ⟨w.heap.size, 0, none⟩) 0 0 (bv (decb k (l.take 0))) ∧ Below w.heap.size w (w.alloc (.cells #[] 5))) :=
    Lib.hid ⟨Own.lit w w.heap.size 5 #[] 0 (Nat.le_refl _) (by omega) rfl, (Below.refl _ _).alloc (Nat.le_refl _) _⟩
  go_enter Try.func39, Try.ntmps39
  go_wp2
  go_loopw [5, 6] (fun v i wr => ∃ (q : Nat) (A1 : Option Addr) (c1 : Nat), q ≤ n ∧ i = .int .i64 q ∧ v = .slice A1 q c1 ∧ Own wr w.heap.size 5 1 A1 q c1 (bv (decb k (l.take q))) ∧ Below w.heap.size w wr) (fun _ i _ => n - (intOf i).toNat)
  case atStart => exact ⟨0, _, _, Nat.zero_le _, rfl, rfl, H0.out.1, H0.out.2⟩
  case round =>
    clear H0
    obtain ⟨q, A1, c1, hq, rfl, rfl, ho, hb⟩ := hrel
    by_cases hlt : q < n
    · obtain ⟨ad, hx, rfl, had, hcw⟩ := h.at_ hlt
      rw [bv_get l q hx] at hcw
      have hql : q < l.length := by rw [Hl.out]; omega
      have hbb := HL.out l[q] (List.getElem_mem hql)
      have hsn := Lib.hid (decb_take k l q hql)
      obtain ⟨b, hbe⟩ : ∃ b, b = l[q] := ⟨_, rfl⟩
      rw [← hbe] at hcw hsn hbb
      have hpd := pad_lt k q
      obtain ⟨z, ⟨hz0, hz1⟩, hz, hzp⟩ := kh_letter k q
      have Hz := Lib.hid hz
      obtain ⟨pd, hpe⟩ : ∃ x, x = pad k q := ⟨_, rfl⟩
      rw [← hpe] at hpd hsn hzp
      obtain ⟨r, hre⟩ : ∃ r, r = (b + 256 - pd) % 256 := ⟨_, rfl⟩
      rw [← hre] at hsn
      have hr : r < 256 := by omega
      have hab : (ad.add q).block < w.heap.size := by rw [block_of_add]; omega
      have HC : Hid (∀ {w' : World}, Below w.heap.size w w' → w'.cell? (ad.add q) = some (.int .u8 (b : Int))) := Lib.hid fun hb => (hb.cell hab).trans hcw
      have hcx := HC.out hb
      have hb1 : Below wr.heap.size wr (wr.drew.alloc (.cells #[.int .i64 (q : Int)] 3)) := ((Below.refl wr.heap.size wr).drew).alloc (Nat.le_refl _) _
      have HO := Lib.hid (ho.on hb1); have HB := Lib.hid (hb.trans (hb1.mono hb.size))
      have hsz := hb.size
      have g1 : z.tmod 256 = (pd : Int) := by rw [Int.tmod_eq_emod_of_nonneg hz0]; exact hzp
      have g4 : IntKind.i64.wrap (b : Int) = (b : Int) := IntWalk.i64_in _ (by omega)
      have g2 : IntKind.i64.wrap ((b : Int) - (pd : Int)) = (b : Int) - (pd : Int) := IntWalk.i64_in _ (by omega)
      have g3 := Lib.hid (modf256 b pd r hbb hpd hre)
      have g6 : IntKind.u8.wrap (r : Int) = (r : Int) := by unfold IntKind.wrap; simp [IntKind.bits, IntKind.signed]; omega
      have f1 : (0 : Int) ≤ (q : Int) := by omega
      have f2 : (q : Int) < (n : Int) := by omega
      clear hbe hz hpe hre ho hb hb1 hzp hcw hbb hpd hz0 hz1
      go_wp2_with fail
      go_region_held3 (fun w' => w'.cell? (ad.add q) = some (.int .u8 (b : Int))) (first | assumption | go_keep) (first
        | (go_at_call 28; refine (skeyed _ _ k _ 1 1 [(q : Int)] (Sl.one wr.drew (.int .i64 (q : Int)) 3) (by simp) (by omega)).mono ?_; rintro e wA ⟨rfl, bA⟩; rw [← Hz.out]; have HOA := Lib.hid ((HO.out.on bA).on ((Below.refl wA.heap.size wA).alloc (Nat.le_refl _) (.cells #[.int .u8 (r : Int)] 5))); have HBA := Lib.hid (HB.out.trans (bA.mono HB.out.size)); have hszA := HBA.out.size; have hcA := HC.out HBA.out; clear bA)
        | (go_at_call 21; refine (smod _ 256 _).mono ?_; rintro e wB ⟨rfl, rfl⟩; rw [g3.out])
        | (refine step_append_sl _ (by rfl) _ _ 22 (by rfl) w.heap.size 5 i0 _ 1 1 Try.underlying22 hi hy0 hy1 hy2 rfl (by omega) A1 q c1 _ (by rfl) HOA.out (wA.heap.size + 1) _ 1 1 [.int .u8 (r : Int)] (by rfl) (Sl.one wA _ _) (by simp [Value.oneCell']) (by omega) (by omega) (by simp; omega) ?_; intro A3 c3 w3 hown3 hg3 hat3; have HO3 := Lib.hid hown3; have HB3 := Lib.hid (HOA.out.below (HBA.out.alloc HBA.out.size (.cells #[.int .u8 (r : Int)] 5)) (by simp; omega) hg3); have hc3 := HC.out HB3.out; clear hown3 hg3 hat3))
      have hfin : Hid (Own w3 w.heap.size 5 1 A3 (q + 1) c3 (bv (decb k (l.take (q + 1)))) ∧ Below w.heap.size w w3) := by
        refine Lib.hid ⟨?_, HB3.out⟩
        rw [hsn.out, bv_app]; exact HO3.out
      clear HO3 HB3 HOA HBA HO HB hsn
      go_wp2
      go_roundw
      case rel => exact ⟨q + 1, A3, c3, by omega, by go_num, rfl, hfin.out.1, hfin.out.2⟩
      case measure => simp [intOf]; omega
    · have e1 : l.take q = l := List.take_of_length_le (by rw [Hl.out]; omega)
      rw [e1] at ho
      have HO := Lib.hid ho; have HB := Lib.hid hb
      clear ho hb e1
      go_wp2
      go_ret
      exact ⟨⟨A1, q, c1, rfl, HO.out⟩, HB.out⟩
end Go.Proofs.Ytehmnipaiihndaa
