/- The contract of the program's hasOnlyDigits: are all bytes digits? -/
import Derived.Test.YtpjkfkpfmjcjiaaDoorProg
import Derived.Test.YtpjkfkpfmjcjiaaDoorNumeral
import Derived.Test.YtpjkfkpfmjcjiaaDoorInts
import Derived.WalkKit
import Derived.ProofKit
import Derived.OpenShut
import Derived.Handy
import Derived.Lib.Hide
import Derived.Maps.OwnOps
import Derived.Maps.Views
import Derived.Maps.OwnSet
import Derived.LoopTactic
namespace Go.Proofs.YtpjkfkpfmjcjiaaDoor
open Go.ChangeShapes Go.WideShapes Go.ChangeAt Go.RowKit Go.Maps
set_option linter.unusedVariables false
theorem keyByte : Keyed Tryd.prog 5 := int_keyed Tryd.underlying5
theorem zeroInt (w : World) : (zeroValue 3).run Tryd.prog w = .ok (.int .i64 0) w := by kernel_rfl
theorem u8_wf (n : Nat) (h : n < 256) : (Lit.int .u8 (n : Int)).wf = true := WalkArith.wf_u8 (by omega)
/-- the map holds how often each byte was met -/
def Cnt (D : DataW Unit) (l : List UInt8) : Prop := ∀ c : Nat, c < 256 → D.atKey (.int .u8 (c : Int)) (.lit (.int .i64 0)) = .lit (.int .i64 (cnt c l : Int))
theorem Cnt_nil : Cnt (.map []) [] := fun c _ => rfl
theorem Cnt_step {D : DataW Unit} {l : List UInt8} (h : Cnt D l) (hm : IsMap D) (c : UInt8) : Cnt (D.put (.int .u8 (c.toNat : Int)) (.lit (.int .i64 ((cnt c.toNat l : Int) + 1)))) (l ++ [c]) := by
  intro b hb
  rw [cnt_snoc]
  by_cases e : c.toNat = b
  · subst e
    rw [atKey_put_same hm (by trivial), if_pos rfl]; rfl
  · rw [atKey_put_other (by intro e2; injection e2 with _ e3; omega), h b hb, if_neg e]; rfl
theorem take_snoc (s : ByteArray) (k : Nat) (h : k < s.size) : s.data.toList.take (k + 1) = s.data.toList.take k ++ [s[k]] := by
  rw [List.take_succ_eq_append_getElem (by simpa using h)]; rfl
set_option maxRecDepth 100000 in
theorem hasdig (s : ByteArray) (w : World) (hs : s.size ≤ 1000) :
    Calls Tryd.prog 24 #[.string s] w fun e w' => e = .returned (.bool (digs s.data.toList)) ∧ Below w.heap.size w w' := by
  have hmm := @run_makeMap Tryd.prog
  go_enter Tryd.func24, Tryd.ntmps24
  go_wp2
  go_loopw [4] (fun i wr => ∃ (k : Nat) (D : DataW Unit), k ≤ s.size ∧ i = .int .i64 k ∧ wr.ownsMap Tryd.prog 5 (plainElem Tryd.prog 3) w.heap.size k D ∧ Cnt D (s.data.toList.take k) ∧ Below w.heap.size w wr)
    (fun i _ => s.size - (intOf i).toNat)
  case atStart => exact ⟨0, .map [], Nat.zero_le _, rfl, World.ownsMap_made _ _ _ _, by simpa using Cnt_nil, (Below.refl _ _).alloc (Nat.le_refl _) _⟩
  case round =>
    obtain ⟨k, D, hk, rfl, hown, hC, hnx⟩ := hrel
    by_cases hlt : k < s.size
    · have hC1 := Lib.hid (Cnt_step hC hown.isMap s[k])
      have hCk := Lib.hid (hC s[k].toNat (UInt8.toNat_lt _))
      have ht := Lib.hid (take_snoc s k hlt)
      have hcb : cnt s[k].toNat (s.data.toList.take k) ≤ 1000 := Nat.le_trans (cnt_le _ _) (by simp; have : s.data.size = s.size := rfl; omega)
      clear hC
      go_wp2_with (first
        | (at_lookup; refine wpList_lookup_own_int _ rfl _ _ 46 rfl 5 3 .i64 keyByte Tryd.underlying46 Tryd.underlying3 (zeroInt _) w.heap.size k _ rfl hown _ _ rfl (keyOf_int_mk Tryd.underlying5 (u8_wf _ (UInt8.toNat_lt _))) ?_; intro c hat hwc)
        | (at_mapUpdate; refine wpList_mapUpdate_own _ rfl _ _ _ 46 rfl 5 3 keyByte Tryd.underlying46 _ w.heap.size k _ rfl hown (by unfold maxLen; omega) _ _ _ rfl rfl (keyOf_int_mk Tryd.underlying5 (u8_wf _ (UInt8.toNat_lt _))) _ [] (plainElem_int Tryd.underlying3 (wrap64_wf _)) ?_; intro w1 hown1 hgrow1)
        | go_in)
      go_roundw
      case rel =>
        refine ⟨k + 1, _, by omega, by go_num, hown1, ?_, hnx.grown hgrow1 hnx.size (fun j hj => by cases hj; exact Nat.le_refl _)⟩
        have e : c = (cnt s[k].toNat (s.data.toList.take k) : Int) := by
          have := hat.symm.trans hCk.out
          injection this with this; injection this
        rw [ht.out]
        have h1 := hC1.out
        rw [← e] at h1
        rw [IntWalk.wrap64_in (c + 1) (by omega)]
        exact h1
      case measure => simp [intOf]; omega
    · obtain rfl : k = s.size := by omega
      have hC2 := Lib.hid hC; clear hC
      have hsl : s.data.toList.length = s.size := by simp
      have hall : Hid (Cnt D s.data.toList) := by
        refine Lib.hid ?_
        have := hC2.out
        rwa [← hsl, List.take_length] at this
      have Hsl := Lib.hid hsl; clear hC2 hsl
      go_wp2
      go_loop [5, 6] (fun d c => ∃ m : Nat, 48 ≤ m ∧ m ≤ 58 ∧ c = .int .u8 m ∧ d = .int .i64 (dcnt m s.data.toList)) (fun _ c => 58 - (intOf c).toNat)
      case atStart => exact ⟨48, by omega, by omega, rfl, by rw [dcnt_zero]; rfl⟩
      case round =>
        obtain ⟨m, hm1, hm2, rfl, rfl⟩ := hrel
        have hd0 : dcnt m s.data.toList ≤ 1000 := Nat.le_trans (dcnt_le _ _) (by rw [Hsl.out]; exact hs)
        by_cases hm : m < 58
        · have hd1 := Lib.hid (dcnt_step m hm1 s.data.toList)
          have hcm := Lib.hid (hall.out m (by omega))
          have hc0 : cnt m s.data.toList ≤ 1000 := Nat.le_trans (cnt_le _ _) (by rw [Hsl.out]; exact hs)
          go_wp2_with (first
            | (at_lookup; refine wpList_lookup_own_int _ rfl _ _ 46 rfl 5 3 .i64 keyByte Tryd.underlying46 Tryd.underlying3 (zeroInt _) w.heap.size s.size _ rfl hown _ _ rfl (keyOf_int_mk Tryd.underlying5 (u8_wf _ (by omega))) ?_; intro c hat hwc)
            | go_in)
          have ec : c = (cnt m s.data.toList : Int) := by
            have := hat.symm.trans hcm.out
            injection this with this; injection this
          go_round
          case rel => exact ⟨m + 1, by omega, by omega, by simp, by rw [IntWalk.wrap64_in _ (by omega), hd1.out, ec]; simp⟩
          case measure => simp [intOf]; omega
        · obtain rfl : m = 58 := by omega
          have hda := Lib.hid (dcnt_all s.data.toList)
          go_wp2
          go_ret
          refine ⟨?_, hnx⟩
          rw [← hda.out, Hsl.out]; rfl
theorem size_list (s : ByteArray) : s.data.toList.length = s.size := by simp
theorem head_list (s : ByteArray) (h : 1 ≤ s.size) : s.data.toList.head? = some s[0] := by
  rw [List.head?_eq_getElem?, List.getElem?_eq_getElem (by rw [size_list]; omega)]; rfl
theorem u8_ne {c : UInt8} (h : ¬ c = 48) : ((c.toNat : Int) == 48) = false := by
  rw [beq_eq_false_iff_ne]; intro e; exact h (UInt8.toNat_inj.1 (by show c.toNat = 48; omega))
set_option maxRecDepth 100000 in
theorem isnum_short (s : ByteArray) (w : World) (h : ¬ (1 ≤ s.size ∧ s.size ≤ 13)) (hm : s.size ≤ 9223372036854775807) :
    Calls Tryd.prog 18 #[.string s] w fun e w' => e = .returned (.bool (isNum s.data.toList)) ∧ Below w.heap.size w w' := by
  have hn : isNum s.data.toList = false := by unfold isNum; rw [size_list]; simp; omega
  have Hn := Lib.hid hn; clear hn
  have h' : ¬ ((1 : Int) ≤ (s.size : Int) ∧ (s.size : Int) ≤ 13) := by omega
  have H := Lib.hid h'; clear h h'
  go_enter Tryd.func18, Tryd.ntmps18
  go_wp2_with (go_at_call 21; refine (iinr_f _ _ _ _ H.out).mono ?_; rintro e w' ⟨rfl, rfl⟩)
  go_ret
  exact ⟨by rw [Hn.out]; rfl, Below.refl _ _⟩
set_option maxRecDepth 100000 in
theorem isnum_lead (s : ByteArray) (w : World) (h1 : 1 < s.size) (h2 : s.size ≤ 13) (h3 : s[0] = 48) :
    Calls Tryd.prog 18 #[.string s] w fun e w' => e = .returned (.bool (isNum s.data.toList)) ∧ Below w.heap.size w w' := by
  have hn : isNum s.data.toList = false := by
    unfold isNum lead; rw [head_list s (by omega), h3, size_list]; simp; omega
  have h3' : ((s[0].toNat : Int) == 48) = true := by rw [h3]; rfl
  have h4 : decide ((1 : Int) < (s.size : Int)) = true := by simp; omega
  have Hn := Lib.hid hn; clear hn h3
  go_enter Tryd.func18, Tryd.ntmps18
  go_wp2_with (go_at_call 21; refine (iinr_t _ _ _ _ (by omega) (by omega)).mono ?_; rintro e w' ⟨rfl, rfl⟩)
  go_ret
  exact ⟨by rw [Hn.out]; rfl, Below.refl _ _⟩
set_option maxRecDepth 100000 in
theorem isnum_go (s : ByteArray) (w : World) (h1 : 1 ≤ s.size) (h2 : s.size ≤ 13) (h3 : ¬ (s[0] = 48 ∧ 1 < s.size)) :
    Calls Tryd.prog 18 #[.string s] w fun e w' => e = .returned (.bool (isNum s.data.toList)) ∧ Below w.heap.size w w' := by
  have hn : isNum s.data.toList = digs s.data.toList := by
    unfold isNum lead; rw [head_list s h1, size_list]
    rw [decide_eq_true h1, decide_eq_true h2, show (decide (some s[0] = some 48) && decide (1 < s.size)) = false by
      rw [Bool.and_eq_false_iff, decide_eq_false_iff_not, decide_eq_false_iff_not]; by_cases e : s[0] = 48
      · exact Or.inr (fun h => h3 ⟨e, h⟩)
      · exact Or.inl (fun h => e (Option.some.inj h))]
    rfl
  have Hn := Lib.hid hn; clear hn
  by_cases h4 : s[0] = 48
  · have h3' : ((s[0].toNat : Int) == 48) = true := by rw [h4]; rfl
    have h5 : decide ((1 : Int) < (s.size : Int)) = false := by simp; by_cases e : 1 < s.size; exact absurd ⟨h4, e⟩ h3; omega
    clear h3 h4
    go_enter Tryd.func18, Tryd.ntmps18
    go_wp2_with (first | (go_at_call 21; refine (iinr_t _ _ _ _ (by omega) (by omega)).mono ?_; rintro e w' ⟨rfl, rfl⟩) | (go_at_call 24; refine (hasdig _ _ (by omega)).mono ?_; rintro e w' ⟨rfl, hb⟩))
    go_ret
    exact ⟨by rw [Hn.out]; rfl, hb⟩
  · have h3' := u8_ne h4
    clear h3 h4
    go_enter Tryd.func18, Tryd.ntmps18
    go_wp2_with (first | (go_at_call 21; refine (iinr_t _ _ _ _ (by omega) (by omega)).mono ?_; rintro e w' ⟨rfl, rfl⟩) | (go_at_call 24; refine (hasdig _ _ (by omega)).mono ?_; rintro e w' ⟨rfl, hb⟩))
    go_ret
    exact ⟨by rw [Hn.out]; rfl, hb⟩
theorem isnum (s : ByteArray) (w : World) (hm : s.size ≤ 9223372036854775807) :
    Calls Tryd.prog 18 #[.string s] w fun e w' => e = .returned (.bool (isNum s.data.toList)) ∧ Below w.heap.size w w' := by
  by_cases h : 1 ≤ s.size ∧ s.size ≤ 13
  · by_cases h3 : s[0] = 48 ∧ 1 < s.size
    · exact isnum_lead s w h3.2 h.2 h3.1
    · exact isnum_go s w h.1 h.2 h3
  · exact isnum_short s w h hm
end Go.Proofs.YtpjkfkpfmjcjiaaDoor
