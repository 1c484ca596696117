/- The contracts of the model's MeetSpans and CutSpans. -/
import Derived.Test.YtnonlmgjbmllnaaSpanModel
import Derived.IntWalk
namespace Go.Proofs.Ytnonlmgjbmllnaa
open Go.ChangeShapes Go.WideShapes Go.ChangeAt Go.RowKit
set_option linter.unusedVariables false
set_option maxRecDepth 100000 in
theorem smeet (w : World) (D D' : Nat) (A A' : Option Addr) (n n' c c' : Nat) (l l' : List (Int × Int)) (h : Sl w D 2 A n c (sv l)) (h' : Sl w D' 2 A' n' c' (sv l')) (hD : D ≤ w.heap.size) (hD' : D' ≤ w.heap.size) :
    Calls Try.prog 33 #[.slice A n c, .slice A' n' c'] w (GivesS w (meetOf l l')) := by
  have H := Lib.hid h; have H' := Lib.hid h'; clear h h'
  have h0 : Hid (Own (w.alloc (.cells #[] 34)) w.heap.size 34 2 (some ⟨w.heap.size, 0, none⟩) 0 0 (sv []) ∧ Below w.heap.size w (w.alloc (.cells #[] 34))) :=
    Lib.hid ⟨Own.made0 w w.heap.size _ (Nat.le_refl _), (Below.refl _ _).alloc (Nat.le_refl _) _⟩
  obtain ⟨S, hS⟩ : ∃ S : Nat → Bool, S = fun k => tk l k && tk l' k := ⟨_, rfl⟩
  have HS : Hid (∀ k, S k = (tk l k && tk l' k)) := Lib.hid fun k => by rw [hS]
  have HJ : Hid (runs S 1000 = meetOf l l') := Lib.hid (by rw [hS]; rfl)
  clear hS
  go_enter Try.func33, Try.ntmps33
  go_wp2_with fail
  refine (slast _ _ A n c l (H.out.below h0.out.2 hD) (by simp; omega)).mono ?_
  rintro e w1 ⟨rfl, b1⟩
  have h1 : Hid (Own w1 w.heap.size 34 2 (some ⟨w.heap.size, 0, none⟩) 0 0 (sv (runs S 0)) ∧ Below w.heap.size w w1) :=
    Lib.hid ⟨h0.out.1.on b1, h0.out.2.trans (b1.mono (by simp))⟩
  obtain ⟨m, hm⟩ : ∃ m : Nat, (m : Int) = lastOf l := ⟨(lastOf l).toNat, by have := lastOf_bd l; omega⟩
  have hmb : m ≤ 1000 := by have := lastOf_bd l; omega
  have HM : Hid (runs S m = meetOf l l') := Lib.hid ((runs_last l S (fun k h => by rw [HS.out] at h; exact (Bool.and_eq_true_iff.1 h).1) m hm).trans HJ.out)
  rw [← hm]
  clear hm b1 h0
  go_wp2
  go_loopw [5, 7] (fun v i wr => ∃ (k : Nat) (A1 : Option Addr) (n1 c1 : Nat), k ≤ m ∧ i = .int .i64 k ∧ v = .slice A1 n1 c1 ∧ Own wr w.heap.size 34 2 A1 n1 c1 (sv (runs S k)) ∧ Below w.heap.size w wr) (fun _ i _ => m - (intOf i).toNat)
  case atStart => exact ⟨0, _, _, _, Nat.zero_le _, rfl, rfl, h1.out.1, h1.out.2⟩
  case round =>
    clear h1
    obtain ⟨k, A1, n1, c1, hk, rfl, rfl, ho, hb⟩ := hrel
    by_cases hlt : k < m
    · have hn1 : n1 ≤ 1000 := by have h2 := ho.len; rw [sv_len] at h2; have := runs_len S k; omega
      have HO := Lib.hid ho; have HB := Lib.hid hb
      clear ho hb
      obtain ⟨v, hv⟩ : ∃ v, inL l k = v := ⟨_, rfl⟩
      have HV := Lib.hid hv; clear hv
      obtain ⟨u, hu⟩ : ∃ u, inL l' k = u := ⟨_, rfl⟩
      have HU := Lib.hid hu; clear hu
      have hSk : Hid (S k = (v && u)) := Lib.hid (by rw [HS.out]; unfold tk; rw [HV.out, HU.out])
      have hr0 : Hid ((v && u) = false → runs S (k + 1) = runs S k) := Lib.hid (fun e => by show (if S k then _ else _) = _; rw [hSk.out, e]; rfl)
      have hr1 : Hid ((v && u) = true → runs S (k + 1) = put (runs S k) k) := Lib.hid (fun e => by show (if S k then _ else _) = _; rw [hSk.out, e]; rfl)
      go_wp2_with fail
      refine (sinspans _ _ A n c l (H.out.below HB.out hD) (Nat.le_trans hD HB.out.size) k v HV.out).mono ?_
      rintro e w2 ⟨rfl, b2⟩
      have HO2 := Lib.hid (HO.out.on b2)
      have HB2 := Lib.hid (HB.out.trans (b2.mono HB.out.size))
      clear b2 HO HB
      cases v
      · have HF : Hid (Own w2 w.heap.size 34 2 A1 n1 c1 (sv (runs S (k + 1)))) := Lib.hid (by rw [hr0.out rfl]; exact HO2.out)
        clear hr0 hr1 hSk HO2
        go_wp2
        go_roundw
        case rel => exact ⟨k + 1, A1, n1, c1, by omega, by go_num, rfl, HF.out, HB2.out⟩
        case measure => simp [intOf]; omega
      · go_wp2_with fail
        refine (sinspans _ _ A' n' c' l' (H'.out.below HB2.out hD') (Nat.le_trans hD' HB2.out.size) k u HU.out).mono ?_
        rintro e w3 ⟨rfl, b3⟩
        have HO3 := Lib.hid (HO2.out.on b3)
        have HB3 := Lib.hid (HB2.out.trans (b3.mono HB2.out.size))
        clear b3 HO2 HB2
        cases u
        all_goals
          first
            | (have hr : Hid (runs S (k + 1) = runs S k) := Lib.hid (hr0.out rfl)
               have HF : Hid (Own w3 w.heap.size 34 2 A1 n1 c1 (sv (runs S (k + 1)))) := Lib.hid (by rw [hr.out]; exact HO3.out)
               clear hr0 hr1 hSk HO3 hr
               go_wp2
               go_roundw
               case rel => exact ⟨k + 1, A1, n1, c1, by omega, by go_num, rfl, HF.out, HB3.out⟩
               case measure => simp [intOf]; omega)
            | (have hr : Hid (runs S (k + 1) = put (runs S k) k) := Lib.hid (hr1.out rfl)
               go_wp2_with fail
               refine (sput w3 w w.heap.size A1 n1 c1 _ HO3.out HB3.out.size HB3.out (by omega) k (by omega) (by omega)).mono ?_
               rintro e w4 ⟨A4, n4, c4, rfl, o4, b4⟩
               have HF : Hid (Own w4 w.heap.size 34 2 A4 n4 c4 (sv (runs S (k + 1)))) := Lib.hid (by rw [hr.out]; exact o4)
               have HB4 := Lib.hid b4
               clear hr0 hr1 hSk hr HO3 HB3 o4 b4
               go_wp2
               go_roundw
               case rel => exact ⟨k + 1, A4, n4, c4, by omega, by go_num, rfl, HF.out, HB4.out⟩
               case measure => simp [intOf]; omega)
    · obtain rfl : k = m := by omega
      rw [HM.out] at ho
      have HF : Hid (GivesS w (meetOf l l') (.returned (.slice A1 n1 c1)) wr) := Lib.hid ⟨_, _, _, rfl, ho, hb⟩
      clear ho hb HM
      go_wp2
      go_ret
      exact HF.out
set_option maxRecDepth 100000 in
theorem scut (w : World) (D D' : Nat) (A A' : Option Addr) (n n' c c' : Nat) (l l' : List (Int × Int)) (h : Sl w D 2 A n c (sv l)) (h' : Sl w D' 2 A' n' c' (sv l')) (hD : D ≤ w.heap.size) (hD' : D' ≤ w.heap.size) :
    Calls Try.prog 34 #[.slice A n c, .slice A' n' c'] w (GivesS w (cutOf l l')) := by
  have H := Lib.hid h; have H' := Lib.hid h'; clear h h'
  have h0 : Hid (Own (w.alloc (.cells #[] 34)) w.heap.size 34 2 (some ⟨w.heap.size, 0, none⟩) 0 0 (sv []) ∧ Below w.heap.size w (w.alloc (.cells #[] 34))) :=
    Lib.hid ⟨Own.made0 w w.heap.size _ (Nat.le_refl _), (Below.refl _ _).alloc (Nat.le_refl _) _⟩
  obtain ⟨S, hS⟩ : ∃ S : Nat → Bool, S = fun k => tk l k && !tk l' k := ⟨_, rfl⟩
  have HS : Hid (∀ k, S k = (tk l k && !tk l' k)) := Lib.hid fun k => by rw [hS]
  have HJ : Hid (runs S 1000 = cutOf l l') := Lib.hid (by rw [hS]; rfl)
  clear hS
  go_enter Try.func34, Try.ntmps34
  go_wp2_with fail
  refine (slast _ _ A n c l (H.out.below h0.out.2 hD) (by simp; omega)).mono ?_
  rintro e w1 ⟨rfl, b1⟩
  have h1 : Hid (Own w1 w.heap.size 34 2 (some ⟨w.heap.size, 0, none⟩) 0 0 (sv (runs S 0)) ∧ Below w.heap.size w w1) :=
    Lib.hid ⟨h0.out.1.on b1, h0.out.2.trans (b1.mono (by simp))⟩
  obtain ⟨m, hm⟩ : ∃ m : Nat, (m : Int) = lastOf l := ⟨(lastOf l).toNat, by have := lastOf_bd l; omega⟩
  have hmb : m ≤ 1000 := by have := lastOf_bd l; omega
  have HM : Hid (runs S m = cutOf l l') := Lib.hid ((runs_last l S (fun k h => by rw [HS.out] at h; exact (Bool.and_eq_true_iff.1 h).1) m hm).trans HJ.out)
  rw [← hm]
  clear hm b1 h0
  go_wp2
  go_loopw [5, 7] (fun v i wr => ∃ (k : Nat) (A1 : Option Addr) (n1 c1 : Nat), k ≤ m ∧ i = .int .i64 k ∧ v = .slice A1 n1 c1 ∧ Own wr w.heap.size 34 2 A1 n1 c1 (sv (runs S k)) ∧ Below w.heap.size w wr) (fun _ i _ => m - (intOf i).toNat)
  case atStart => exact ⟨0, _, _, _, Nat.zero_le _, rfl, rfl, h1.out.1, h1.out.2⟩
  case round =>
    clear h1
    obtain ⟨k, A1, n1, c1, hk, rfl, rfl, ho, hb⟩ := hrel
    by_cases hlt : k < m
    · have hn1 : n1 ≤ 1000 := by have h2 := ho.len; rw [sv_len] at h2; have := runs_len S k; omega
      have HO := Lib.hid ho; have HB := Lib.hid hb
      clear ho hb
      obtain ⟨v, hv⟩ : ∃ v, inL l k = v := ⟨_, rfl⟩
      have HV := Lib.hid hv; clear hv
      obtain ⟨u, hu⟩ : ∃ u, inL l' k = u := ⟨_, rfl⟩
      have HU := Lib.hid hu; clear hu
      have hSk : Hid (S k = (v && !u)) := Lib.hid (by rw [HS.out]; unfold tk; rw [HV.out, HU.out])
      have hr0 : Hid ((v && !u) = false → runs S (k + 1) = runs S k) := Lib.hid (fun e => by show (if S k then _ else _) = _; rw [hSk.out, e]; rfl)
      have hr1 : Hid ((v && !u) = true → runs S (k + 1) = put (runs S k) k) := Lib.hid (fun e => by show (if S k then _ else _) = _; rw [hSk.out, e]; rfl)
      go_wp2_with fail
      refine (sinspans _ _ A n c l (H.out.below HB.out hD) (Nat.le_trans hD HB.out.size) k v HV.out).mono ?_
      rintro e w2 ⟨rfl, b2⟩
      have HO2 := Lib.hid (HO.out.on b2)
      have HB2 := Lib.hid (HB.out.trans (b2.mono HB.out.size))
      clear b2 HO HB
      cases v
      · have HF : Hid (Own w2 w.heap.size 34 2 A1 n1 c1 (sv (runs S (k + 1)))) := Lib.hid (by rw [hr0.out rfl]; exact HO2.out)
        clear hr0 hr1 hSk HO2
        go_wp2
        go_roundw
        case rel => exact ⟨k + 1, A1, n1, c1, by omega, by go_num, rfl, HF.out, HB2.out⟩
        case measure => simp [intOf]; omega
      · go_wp2_with fail
        refine (sinspans _ _ A' n' c' l' (H'.out.below HB2.out hD') (Nat.le_trans hD' HB2.out.size) k u HU.out).mono ?_
        rintro e w3 ⟨rfl, b3⟩
        have HO3 := Lib.hid (HO2.out.on b3)
        have HB3 := Lib.hid (HB2.out.trans (b3.mono HB2.out.size))
        clear b3 HO2 HB2
        cases u
        all_goals
          first
            | (have hr : Hid (runs S (k + 1) = runs S k) := Lib.hid (hr0.out rfl)
               have HF : Hid (Own w3 w.heap.size 34 2 A1 n1 c1 (sv (runs S (k + 1)))) := Lib.hid (by rw [hr.out]; exact HO3.out)
               clear hr0 hr1 hSk HO3 hr
               go_wp2
               go_roundw
               case rel => exact ⟨k + 1, A1, n1, c1, by omega, by go_num, rfl, HF.out, HB3.out⟩
               case measure => simp [intOf]; omega)
            | (have hr : Hid (runs S (k + 1) = put (runs S k) k) := Lib.hid (hr1.out rfl)
               go_wp2_with fail
               refine (sput w3 w w.heap.size A1 n1 c1 _ HO3.out HB3.out.size HB3.out (by omega) k (by omega) (by omega)).mono ?_
               rintro e w4 ⟨A4, n4, c4, rfl, o4, b4⟩
               have HF : Hid (Own w4 w.heap.size 34 2 A4 n4 c4 (sv (runs S (k + 1)))) := Lib.hid (by rw [hr.out]; exact o4)
               have HB4 := Lib.hid b4
               clear hr0 hr1 hSk hr HO3 HB3 o4 b4
               go_wp2
               go_roundw
               case rel => exact ⟨k + 1, A4, n4, c4, by omega, by go_num, rfl, HF.out, HB4.out⟩
               case measure => simp [intOf]; omega)
    · obtain rfl : k = m := by omega
      rw [HM.out] at ho
      have HF : Hid (GivesS w (cutOf l l') (.returned (.slice A1 n1 c1)) wr) := Lib.hid ⟨_, _, _, rfl, ho, hb⟩
      clear ho hb HM
      go_wp2
      go_ret
      exact HF.out
end Go.Proofs.Ytnonlmgjbmllnaa
