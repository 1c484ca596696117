/- The contracts of the model's JoinSpans, MeetSpans, CutSpans, TicksOf and ShortenSpans. -/
import Derived.Test.YtnonlmgjbmllnaaSpanPut
import Derived.IntWalk
namespace Go.Proofs.Ytnonlmgjbmllnaa
open Go.ChangeShapes Go.WideShapes Go.ChangeAt Go.RowKit
set_option linter.unusedVariables false
/-- what a function that answers a list of spans answers -/
def GivesS (w : World) (l : List (Int × Int)) (e : Ending) (w' : World) : Prop := ∃ A' n' c', e = .returned (.slice A' n' c') ∧ Own w' w.heap.size 34 2 A' n' c' (sv l) ∧ Below w.heap.size w w'
theorem Own.made0 (w : World) (B : Nat) (E : TypeId) (hB : B ≤ w.heap.size) : Own (w.alloc (.cells #[] E)) B E 2 (some ⟨w.heap.size, 0, none⟩) 0 0 [] := ⟨World.ownsRow_made w #[] 0 hB (by unfold maxLen; omega) rfl⟩
set_option maxRecDepth 100000 in
theorem sjoin (w : World) (D : Nat) (A : Option Addr) (n c : Nat) (l : List (Int × Int)) (h : Sl w D 2 A n c (sv l)) (hD : D ≤ w.heap.size) :
    Calls Try.prog 15 #[.slice A n c] w (GivesS w (joinOf l)) := by
  have H := Lib.hid h; clear h
  have h0 : Hid (Own (w.alloc (.cells #[] 34)) w.heap.size 34 2 (some ⟨w.heap.size, 0, none⟩) 0 0 (sv []) ∧ Below w.heap.size w (w.alloc (.cells #[] 34))) :=
    Lib.hid ⟨Own.made0 w w.heap.size _ (Nat.le_refl _), (Below.refl _ _).alloc (Nat.le_refl _) _⟩
  go_enter Try.func15, Try.ntmps15
  go_wp2_with fail
  refine (slast _ _ A n c l (H.out.below h0.out.2 hD) (by simp; omega)).mono ?_
  rintro e w1 ⟨rfl, b1⟩
  have h1 : Hid (Own w1 w.heap.size 34 2 (some ⟨w.heap.size, 0, none⟩) 0 0 (sv (runs (tk l) 0)) ∧ Below w.heap.size w w1) :=
    Lib.hid ⟨h0.out.1.on b1, h0.out.2.trans (b1.mono (by simp))⟩
  obtain ⟨m, hm⟩ : ∃ m : Nat, (m : Int) = lastOf l := ⟨(lastOf l).toNat, by have := lastOf_bd l; omega⟩
  have hmb : m ≤ 1000 := by have := lastOf_bd l; omega
  have HM : Hid (runs (tk l) m = joinOf l) := Lib.hid (runs_last l (tk l) (fun _ h => h) m hm)
  rw [← hm]
  clear hm b1 h0
  go_wp2
  go_loopw [3, 5] (fun v i wr => ∃ (k : Nat) (A1 : Option Addr) (n1 c1 : Nat), k ≤ m ∧ i = .int .i64 k ∧ v = .slice A1 n1 c1 ∧ Own wr w.heap.size 34 2 A1 n1 c1 (sv (runs (tk l) k)) ∧ Below w.heap.size w wr) (fun _ i _ => m - (intOf i).toNat)
  case atStart => exact ⟨0, _, _, _, Nat.zero_le _, rfl, rfl, h1.out.1, h1.out.2⟩
  case round =>
    clear h1
    obtain ⟨k, A1, n1, c1, hk, rfl, rfl, ho, hb⟩ := hrel
    by_cases hlt : k < m
    · have hn1 : n1 ≤ 1000 := by have h2 := ho.len; rw [sv_len] at h2; have := runs_len (tk l) k; omega
      have HO := Lib.hid ho; have HB := Lib.hid hb
      clear ho hb
      obtain ⟨v, hv⟩ : ∃ v, inL l k = v := ⟨_, rfl⟩
      have HV := Lib.hid hv; clear hv
      go_wp2_with fail
      refine (sinspans _ _ A n c l (H.out.below HB.out hD) (Nat.le_trans hD HB.out.size) k v HV.out).mono ?_
      rintro e w2 ⟨rfl, b2⟩
      have HO2 := Lib.hid (HO.out.on b2)
      have HB2 := Lib.hid (HB.out.trans (b2.mono HB.out.size))
      clear b2 HO HB
      cases v
      · have hr : Hid (runs (tk l) (k + 1) = runs (tk l) k) := Lib.hid (by show (if tk l k then _ else _) = _; unfold tk; rw [HV.out]; rfl)
        have HF : Hid (Own w2 w.heap.size 34 2 A1 n1 c1 (sv (runs (tk l) (k + 1)))) := Lib.hid (by rw [hr.out]; exact HO2.out)
        clear hr HO2
        go_wp2
        go_roundw
        case rel => exact ⟨k + 1, A1, n1, c1, by omega, by go_num, rfl, HF.out, HB2.out⟩
        case measure => simp [intOf]; omega
      · have hr : Hid (runs (tk l) (k + 1) = put (runs (tk l) k) k) := Lib.hid (by show (if tk l k then _ else _) = _; unfold tk; rw [HV.out]; rfl)
        go_wp2_with fail
        refine (sput w2 w w.heap.size A1 n1 c1 _ HO2.out HB2.out.size HB2.out (by omega) k (by omega) (by omega)).mono ?_
        rintro e w3 ⟨A3, n3, c3, rfl, o3, b3⟩
        have HF : Hid (Own w3 w.heap.size 34 2 A3 n3 c3 (sv (runs (tk l) (k + 1)))) := Lib.hid (by rw [hr.out]; exact o3)
        have HB3 := Lib.hid b3
        clear hr HO2 HB2 o3 b3
        go_wp2
        go_roundw
        case rel => exact ⟨k + 1, A3, n3, c3, by omega, by go_num, rfl, HF.out, HB3.out⟩
        case measure => simp [intOf]; omega
    · obtain rfl : k = m := by omega
      rw [HM.out] at ho
      have HF : Hid (GivesS w (joinOf l) (.returned (.slice A1 n1 c1)) wr) := Lib.hid ⟨_, _, _, rfl, ho, hb⟩
      clear ho hb HM
      go_wp2
      go_ret
      exact HF.out
end Go.Proofs.Ytnonlmgjbmllnaa
