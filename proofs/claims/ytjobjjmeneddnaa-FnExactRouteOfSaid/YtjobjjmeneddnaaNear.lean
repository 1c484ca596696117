/- The program's NeighborsIn. -/
import Derived.Test.YtjobjjmeneddnaaAsc
import Derived.Test.YtjobjjmeneddnaaOwnCut
import Derived.Test.YtjobjjmeneddnaaGraphFacts
import Derived.Deep.Cut
import Derived.Deep.DeepCutAuto
import Derived.Deep.CutRange
namespace Go.Proofs.Ytjobjjmeneddnaa
open Go.ChangeShapes Go.WideShapes Go.ChangeAt Go.RowKit
set_option linter.unusedVariables false
theorem intN_info : (Try.prog.info? 3).map (fun i => (i.zero, i.size, i.bytes)) = some (some (.int .i64 0), 1, 8) := by kernel_rfl
theorem Own.madeN (w : World) (B : Nat) (E : TypeId) (hB : B ≤ w.heap.size) : Own (w.alloc (.cells #[] E)) B E 1 (some ⟨w.heap.size, 0, none⟩) 0 0 [] := ⟨World.ownsRow_made w #[] 0 hB (by unfold maxLen; omega) rfl⟩
/-- what a function that answers a cut list of integers answers -/
def GivesN (w : World) (l : List Int) (e : Ending) (w' : World) : Prop := ∃ A' n' c', e = .returned (.slice A' n' c') ∧ OwnC w' w.heap.size 3 1 A' n' c' (iv l) ∧ Below w.heap.size w w'
theorem near_asc (l : List (Int × Int)) (v : Int) : ascOf (l.filterMap (farE v)) = nbL l v := by
  refine asc_eq (asc_lt _) (nb_asc l v) fun x => ?_
  rw [mem_asc, mem_nb, List.mem_filterMap]
theorem near_snoc (l : List (Int × Int)) (k : Nat) (hk : k < l.length) (v : Int) : (l.take (k + 1)).filterMap (farE v) = (l.take k).filterMap (farE v) ++ (match farE v l[k] with | some n => [n] | none => []) := by
  rw [List.take_succ_eq_append_getElem hk, List.filterMap_append]
  cases h : farE v l[k] <;> simp [h]
set_option maxRecDepth 100000 in
set_option maxHeartbeats 2000000 in
theorem inb (w : World) (D : Nat) (A : Option Addr) (n c : Nat) (l : List (Int × Int)) (h : Sl w D 2 A n c (sv l)) (hD : D ≤ w.heap.size) (hn : n ≤ 16777216) (v : Int) :
    Calls Try.prog 80 #[.slice A n c, .int .i64 v] w (GivesN w (nbL l v)) := by
  obtain ⟨i0, hi0, hy0, hy1, hy2⟩ := info_parts intN_info
  have hna : n = l.length := by have h1 := h.len; rw [sv_len] at h1; omega
  subst hna
  have HS := Lib.hid h
  have hcap := h.cap; have hcapm := h.capm
  clear h
  have hfirst : Hid (Own (w.alloc (.cells #[] 3)) w.heap.size 3 1 (some ⟨w.heap.size, 0, none⟩) 0 0 (iv ((l.take 0).filterMap (farE v))) ∧ Below w.heap.size w (w.alloc (.cells #[] 3))) := Lib.hid ⟨Own.madeN w w.heap.size _ (Nat.le_refl _), (Below.refl _ _).alloc (Nat.le_refl _) _⟩
  go_enter Try.func80, Try.ntmps80
  go_wp2_with fail
  go_loopw [5, 11] (fun o i wr => ∃ (k : Nat) (A1 : Option Addr) (n1 c1 : Nat), k ≤ l.length ∧ i = .int .i64 k ∧ o = .slice A1 n1 c1 ∧ Own wr w.heap.size 3 1 A1 n1 c1 (iv ((l.take k).filterMap (farE v))) ∧ Below w.heap.size w wr) (fun _ i _ => l.length - (intOf i).toNat)
  case atStart => exact ⟨0, _, _, _, Nat.zero_le _, rfl, rfl, hfirst.out⟩
  case round =>
    clear hfirst
    obtain ⟨k, A1, n1, c1, hk, rfl, rfl, ho, hb⟩ := hrel
    have HO := Lib.hid ho; have HB := Lib.hid hb
    clear ho hb
    have hn1 : n1 ≤ 16777216 := by
      have h2 := HO.out.len; rw [iv_len] at h2
      have h3 := List.length_filterMap_le (farE v) (l.take k)
      rw [List.length_take] at h3; omega
    by_cases hlt : k < l.length
    case neg =>
      obtain rfl : k = l.length := by omega
      rw [List.take_length] at HO
      clear hi0 hy0 hy1 hy2
      go_wp2_with fail
      refine (iasc wr w.heap.size A1 n1 c1 _ HO.out (by omega)).mono ?_
      rintro e w1 ⟨rfl, o1, g1⟩
      rw [near_asc] at o1 ⊢
      have HR : Hid (GivesN w (nbL l v) (.returned (.slice A1 (nbL l v).length (nbL l v).length)) w1) := Lib.hid ⟨_, _, _, rfl, o1.cut (Nat.le_refl _) (by
        have h1 := o1.capm; exact h1.1), HB.out.grown g1 HB.out.size (fun j hj => (HO.out.row.lt j hj).1)⟩
      clear o1 g1 HO HB
      obtain ⟨m, hm⟩ : ∃ m, m = (nbL l v).length := ⟨_, rfl⟩
      rw [← hm] at HR ⊢
      clear hm
      go_wp2_with fail
      go_ret
      exact HR.out
    case pos =>
      obtain ⟨ad, hx, rfl, had, p0, p1⟩ := (HS.out.below HB.out hD).two hlt
      have HST := Lib.hid (near_snoc l k hlt v)
      obtain ⟨x, hxx⟩ : ∃ x, x = l[k] := ⟨_, rfl⟩
      rw [← hxx] at p0 p1 HST
      clear hxx
      obtain ⟨x1, x2⟩ := x
      simp only at p0 p1
      have hk0 : (0 : Int) ≤ (k : Int) := by omega
      have hkl : (k : Int) < (l.length : Int) := by omega
      by_cases h1 : v = x1
      case pos =>
        subst h1
        have HAPP : Hid (iv ((l.take (k + 1)).filterMap (farE v)) = iv ((l.take k).filterMap (farE v)) ++ [.int .i64 x2]) := Lib.hid (by
          rw [HST.out]; unfold farE; rw [if_pos rfl, iv_app]; rfl)
        have b5 : Below wr.heap.size wr ((wr.alloc (.cells #[.int .i64 v, .int .i64 x2] 80)).alloc (.cells #[.int .i64 x2] 3)) := ((Below.refl _ _).alloc (Nat.le_refl _) _).alloc (by simp) _
        have HO5 := Lib.hid (HO.out.on b5); have HB5 := Lib.hid (HB.out.trans (b5.mono HB.out.size))
        have hsz : w.heap.size ≤ ((wr.alloc (.cells #[.int .i64 v, .int .i64 x2] 80)).alloc (.cells #[.int .i64 x2] 3)).heap.size := HB5.out.size
        have SL : Hid (Sl ((wr.alloc (.cells #[.int .i64 v, .int .i64 x2] 80)).alloc (.cells #[.int .i64 x2] 3)) (wr.heap.size + 1 + 1) 1 (some ⟨wr.heap.size + 1, 0, none⟩) 1 1 [.int .i64 x2]) := Lib.hid (by
          have h := Sl.one (wr.alloc (.cells #[.int .i64 v, .int .i64 x2] 80)) (.int .i64 x2) 3
          rw [World.size_alloc] at h; exact h)
        have hb8 : (n1 + 1) * 8 ≤ 140737488355328 := by omega
        clear b5 HO HB HST
        go_wp2_with (at_builtin; go_loud (refine wpList_append_sl _ rfl (.tmp 20) (.tmp 23) 27 rfl w.heap.size 3 i0 _ 1 8 Try.underlying27 hi0 hy0 hy1 hy2 rfl (by omega) A1 n1 c1 (iv ((l.take k).filterMap (farE v))) rfl HO5.out (wr.heap.size + 1 + 1) _ 1 1 [.int .i64 x2] rfl SL.out (by simp [Value.oneCell']) (by omega) hb8 hsz ?_; intro A5 c5 w5 hown5 hg5 hat5; have HF : Hid (Own w5 w.heap.size 3 1 A5 (n1 + 1) c5 (iv ((l.take (k + 1)).filterMap (farE v))) ∧ Below w.heap.size w w5) := Lib.hid ⟨by rw [HAPP.out]; exact hown5, HB5.out.grown hg5 HB5.out.size (fun j hj => (HO5.out.row.lt j hj).1)⟩; clear hown5 hg5 hat5))
        go_roundw
        case rel => exact ⟨k + 1, A5, n1 + 1, c5, by omega, by go_num, rfl, HF.out⟩
        case measure => simp [intOf]; omega
      case neg =>
        have hb1 : (v == x1) = false := by simpa using h1
        by_cases h2 : v = x2
        case pos =>
          subst h2
          have HAPP : Hid (iv ((l.take (k + 1)).filterMap (farE v)) = iv ((l.take k).filterMap (farE v)) ++ [.int .i64 x1]) := Lib.hid (by
            rw [HST.out]; unfold farE; rw [if_neg (fun e => h1 e.symm), if_pos rfl, iv_app]; rfl)
          clear h1
          have b5 : Below wr.heap.size wr ((wr.alloc (.cells #[.int .i64 x1, .int .i64 v] 80)).alloc (.cells #[.int .i64 x1] 3)) := ((Below.refl _ _).alloc (Nat.le_refl _) _).alloc (by simp) _
          have HO5 := Lib.hid (HO.out.on b5); have HB5 := Lib.hid (HB.out.trans (b5.mono HB.out.size))
          have hsz : w.heap.size ≤ ((wr.alloc (.cells #[.int .i64 x1, .int .i64 v] 80)).alloc (.cells #[.int .i64 x1] 3)).heap.size := HB5.out.size
          have SL : Hid (Sl ((wr.alloc (.cells #[.int .i64 x1, .int .i64 v] 80)).alloc (.cells #[.int .i64 x1] 3)) (wr.heap.size + 1 + 1) 1 (some ⟨wr.heap.size + 1, 0, none⟩) 1 1 [.int .i64 x1]) := Lib.hid (by
            have h := Sl.one (wr.alloc (.cells #[.int .i64 x1, .int .i64 v] 80)) (.int .i64 x1) 3
            rw [World.size_alloc] at h; exact h)
          have hb8 : (n1 + 1) * 8 ≤ 140737488355328 := by omega
          clear b5 HO HB HST
          go_wp2_with (at_builtin; go_loud (refine wpList_append_sl _ rfl (.tmp 29) (.tmp 32) 27 rfl w.heap.size 3 i0 _ 1 8 Try.underlying27 hi0 hy0 hy1 hy2 rfl (by omega) A1 n1 c1 (iv ((l.take k).filterMap (farE v))) rfl HO5.out (wr.heap.size + 1 + 1) _ 1 1 [.int .i64 x1] rfl SL.out (by simp [Value.oneCell']) (by omega) hb8 hsz ?_; intro A5 c5 w5 hown5 hg5 hat5; have HF : Hid (Own w5 w.heap.size 3 1 A5 (n1 + 1) c5 (iv ((l.take (k + 1)).filterMap (farE v))) ∧ Below w.heap.size w w5) := Lib.hid ⟨by rw [HAPP.out]; exact hown5, HB5.out.grown hg5 HB5.out.size (fun j hj => (HO5.out.row.lt j hj).1)⟩; clear hown5 hg5 hat5))
          go_roundw
          case rel => exact ⟨k + 1, A5, n1 + 1, c5, by omega, by go_num, rfl, HF.out⟩
          case measure => simp [intOf]; omega
        case neg =>
          have hb2 : (v == x2) = false := by simpa using h2
          have HR : Hid (Own (wr.alloc (.cells #[.int .i64 x1, .int .i64 x2] 80)) w.heap.size 3 1 A1 n1 c1 (iv ((l.take (k + 1)).filterMap (farE v))) ∧ Below w.heap.size w (wr.alloc (.cells #[.int .i64 x1, .int .i64 x2] 80))) := Lib.hid (by
            rw [HST.out, show farE v (x1, x2) = none by unfold farE; rw [if_neg (fun e => h1 e.symm), if_neg (fun e => h2 e.symm)]]
            have b4 : Below wr.heap.size wr (wr.alloc (.cells #[.int .i64 x1, .int .i64 x2] 80)) := (Below.refl _ _).alloc (Nat.le_refl _) _
            refine ⟨?_, HB.out.trans (b4.mono HB.out.size)⟩
            rw [List.append_nil]; exact HO.out.on b4)
          clear h1 h2 HO HB HST
          go_wp2_with fail
          go_roundw
          case rel => exact ⟨k + 1, A1, n1, c1, by omega, by go_num, rfl, HR.out⟩
          case measure => simp [intOf]; omega
end Go.Proofs.Ytjobjjmeneddnaa
