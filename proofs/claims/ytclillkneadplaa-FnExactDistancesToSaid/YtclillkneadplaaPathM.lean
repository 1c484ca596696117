/- The model's CountReaching, HasLoop, PathTo. -/
import Derived.Test.YtclillkneadplaaDistM
import Derived.Test.YtclillkneadplaaRouteFacts
namespace Go.Proofs.Ytclillkneadplaa
open Go.ChangeShapes Go.WideShapes Go.ChangeAt Go.RowKit
set_option linter.unusedVariables false
theorem cnt_take (l : List Int) (k : Nat) (hk : k < l.length) : cntL (l.take (k + 1)) = cntL (l.take k) + if 0 ≤ l[k] then 1 else 0 := by
  unfold cntL
  rw [List.take_succ_eq_append_getElem hk, List.countP_append]
  by_cases h : 0 ≤ l[k] <;> simp [h]
theorem scount (w : World) (D : Nat) (A : Option Addr) (n c : Nat) (l : List Int) (h : Sl w D 1 A n c (iv l)) (hn : n ≤ 16777216) :
    Calls Try.prog 29 #[.slice A n c] w fun e w' => e = .returned (.int .i64 (cntL l : Nat)) ∧ w = w' := by
  have hl : l.length = n := by have := h.len; rw [iv_len] at this; omega
  subst hl
  have HS := Lib.hid h
  have hcap := h.cap; have hcapm := h.capm
  clear h
  go_enter Try.func29, Try.ntmps29
  go_wp2_with fail
  go_loop [3, 4] (fun m i => ∃ (k c0 : Nat), k ≤ l.length ∧ i = .int .i64 k ∧ m = .int .i64 c0 ∧ Hid (c0 = cntL (l.take k)) ∧ c0 ≤ k) (fun _ i => l.length - (intOf i).toNat)
  case atStart => exact ⟨0, 0, Nat.zero_le _, rfl, rfl, Lib.hid rfl, Nat.le_refl _⟩
  case round =>
    obtain ⟨k, c0, hk, rfl, rfl, hc, hck⟩ := hrel
    by_cases hlt : k < l.length
    · obtain ⟨ad, hx, rfl, had, q0⟩ := HS.out.int hlt
      have HT := Lib.hid (cnt_take l k hlt)
      obtain ⟨z, hz⟩ : ∃ z, z = l[k] := ⟨_, rfl⟩
      rw [← hz] at q0 HT
      clear hz
      have hk0 : (0 : Int) ≤ (k : Int) := by omega
      have hkl : (k : Int) < (l.length : Int) := by omega
      by_cases h0 : 0 ≤ z
      · have HN : Hid (c0 + 1 = cntL (l.take (k + 1))) := Lib.hid (by rw [HT.out, if_pos h0, ← hc.out])
        go_wp2_with fail
        go_round
        case rel => exact ⟨k + 1, c0 + 1, by omega, by go_num, by go_num, HN, by omega⟩
        case measure => simp [intOf]; omega
      · have HN : Hid (c0 = cntL (l.take (k + 1))) := Lib.hid (by rw [HT.out, if_neg h0, ← hc.out]; rfl)
        have h1 : decide (0 ≤ z) = false := decide_eq_false h0
        clear h0
        go_wp2_with fail
        go_round
        case rel => exact ⟨k + 1, c0, by omega, by go_num, rfl, HN, by omega⟩
        case measure => simp [intOf]; omega
    · obtain rfl : k = l.length := by omega
      rw [List.take_length] at hc
      go_wp2_with fail
      go_ret
      exact ⟨congrArg (fun z : Nat => Ending.returned (.int .i64 (z : Int))) hc.out, rfl⟩
theorem pathL_step {next : List Int} {dst a : Int} {m : Nat} (h : 0 ≤ a ∧ a < next.length) : pathGo next dst (m + 1) a = if a = dst then some [a] else (pathGo next dst m (atD next a)).map (a :: ·) := by
  conv => lhs; unfold pathGo
  rw [if_pos h]
set_option maxRecDepth 100000 in
set_option maxHeartbeats 1000000 in
theorem spath (w : World) (D : Nat) (A : Option Addr) (n c : Nat) (l : List Int) (h : Sl w D 1 A n c (iv l)) (hD : D ≤ w.heap.size) (hn : n ≤ 16777216) (a dst : Int) :
    Calls Try.prog 26 #[.slice A n c, .int .i64 a, .int .i64 dst] w (GivesIM w (pathL l a dst)) := by
  obtain ⟨i0, hi0, hy0, hy1, hy2⟩ := info_parts intK_info
  have hl : l.length = n := by have := h.len; rw [iv_len] at this; omega
  subst hl
  have HS := Lib.hid h
  have hcap := h.cap; have hcapm := h.capm
  clear h
  obtain ⟨R, hR⟩ : ∃ R, R = pathGo l dst (l.length + 1) a := ⟨_, rfl⟩
  have HPL : Hid (pathL l a dst = R.getD []) := Lib.hid (by unfold pathL; rw [hR])
  obtain ⟨W1, hW1⟩ : ∃ W, W = w.alloc (.cells #[] 3) := ⟨_, rfl⟩
  obtain ⟨g0, hg0⟩ : ∃ g, g = w.heap.size := ⟨_, rfl⟩
  have hfirst : Hid (Own W1 w.heap.size 3 1 (some ⟨g0, 0, none⟩) 0 0 (iv []) ∧ Below w.heap.size w W1 ∧ R = (pathGo l dst (l.length + 1 - 0) a).map ([] ++ ·)) := Lib.hid (by
    rw [hW1, hg0]
    refine ⟨Own.made1 w w.heap.size _ (Nat.le_refl _), (Below.refl _ _).alloc (Nat.le_refl _) _, ?_⟩
    rw [hR]; simp)
  clear hR
  go_enter Try.func26, Try.ntmps26
  go_wp2_with fail
  rw [← hW1, ← hg0]
  clear hW1 hg0
  go_loopw [7, 8] (fun o av wr => ∃ (p : List Int) (x : Int) (A1 : Option Addr) (c1 : Nat), p.length ≤ l.length + 1 ∧ av = .int .i64 x ∧ o = .slice A1 p.length c1 ∧ Own wr w.heap.size 3 1 A1 p.length c1 (iv p) ∧ Below w.heap.size w wr ∧ R = (pathGo l dst (l.length + 1 - p.length) x).map (p ++ ·)) (fun o _ _ => l.length + 1 - (match o with | .slice _ m _ => m | _ => 0))
  case atStart => exact ⟨[], a, _, _, Nat.zero_le _, rfl, rfl, hfirst.out⟩
  case round =>
    clear hfirst
    obtain ⟨p, x, A1, c1, hp, rfl, rfl, ho, hb, hr⟩ := hrel
    have HO := Lib.hid ho; have HB := Lib.hid hb; have HR := Lib.hid hr
    clear ho hb hr
    by_cases h1 : p.length ≤ l.length
    case neg =>
      have hp1 : p.length = l.length + 1 := by omega
      have HRN : R = none := by rw [HR.out, hp1, Nat.sub_self]; rfl
      have hgt : (l.length : Int) < (p.length : Int) := by omega
      have hpd : decide (p.length ≤ l.length) = false := by simp; omega
      have HF : Hid (GivesIM w (pathL l a dst) (.returned (.slice (some ⟨wr.heap.size, 0, none⟩) 0 0)) (wr.alloc (.cells #[] 3))) := Lib.hid ⟨_, _, _, rfl, by
        rw [HPL.out, HRN]
        exact (Own.made1 wr wr.heap.size _ (Nat.le_refl _)).fewer HB.out.size, HB.out.trans (((Below.refl _ _).alloc (Nat.le_refl _) _).mono HB.out.size)⟩
      clear HRN HO HB hi0 hy0 hy1 hy2 hp1 h1
      go_wp2_with fail
      go_ret
      exact HF.out
    case pos =>
      have hpi : (p.length : Int) ≤ (l.length : Int) := by omega
      have hfu : l.length + 1 - p.length = (l.length - p.length) + 1 := by omega
      by_cases h2 : 0 ≤ x ∧ x ≤ (l.length : Int) - 1
      case neg =>
        have HRN : R = none := by
          rw [HR.out, hfu]; unfold pathGo; rw [if_neg (by omega)]; rfl
        have HF : Hid (GivesIM w (pathL l a dst) (.returned (.slice (some ⟨wr.heap.size, 0, none⟩) 0 0)) (wr.alloc (.cells #[] 3))) := Lib.hid ⟨_, _, _, rfl, by
          rw [HPL.out, HRN]
          exact (Own.made1 wr wr.heap.size _ (Nat.le_refl _)).fewer HB.out.size, HB.out.trans (((Below.refl _ _).alloc (Nat.le_refl _) _).mono HB.out.size)⟩
        have H2 := Lib.hid h2
        clear HRN HO HB hi0 hy0 hy1 hy2 hfu h1 h2
        go_wp2_with fail
        refine (sinr_f x 0 ((l.length : Int) - 1) _ H2.out).mono ?_
        rintro e w2 ⟨rfl, rfl⟩
        go_wp2_with fail
        go_ret
        exact HF.out
      case pos =>
        obtain ⟨xi, rfl⟩ : ∃ xi : Nat, (xi : Int) = x := ⟨x.toNat, by omega⟩
        obtain ⟨hx0, hx1⟩ := h2
        have hxl : xi < l.length := by omega
        have HST : Hid (R = (if (xi : Int) = dst then some [(xi : Int)] else (pathGo l dst (l.length - p.length) l[xi]).map ((xi : Int) :: ·)).map (p ++ ·)) := Lib.hid (by
          rw [HR.out, hfu, pathL_step ⟨by omega, by omega⟩, atD_nat l xi hxl])
        have HAPP : Hid (iv (p ++ [(xi : Int)]) = iv p ++ [.int .i64 (xi : Int)]) := Lib.hid (iv_snoc _ _)
        have b5 : Below wr.heap.size wr (wr.alloc (.cells #[.int .i64 (xi : Int)] 3)) := (Below.refl _ _).alloc (Nat.le_refl _) _
        have HO5 := Lib.hid (HO.out.on b5); have HB5 := Lib.hid (HB.out.trans (b5.mono HB.out.size))
        have hsz : w.heap.size ≤ (wr.alloc (.cells #[.int .i64 (xi : Int)] 3)).heap.size := HB5.out.size
        have hb8 : (p.length + 1) * 8 ≤ 140737488355328 := by omega
        clear b5 HO HB hfu
        go_wp2_with fail
        refine (sinr_t (xi : Int) 0 ((l.length : Int) - 1) _ hx0 hx1).mono ?_
        rintro e w2 ⟨rfl, rfl⟩
        by_cases h3 : (xi : Int) = dst
        case pos =>
          subst h3
          have HRS : R = some (p ++ [(xi : Int)]) := by rw [HST.out, if_pos rfl]; rfl
          have HRS' := Lib.hid HRS
          clear HRS HST
          go_wp2_with (at_builtin; go_loud (refine wpList_append_sl _ rfl (.tmp 23) (.tmp 25) 27 rfl w.heap.size 3 i0 _ 1 8 Try.underlying27 hi0 hy0 hy1 hy2 rfl (by omega) A1 p.length c1 (iv p) rfl HO5.out (wr.heap.size + 1) _ 1 1 [.int .i64 (xi : Int)] rfl (Sl.one wr _ _) (by simp [Value.oneCell']) (by omega) hb8 hsz ?_; intro A5 c5 w5 hown5 hg5 hat5; have HF : Hid (GivesIM w (pathL l a (xi : Int)) (.returned (.slice A5 (p.length + 1) c5)) w5) := Lib.hid ⟨_, _, _, rfl, by rw [HPL.out, HRS'.out]; show Own _ _ _ _ _ _ _ (iv (p ++ [(xi : Int)])); rw [HAPP.out]; exact hown5, HB5.out.grown hg5 HB5.out.size (fun j hj => (HO5.out.row.lt j hj).1)⟩; clear hown5 hg5 hat5))
          go_ret
          exact HF.out
        case neg =>
          have hne : ((xi : Int) == dst) = false := by simpa using h3
          obtain ⟨ad, hx, rfl, had, q0⟩ := (HS.out.below HB5.out hD).int hxl
          have hq : ∀ w', Below w.heap.size w w' → w'.cell? (ad.add xi) = some (.int .i64 l[xi]) := fun w' hb => by
            obtain ⟨ad', _, e, _, q⟩ := (HS.out.below hb hD).int hxl
            injection e with e; rw [e]; exact q
          have HQ := Lib.hid hq
          have HRS : Hid (R = (pathGo l dst (l.length + 1 - (p ++ [(xi : Int)]).length) l[xi]).map ((p ++ [(xi : Int)]) ++ ·)) := Lib.hid (by
            rw [HST.out, if_neg h3, List.length_append, List.length_singleton, show l.length + 1 - (p.length + 1) = l.length - p.length by omega, Option.map_map]
            congr 1; funext q; simp)
          obtain ⟨z, hz⟩ : ∃ z, z = l[xi] := ⟨_, rfl⟩
          rw [← hz] at HRS HQ
          clear HST h3 q0 hq hz
          go_wp2_with (at_builtin; go_loud (refine wpList_append_sl _ rfl (.tmp 23) (.tmp 25) 27 rfl w.heap.size 3 i0 _ 1 8 Try.underlying27 hi0 hy0 hy1 hy2 rfl (by omega) A1 p.length c1 (iv p) rfl HO5.out (wr.heap.size + 1) _ 1 1 [.int .i64 (xi : Int)] rfl (Sl.one wr _ _) (by simp [Value.oneCell']) (by omega) hb8 hsz ?_; intro A5 c5 w5 hown5 hg5 hat5; have HF : Hid (Own w5 w.heap.size 3 1 A5 (p ++ [(xi : Int)]).length c5 (iv (p ++ [(xi : Int)])) ∧ Below w.heap.size w w5) := Lib.hid ⟨by rw [HAPP.out, List.length_append]; exact hown5, HB5.out.grown hg5 HB5.out.size (fun j hj => (HO5.out.row.lt j hj).1)⟩; have q0 := HQ.out _ HF.out.2; clear hown5 hg5 hat5))
          go_roundw
          case rel => exact ⟨p ++ [(xi : Int)], z, A5, c5, by rw [List.length_append]; simp; omega, rfl, by rw [List.length_append]; rfl, HF.out.1, HF.out.2, HRS.out⟩
          case measure => simp; omega
theorem itr_out (l : List Int) (i : Nat) (hi : i < l.length) (k : Nat) (h : ¬ (0 ≤ itr l (k + 1) i ∧ itr l (k + 1) i ≤ (l.length : Int) - 1)) : ∀ j, k ≤ j → itr l (j + 1) i ≠ i := by
  have key : ∀ m, ¬ (0 ≤ itr l (k + m + 1) i ∧ itr l (k + m + 1) i ≤ (l.length : Int) - 1) := by
    intro m
    induction m with
    | zero => exact h
    | succ m ih =>
      have e : itr l (k + (m + 1) + 1) i = -1 := by
        show atD l (itr l (k + m + 1) i) = -1
        exact atD_out _ _ (by omega)
      rw [e]; omega
  intro j hj e
  have := key (j - k)
  rw [show k + (j - k) + 1 = j + 1 by omega, e] at this
  omega
theorem loopAt_false (l : List Int) (i : Nat) (h : ∀ j, j < l.length → itr l (j + 1) i ≠ i) : loopAt l i = false := by
  unfold loopAt
  rw [List.any_eq_false]
  intro j hj e
  exact h j (List.mem_range.1 hj) (of_decide_eq_true e)
theorem loopAt_true (l : List Int) (i k : Nat) (hk : k < l.length) (h : itr l (k + 1) i = i) : loopAt l i = true := by
  unfold loopAt
  rw [List.any_eq_true]
  exact ⟨k, List.mem_range.2 hk, decide_eq_true h⟩
theorem loopB_true (l : List Int) (i : Nat) (hi : i < l.length) (h : loopAt l i = true) : loopB l = true := by
  unfold loopB
  rw [List.any_eq_true]
  exact ⟨i, List.mem_range.2 hi, h⟩
theorem loopB_false (l : List Int) (h : ∀ i, i < l.length → loopAt l i = false) : loopB l = false := by
  unfold loopB
  rw [List.any_eq_false]
  intro i hi e
  rw [h i (List.mem_range.1 hi)] at e; cases e
set_option maxRecDepth 100000 in
set_option maxHeartbeats 1000000 in
theorem sloop (w : World) (D : Nat) (A : Option Addr) (n c : Nat) (l : List Int) (h : Sl w D 1 A n c (iv l)) (hn : n ≤ 16777216) (b : Bool) (hb : loopB l = b) :
    Calls Try.prog 28 #[.slice A n c] w fun e w' => e = .returned (.bool b) ∧ w = w' := by
  have hl : l.length = n := by have := h.len; rw [iv_len] at this; omega
  subst hl
  have HS := Lib.hid h; have HB := Lib.hid hb
  have hcap := h.cap; have hcapm := h.capm
  clear h hb
  go_enter Try.func28, Try.ntmps28
  go_wp2_with fail
  go_loop [3, 4, 5] (fun iv_ _ _ => ∃ (i : Nat), i ≤ l.length ∧ iv_ = .int .i64 i ∧ Hid (∀ j, j < i → loopAt l j = false)) (fun iv_ _ _ => l.length - (intOf iv_).toNat)
  case atStart => exact ⟨0, Nat.zero_le _, rfl, Lib.hid fun j hj => by omega⟩
  case round =>
    obtain ⟨i, hi, rfl, hno⟩ := hrel
    have hi00 : (0 : Int) ≤ (i : Int) := by omega
    by_cases hlt : i < l.length
    case neg =>
      obtain rfl : i = l.length := by omega
      obtain rfl : b = false := by rw [← HB.out]; exact loopB_false l hno.out
      go_wp2_with fail
      go_ret
      exact ⟨rfl, rfl⟩
    case pos =>
      have hil : (i : Int) < (l.length : Int) := by omega
      obtain ⟨ad, hx, rfl, had, q0⟩ := HS.out.int hlt
      have HI1 : Hid (l[i] = itr l 1 i) := Lib.hid (atD_nat l i hlt).symm
      obtain ⟨z, hz⟩ : ∃ z, z = l[i] := ⟨_, rfl⟩
      rw [← hz] at q0 HI1
      clear hz
      go_wp2_with fail
      go_loop [4, 5] (fun av kv => ∃ (k : Nat) (x : Int), k ≤ l.length ∧ kv = .int .i64 k ∧ av = .int .i64 x ∧ Hid (x = itr l (k + 1) i) ∧ Hid (∀ j, j < k → itr l (j + 1) i ≠ i)) (fun _ kv => l.length - (intOf kv).toNat)
      case atStart => exact ⟨0, z, Nat.zero_le _, rfl, rfl, HI1, Lib.hid fun j hj => by omega⟩
      case round =>
        clear HI1 q0
        obtain ⟨k, x, hk, rfl, rfl, hxe, hne⟩ := hrel
        have hk0 : (0 : Int) ≤ (k : Int) := by omega
        by_cases hkl : k < l.length
        case neg =>
          obtain rfl : k = l.length := by omega
          have HN : Hid (∀ j, j < i + 1 → loopAt l j = false) := Lib.hid fun j hj => by
            by_cases e : j = i
            · subst e; exact loopAt_false l j hne.out
            · exact hno.out j (by omega)
          go_wp2_with fail
          go_round
          case rel => exact ⟨i + 1, by omega, by go_num, HN⟩
          case measure => simp [intOf]; omega
        case pos =>
          have hkl' : (k : Int) < (l.length : Int) := by omega
          by_cases h2 : 0 ≤ x ∧ x ≤ (l.length : Int) - 1
          case neg =>
            have HN : Hid (∀ j, j < i + 1 → loopAt l j = false) := Lib.hid fun j hj => by
              by_cases e : j = i
              · subst e
                refine loopAt_false l j fun m hm => ?_
                by_cases hmk : m < k
                · exact hne.out m hmk
                · rw [hxe.out] at h2
                  exact itr_out l j hlt k h2 m (by omega)
              · exact hno.out j (by omega)
            have H2 := Lib.hid h2
            clear h2
            go_wp2_with fail
            refine (sinr_f x 0 ((l.length : Int) - 1) _ H2.out).mono ?_
            rintro e w2 ⟨rfl, rfl⟩
            go_wp2_with fail
            go_round
            case rel => exact ⟨i + 1, by omega, by go_num, HN⟩
            case measure => simp [intOf]; omega
          case pos =>
            obtain ⟨xi, rfl⟩ : ∃ xi : Nat, (xi : Int) = x := ⟨x.toNat, by omega⟩
            obtain ⟨hx0, hx1⟩ := h2
            have hxl : xi < l.length := by omega
            by_cases h3 : xi = i
            case pos =>
              subst h3
              obtain rfl : b = true := by rw [← HB.out]; exact loopB_true l xi hlt (loopAt_true l xi k hkl hxe.out.symm)
              go_wp2_with fail
              refine (sinr_t (xi : Int) 0 ((l.length : Int) - 1) _ hx0 hx1).mono ?_
              rintro e w2 ⟨rfl, rfl⟩
              go_wp2_with fail
              go_ret
              exact ⟨rfl, rfl⟩
            case neg =>
              have hneb : ((xi : Int) == (i : Int)) = false := by simp; omega
              obtain ⟨ad', hx', ena, had', q0⟩ := HS.out.int hxl
              injection ena with ena
              subst ena
              have HX2 : Hid (l[xi] = itr l (k + 1 + 1) i) := Lib.hid (by
                show l[xi] = atD l (itr l (k + 1) i)
                rw [← hxe.out, atD_nat l xi hxl])
              have HN2 : Hid (∀ j, j < k + 1 → itr l (j + 1) i ≠ i) := Lib.hid fun j hj => by
                by_cases e : j = k
                · subst e; rw [← hxe.out]; omega
                · exact hne.out j (by omega)
              obtain ⟨z, hz⟩ : ∃ z, z = l[xi] := ⟨_, rfl⟩
              rw [← hz] at q0 HX2
              clear hz h3 had'
              go_wp2_with fail
              refine (sinr_t (xi : Int) 0 ((l.length : Int) - 1) _ hx0 hx1).mono ?_
              rintro e w2 ⟨rfl, rfl⟩
              go_wp2_with fail
              go_round
              case rel => exact ⟨k + 1, z, by omega, by go_num, rfl, HX2, HN2⟩
              case measure => simp [intOf]; omega
end Go.Proofs.Ytclillkneadplaa
