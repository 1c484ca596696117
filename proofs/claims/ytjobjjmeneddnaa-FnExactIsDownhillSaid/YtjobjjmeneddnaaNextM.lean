/- The model's CountReaching, HasLoop, PathTo. The model's NextTo. -/
import Derived.Test.YtjobjjmeneddnaaDistM
import Derived.Test.YtjobjjmeneddnaaRouteFacts
namespace Go.Proofs.Ytjobjjmeneddnaa
open Go.ChangeShapes Go.WideShapes Go.ChangeAt Go.RowKit
set_option linter.unusedVariables false
theorem cnt_take (l : List Int) (k : Nat) (hk : k < l.length) : cntL (l.take (k + 1)) = cntL (l.take k) + if 0 ≤ l[k] then 1 else 0 := by
  unfold cntL
  rw [List.take_succ_eq_append_getElem hk, List.countP_append]
  by_cases h : 0 ≤ l[k] <;> simp [h]
theorem pathL_step {next : List Int} {dst a : Int} {m : Nat} (h : 0 ≤ a ∧ a < next.length) : pathGo next dst (m + 1) a = if a = dst then some [a] else (pathGo next dst m (atD next a)).map (a :: ·) := by
  conv => lhs; unfold pathGo
  rw [if_pos h]
set_option maxRecDepth 100000 in
set_option maxHeartbeats 1000000 in
theorem spath (w : World) (D : Nat) (A : Option Addr) (n c : Nat) (l : List Int) (h : Sl w D 1 A n c (iv l)) (hD : D ≤ w.heap.size) (hn : n ≤ 16777216) (a dst : Int) :
    Calls Try.prog 47 #[.slice A n c, .int .i64 a, .int .i64 dst] w (GivesIM w (pathL l a dst)) := by
  obtain ⟨i0, hi0, hy0, hy1, hy2⟩ := info_parts intK_info
  have hl : l.length = n := by have := h.len; rw [iv_len] at this; omega
  subst hl
  have HS := Lib.hid h
  have hcap := h.cap; have hcapm := h.capm
  clear h
  obtain ⟨R, hR⟩ : ∃ R, R = pathGo l dst (l.length + 1) a := ⟨_, rfl⟩
  have HPL : Hid (pathL l a dst = R.getD []) := Lib.hid (by unfold pathL; rw [hR])
  obtain ⟨W1, hW1⟩ : ∃ W, W = w.alloc (.cells #[] 3) := ⟨_, rfl⟩
  obtain ⟨g0, hg0⟩ : ∃ g, g = w.heap.size := ⟨_, rfl⟩
  have hfirst : Hid (Own W1 w.heap.size 3 1 (some ⟨g0, 0, none⟩) 0 0 (iv []) ∧ Below w.heap.size w W1 ∧ R = (pathGo l dst (l.length + 1 - 0) a).map ([] ++ ·)) := Lib.hid (by
    rw [hW1, hg0]
    refine ⟨Own.made1 w w.heap.size _ (Nat.le_refl _), (Below.refl _ _).alloc (Nat.le_refl _) _, ?_⟩
    rw [hR]; simp)
  clear hR
  go_enter Try.func47, Try.ntmps47
  go_wp2_with fail
  rw [← hW1, ← hg0]
  clear hW1 hg0
  go_loopw [7, 8] (fun o av wr => ∃ (p : List Int) (x : Int) (A1 : Option Addr) (c1 : Nat), p.length ≤ l.length + 1 ∧ av = .int .i64 x ∧ o = .slice A1 p.length c1 ∧ Own wr w.heap.size 3 1 A1 p.length c1 (iv p) ∧ Below w.heap.size w wr ∧ R = (pathGo l dst (l.length + 1 - p.length) x).map (p ++ ·)) (fun o _ _ => l.length + 1 - (match o with | .slice _ m _ => m | _ => 0))
  case atStart => exact ⟨[], a, _, _, Nat.zero_le _, rfl, rfl, hfirst.out⟩
  case round =>
    clear hfirst
    obtain ⟨p, x, A1, c1, hp, rfl, rfl, ho, hb, hr⟩ := hrel
    have HO := Lib.hid ho; have HB := Lib.hid hb; have HR := Lib.hid hr
    clear ho hb hr
    by_cases h1 : p.length ≤ l.length
    case neg =>
      have hp1 : p.length = l.length + 1 := by omega
      have HRN : R = none := by rw [HR.out, hp1, Nat.sub_self]; rfl
      have hgt : (l.length : Int) < (p.length : Int) := by omega
      have hpd : decide (p.length ≤ l.length) = false := by simp; omega
      have HF : Hid (GivesIM w (pathL l a dst) (.returned (.slice (some ⟨wr.heap.size, 0, none⟩) 0 0)) (wr.alloc (.cells #[] 3))) := Lib.hid ⟨_, _, _, rfl, by
        rw [HPL.out, HRN]
        exact (Own.made1 wr wr.heap.size _ (Nat.le_refl _)).fewer HB.out.size, HB.out.trans (((Below.refl _ _).alloc (Nat.le_refl _) _).mono HB.out.size)⟩
      clear HRN HO HB hi0 hy0 hy1 hy2 hp1 h1
      go_wp2_with fail
      go_ret
      exact HF.out
    case pos =>
      have hpi : (p.length : Int) ≤ (l.length : Int) := by omega
      have hfu : l.length + 1 - p.length = (l.length - p.length) + 1 := by omega
      by_cases h2 : 0 ≤ x ∧ x ≤ (l.length : Int) - 1
      case neg =>
        have HRN : R = none := by
          rw [HR.out, hfu]; unfold pathGo; rw [if_neg (by omega)]; rfl
        have HF : Hid (GivesIM w (pathL l a dst) (.returned (.slice (some ⟨wr.heap.size, 0, none⟩) 0 0)) (wr.alloc (.cells #[] 3))) := Lib.hid ⟨_, _, _, rfl, by
          rw [HPL.out, HRN]
          exact (Own.made1 wr wr.heap.size _ (Nat.le_refl _)).fewer HB.out.size, HB.out.trans (((Below.refl _ _).alloc (Nat.le_refl _) _).mono HB.out.size)⟩
        have H2 := Lib.hid h2
        clear HRN HO HB hi0 hy0 hy1 hy2 hfu h1 h2
        go_wp2_with fail
        refine (sinr_f x 0 ((l.length : Int) - 1) _ H2.out).mono ?_
        rintro e w2 ⟨rfl, rfl⟩
        go_wp2_with fail
        go_ret
        exact HF.out
      case pos =>
        obtain ⟨xi, rfl⟩ : ∃ xi : Nat, (xi : Int) = x := ⟨x.toNat, by omega⟩
        obtain ⟨hx0, hx1⟩ := h2
        have hxl : xi < l.length := by omega
        have HST : Hid (R = (if (xi : Int) = dst then some [(xi : Int)] else (pathGo l dst (l.length - p.length) l[xi]).map ((xi : Int) :: ·)).map (p ++ ·)) := Lib.hid (by
          rw [HR.out, hfu, pathL_step ⟨by omega, by omega⟩, atD_nat l xi hxl])
        have HAPP : Hid (iv (p ++ [(xi : Int)]) = iv p ++ [.int .i64 (xi : Int)]) := Lib.hid (iv_snoc _ _)
        have b5 : Below wr.heap.size wr (wr.alloc (.cells #[.int .i64 (xi : Int)] 3)) := (Below.refl _ _).alloc (Nat.le_refl _) _
        have HO5 := Lib.hid (HO.out.on b5); have HB5 := Lib.hid (HB.out.trans (b5.mono HB.out.size))
        have hsz : w.heap.size ≤ (wr.alloc (.cells #[.int .i64 (xi : Int)] 3)).heap.size := HB5.out.size
        have hb8 : (p.length + 1) * 8 ≤ 140737488355328 := by omega
        clear b5 HO HB hfu
        go_wp2_with fail
        refine (sinr_t (xi : Int) 0 ((l.length : Int) - 1) _ hx0 hx1).mono ?_
        rintro e w2 ⟨rfl, rfl⟩
        by_cases h3 : (xi : Int) = dst
        case pos =>
          subst h3
          have HRS : R = some (p ++ [(xi : Int)]) := by rw [HST.out, if_pos rfl]; rfl
          have HRS' := Lib.hid HRS
          clear HRS HST
          go_wp2_with (at_builtin; go_loud (refine wpList_append_sl _ rfl (.tmp 23) (.tmp 25) 27 rfl w.heap.size 3 i0 _ 1 8 Try.underlying27 hi0 hy0 hy1 hy2 rfl (by omega) A1 p.length c1 (iv p) rfl HO5.out (wr.heap.size + 1) _ 1 1 [.int .i64 (xi : Int)] rfl (Sl.one wr _ _) (by simp [Value.oneCell']) (by omega) hb8 hsz ?_; intro A5 c5 w5 hown5 hg5 hat5; have HF : Hid (GivesIM w (pathL l a (xi : Int)) (.returned (.slice A5 (p.length + 1) c5)) w5) := Lib.hid ⟨_, _, _, rfl, by rw [HPL.out, HRS'.out]; show Own _ _ _ _ _ _ _ (iv (p ++ [(xi : Int)])); rw [HAPP.out]; exact hown5, HB5.out.grown hg5 HB5.out.size (fun j hj => (HO5.out.row.lt j hj).1)⟩; clear hown5 hg5 hat5))
          go_ret
          exact HF.out
        case neg =>
          have hne : ((xi : Int) == dst) = false := by simpa using h3
          obtain ⟨ad, hx, rfl, had, q0⟩ := (HS.out.below HB5.out hD).int hxl
          have hq : ∀ w', Below w.heap.size w w' → w'.cell? (ad.add xi) = some (.int .i64 l[xi]) := fun w' hb => by
            obtain ⟨ad', _, e, _, q⟩ := (HS.out.below hb hD).int hxl
            injection e with e; rw [e]; exact q
          have HQ := Lib.hid hq
          have HRS : Hid (R = (pathGo l dst (l.length + 1 - (p ++ [(xi : Int)]).length) l[xi]).map ((p ++ [(xi : Int)]) ++ ·)) := Lib.hid (by
            rw [HST.out, if_neg h3, List.length_append, List.length_singleton, show l.length + 1 - (p.length + 1) = l.length - p.length by omega, Option.map_map]
            congr 1; funext q; simp)
          obtain ⟨z, hz⟩ : ∃ z, z = l[xi] := ⟨_, rfl⟩
          rw [← hz] at HRS HQ
          clear HST h3 q0 hq hz
          go_wp2_with (at_builtin; go_loud (refine wpList_append_sl _ rfl (.tmp 23) (.tmp 25) 27 rfl w.heap.size 3 i0 _ 1 8 Try.underlying27 hi0 hy0 hy1 hy2 rfl (by omega) A1 p.length c1 (iv p) rfl HO5.out (wr.heap.size + 1) _ 1 1 [.int .i64 (xi : Int)] rfl (Sl.one wr _ _) (by simp [Value.oneCell']) (by omega) hb8 hsz ?_; intro A5 c5 w5 hown5 hg5 hat5; have HF : Hid (Own w5 w.heap.size 3 1 A5 (p ++ [(xi : Int)]).length c5 (iv (p ++ [(xi : Int)])) ∧ Below w.heap.size w w5) := Lib.hid ⟨by rw [HAPP.out, List.length_append]; exact hown5, HB5.out.grown hg5 HB5.out.size (fun j hj => (HO5.out.row.lt j hj).1)⟩; have q0 := HQ.out _ HF.out.2; clear hown5 hg5 hat5))
          go_roundw
          case rel => exact ⟨p ++ [(xi : Int)], z, A5, c5, by rw [List.length_append]; simp; omega, rfl, by rw [List.length_append]; rfl, HF.out.1, HF.out.2, HRS.out⟩
          case measure => simp; omega
theorem itr_out (l : List Int) (i : Nat) (hi : i < l.length) (k : Nat) (h : ¬ (0 ≤ itr l (k + 1) i ∧ itr l (k + 1) i ≤ (l.length : Int) - 1)) : ∀ j, k ≤ j → itr l (j + 1) i ≠ i := by
  have key : ∀ m, ¬ (0 ≤ itr l (k + m + 1) i ∧ itr l (k + m + 1) i ≤ (l.length : Int) - 1) := by
    intro m
    induction m with
    | zero => exact h
    | succ m ih =>
      have e : itr l (k + (m + 1) + 1) i = -1 := by
        show atD l (itr l (k + m + 1) i) = -1
        exact atD_out _ _ (by omega)
      rw [e]; omega
  intro j hj e
  have := key (j - k)
  rw [show k + (j - k) + 1 = j + 1 by omega, e] at this
  omega
theorem loopAt_false (l : List Int) (i : Nat) (h : ∀ j, j < l.length → itr l (j + 1) i ≠ i) : loopAt l i = false := by
  unfold loopAt
  rw [List.any_eq_false]
  intro j hj e
  exact h j (List.mem_range.1 hj) (of_decide_eq_true e)
theorem loopAt_true (l : List Int) (i k : Nat) (hk : k < l.length) (h : itr l (k + 1) i = i) : loopAt l i = true := by
  unfold loopAt
  rw [List.any_eq_true]
  exact ⟨k, List.mem_range.2 hk, decide_eq_true h⟩
theorem loopB_true (l : List Int) (i : Nat) (hi : i < l.length) (h : loopAt l i = true) : loopB l = true := by
  unfold loopB
  rw [List.any_eq_true]
  exact ⟨i, List.mem_range.2 hi, h⟩
theorem loopB_false (l : List Int) (h : ∀ i, i < l.length → loopAt l i = false) : loopB l = false := by
  unfold loopB
  rw [List.any_eq_false]
  intro i hi e
  rw [h i (List.mem_range.1 hi)] at e; cases e
end Go.Proofs.Ytjobjjmeneddnaa
namespace Go.Proofs.Ytjobjjmeneddnaa
open Go.ChangeShapes Go.WideShapes Go.ChangeAt Go.RowKit
set_option linter.unusedVariables false
noncomputable def nextA (L : List (Int × Int)) (nodes f dst : Int) : List Int := nextL L f dst (distA L nodes f dst)
theorem nextL_take (L : List (Int × Int)) (f dst : Int) (d : List Int) (k : Nat) : ((List.range (k + 1)).map fun i : Nat => nextAt L f dst d i) = ((List.range k).map fun i : Nat => nextAt L f dst d i) ++ [nextAt L f dst d k] := by
  rw [List.range_succ, List.map_append]; rfl
theorem quiet_same {P : Program} {f : FuncId} {args : Array Value} {w : World} {n : Nat} {v : Value} (h : Calls P f args (w.drewN n) fun e w' => e = .returned v ∧ w.drewN n = w') : Calls P f args (w.drewN n) fun e w'' => e = .returned v ∧ ∃ m, w'' = w.drewN m :=
  h.mono fun _ _ ⟨he, hm⟩ => ⟨he, n, hm.symm⟩
set_option maxRecDepth 100000 in
set_option maxHeartbeats 2000000 in
theorem snext (w : World) (D : Nat) (A : Option Addr) (n c : Nat) (l : List (Int × Int)) (h : Sl w D 2 A n c (sv l)) (hD : D ≤ w.heap.size) (hn : n ≤ 16777216) (nodes f dst : Int) (hj : J64 nodes ∧ J64 f ∧ J64 dst) :
    Calls Try.prog 57 #[.slice A n c, .int .i64 nodes, .int .i64 f, .int .i64 dst] w (GivesIM w (nextA l nodes f dst)) := by
  obtain ⟨i0, hi0, hy0, hy1, hy2⟩ := info_parts intK_info
  have HS := Lib.hid h; have HJ := Lib.hid hj
  clear h hj
  obtain ⟨W1, hW1⟩ : ∃ W, W = w.alloc (.cells #[] 3) := ⟨_, rfl⟩
  obtain ⟨g0, hg0⟩ : ∃ g, g = w.heap.size := ⟨_, rfl⟩
  have HO1 : Hid (Own W1 w.heap.size 3 1 (some ⟨g0, 0, none⟩) 0 0 (iv []) ∧ Below w.heap.size w W1 ∧ g0 < W1.heap.size) := Lib.hid (by rw [hW1, hg0]; exact ⟨Own.made1 w w.heap.size _ (Nat.le_refl _), (Below.refl _ _).alloc (Nat.le_refl _) _, by simp⟩)
  go_enter Try.func57, Try.ntmps57
  go_wp2_with fail
  rw [← hW1, ← hg0]
  clear hW1 hg0
  refine (sdistX W1 D A n c l (HS.out.below HO1.out.2.1 hD) (Nat.le_trans hD HO1.out.2.1.size) hn nodes f dst HJ.out).mono ?_
  rintro e w2 ⟨⟨Ad, nd, cd, rfl, o2, b2⟩, hdist⟩
  obtain ⟨d, hd⟩ : ∃ d, d = distA l nodes f dst := ⟨_, rfl⟩
  rw [← hd] at o2 hdist
  have HNA : Hid (nextA l nodes f dst = nextL l f dst d) := Lib.hid (by unfold nextA; rw [hd])
  have hnd : nd = d.length := by have h1 := o2.len; rw [iv_len] at h1; omega
  subst hnd
  have HDI : Hid (0 < d.length → (1 ≤ nodes ∧ nodes ≤ 12) ∧ IsDist l nodes.toNat f dst d) := Lib.hid fun hp => by
    by_cases e : okP nodes dst = true
    · exact ⟨(of_decide_eq_true e : (1 ≤ nodes ∧ nodes ≤ 12) ∧ 0 ≤ dst ∧ dst ≤ nodes - 1).1, hdist e⟩
    · rw [hd] at hp; unfold distA at hp; rw [if_neg e] at hp; simp at hp
  have hdl : d.length ≤ 12 := by
    by_cases hp : 0 < d.length
    · have h1 := HDI.out hp
      have h2 := h1.2.len
      omega
    · omega
  have hcd := o2.capm
  obtain ⟨lo, hlo⟩ : ∃ x, x = W1.heap.size := ⟨_, rfl⟩
  obtain ⟨hi, hhi⟩ : ∃ x, x = w2.heap.size := ⟨_, rfl⟩
  have HCM : Hid (∀ wr, Keeps lo hi w2 wr → Sl wr hi 1 Ad d.length cd (iv d)) := Lib.hid fun wr hk => o2.mid (Nat.le_of_eq hlo) (Nat.le_of_eq hhi.symm) hk
  have HF0 : Hid (Own w2 w.heap.size 3 1 (some ⟨g0, 0, none⟩) 0 0 (iv ((List.range 0).map fun i : Nat => nextAt l f dst d i)) ∧ Off lo hi (some (⟨g0, 0, none⟩ : Addr)) ∧ Keeps lo hi w2 w2 ∧ Below w.heap.size w w2) := Lib.hid ⟨HO1.out.1.on b2, fun ad e => by injection e with e; subst e; left; rw [hlo]; exact HO1.out.2.2, by rw [hhi]; exact Keeps.refl w2 lo, HO1.out.2.1.trans (b2.mono HO1.out.2.1.size)⟩
  clear o2 b2 hdist hd hlo hhi HO1
  go_wp2_with fail
  go_loopw [9, 11, 12, 13, 14, 15] (fun o iv_ _ _ _ _ wr => ∃ (i : Nat) (A1 : Option Addr) (c1 : Nat), i ≤ d.length ∧ iv_ = .int .i64 i ∧ o = .slice A1 i c1 ∧ Own wr w.heap.size 3 1 A1 i c1 (iv ((List.range i).map fun i : Nat => nextAt l f dst d i)) ∧ Off lo hi A1 ∧ Keeps lo hi w2 wr ∧ Below w.heap.size w wr) (fun _ iv_ _ _ _ _ _ => d.length - (intOf iv_).toNat)
  case atStart => exact ⟨0, _, _, Nat.zero_le _, rfl, rfl, HF0.out⟩
  case round =>
    clear HF0
    obtain ⟨i, A1, c1, hi1, rfl, rfl, ho, hf, hkp, hb⟩ := hrel
    have HO := Lib.hid ho; have HF := Lib.hid hf; have HK := Lib.hid hkp; have HB := Lib.hid hb
    clear ho hf hkp hb
    have hi00 : (0 : Int) ≤ (i : Int) := by omega
    by_cases hlt : i < d.length
    case neg =>
      obtain rfl : i = d.length := by omega
      have HR : Hid (GivesIM w (nextA l nodes f dst) (.returned (.slice A1 d.length c1)) wr) := Lib.hid ⟨_, _, _, rfl, by rw [HNA.out]; exact HO.out, HB.out⟩
      clear hi0 hy0 hy1 hy2
      go_wp2_with fail
      go_ret
      exact HR.out
    case pos =>
      have hil : (i : Int) < (d.length : Int) := by omega
      obtain ⟨hok, hdi⟩ := HDI.out (by omega)
      obtain ⟨N, rfl⟩ : ∃ N : Nat, (N : Int) = nodes := ⟨nodes.toNat, by omega⟩
      have HDD := Lib.hid hdi
      have hN1 : 1 ≤ N ∧ N ≤ 12 := by omega
      have hdN : d.length = N := by have := hdi.len; simpa using this
      have HDN := Lib.hid hdN
      obtain ⟨s, rfl⟩ : ∃ s : Nat, (s : Int) = dst := ⟨dst.toNat, by
        have h1 := atD_in d dst (by have := (hdi.zero dst).2 rfl; omega)
        omega⟩
      have hsN : s < d.length := by
        have h1 := atD_in d s (by have := (hdi.zero s).2 rfl; omega)
        omega
      clear hok hdi hdN
      go_wp2_with fail
      refine (snb wr D A n c l (HS.out.below HB.out hD) (Nat.le_trans hD HB.out.size) hn i).mono ?_
      rintro e w3 ⟨An, nn, cn, rfl, on, bn⟩
      obtain ⟨NB, hNB⟩ : ∃ L, L = nbL l i := ⟨_, rfl⟩
      rw [← hNB] at on
      have hnn : nn = NB.length := by have h1 := on.len; rw [iv_len] at h1; omega
      subst hnn
      have HNB := Lib.hid hNB
      have HSN := Lib.hid on.sl
      have hcapn := on.capm
      have HO3 := Lib.hid (HO.out.on bn); have HK3 := Lib.hid (HK.out.below bn); have HB3 := Lib.hid (HB.out.trans (bn.mono HB.out.size))
      have hnbl : NB.length ≤ 16777216 := by rw [hNB]; have h1 := nbL_len l i; have h2 := HS.out.len; rw [sv_len] at h2; omega
      obtain ⟨R, hR⟩ : ∃ z, z = nextAt l f s d i := ⟨_, rfl⟩
      have HRR := Lib.hid hR
      clear hR hNB on bn HO HK HB
      go_upto_block 2 with fail
      go_cut [12, 14, 15] from 31 to 78 (fun nv _ _ wx => nv = .int .i64 R ∧ Below w3.heap.size w3 wx)
      case first =>
        have HD3 : Hid (∀ wx, Below w3.heap.size w3 wx → Sl wx hi 1 Ad d.length cd (iv d) ∧ Sl wx w3.heap.size 1 An NB.length cn (iv NB)) := Lib.hid fun wx hb => ⟨(HCM.out _ HK3.out).below hb HK3.out.1, HSN.out.below hb (Nat.le_refl _)⟩
        obtain ⟨va, hva⟩ : ∃ v, v = atD d i := ⟨_, rfl⟩
        have hvb : -1 ≤ va ∧ va ≤ 12 := by
          rw [hva]
          have h1 := HDD.out.low i
          by_cases h2 : 0 ≤ atD d i
          · have h3 := HDD.out.lt i h2
            simp at h3; omega
          · omega
        have HVA := Lib.hid hva
        have hva0 := hvb.1; have hva1 := hvb.2
        clear hva hvb
        go_wp2_with fail
        go_loopw [12, 14, 15] (fun nv kv _ wx => ∃ (k : Nat) (z : Int), k ≤ NB.length ∧ kv = .int .i64 k ∧ nv = .int .i64 z ∧ Hid ((z = -1 ∧ ∀ x ∈ NB.take k, okN f s d i x = false) ∨ (0 ≤ z ∧ 0 < va ∧ NB.find? (okN f s d i) = some z)) ∧ Below w3.heap.size w3 wx) (fun _ kv _ _ => NB.length - (intOf kv).toNat)
        case atStart => exact ⟨0, -1, Nat.zero_le _, rfl, rfl, Lib.hid (.inl ⟨rfl, fun x hx => by simp at hx⟩), Below.refl _ _⟩
        case round =>
          obtain ⟨k, z, hk, rfl, rfl, hz, hbx⟩ := hrel
          have HBX := Lib.hid hbx
          clear hbx
          have hk0 : (0 : Int) ≤ (k : Int) := by omega
          by_cases hkl : k < NB.length
          case neg =>
            obtain rfl : k = NB.length := by omega
            have HR : Hid (z = R) := Lib.hid (by
              rw [HRR.out]
              unfold nextAt
              rw [← HNB.out]
              rcases hz.out with ⟨h1, h2⟩ | ⟨h1, h2, h3⟩
              · rw [List.take_length] at h2
                have h3 : NB.find? (okN f s d i) = none := List.find?_eq_none.2 fun x hx => by rw [h2 x hx]; simp
                rw [h3, h1]; split <;> rfl
              · rw [← HVA.out, if_pos h2, h3]; rfl)
            go_wp2_with fail
            go_meet
            exact ⟨by rw [HR.out], HBX.out⟩
          case pos =>
            have hkl' : (k : Int) < (NB.length : Int) := by omega
            obtain ⟨ad, hx, rfl, had, q0⟩ := (HD3.out _ HBX.out).1.int hlt
            rw [← atD_nat d i hlt, ← HVA.out] at q0
            by_cases hva2 : 0 < va
            case neg =>
              have hdv : decide (0 < va) = false := decide_eq_false hva2
              have HR : Hid (z = R) := Lib.hid (by
                rw [HRR.out]
                unfold nextAt
                rw [← HVA.out, if_neg hva2]
                rcases hz.out with ⟨h1, h2⟩ | ⟨h1, h2, h3⟩
                · exact h1
                · exact absurd h2 hva2)
              clear hva2
              go_wp2_with fail
              go_meet
              exact ⟨by rw [HR.out], HBX.out⟩
            case pos =>
              by_cases hz0 : z < 0
              case neg =>
                have hdz : decide (z < 0) = false := decide_eq_false hz0
                have HR : Hid (z = R) := Lib.hid (by
                  rw [HRR.out]
                  unfold nextAt
                  rw [← HNB.out, ← HVA.out, if_pos hva2]
                  rcases hz.out with ⟨h1, h2⟩ | ⟨h1, h2, h3⟩
                  · omega
                  · rw [h3]; rfl)
                clear hz0
                go_wp2_with fail
                go_meet
                exact ⟨by rw [HR.out], HBX.out⟩
              case pos =>
                have hno : Hid (∀ x ∈ NB.take k, okN f s d i x = false) := Lib.hid (by
                  rcases hz.out with ⟨h1, h2⟩ | ⟨h1, h2, h3⟩
                  · exact h2
                  · omega)
                obtain rfl : z = -1 := by
                  rcases hz.out with ⟨h1, h2⟩ | ⟨h1, h2, h3⟩
                  · exact h1
                  · omega
                clear hz hz0
                obtain ⟨na, hx2, rfl, had2, q1⟩ := (HD3.out _ HBX.out).2.int hkl
                have HTK : Hid (NB.take (k + 1) = NB.take k ++ [NB[k]]) := Lib.hid (List.take_succ_eq_append_getElem hkl)
                have HFD : Hid (okN f s d i NB[k] = true → NB.find? (okN f s d i) = some NB[k]) := Lib.hid fun h => by
                  have e : NB = NB.take k ++ NB[k] :: NB.drop (k + 1) := (List.take_append_drop k NB).symm.trans (by rw [List.drop_eq_getElem_cons hkl])
                  rw [List.find?_eq_some_iff_append]
                  exact ⟨h, NB.take k, NB.drop (k + 1), e, fun a ha => by rw [hno.out a ha]; rfl⟩
                obtain ⟨x, hxx⟩ : ∃ x, x = NB[k] := ⟨_, rfl⟩
                rw [← hxx] at q1 HTK HFD
                clear hxx
                have HNO2 : Hid (okN f s d i x = false → (((-1 : Int) = -1 ∧ ∀ y ∈ NB.take (k + 1), okN f s d i y = false) ∨ (0 ≤ (-1 : Int) ∧ 0 < va ∧ NB.find? (okN f s d i) = some (-1)))) := Lib.hid fun h => .inl ⟨rfl, fun y hy => by
                  rw [HTK.out] at hy
                  rcases List.mem_append.1 hy with hy | hy
                  · exact hno.out y hy
                  · obtain rfl := List.mem_singleton.1 hy
                    exact h⟩
                have HYES : Hid (okN f s d i x = true → 0 ≤ x → ((x = -1 ∧ ∀ y ∈ NB.take (k + 1), okN f s d i y = false) ∨ (0 ≤ x ∧ 0 < va ∧ NB.find? (okN f s d i) = some x))) := Lib.hid fun h h0 => .inr ⟨h0, hva2, HFD.out h⟩
                have hNi : wrap64 ((N : Int) - 1) = (N : Int) - 1 := by unfold wrap64; omega
                clear hno HTK HFD
                by_cases hin : 0 ≤ x ∧ x ≤ (N : Int) - 1
                case neg =>
                  have HN := Lib.hid (HNO2.out (decide_eq_false fun h => hin ⟨h.1.1, by have := HDN.out; omega⟩))
                  have HIN := Lib.hid hin
                  clear hin
                  go_upto_region 12 with fail
                  go_quiet (first | (go_at_call 64; refine quiet_same (sinr_f x 0 ((N : Int) - 1) _ HIN.out)))
                  have HB2 := Lib.hid (below_drawnK HBX.out nq)
                  go_wp2_with fail
                  go_roundw
                  case rel => exact ⟨k + 1, -1, by omega, by go_num, rfl, HN, HB2.out⟩
                  case measure => simp [intOf]; omega
                case pos =>
                  obtain ⟨hx0, hx1⟩ := hin
                  obtain ⟨xi, rfl⟩ : ∃ xi : Nat, (xi : Int) = x := ⟨x.toNat, by omega⟩
                  have hxl : xi < d.length := by have := HDN.out; omega
                  have hxl' : (xi : Int) < (d.length : Int) := by omega
                  obtain ⟨ad', hx3, ena, had3, q2⟩ := (HD3.out _ HBX.out).1.int hxl
                  injection ena with ena
                  subst ena
                  rw [← atD_nat d xi hxl] at q2
                  obtain ⟨vx, hvx⟩ : ∃ v, v = atD d xi := ⟨_, rfl⟩
                  rw [← hvx] at q2
                  have HVX := Lib.hid hvx
                  have hvb : wrap64 (va - 1) = va - 1 := by unfold wrap64; omega
                  clear hvx had3 hx3
                  by_cases hds : (xi : Int) = (s : Int)
                  case pos =>
                    obtain rfl : s = xi := by omega
                    clear hds
                    by_cases hv : vx = va - 1
                    case pos =>
                      have HY := Lib.hid (HYES.out (decide_eq_true ⟨⟨hx0, hxl'⟩, .inr rfl, by rw [← HVX.out, ← HVA.out]; exact hv⟩) hx0)
                      subst hv
                      by_cases hf : (s : Int) < f
                      case pos =>
                        go_upto_region 12 with fail
                        go_quiet (first | (go_at_call 64; refine quiet_same (sinr_t (s : Int) 0 ((N : Int) - 1) _ hx0 hx1)))
                        have HB2 := Lib.hid (below_drawnK HBX.out nq)
                        go_wp2_with fail
                        go_roundw
                        case rel => exact ⟨k + 1, (s : Int), by omega, by go_num, rfl, HY, HB2.out⟩
                        case measure => simp [intOf]; omega
                      case neg =>
                        have hfd : decide ((s : Int) < f) = false := decide_eq_false hf
                        clear hf
                        go_upto_region 12 with fail
                        go_quiet (first | (go_at_call 64; refine quiet_same (sinr_t (s : Int) 0 ((N : Int) - 1) _ hx0 hx1)))
                        have HB2 := Lib.hid (below_drawnK HBX.out nq)
                        go_wp2_with fail
                        go_roundw
                        case rel => exact ⟨k + 1, (s : Int), by omega, by go_num, rfl, HY, HB2.out⟩
                        case measure => simp [intOf]; omega
                    case neg =>
                      have HN := Lib.hid (HNO2.out (decide_eq_false fun h => hv (by rw [HVX.out, HVA.out]; exact h.2.2)))
                      have hvd : (vx == va - 1) = false := by simpa using hv
                      clear hv
                      by_cases hf : (s : Int) < f
                      case pos =>
                        go_upto_region 12 with fail
                        go_quiet (first | (go_at_call 64; refine quiet_same (sinr_t (s : Int) 0 ((N : Int) - 1) _ hx0 hx1)))
                        have HB2 := Lib.hid (below_drawnK HBX.out nq)
                        go_wp2_with fail
                        go_roundw
                        case rel => exact ⟨k + 1, -1, by omega, by go_num, rfl, HN, HB2.out⟩
                        case measure => simp [intOf]; omega
                      case neg =>
                        have hfd : decide ((s : Int) < f) = false := decide_eq_false hf
                        clear hf
                        go_upto_region 12 with fail
                        go_quiet (first | (go_at_call 64; refine quiet_same (sinr_t (s : Int) 0 ((N : Int) - 1) _ hx0 hx1)))
                        have HB2 := Lib.hid (below_drawnK HBX.out nq)
                        go_wp2_with fail
                        go_roundw
                        case rel => exact ⟨k + 1, -1, by omega, by go_num, rfl, HN, HB2.out⟩
                        case measure => simp [intOf]; omega
                  case neg =>
                    have hdb : ((xi : Int) == (s : Int)) = false := by simpa using hds
                    by_cases hf : (xi : Int) < f
                    case pos =>
                      by_cases hv : vx = va - 1
                      case pos =>
                        have HY := Lib.hid (HYES.out (decide_eq_true ⟨⟨hx0, hxl'⟩, .inl hf, by rw [← HVX.out, ← HVA.out]; exact hv⟩) hx0)
                        subst hv
                        clear hds
                        go_upto_region 12 with fail
                        go_quiet (first | (go_at_call 64; refine quiet_same (sinr_t (xi : Int) 0 ((N : Int) - 1) _ hx0 hx1)))
                        have HB2 := Lib.hid (below_drawnK HBX.out nq)
                        go_wp2_with fail
                        go_roundw
                        case rel => exact ⟨k + 1, (xi : Int), by omega, by go_num, rfl, HY, HB2.out⟩
                        case measure => simp [intOf]; omega
                      case neg =>
                        have HN := Lib.hid (HNO2.out (decide_eq_false fun h => hv (by rw [HVX.out, HVA.out]; exact h.2.2)))
                        have hvd : (vx == va - 1) = false := by simpa using hv
                        clear hv hds
                        go_upto_region 12 with fail
                        go_quiet (first | (go_at_call 64; refine quiet_same (sinr_t (xi : Int) 0 ((N : Int) - 1) _ hx0 hx1)))
                        have HB2 := Lib.hid (below_drawnK HBX.out nq)
                        go_wp2_with fail
                        go_roundw
                        case rel => exact ⟨k + 1, -1, by omega, by go_num, rfl, HN, HB2.out⟩
                        case measure => simp [intOf]; omega
                    case neg =>
                      have HN := Lib.hid (HNO2.out (decide_eq_false fun h => by rcases h.2.1 with h | h; exact hf h; exact hds h))
                      have hfd : decide ((xi : Int) < f) = false := decide_eq_false hf
                      clear hf hds
                      go_upto_region 12 with fail
                      go_quiet (first | (go_at_call 64; refine quiet_same (sinr_t (xi : Int) 0 ((N : Int) - 1) _ hx0 hx1)))
                      have HB2 := Lib.hid (below_drawnK HBX.out nq)
                      go_wp2_with fail
                      go_roundw
                      case rel => exact ⟨k + 1, -1, by omega, by go_num, rfl, HN, HB2.out⟩
                      case measure => simp [intOf]; omega
      case rest =>
        obtain ⟨rfl, hbx⟩ := hcut
        have HAPP : Hid (iv ((List.range (i + 1)).map fun i : Nat => nextAt l f s d i) = iv ((List.range i).map fun i : Nat => nextAt l f s d i) ++ [.int .i64 R]) := Lib.hid (by rw [nextL_take, iv_snoc, HRR.out])
        have HO4 := HO3.out.on hbx; have HB4 := HB3.out.trans (hbx.mono HB3.out.size); have HK4 := HK3.out.below hbx
        have b5 : Below wc.heap.size wc (wc.alloc (.cells #[.int .i64 R] 3)) := (Below.refl _ _).alloc (Nat.le_refl _) _
        have HO5 := Lib.hid (HO4.on b5); have HB5 := Lib.hid (HB4.trans (b5.mono HB4.size)); have HK5 := Lib.hid (HK4.below b5)
        have hsz : w.heap.size ≤ (wc.alloc (.cells #[.int .i64 R] 3)).heap.size := HB5.out.size
        have hb8 : (i + 1) * 8 ≤ 140737488355328 := by omega
        clear b5 HO3 HB3 HK3 HO4 HB4 HK4 hbx
        go_wp2_with (at_builtin; go_loud (refine wpList_append_sl _ rfl (.tmp 79) (.tmp 81) 27 rfl w.heap.size 3 i0 _ 1 8 Try.underlying27 hi0 hy0 hy1 hy2 rfl (by omega) A1 i c1 (iv ((List.range i).map fun i : Nat => nextAt l f s d i)) rfl HO5.out (wc.heap.size + 1) _ 1 1 [.int .i64 R] rfl (Sl.one wc _ _) (by simp [Value.oneCell']) (by omega) hb8 hsz ?_; intro A5 c5 w5 hown5 hg5 hat5; have HG : Hid (Own w5 w.heap.size 3 1 A5 (i + 1) c5 (iv ((List.range (i + 1)).map fun i : Nat => nextAt l f s d i)) ∧ Off lo hi A5 ∧ Keeps lo hi w2 w5 ∧ Below w.heap.size w w5) := Lib.hid ⟨by rw [HAPP.out]; exact hown5, HF.out.app hat5 HK5.out.1, HK5.out.grown hg5 HF.out, HB5.out.grown hg5 HB5.out.size (fun j hj => (HO5.out.row.lt j hj).1)⟩; clear hown5 hg5 hat5))
        go_roundw
        case rel => exact ⟨i + 1, A5, c5, by omega, by go_num, rfl, HG.out⟩
        case measure => simp [intOf]; omega
theorem distA_is (L : List (Int × Int)) (nodes f dst : Int) : distA L nodes f dst = [] ∨ (nodes ≤ 12 ∧ IsDist L nodes.toNat f dst (distA L nodes f dst)) := by
  unfold distA
  by_cases e : okP nodes dst = true
  · rw [if_pos e]
    have hok : (1 ≤ nodes ∧ nodes ≤ 12) ∧ 0 ≤ dst ∧ dst ≤ nodes - 1 := of_decide_eq_true e
    unfold distL
    by_cases h : ∃ d, IsDist L nodes.toNat f dst d
    · rw [dif_pos h]; exact .inr ⟨hok.1.2, h.choose_spec⟩
    · rw [dif_neg h]; exact .inl rfl
  · rw [if_neg e]; exact .inl rfl
theorem distA_len (L : List (Int × Int)) (nodes f dst : Int) : (distA L nodes f dst).length ≤ 12 := by
  rcases distA_is L nodes f dst with h | ⟨h1, h2⟩
  · rw [h]; simp
  · rw [h2.len]; omega
theorem distA_rng (L : List (Int × Int)) (nodes f dst : Int) : ∀ z ∈ distA L nodes f dst, -9223372036854775808 ≤ z ∧ z ≤ 9223372036854775807 := by
  intro z hz
  rcases distA_is L nodes f dst with h | ⟨h1, h2⟩
  · rw [h] at hz; cases hz
  · obtain ⟨k, hk, rfl⟩ := List.mem_iff_getElem.1 hz
    have e := atD_nat _ k hk
    have hl := h2.low k
    by_cases h3 : 0 ≤ atD (distA L nodes f dst) k
    · have := h2.lt k h3
      omega
    · omega
theorem nextA_len (L : List (Int × Int)) (nodes f dst : Int) : (nextA L nodes f dst).length ≤ 12 := by
  unfold nextA; rw [nextL_len]; exact distA_len L nodes f dst
theorem nextA_rng (L : List (Int × Int)) (nodes f dst : Int) : ∀ z ∈ nextA L nodes f dst, -9223372036854775808 ≤ z ∧ z ≤ 9223372036854775807 := by
  intro z hz
  have hl := distA_len L nodes f dst
  unfold nextA nextL at hz
  obtain ⟨i, _, rfl⟩ := List.mem_map.1 hz
  unfold nextAt
  split
  · cases e : (nbL L i).find? (okN f dst (distA L nodes f dst) i) with
    | none => simp
    | some x =>
      have e2 : okN f dst (distA L nodes f dst) i x = true := List.find?_some e
      have h3 := (of_decide_eq_true e2 : (0 ≤ x ∧ x < ((distA L nodes f dst).length : Int)) ∧ _ ∧ _).1
      simp; omega
  · omega
theorem pathGo_rng (next : List Int) (dst : Int) (m : Nat) (a : Int) (p : List Int) (h : pathGo next dst m a = some p) : ∀ z ∈ p, 0 ≤ z ∧ z < next.length := by
  induction m generalizing a p with
  | zero => simp [pathGo] at h
  | succ m ih =>
    unfold pathGo at h
    split at h
    · rename_i hin
      split at h
      · injection h with h; subst h
        intro z hz
        obtain rfl := List.mem_singleton.1 hz
        exact hin
      · rw [Option.map_eq_some_iff] at h
        obtain ⟨q, hq, rfl⟩ := h
        intro z hz
        rcases List.mem_cons.1 hz with rfl | hz
        · exact hin
        · exact ih _ q hq z hz
    · cases h
theorem pathL_rng (next : List Int) (a dst : Int) (hn : next.length ≤ 16777216) : ∀ z ∈ pathL next a dst, -9223372036854775808 ≤ z ∧ z ≤ 9223372036854775807 := by
  intro z hz
  unfold pathL at hz
  cases h : pathGo next dst (next.length + 1) a with
  | none => rw [h] at hz; cases hz
  | some p =>
    rw [h] at hz
    have := pathGo_rng _ _ _ _ _ h z hz
    omega
end Go.Proofs.Ytjobjjmeneddnaa
