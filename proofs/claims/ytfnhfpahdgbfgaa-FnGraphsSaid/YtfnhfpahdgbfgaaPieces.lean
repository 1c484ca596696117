/- The program's PiecesOf. -/
import Derived.Test.YtfnhfpahdgbfgaaChanges
namespace Go.Proofs.Ytfnhfpahdgbfgaa
open Go.ChangeShapes Go.WideShapes Go.ChangeAt Go.RowKit
set_option linter.unusedVariables false
theorem pcsE_take (u : Int) (C : List Int) (k : Nat) (hk : k < C.length) : pcs u (C.take (k + 1)) = pcs u (C.take k) ++ [(lastE u (C.take k), C[k])] := by
  rw [List.take_succ_eq_append_getElem hk, pcs_snoc]
theorem lastEE_take (u : Int) (C : List Int) (k : Nat) (hk : k < C.length) : lastE u (C.take (k + 1)) = C[k] := by
  rw [List.take_succ_eq_append_getElem hk, lastE_snoc]
set_option maxRecDepth 100000 in
set_option maxHeartbeats 2000000 in
theorem ipieces (w : World) (D : Nat) (A : Option Addr) (n c : Nat) (l : List Sat4) (h : Sl w D 4 A n c (fl c4 l)) (hD : D ≤ w.heap.size) (hn : n ≤ 16777216) (a b : Int) (hk : ∀ x ∈ l, J64 x.p ∧ J64 x.h) :
    Calls Try.prog 10 #[.slice A n c, .int .i64 a, .int .i64 b] w (GivesS w (piecesL l a b)) := by
  obtain ⟨i0, hi0, hy0, hy1, hy2⟩ := info_parts intN_info
  obtain ⟨i1, hi1, hz0, hz1, hz2⟩ := info_parts span_info
  have HS := Lib.hid h; have HKJ := Lib.hid hk
  obtain ⟨W1, hW1⟩ : ∃ W, W = w.alloc (.cells #[] 30) := ⟨_, rfl⟩
  obtain ⟨g0, hg0⟩ : ∃ g, g = w.heap.size := ⟨_, rfl⟩
  have HO1 : Hid (Own W1 w.heap.size 30 2 (some ⟨g0, 0, none⟩) 0 0 (sv [])) := Lib.hid (by rw [hW1, hg0]; exact Own.made0 w w.heap.size _ (Nat.le_refl _))
  have HB1 : Hid (Below w.heap.size w W1) := Lib.hid (by rw [hW1]; exact (Below.refl _ _).alloc (Nat.le_refl _) _)
  have HGL : Hid (g0 < W1.heap.size) := Lib.hid (by rw [hW1, hg0]; simp)
  obtain ⟨v, hv⟩ : ∃ v, isS (a, b) = v := ⟨_, rfl⟩
  have HV := Lib.hid hv
  clear h hv hk
  go_enter Try.func10, Try.ntmps10
  go_wp2_with fail
  rw [← hW1, ← hg0]
  clear hW1 hg0
  refine (iisspan W1 a b v HV.out).mono ?_
  rintro e w2 ⟨rfl, b2⟩
  have HO2 := Lib.hid (HO1.out.on b2); have HB2 := Lib.hid (HB1.out.trans (b2.mono HB1.out.size))
  have HGL2 : Hid (g0 < w2.heap.size) := Lib.hid (Nat.lt_of_lt_of_le HGL.out b2.size)
  clear b2 HO1 HB1
  cases v
  case false =>
    have HF : Hid (GivesS w (piecesL l a b) (.returned (.slice (some ⟨g0, 0, none⟩) 0 0)) w2) := Lib.hid ⟨_, _, _, rfl, by rw [pieces_none HV.out]; exact HO2.out, HB2.out⟩
    clear hi0 hy0 hy1 hy2 hi1 hz0 hz1 hz2
    go_wp2_with fail
    go_ret
    exact HF.out
  case true =>
    have hab := (isS_iff _).1 HV.out
    simp only at hab
    have HAB := Lib.hid hab
    have HPC : Hid (piecesL l a b = pcs a (chg (linksL l) a (b - 1 - a).toNat ++ [b])) := Lib.hid (by unfold piecesL; rw [if_pos HV.out])
    clear hab
    go_wp2_with fail
    refine (ichanges w2 D A n c l (HS.out.below HB2.out hD) (Nat.le_trans hD HB2.out.size) hn a b HAB.out.1 HAB.out.2.2 HAB.out.2.1 HKJ.out).mono ?_
    rintro e w3 ⟨B1, m1, d1, rfl, o3, b3⟩
    have HSZ : Hid (w.heap.size ≤ w2.heap.size) := Lib.hid HB2.out.size
    obtain ⟨C, hC⟩ : ∃ C, C = chg (linksL l) a (b - 1 - a).toNat := ⟨_, rfl⟩
    have hCl : C.length ≤ 1000 := by
      rw [hC]
      have h1 := chg_len (L := linksL l) (a := a) (n := (b - 1 - a).toNat)
      have := HAB.out; omega
    rw [← hC] at o3 HPC
    have hm1 : m1 = C.length := by have h1 := o3.len; rw [iv_len] at h1; omega
    subst hm1
    have b4 : Below w3.heap.size w3 (w3.alloc (.cells #[.int .i64 b] 3)) := (Below.refl _ _).alloc (Nat.le_refl _) _
    have HC4 := Lib.hid (o3.on b4)
    have hb3 := b3.trans (b4.mono b3.size)
    have HO4 := Lib.hid (HO2.out.on hb3); have HB4 := Lib.hid (HB2.out.trans (hb3.mono HB2.out.size))
    have HBC := Lib.hid hb3
    have hsz : w2.heap.size ≤ (w3.alloc (.cells #[.int .i64 b] 3)).heap.size := HBC.out.size
    have hb8 : (C.length + 1) * 8 ≤ 140737488355328 := by omega
    clear b4 hb3 b3 o3 hC HO2 HB2
    go_wp2_with (at_builtin; go_loud (refine wpList_append_sl _ rfl (.tmp 20) (.tmp 22) 37 rfl w2.heap.size 3 i0 _ 1 8 Try.underlying37 hi0 hy0 hy1 hy2 rfl (by omega) B1 C.length d1 (iv C) rfl HC4.out (w3.heap.size + 1) _ 1 1 [.int .i64 b] rfl (Sl.one w3 _ _) (by simp [Value.oneCell']) (by omega) hb8 hsz ?_; intro A5 c5 w5 hown5 hg5 hat5; have HC5 : Hid (Own w5 w2.heap.size 3 1 A5 (C.length + 1) c5 (iv (C ++ [b]))) := Lib.hid (by rw [iv_app]; exact hown5); have HO5 : Hid (Own w5 w.heap.size 30 2 (some ⟨g0, 0, none⟩) 0 0 (sv [])) := Lib.hid (HO4.out.kept hg5 (.inr (fun e => by have h1 := HC4.out.blk; rw [← e] at h1; simp [Value.ownBlock] at h1; have := HGL2.out; omega))); have HB5 : Hid (Below w.heap.size w w5) := Lib.hid (HB4.out.grown hg5 HB4.out.size (fun j hj => Nat.le_trans HSZ.out (HC4.out.row.lt j hj).1)); clear hown5 hg5 hat5))
    obtain ⟨E, hE⟩ : ∃ E, E = C ++ [b] := ⟨_, rfl⟩
    have hEl : E.length = C.length + 1 := by rw [hE]; simp
    rw [← hE] at HC5 HPC
    obtain ⟨m, hm⟩ : ∃ m, m = E.length := ⟨_, rfl⟩
    rw [← hEl, ← hm, show ((C.length : Int) + 1) = (m : Int) by omega]
    rw [← hEl, ← hm] at HC5
    have hm1000 : m ≤ 1001 := by omega
    have HM := Lib.hid hm
    clear hE hEl hm HC4 HO4 HB4 HBC hb8 hsz
    obtain ⟨lo, hlo⟩ : ∃ x, x = w2.heap.size := ⟨_, rfl⟩
    obtain ⟨hi, hhi⟩ : ∃ x, x = w5.heap.size := ⟨_, rfl⟩
    have HK0 : Hid (Keeps lo hi w5 w5) := Lib.hid (by rw [hhi]; exact Keeps.refl w5 lo)
    have HF0 : Hid (Off lo hi (some (⟨g0, 0, none⟩ : Addr))) := Lib.hid (fun ad e => by injection e with e; subst e; left; rw [hlo]; exact HGL2.out)
    have HCM : Hid (∀ wr, Keeps lo hi w5 wr → Sl wr hi 1 A5 m c5 (iv E)) := Lib.hid fun wr hk => HC5.out.mid (Nat.le_of_eq hlo) (Nat.le_of_eq hhi.symm) hk
    have hcm := HC5.out.capm
    clear hlo hhi HC5
    go_wp2_with fail
    go_loopw [1, 7, 9, 25] (fun u o ev i wr => ∃ (k : Nat) (A1 : Option Addr) (n1 c1 : Nat), k ≤ E.length ∧ i = .int .i64 k ∧ u = .int .i64 (lastE a (E.take k)) ∧ o = .slice A1 n1 c1 ∧ Own wr w.heap.size 30 2 A1 n1 c1 (sv (pcs a (E.take k))) ∧ Off lo hi A1 ∧ Keeps lo hi w5 wr ∧ Below w.heap.size w wr) (fun _ _ _ i _ => E.length - (intOf i).toNat)
    case atStart => exact ⟨0, _, 0, 0, Nat.zero_le _, rfl, rfl, rfl, HO5.out, HF0.out, HK0.out, HB5.out⟩
    case round =>
      clear HK0 HF0 HO5 HB5
      obtain ⟨k, A1, n1, c1, hk, rfl, rfl, rfl, ho, hf, hkp, hb⟩ := hrel
      have HO := Lib.hid ho; have HF := Lib.hid hf; have HK := Lib.hid hkp; have HB := Lib.hid hb
      clear ho hf hkp hb
      by_cases hlt : k < E.length
      case neg =>
        obtain rfl : k = E.length := by omega
        have HR : Hid (GivesS w (piecesL l a b) (.returned (.slice A1 n1 c1)) wr) := Lib.hid ⟨_, _, _, rfl, by rw [HPC.out]; have h := HO.out; rw [List.take_length] at h; exact h, HB.out⟩
        have hkm : ¬ ((E.length : Int) < (m : Int)) := by have := HM.out; omega
        clear hi0 hy0 hy1 hy2 hi1 hz0 hz1 hz2
        go_wp2_with fail
        go_ret
        exact HR.out
      case pos =>
        have hkm : k < m := by have := HM.out; omega
        have hk0 : (0 : Int) ≤ (k : Int) := by omega
        have hkl : (k : Int) < (m : Int) := by omega
        obtain ⟨ad, hx, rfl, had, q0⟩ := (HCM.out _ HK.out).intE hkm
        have HT := Lib.hid (pcsE_take a E k hlt); have HLT := Lib.hid (lastEE_take a E k hlt)
        obtain ⟨e, he⟩ : ∃ e, e = E[k] := ⟨_, rfl⟩
        rw [← he] at q0 HT HLT
        have HE : Hid (E[k] = e) := Lib.hid he.symm
        clear he
        obtain ⟨u, hu⟩ : ∃ u, u = lastE a (E.take k) := ⟨_, rfl⟩
        rw [← hu] at HT
        rw [← hu]
        clear hu
        obtain ⟨L, hL⟩ : ∃ L, L = pcs a (E.take k) := ⟨_, rfl⟩
        have hLn : L.length ≤ 1001 := by rw [hL, pcs_len, List.length_take]; have := HM.out; omega
        rw [← hL] at HO HT
        clear hL
        have hn1 : n1 = L.length := by have h2 := HO.out.len; rw [sv_len] at h2; omega
        subst hn1
        obtain ⟨W4, hW4⟩ : ∃ W, W = wr.alloc (.cells #[.int .i64 u, .int .i64 e] 30) := ⟨_, rfl⟩
        have b4 : Below wr.heap.size wr W4 := by rw [hW4]; exact (Below.refl _ _).alloc (Nat.le_refl _) _
        have HO4 := Lib.hid (HO.out.on b4); have HB4 := Lib.hid (HB.out.trans (b4.mono HB.out.size)); have HK4 := Lib.hid (HK.out.below b4)
        have SL : Hid (Sl W4 (wr.heap.size + 1) 2 (some ⟨wr.heap.size, 0, none⟩) 1 1 [.int .i64 u, .int .i64 e]) := Lib.hid (by rw [hW4]; exact Sl.one2 wr _ _ _)
        have hsz : w.heap.size ≤ W4.heap.size := HB4.out.size
        have hb16 : (L.length + 1) * 16 ≤ 140737488355328 := by omega
        clear b4 HO HB
        go_wp2_with (at_builtin; go_loud (rw [← hW4]; refine wpList_append_sl _ rfl (.tmp 29) (.tmp 33) 27 rfl w.heap.size 30 i1 _ 2 16 Try.underlying27 hi1 hz0 hz1 hz2 rfl (by omega) A1 L.length c1 (sv L) rfl HO4.out (wr.heap.size + 1) _ 1 1 [.int .i64 u, .int .i64 e] rfl SL.out (by simp [Value.oneCell']) (by omega) hb16 hsz ?_; intro A6 c6 w6 hown6 hg6 hat6; have HR : Hid (Own w6 w.heap.size 30 2 A6 (L.length + 1) c6 (sv (pcs a (E.take (k + 1)))) ∧ Off lo hi A6 ∧ Keeps lo hi w5 w6 ∧ Below w.heap.size w w6) := Lib.hid ⟨by rw [HT.out, sv_app]; exact hown6, HF.out.app hat6 (HK4.out.1), HK4.out.grown hg6 HF.out, HB4.out.grown hg6 HB4.out.size (fun j hj => (HO4.out.row.lt j hj).1)⟩; obtain ⟨ad', hx', ee, had', q6⟩ := (HCM.out _ HR.out.2.2.1).intE hkm; injection ee with ee; subst ee; rw [HE.out] at q6; clear hown6 hg6 hat6))
        go_roundw
        case rel => exact ⟨k + 1, A6, L.length + 1, c6, by omega, by go_num, by rw [HLT.out], rfl, HR.out⟩
        case measure => simp [intOf]; have := HM.out; omega
end Go.Proofs.Ytfnhfpahdgbfgaa
