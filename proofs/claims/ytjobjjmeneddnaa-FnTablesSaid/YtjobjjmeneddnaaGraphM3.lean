/- The model's NeighborsIn. -/
import Derived.Test.YtjobjjmeneddnaaGraphM2
namespace Go.Proofs.Ytjobjjmeneddnaa
open Go.ChangeShapes Go.WideShapes Go.ChangeAt Go.RowKit
set_option linter.unusedVariables false
theorem iv_take (l : List Int) (k : Nat) : (iv l).take k = iv (l.take k) := by simp [iv]
theorem iv_drop (l : List Int) (k : Nat) : (iv l).drop k = iv (l.drop k) := by simp [iv]
/-- the first k elements, and those behind them -/
theorem Sl.takeI {w : World} {B n c : Nat} {A : Option Addr} {l : List Int} (h : Sl w B 1 A n c (iv l)) {k : Nat} (hk : k ≤ n) : Sl w B 1 A k c (iv (l.take k)) := by
  have hl := h.len; rw [iv_len] at hl
  exact ⟨by rw [iv_len, List.length_take]; omega, by rw [← iv_take]; exact h.rd.take k, Nat.le_trans hk h.cap, h.capm, h.nil⟩
theorem Sl.dropI {w : World} {B n c : Nat} {a : Addr} {l : List Int} (h : Sl w B 1 (some a) n c (iv l)) {k : Nat} (hk : k ≤ n) (A' : Option Addr) (hA : k < n → A' = some (a.add k)) (hz : A' = none → c - k = 0) : Sl w B 1 A' (n - k) (c - k) (iv (l.drop k)) := by
  have hl := h.len; rw [iv_len] at hl
  refine ⟨by rw [iv_len, List.length_drop]; omega, by
    rw [← iv_drop]
    exact h.rd.cut k A' (fun h2 ad e => by injection e with e; subst e; exact hA (by rw [iv_len] at h2; omega)), by have := h.cap; omega, by have := h.capm; omega, hz⟩
theorem Blk.slI {w : World} {g : Nat} {t : TypeId} {z : Int} (h : Blk w g t #[.int .i64 z]) {B : Nat} (hB : g < B) : Sl w B 1 (some ⟨g, 0, none⟩) 1 1 [.int .i64 z] := by
  refine ⟨rfl, fun _ => ⟨_, rfl, hB, fun j u hu => ?_⟩, Nat.le_refl _, by omega, fun e => by cases e⟩
  cases j with
  | zero => injection hu with hu; subst hu; exact h.cell 0
  | succ j => simp at hu
set_option maxRecDepth 100000 in
set_option maxHeartbeats 4000000 in
theorem snb (w : World) (D : Nat) (A : Option Addr) (n c : Nat) (l : List (Int × Int)) (h : Sl w D 2 A n c (sv l)) (hD : D ≤ w.heap.size) (hn : n ≤ 16777216) (v : Int) :
    Calls Try.prog 77 #[.slice A n c, .int .i64 v] w (GivesIM w (nbL l v)) := by
  obtain ⟨i0, hi0, hy0, hy1, hy2⟩ := info_parts intK_info
  have hna : n = l.length := by have h1 := h.len; rw [sv_len] at h1; omega
  subst hna
  have HS := Lib.hid h
  have hcap := h.cap; have hcapm := h.capm
  clear h
  have hfirst : Hid (Own (w.alloc (.cells #[] 3)) w.heap.size 3 1 (some ⟨w.heap.size, 0, none⟩) 0 0 (iv (nbL (l.take 0) v)) ∧ Below w.heap.size w (w.alloc (.cells #[] 3))) := Lib.hid ⟨Own.made1 w w.heap.size _ (Nat.le_refl _), (Below.refl _ _).alloc (Nat.le_refl _) _⟩
  go_enter Try.func77, Try.ntmps77
  go_wp2_with fail
  go_loopw [5, 6] (fun o i wr => ∃ (k g n1 c1 : Nat), k ≤ l.length ∧ i = .int .i64 k ∧ o = .slice (some ⟨g, 0, none⟩) n1 c1 ∧ Own wr w.heap.size 3 1 (some ⟨g, 0, none⟩) n1 c1 (iv (nbL (l.take k) v)) ∧ Below w.heap.size w wr) (fun _ i _ => l.length - (intOf i).toNat)
  case atStart => exact ⟨0, w.heap.size, _, _, Nat.zero_le _, rfl, rfl, hfirst.out⟩
  case round =>
    clear hfirst
    obtain ⟨k, g, n1, c1, hk, rfl, rfl, ho, hb⟩ := hrel
    have HO := Lib.hid ho; have HB := Lib.hid hb
    clear ho hb
    by_cases hlt : k < l.length
    case neg =>
      obtain rfl : k = l.length := by omega
      have HF : Hid (GivesIM w (nbL l v) (.returned (.slice (some ⟨g, 0, none⟩) n1 c1)) wr) := Lib.hid ⟨_, _, _, rfl, by have h := HO.out; rw [List.take_length] at h; exact h, HB.out⟩
      clear hi0 hy0 hy1 hy2
      go_wp2_with fail
      go_ret
      exact HF.out
    case pos =>
      obtain ⟨ad, hx, rfl, had, c0, c1'⟩ := (HS.out.below HB.out hD).two hlt
      have HT := Lib.hid (nbL_snoc l k hlt v)
      obtain ⟨z, hz⟩ : ∃ z, z = l[k] := ⟨_, rfl⟩
      rw [← hz] at HT c0 c1'
      clear hz
      obtain ⟨p, q⟩ := z
      simp only at c0 c1'
      have hk0 : (0 : Int) ≤ (k : Int) := by omega
      have hkl : (k : Int) < (l.length : Int) := by omega
      obtain ⟨L, hL⟩ : ∃ L, L = nbL (l.take k) v := ⟨_, rfl⟩
      have hLn : L.length ≤ 16777216 := by
        rw [hL]
        have h1 := nbL_len (l.take k) v
        rw [List.length_take] at h1; omega
      rw [← hL] at HO HT
      clear hL
      have hn1 : n1 = L.length := by have h2 := HO.out.len; rw [iv_len] at h2; omega
      subst hn1
      have hc1 := HO.out.capm
      obtain ⟨W0, hW0⟩ : ∃ W, W = wr := ⟨_, rfl⟩
      subst hW0
      by_cases hpq : p = v ∨ q = v
      case neg =>
        have h1 : (p == v) = false := by simp; intro e; exact hpq (.inl e)
        have h2 : (q == v) = false := by simp; intro e; exact hpq (.inr e)
        have HF : Hid (Own W0 w.heap.size 3 1 (some ⟨g, 0, none⟩) L.length c1 (iv (nbL (l.take (k + 1)) v))) := Lib.hid (by
          rw [HT.out]; unfold nbStep farE
          rw [if_neg (fun e => hpq (.inl e)), if_neg (fun e => hpq (.inr e))]
          exact HO.out)
        clear hpq
        go_wp2_with fail
        go_roundw
        case rel => exact ⟨k + 1, g, L.length, c1, by omega, by go_num, rfl, HF.out, HB.out⟩
        case measure => simp [intOf]; omega
      case pos =>
        obtain ⟨m, hm⟩ : ∃ m, farE v (p, q) = some m := by
          unfold farE
          rcases hpq with e | e
          · exact ⟨_, if_pos e⟩
          · by_cases e1 : p = v
            · exact ⟨_, if_pos e1⟩
            · exact ⟨p, by rw [if_neg (by simpa using e1), if_pos (by simpa using e)]⟩
        have HNB : Hid (nbL (l.take (k + 1)) v = insN L m) := Lib.hid (by rw [HT.out]; unfold nbStep; rw [hm])
        have hcase : (p = v ∧ m = q) ∨ ((p == v) = false ∧ q = v ∧ m = p) := by
          unfold farE at hm
          by_cases e1 : p = v
          · rw [if_pos (by simpa using e1)] at hm
            injection hm with hm
            exact .inl ⟨e1, hm.symm⟩
          · rw [if_neg (by simpa using e1)] at hm
            have e2 : q = v := by rcases hpq with e | e; exact absurd e e1; exact e
            rw [if_pos (by simpa using e2)] at hm
            injection hm with hm
            exact .inr ⟨by simpa using e1, e2, hm.symm⟩
        clear hm hpq HT
        rcases hcase with ⟨rfl, rfl⟩ | ⟨h1, rfl, rfl⟩
        all_goals
          go_wp2_with fail
          go_loopw [8] (fun j w2 => ∃ j0 : Nat, j0 ≤ L.length ∧ j = .int .i64 j0 ∧ Hid (∀ i, (h : i < L.length) → i < j0 → L[i] < m) ∧ w2 = W0) (fun j _ => L.length - (intOf j).toNat)
          case atStart => exact ⟨0, Nat.zero_le _, rfl, Lib.hid (fun i h h2 => by omega), rfl⟩
          case round =>
            obtain ⟨j0, hj, rfl, hless, rfl⟩ := hrel
            have hj0 : (0 : Int) ≤ (j0 : Int) := by omega
            by_cases hgo : ∃ h : j0 < L.length, L[j0] < m
            case pos =>
              obtain ⟨hjl, hlm⟩ := hgo
              have hjl' : (j0 : Int) < (L.length : Int) := by omega
              obtain ⟨gd, hx2, e, hgd, q0⟩ := HO.out.sl.int hjl
              injection e with e
              subst e
              have ea : (⟨g, 0, none⟩ : Addr).add j0 = ⟨g, j0, none⟩ := by unfold Addr.add; split <;> simp_all
              rw [ea] at q0
              have HLS : Hid (∀ i, (h : i < L.length) → i < j0 + 1 → L[i] < m) := Lib.hid fun i hi hij => by
                by_cases e : i = j0
                · subst e; exact hlm
                · exact hless.out i hi (by omega)
              obtain ⟨y, hyy⟩ : ∃ x, x = L[j0] := ⟨_, rfl⟩
              rw [← hyy] at q0 hlm
              clear hyy hless ea
              go_wp2_with fail
              go_roundw
              case rel => exact ⟨j0 + 1, by omega, by go_num, HLS, by first | rfl | trivial⟩
              case measure => simp [intOf]; omega
            case neg =>
              have HIN := Lib.hid (insN_at L m j0 hj hless.out (fun h e => hgo ⟨h, e⟩))
              clear hless
              by_cases hjl : j0 < L.length
              case pos =>
                have hjl' : (j0 : Int) < (L.length : Int) := by omega
                have hjn : ((j0 : Int) == (L.length : Int)) = false := by simp; omega
                have hnl : ¬ L[j0] < m := fun e => hgo ⟨hjl, e⟩
                obtain ⟨gd, hx2, e, hgd, q0⟩ := HO.out.sl.int hjl
                injection e with e
                subst e
                have ea : (⟨g, 0, none⟩ : Addr).add j0 = ⟨g, j0, none⟩ := by unfold Addr.add; split <;> simp_all
                rw [ea] at q0
                obtain ⟨y, hyy⟩ : ∃ x, x = L[j0] := ⟨_, rfl⟩
                rw [← hyy] at q0 hnl
                have HYY := Lib.hid hyy
                clear hyy ea hgo
                by_cases hym : y = m
                case pos =>
                  subst hym
                  have HF : Hid (Own wr w.heap.size 3 1 (some ⟨g, 0, none⟩) L.length c1 (iv (nbL (l.take (k + 1)) _))) := Lib.hid (by
                    rw [HNB.out, HIN.out, if_pos ⟨hjl, HYY.out.symm⟩]; exact HO.out)
                  go_wp2_with fail
                  go_roundw
                  case rel => exact ⟨k + 1, g, L.length, c1, by omega, by go_num, rfl, HF.out, HB.out⟩
                  case measure => simp [intOf]; omega
                case neg =>
                  have hyn : (y != m) = true := by simpa using hym
                  have HINS : Hid (nbL (l.take (k + 1)) _ = L.take j0 ++ m :: L.drop j0) := Lib.hid (HNB.out.trans (HIN.out.trans (if_neg (by rintro ⟨h, e⟩; exact hym (HYY.out.trans e)))))
                  have hjc : j0 ≤ c1 := by omega
                  have hcj : ¬ c1 = j0 := by omega
                  go_upto_region 14 with fail
                  clear HIN HYY q0 hnl hym
                  have HST : Hid (∀ w', Below wr.heap.size wr w' → Sl w' wr.heap.size 1 (some ⟨g, 0, none⟩) j0 c1 (iv (L.take j0))) := Lib.hid fun w' hb => (HO.out.sl.below hb (Nat.le_refl _)).takeI hj
                  have HSD : Hid (∀ w', Below wr.heap.size wr w' → Sl w' wr.heap.size 1 (some (⟨g, j0, none⟩ : Addr)) (L.length - j0) (c1 - j0) (iv (L.drop j0))) := Lib.hid fun w' hb => by
                    have h := (HO.out.sl.below hb (Nat.le_refl _)).dropI hj (some (⟨g, j0, none⟩ : Addr)) (fun h => by first | (exfalso; omega) | (congr 1; unfold Addr.add; split <;> simp_all)) (fun e => by cases e)
                    first | exact h | (rw [Nat.sub_self] at h; exact h)
                  have BA : Hid (Below wr.heap.size wr (wr.alloc (.cells #[] 3)).drew) := Lib.hid ((Below.refl _ _).alloc (Nat.le_refl _) _).drew
                  have BB : Hid (Below wr.heap.size wr ((wr.alloc (.cells #[] 3)).alloc (.cells #[.int .i64 m] 3)).drew) := Lib.hid (((Below.refl _ _).alloc (Nat.le_refl _) _).alloc (by simp) _).drew
                  have BC : Hid (Below wr.heap.size wr ((wr.alloc (.cells #[.int .i64 m] 3)).alloc (.cells #[] 3)).drew) := Lib.hid (((Below.refl _ _).alloc (Nat.le_refl _) _).alloc (by simp) _).drew
                  have OA : Hid (Own (wr.alloc (.cells #[] 3)).drew wr.heap.size 3 1 (some ⟨wr.heap.size, 0, none⟩) 0 0 []) := Lib.hid ((Own.made1 wr wr.heap.size 3 (Nat.le_refl _)).on (Below.refl _ _).drew)
                  have OB : Hid (Own ((wr.alloc (.cells #[] 3)).alloc (.cells #[.int .i64 m] 3)).drew wr.heap.size 3 1 (some ⟨wr.heap.size, 0, none⟩) 0 0 []) := Lib.hid ((Own.made1 wr wr.heap.size 3 (Nat.le_refl _)).on (((Below.refl _ _).alloc (Nat.le_refl _) _).drew))
                  have OC : Hid (Own ((wr.alloc (.cells #[.int .i64 m] 3)).alloc (.cells #[] 3)).drew wr.heap.size 3 1 (some ⟨wr.heap.size + 1, 0, none⟩) 0 0 []) := Lib.hid (by
                    have h := (Own.made1 (wr.alloc (.cells #[.int .i64 m] 3)) wr.heap.size 3 (by simp)).on (Below.refl _ _).drew
                    rw [World.size_alloc] at h; exact h)
                  have NB : Hid (Blk ((wr.alloc (.cells #[] 3)).alloc (.cells #[.int .i64 m] 3)).drew (wr.heap.size + 1) 3 #[.int .i64 m]) := Lib.hid (by
                    have h := (Blk.new (wr.alloc (.cells #[] 3)) 3 #[.int .i64 m]).drew
                    rw [World.size_alloc] at h; exact h)
                  have NC : Hid (Blk ((wr.alloc (.cells #[.int .i64 m] 3)).alloc (.cells #[] 3)).drew wr.heap.size 3 #[.int .i64 m]) := Lib.hid (((Blk.new wr 3 #[.int .i64 m]).alloc _).drew)
                  have hszA : wr.heap.size ≤ (wr.alloc (.cells #[] 3)).drew.heap.size := BA.out.size
                  have hszB : wr.heap.size ≤ ((wr.alloc (.cells #[] 3)).alloc (.cells #[.int .i64 m] 3)).drew.heap.size := BB.out.size
                  have hszC : wr.heap.size ≤ ((wr.alloc (.cells #[.int .i64 m] 3)).alloc (.cells #[] 3)).drew.heap.size := BC.out.size
                  have hones := Lib.hid (And.intro (iv_one (L.take j0)) (iv_one (L.drop j0)))
                  have hHJ := Lib.hid (And.intro hj hLn)
                  have HFIN : Hid (∀ (A7 : Option Addr) (n7 c7 : Nat) (w7 : World) (xs : List Value), Own w7 wr.heap.size 3 1 A7 n7 c7 xs → xs = iv (L.take j0 ++ m :: L.drop j0) → Below wr.heap.size wr w7 → ∃ g7, A7 = some ⟨g7, 0, none⟩ ∧ Own w7 w.heap.size 3 1 (some ⟨g7, 0, none⟩) n7 c7 (iv (nbL (l.take (k + 1)) _)) ∧ Below w.heap.size w w7) := Lib.hid fun A7 n7 c7 w7 xs h7 hxs hb7 => by
                    have hl := h7.len
                    rw [hxs, iv_len] at hl
                    rcases h7.form with ⟨_, hz, _⟩ | ⟨g7, rfl, _⟩
                    · simp at hl; omega
                    · exact ⟨g7, rfl, by rw [HINS.out, ← hxs]; exact h7.fewer HB.out.size, HB.out.trans (hb7.mono HB.out.size)⟩
                  go_region_held3 (fun _ => True) (trivial) (first
                      | (refine step_append_sl _ (by rfl) (.tmp 73) (.tmp 76) 27 (by rfl) wr.heap.size 3 i0 _ 1 8 Try.underlying27 hi0 hy0 hy1 hy2 rfl (by omega) A6 _ c6 _ (by rfl) O6.out wr.heap.size (some (⟨g, j0, none⟩ : Addr)) (L.length - j0) (c1 - j0) (iv (L.drop j0)) (by rfl) (HSD.out _ B6.out) hones.out.2 (by have := hHJ.out; omega) (by have := hHJ.out; omega) B6.out.size ?_; intro A7 c7 w7 hown7 hg7 hat7; have HF := Lib.hid (HFIN.out _ _ _ _ _ hown7 (by simp [iv]) (B6.out.grown hg7 B6.out.size (fun j hj => (O6.out.row.lt j hj).1))); clear hown7 hg7 hat7)
                      | (refine step_append_sl _ (by rfl) (.tmp 70) (.tmp 72) 27 (by rfl) wr.heap.size 3 i0 _ 1 8 Try.underlying27 hi0 hy0 hy1 hy2 rfl (by omega) A5 _ c5 _ (by rfl) O5.out (wr.heap.size + 2) _ 1 1 [.int .i64 m] (by rfl) SN5.out (by simp [Value.oneCell']) (by have := hHJ.out; omega) (by have := hHJ.out; omega) B5.out.size ?_; intro A6 c6 w6 hown6 hg6 hat6; have O6 := Lib.hid hown6; have B6 : Hid (Below wr.heap.size wr w6) := Lib.hid (B5.out.grown hg6 B5.out.size (fun j hj => (O5.out.row.lt j hj).1)); clear hown6 hg6 hat6)
                      | (refine step_append_sl _ (by rfl) (.tmp 70) (.tmp 72) 27 (by rfl) wr.heap.size 3 i0 _ 1 8 Try.underlying27 hi0 hy0 hy1 hy2 rfl (by omega) A5 _ c5 _ (by rfl) O5N.out (w5.heap.size + 1) _ 1 1 [.int .i64 m] (by rfl) (Sl.one w5 _ _) (by simp [Value.oneCell']) (by have := hHJ.out; omega) (by have := hHJ.out; omega) B5N.out.size ?_; intro A6 c6 w6 hown6 hg6 hat6; have O6 := Lib.hid hown6; have B6 : Hid (Below wr.heap.size wr w6) := Lib.hid (B5N.out.grown hg6 B5N.out.size (fun j hj => (O5N.out.row.lt j hj).1)); clear hown6 hg6 hat6)
                      | (refine step_append_sl _ (by rfl) (.tmp 66) (.tmp 69) 27 (by rfl) wr.heap.size 3 i0 _ 1 8 Try.underlying27 hi0 hy0 hy1 hy2 rfl (by omega) (some ⟨wr.heap.size, 0, none⟩) 0 0 [] (by rfl) OA.out wr.heap.size (some ⟨g, 0, none⟩) j0 c1 (iv (L.take j0)) (by rfl) (HST.out _ BA.out) hones.out.1 (by have := hHJ.out; omega) (by have := hHJ.out; omega) hszA ?_; intro A5 c5 w5 hown5 hg5 hat5; rw [Nat.zero_add] at hown5; have B5 : Hid (Below wr.heap.size wr w5) := Lib.hid (BA.out.grown hg5 hszA (fun j hj => (OA.out.row.lt j hj).1)); have O5N := Lib.hid (hown5.on ((Below.refl _ _).alloc (Nat.le_refl _) (.cells #[.int .i64 m] 3))); have B5N := Lib.hid (B5.out.alloc B5.out.size (.cells #[.int .i64 m] 3)); clear hown5 hg5 hat5)
                      | (refine step_append_sl _ (by rfl) (.tmp 66) (.tmp 69) 27 (by rfl) wr.heap.size 3 i0 _ 1 8 Try.underlying27 hi0 hy0 hy1 hy2 rfl (by omega) (some ⟨wr.heap.size, 0, none⟩) 0 0 [] (by rfl) OB.out wr.heap.size (some ⟨g, 0, none⟩) j0 c1 (iv (L.take j0)) (by rfl) (HST.out _ BB.out) hones.out.1 (by have := hHJ.out; omega) (by have := hHJ.out; omega) hszB ?_; intro A5 c5 w5 hown5 hg5 hat5; have B5 : Hid (Below wr.heap.size wr w5) := Lib.hid (BB.out.grown hg5 hszB (fun j hj => (OB.out.row.lt j hj).1)); have O5 := Lib.hid hown5; have SN5 := Lib.hid (Blk.slI (NB.out.grown' (fun a e => by injection e with e; subst e; simp) hg5) (show wr.heap.size + 1 < wr.heap.size + 2 by omega)); clear hown5 hg5 hat5)
                      | (refine step_append_sl _ (by rfl) (.tmp 66) (.tmp 69) 27 (by rfl) wr.heap.size 3 i0 _ 1 8 Try.underlying27 hi0 hy0 hy1 hy2 rfl (by omega) (some ⟨wr.heap.size + 1, 0, none⟩) 0 0 [] (by rfl) OC.out wr.heap.size (some ⟨g, 0, none⟩) j0 c1 (iv (L.take j0)) (by rfl) (HST.out _ BC.out) hones.out.1 (by have := hHJ.out; omega) (by have := hHJ.out; omega) hszC ?_; intro A5 c5 w5 hown5 hg5 hat5; have B5 : Hid (Below wr.heap.size wr w5) := Lib.hid (BC.out.grown hg5 hszC (fun j hj => (OC.out.row.lt j hj).1)); have O5 := Lib.hid hown5; have SN5 := Lib.hid (Blk.slI (NC.out.grown' (fun a e => by injection e with e; subst e; simp) hg5) (show wr.heap.size < wr.heap.size + 2 by omega)); clear hown5 hg5 hat5))
                  all_goals
                    obtain ⟨g7, rfl, hf⟩ := HF.out
                    have HF2 := Lib.hid hf
                    clear hf HF
                    go_wp2_with fail
                    go_roundw
                    case rel => exact ⟨k + 1, g7, _, c7, by omega, by go_num, rfl, by first | exact HF2.out | (have h := HF2.out; simp only [Nat.zero_add] at h; exact h)⟩
                    case measure => simp [intOf]; omega
              case neg =>
                obtain rfl : j0 = L.length := by omega
                have hjn : ((L.length : Int) == (L.length : Int)) = true := by simp
                have HINS : Hid (nbL (l.take (k + 1)) _ = L.take L.length ++ m :: L.drop L.length) := Lib.hid (HNB.out.trans (HIN.out.trans (if_neg (by rintro ⟨h, e⟩; omega))))
                clear hgo HIN
                have hjc : L.length ≤ c1 := by omega
                by_cases hcj : c1 = L.length
                case pos =>
                  subst hcj
                  go_upto_region 14 with fail
                  have HST : Hid (∀ w', Below wr.heap.size wr w' → Sl w' wr.heap.size 1 (some ⟨g, 0, none⟩) L.length L.length (iv (L.take L.length))) := Lib.hid fun w' hb => (HO.out.sl.below hb (Nat.le_refl _)).takeI hj
                  have HSD : Hid (∀ w', Below wr.heap.size wr w' → Sl w' wr.heap.size 1 (some (⟨g, 0, none⟩ : Addr)) 0 0 (iv (L.drop L.length))) := Lib.hid fun w' hb => by
                    have h := (HO.out.sl.below hb (Nat.le_refl _)).dropI hj (some (⟨g, 0, none⟩ : Addr)) (fun h => by first | (exfalso; omega) | (congr 1; unfold Addr.add; split <;> simp_all)) (fun e => by cases e)
                    first | exact h | (rw [Nat.sub_self] at h; exact h)
                  have BA : Hid (Below wr.heap.size wr (wr.alloc (.cells #[] 3)).drew) := Lib.hid ((Below.refl _ _).alloc (Nat.le_refl _) _).drew
                  have BB : Hid (Below wr.heap.size wr ((wr.alloc (.cells #[] 3)).alloc (.cells #[.int .i64 m] 3)).drew) := Lib.hid (((Below.refl _ _).alloc (Nat.le_refl _) _).alloc (by simp) _).drew
                  have BC : Hid (Below wr.heap.size wr ((wr.alloc (.cells #[.int .i64 m] 3)).alloc (.cells #[] 3)).drew) := Lib.hid (((Below.refl _ _).alloc (Nat.le_refl _) _).alloc (by simp) _).drew
                  have OA : Hid (Own (wr.alloc (.cells #[] 3)).drew wr.heap.size 3 1 (some ⟨wr.heap.size, 0, none⟩) 0 0 []) := Lib.hid ((Own.made1 wr wr.heap.size 3 (Nat.le_refl _)).on (Below.refl _ _).drew)
                  have OB : Hid (Own ((wr.alloc (.cells #[] 3)).alloc (.cells #[.int .i64 m] 3)).drew wr.heap.size 3 1 (some ⟨wr.heap.size, 0, none⟩) 0 0 []) := Lib.hid ((Own.made1 wr wr.heap.size 3 (Nat.le_refl _)).on (((Below.refl _ _).alloc (Nat.le_refl _) _).drew))
                  have OC : Hid (Own ((wr.alloc (.cells #[.int .i64 m] 3)).alloc (.cells #[] 3)).drew wr.heap.size 3 1 (some ⟨wr.heap.size + 1, 0, none⟩) 0 0 []) := Lib.hid (by
                    have h := (Own.made1 (wr.alloc (.cells #[.int .i64 m] 3)) wr.heap.size 3 (by simp)).on (Below.refl _ _).drew
                    rw [World.size_alloc] at h; exact h)
                  have NB : Hid (Blk ((wr.alloc (.cells #[] 3)).alloc (.cells #[.int .i64 m] 3)).drew (wr.heap.size + 1) 3 #[.int .i64 m]) := Lib.hid (by
                    have h := (Blk.new (wr.alloc (.cells #[] 3)) 3 #[.int .i64 m]).drew
                    rw [World.size_alloc] at h; exact h)
                  have NC : Hid (Blk ((wr.alloc (.cells #[.int .i64 m] 3)).alloc (.cells #[] 3)).drew wr.heap.size 3 #[.int .i64 m]) := Lib.hid (((Blk.new wr 3 #[.int .i64 m]).alloc _).drew)
                  have hszA : wr.heap.size ≤ (wr.alloc (.cells #[] 3)).drew.heap.size := BA.out.size
                  have hszB : wr.heap.size ≤ ((wr.alloc (.cells #[] 3)).alloc (.cells #[.int .i64 m] 3)).drew.heap.size := BB.out.size
                  have hszC : wr.heap.size ≤ ((wr.alloc (.cells #[.int .i64 m] 3)).alloc (.cells #[] 3)).drew.heap.size := BC.out.size
                  have hones := Lib.hid (And.intro (iv_one (L.take L.length)) (iv_one (L.drop L.length)))
                  have hHJ := Lib.hid (And.intro hj hLn)
                  have HFIN : Hid (∀ (A7 : Option Addr) (n7 c7 : Nat) (w7 : World) (xs : List Value), Own w7 wr.heap.size 3 1 A7 n7 c7 xs → xs = iv (L.take L.length ++ m :: L.drop L.length) → Below wr.heap.size wr w7 → ∃ g7, A7 = some ⟨g7, 0, none⟩ ∧ Own w7 w.heap.size 3 1 (some ⟨g7, 0, none⟩) n7 c7 (iv (nbL (l.take (k + 1)) _)) ∧ Below w.heap.size w w7) := Lib.hid fun A7 n7 c7 w7 xs h7 hxs hb7 => by
                    have hl := h7.len
                    rw [hxs, iv_len] at hl
                    rcases h7.form with ⟨_, hz, _⟩ | ⟨g7, rfl, _⟩
                    · simp at hl; omega
                    · exact ⟨g7, rfl, by rw [HINS.out, ← hxs]; exact h7.fewer HB.out.size, HB.out.trans (hb7.mono HB.out.size)⟩
                  go_region_held3 (fun _ => True) (trivial) (first
                      | (refine step_append_sl _ (by rfl) (.tmp 73) (.tmp 76) 27 (by rfl) wr.heap.size 3 i0 _ 1 8 Try.underlying27 hi0 hy0 hy1 hy2 rfl (by omega) A6 _ c6 _ (by rfl) O6.out wr.heap.size (some (⟨g, 0, none⟩ : Addr)) 0 0 (iv (L.drop L.length)) (by rfl) (HSD.out _ B6.out) hones.out.2 (by have := hHJ.out; omega) (by have := hHJ.out; omega) B6.out.size ?_; intro A7 c7 w7 hown7 hg7 hat7; have HF := Lib.hid (HFIN.out _ _ _ _ _ hown7 (by simp [iv]) (B6.out.grown hg7 B6.out.size (fun j hj => (O6.out.row.lt j hj).1))); clear hown7 hg7 hat7)
                      | (refine step_append_sl _ (by rfl) (.tmp 70) (.tmp 72) 27 (by rfl) wr.heap.size 3 i0 _ 1 8 Try.underlying27 hi0 hy0 hy1 hy2 rfl (by omega) A5 _ c5 _ (by rfl) O5.out (wr.heap.size + 2) _ 1 1 [.int .i64 m] (by rfl) SN5.out (by simp [Value.oneCell']) (by have := hHJ.out; omega) (by have := hHJ.out; omega) B5.out.size ?_; intro A6 c6 w6 hown6 hg6 hat6; have O6 := Lib.hid hown6; have B6 : Hid (Below wr.heap.size wr w6) := Lib.hid (B5.out.grown hg6 B5.out.size (fun j hj => (O5.out.row.lt j hj).1)); clear hown6 hg6 hat6)
                      | (refine step_append_sl _ (by rfl) (.tmp 70) (.tmp 72) 27 (by rfl) wr.heap.size 3 i0 _ 1 8 Try.underlying27 hi0 hy0 hy1 hy2 rfl (by omega) A5 _ c5 _ (by rfl) O5N.out (w5.heap.size + 1) _ 1 1 [.int .i64 m] (by rfl) (Sl.one w5 _ _) (by simp [Value.oneCell']) (by have := hHJ.out; omega) (by have := hHJ.out; omega) B5N.out.size ?_; intro A6 c6 w6 hown6 hg6 hat6; have O6 := Lib.hid hown6; have B6 : Hid (Below wr.heap.size wr w6) := Lib.hid (B5N.out.grown hg6 B5N.out.size (fun j hj => (O5N.out.row.lt j hj).1)); clear hown6 hg6 hat6)
                      | (refine step_append_sl _ (by rfl) (.tmp 66) (.tmp 69) 27 (by rfl) wr.heap.size 3 i0 _ 1 8 Try.underlying27 hi0 hy0 hy1 hy2 rfl (by omega) (some ⟨wr.heap.size, 0, none⟩) 0 0 [] (by rfl) OA.out wr.heap.size (some ⟨g, 0, none⟩) L.length L.length (iv (L.take L.length)) (by rfl) (HST.out _ BA.out) hones.out.1 (by have := hHJ.out; omega) (by have := hHJ.out; omega) hszA ?_; intro A5 c5 w5 hown5 hg5 hat5; rw [Nat.zero_add] at hown5; have B5 : Hid (Below wr.heap.size wr w5) := Lib.hid (BA.out.grown hg5 hszA (fun j hj => (OA.out.row.lt j hj).1)); have O5N := Lib.hid (hown5.on ((Below.refl _ _).alloc (Nat.le_refl _) (.cells #[.int .i64 m] 3))); have B5N := Lib.hid (B5.out.alloc B5.out.size (.cells #[.int .i64 m] 3)); clear hown5 hg5 hat5)
                      | (refine step_append_sl _ (by rfl) (.tmp 66) (.tmp 69) 27 (by rfl) wr.heap.size 3 i0 _ 1 8 Try.underlying27 hi0 hy0 hy1 hy2 rfl (by omega) (some ⟨wr.heap.size, 0, none⟩) 0 0 [] (by rfl) OB.out wr.heap.size (some ⟨g, 0, none⟩) L.length L.length (iv (L.take L.length)) (by rfl) (HST.out _ BB.out) hones.out.1 (by have := hHJ.out; omega) (by have := hHJ.out; omega) hszB ?_; intro A5 c5 w5 hown5 hg5 hat5; have B5 : Hid (Below wr.heap.size wr w5) := Lib.hid (BB.out.grown hg5 hszB (fun j hj => (OB.out.row.lt j hj).1)); have O5 := Lib.hid hown5; have SN5 := Lib.hid (Blk.slI (NB.out.grown' (fun a e => by injection e with e; subst e; simp) hg5) (show wr.heap.size + 1 < wr.heap.size + 2 by omega)); clear hown5 hg5 hat5)
                      | (refine step_append_sl _ (by rfl) (.tmp 66) (.tmp 69) 27 (by rfl) wr.heap.size 3 i0 _ 1 8 Try.underlying27 hi0 hy0 hy1 hy2 rfl (by omega) (some ⟨wr.heap.size + 1, 0, none⟩) 0 0 [] (by rfl) OC.out wr.heap.size (some ⟨g, 0, none⟩) L.length L.length (iv (L.take L.length)) (by rfl) (HST.out _ BC.out) hones.out.1 (by have := hHJ.out; omega) (by have := hHJ.out; omega) hszC ?_; intro A5 c5 w5 hown5 hg5 hat5; have B5 : Hid (Below wr.heap.size wr w5) := Lib.hid (BC.out.grown hg5 hszC (fun j hj => (OC.out.row.lt j hj).1)); have O5 := Lib.hid hown5; have SN5 := Lib.hid (Blk.slI (NC.out.grown' (fun a e => by injection e with e; subst e; simp) hg5) (show wr.heap.size < wr.heap.size + 2 by omega)); clear hown5 hg5 hat5))
                  all_goals
                    obtain ⟨g7, rfl, hf⟩ := HF.out
                    have HF2 := Lib.hid hf
                    clear hf HF
                    go_wp2_with fail
                    go_roundw
                    case rel => exact ⟨k + 1, g7, _, c7, by omega, by go_num, rfl, by first | exact HF2.out | (have h := HF2.out; simp only [Nat.zero_add] at h; exact h)⟩
                    case measure => simp [intOf]; omega
                case neg =>
                  go_upto_region 14 with fail
                  have HST : Hid (∀ w', Below wr.heap.size wr w' → Sl w' wr.heap.size 1 (some ⟨g, 0, none⟩) L.length c1 (iv (L.take L.length))) := Lib.hid fun w' hb => (HO.out.sl.below hb (Nat.le_refl _)).takeI hj
                  have HSD : Hid (∀ w', Below wr.heap.size wr w' → Sl w' wr.heap.size 1 (some (⟨g, L.length, none⟩ : Addr)) 0 (c1 - L.length) (iv (L.drop L.length))) := Lib.hid fun w' hb => by
                    have h := (HO.out.sl.below hb (Nat.le_refl _)).dropI hj (some (⟨g, L.length, none⟩ : Addr)) (fun h => by first | (exfalso; omega) | (congr 1; unfold Addr.add; split <;> simp_all)) (fun e => by cases e)
                    first | exact h | (rw [Nat.sub_self] at h; exact h)
                  have BA : Hid (Below wr.heap.size wr (wr.alloc (.cells #[] 3)).drew) := Lib.hid ((Below.refl _ _).alloc (Nat.le_refl _) _).drew
                  have BB : Hid (Below wr.heap.size wr ((wr.alloc (.cells #[] 3)).alloc (.cells #[.int .i64 m] 3)).drew) := Lib.hid (((Below.refl _ _).alloc (Nat.le_refl _) _).alloc (by simp) _).drew
                  have BC : Hid (Below wr.heap.size wr ((wr.alloc (.cells #[.int .i64 m] 3)).alloc (.cells #[] 3)).drew) := Lib.hid (((Below.refl _ _).alloc (Nat.le_refl _) _).alloc (by simp) _).drew
                  have OA : Hid (Own (wr.alloc (.cells #[] 3)).drew wr.heap.size 3 1 (some ⟨wr.heap.size, 0, none⟩) 0 0 []) := Lib.hid ((Own.made1 wr wr.heap.size 3 (Nat.le_refl _)).on (Below.refl _ _).drew)
                  have OB : Hid (Own ((wr.alloc (.cells #[] 3)).alloc (.cells #[.int .i64 m] 3)).drew wr.heap.size 3 1 (some ⟨wr.heap.size, 0, none⟩) 0 0 []) := Lib.hid ((Own.made1 wr wr.heap.size 3 (Nat.le_refl _)).on (((Below.refl _ _).alloc (Nat.le_refl _) _).drew))
                  have OC : Hid (Own ((wr.alloc (.cells #[.int .i64 m] 3)).alloc (.cells #[] 3)).drew wr.heap.size 3 1 (some ⟨wr.heap.size + 1, 0, none⟩) 0 0 []) := Lib.hid (by
                    have h := (Own.made1 (wr.alloc (.cells #[.int .i64 m] 3)) wr.heap.size 3 (by simp)).on (Below.refl _ _).drew
                    rw [World.size_alloc] at h; exact h)
                  have NB : Hid (Blk ((wr.alloc (.cells #[] 3)).alloc (.cells #[.int .i64 m] 3)).drew (wr.heap.size + 1) 3 #[.int .i64 m]) := Lib.hid (by
                    have h := (Blk.new (wr.alloc (.cells #[] 3)) 3 #[.int .i64 m]).drew
                    rw [World.size_alloc] at h; exact h)
                  have NC : Hid (Blk ((wr.alloc (.cells #[.int .i64 m] 3)).alloc (.cells #[] 3)).drew wr.heap.size 3 #[.int .i64 m]) := Lib.hid (((Blk.new wr 3 #[.int .i64 m]).alloc _).drew)
                  have hszA : wr.heap.size ≤ (wr.alloc (.cells #[] 3)).drew.heap.size := BA.out.size
                  have hszB : wr.heap.size ≤ ((wr.alloc (.cells #[] 3)).alloc (.cells #[.int .i64 m] 3)).drew.heap.size := BB.out.size
                  have hszC : wr.heap.size ≤ ((wr.alloc (.cells #[.int .i64 m] 3)).alloc (.cells #[] 3)).drew.heap.size := BC.out.size
                  have hones := Lib.hid (And.intro (iv_one (L.take L.length)) (iv_one (L.drop L.length)))
                  have hHJ := Lib.hid (And.intro hj hLn)
                  have HFIN : Hid (∀ (A7 : Option Addr) (n7 c7 : Nat) (w7 : World) (xs : List Value), Own w7 wr.heap.size 3 1 A7 n7 c7 xs → xs = iv (L.take L.length ++ m :: L.drop L.length) → Below wr.heap.size wr w7 → ∃ g7, A7 = some ⟨g7, 0, none⟩ ∧ Own w7 w.heap.size 3 1 (some ⟨g7, 0, none⟩) n7 c7 (iv (nbL (l.take (k + 1)) _)) ∧ Below w.heap.size w w7) := Lib.hid fun A7 n7 c7 w7 xs h7 hxs hb7 => by
                    have hl := h7.len
                    rw [hxs, iv_len] at hl
                    rcases h7.form with ⟨_, hz, _⟩ | ⟨g7, rfl, _⟩
                    · simp at hl; omega
                    · exact ⟨g7, rfl, by rw [HINS.out, ← hxs]; exact h7.fewer HB.out.size, HB.out.trans (hb7.mono HB.out.size)⟩
                  go_region_held3 (fun _ => True) (trivial) (first
                      | (refine step_append_sl _ (by rfl) (.tmp 73) (.tmp 76) 27 (by rfl) wr.heap.size 3 i0 _ 1 8 Try.underlying27 hi0 hy0 hy1 hy2 rfl (by omega) A6 _ c6 _ (by rfl) O6.out wr.heap.size (some (⟨g, L.length, none⟩ : Addr)) 0 (c1 - L.length) (iv (L.drop L.length)) (by rfl) (HSD.out _ B6.out) hones.out.2 (by have := hHJ.out; omega) (by have := hHJ.out; omega) B6.out.size ?_; intro A7 c7 w7 hown7 hg7 hat7; have HF := Lib.hid (HFIN.out _ _ _ _ _ hown7 (by simp [iv]) (B6.out.grown hg7 B6.out.size (fun j hj => (O6.out.row.lt j hj).1))); clear hown7 hg7 hat7)
                      | (refine step_append_sl _ (by rfl) (.tmp 70) (.tmp 72) 27 (by rfl) wr.heap.size 3 i0 _ 1 8 Try.underlying27 hi0 hy0 hy1 hy2 rfl (by omega) A5 _ c5 _ (by rfl) O5.out (wr.heap.size + 2) _ 1 1 [.int .i64 m] (by rfl) SN5.out (by simp [Value.oneCell']) (by have := hHJ.out; omega) (by have := hHJ.out; omega) B5.out.size ?_; intro A6 c6 w6 hown6 hg6 hat6; have O6 := Lib.hid hown6; have B6 : Hid (Below wr.heap.size wr w6) := Lib.hid (B5.out.grown hg6 B5.out.size (fun j hj => (O5.out.row.lt j hj).1)); clear hown6 hg6 hat6)
                      | (refine step_append_sl _ (by rfl) (.tmp 70) (.tmp 72) 27 (by rfl) wr.heap.size 3 i0 _ 1 8 Try.underlying27 hi0 hy0 hy1 hy2 rfl (by omega) A5 _ c5 _ (by rfl) O5N.out (w5.heap.size + 1) _ 1 1 [.int .i64 m] (by rfl) (Sl.one w5 _ _) (by simp [Value.oneCell']) (by have := hHJ.out; omega) (by have := hHJ.out; omega) B5N.out.size ?_; intro A6 c6 w6 hown6 hg6 hat6; have O6 := Lib.hid hown6; have B6 : Hid (Below wr.heap.size wr w6) := Lib.hid (B5N.out.grown hg6 B5N.out.size (fun j hj => (O5N.out.row.lt j hj).1)); clear hown6 hg6 hat6)
                      | (refine step_append_sl _ (by rfl) (.tmp 66) (.tmp 69) 27 (by rfl) wr.heap.size 3 i0 _ 1 8 Try.underlying27 hi0 hy0 hy1 hy2 rfl (by omega) (some ⟨wr.heap.size, 0, none⟩) 0 0 [] (by rfl) OA.out wr.heap.size (some ⟨g, 0, none⟩) L.length c1 (iv (L.take L.length)) (by rfl) (HST.out _ BA.out) hones.out.1 (by have := hHJ.out; omega) (by have := hHJ.out; omega) hszA ?_; intro A5 c5 w5 hown5 hg5 hat5; rw [Nat.zero_add] at hown5; have B5 : Hid (Below wr.heap.size wr w5) := Lib.hid (BA.out.grown hg5 hszA (fun j hj => (OA.out.row.lt j hj).1)); have O5N := Lib.hid (hown5.on ((Below.refl _ _).alloc (Nat.le_refl _) (.cells #[.int .i64 m] 3))); have B5N := Lib.hid (B5.out.alloc B5.out.size (.cells #[.int .i64 m] 3)); clear hown5 hg5 hat5)
                      | (refine step_append_sl _ (by rfl) (.tmp 66) (.tmp 69) 27 (by rfl) wr.heap.size 3 i0 _ 1 8 Try.underlying27 hi0 hy0 hy1 hy2 rfl (by omega) (some ⟨wr.heap.size, 0, none⟩) 0 0 [] (by rfl) OB.out wr.heap.size (some ⟨g, 0, none⟩) L.length c1 (iv (L.take L.length)) (by rfl) (HST.out _ BB.out) hones.out.1 (by have := hHJ.out; omega) (by have := hHJ.out; omega) hszB ?_; intro A5 c5 w5 hown5 hg5 hat5; have B5 : Hid (Below wr.heap.size wr w5) := Lib.hid (BB.out.grown hg5 hszB (fun j hj => (OB.out.row.lt j hj).1)); have O5 := Lib.hid hown5; have SN5 := Lib.hid (Blk.slI (NB.out.grown' (fun a e => by injection e with e; subst e; simp) hg5) (show wr.heap.size + 1 < wr.heap.size + 2 by omega)); clear hown5 hg5 hat5)
                      | (refine step_append_sl _ (by rfl) (.tmp 66) (.tmp 69) 27 (by rfl) wr.heap.size 3 i0 _ 1 8 Try.underlying27 hi0 hy0 hy1 hy2 rfl (by omega) (some ⟨wr.heap.size + 1, 0, none⟩) 0 0 [] (by rfl) OC.out wr.heap.size (some ⟨g, 0, none⟩) L.length c1 (iv (L.take L.length)) (by rfl) (HST.out _ BC.out) hones.out.1 (by have := hHJ.out; omega) (by have := hHJ.out; omega) hszC ?_; intro A5 c5 w5 hown5 hg5 hat5; have B5 : Hid (Below wr.heap.size wr w5) := Lib.hid (BC.out.grown hg5 hszC (fun j hj => (OC.out.row.lt j hj).1)); have O5 := Lib.hid hown5; have SN5 := Lib.hid (Blk.slI (NC.out.grown' (fun a e => by injection e with e; subst e; simp) hg5) (show wr.heap.size < wr.heap.size + 2 by omega)); clear hown5 hg5 hat5))
                  all_goals
                    obtain ⟨g7, rfl, hf⟩ := HF.out
                    have HF2 := Lib.hid hf
                    clear hf HF
                    go_wp2_with fail
                    go_roundw
                    case rel => exact ⟨k + 1, g7, _, c7, by omega, by go_num, rfl, by first | exact HF2.out | (have h := HF2.out; simp only [Nat.zero_add] at h; exact h)⟩
                    case measure => simp [intOf]; omega
end Go.Proofs.Ytjobjjmeneddnaa
