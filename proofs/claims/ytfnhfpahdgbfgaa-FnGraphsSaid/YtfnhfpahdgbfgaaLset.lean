/- The program's linkSetAt and isSame: the links of a tick, and their hash. -/
import Derived.Test.YtfnhfpahdgbfgaaEdges
namespace Go.Proofs.Ytfnhfpahdgbfgaa
open Go.ChangeShapes Go.WideShapes Go.ChangeAt Go.RowKit
set_option linter.unusedVariables false
/-- a block of two cells that is stored anew -/
theorem two_out {w : World} {g : Nat} {T : TypeId} {a b : Value} (h : Blk w g T #[a, b]) (x y : Value) :
    w.cell? ⟨g, 0, none⟩ = some a ∧ w.frozen? ⟨g, 0, none⟩ = false ∧ (w.setCell ⟨g, 0, none⟩ x).cell? ⟨g, 1, none⟩ = some b ∧ (w.setCell ⟨g, 0, none⟩ x).frozen? ⟨g, 1, none⟩ = false ∧
    ((w.setCell ⟨g, 0, none⟩ x).setCell ⟨g, 1, none⟩ y).cell? ⟨g, 0, none⟩ = some x ∧ ((w.setCell ⟨g, 0, none⟩ x).setCell ⟨g, 1, none⟩ y).cell? ⟨g, 1, none⟩ = some y :=
  ⟨h.cell 0, h.frozen 0, (h.set_ 0 _).cell 1, (h.set_ 0 _).frozen 1, ((h.set_ 0 x).set_ 1 y).cell 0, ((h.set_ 0 x).set_ 1 y).cell 1⟩
def flatK (l : List (Int × Int)) : List Int := l.flatMap fun x => [x.1, x.2]
theorem flatK_snoc (l : List (Int × Int)) (k : Nat) (hk : k < l.length) : flatK (l.take (k + 1)) = flatK (l.take k) ++ [l[k].1, l[k].2] := by
  unfold flatK
  rw [List.take_succ_eq_append_getElem hk, List.flatMap_append]; simp
/-- the hash of a list of links -/
def hashK (l : List (Int × Int)) : Int := hs (flatK l)
/-- what linkSetAt answers -/
def GivesT (w : World) (l : List (Int × Int)) (e : Ending) (w' : World) : Prop := ∃ A' n' c', e = .returned (.agg #[.slice A' n' c', .int .i64 (hashK l)]) ∧ Own w' w.heap.size 59 2 A' n' c' (sv l) ∧ Below w.heap.size w w'
set_option maxRecDepth 100000 in
set_option maxHeartbeats 1000000 in
theorem ilset (w : World) (D : Nat) (A : Option Addr) (n c : Nat) (l : List Sat4) (h : Sl w D 4 A n c (fl c4 l)) (hD : D ≤ w.heap.size) (hn : n ≤ 16777216) (t : Int) (hk : ∀ x ∈ l, J64 x.p ∧ J64 x.h) :
    Calls Try.prog 58 #[.slice A n c, .int .i64 t] w (GivesT w (linksL l t)) := by
  obtain ⟨i0, hi0, hy0, hy1, hy2⟩ := info_parts intN_info
  have hlen : l.length = n := by have h1 := h.num c4_len (by omega); omega
  have HLL : Hid ((linksL l t).length ≤ 16777216) := Lib.hid (by have h1 := linksL_len l t; omega)
  have HS := Lib.hid h; have HK := Lib.hid hk
  clear h hk hlen
  obtain ⟨W0, hW0⟩ : ∃ W, W = w.alloc (.cells #[.slice none 0 0, .int .i64 0] 83) := ⟨_, rfl⟩
  obtain ⟨g0, hg0⟩ : ∃ g, g = w.heap.size := ⟨_, rfl⟩
  have b0 : Below w.heap.size w W0 := by rw [hW0]; exact (Below.refl _ _).alloc (Nat.le_refl _) _
  have HB0 := Lib.hid b0
  have Z0 : Hid (Blk W0 g0 83 #[.slice none 0 0, .int .i64 0]) := Lib.hid (by rw [hW0, hg0]; exact Blk.new _ _ _)
  have HG0 : Hid (w.heap.size ≤ g0 ∧ g0 < W0.heap.size) := Lib.hid (by rw [hW0, hg0]; simp)
  clear b0
  go_enter Try.func58, Try.ntmps58
  go_wp2_with fail
  rw [← hW0, ← hg0]
  clear hW0 hg0
  refine (ilinks W0 D A n c l (HS.out.below HB0.out hD) (Nat.le_trans hD HB0.out.size) hn t HK.out).mono ?_
  rintro e w1 ⟨A1, n1, c1, rfl, o1, b1⟩
  obtain ⟨L, hL⟩ : ∃ L, L = linksL l t := ⟨_, rfl⟩
  rw [← hL] at o1 HLL
  have HL := Lib.hid hL
  clear hL
  have hn1 : n1 = L.length := by have h1 := o1.len; rw [sv_len] at h1; omega
  subst hn1
  have hLn := HLL.out
  have hcap := o1.capm
  have HO1 := Lib.hid o1; have Z1 := Lib.hid (Z0.out.below b1 Z0.out.lt); have HB1 := Lib.hid (HB0.out.trans (b1.mono HB0.out.size)); have HG1 : Hid (g0 < w1.heap.size) := Lib.hid (Nat.lt_of_lt_of_le HG0.out.2 b1.size)
  have HC1 := Lib.hid o1.sl
  clear o1 b1 Z0
  have hcm : Hid ((2 * (L.length : Int)) = ((2 * L.length : Nat) : Int)) := Lib.hid (by omega)
  have hw2 : wrap64 (2 * (L.length : Int)) = 2 * (L.length : Int) := by unfold wrap64; omega
  go_wp2_with (at_make; refine wpList_make_own _ rfl _ _ 37 rfl w1.heap.size 3 i0 (.int .i64 0) 1 Try.underlying37 hi0 hy0 hy1 .i64 .i64 _ (2 * L.length) rfl rfl hcm.out (by rw [hy2]; omega) (by unfold maxLen; omega) (Nat.le_refl _) ?_; intro w2 hown hgrow)
  have hfirst : Hid (Own w2 w1.heap.size 3 1 (some ⟨w1.heap.size, 0, none⟩) 0 (2 * L.length) (iv (flatK (L.take 0))) ∧ Below w1.heap.size w1 w2) := Lib.hid ⟨⟨hown⟩, (Below.refl _ _).grown hgrow (Nat.le_refl _) (fun k hk => by cases hk)⟩
  clear hown hgrow hcm hw2
  go_loopw [6, 18] (fun o i wr => ∃ (k : Nat) (A2 : Option Addr) (c2 : Nat), k ≤ L.length ∧ i = .int .i64 k ∧ o = .slice A2 (2 * k) c2 ∧ Own wr w1.heap.size 3 1 A2 (2 * k) c2 (iv (flatK (L.take k))) ∧ Below w1.heap.size w1 wr) (fun _ i _ => L.length - (intOf i).toNat)
  case atStart => exact ⟨0, _, _, Nat.zero_le _, rfl, rfl, hfirst.out⟩
  case round =>
    clear hfirst
    obtain ⟨k, A2, c2, hk, rfl, rfl, ho, hb⟩ := hrel
    have HO := Lib.hid ho; have HB := Lib.hid hb
    clear ho hb
    by_cases hlt : k < L.length
    case neg =>
      obtain rfl : k = L.length := by omega
      rw [List.take_length] at HO
      obtain ⟨m, hm⟩ : ∃ m, m = 2 * L.length := ⟨_, rfl⟩
      rw [← hm] at HO ⊢
      have hm2 : m ≤ 1000000000 := by omega
      clear hi0 hy0 hy1 hy2 hm
      go_wp2_with fail
      refine (ihash wr _ A2 m c2 _ HO.out.sl (by omega)).mono ?_
      rintro e w3 ⟨rfl, rfl⟩
      obtain ⟨H, hH⟩ : ∃ H, H = hs (flatK L) := ⟨_, rfl⟩
      rw [← hH]
      have HH := Lib.hid hH
      clear hH
      have Z3 := Lib.hid (Z1.out.below HB.out HG1.out)
      have HO3 := Lib.hid (HO1.out.on HB.out)
      obtain ⟨e2, m0, e3, m1, n0, n1⟩ := two_out Z3.out (.slice A1 L.length c1) (.int .i64 H)
      have hna : NotAt g0 A1 := HO1.out.low HG0.out.2
      have HR : Hid (Own ((wr.setCell ⟨g0, 0, none⟩ (.slice A1 L.length c1)).setCell ⟨g0, 1, none⟩ (.int .i64 H)) w.heap.size 59 2 A1 L.length c1 (sv L) ∧ Below w.heap.size w ((wr.setCell ⟨g0, 0, none⟩ (.slice A1 L.length c1)).setCell ⟨g0, 1, none⟩ (.int .i64 H))) := Lib.hid
        ⟨((HO3.out.ne_ (a := ⟨g0, 0, none⟩) hna _).ne_ (a := ⟨g0, 1, none⟩) hna _).fewer HB0.out.size, ((HB1.out.trans (HB.out.mono HB1.out.size)).setCell HG0.out.1 _).setCell HG0.out.1 _⟩
      clear hna HO HO3
      go_wp2
      (try simp only [Exit.inBlock, Exit.then])
      refine bodyPost_ret (v := .agg #[.slice A1 L.length c1, .int .i64 H]) (by simp [results, Try.results58, go_sem, n0, n1]; try rfl) rfl ?_
      rw [← HL.out]
      exact ⟨A1, _, c1, by unfold hashK; rw [HH.out], HR.out⟩
    case pos =>
      obtain ⟨ad, hx, rfl, had, p0, p1⟩ := (HC1.out.below HB.out (Nat.le_refl _)).two hlt
      have HT := Lib.hid (flatK_snoc L k hlt)
      obtain ⟨z, hz⟩ : ∃ z, z = L[k] := ⟨_, rfl⟩
      rw [← hz] at HT p0 p1
      clear hz
      obtain ⟨f, s⟩ := z
      simp only at p0 p1 HT
      have hk0 : (0 : Int) ≤ (k : Int) := by omega
      have hkl : (k : Int) < (L.length : Int) := by omega
      have HAPP : Hid (iv (flatK (L.take (k + 1))) = iv (flatK (L.take k)) ++ [.int .i64 f, .int .i64 s]) := Lib.hid (by rw [HT.out, iv_app]; rfl)
      have b5 : Below wr.heap.size wr ((wr.alloc (.cells #[.int .i64 f, .int .i64 s] 59)).alloc (.cells #[.int .i64 f, .int .i64 s] 3)) := ((Below.refl _ _).alloc (Nat.le_refl _) _).alloc (by simp) _
      have HO5 := Lib.hid (HO.out.on b5); have HB5 := Lib.hid (HB.out.trans (b5.mono HB.out.size))
      have hsz : w1.heap.size ≤ ((wr.alloc (.cells #[.int .i64 f, .int .i64 s] 59)).alloc (.cells #[.int .i64 f, .int .i64 s] 3)).heap.size := HB5.out.size
      have SL : Hid (Sl ((wr.alloc (.cells #[.int .i64 f, .int .i64 s] 59)).alloc (.cells #[.int .i64 f, .int .i64 s] 3)) (wr.heap.size + 1 + 1) 1 (some ⟨wr.heap.size + 1, 0, none⟩) 2 2 [.int .i64 f, .int .i64 s]) := Lib.hid (by
        have h := Sl.pairI (wr.alloc (.cells #[.int .i64 f, .int .i64 s] 59)) (.int .i64 f) (.int .i64 s) 3
        rw [World.size_alloc] at h; exact h)
      have hb8 : (2 * k + 2) * 8 ≤ 140737488355328 := by omega
      clear b5 HO HB HT
      go_wp2_with (at_builtin; go_loud (refine wpList_append_sl _ rfl (.tmp 22) (.tmp 27) 37 rfl w1.heap.size 3 i0 _ 1 8 Try.underlying37 hi0 hy0 hy1 hy2 rfl (by omega) A2 (2 * k) c2 (iv (flatK (L.take k))) rfl HO5.out (wr.heap.size + 1 + 1) _ 2 2 [.int .i64 f, .int .i64 s] rfl SL.out (by simp [Value.oneCell']) (by omega) hb8 hsz ?_; intro A5 c5 w5 hown5 hg5 hat5; have HF : Hid (Own w5 w1.heap.size 3 1 A5 (2 * k + 2) c5 (iv (flatK (L.take (k + 1)))) ∧ Below w1.heap.size w1 w5) := Lib.hid ⟨by rw [HAPP.out]; exact hown5, HB5.out.grown hg5 HB5.out.size (fun j hj => (HO5.out.row.lt j hj).1)⟩; clear hown5 hg5 hat5))
      go_roundw
      case rel => exact ⟨k + 1, A5, c5, by omega, by go_num, rfl, HF.out⟩
      case measure => simp [intOf]; omega
set_option maxRecDepth 100000 in
set_option maxHeartbeats 1000000 in
theorem iissame (w : World) (D D' : Nat) (A A' : Option Addr) (n n' c c' : Nat) (l m : List (Int × Int)) (h : Sl w D 2 A n c (sv l)) (h' : Sl w D' 2 A' n' c' (sv m)) (hD : D ≤ w.heap.size) (hD' : D' ≤ w.heap.size) (x y : Int) (hx : x = hashK l) (hy : y = hashK m) (b : Bool) (hb : decide (l = m) = b) :
    Calls Try.prog 61 #[.agg #[.slice A n c, .int .i64 x], .agg #[.slice A' n' c', .int .i64 y]] w (Says w b) := by
  obtain ⟨W2, hW2⟩ : ∃ W, W = (w.alloc (.cells #[.slice A n c, .int .i64 x] 83)).alloc (.cells #[.slice A' n' c', .int .i64 y] 83) := ⟨_, rfl⟩
  have b2 : Below w.heap.size w W2 := by rw [hW2]; exact ((Below.refl _ _).alloc (Nat.le_refl _) _).alloc (by simp) _
  have HS := Lib.hid (h.below b2 hD); have HS' := Lib.hid (h'.below b2 hD'); have HB2 := Lib.hid b2
  have hsz := Lib.hid b2.size
  have HW2 := Lib.hid hW2
  have HXY : Hid (x ≠ y → b = false) := Lib.hid fun e => by
    rw [← hb]
    exact decide_eq_false fun e2 => e (by rw [hx, hy, e2])
  have HBB := Lib.hid hb
  clear h h' b2 hx hy hb hW2
  by_cases hxy : x = y
  case neg =>
    obtain rfl := HXY.out hxy
    have hne : (x == y) = false := by simpa using hxy
    have HR : Hid (Below w.heap.size w ((w.alloc (.cells #[.slice A n c, .int .i64 x] 83)).alloc (.cells #[.slice A' n' c', .int .i64 y] 83))) := Lib.hid (by rw [← HW2.out]; exact HB2.out)
    clear hxy
    go_enter Try.func61, Try.ntmps61
    go_wp2_with fail
    go_ret
    exact ⟨rfl, HR.out⟩
  case pos =>
    subst hxy
    clear HXY
    go_enter Try.func61, Try.ntmps61
    go_wp2_with fail
    rw [← HW2.out]
    refine (isame W2 D D' A A' n n' c c' l m HS.out HS'.out (Nat.le_trans hD hsz.out) (Nat.le_trans hD' hsz.out) b HBB.out).mono ?_
    rintro e w3 ⟨rfl, b3⟩
    have HR := Lib.hid (HB2.out.trans (b3.mono HB2.out.size))
    clear b3
    go_wp2_with fail
    go_ret
    exact ⟨rfl, HR.out⟩
end Go.Proofs.Ytfnhfpahdgbfgaa
