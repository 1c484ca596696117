/- The program's chapter 15: RouteOf, EqualTables, TableOf. The program's IsDownhill: a closure over a table and a node, areAll over it, a range over a map of rows. The program's UsesNode: a search back over the map of the nodes before each node. The program's chapter 15: all of it, by import. -/
import Derived.Test.YtjobjjmeneddnaaPath
import Derived.Test.YtjobjjmeneddnaaTableM4
import Derived.Test.YtjobjjmeneddnaaBefore
import Derived.Deep.CutRange
import Derived.BigQuiet
import Derived.Test.YtjobjjmeneddnaaTabIs
namespace Go.Proofs.Ytjobjjmeneddnaa
open Go.ChangeShapes Go.WideShapes Go.ChangeAt Go.RowKit
set_option linter.unusedVariables false
set_option maxRecDepth 100000 in
theorem iroute (w : World) (D : Nat) (S : Int) (Ad : Option Addr) (nd cd : Nat) (An : Option Addr) (nn cn : Nat) (ld ln : List Int) (h : InTab w D Ad nd cd An nn cn ld ln) (hD : D ≤ w.heap.size) (hn1 : nd ≤ 16777216) (hn : nn ≤ 16777216) (hk : OkTab S ld ln) (a : Int) (hj : J64 a) :
    Calls Try.prog 15 #[.agg #[.int .i64 S, .slice Ad nd cd, .slice An nn cn], .int .i64 a] w (GivesIM w (pathL ln a S)) := by
  obtain ⟨W1, hW1⟩ : ∃ W, W = w.alloc (.cells #[.int .i64 S, .slice Ad nd cd, .slice An nn cn] 29) := ⟨_, rfl⟩
  obtain ⟨g, hg⟩ : ∃ g, g = w.heap.size := ⟨_, rfl⟩
  have b1 : Below w.heap.size w W1 := by rw [hW1]; exact (Below.refl _ _).alloc (Nat.le_refl _) _
  have Y1 : Blk W1 g 29 #[.int .i64 S, .slice Ad nd cd, .slice An nn cn] := by rw [hW1, hg]; exact Blk.new _ _ _
  have q0 : W1.cell? ⟨g, 0, none⟩ = some (.int .i64 S) := Y1.cell 0
  have q2 : W1.cell? ⟨g, 2, none⟩ = some (.slice An nn cn) := Y1.cell 2
  have HH := Lib.hid (h.n.below b1 hD); have HB1 := Lib.hid b1
  have hs1 : w.heap.size ≤ W1.heap.size := b1.size
  have HW1 := Lib.hid hW1; have HG := Lib.hid hg
  clear hk hj h b1 hW1 hg Y1
  go_enter Try.func15, Try.ntmps15
  go_upto_region 1 with fail
  rw [← HW1.out, ← HG.out]
  go_wp2_with fail
  refine (ipath W1 D An nn cn ln HH.out (Nat.le_trans hD hs1) hn a S).mono ?_
  rintro e w2 ⟨A2, n2, c2, rfl, o2, b2⟩
  have HR : Hid (GivesIM w (pathL ln a S) (.returned (.slice A2 n2 c2)) w2) := Lib.hid ⟨A2, n2, c2, rfl, o2.fewer hs1, HB1.out.trans (b2.mono hs1)⟩
  clear o2 b2
  go_wp2_with fail
  go_ret
  exact HR.out
set_option maxRecDepth 100000 in
set_option maxHeartbeats 1000000 in
theorem ieqtab (w : World) (D D' : Nat) (S : Int) (Ad : Option Addr) (nd cd : Nat) (An : Option Addr) (nn cn : Nat) (ld ln : List Int) (h : InTab w D Ad nd cd An nn cn ld ln) (hD : D ≤ w.heap.size)
    (S' : Int) (Ad' : Option Addr) (nd' cd' : Nat) (An' : Option Addr) (nn' cn' : Nat) (ld' ln' : List Int) (h' : InTab w D' Ad' nd' cd' An' nn' cn' ld' ln') (hD' : D' ≤ w.heap.size) (hn1 : nd ≤ 16777216) (hn2 : nn ≤ 16777216) (hn3 : nd' ≤ 16777216) (hn4 : nn' ≤ 16777216) (hk : OkTab S ld ln) (hk' : OkTab S' ld' ln') (b : Bool) (hb : decide (S = S' ∧ ld = ld' ∧ ln = ln') = b) :
    Calls Try.prog 34 #[.agg #[.int .i64 S, .slice Ad nd cd, .slice An nn cn], .agg #[.int .i64 S', .slice Ad' nd' cd', .slice An' nn' cn']] w (Says w b) := by
  obtain ⟨W2, hW2⟩ : ∃ W, W = (w.alloc (.cells #[.int .i64 S, .slice Ad nd cd, .slice An nn cn] 29)).alloc (.cells #[.int .i64 S', .slice Ad' nd' cd', .slice An' nn' cn'] 29) := ⟨_, rfl⟩
  obtain ⟨g2, hg2⟩ : ∃ g, g = w.heap.size + 1 := ⟨_, rfl⟩
  obtain ⟨g1, hg1⟩ : ∃ g, g = w.heap.size := ⟨_, rfl⟩
  have b2 : Below w.heap.size w W2 := by rw [hW2]; exact ((Below.refl _ _).alloc (Nat.le_refl _) _).alloc (by simp) _
  have Y1 : Hid (Blk W2 g1 29 #[.int .i64 S, .slice Ad nd cd, .slice An nn cn]) := Lib.hid (by rw [hW2, hg1]; exact (Blk.new _ _ _).alloc _)
  have Y2 : Hid (Blk W2 g2 29 #[.int .i64 S', .slice Ad' nd' cd', .slice An' nn' cn']) := Lib.hid (by
    have h := Blk.new (w.alloc (.cells #[.int .i64 S, .slice Ad nd cd, .slice An nn cn] 29)) 29 #[.int .i64 S', .slice Ad' nd' cd', .slice An' nn' cn']
    rw [World.size_alloc] at h
    rw [hW2, hg2]; exact h)
  have HB2 := Lib.hid b2; have H1 := Lib.hid (h.below b2 hD); have H2 := Lib.hid (h'.below b2 hD'); have HK := Lib.hid hk; have HK' := Lib.hid hk'; have HB := Lib.hid hb
  have hs2 : w.heap.size ≤ W2.heap.size := b2.size
  have hD1 := Lib.hid (Nat.le_trans hD hs2); have hD2 := Lib.hid (Nat.le_trans hD' hs2)
  have q10 : W2.cell? ⟨g1, 0, none⟩ = some (.int .i64 S) := Y1.out.cell 0
  have q20 : W2.cell? ⟨g2, 0, none⟩ = some (.int .i64 S') := Y2.out.cell 0
  have q11 : W2.cell? ⟨g1, 1, none⟩ = some (.slice Ad nd cd) := Y1.out.cell 1
  have q21 : W2.cell? ⟨g2, 1, none⟩ = some (.slice Ad' nd' cd') := Y2.out.cell 1
  have HW2 := Lib.hid hW2; have HG := Lib.hid (And.intro hg1 hg2)
  clear h h' hk hk' hb b2 hW2 hg1 hg2
  by_cases hS : S = S'
  case neg =>
    obtain rfl : b = false := by rw [← HB.out]; exact decide_eq_false fun h => hS h.1
    have hne : (S == S') = false := by simpa using hS
    clear hS
    go_enter Try.func34, Try.ntmps34
    go_upto_region 1 with fail
    rw [← HW2.out, ← HG.out.2, ← HG.out.1]
    go_wp2_with fail
    go_ret
    exact ⟨rfl, HB2.out⟩
  case pos =>
    subst hS
    go_enter Try.func34, Try.ntmps34
    go_upto_region 1 with fail
    rw [← HW2.out, ← HG.out.2, ← HG.out.1]
    go_wp2_with fail
    refine (iequalI W2 D D' Ad Ad' nd nd' cd cd' ld ld' H1.out.d H2.out.d HK.out.d HK'.out.d).mono ?_
    rintro e w3 ⟨⟨x, hx, rfl⟩, b3⟩
    have HX := Lib.hid hx
    have B3 := Lib.hid (HB2.out.trans (b3.mono hs2))
    have q12 : w3.cell? ⟨g1, 2, none⟩ = some (.slice An nn cn) := (Y1.out.below b3 Y1.out.lt).cell 2
    have q22 : w3.cell? ⟨g2, 2, none⟩ = some (.slice An' nn' cn') := (Y2.out.below b3 Y2.out.lt).cell 2
    have H13 := Lib.hid (H1.out.below b3 hD1.out); have H23 := Lib.hid (H2.out.below b3 hD2.out)
    clear b3 hx q10 q20 q11 q21
    cases x
    case false =>
      obtain rfl : b = false := by rw [← HB.out]; exact decide_eq_false fun h => of_decide_eq_false HX.out.symm h.2.1
      go_wp2_with fail
      go_ret
      exact ⟨rfl, B3.out⟩
    case true =>
      go_wp2_with fail
      refine (iequalI w3 D D' An An' nn nn' cn cn' ln ln' H13.out.n H23.out.n HK.out.n HK'.out.n).mono ?_
      rintro e w4 ⟨⟨y, hy, rfl⟩, b4⟩
      have B4 := Lib.hid (B3.out.trans (b4.mono B3.out.size))
      obtain rfl : y = b := by
        rw [← HB.out, hy]
        have e1 := of_decide_eq_true HX.out.symm
        subst e1
        simp
      clear b4 hy
      go_wp2_with fail
      go_ret
      exact ⟨rfl, B4.out⟩
set_option maxRecDepth 100000 in
set_option maxHeartbeats 1000000 in
theorem itable (w : World) (D : Nat) (A : Option Addr) (n c : Nat) (l : List (Int × Int)) (h : Sl w D 2 A n c (sv l)) (hD : D ≤ w.heap.size) (hn : n ≤ 16777216) (nodes f dst : Int) (hj : J64 nodes ∧ J64 f ∧ J64 dst) :
    Calls Try.prog 12 #[.slice A n c, .int .i64 nodes, .int .i64 f, .int .i64 dst] w fun e w' => ∃ Ad nd cd An nn cn, e = .returned (.agg #[.int .i64 dst, .slice Ad nd cd, .slice An nn cn]) ∧ OwnTab w' w.heap.size Ad nd cd An nn cn (iv (distA l nodes f dst)) (iv (nextA l nodes f dst)) ∧ Below w.heap.size w w' := by
  obtain ⟨W1, hW1⟩ : ∃ W, W = w.alloc (.cells #[.int .i64 0, .slice none 0 0, .slice none 0 0] 29) := ⟨_, rfl⟩
  obtain ⟨g, hg⟩ : ∃ g, g = w.heap.size := ⟨_, rfl⟩
  have b1 : Below w.heap.size w W1 := by rw [hW1]; exact (Below.refl _ _).alloc (Nat.le_refl _) _
  have Y1 : Hid (Blk W1 g 29 #[.int .i64 0, .slice none 0 0, .slice none 0 0]) := Lib.hid (by rw [hW1, hg]; exact Blk.new _ _ _)
  have HS1 := Lib.hid (h.below b1 hD); have HB1 := Lib.hid b1; have HJ := Lib.hid hj
  have hs1 : w.heap.size ≤ W1.heap.size := b1.size
  have HG : Hid (w.heap.size ≤ g ∧ g < W1.heap.size) := Lib.hid ⟨by omega, Y1.out.lt⟩
  have hD1 : D ≤ W1.heap.size := Nat.le_trans hD hs1
  clear h b1 hj
  go_enter Try.func12, Try.ntmps12
  go_wp2_with fail
  rw [← hW1, ← hg]
  clear hW1 hg
  refine (idist W1 D A n c l HS1.out hD1 hn nodes f dst HJ.out).mono ?_
  rintro e w2 ⟨Ad, nd, cd, rfl, o2, b2⟩
  have HO2 := Lib.hid o2; have HS2 := Lib.hid (HS1.out.below b2 hD1); have HB2 := Lib.hid (HB1.out.trans (b2.mono hs1)); have Y2 := Lib.hid (Y1.out.below b2 Y1.out.lt)
  have hs2 : W1.heap.size ≤ w2.heap.size := b2.size
  clear o2 b2
  go_wp2_with fail
  refine (inext w2 D A n c l HS2.out (Nat.le_trans hD1 hs2) hn nodes f dst HJ.out).mono ?_
  rintro e w3 ⟨An, nn, cn, rfl, o3, b3⟩
  have hap := HO2.out.apart o3 (Nat.le_refl _); have hap' := HO2.out.apart' o3 (Nat.le_refl _)
  have ho3 := HO2.out.on b3
  have Y3 := Y2.out.below b3 Y2.out.lt
  have hb3 := HB2.out.trans (b3.mono HB2.out.size)
  have na : NotAt g Ad := HO2.out.low HG.out.2
  have nb : NotAt g An := o3.low (Nat.lt_of_lt_of_le HG.out.2 hs2)
  obtain ⟨⟨e0, m0⟩, ⟨e1, m1⟩, ⟨e2, m2⟩, k⟩ := three_out Y3 (.int .i64 dst) (.slice Ad nd cd) (.slice An nn cn)
  have n0 := k.cell 0; have n1 := k.cell 1; have n2 := k.cell 2
  have HR : Hid (OwnTab (((w3.setCell ⟨g, 0, none⟩ (.int .i64 dst)).setCell ⟨g, 1, none⟩ (.slice Ad nd cd)).setCell ⟨g, 2, none⟩ (.slice An nn cn)) w.heap.size Ad nd cd An nn cn (iv (distA l nodes f dst)) (iv (nextA l nodes f dst)) ∧ Below w.heap.size w (((w3.setCell ⟨g, 0, none⟩ (.int .i64 dst)).setCell ⟨g, 1, none⟩ (.slice Ad nd cd)).setCell ⟨g, 2, none⟩ (.slice An nn cn))) := Lib.hid ⟨⟨(((ho3.ne_ (a := ⟨g, 0, none⟩) na _).ne_ (a := ⟨g, 1, none⟩) na _).ne_ (a := ⟨g, 2, none⟩) na _).fewer hs1, (((o3.ne_ (a := ⟨g, 0, none⟩) nb _).ne_ (a := ⟨g, 1, none⟩) nb _).ne_ (a := ⟨g, 2, none⟩) nb _).fewer (Nat.le_trans hs1 hs2), hap, hap'⟩, ((hb3.setCell HG.out.1 _).setCell HG.out.1 _).setCell HG.out.1 _⟩
  clear hap hap' ho3 Y3 hb3 na nb o3 b3 k
  go_wp2
  (try simp only [Exit.inBlock, Exit.then])
  refine bodyPost_ret (v := .agg #[.int .i64 dst, .slice Ad nd cd, .slice An nn cn]) (by simp [results, Try.results12, go_sem, n2, n1, n0]; try rfl) rfl ?_
  exact ⟨Ad, nd, cd, An, nn, cn, rfl, HR.out.1, HR.out.2⟩
end Go.Proofs.Ytjobjjmeneddnaa
namespace Go.Proofs.Ytjobjjmeneddnaa
open Go.ChangeShapes Go.WideShapes Go.ChangeAt Go.RowKit Go.Maps
set_option linter.unusedVariables false
/-- u is farther away than x -/
def abv (ld : List Int) (x u : Int) : Bool := decide (atD ld x < atD ld u)
/-- all that lead to z are farther away -/
def fineZ (ld ln : List Int) (z : Int) : Bool := decide (0 ≤ atD ld z) && (prevL ln ln.length z).all (abv ld z)
theorem down_fine {ld ln : List Int} (hl : ld.length = ln.length) (h : ∀ z, J64 z → prevL ln ln.length z ≠ [] → fineZ ld ln z = true) (hn : ln.length ≤ 16777216) : downB ld ln = true := by
  refine decide_eq_true ⟨hl, fun i hi => decide_eq_false fun h2 => ?_⟩
  have hm : (i : Int) ∈ prevL ln ln.length (atD ln i) := mem_prevL.2 ⟨i, hi, rfl, rfl, h2.1.1, by omega⟩
  have h3 := h (atD ln i) (by unfold J64; omega) (fun e => by rw [e] at hm; cases hm)
  unfold fineZ at h3
  rw [Bool.and_eq_true, List.all_eq_true] at h3
  have h4 := of_decide_eq_true h3.1
  have h5 : atD ld (atD ln i) < atD ld i := of_decide_eq_true (h3.2 _ hm)
  omega
theorem not_down {ld ln : List Int} {z : Int} (h : prevL ln ln.length z ≠ []) (hf : fineZ ld ln z = false) : downB ld ln = false := by
  refine decide_eq_false fun hd => ?_
  have key : ∀ u ∈ prevL ln ln.length z, 0 ≤ atD ld z ∧ atD ld z < atD ld u := fun u hu => by
    obtain ⟨j, hj, e, e2, h0, h1⟩ := mem_prevL.1 hu
    subst e
    have h2 := of_decide_eq_false (hd.2 j hj)
    rw [e2] at h2
    constructor <;> exact Decidable.byContradiction fun h3 => h2 ⟨by omega, by omega⟩
  obtain ⟨u, hu⟩ := List.exists_mem_of_ne_nil _ h
  have h0 := (key u hu).1
  unfold fineZ at hf
  rw [decide_eq_true h0, Bool.true_and, List.all_eq_false] at hf
  obtain ⟨v, hv, hv2⟩ := hf
  exact hv2 (decide_eq_true (key v hv).2)
set_option maxRecDepth 100000 in
theorem iabove (w : World) (D : Nat) (S : Int) (Ad : Option Addr) (nd cd : Nat) (An : Option Addr) (nn cn : Nat) (ld ln : List Int) (h : InTab w D Ad nd cd An nn cn ld ln) (g q : Nat)
    (Y : Blk w g 29 #[.int .i64 S, .slice Ad nd cd, .slice An nn cn]) (x u : Int) (Z : Blk w q 3 #[.int .i64 x]) (hx : 0 ≤ x ∧ x < ld.length) (hu : 0 ≤ u ∧ u < ld.length) (b : Bool) (hb : abv ld x u = b) :
    Calls Try.prog 52 #[.int .i64 u, .pointer (some ⟨g, 0, none⟩), .pointer (some ⟨q, 0, none⟩)] w (Says w b) := by
  obtain rfl : nd = ld.length := by have h1 := h.d.len; rw [iv_len] at h1; omega
  obtain ⟨xi, rfl⟩ : ∃ k : Nat, (k : Int) = x := ⟨x.toNat, by omega⟩
  obtain ⟨ui, rfl⟩ : ∃ k : Nat, (k : Int) = u := ⟨u.toNat, by omega⟩
  have q1 : w.cell? ⟨g, 1, none⟩ = some (.slice Ad ld.length cd) := Y.cell 1
  have z0 : w.cell? ⟨q, 0, none⟩ = some (.int .i64 xi) := Z.cell 0
  have hxl : xi < ld.length := by omega
  have hul : ui < ld.length := by omega
  have hx0 : (0 : Int) ≤ (xi : Int) := by omega
  have hu0 : (0 : Int) ≤ (ui : Int) := by omega
  have hx1 : (xi : Int) < (ld.length : Int) := by omega
  have hu1 : (ui : Int) < (ld.length : Int) := by omega
  have hc := h.d.cap; have hcm := h.d.capm
  obtain ⟨bd, hy, rfl, hbd, d0⟩ := h.d.int hxl
  obtain ⟨bd', hy', eb, hbd', d1⟩ := h.d.int hul
  injection eb with eb
  subst eb
  rw [← atD_nat ld xi hxl] at d0
  rw [← atD_nat ld ui hul] at d1
  obtain ⟨vx, hvx⟩ : ∃ v, v = atD ld xi := ⟨_, rfl⟩
  obtain ⟨vu, hvu⟩ : ∃ v, v = atD ld ui := ⟨_, rfl⟩
  rw [← hvx] at d0
  rw [← hvu] at d1
  have HB : Hid (decide (vx < vu) = b) := Lib.hid (by rw [hvx, hvu]; exact hb)
  clear h Y Z hx hu hb hy hy' hbd hbd' hvx hvu
  go_enter Try.func52, Try.ntmps52
  go_wp2_with fail
  go_quiet (fail)
  go_wp2_with fail
  go_ret
  exact ⟨congrArg (fun z : Bool => Ending.returned (.bool z)) HB.out, below_drawnK (Below.refl _ _) _⟩
set_option maxRecDepth 100000 in
set_option maxHeartbeats 1000000 in
theorem iareabove (w : World) (D : Nat) (S : Int) (Ad : Option Addr) (nd cd : Nat) (An : Option Addr) (nn cn : Nat) (ld ln : List Int) (h : InTab w D Ad nd cd An nn cn ld ln) (hD : D ≤ w.heap.size) (g q : Nat)
    (Y : Blk w g 29 #[.int .i64 S, .slice Ad nd cd, .slice An nn cn]) (x : Int) (Z : Blk w q 3 #[.int .i64 x]) (hx : 0 ≤ x ∧ x < ld.length)
    (E : Nat) (A : Option Addr) (n c : Nat) (l : List Int) (hs : Sl w E 1 A n c (iv l)) (hE : E ≤ w.heap.size) (hl : ∀ u ∈ l, 0 ≤ u ∧ u < ld.length) (hn : n ≤ 16777216) (b : Bool) (hb : l.all (abv ld x) = b) :
    Calls Try.prog 53 #[.slice A n c, .func (.func 52) #[] #[.pointer (some ⟨g, 0, none⟩), .pointer (some ⟨q, 0, none⟩)]] w (Says w b) := by
  obtain rfl : n = l.length := by have := hs.len; rw [iv_len] at this; omega
  have hcap := hs.cap; have hcapm := hs.capm
  have H : Hid (∀ wr, Below w.heap.size w wr → Sl wr E 1 A l.length c (iv l) ∧ InTab wr D Ad nd cd An nn cn ld ln ∧ Blk wr g 29 #[.int .i64 S, .slice Ad nd cd, .slice An nn cn] ∧ Blk wr q 3 #[.int .i64 x]) := Lib.hid fun wr hb => ⟨hs.below hb hE, h.below hb hD, Y.below hb Y.lt, Z.below hb Z.lt⟩
  have HL := Lib.hid hl; have HX := Lib.hid hx; have HB := Lib.hid hb
  clear hs h Y Z hl hx hb
  go_enter Try.func53, Try.ntmps53
  go_wp2_with fail
  go_loopw [9] (fun i wr => ∃ k : Nat, k ≤ l.length ∧ i = .int .i64 k ∧ Hid ((l.take k).all (abv ld x) = true) ∧ Below w.heap.size w wr) (fun i _ => l.length - (intOf i).toNat)
  case atStart => exact ⟨0, Nat.zero_le _, rfl, Lib.hid rfl, Below.refl _ _⟩
  case round =>
    obtain ⟨k, hk, rfl, hi, hbw⟩ := hrel
    have BW := Lib.hid hbw
    clear hbw
    by_cases hlt : k < l.length
    · obtain ⟨ad, hx0, rfl, had, q0⟩ := (H.out _ BW.out).1.int hlt
      have hall : (l.take (k + 1)).all (abv ld x) = ((l.take k).all (abv ld x) && abv ld x l[k]) := by
        rw [List.take_succ_eq_append_getElem hlt, List.all_append]
        simp
      have hbad : abv ld x l[k] = false → b = false := fun e => by
        rw [← HB.out, List.all_eq_false]
        exact ⟨l[k], List.getElem_mem _, by rw [e]; decide⟩
      have hin := HL.out l[k] (List.getElem_mem _)
      obtain ⟨u, hu⟩ : ∃ e, e = l[k] := ⟨_, rfl⟩
      rw [← hu] at q0 hall hbad hin
      obtain ⟨v, hv⟩ : ∃ v, abv ld x u = v := ⟨_, rfl⟩
      have HT : Hid (v = true → (l.take (k + 1)).all (abv ld x) = true) := Lib.hid (fun e => by rw [hall, hi.out, hv, e]; rfl)
      have HF : Hid (v = false → b = false) := Lib.hid (fun e => hbad (hv.trans e))
      have HV := Lib.hid hv; have HIN := Lib.hid hin
      clear hu hv hi hall hbad hin had
      have hk0 : (0 : Int) ≤ (k : Int) := by omega
      have hkl : (k : Int) < (l.length : Int) := by omega
      go_wp2_with fail
      refine (iabove wr D S Ad nd cd An nn cn ld ln (H.out _ BW.out).2.1 g q (H.out _ BW.out).2.2.1 x u (H.out _ BW.out).2.2.2 HX.out HIN.out v HV.out).mono ?_
      rintro e w2 ⟨rfl, b2⟩
      have B2 : Hid (Below w.heap.size w w2) := Lib.hid (BW.out.trans (b2.mono BW.out.size))
      clear b2
      cases v
      · obtain rfl := HF.out rfl
        go_wp2_with fail
        go_ret
        exact ⟨rfl, B2.out⟩
      · have HS := Lib.hid (HT.out rfl)
        clear HT HF
        go_wp2_with fail
        go_roundw
        case rel => exact ⟨k + 1, by omega, by go_num, HS, B2.out⟩
        case measure => simp [intOf]; omega
    · obtain rfl : b = true := by
        rw [← HB.out, ← hi.out, List.take_of_length_le (by omega)]
      have hkk : ¬ ((k : Int) < (l.length : Int)) := by omega
      go_wp2_with fail
      go_ret
      exact ⟨rfl, BW.out⟩
set_option maxRecDepth 100000 in
set_option maxHeartbeats 1000000 in
theorem idown (w : World) (D : Nat) (S : Int) (Ad : Option Addr) (nd cd : Nat) (An : Option Addr) (nn cn : Nat) (ld ln : List Int) (h : InTab w D Ad nd cd An nn cn ld ln) (hD : D ≤ w.heap.size) (hn1 : nd ≤ 16777216) (hn2 : nn ≤ 16777216) (hk : OkTab S ld ln) (b : Bool) (hb : downB ld ln = b) :
    Calls Try.prog 18 #[.agg #[.int .i64 S, .slice Ad nd cd, .slice An nn cn]] w (Says w b) := by
  have hmf : ∀ (fn : Fn) (first cap : Array Value) (w : World), (Instr.makeFunc fn first cap).run Try.prog w = .ok (.func fn first cap) w := fun _ _ _ _ => rfl
  obtain rfl : nn = ln.length := by have h1 := h.n.len; rw [iv_len] at h1; omega
  obtain rfl : nd = ld.length := by have h1 := h.d.len; rw [iv_len] at h1; omega
  obtain ⟨W1, hW1⟩ : ∃ W, W = w.alloc (.cells #[.int .i64 S, .slice Ad ld.length cd, .slice An ln.length cn] 29) := ⟨_, rfl⟩
  obtain ⟨g, hg⟩ : ∃ g, g = w.heap.size := ⟨_, rfl⟩
  have b1 : Below w.heap.size w W1 := by rw [hW1]; exact (Below.refl _ _).alloc (Nat.le_refl _) _
  have Y1 : Blk W1 g 29 #[.int .i64 S, .slice Ad ld.length cd, .slice An ln.length cn] := by rw [hW1, hg]; exact Blk.new _ _ _
  have hs1 : w.heap.size ≤ W1.heap.size := b1.size
  have HC : Hid (∀ wr, Below W1.heap.size W1 wr → InTab wr D Ad ld.length cd An ln.length cn ld ln ∧ D ≤ wr.heap.size ∧ Below w.heap.size w wr ∧ Blk wr g 29 #[.int .i64 S, .slice Ad ld.length cd, .slice An ln.length cn] ∧ (wr.cell? ⟨g, 1, none⟩ = some (.slice Ad ld.length cd) ∧ wr.cell? ⟨g, 2, none⟩ = some (.slice An ln.length cn))) := Lib.hid fun wr hb => by
    have hbw := b1.trans (hb.mono hs1)
    have Y := Y1.below hb Y1.lt
    exact ⟨h.below hbw hD, Nat.le_trans hD hbw.size, hbw, Y, Y.cell 1, Y.cell 2⟩
  have HW1 := Lib.hid hW1; have HG := Lib.hid hg; have HB := Lib.hid hb
  have hcn := h.n.cap; have hcm := h.n.capm; have hdn := h.d.cap; have hdm := h.d.capm
  clear hk h b1 hW1 hg Y1 hb
  obtain ⟨-, -, hbw, -, q1, q2⟩ := HC.out _ (Below.refl _ _)
  have HBW := Lib.hid hbw
  clear hbw
  by_cases hl : ld.length = ln.length
  case neg =>
    obtain rfl : b = false := by rw [← HB.out]; exact decide_eq_false fun h => hl h.1
    have e1 : ((ld.length : Int) != (ln.length : Int)) = true := by simp only [bne_iff_ne, ne_eq]; omega
    clear hl
    go_enter Try.func18, Try.ntmps18
    go_upto_region 1 with fail
    rw [← HW1.out, ← HG.out]
    go_wp2_with fail
    go_ret
    exact ⟨rfl, HBW.out⟩
  case pos =>
    have e1 : ((ld.length : Int) != (ln.length : Int)) = false := by rw [hl]; simp
    have HL := Lib.hid hl
    clear hl
    go_enter Try.func18, Try.ntmps18
    go_upto_region 1 with fail
    rw [← HW1.out, ← HG.out]
    go_wp2_with fail
    refine (ibefore W1 D An ln.length cn ln (HC.out _ (Below.refl _ _)).1.n (HC.out _ (Below.refl _ _)).2.1 hn2).mono ?_
    rintro e w2 ⟨⟨mb, gm, rfl, hm, hbf, hmb⟩, b2⟩
    have HM := Lib.hid hm; have HR := Lib.hid hbf; have HB2 := Lib.hid b2; have HMB := Lib.hid hmb
    have hs2 : W1.heap.size ≤ w2.heap.size := b2.size
    clear hm hbf b2 q1 q2 hmb
    go_wp2_with (at_range; refine wpList_range_mi _ rfl _ 72 rfl 27 Try.underlying72 mb ln.length gm rfl HM.out ?_; intro w3 cnt3 hr3 hg3 hs3)
    go_frame
    obtain ⟨r, hr⟩ : ∃ r, r = w2.heap.size := ⟨_, rfl⟩
    rw [← hr] at hr3 ⊢
    have HR3 := Lib.hid hr3
    have HB3 : Hid (Below r w2 w3) := Lib.hid (by rw [hr]; exact Below.grownBy (Below.refl _ _) hg3 (Nat.le_refl _) (fun k e => by cases e))
    have HRR : Hid (r = w2.heap.size) := Lib.hid hr
    have HE : Hid (∀ wx, Below r w2 wx → Below W1.heap.size W1 wx) := Lib.hid fun wx hb => HB2.out.trans (hb.mono (by rw [hr]; exact hs2))
    have HV : Hid (∀ x v, J64 x → gm x = some v → ∃ q : Option Addr × Nat × Nat, v = .slice q.1 q.2.1 q.2.2) := Lib.hid fun x v hx hv => by
      obtain ⟨A, n, c, e, _⟩ := HR.out.row x v hx hv
      exact ⟨(A, n, c), e⟩
    have HS2 : Hid (∀ wx x v, Below r w2 wx → J64 x → gm x = some v → ∃ (A : Option Addr) (n c : Nat), v = .slice A n c ∧ Sl wx r 1 A n c (iv (prevL ln ln.length x)) ∧ prevL ln ln.length x ≠ []) := Lib.hid fun wx x v hb hx hv => by
      obtain ⟨A, n, c, e, h⟩ := HR.out.row x v hx hv
      have hb' : Below w2.heap.size w2 wx := hr ▸ hb
      refine ⟨A, n, c, e, by rw [hr]; exact h.sl.below hb' (Nat.le_refl _), ?_⟩
      have h1 := HR.out.key x hx
      rw [hv] at h1
      exact of_decide_eq_true h1.symm
    obtain ⟨WL, hWL⟩ : ∃ W, W = w2 := ⟨_, rfl⟩
    rw [← hWL] at HB3 HE HS2
    clear hr3 hg3 hs3 hr hWL
    go_loopw [] (fun wx => ∃ (left : Int → Bool) (cnt : Nat), Hid (∀ z, J64 z → prevL ln ln.length z ≠ [] → left z = false → fineZ ld ln z = true) ∧ Ri wx mb r ln.length gm left cnt ∧ Below r WL wx) (fun wx => wx.rangeLeft mb r)
    case atStart =>
      refine ⟨_, _, Lib.hid ?_, HR3.out, HB3.out⟩
      intro z hz hne hl
      have h1 := HR.out.key z hz
      rw [hl, decide_eq_true hne] at h1
      cases h1
    case round =>
      obtain ⟨left, cnt, hgd, hr, hb⟩ := hrel
      have HRI := Lib.hid hr; have HBI := Lib.hid hb
      clear hr hb HR3
      go_wp2_with (at_next; refine wpList_next_ri _ rfl _ rfl mb r ln.length gm left cnt (fun q : Option Addr × Nat × Nat => .slice q.1 q.2.1 q.2.2) HV.out rfl HRI.out ?_ ?_)
      · intro hl
        obtain rfl : b = true := by rw [← HB.out]; exact down_fine HL.out (fun z hz hne => hgd.out z hz hne (hl z hz)) hn2
        have HF := Lib.hid (HC.out _ (HE.out _ HBI.out)).2.2.1
        clear hl
        go_wp2_with fail
        go_ret
        exact ⟨rfl, HF.out⟩
      · intro x A n c w4 cnt4 hx hlx hgx hr4 hlt4 hg4 hs4 hen
        have HB4 : Hid (Below r WL w4) := Lib.hid (Below.grownBy HBI.out hg4 (by have := HRI.out.lt; omega) (fun k e => by injection e with e; omega))
        obtain ⟨A2, n2, c2, e2, hsl, hne⟩ := HS2.out w4 x _ HB4.out hx hgx
        injection e2 with e2 e3 e4
        subst e2; subst e3; subst e4
        have HSL := Lib.hid hsl; have HNE := Lib.hid hne; have HR4 := Lib.hid hr4; have HLT := Lib.hid hlt4
        have HLQ := Lib.hid HRI.out.left_eq; have HX := Lib.hid hx
        obtain ⟨hx0, hx1⟩ : 0 ≤ x ∧ x < ln.length := by
          obtain ⟨u, hu⟩ := List.exists_mem_of_ne_nil _ hne
          obtain ⟨j, _, _, _, h0, h1⟩ := mem_prevL.1 hu
          exact ⟨h0, h1⟩
        clear hsl hne hr4 hlt4 hg4 hs4 hgx hlx hx
        obtain ⟨W5, hW5⟩ : ∃ W, W = w4.alloc (.cells #[.int .i64 x] 3) := ⟨_, rfl⟩
        obtain ⟨qn, hq⟩ : ∃ g, g = w4.heap.size := ⟨_, rfl⟩
        have b5 : Below r WL W5 := by rw [hW5]; exact HB4.out.alloc (Nat.le_of_lt HR4.out.lt) _
        have Z5 : Blk W5 qn 3 #[.int .i64 x] := by rw [hW5, hq]; exact Blk.new _ _ _
        have HR5 : Hid (Ri W5 mb r ln.length gm (fun z => left z && !decide (z = x)) cnt4) := Lib.hid (by rw [hW5]; exact HR4.out.on ((Below.refl _ _).alloc (Nat.le_refl _) _))
        have HSL5 : Hid (Sl W5 r 1 A n c (iv (prevL ln ln.length x))) := Lib.hid (by rw [hW5]; exact HSL.out.below ((Below.refl _ _).alloc (Nat.le_refl _) _) (Nat.le_of_lt HR4.out.lt))
        have HB5 := Lib.hid b5; have HZ5 := Lib.hid Z5
        have HCW := Lib.hid (HC.out _ (HE.out _ b5))
        have q1 := HCW.out.2.2.2.2.1
        have z5 : W5.cell? ⟨qn, 0, none⟩ = some (.int .i64 x) := Z5.cell 0
        have HWQ := Lib.hid (And.intro hW5 hq)
        have hxd : 0 ≤ x ∧ x < ld.length := ⟨hx0, by rw [HL.out]; exact hx1⟩
        have HXD := Lib.hid hxd
        obtain ⟨xi, hxi⟩ : ∃ k : Nat, (k : Int) = x := ⟨x.toNat, by omega⟩
        have hxl : xi < ld.length := by omega
        obtain ⟨bd, hy, rfl, hbd, d0⟩ := HCW.out.1.d.int hxl
        rw [← atD_nat ld xi hxl, hxi] at d0
        obtain ⟨v, hv⟩ : ∃ v, v = atD ld x := ⟨_, rfl⟩
        rw [← hv] at d0
        have HVX := Lib.hid hv; have HXI := Lib.hid hxi
        clear b5 Z5 hW5 hq hy hbd hv hxd
        have HLN : Hid (∀ u ∈ prevL ln ln.length x, 0 ≤ u ∧ u < ld.length) := Lib.hid fun u hu => by
          obtain ⟨j, hj, e, _⟩ := mem_prevL.1 hu
          rw [HL.out]; omega
        have HNX : Hid (fineZ ld ln x = true → ∀ z, J64 z → prevL ln ln.length z ≠ [] → (left z && !decide (z = x)) = false → fineZ ld ln z = true) := Lib.hid fun hf z hz hne hl => by
          by_cases e : z = x
          · rw [e]; exact hf
          · refine hgd.out z hz hne ?_
            simpa [e] using hl
        have HBD : Hid (fineZ ld ln x = false → b = false) := Lib.hid fun hf => by rw [← HB.out]; exact not_down HNE.out hf
        subst hxi
        have hxi1 : (xi : Int) < (ld.length : Int) := by omega
        by_cases h1 : v < 0
        case pos =>
          obtain rfl : b = false := HBD.out (by unfold fineZ; rw [← HVX.out, decide_eq_false (by omega)]; rfl)
          have HF := Lib.hid HCW.out.2.2.1
          go_upto_region 7 with fail
          rw [← HWQ.out.1, ← HWQ.out.2]
          go_wp2_with fail
          go_ret
          exact ⟨rfl, HF.out⟩
        case neg =>
          have h1d : decide (v < 0) = false := decide_eq_false h1
          clear h1
          obtain ⟨ba, hba⟩ : ∃ ba, (prevL ln ln.length xi).all (abv ld xi) = ba := ⟨_, rfl⟩
          have HBA := Lib.hid hba
          have HFN : Hid (fineZ ld ln xi = ba) := Lib.hid (by unfold fineZ; rw [← HVX.out, decide_eq_true (by have := of_decide_eq_false h1d; omega), hba]; rfl)
          clear hba
          go_upto_region 7 with fail
          rw [← HWQ.out.1, ← HWQ.out.2]
          go_wp2_with fail
          refine (iareabove W5 D S (some bd) ld.length cd An ln.length cn ld ln HCW.out.1 HCW.out.2.1 g qn HCW.out.2.2.2.1 xi HZ5.out HXD.out r A n c _ HSL5.out (Nat.le_of_lt HR5.out.lt) HLN.out (by have h1 := HSL5.out.len; rw [iv_len] at h1; have := prevL_len ln ln.length xi; omega) ba HBA.out).mono ?_
          rintro e w6 ⟨rfl, b6⟩
          have HB6 := Lib.hid (HB5.out.trans (b6.mono (Nat.le_of_lt HR5.out.lt)))
          have HR6 := Lib.hid (HR5.out.on b6)
          clear b6
          cases ba
          case false =>
            obtain rfl : b = false := HBD.out HFN.out
            have HF := Lib.hid (HC.out _ (HE.out _ HB6.out)).2.2.1
            go_wp2_with fail
            go_ret
            exact ⟨rfl, HF.out⟩
          case true =>
            have HG6 := Lib.hid (HNX.out HFN.out)
            go_wp2_with fail
            go_roundw
            case rel => exact ⟨_, cnt4, HG6, HR6.out, HB6.out⟩
            case measure => rw [HLQ.out, HR6.out.left_eq]; exact HLT.out
end Go.Proofs.Ytjobjjmeneddnaa
namespace Go.Proofs.Ytjobjjmeneddnaa
open Go.ChangeShapes Go.WideShapes Go.ChangeAt Go.RowKit Go.Maps
set_option linter.unusedVariables false
set_option maxRecDepth 100000 in
set_option maxHeartbeats 1000000 in
theorem iuses (w : World) (D : Nat) (S : Int) (Ad : Option Addr) (nd cd : Nat) (An : Option Addr) (nn cn : Nat) (ld ln : List Int) (h : InTab w D Ad nd cd An nn cn ld ln) (hD : D ≤ w.heap.size) (hn1 : nd ≤ 16777216) (hn2 : nn ≤ 16777216) (hk : OkTab S ld ln) (node : Int) (hj : J64 node) :
    Calls Try.prog 20 #[.agg #[.int .i64 S, .slice Ad nd cd, .slice An nn cn], .int .i64 node] w fun e w' => e = .returned (.int .i64 (usesL S ln node : Nat)) ∧ Below w.heap.size w w' := by
  obtain ⟨i0, hinf, hy0, hy1, hy2⟩ := info_parts intM_info
  obtain rfl : nn = ln.length := by have h1 := h.n.len; rw [iv_len] at h1; omega
  obtain ⟨W1, hW1⟩ : ∃ W, W = w.alloc (.cells #[.int .i64 S, .slice Ad nd cd, .slice An ln.length cn] 29) := ⟨_, rfl⟩
  obtain ⟨g, hg⟩ : ∃ g, g = w.heap.size := ⟨_, rfl⟩
  have b1 : Below w.heap.size w W1 := by rw [hW1]; exact (Below.refl _ _).alloc (Nat.le_refl _) _
  have Y1 : Blk W1 g 29 #[.int .i64 S, .slice Ad nd cd, .slice An ln.length cn] := by rw [hW1, hg]; exact Blk.new _ _ _
  have hs1 : w.heap.size ≤ W1.heap.size := b1.size
  have HC : Hid (∀ wr, Below W1.heap.size W1 wr → InTab wr D Ad nd cd An ln.length cn ld ln ∧ D ≤ wr.heap.size ∧ Below w.heap.size w wr ∧ (wr.cell? ⟨g, 0, none⟩ = some (.int .i64 S) ∧ wr.cell? ⟨g, 1, none⟩ = some (.slice Ad nd cd) ∧ wr.cell? ⟨g, 2, none⟩ = some (.slice An ln.length cn))) := Lib.hid fun wr hb => by
    have hbw := b1.trans (hb.mono hs1)
    have Y := Y1.below hb Y1.lt
    exact ⟨h.below hbw hD, Nat.le_trans hD hbw.size, hbw, Y.cell 0, Y.cell 1, Y.cell 2⟩
  have HW1 := Lib.hid hW1; have HG := Lib.hid hg; have HK := Lib.hid hk; have HJ := Lib.hid hj
  have hcn := h.n.cap; have hcm := h.n.capm
  clear hk h b1 hW1 hg Y1 hj
  obtain ⟨-, -, -, q0, q1, q2⟩ := HC.out _ (Below.refl _ _)
  go_enter Try.func20, Try.ntmps20
  go_upto_region 1 with fail
  rw [← HW1.out, ← HG.out]
  go_wp2_with fail
  refine (iroute W1 D S Ad nd cd An ln.length cn ld ln (HC.out _ (Below.refl _ _)).1 (HC.out _ (Below.refl _ _)).2.1 hn1 hn2 HK.out node HJ.out).mono ?_
  rintro e w2 ⟨A2, n2, c2, rfl, o2, b2⟩
  have hlen := o2.len
  rw [iv_len] at hlen
  have HB2 := Lib.hid b2
  have hs2 : W1.heap.size ≤ w2.heap.size := b2.size
  obtain ⟨-, -, -, p0, p1, p2⟩ := HC.out _ b2
  clear o2 b2 q0 q1 q2
  by_cases hz : pathL ln node S = []
  case pos =>
    have hz2 : n2 = 0 := by rw [hz] at hlen; simpa using hlen.symm
    subst hz2
    have HU : Hid ((usesL S ln node : Nat) = 0) := Lib.hid (uses_zero hz)
    have HF := Lib.hid (HC.out _ HB2.out).2.2.1
    clear hlen hz
    go_wp2_with fail
    go_ret
    exact ⟨congrArg (fun z : Nat => Ending.returned (.int .i64 (z : Int))) HU.out.symm, HF.out⟩
  case neg =>
    have hz2 : n2 ≠ 0 := fun e => hz (List.eq_nil_of_length_eq_zero (by rw [hlen, e]))
    have hz3 : ((n2 : Int) == 0) = false := by simpa using hz2
    have HP := Lib.hid hz
    clear hlen hz hz2
    go_wp2_with fail
    refine (ibefore w2 D An ln.length cn ln (HC.out _ HB2.out).1.n (HC.out _ HB2.out).2.1 hn2).mono ?_
    rintro e w3 ⟨⟨mb, gm, rfl, hm, hbf, hmb⟩, b3⟩
    have HM := Lib.hid hm; have HR := Lib.hid hbf; have HB3 := Lib.hid (HB2.out.trans (b3.mono hs2)); have HMB := Lib.hid hmb
    have hs3 : w2.heap.size ≤ w3.heap.size := b3.size
    clear hm hbf b3 p0 p1 p2 hmb
    obtain ⟨r, hr⟩ : ∃ r, r = w3.heap.size := ⟨_, rfl⟩
    obtain ⟨W4, hW4⟩ : ∃ W, W = w3.alloc (.cells #[.int .i64 node] 3) := ⟨_, rfl⟩
    have HRR := Lib.hid hr
    have O4 : Hid (Own W4 r 3 1 (some ⟨r, 0, none⟩) 1 1 (iv [node])) := Lib.hid (by rw [hW4, hr]; exact Own.lit w3 w3.heap.size 3 #[.int .i64 node] 1 (Nat.le_refl _) (by omega) rfl)
    have B4 : Hid (Below r w3 W4) := Lib.hid (by rw [hW4, hr]; exact (Below.refl _ _).alloc (Nat.le_refl _) _)
    have HE : Hid (∀ wx, Below r w3 wx → InTab wx D Ad nd cd An ln.length cn ld ln ∧ Below w.heap.size w wx ∧ wx.cell? ⟨g, 0, none⟩ = some (.int .i64 S) ∧ r ≤ wx.heap.size ∧ Mi wx mb ln.length gm ∧ Bef wx (mb + 1) ln ln.length gm) := Lib.hid fun wx hb => by
      have h1 := HC.out _ (HB3.out.trans (hb.mono (by rw [hr]; omega)))
      have hb' : Below w3.heap.size w3 wx := hr ▸ hb
      exact ⟨h1.1, h1.2.2.1, h1.2.2.2.1, by rw [hr]; exact hb'.size, HM.out.on hb', HR.out.on hb'⟩
    have HSB : Hid (∀ wx, Below r w3 wx → ∀ x, J64 x → ∃ (A : Option Addr) (n c : Nat), (gm x).getD (.slice none 0 0) = .slice A n c ∧ Sl wx r 1 A n c (iv (prevL ln ln.length x))) := Lib.hid fun wx hb x hx => by
      obtain ⟨A, n, c, e, o, _⟩ := HR.out.look hx
      have hb' : Below w3.heap.size w3 wx := hr ▸ hb
      refine ⟨A, n, c, e, ?_⟩
      rw [hr]
      exact o.sl.below hb' (Nat.le_refl _)
    have HW4 := Lib.hid hW4
    clear hr hW4
    go_upto_region 5 with fail
    rw [← HW4.out, ← HRR.out]
    obtain ⟨WL, hWL⟩ : ∃ W, W = w3 := ⟨_, rfl⟩
    rw [← hWL] at B4 HE HSB
    clear hWL HW4
    go_wp2_with fail
    go_loopw [6, 7] (fun mv iv_ wr => ∃ (i n c : Nat) (A : Option Addr) (m : List Int), iv_ = .int .i64 i ∧ mv = .slice A n c ∧ i ≤ n ∧ Own wr r 3 1 A n c (iv m) ∧ Hid (MetB S ln node m i) ∧ Below r WL wr) (fun _ iv_ _ => ln.length - (intOf iv_).toNat)
    case atStart => exact ⟨0, 1, 1, _, [node], rfl, rfl, Nat.zero_le _, O4.out, Lib.hid (MetB.start _ _ _), B4.out⟩
    case round =>
      obtain ⟨i, n, c, A, m, rfl, rfl, hi, ho, hmet, hb⟩ := hrel
      have HO := Lib.hid ho; have HB := Lib.hid hb
      obtain rfl : n = m.length := by have h1 := ho.len; rw [iv_len] at h1; omega
      have hml := hmet.out.len HP.out
      have hcap := ho.capm
      clear ho hb O4 B4
      obtain ⟨-, -, q0, hrs, -, -⟩ := HE.out _ HB.out
      have hi0 : (0 : Int) ≤ (i : Int) := by omega
      by_cases hlt : i < m.length
      case neg =>
        obtain rfl : i = m.length := by omega
        have HU := Lib.hid (hmet.out.count HP.out)
        have hw1 : wrap64 ((m.length : Int) - 1) = (m.length : Int) - 1 := by unfold wrap64; omega
        have HF := Lib.hid (HE.out _ HB.out).2.1
        go_wp2_with fail
        go_ret
        exact ⟨congrArg (fun z : Int => Ending.returned (.int .i64 z)) (by have := HU.out; omega), HF.out⟩
      case pos =>
        have hil : (i : Int) < (m.length : Int) := by omega
        obtain ⟨ad, hx, rfl, had, c0⟩ := HO.out.sl.int hlt
        obtain ⟨x, hx2⟩ : ∃ z, z = m[i] := ⟨_, rfl⟩
        rw [← hx2] at c0
        have HMX : Hid (m[i]? = some x) := Lib.hid (by rw [hx2, List.getElem?_eq_getElem hlt])
        have hxin := hmet.out.in_ HP.out (x := x) (by rw [hx2]; exact List.getElem_mem _)
        have hJ : J64 x := by unfold J64; omega
        obtain ⟨Ax, nx, cx, ex, hsx⟩ := HSB.out _ HB.out x hJ
        have HL : (Instr.lookup 72 (.map (some mb)) (.int .i64 x) false).run Try.prog wr = .ok (.slice Ax nx cx) wr := by
          rw [← ex]; exact (HE.out _ HB.out).2.2.2.2.1.look Try.underlying72 (zeroInts _) x hJ
        obtain rfl : nx = (prevL ln ln.length x).length := by have h1 := hsx.len; rw [iv_len] at h1; omega
        have hpl := prevL_len ln ln.length x
        have hcx := hsx.cap; have hcxm := hsx.capm
        have HJx := Lib.hid hJ
        obtain ⟨P, hP⟩ : ∃ P, P = prevL ln ln.length x := ⟨_, rfl⟩
        have HSX : Hid (∀ wx, Below r WL wx → Sl wx r 1 Ax P.length cx (iv P)) := Lib.hid fun wx hb => by
          obtain ⟨A', n', c', e', hs'⟩ := HSB.out _ hb x HJx.out
          rw [ex] at e'
          injection e' with e1 e2 e3
          subst e1; subst e2; subst e3
          rw [hP]; exact hs'
        rw [← hP] at HL hpl hcx
        have HPP := Lib.hid hP
        clear hx2 hx had hxin hJ ex hsx hP
        go_wp2_with fail
        have HO2 : Hid (Own wr r 3 1 (some ad) m.length c (iv (m ++ usrL S node (P.take 0)))) := Lib.hid (by rw [List.take_zero]; simpa [usrL] using HO.out)
        clear HL q0
        go_loopw [6, 33] (fun mv jv wx => ∃ (j n' c' : Nat) (A' : Option Addr), j ≤ P.length ∧ jv = .int .i64 j ∧ mv = .slice A' n' c' ∧ Own wx r 3 1 A' n' c' (iv (m ++ usrL S node (P.take j))) ∧ Below r WL wx) (fun _ jv _ => P.length - (intOf jv).toNat)
        case atStart => exact ⟨0, m.length, c, _, Nat.zero_le _, rfl, rfl, HO2.out, HB.out⟩
        case round =>
          obtain ⟨j, n', c', A', hj, rfl, rfl, ho, hb⟩ := hrel
          have HO5 := Lib.hid ho; have HB5 := Lib.hid hb
          have hlen := ho.len
          rw [iv_len, List.length_append] at hlen
          have hul := usrL_len S node (P.take j)
          rw [List.length_take] at hul
          clear ho hb HO2
          have hj0 : (0 : Int) ≤ (j : Int) := by omega
          by_cases hlt2 : j < P.length
          case neg =>
            obtain rfl : j = P.length := by omega
            have HM5 : Hid (MetB S ln node (m ++ usrL S node P) (i + 1)) := Lib.hid (by rw [HPP.out]; exact hmet.out.step HP.out HMX.out)
            have HO6 : Hid (Own wr r 3 1 A' n' c' (iv (m ++ usrL S node P))) := Lib.hid (by have h := HO5.out; rw [List.take_length] at h; exact h)
            go_wp2_with fail
            go_roundw
            case rel => exact ⟨i + 1, n', c', A', _, by go_num, rfl, by omega, HO6.out, HM5, HB5.out⟩
            case measure => simp [intOf]; omega
          case pos =>
            have hjl : (j : Int) < (P.length : Int) := by omega
            obtain ⟨ax, hy, rfl, hay, d0⟩ := (HSX.out _ HB5.out).int hlt2
            have hhit := usrL_hit (S := S) (node := node) hlt2
            have hmiss := usrL_miss (S := S) (node := node) hlt2
            obtain ⟨u, hu⟩ : ∃ z, z = P[j] := ⟨_, rfl⟩
            rw [← hu] at d0 hhit hmiss
            have HH := Lib.hid hhit; have HMS := Lib.hid hmiss
            obtain ⟨-, -, q0, hrs5, -, -⟩ := HE.out _ HB5.out
            clear hu hhit hmiss hy hay
            by_cases h1 : u = node
            case pos =>
              have HO6 : Hid (Own wr r 3 1 A' n' c' (iv (m ++ usrL S node (P.take (j + 1))))) := Lib.hid (by rw [HMS.out (.inl h1)]; exact HO5.out)
              have g1 : (u != node) = false := by simpa using h1
              clear h1
              go_wp2_with fail
              go_roundw
              case rel => exact ⟨j + 1, n', c', A', by omega, by go_num, rfl, HO6.out, HB5.out⟩
              case measure => simp [intOf]; omega
            case neg =>
              have g1 : (u != node) = true := by simpa using h1
              by_cases h2 : u = S
              case pos =>
                have HO6 : Hid (Own wr r 3 1 A' n' c' (iv (m ++ usrL S node (P.take (j + 1))))) := Lib.hid (by rw [HMS.out (.inr h2)]; exact HO5.out)
                have g2 : (u != S) = false := by simpa using h2
                clear h1 h2
                go_wp2_with fail
                go_roundw
                case rel => exact ⟨j + 1, n', c', A', by omega, by go_num, rfl, HO6.out, HB5.out⟩
                case measure => simp [intOf]; omega
              case neg =>
                have g2 : (u != S) = true := by simpa using h2
                obtain ⟨W6, hW6⟩ : ∃ W, W = wr.alloc (.cells #[.int .i64 u] 3) := ⟨_, rfl⟩
                have b6 : Below wr.heap.size wr W6 := by rw [hW6]; exact (Below.refl _ _).alloc (Nat.le_refl _) _
                have HO6 := Lib.hid (HO5.out.on b6)
                have HB6 := Lib.hid (HB5.out.trans (b6.mono hrs5))
                have HSL : Hid (Sl W6 (wr.heap.size + 1) 1 (some ⟨wr.heap.size, 0, none⟩) 1 1 [.int .i64 u]) := Lib.hid (by rw [hW6]; exact Sl.one _ _ _)
                have hsz : r ≤ W6.heap.size := Nat.le_trans hrs5 b6.size
                have HAPP : Hid (iv (m ++ usrL S node (P.take j)) ++ [.int .i64 u] = iv (m ++ usrL S node (P.take (j + 1)))) := Lib.hid (by rw [HH.out h1 h2, ← List.append_assoc, iv_app (m ++ usrL S node (P.take j)) [u]]; rfl)
                have HW6 := Lib.hid hW6
                have hn' : n' ≤ 33554432 := by omega
                clear h1 h2 hW6 b6
                go_wp2_with (at_builtin; go_loud (rw [← HW6.out]; refine wpList_append_sl _ rfl (.tmp 46) (.tmp 48) 27 rfl r 3 i0 _ 1 8 Try.underlying27 hinf hy0 hy1 hy2 rfl (by omega) A' n' c' (iv (m ++ usrL S node (P.take j))) rfl HO6.out (wr.heap.size + 1) _ 1 1 [.int .i64 u] rfl HSL.out (by simp [Value.oneCell']) (by omega) (by omega) hsz ?_; intro A7 c7 w7 hown7 hg7 hat7; have HR7 : Hid (Own w7 r 3 1 A7 (n' + 1) c7 (iv (m ++ usrL S node (P.take (j + 1)))) ∧ Below r WL w7) := Lib.hid ⟨by rw [← HAPP.out]; exact hown7, HO6.out.below HB6.out hsz hg7⟩; clear hown7 hg7 hat7))
                go_roundw
                case rel => exact ⟨j + 1, n' + 1, c7, A7, by omega, by go_num, rfl, HR7.out.1, HR7.out.2⟩
                case measure => simp [intOf]; omega
end Go.Proofs.Ytjobjjmeneddnaa
