/- The model's RouteOf, l15Has, EqualTables, TableOf, UsesNode. The model's EqualTables, UsesNode. The model's IsDownhill. -/
import Derived.Test.YtjobjjmeneddnaaNextM
import Derived.Test.YtjobjjmeneddnaaTableCopies
import Derived.Test.YtjobjjmeneddnaaEqual
namespace Go.Proofs.Ytjobjjmeneddnaa
open Go.ChangeShapes Go.WideShapes Go.ChangeAt Go.RowKit
set_option linter.unusedVariables false
theorem tabv_blk (w : World) (T : TypeId) (cs : Array Value) : Blk (w.alloc (.cells cs T)) w.heap.size T cs := Blk.new _ _ _
set_option maxRecDepth 100000 in
theorem sroute (w : World) (D : Nat) (S : Int) (Ad : Option Addr) (nd cd : Nat) (An : Option Addr) (nn cn : Nat) (ld ln : List Int) (h : InTab w D Ad nd cd An nn cn ld ln) (hD : D ≤ w.heap.size) (hn : nn ≤ 16777216) (a : Int) :
    Calls Try.prog 16 #[.agg #[.int .i64 S, .slice Ad nd cd, .slice An nn cn], .int .i64 a] w (GivesIM w (pathL ln a S)) := by
  obtain ⟨W1, hW1⟩ : ∃ W, W = w.alloc (.cells #[.int .i64 S, .slice Ad nd cd, .slice An nn cn] 29) := ⟨_, rfl⟩
  obtain ⟨g, hg⟩ : ∃ g, g = w.heap.size := ⟨_, rfl⟩
  have b1 : Below w.heap.size w W1 := by rw [hW1]; exact (Below.refl _ _).alloc (Nat.le_refl _) _
  have Y1 : Blk W1 g 29 #[.int .i64 S, .slice Ad nd cd, .slice An nn cn] := by rw [hW1, hg]; exact Blk.new _ _ _
  have q0 : W1.cell? ⟨g, 0, none⟩ = some (.int .i64 S) := Y1.cell 0
  have q2 : W1.cell? ⟨g, 2, none⟩ = some (.slice An nn cn) := Y1.cell 2
  have HH := Lib.hid (h.n.below b1 hD); have HB1 := Lib.hid b1
  have hs1 : w.heap.size ≤ W1.heap.size := b1.size
  have HW1 := Lib.hid hW1; have HG := Lib.hid hg
  clear h b1 hW1 hg Y1
  go_enter Try.func16, Try.ntmps16
  go_upto_region 1 with fail
  rw [← HW1.out, ← HG.out]
  go_wp2_with fail
  refine (spath W1 D An nn cn ln HH.out (Nat.le_trans hD hs1) hn a S).mono ?_
  rintro e w2 ⟨A2, n2, c2, rfl, o2, b2⟩
  have HR : Hid (GivesIM w (pathL ln a S) (.returned (.slice A2 n2 c2)) w2) := Lib.hid ⟨A2, n2, c2, rfl, o2.fewer hs1, HB1.out.trans (b2.mono hs1)⟩
  clear o2 b2
  go_wp2_with fail
  go_ret
  exact HR.out
set_option maxRecDepth 100000 in
theorem shas (w : World) (D : Nat) (A : Option Addr) (n c : Nat) (l : List Int) (h : Sl w D 1 A n c (iv l)) (x : Int) (b : Bool) (hb : decide (x ∈ l) = b) :
    Calls Try.prog 67 #[.slice A n c, .int .i64 x] w fun e w' => e = .returned (.bool b) ∧ w = w' := by
  have hna : n = l.length := by have h1 := h.len; rw [iv_len] at h1; omega
  subst hna
  have HS := Lib.hid h; have HB := Lib.hid hb
  have hcap := h.cap; have hcapm := h.capm
  clear h hb
  go_enter Try.func67, Try.ntmps67
  go_wp2_with fail
  go_loop [5] (fun i => ∃ k : Nat, k ≤ l.length ∧ i = .int .i64 k ∧ Hid (x ∉ l.take k)) (fun i => l.length - (intOf i).toNat)
  case atStart => exact ⟨0, Nat.zero_le _, rfl, Lib.hid (by simp)⟩
  case round =>
    obtain ⟨k, hk, rfl, hi⟩ := hrel
    by_cases hlt : k < l.length
    case neg =>
      obtain rfl : k = l.length := by omega
      obtain rfl : b = false := by rw [← HB.out]; exact decide_eq_false (by have := hi.out; rwa [List.take_length] at this)
      go_wp2_with fail
      go_ret
      exact ⟨rfl, rfl⟩
    case pos =>
      obtain ⟨ad, hx, rfl, had, c0⟩ := HS.out.int hlt
      have HM : Hid (l[k] = x → b = true) := Lib.hid fun e => by rw [← HB.out]; exact decide_eq_true (by rw [← e]; exact List.getElem_mem _)
      have HN : Hid (l[k] ≠ x → x ∉ l.take (k + 1)) := Lib.hid fun e h => by
        rw [List.take_succ_eq_append_getElem hlt, List.mem_append, List.mem_singleton] at h
        rcases h with h | h
        · exact hi.out h
        · exact e h.symm
      obtain ⟨y, hy⟩ : ∃ y, y = l[k] := ⟨_, rfl⟩
      rw [← hy] at c0 HM HN
      clear hy hi
      have hk0 : (0 : Int) ≤ (k : Int) := by omega
      have hkl : (k : Int) < (l.length : Int) := by omega
      by_cases e : y = x
      · obtain rfl := HM.out e
        subst e
        go_wp2_with fail
        go_ret
        exact ⟨rfl, rfl⟩
      · have HN2 := Lib.hid (HN.out e)
        have e2 : (y == x) = false := by simpa using e
        clear e HM HN
        go_wp2_with fail
        go_round
        case rel => exact ⟨k + 1, by omega, by go_num, HN2⟩
        case measure => simp [intOf]; omega
set_option maxRecDepth 100000 in
set_option maxHeartbeats 1000000 in
theorem stable (w : World) (D : Nat) (A : Option Addr) (n c : Nat) (l : List (Int × Int)) (h : Sl w D 2 A n c (sv l)) (hD : D ≤ w.heap.size) (hn : n ≤ 16777216) (nodes f dst : Int) (hj : J64 nodes ∧ J64 f ∧ J64 dst) :
    Calls Try.prog 22 #[.slice A n c, .int .i64 nodes, .int .i64 f, .int .i64 dst] w fun e w' => ∃ Ad nd cd An nn cn, e = .returned (.agg #[.int .i64 dst, .slice Ad nd cd, .slice An nn cn]) ∧ OwnTab w' w.heap.size Ad nd cd An nn cn (iv (distA l nodes f dst)) (iv (nextA l nodes f dst)) ∧ Below w.heap.size w w' ∧ (okP nodes dst = true → IsDist l nodes.toNat f dst (distA l nodes f dst)) := by
  obtain ⟨W1, hW1⟩ : ∃ W, W = w.alloc (.cells #[.int .i64 0, .slice none 0 0, .slice none 0 0] 29) := ⟨_, rfl⟩
  obtain ⟨g, hg⟩ : ∃ g, g = w.heap.size := ⟨_, rfl⟩
  have b1 : Below w.heap.size w W1 := by rw [hW1]; exact (Below.refl _ _).alloc (Nat.le_refl _) _
  have Y1 : Hid (Blk W1 g 29 #[.int .i64 0, .slice none 0 0, .slice none 0 0]) := Lib.hid (by rw [hW1, hg]; exact Blk.new _ _ _)
  have HS1 := Lib.hid (h.below b1 hD); have HB1 := Lib.hid b1; have HJ := Lib.hid hj
  have hs1 : w.heap.size ≤ W1.heap.size := b1.size
  have HG : Hid (w.heap.size ≤ g ∧ g < W1.heap.size) := Lib.hid ⟨by omega, Y1.out.lt⟩
  have hD1 : D ≤ W1.heap.size := Nat.le_trans hD hs1
  clear h b1 hj
  go_enter Try.func22, Try.ntmps22
  go_wp2_with fail
  rw [← hW1, ← hg]
  clear hW1 hg
  refine (sdistX W1 D A n c l HS1.out hD1 hn nodes f dst HJ.out).mono ?_
  rintro e w2 ⟨⟨Ad, nd, cd, rfl, o2, b2⟩, hdist⟩
  have HDI := Lib.hid hdist
  clear hdist
  have HO2 := Lib.hid o2; have HS2 := Lib.hid (HS1.out.below b2 hD1); have HB2 := Lib.hid (HB1.out.trans (b2.mono hs1)); have Y2 := Lib.hid (Y1.out.below b2 Y1.out.lt)
  have hs2 : W1.heap.size ≤ w2.heap.size := b2.size
  clear o2 b2
  go_wp2_with fail
  refine (snext w2 D A n c l HS2.out (Nat.le_trans hD1 hs2) hn nodes f dst HJ.out).mono ?_
  rintro e w3 ⟨An, nn, cn, rfl, o3, b3⟩
  have hap := HO2.out.apart o3 (Nat.le_refl _); have hap' := HO2.out.apart' o3 (Nat.le_refl _)
  have ho3 := HO2.out.on b3
  have Y3 := Y2.out.below b3 Y2.out.lt
  have hb3 := HB2.out.trans (b3.mono HB2.out.size)
  have na : NotAt g Ad := HO2.out.low HG.out.2
  have nb : NotAt g An := o3.low (Nat.lt_of_lt_of_le HG.out.2 hs2)
  obtain ⟨⟨e0, m0⟩, ⟨e1, m1⟩, ⟨e2, m2⟩, k⟩ := three_out Y3 (.int .i64 dst) (.slice Ad nd cd) (.slice An nn cn)
  have n0 := k.cell 0; have n1 := k.cell 1; have n2 := k.cell 2
  have HR : Hid (OwnTab (((w3.setCell ⟨g, 0, none⟩ (.int .i64 dst)).setCell ⟨g, 1, none⟩ (.slice Ad nd cd)).setCell ⟨g, 2, none⟩ (.slice An nn cn)) w.heap.size Ad nd cd An nn cn (iv (distA l nodes f dst)) (iv (nextA l nodes f dst)) ∧ Below w.heap.size w (((w3.setCell ⟨g, 0, none⟩ (.int .i64 dst)).setCell ⟨g, 1, none⟩ (.slice Ad nd cd)).setCell ⟨g, 2, none⟩ (.slice An nn cn))) := Lib.hid ⟨⟨(((ho3.ne_ (a := ⟨g, 0, none⟩) na _).ne_ (a := ⟨g, 1, none⟩) na _).ne_ (a := ⟨g, 2, none⟩) na _).fewer hs1, (((o3.ne_ (a := ⟨g, 0, none⟩) nb _).ne_ (a := ⟨g, 1, none⟩) nb _).ne_ (a := ⟨g, 2, none⟩) nb _).fewer (Nat.le_trans hs1 hs2), hap, hap'⟩, ((hb3.setCell HG.out.1 _).setCell HG.out.1 _).setCell HG.out.1 _⟩
  clear hap hap' ho3 Y3 hb3 na nb o3 b3 k
  go_wp2
  (try simp only [Exit.inBlock, Exit.then])
  refine bodyPost_ret (v := .agg #[.int .i64 dst, .slice Ad nd cd, .slice An nn cn]) (by simp [results, Try.results22, go_sem, n2, n1, n0]; try rfl) rfl ?_
  exact ⟨Ad, nd, cd, An, nn, cn, rfl, HR.out.1, HR.out.2, HDI.out⟩
end Go.Proofs.Ytjobjjmeneddnaa
namespace Go.Proofs.Ytjobjjmeneddnaa
open Go.ChangeShapes Go.WideShapes Go.ChangeAt Go.RowKit
set_option linter.unusedVariables false
set_option maxRecDepth 100000 in
set_option maxHeartbeats 1000000 in
theorem seqtab (w : World) (D D' : Nat) (S : Int) (Ad : Option Addr) (nd cd : Nat) (An : Option Addr) (nn cn : Nat) (ld ln : List Int) (h : InTab w D Ad nd cd An nn cn ld ln) (hD : D ≤ w.heap.size)
    (S' : Int) (Ad' : Option Addr) (nd' cd' : Nat) (An' : Option Addr) (nn' cn' : Nat) (ld' ln' : List Int) (h' : InTab w D' Ad' nd' cd' An' nn' cn' ld' ln') (hD' : D' ≤ w.heap.size) (hk : OkTab S ld ln) (hk' : OkTab S' ld' ln') (b : Bool) (hb : decide (S = S' ∧ ld = ld' ∧ ln = ln') = b) :
    Calls Try.prog 33 #[.agg #[.int .i64 S, .slice Ad nd cd, .slice An nn cn], .agg #[.int .i64 S', .slice Ad' nd' cd', .slice An' nn' cn']] w (Says w b) := by
  obtain ⟨W2, hW2⟩ : ∃ W, W = (w.alloc (.cells #[.int .i64 S, .slice Ad nd cd, .slice An nn cn] 29)).alloc (.cells #[.int .i64 S', .slice Ad' nd' cd', .slice An' nn' cn'] 29) := ⟨_, rfl⟩
  obtain ⟨g2, hg2⟩ : ∃ g, g = w.heap.size + 1 := ⟨_, rfl⟩
  obtain ⟨g1, hg1⟩ : ∃ g, g = w.heap.size := ⟨_, rfl⟩
  have b2 : Below w.heap.size w W2 := by rw [hW2]; exact ((Below.refl _ _).alloc (Nat.le_refl _) _).alloc (by simp) _
  have Y1 : Hid (Blk W2 g1 29 #[.int .i64 S, .slice Ad nd cd, .slice An nn cn]) := Lib.hid (by rw [hW2, hg1]; exact (Blk.new _ _ _).alloc _)
  have Y2 : Hid (Blk W2 g2 29 #[.int .i64 S', .slice Ad' nd' cd', .slice An' nn' cn']) := Lib.hid (by
    have h := Blk.new (w.alloc (.cells #[.int .i64 S, .slice Ad nd cd, .slice An nn cn] 29)) 29 #[.int .i64 S', .slice Ad' nd' cd', .slice An' nn' cn']
    rw [World.size_alloc] at h
    rw [hW2, hg2]; exact h)
  have HB2 := Lib.hid b2; have H1 := Lib.hid (h.below b2 hD); have H2 := Lib.hid (h'.below b2 hD'); have HK := Lib.hid hk; have HK' := Lib.hid hk'; have HB := Lib.hid hb
  have hs2 : w.heap.size ≤ W2.heap.size := b2.size
  have hD1 := Lib.hid (Nat.le_trans hD hs2); have hD2 := Lib.hid (Nat.le_trans hD' hs2)
  have q10 : W2.cell? ⟨g1, 0, none⟩ = some (.int .i64 S) := Y1.out.cell 0
  have q20 : W2.cell? ⟨g2, 0, none⟩ = some (.int .i64 S') := Y2.out.cell 0
  have q11 : W2.cell? ⟨g1, 1, none⟩ = some (.slice Ad nd cd) := Y1.out.cell 1
  have q21 : W2.cell? ⟨g2, 1, none⟩ = some (.slice Ad' nd' cd') := Y2.out.cell 1
  have HW2 := Lib.hid hW2; have HG := Lib.hid (And.intro hg1 hg2)
  clear h h' hk hk' hb b2 hW2 hg1 hg2
  by_cases hS : S = S'
  case neg =>
    obtain rfl : b = false := by rw [← HB.out]; exact decide_eq_false fun h => hS h.1
    have hne : (S == S') = false := by simpa using hS
    clear hS
    go_enter Try.func33, Try.ntmps33
    go_upto_region 1 with fail
    rw [← HW2.out, ← HG.out.2, ← HG.out.1]
    go_wp2_with fail
    go_ret
    exact ⟨rfl, HB2.out⟩
  case pos =>
    subst hS
    go_enter Try.func33, Try.ntmps33
    go_upto_region 1 with fail
    rw [← HW2.out, ← HG.out.2, ← HG.out.1]
    go_wp2_with fail
    refine (sequalI W2 D D' Ad Ad' nd nd' cd cd' ld ld' H1.out.d H2.out.d HK.out.d HK'.out.d).mono ?_
    rintro e w3 ⟨⟨x, hx, rfl⟩, b3⟩
    have HX := Lib.hid hx
    have B3 := Lib.hid (HB2.out.trans (b3.mono hs2))
    have q12 : w3.cell? ⟨g1, 2, none⟩ = some (.slice An nn cn) := (Y1.out.below b3 Y1.out.lt).cell 2
    have q22 : w3.cell? ⟨g2, 2, none⟩ = some (.slice An' nn' cn') := (Y2.out.below b3 Y2.out.lt).cell 2
    have H13 := Lib.hid (H1.out.below b3 hD1.out); have H23 := Lib.hid (H2.out.below b3 hD2.out)
    clear b3 hx q10 q20 q11 q21
    cases x
    case false =>
      obtain rfl : b = false := by rw [← HB.out]; exact decide_eq_false fun h => of_decide_eq_false HX.out.symm h.2.1
      go_wp2_with fail
      go_ret
      exact ⟨rfl, B3.out⟩
    case true =>
      go_wp2_with fail
      refine (sequalI w3 D D' An An' nn nn' cn cn' ln ln' H13.out.n H23.out.n HK.out.n HK'.out.n).mono ?_
      rintro e w4 ⟨⟨y, hy, rfl⟩, b4⟩
      have B4 := Lib.hid (B3.out.trans (b4.mono B3.out.size))
      obtain rfl : y = b := by
        rw [← HB.out, hy]
        have e1 := of_decide_eq_true HX.out.symm
        subst e1
        simp
      clear b4 hy
      go_wp2_with fail
      go_ret
      exact ⟨rfl, B4.out⟩
/-- how many nodes use a node -/
def useB (S : Int) (ln : List Int) (node : Int) (i : Nat) : Bool := decide ((i : Int) ≠ node ∧ (i : Int) ≠ S ∧ node ∈ pathL ln i S)
def usesL (S : Int) (ln : List Int) (node : Int) : Nat := (List.range ln.length).countP (useB S ln node)
theorem uses_take (S : Int) (ln : List Int) (node : Int) (k : Nat) : (List.range (k + 1)).countP (useB S ln node) = (List.range k).countP (useB S ln node) + if useB S ln node k = true then 1 else 0 := by
  rw [List.range_succ, List.countP_append]
  by_cases h : useB S ln node k = true <;> simp [h]
theorem uses_le (S : Int) (ln : List Int) (node : Int) (k : Nat) : (List.range k).countP (useB S ln node) ≤ k := by
  have := List.countP_le_length (p := useB S ln node) (l := List.range k)
  simpa using this
set_option maxRecDepth 100000 in
set_option maxHeartbeats 1000000 in
theorem suses (w : World) (D : Nat) (S : Int) (Ad : Option Addr) (nd cd : Nat) (An : Option Addr) (nn cn : Nat) (ld ln : List Int) (h : InTab w D Ad nd cd An nn cn ld ln) (hD : D ≤ w.heap.size) (hn : nn ≤ 16777216) (node : Int) :
    Calls Try.prog 38 #[.agg #[.int .i64 S, .slice Ad nd cd, .slice An nn cn], .int .i64 node] w fun e w' => e = .returned (.int .i64 (usesL S ln node : Nat)) ∧ Below w.heap.size w w' := by
  have hnl : nn = ln.length := by have h1 := h.n.len; rw [iv_len] at h1; omega
  subst hnl
  obtain ⟨W1, hW1⟩ : ∃ W, W = w.alloc (.cells #[.int .i64 S, .slice Ad nd cd, .slice An ln.length cn] 29) := ⟨_, rfl⟩
  obtain ⟨g, hg⟩ : ∃ g, g = w.heap.size := ⟨_, rfl⟩
  have b1 : Below w.heap.size w W1 := by rw [hW1]; exact (Below.refl _ _).alloc (Nat.le_refl _) _
  have Y1 : Blk W1 g 29 #[.int .i64 S, .slice Ad nd cd, .slice An ln.length cn] := by rw [hW1, hg]; exact Blk.new _ _ _
  have hs1 : w.heap.size ≤ W1.heap.size := b1.size
  have HC : Hid (∀ wr, Below W1.heap.size W1 wr → InTab wr D Ad nd cd An ln.length cn ld ln ∧ D ≤ wr.heap.size ∧ Below w.heap.size w wr ∧ (wr.cell? ⟨g, 0, none⟩ = some (.int .i64 S) ∧ wr.cell? ⟨g, 1, none⟩ = some (.slice Ad nd cd) ∧ wr.cell? ⟨g, 2, none⟩ = some (.slice An ln.length cn))) := Lib.hid fun wr hb => by
    have hbw := b1.trans (hb.mono hs1)
    have Y := Y1.below hb Y1.lt
    exact ⟨h.below hbw hD, Nat.le_trans hD hbw.size, hbw, Y.cell 0, Y.cell 1, Y.cell 2⟩
  have HW1 := Lib.hid hW1; have HG := Lib.hid hg
  have hcn := h.n.cap; have hcm := h.n.capm
  clear h b1 hW1 hg Y1
  go_enter Try.func38, Try.ntmps38
  go_upto_region 1 with fail
  rw [← HW1.out, ← HG.out]
  go_wp2_with fail
  go_loopw [5, 6] (fun mv iv_ wr => ∃ (i m : Nat), i ≤ ln.length ∧ m ≤ i ∧ iv_ = .int .i64 i ∧ mv = .int .i64 m ∧ Hid (m = (List.range i).countP (useB S ln node)) ∧ Below W1.heap.size W1 wr) (fun _ iv_ _ => ln.length - (intOf iv_).toNat)
  case atStart => exact ⟨0, 0, Nat.zero_le _, Nat.le_refl _, rfl, rfl, Lib.hid rfl, Below.refl _ _⟩
  case round =>
    obtain ⟨i, m, hi, hmi, rfl, rfl, hm, hb⟩ := hrel
    have HB := Lib.hid hb
    clear hb
    have hi0 : (0 : Int) ≤ (i : Int) := by omega
    obtain ⟨-, -, -, q0, q1, q2⟩ := HC.out _ HB.out
    by_cases hlt : i < ln.length
    case neg =>
      obtain rfl : i = ln.length := by omega
      have HF := Lib.hid (HC.out _ HB.out).2.2.1
      go_wp2_with fail
      go_ret
      exact ⟨congrArg (fun z : Nat => Ending.returned (.int .i64 (z : Int))) hm.out, HF.out⟩
    case pos =>
      have hil : (i : Int) < (ln.length : Int) := by omega
      have HT := Lib.hid (uses_take S ln node i)
      by_cases h1 : (i : Int) = node
      case pos =>
        have HN : Hid (m = (List.range (i + 1)).countP (useB S ln node)) := Lib.hid (by rw [HT.out, if_neg (by unfold useB; simp [h1]), ← hm.out]; rfl)
        subst h1
        go_wp2_with fail
        go_roundw
        case rel => exact ⟨i + 1, m, by omega, by omega, by go_num, rfl, HN, HB.out⟩
        case measure => simp [intOf]; omega
      case neg =>
        have g1 : ((i : Int) != node) = true := by simpa using h1
        by_cases h2 : (i : Int) = S
        case pos =>
          have HN : Hid (m = (List.range (i + 1)).countP (useB S ln node)) := Lib.hid (by rw [HT.out, if_neg (by unfold useB; simp [h2]), ← hm.out]; rfl)
          have g2 : ((i : Int) != S) = false := by simpa using h2
          clear h1 h2
          go_wp2_with fail
          go_roundw
          case rel => exact ⟨i + 1, m, by omega, by omega, by go_num, rfl, HN, HB.out⟩
          case measure => simp [intOf]; omega
        case neg =>
          have g2 : ((i : Int) != S) = true := by simpa using h2
          obtain ⟨b, hbb⟩ : ∃ b, decide (node ∈ pathL ln i S) = b := ⟨_, rfl⟩
          have HBB := Lib.hid hbb
          have HU : Hid (useB S ln node i = b) := Lib.hid (by
            unfold useB
            rw [← hbb, decide_eq_decide]
            exact ⟨fun h => h.2.2, fun h => ⟨h1, h2, h⟩⟩)
          clear hbb h1 h2
          go_wp2_with fail
          refine (sroute wr D S Ad nd cd An ln.length cn ld ln (HC.out _ HB.out).1 (HC.out _ HB.out).2.1 hn i).mono ?_
          rintro e w2 ⟨A2, n2, c2, rfl, o2, b2⟩
          have HB2 := Lib.hid (HB.out.trans (b2.mono HB.out.size)); have HS2 := Lib.hid o2.sl
          clear o2 b2
          go_wp2_with fail
          refine (shas w2 _ A2 n2 c2 _ HS2.out node b HBB.out).mono ?_
          rintro e w3 ⟨rfl, rfl⟩
          cases b
          case false =>
            have HN : Hid (m = (List.range (i + 1)).countP (useB S ln node)) := Lib.hid (by rw [HT.out, if_neg (by rw [HU.out]; simp), ← hm.out]; rfl)
            go_wp2_with fail
            go_roundw
            case rel => exact ⟨i + 1, m, by omega, by omega, by go_num, rfl, HN, HB2.out⟩
            case measure => simp [intOf]; omega
          case true =>
            have HN : Hid (m + 1 = (List.range (i + 1)).countP (useB S ln node)) := Lib.hid (by rw [HT.out, if_pos HU.out, ← hm.out])
            go_wp2_with fail
            go_roundw
            case rel => exact ⟨i + 1, m + 1, by omega, by omega, by go_num, by go_num, HN, HB2.out⟩
            case measure => simp [intOf]; omega
end Go.Proofs.Ytjobjjmeneddnaa
namespace Go.Proofs.Ytjobjjmeneddnaa
open Go.ChangeShapes Go.WideShapes Go.ChangeAt Go.RowKit
set_option linter.unusedVariables false
/-- a node's entry leads uphill -/
def upB (ld ln : List Int) (i : Nat) : Bool := decide ((0 ≤ atD ln i ∧ atD ln i ≤ (ln.length : Int) - 1) ∧ (atD ld (atD ln i) < 0 ∨ atD ld i ≤ atD ld (atD ln i)))
def downB (ld ln : List Int) : Bool := decide (ld.length = ln.length ∧ ∀ i, i < ln.length → upB ld ln i = false)
set_option maxRecDepth 100000 in
set_option maxHeartbeats 1000000 in
theorem sdown (w : World) (D : Nat) (S : Int) (Ad : Option Addr) (nd cd : Nat) (An : Option Addr) (nn cn : Nat) (ld ln : List Int) (h : InTab w D Ad nd cd An nn cn ld ln) (hD : D ≤ w.heap.size) (b : Bool) (hb : downB ld ln = b) :
    Calls Try.prog 32 #[.agg #[.int .i64 S, .slice Ad nd cd, .slice An nn cn]] w (Says w b) := by
  have hnl : nn = ln.length := by have h1 := h.n.len; rw [iv_len] at h1; omega
  have hdl : nd = ld.length := by have h1 := h.d.len; rw [iv_len] at h1; omega
  subst hnl; subst hdl
  obtain ⟨W1, hW1⟩ : ∃ W, W = w.alloc (.cells #[.int .i64 S, .slice Ad ld.length cd, .slice An ln.length cn] 29) := ⟨_, rfl⟩
  obtain ⟨g, hg⟩ : ∃ g, g = w.heap.size := ⟨_, rfl⟩
  have b1 : Below w.heap.size w W1 := by rw [hW1]; exact (Below.refl _ _).alloc (Nat.le_refl _) _
  have Y1 : Blk W1 g 29 #[.int .i64 S, .slice Ad ld.length cd, .slice An ln.length cn] := by rw [hW1, hg]; exact Blk.new _ _ _
  have hs1 : w.heap.size ≤ W1.heap.size := b1.size
  have HC : Hid (∀ wr, Below W1.heap.size W1 wr → InTab wr D Ad ld.length cd An ln.length cn ld ln ∧ D ≤ wr.heap.size ∧ Below w.heap.size w wr ∧ (wr.cell? ⟨g, 0, none⟩ = some (.int .i64 S) ∧ wr.cell? ⟨g, 1, none⟩ = some (.slice Ad ld.length cd) ∧ wr.cell? ⟨g, 2, none⟩ = some (.slice An ln.length cn))) := Lib.hid fun wr hb => by
    have hbw := b1.trans (hb.mono hs1)
    have Y := Y1.below hb Y1.lt
    exact ⟨h.below hbw hD, Nat.le_trans hD hbw.size, hbw, Y.cell 0, Y.cell 1, Y.cell 2⟩
  have HW1 := Lib.hid hW1; have HG := Lib.hid hg; have HB := Lib.hid hb
  have hcn := h.n.cap; have hcm := h.n.capm; have hdn := h.d.cap; have hdm := h.d.capm
  clear h b1 hW1 hg Y1 hb
  obtain ⟨-, -, hbw, q0, q1, q2⟩ := HC.out _ (Below.refl _ _)
  have HBW := Lib.hid hbw
  clear hbw
  by_cases hl : ld.length = ln.length
  case neg =>
    obtain rfl : b = false := by rw [← HB.out]; exact decide_eq_false fun h => hl h.1
    have e1 : ((ld.length : Int) != (ln.length : Int)) = true := by simp only [bne_iff_ne, ne_eq]; omega
    clear hl
    go_enter Try.func32, Try.ntmps32
    go_upto_region 1 with fail
    rw [← HW1.out, ← HG.out]
    go_wp2_with fail
    go_ret
    exact ⟨rfl, HBW.out⟩
  case pos =>
    have e1 : ((ld.length : Int) != (ln.length : Int)) = false := by rw [hl]; simp
    have HL := Lib.hid hl
    clear hl
    go_enter Try.func32, Try.ntmps32
    go_upto_region 1 with fail
    rw [← HW1.out, ← HG.out]
    go_wp2_with fail
    go_loopw [3] (fun iv_ wr => ∃ i : Nat, i ≤ ln.length ∧ iv_ = .int .i64 i ∧ Hid (∀ j, j < i → upB ld ln j = false) ∧ Below W1.heap.size W1 wr) (fun iv_ _ => ln.length - (intOf iv_).toNat)
    case atStart => exact ⟨0, Nat.zero_le _, rfl, Lib.hid fun j h => by omega, Below.refl _ _⟩
    case round =>
      obtain ⟨i, hi, rfl, hm, hb⟩ := hrel
      have HBB := Lib.hid hb
      clear hb q0 q1 q2
      have hi0 : (0 : Int) ≤ (i : Int) := by omega
      obtain ⟨-, -, -, q0, q1, q2⟩ := HC.out _ HBB.out
      by_cases hlt : i < ln.length
      case neg =>
        obtain rfl : i = ln.length := by omega
        obtain rfl : b = true := by rw [← HB.out]; exact decide_eq_true ⟨HL.out, hm.out⟩
        have HF := Lib.hid (HC.out _ HBB.out).2.2.1
        go_wp2_with fail
        go_ret
        exact ⟨rfl, HF.out⟩
      case pos =>
        have hil : (i : Int) < (ln.length : Int) := by omega
        obtain ⟨ad, hx, rfl, had, c0⟩ := (HC.out _ HBB.out).1.n.int hlt
        obtain ⟨n, hn⟩ : ∃ z, z = ln[i] := ⟨_, rfl⟩
        rw [← hn] at c0
        have HN : Hid (atD ln i = n) := Lib.hid (by rw [hn, atD_nat ln i hlt])
        have HNEXT : Hid (upB ld ln i = false → ∀ j, j < i + 1 → upB ld ln j = false) := Lib.hid fun h j hj => by
          by_cases e : j = i
          · rw [e]; exact h
          · exact hm.out j (by omega)
        have HBAD : Hid (upB ld ln i = true → b = false) := Lib.hid fun h => by
          rw [← HB.out]
          exact decide_eq_false fun h2 => by rw [h2.2 i hlt] at h; cases h
        have hw1 : wrap64 ((ln.length : Int) - 1) = (ln.length : Int) - 1 := by unfold wrap64; omega
        clear hn hm hx had
        by_cases hin : 0 ≤ n ∧ n ≤ (ln.length : Int) - 1
        case neg =>
          have HG := Lib.hid (HNEXT.out (decide_eq_false fun h => hin (by rw [← HN.out]; exact h.1)))
          have HIN := Lib.hid hin
          clear hin
          go_upto_region 7 with fail
          go_quiet (first | (go_at_call 64; refine quiet_same (sinr_f n 0 ((ln.length : Int) - 1) _ HIN.out)))
          have HB2 := Lib.hid (below_drawnK HBB.out nq)
          go_wp2_with fail
          go_roundw
          case rel => exact ⟨i + 1, by omega, by go_num, HG, HB2.out⟩
          case measure => simp [intOf]; omega
        case pos =>
          obtain ⟨hx0, hx1⟩ := hin
          obtain ⟨ni, rfl⟩ : ∃ ni : Nat, (ni : Int) = n := ⟨n.toNat, by omega⟩
          have hnl : ni < ld.length := by have := HL.out; omega
          have hil2 : i < ld.length := by have := HL.out; omega
          have hnl' : (ni : Int) < (ld.length : Int) := by omega
          have hil2' : (i : Int) < (ld.length : Int) := by omega
          obtain ⟨bd, hy, rfl, hbd, d0⟩ := (HC.out _ HBB.out).1.d.int hnl
          obtain ⟨bd', hy', eb, hbd', d1⟩ := (HC.out _ HBB.out).1.d.int hil2
          injection eb with eb
          subst eb
          rw [← atD_nat ld ni hnl] at d0
          rw [← atD_nat ld i hil2] at d1
          obtain ⟨vn, hvn⟩ : ∃ v, v = atD ld ni := ⟨_, rfl⟩
          obtain ⟨vi, hvi⟩ : ∃ v, v = atD ld i := ⟨_, rfl⟩
          rw [← hvn] at d0
          rw [← hvi] at d1
          have HUP : Hid (upB ld ln i = decide (vn < 0 ∨ vi ≤ vn)) := Lib.hid (by
            unfold upB
            rw [HN.out, ← hvn, ← hvi, decide_eq_decide]
            exact ⟨fun h => h.2, fun h => ⟨⟨hx0, hx1⟩, h⟩⟩)
          clear hvn hvi hy hy' hbd hbd'
          by_cases h1 : vn < 0
          case pos =>
            obtain rfl := HBAD.out (by rw [HUP.out]; exact decide_eq_true (.inl h1))
            go_upto_region 7 with fail
            go_quiet (first | (go_at_call 64; refine quiet_same (sinr_t (ni : Int) 0 ((ln.length : Int) - 1) _ hx0 hx1)))
            have HF := Lib.hid (HC.out _ (below_drawnK HBB.out nq)).2.2.1
            go_wp2_with fail
            go_ret
            exact ⟨rfl, HF.out⟩
          case neg =>
            have h1d : decide (vn < 0) = false := decide_eq_false h1
            by_cases h2 : vi ≤ vn
            case pos =>
              obtain rfl := HBAD.out (by rw [HUP.out]; exact decide_eq_true (.inr h2))
              clear h1
              go_upto_region 7 with fail
              go_quiet (first | (go_at_call 64; refine quiet_same (sinr_t (ni : Int) 0 ((ln.length : Int) - 1) _ hx0 hx1)))
              have HF := Lib.hid (HC.out _ (below_drawnK HBB.out nq)).2.2.1
              go_wp2_with fail
              go_ret
              exact ⟨rfl, HF.out⟩
            case neg =>
              have HG := Lib.hid (HNEXT.out (by rw [HUP.out]; exact decide_eq_false fun h => by rcases h with h | h; exact h1 h; exact h2 h))
              have h2d : decide (vi ≤ vn) = false := decide_eq_false h2
              clear h1 h2
              go_upto_region 7 with fail
              go_quiet (first | (go_at_call 64; refine quiet_same (sinr_t (ni : Int) 0 ((ln.length : Int) - 1) _ hx0 hx1)))
              have HB2 := Lib.hid (below_drawnK HBB.out nq)
              go_wp2_with fail
              go_roundw
              case rel => exact ⟨i + 1, by omega, by go_num, HG, HB2.out⟩
              case measure => simp [intOf]; omega
end Go.Proofs.Ytjobjjmeneddnaa
