/- What law FnTables asks, in plain words: tables lead downhill, downhill has no loop, routes begin and end where they should. The walk of law FnTables, for a code that is read. -/
import Derived.Test.YtjobjjmeneddnaaLoopP
import Derived.Test.YtjobjjmeneddnaaTableM4
import Derived.Test.YtjobjjmeneddnaaTable
import Derived.Test.YtjobjjmeneddnaaDrawTable
import Derived.Test.YtjobjjmeneddnaaBig
import Derived.BigQuiet
import Derived.Deep.CutBlock
import Derived.Deep.Cut
import Derived.Deep.DeepCutAuto
import Derived.Deep.CutRange
namespace Go.Proofs.Ytjobjjmeneddnaa
open Go.ChangeShapes Go.WideShapes Go.ChangeAt Go.RowKit
set_option linter.unusedVariables false
theorem tab_down {S : Int} {ld ln : List Int} {N f : Int} (h : isTab S ld ln N f = true) : downB ld ln = true := by
  have h1 : okP N S = true ∧ (ld.length : Int) = N ∧ (ln.length : Int) = N ∧ ∀ i, i < ln.length → nodeB S ld ln ln.length f i = true := of_decide_eq_true h
  obtain ⟨_, h2, h3, h4⟩ := h1
  refine decide_eq_true ⟨by omega, fun i hi => ?_⟩
  have h5 := h4 i hi
  refine decide_eq_false fun hu => ?_
  unfold nodeB at h5
  split at h5
  · have h6 : atD ln i = -1 ∧ (atD ld i = 0 ↔ (i : Int) = S) := of_decide_eq_true h5
    omega
  · have h6 : (1 ≤ atD ld i ∧ atD ld i ≤ (ln.length : Int) - 1) ∧ (0 ≤ atD ln i ∧ atD ln i ≤ (ln.length : Int) - 1) ∧ (atD ln i < f ∨ atD ln i = S) ∧ atD ld (atD ln i) = atD ld i - 1 := of_decide_eq_true h5
    obtain ⟨h7, _, _, h8⟩ := h6
    rcases hu.2 with h9 | h9 <;> omega
theorem down_falls {ld ln : List Int} (h : downB ld ln = true) (i : Int) (j : Nat) : inN ln (itr ln j i) → atD ld (itr ln j i) ≤ atD ld i - j := by
  have h1 : ld.length = ln.length ∧ ∀ i, i < ln.length → upB ld ln i = false := of_decide_eq_true h
  induction j with
  | zero => intro _; show atD ld i ≤ atD ld i - ((0 : Nat) : Int); omega
  | succ j ih =>
    intro hj
    have hin : inN ln (itr ln j i) := Classical.byContradiction fun hn => out_stays hn 1 hj
    have h2 := ih hin
    obtain ⟨x, hx⟩ : ∃ x : Nat, (x : Int) = itr ln j i := ⟨(itr ln j i).toNat, by unfold inN at hin; omega⟩
    have h3 : itr ln (j + 1) i = atD ln x := by rw [hx]; rfl
    rw [h3] at hj ⊢
    rw [← hx] at h2 hin
    have h4 := of_decide_eq_false (h1.2 x (by unfold inN at hin; omega))
    have h5 : ¬ (atD ld (atD ln x) < 0 ∨ atD ld x ≤ atD ld (atD ln x)) := fun hu => h4 ⟨hj, hu⟩
    omega
theorem down_no_loop {ld ln : List Int} (h : downB ld ln = true) : loopB ln = false := by
  unfold loopB
  rw [List.any_eq_false]
  intro i hi
  have hi := List.mem_range.1 hi
  unfold loopAt
  rw [Bool.not_eq_true, List.any_eq_false]
  intro k _ e
  have e2 := of_decide_eq_true e
  have hin : inN ln (i : Int) := by unfold inN; omega
  have := down_falls h i (k + 1) (by rw [e2]; exact hin)
  rw [e2] at this
  omega
theorem pathGo_ends {next : List Int} {dst : Int} (m : Nat) : ∀ a p, pathGo next dst m a = some p → p[0]? = some a ∧ p[p.length - 1]? = some dst := by
  induction m with
  | zero => intro a p h; simp [pathGo] at h
  | succ m ih =>
    intro a p h
    unfold pathGo at h
    split at h
    · split at h
      · rename_i hd
        injection h with h; subst h; simp [hd]
      · rw [Option.map_eq_some_iff] at h
        obtain ⟨q, hq, rfl⟩ := h
        obtain ⟨h1, h2⟩ := ih _ q hq
        have hql : 0 < q.length := (List.getElem?_eq_some_iff.1 h1).1
        refine ⟨rfl, ?_⟩
        rw [List.length_cons, show q.length + 1 - 1 = (q.length - 1) + 1 by omega, List.getElem?_cons_succ]
        exact h2
    · cases h
theorem pathL_ends {next : List Int} {a dst : Int} (h : 0 < (pathL next a dst).length) : (pathL next a dst)[0]? = some a ∧ (pathL next a dst)[(pathL next a dst).length - 1]? = some dst := by
  unfold pathL at h ⊢
  cases e : pathGo next dst (next.length + 1) a with
  | none => rw [e] at h; simp at h
  | some p => exact pathGo_ends _ a p e
theorem dist_tab {L : List (Int × Int)} {f s N : Int} {d : List Int} (hok : okP N s = true) (h : IsDist L N.toNat f s d) : isTab s d (nextL L f s d) N f = true := by
  have hok2 : (1 ≤ N ∧ N ≤ 12) ∧ 0 ≤ s ∧ s ≤ N - 1 := of_decide_eq_true hok
  have hl := h.len
  refine decide_eq_true ⟨hok, by omega, by rw [nextL_len]; omega, fun i hi => ?_⟩
  rw [nextL_len] at hi ⊢
  have hn : atD (nextL L f s d) i = nextAt L f s d i := by rw [atD_next, if_pos (by omega)]
  have hlow := h.low i
  unfold nodeB
  rw [hn]
  split
  · rename_i hc
    refine decide_eq_true ⟨next_none _ ?_, h.zero i⟩
    rcases hc with hc | hc
    · have := (h.zero i).2 hc; omega
    · omega
  · rename_i hc
    have h0 : atD d i ≠ 0 := fun e => hc (.inl ((h.zero i).1 e))
    have h1 : atD d i ≠ -1 := fun e => hc (.inr e)
    obtain ⟨hr, hd⟩ := h.next_some (i : Int) (by omega)
    have hlt := h.lt (i : Int) (by omega)
    have hin := atD_in d _ (show 0 ≤ atD d (nextAt L f s d i) by omega)
    refine decide_eq_true ⟨by omega, by omega, hr, hd⟩
end Go.Proofs.Ytjobjjmeneddnaa
namespace Go.Proofs.Ytjobjjmeneddnaa
open Go.ChangeShapes Go.WideShapes Go.ChangeAt Go.RowKit
set_option linter.unusedVariables false
set_option maxHeartbeats 4000000 in
set_option maxRecDepth 100000 in
theorem coreTables (w : World) (A : Option Addr) (cap : Nat) (xs : List Value) (hB : Bytes xs) (hbig : xs.length ≤ 1048576) (hcap : xs.length ≤ cap) (hm0 : cap ≤ 9223372036854775807) (r0 : Reads w w.heap.size A xs) :
    Calls Try.prog 3 #[.slice A xs.length cap] w fun e w' => e = .returned (.bool true) ∧ Below w.heap.size w w' := by
  have R0 := Lib.hid r0; clear r0
  go_enter Try.func3, Try.ntmps3
  go_wp2_with fail
  refine (big_no _ _ _ _ hbig hm0 hcap).mono ?_
  rintro e w1 ⟨rfl, rfl⟩
  go_wp2_with fail
  refine (drawtab _ _ _ _ hB hbig R0.out).mono ?_
  rintro e w1 ⟨⟨A1, n1, c1, l, N, f, s, rfl, hn1, o1, hj, hN, hf, hd⟩, b1⟩
  have B1 := Lib.hid b1; have S1 := Lib.hid o1.sl
  have HJ : Hid (J64 N ∧ J64 f ∧ J64 s) := Lib.hid (by unfold J64; omega)
  have R1 : Hid (Reads w1 w1.heap.size A xs) := Lib.hid ((R0.out.below b1 (Nat.le_refl _)).more b1.size)
  have hn1' : n1 ≤ 16777216 := by omega
  clear o1 b1 hj R0
  go_wp2_with fail
  refine (itable w1 _ A1 n1 c1 l S1.out (Nat.le_refl _) hn1' N f s HJ.out).mono ?_
  rintro e w2 ⟨Ad, nd, cd, An, nn, cn, rfl, o2, b2⟩
  -- the table of drawn links
  have HDI : Hid (0 < (distA l N f s).length → isTab s (distA l N f s) (nextA l N f s) N f = true ∧ ((usesL s (nextA l N f s) s : Nat) : Int) ≤ N) := Lib.hid fun hp => by
    rcases distA_is l N f s with h | ⟨_, h⟩
    · rw [h] at hp; simp at hp
    · have hok : okP N s = true := by
        by_cases e : okP N s = true
        · exact e
        · unfold distA at hp; rw [if_neg e] at hp; simp at hp
      have hok2 : (1 ≤ N ∧ N ≤ 12) ∧ 0 ≤ s ∧ s ≤ N - 1 := of_decide_eq_true hok
      refine ⟨dist_tab hok h, ?_⟩
      have h1 := uses_le s (nextA l N f s) s (nextA l N f s).length
      have h2 : (nextA l N f s).length = N.toNat := by unfold nextA; rw [nextL_len]; exact h.len
      unfold usesL
      omega
  have HDL := Lib.hid (distA_len l N f s); have HNL := Lib.hid (nextA_len l N f s)
  have HOT : Hid (OkTab s (distA l N f s) (nextA l N f s)) := Lib.hid ⟨HJ.out.2.2, distA_rng l N f s, nextA_rng l N f s⟩
  obtain ⟨td, htd⟩ : ∃ d, d = distA l N f s := ⟨_, rfl⟩
  obtain ⟨tn, htn⟩ : ∃ d, d = nextA l N f s := ⟨_, rfl⟩
  rw [← htd, ← htn] at o2 HDI HOT; rw [← htd] at HDL; rw [← htn] at HNL
  have hnd : nd = td.length := by have h1 := o2.d.len; rw [iv_len] at h1; omega
  have hnn : nn = tn.length := by have h1 := o2.n.len; rw [iv_len] at h1; omega
  have hnd12 : nd ≤ 12 := by rw [hnd]; exact HDL.out
  have hnn12 : nn ≤ 12 := by rw [hnn]; exact HNL.out
  have HND := Lib.hid hnd
  obtain ⟨W2, hW2⟩ : ∃ W, W = w2.alloc (.cells #[.int .i64 s, .slice Ad nd cd, .slice An nn cn] 29) := ⟨_, rfl⟩
  have k2 : Below w2.heap.size w2 W2 := by rw [hW2]; exact (Below.refl _ _).alloc (Nat.le_refl _) _
  have T2 : Hid (Blk W2 w2.heap.size 29 #[.int .i64 s, .slice Ad nd cd, .slice An nn cn]) := Lib.hid (by rw [hW2]; exact Blk.new _ _ _)
  have B2 : Hid (Below w.heap.size w W2) := Lib.hid ((B1.out.trans (b2.mono B1.out.size)).trans (k2.mono (Nat.le_trans B1.out.size b2.size)))
  have H2 : Hid (InTab W2 W2.heap.size Ad nd cd An nn cn td tn) := Lib.hid ⟨(o2.on k2).d.sl, (o2.on k2).n.sl⟩
  have R2 : Hid (Reads W2 W2.heap.size A xs) := Lib.hid ((R1.out.below (b2.trans (k2.mono b2.size)) (Nat.le_refl _)).more (Nat.le_trans b2.size k2.size))
  have HW2 := Lib.hid hW2
  clear o2 b2 k2 htd htn hnd hnn hW2 B1 S1 R1 HDL HNL
  go_upto_region 5 with fail
  rw [← HW2.out]
  clear HW2
  -- a table, right or spoilt, with two numbers
  go_wp2_with fail
  refine (drawistab W2 _ _ _ hB hbig R2.out).mono ?_
  rintro e w3 ⟨⟨Sx, Ax, mx, cx, Ay, my, cy, lx, ly, Nx, fx, rfl, hx, hNx, hfx⟩, b3⟩
  obtain ⟨W3, hW3⟩ : ∃ W, W = w3.alloc (.cells #[.int .i64 Sx, .slice Ax mx cx, .slice Ay my cy] 29) := ⟨_, rfl⟩
  have k3 : Below w3.heap.size w3 W3 := by rw [hW3]; exact (Below.refl _ _).alloc (Nat.le_refl _) _
  have b23 : Below W2.heap.size W2 W3 := b3.trans (k3.mono b3.size)
  have T3 : Hid (Blk W3 w2.heap.size 29 #[.int .i64 s, .slice Ad nd cd, .slice An nn cn]) := Lib.hid (T2.out.below b23 T2.out.lt)
  have X3 : Hid (Blk W3 w3.heap.size 29 #[.int .i64 Sx, .slice Ax mx cx, .slice Ay my cy]) := Lib.hid (by rw [hW3]; exact Blk.new _ _ _)
  have B3 : Hid (Below w.heap.size w W3) := Lib.hid (B2.out.trans (b23.mono B2.out.size))
  have H3 : Hid (InTab W3 W3.heap.size Ad nd cd An nn cn td tn) := Lib.hid ⟨H2.out.d.on b23, H2.out.n.on b23⟩
  have HX3 := Lib.hid (hx.on k3)
  have R3 : Hid (Reads W3 W3.heap.size A xs) := Lib.hid ((R2.out.below b23 (Nat.le_refl _)).more b23.size)
  have HJX : Hid (J64 Nx ∧ J64 fx) := Lib.hid (by unfold J64; omega)
  have HW3 := Lib.hid hW3
  clear b3 k3 b23 hx hW3 T2 B2 H2 R2
  go_upto_region 6 with fail
  rw [← HW3.out]
  clear HW3
  -- a table with one number
  go_wp2_with fail
  refine (drawroute W3 _ _ _ hB hbig R3.out).mono ?_
  rintro e w4 ⟨⟨Sy, Au, mu, cu, Av, mv, cv, lu, lv, a, rfl, hy, ha1, ha2⟩, b4⟩
  obtain ⟨W4, hW4⟩ : ∃ W, W = w4.alloc (.cells #[.int .i64 Sy, .slice Au mu cu, .slice Av mv cv] 29) := ⟨_, rfl⟩
  have k4 : Below w4.heap.size w4 W4 := by rw [hW4]; exact (Below.refl _ _).alloc (Nat.le_refl _) _
  have b34 : Below W3.heap.size W3 W4 := b4.trans (k4.mono b4.size)
  have T4 : Hid (Blk W4 w2.heap.size 29 #[.int .i64 s, .slice Ad nd cd, .slice An nn cn]) := Lib.hid (T3.out.below b34 T3.out.lt)
  have X4 : Hid (Blk W4 w3.heap.size 29 #[.int .i64 Sx, .slice Ax mx cx, .slice Ay my cy]) := Lib.hid (X3.out.below b34 X3.out.lt)
  have Y4 : Hid (Blk W4 w4.heap.size 29 #[.int .i64 Sy, .slice Au mu cu, .slice Av mv cv]) := Lib.hid (by rw [hW4]; exact Blk.new _ _ _)
  have B4 : Hid (Below w.heap.size w W4) := Lib.hid (B3.out.trans (b34.mono B3.out.size))
  have H4 : Hid (InTab W4 W4.heap.size Ad nd cd An nn cn td tn) := Lib.hid ⟨H3.out.d.on b34, H3.out.n.on b34⟩
  have HX4 := Lib.hid (HX3.out.on b34); have HY4 := Lib.hid (hy.on k4)
  have HJY : Hid (J64 a) := Lib.hid (by unfold J64; omega)
  have HW4 := Lib.hid hW4
  obtain ⟨gt, hgt⟩ : ∃ g, g = w2.heap.size := ⟨_, rfl⟩
  obtain ⟨gx, hgx⟩ : ∃ g, g = w3.heap.size := ⟨_, rfl⟩
  obtain ⟨gy, hgy⟩ : ∃ g, g = w4.heap.size := ⟨_, rfl⟩
  rw [← hgt] at T4; rw [← hgx] at X4; rw [← hgy] at Y4
  have HG := Lib.hid (And.intro hgt (And.intro hgx hgy))
  clear b4 k4 b34 hy hW4 T3 X3 B3 H3 R3 HX3 hgt hgx hgy
  go_upto_region 7 with fail
  rw [← HW4.out, ← HG.out.2.2, ← HG.out.2.1, ← HG.out.1]
  clear HW4 HG
  obtain ⟨QQ, hQ⟩ : ∃ QQ : World → Prop, ∀ wr, QQ wr ↔ Below W4.heap.size W4 wr := ⟨_, fun _ => Iff.rfl⟩
  have HQ0 : Hid (QQ W4) := Lib.hid ((hQ _).2 (Below.refl _ _))
  have HQ1 : Hid (∀ wr wr', QQ wr → Below wr.heap.size wr wr' → QQ wr') := Lib.hid fun wr wr' h h' => (hQ _).2 (((hQ _).1 h).trans (h'.mono ((hQ _).1 h).size))
  have HC : Hid (∀ wr, QQ wr → (wr.cell? ⟨gt, 0, none⟩ = some (.int .i64 s) ∧ wr.cell? ⟨gt, 1, none⟩ = some (.slice Ad nd cd) ∧ wr.cell? ⟨gt, 2, none⟩ = some (.slice An nn cn)) ∧ (wr.cell? ⟨gx, 0, none⟩ = some (.int .i64 Sx) ∧ wr.cell? ⟨gx, 1, none⟩ = some (.slice Ax mx cx) ∧ wr.cell? ⟨gx, 2, none⟩ = some (.slice Ay my cy)) ∧
      (wr.cell? ⟨gy, 0, none⟩ = some (.int .i64 Sy) ∧ wr.cell? ⟨gy, 1, none⟩ = some (.slice Au mu cu) ∧ wr.cell? ⟨gy, 2, none⟩ = some (.slice Av mv cv)) ∧ InTab wr wr.heap.size Ad nd cd An nn cn td tn ∧ SmallTab wr wr.heap.size Sx Ax mx cx Ay my cy lx ly ∧ SmallTab wr wr.heap.size Sy Au mu cu Av mv cv lu lv ∧ Below w.heap.size w wr) := Lib.hid fun wr h => by
    have hb := (hQ _).1 h
    exact ⟨(T4.out.below hb T4.out.lt).three, (X4.out.below hb X4.out.lt).three, (Y4.out.below hb Y4.out.lt).three, ⟨H4.out.d.on hb, H4.out.n.on hb⟩, HX4.out.on hb, HY4.out.on hb, B4.out.trans (hb.mono B4.out.size)⟩
  have hmx : mx ≤ 13 ∧ my ≤ 13 := ⟨HX4.out.d, HX4.out.n⟩
  have hmu : mu ≤ 13 ∧ mv ≤ 13 := ⟨HY4.out.d, HY4.out.n⟩
  obtain ⟨hmx1, hmx2⟩ := hmx
  obtain ⟨hmu1, hmu2⟩ := hmu
  clear hQ T4 X4 Y4 B4 H4 HX4 HY4 hB hbig hcap hm0 hN hf hd hn1 hn1' hNx hfx ha1 ha2
  -- the route
  obtain ⟨y0, y1, y2⟩ := (HC.out _ HQ0.out).2.2.1
  go_wp2_with fail
  refine (iroute W4 _ Sy Au mu cu Av mv cv lu lv (HC.out _ HQ0.out).2.2.2.2.2.1.t (Nat.le_refl _) (by omega) (by omega) (HC.out _ HQ0.out).2.2.2.2.2.1.k a HJY.out).mono ?_
  rintro e w5 ⟨Ar, nr, cr, rfl, o5, b5⟩
  have HQ5 := Lib.hid (HQ1.out _ _ HQ0.out b5); have O5 := Lib.hid o5
  have hcr := o5.capm
  clear y0 y1 y2 b5 o5
  obtain ⟨y0, y1, y2⟩ := (HC.out _ HQ5.out).2.2.1
  go_wp2_with fail
  refine (sroute w5 _ Sy Au mu cu Av mv cv lu lv (HC.out _ HQ5.out).2.2.2.2.2.1.t (Nat.le_refl _) (by omega) a).mono ?_
  rintro e w6 ⟨As, ns, cs, rfl, o6, b6⟩
  have HE := Lib.hid (pathL_ends (next := lv) (a := a) (dst := Sy))
  have hpl := pathL_len lv a Sy
  obtain ⟨p, hp⟩ : ∃ p, p = pathL lv a Sy := ⟨_, rfl⟩
  rw [← hp] at o6 O5 HE hpl
  obtain rfl : nr = p.length := by have h1 := O5.out.len; rw [iv_len] at h1; omega
  obtain rfl : ns = p.length := by have h1 := o6.len; rw [iv_len] at h1; omega
  have HQ6 := Lib.hid (HQ1.out _ _ HQ5.out b6); have O6 := Lib.hid (O5.out.on b6)
  have hlv : lv.length ≤ 13 := by have h1 := (HC.out _ HQ5.out).2.2.2.2.2.1.t.n.len; rw [iv_len] at h1; omega
  have hpl2 : p.length ≤ 14 := by omega
  clear y0 y1 y2 b6 o6 hp hpl hlv O5 HQ5
  -- a table leads downhill, and what leads downhill has no loop
  obtain ⟨bt, hbt⟩ : ∃ b, isTab Sx lx ly Nx fx = b := ⟨_, rfl⟩
  obtain ⟨bd, hbd⟩ : ∃ b, downB lx ly = b := ⟨_, rfl⟩
  have HBT := Lib.hid hbt; have HBD := Lib.hid hbd
  have HTD : Hid (bt = true → bd = true) := Lib.hid fun h => by rw [← hbd]; exact tab_down (hbt.trans h)
  have HDN : Hid (bd = true → loopB ly = false) := Lib.hid fun h => down_no_loop (hbd.trans h)
  clear hbt hbd
  go_upto_region 10 with fail
  go_cut [71] from 49 to 71 (fun v wx => v = .bool false ∧ QQ wx ∧ Own wx W4.heap.size 3 1 Ar p.length cr (iv p))
  case first =>
    obtain ⟨x0, x1, x2⟩ := (HC.out _ HQ6.out).2.1
    go_wp2_with fail
    refine (istab w6 _ Sx Ax mx cx Ay my cy lx ly (HC.out _ HQ6.out).2.2.2.2.1.t (Nat.le_refl _) (by omega) (by omega) Nx fx (HC.out _ HQ6.out).2.2.2.2.1.k HJX.out.1 HJX.out.2 bt HBT.out).mono ?_
    rintro e w7 ⟨rfl, b7⟩
    have HQ7 := Lib.hid (HQ1.out _ _ HQ6.out b7); have O7 := Lib.hid (O6.out.on b7)
    clear x0 x1 x2 b7 HQ6 O6
    cases bt
    case true =>
      obtain rfl : bd = true := HTD.out rfl
      have HLP := Lib.hid (HDN.out rfl)
      obtain ⟨x0, x1, x2⟩ := (HC.out _ HQ7.out).2.1
      go_wp2_with fail
      refine (idown w7 _ Sx Ax mx cx Ay my cy lx ly (HC.out _ HQ7.out).2.2.2.2.1.t (Nat.le_refl _) (by omega) (by omega) (HC.out _ HQ7.out).2.2.2.2.1.k true HBD.out).mono ?_
      rintro e w8 ⟨rfl, b8⟩
      have HQ8 := Lib.hid (HQ1.out _ _ HQ7.out b8); have O8 := Lib.hid (O7.out.on b8)
      clear x0 x1 x2 b8 HQ7 O7
      obtain ⟨x0, x1, x2⟩ := (HC.out _ HQ8.out).2.1
      go_wp2_with fail
      refine (iloop w8 _ Ay my cy ly (HC.out _ HQ8.out).2.2.2.2.1.t.n (Nat.le_refl _) (by omega) false HLP.out).mono ?_
      rintro e w9 ⟨rfl, b9⟩
      have HQ9 := Lib.hid (HQ1.out _ _ HQ8.out b9); have O9 := Lib.hid (O8.out.on b9)
      clear x0 x1 x2 b9 HQ8 O8
      obtain ⟨x0, x1, x2⟩ := (HC.out _ HQ9.out).2.1
      go_wp2_with fail
      refine (idown w9 _ Sx Ax mx cx Ay my cy lx ly (HC.out _ HQ9.out).2.2.2.2.1.t (Nat.le_refl _) (by omega) (by omega) (HC.out _ HQ9.out).2.2.2.2.1.k true HBD.out).mono ?_
      rintro e w10 ⟨rfl, b10⟩
      have HQ10 := Lib.hid (HQ1.out _ _ HQ9.out b10); have O10 := Lib.hid (O9.out.on b10)
      clear x0 x1 x2 b10 HQ9 O9
      obtain ⟨x0, x1, x2⟩ := (HC.out _ HQ10.out).2.1
      go_wp2_with fail
      refine (iloop w10 _ Ay my cy ly (HC.out _ HQ10.out).2.2.2.2.1.t.n (Nat.le_refl _) (by omega) false HLP.out).mono ?_
      rintro e w11 ⟨rfl, b11⟩
      have HQ11 := Lib.hid (HQ1.out _ _ HQ10.out b11); have O11 := Lib.hid (O10.out.on b11)
      clear x0 x1 x2 b11 HQ10 O10
      go_wp2_with fail
      go_meet
      exact ⟨rfl, HQ11.out, O11.out⟩
    case false =>
      obtain ⟨x0, x1, x2⟩ := (HC.out _ HQ7.out).2.1
      go_wp2_with fail
      refine (idown w7 _ Sx Ax mx cx Ay my cy lx ly (HC.out _ HQ7.out).2.2.2.2.1.t (Nat.le_refl _) (by omega) (by omega) (HC.out _ HQ7.out).2.2.2.2.1.k bd HBD.out).mono ?_
      rintro e w8 ⟨rfl, b8⟩
      have HQ8 := Lib.hid (HQ1.out _ _ HQ7.out b8); have O8 := Lib.hid (O7.out.on b8)
      clear x0 x1 x2 b8 HQ7 O7
      cases bd
      case true =>
        have HLP := Lib.hid (HDN.out rfl)
        obtain ⟨x0, x1, x2⟩ := (HC.out _ HQ8.out).2.1
        go_wp2_with fail
        refine (iloop w8 _ Ay my cy ly (HC.out _ HQ8.out).2.2.2.2.1.t.n (Nat.le_refl _) (by omega) false HLP.out).mono ?_
        rintro e w9 ⟨rfl, b9⟩
        have HQ9 := Lib.hid (HQ1.out _ _ HQ8.out b9); have O9 := Lib.hid (O8.out.on b9)
        clear x0 x1 x2 b9 HQ8 O8
        go_wp2_with fail
        go_meet
        exact ⟨rfl, HQ9.out, O9.out⟩
      case false =>
        go_wp2_with fail
        go_meet
        exact ⟨rfl, HQ8.out, O8.out⟩
  case rest =>
    obtain ⟨rfl, hq, ho⟩ := hcut
    have HQ := Lib.hid hq; have O := Lib.hid ho
    clear hq ho HQ6 O6 HBT HBD HTD HDN
    go_upto_region 12 with fail
    obtain ⟨y0, y1, y2⟩ := (HC.out _ HQ.out).2.2.1
    -- how the law ends
    have HEND : Hid (nd ≠ 0 → isTab s td tn N f = true ∧ ((usesL s tn s : Nat) : Int) ≤ N) := Lib.hid fun h => HDI.out (by have := HND.out; omega)
    by_cases hp0 : 0 < p.length
    case pos =>
      obtain ⟨h0, h1⟩ := HE.out hp0
      obtain ⟨gr, hgr⟩ : ∃ g, Ar = some ⟨g, 0, none⟩ := by
        rcases O.out.form with ⟨_, h, _⟩ | ⟨g, h, _⟩
        · omega
        · exact ⟨g, h⟩
      subst hgr
      have q0 := (O.out.cellI 0 hp0).1
      have q1 := (O.out.cellI (p.length - 1) (by omega)).1
      rw [List.getElem?_eq_getElem hp0] at h0
      rw [List.getElem?_eq_getElem (show p.length - 1 < p.length by omega)] at h1
      injection h0 with h0
      injection h1 with h1
      rw [h0] at q0
      rw [h1] at q1
      have hpI : (0 : Int) < (p.length : Int) := by omega
      have hwl : wrap64 ((p.length : Int) - 1) = ((p.length - 1 : Nat) : Int) := by unfold wrap64; omega
      have hwl2 : IntKind.i64.wrap ((p.length : Int) - 1) = ((p.length - 1 : Nat) : Int) := by rw [IntKind.wrap_i64]; omega
      clear h0 h1 HE O
      go_quiet (fail)
      have HQ2 := Lib.hid (HQ1.out _ _ HQ.out (below_drawnP (Below.refl _ _) nq))
      clear q0 q1 y0 y1 y2
      go_upto_region 14 with fail
      obtain ⟨W9, hW9⟩ : ∃ W, W = wc.drewN nq := ⟨_, rfl⟩
      rw [← hW9] at HQ2 ⊢
      clear hW9 HQ
      obtain ⟨t0, t1, t2⟩ := (HC.out _ HQ2.out).1
      by_cases hz : nd = 0
      case pos =>
        have HF := Lib.hid (HC.out _ HQ2.out).2.2.2.2.2.2
        clear HEND HND HDI HOT HC
        subst hz
        go_wp2_with fail
        go_ret
        exact ⟨rfl, HF.out⟩
      case neg =>
        have HT := Lib.hid (HEND.out hz).1; have hU := (HEND.out hz).2
        have hzb : ((nd : Int) == 0) = false := by simpa using hz
        obtain ⟨u, hu⟩ : ∃ u, u = usesL s tn s := ⟨_, rfl⟩
        rw [← hu] at hU
        have HUU := Lib.hid hu
        clear HEND hz hu
        go_wp2_with fail
        refine (istab W9 _ s Ad nd cd An nn cn td tn (HC.out _ HQ2.out).2.2.2.1 (Nat.le_refl _) (by omega) (by omega) N f HOT.out HJ.out.1 HJ.out.2.1 true HT.out).mono ?_
        rintro e w12 ⟨rfl, b12⟩
        have HQ12 := Lib.hid (HQ1.out _ _ HQ2.out b12)
        clear t0 t1 t2 b12 HQ2
        obtain ⟨t0, t1, t2⟩ := (HC.out _ HQ12.out).1
        go_wp2_with fail
        refine (iuses w12 _ s Ad nd cd An nn cn td tn (HC.out _ HQ12.out).2.2.2.1 (Nat.le_refl _) (by omega) (by omega) HOT.out s HJ.out.2.2).mono ?_
        rintro e w13 ⟨rfl, b13⟩
        rw [← HUU.out]
        have HF := Lib.hid (HC.out _ (HQ1.out _ _ HQ12.out b13)).2.2.2.2.2.2
        clear t0 t1 t2 b13 HQ12
        go_wp2_with fail
        go_ret
        exact ⟨rfl, HF.out⟩
    case neg =>
      obtain rfl : p = [] := List.eq_nil_of_length_eq_zero (by omega)
      clear HE O hp0
      go_quiet (fail)
      have HQ2 := Lib.hid (HQ1.out _ _ HQ.out (below_drawnP (Below.refl _ _) nq))
      clear y0 y1 y2
      go_upto_region 14 with fail
      obtain ⟨W9, hW9⟩ : ∃ W, W = wc.drewN nq := ⟨_, rfl⟩
      rw [← hW9] at HQ2 ⊢
      clear hW9 HQ
      obtain ⟨t0, t1, t2⟩ := (HC.out _ HQ2.out).1
      by_cases hz : nd = 0
      case pos =>
        have HF := Lib.hid (HC.out _ HQ2.out).2.2.2.2.2.2
        clear HEND HND HDI HOT HC
        subst hz
        go_wp2_with fail
        go_ret
        exact ⟨rfl, HF.out⟩
      case neg =>
        have HT := Lib.hid (HEND.out hz).1; have hU := (HEND.out hz).2
        have hzb : ((nd : Int) == 0) = false := by simpa using hz
        obtain ⟨u, hu⟩ : ∃ u, u = usesL s tn s := ⟨_, rfl⟩
        rw [← hu] at hU
        have HUU := Lib.hid hu
        clear HEND hz hu
        go_wp2_with fail
        refine (istab W9 _ s Ad nd cd An nn cn td tn (HC.out _ HQ2.out).2.2.2.1 (Nat.le_refl _) (by omega) (by omega) N f HOT.out HJ.out.1 HJ.out.2.1 true HT.out).mono ?_
        rintro e w12 ⟨rfl, b12⟩
        have HQ12 := Lib.hid (HQ1.out _ _ HQ2.out b12)
        clear t0 t1 t2 b12 HQ2
        obtain ⟨t0, t1, t2⟩ := (HC.out _ HQ12.out).1
        go_wp2_with fail
        refine (iuses w12 _ s Ad nd cd An nn cn td tn (HC.out _ HQ12.out).2.2.2.1 (Nat.le_refl _) (by omega) (by omega) HOT.out s HJ.out.2.2).mono ?_
        rintro e w13 ⟨rfl, b13⟩
        rw [← HUU.out]
        have HF := Lib.hid (HC.out _ (HQ1.out _ _ HQ12.out b13)).2.2.2.2.2.2
        clear t0 t1 t2 b13 HQ12
        go_wp2_with fail
        go_ret
        exact ⟨rfl, HF.out⟩
end Go.Proofs.Ytjobjjmeneddnaa
