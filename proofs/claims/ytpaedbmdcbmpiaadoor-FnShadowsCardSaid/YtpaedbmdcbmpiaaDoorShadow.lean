/- The program's SunAt, ShadowAt, isLit and isDark, in plain words. -/
import Derived.Test.YtpaedbmdcbmpiaaDoorPlaces
import Derived.Deep.DeepCutAuto
import Derived.Deep.CutRange
import Derived.Deep.CutBlock
namespace Go.Proofs.YtpaedbmdcbmpiaaDoor
open Go.ChangeShapes Go.WideShapes Go.ChangeAt Go.RowKit
set_option linter.unusedVariables false
/-- what a gap and an error say of a shadow -/
def shI (g e D : Int) : Int := if D < g - e then 0 else if g + e ≤ D then 2 else 1
/-- the gap between a node's middle and the middle of the shadow -/
def shG (U : Int) (ls : List Sat4) (li : List Tri) (node t : Int) : Int := gapf (midf (arcS ls li node t) (arcW ls li node)) (plc 0 U t + 180)
/-- what ShadowAt answers -/
def shOf (U D : Int) (ls : List Sat4) (li : List Tri) (node t : Int) : Int := if 0 ≤ node ∧ node < ls.length then shI (shG U ls li node t) (arcW ls li node / 2) D else 0
theorem shI_cases (g e D : Int) : (D < g - e ∧ shI g e D = 0) ∨ (¬ D < g - e ∧ g + e ≤ D ∧ shI g e D = 2) ∨ (¬ D < g - e ∧ ¬ g + e ≤ D ∧ shI g e D = 1) := by
  unfold shI
  by_cases h1 : D < g - e
  · exact .inl ⟨h1, if_pos h1⟩
  · by_cases h2 : g + e ≤ D
    · exact .inr (.inl ⟨h1, h2, by rw [if_neg h1, if_pos h2]⟩)
    · exact .inr (.inr ⟨h1, h2, by rw [if_neg h1, if_neg h2]⟩)
theorem gap_bd (a b : Int) : 0 ≤ gapf a b ∧ gapf a b ≤ 180 := by unfold gapf mnf ang; split <;> omega
theorem plc_bd (p v t : Int) : 0 ≤ plc p v t ∧ plc p v t < 360 := ⟨ang_lo _, ang_hi _⟩
theorem isun (w : World) (P R X V U D Q : Int) (ns ni nz : Nat) (ls : List Sat4) (li lz : List Tri) (As : Option Addr) (cs : Nat) (Ai : Option Addr) (ci : Nat) (Az : Option Addr) (cz : Nat) (t z : Int) (hz : plc 0 U t = z) :
    Calls Tryd.prog 14 #[.agg #[.int .i64 P, .slice As ns cs, .slice Ai ni ci, .int .i64 R, .int .i64 X, .int .i64 V, .int .i64 U, .int .i64 D, .slice Az nz cz, .int .i64 Q], .int .i64 t] w (Num w z) := by
  obtain ⟨W0, hW0⟩ : ∃ W, W = w.alloc (.cells #[.int .i64 P, .slice As ns cs, .slice Ai ni ci, .int .i64 R, .int .i64 X, .int .i64 V, .int .i64 U, .int .i64 D, .slice Az nz cz, .int .i64 Q] 28) := ⟨_, rfl⟩
  have T0 : Hid (Below w.heap.size w W0) := Lib.hid (by rw [hW0]; exact (Below.refl _ _).alloc (Nat.le_refl _) _)
  have Z0 : Hid (Blk W0 w.heap.size 28 #[.int .i64 P, .slice As ns cs, .slice Ai ni ci, .int .i64 R, .int .i64 X, .int .i64 V, .int .i64 U, .int .i64 D, .slice Az nz cz, .int .i64 Q]) := Lib.hid (by rw [hW0]; exact Blk.new _ _ _)
  obtain ⟨c0, c1, c2, c3, c4, c5, c6, c7, c8, c9⟩ := Z0.out.ten
  have HZ := Lib.hid hz
  clear hz
  go_enter Tryd.func14, Tryd.ntmps14
  go_wp2_with fail
  rw [← hW0]
  refine (iplace 0 0 U 0 t _).mono ?_
  rintro e w1 ⟨rfl, b1⟩
  have HF := Lib.hid (T0.out.trans (b1.mono T0.out.size))
  rw [show plc 0 U t = z from HZ.out]
  clear b1 hW0
  go_wp2
  go_ret
  exact ⟨rfl, HF.out⟩
set_option maxRecDepth 100000 in
theorem ishadow (w : World) (P R X V U D Q : Int) (ns ni nz : Nat) (ls : List Sat4) (li lz : List Tri) (As : Option Addr) (cs : Nat) (Ai : Option Addr) (ci : Nat) (Az : Option Addr) (cz : Nat) (D0 : Nat) (h : InSky w (D0) As ns cs Ai ni ci Az nz cz ls li lz) (hD : D0 ≤ w.heap.size) (hs : ns ≤ 16777216) (hi : ni ≤ 16777216) (nA tW : Addr) (E : Errs w nA tW) (node t : Int) (hn : J64 node) (z : Int) (hz : shOf U D ls li node t = z) :
    Calls Tryd.prog 10 #[.agg #[.int .i64 P, .slice As ns cs, .slice Ai ni ci, .int .i64 R, .int .i64 X, .int .i64 V, .int .i64 U, .int .i64 D, .slice Az nz cz, .int .i64 Q], .int .i64 node, .int .i64 t] w (Num w z) := by
  obtain ⟨W0, hW0⟩ : ∃ W, W = w.alloc (.cells #[.int .i64 P, .slice As ns cs, .slice Ai ni ci, .int .i64 R, .int .i64 X, .int .i64 V, .int .i64 U, .int .i64 D, .slice Az nz cz, .int .i64 Q] 28) := ⟨_, rfl⟩
  have T0 : Hid (Below w.heap.size w W0) := Lib.hid (by rw [hW0]; exact (Below.refl _ _).alloc (Nat.le_refl _) _)
  have E0 := Lib.hid (E.below T0.out)
  have H0 := Lib.hid (h.below T0.out hD)
  have HD : Hid (D0 ≤ W0.heap.size) := Lib.hid (Nat.le_trans hD T0.out.size)
  have Z0 : Hid (Blk W0 w.heap.size 28 #[.int .i64 P, .slice As ns cs, .slice Ai ni ci, .int .i64 R, .int .i64 X, .int .i64 V, .int .i64 U, .int .i64 D, .slice Az nz cz, .int .i64 Q]) := Lib.hid (by rw [hW0]; exact Blk.new _ _ _)
  have HN := Lib.hid hn
  clear E h hD hn
  obtain ⟨c0, c1, c2, c3, c4, c5, c6, c7, c8, c9⟩ := Z0.out.ten
  rcases node_cases ls li node with ⟨k, hk, hkn, hv, -, -⟩ | ⟨k, hk, hkn, hv, -, -⟩ | ⟨hr, hv, -, -⟩
  · obtain ⟨x, hx⟩ : ∃ x, arcS ls li node t = x := ⟨_, rfl⟩
    obtain ⟨y, hy⟩ : ∃ y, arcW ls li node = y := ⟨_, rfl⟩
    obtain ⟨m, hm⟩ : ∃ m, midf x y = m := ⟨_, rfl⟩
    obtain ⟨s, hs0⟩ : ∃ s, plc 0 U t = s := ⟨_, rfl⟩
    obtain ⟨g, hg⟩ : ∃ g, gapf m (s + 180) = g := ⟨_, rfl⟩
    obtain ⟨q, hq⟩ : ∃ q, y / 2 = q := ⟨_, rfl⟩
    have hyb := arcW_bd ls li node; rw [hy] at hyb
    have hgb := gap_bd m (s + 180); rw [hg] at hgb
    have hsb := plc_bd 0 U t; rw [hs0] at hsb
    have hqb : 0 ≤ q ∧ q ≤ 179 := by omega
    have hzz : shI g q D = z := by
      rw [← hz]; unfold shOf shG; rw [if_pos (by omega), hx, hy, hm, hs0, hg, hq]
    have a1 : IntKind.i64.wrap (s + 180) = s + 180 := wrap_in _ (by omega) (by omega)
    have a2 : IntKind.i64.wrap (y.tdiv 2) = q := by rw [Int.tdiv_eq_ediv_of_nonneg (by omega), hq]; exact wrap_in _ (by omega) (by omega)
    have a3 : IntKind.i64.wrap (g - q) = g - q := wrap_in _ (by omega) (by omega)
    have a4 : IntKind.i64.wrap (g + q) = g + q := wrap_in _ (by omega) (by omega)
    have HX := Lib.hid hx; have HY := Lib.hid hy; have HM := Lib.hid hm; have HS := Lib.hid hs0; have HG := Lib.hid hg; have HZ := Lib.hid hzz
    obtain ⟨p1, p2, p3, p4, hv'⟩ : ∃ a b c d : Int, nodeV ls li node = .iface 76 (.agg #[.int .i64 a, .int .i64 b, .int .i64 c, .int .i64 d]) := ⟨_, _, _, _, hv⟩
    have HV := Lib.hid hv'
    clear hv'
    clear hx hy hm hs0 hg hq hz hzz hyb hgb hsb hqb hkn hk hv
    rcases shI_cases g q D with ⟨h1, h3⟩ | ⟨h1, h2, h3⟩ | ⟨h1, h2, h3⟩
    all_goals
      obtain rfl := h3.symm.trans HZ.out
      clear h3 HZ
      go_enter Tryd.func10, Tryd.ntmps10
      go_wp2_with fail
      rw [← hW0]
      refine (inode W0 P R X V U D Q ns ni nz ls li lz As cs Ai ci Az cz D0 H0.out HD.out hs hi node HN.out).mono ?_
      rintro e w1 ⟨rfl, b1⟩
      rw [HV.out]
      have B1 := Lib.hid b1
      clear b1 hW0
      go_wp2_with fail
      refine (kind_sat _ _).mono ?_
      rintro e w1' ⟨rfl, rfl⟩
      clear c0 c1 c2 c3 c4 c5 c6 c7 c8 c9
      obtain ⟨c0, c1, c2, c3, c4, c5, c6, c7, c8, c9⟩ := (Z0.out.below B1.out Z0.out.lt).ten
      go_wp2_with fail
      refine (inodeat w1 P R X V U D Q ns ni nz ls li lz As cs Ai ci Az cz D0 (H0.out.below B1.out HD.out) (Nat.le_trans HD.out B1.out.size) hs hi nA tW (E0.out.below B1.out) node t HN.out x y HX.out HY.out).mono ?_
      rintro e w2 ⟨rfl, b2⟩
      have B2 := Lib.hid (B1.out.trans (b2.mono B1.out.size))
      obtain ⟨ga, hga⟩ : ∃ g, g = w2.heap.size := ⟨_, rfl⟩
      obtain ⟨W2, hW2⟩ : ∃ W, W = w2.alloc (.cells #[.int .i64 x, .int .i64 y] 38) := ⟨_, rfl⟩
      have B3 : Hid (Below W0.heap.size W0 W2) := Lib.hid (by rw [hW2]; exact B2.out.alloc B2.out.size _)
      have Y2 : Hid (Blk W2 ga 38 #[.int .i64 x, .int .i64 y]) := Lib.hid (by rw [hW2, hga]; exact Blk.new _ _ _)
      have HC : Hid (∀ wr, Below W2.heap.size W2 wr → (wr.cell? ⟨ga, 0, none⟩ = some (.int .i64 x) ∧ wr.cell? ⟨ga, 1, none⟩ = some (.int .i64 y) ∧ (wr.cell? ⟨w.heap.size, 0, none⟩ = some (.int .i64 P) ∧ wr.cell? ⟨w.heap.size, 1, none⟩ = some (.slice As ns cs) ∧ wr.cell? ⟨w.heap.size, 2, none⟩ = some (.slice Ai ni ci) ∧ wr.cell? ⟨w.heap.size, 3, none⟩ = some (.int .i64 R) ∧ wr.cell? ⟨w.heap.size, 4, none⟩ = some (.int .i64 X) ∧ wr.cell? ⟨w.heap.size, 5, none⟩ = some (.int .i64 V) ∧ wr.cell? ⟨w.heap.size, 6, none⟩ = some (.int .i64 U) ∧ wr.cell? ⟨w.heap.size, 7, none⟩ = some (.int .i64 D) ∧ wr.cell? ⟨w.heap.size, 8, none⟩ = some (.slice Az nz cz) ∧ wr.cell? ⟨w.heap.size, 9, none⟩ = some (.int .i64 Q))) ∧ Errs wr nA tW ∧ Below w.heap.size w wr) := Lib.hid fun wr hb => by
        have ya := Y2.out.below hb Y2.out.lt
        have hb0 := B3.out.trans (hb.mono B3.out.size)
        exact ⟨⟨ya.cell 0, ya.cell 1, (Z0.out.below hb0 Z0.out.lt).ten⟩, E0.out.below hb0, T0.out.trans (hb0.mono T0.out.size)⟩
      clear b2 c0 c1 c2 c3 c4 c5 c6 c7 c8 c9
      go_upto_region 4 with fail
      rw [← hW2, ← hga]
      clear hW2 hga
      have hcZ := (HC.out _ (Below.refl _ _)).1
      obtain ⟨d0, d1, c0, c1, c2, c3, c4, c5, c6, c7, c8, c9⟩ := hcZ
      go_region_held3 (fun w' => w'.cell? ⟨ga, 0, none⟩ = some (.int .i64 x) ∧ w'.cell? ⟨ga, 1, none⟩ = some (.int .i64 y) ∧ (w'.cell? ⟨w.heap.size, 0, none⟩ = some (.int .i64 P) ∧ w'.cell? ⟨w.heap.size, 1, none⟩ = some (.slice As ns cs) ∧ w'.cell? ⟨w.heap.size, 2, none⟩ = some (.slice Ai ni ci) ∧ w'.cell? ⟨w.heap.size, 3, none⟩ = some (.int .i64 R) ∧ w'.cell? ⟨w.heap.size, 4, none⟩ = some (.int .i64 X) ∧ w'.cell? ⟨w.heap.size, 5, none⟩ = some (.int .i64 V) ∧ w'.cell? ⟨w.heap.size, 6, none⟩ = some (.int .i64 U) ∧ w'.cell? ⟨w.heap.size, 7, none⟩ = some (.int .i64 D) ∧ w'.cell? ⟨w.heap.size, 8, none⟩ = some (.slice Az nz cz) ∧ w'.cell? ⟨w.heap.size, 9, none⟩ = some (.int .i64 Q))) (first | exact ⟨d0, d1, c0, c1, c2, c3, c4, c5, c6, c7, c8, c9⟩ | exact hcC | exact hcB | exact hcA | go_keep) (first
        | (go_at_call 28; refine (imiddle W2.drew nA tW (HC.out _ (Below.refl _ _).drew).2.1 x y m HM.out).mono ?_; rintro e wA ⟨rfl, bA⟩; have HBA : Hid (Below W2.heap.size W2 wA) := Lib.hid ((Below.refl _ _).drew.trans bA); have hcA := (HC.out _ HBA.out).1; clear bA)
        | (go_at_call 14; refine (isun wA P R X V U D Q ns ni nz ls li lz As cs Ai ci Az cz t s HS.out).mono ?_; rintro e wB ⟨rfl, bB⟩; have HBB : Hid (Below W2.heap.size W2 wB) := Lib.hid (HBA.out.trans (bB.mono HBA.out.size)); have hcB := (HC.out _ HBB.out).1; clear bB)
        | (go_at_call 13; refine (igapOf m (s + 180) wB).mono ?_; rintro e wC ⟨rfl, bC⟩; rw [HG.out]; have HBC : Hid (Below W2.heap.size W2 wC) := Lib.hid (HBB.out.trans (bC.mono HBB.out.size)); have hcC := (HC.out _ HBC.out).1; clear bC))
      have HF := Lib.hid (HC.out _ HBC.out).2.2
      obtain ⟨e0, e1, f0, f1, f2, f3, f4, f5, f6, f7, f8, f9⟩ := hcC
      go_wp2
      go_ret
      exact ⟨rfl, HF.out⟩
  · obtain rfl : (0 : Int) = z := by rw [← hz]; unfold shOf; rw [if_neg (by omega)]
    obtain ⟨p1, p2, p3, hv'⟩ : ∃ a b c : Int, nodeV ls li node = .iface 102 (.agg #[.int .i64 a, .int .i64 b, .int .i64 c]) := ⟨_, _, _, hv⟩
    replace hv := Lib.hid hv'
    clear hv' hz hkn hk
    go_enter Tryd.func10, Tryd.ntmps10
    go_wp2_with fail
    rw [← hW0]
    refine (inode W0 P R X V U D Q ns ni nz ls li lz As cs Ai ci Az cz D0 H0.out HD.out hs hi node HN.out).mono ?_
    rintro e w1 ⟨rfl, b1⟩
    rw [hv.out]
    have HF := Lib.hid (T0.out.trans (b1.mono T0.out.size))
    clear b1 hv hW0
    go_wp2_with fail
    refine (kind_site _ _).mono ?_
    rintro e w1' ⟨rfl, rfl⟩
    go_wp2
    go_ret
    exact ⟨rfl, HF.out⟩
  · obtain rfl : (0 : Int) = z := by rw [← hz]; unfold shOf; rw [if_neg (by omega)]
    replace hv := Lib.hid hv
    clear hz hr
    go_enter Tryd.func10, Tryd.ntmps10
    go_wp2_with fail
    rw [← hW0]
    refine (inode W0 P R X V U D Q ns ni nz ls li lz As cs Ai ci Az cz D0 H0.out HD.out hs hi node HN.out).mono ?_
    rintro e w1 ⟨rfl, b1⟩
    rw [hv.out]
    have HF := Lib.hid (T0.out.trans (b1.mono T0.out.size))
    clear b1 hv hW0
    go_wp2_with fail
    refine (kind_none _).mono ?_
    rintro e w1' ⟨rfl, rfl⟩
    go_wp2
    go_ret
    exact ⟨rfl, HF.out⟩
/-- whether a node has sun -/
def litAt (U D : Int) (ls : List Sat4) (li : List Tri) (node t : Int) : Bool := decide (shOf U D ls li node t = 0)
theorem litAt_eq {U D : Int} {ls : List Sat4} {li : List Tri} {node t z : Int} {v : Bool} (h : litAt U D ls li node t = v) (hz : shOf U D ls li node t = z) : (z == 0) = v := by
  rw [← h, ← hz]; rfl
theorem islit (w : World) (P R X V U D Q : Int) (ns ni nz : Nat) (ls : List Sat4) (li lz : List Tri) (As : Option Addr) (cs : Nat) (Ai : Option Addr) (ci : Nat) (Az : Option Addr) (cz : Nat) (D0 : Nat) (h : InSky w (D0) As ns cs Ai ni ci Az nz cz ls li lz) (hD : D0 ≤ w.heap.size) (hs : ns ≤ 16777216) (hi : ni ≤ 16777216) (nA tW : Addr) (E : Errs w nA tW) (node t : Int) (hn : J64 node) (v : Bool) (hv : litAt U D ls li node t = v) :
    Calls Tryd.prog 53 #[.agg #[.int .i64 P, .slice As ns cs, .slice Ai ni ci, .int .i64 R, .int .i64 X, .int .i64 V, .int .i64 U, .int .i64 D, .slice Az nz cz, .int .i64 Q], .int .i64 node, .int .i64 t] w (Tells w v) := by
  obtain ⟨W0, hW0⟩ : ∃ W, W = w.alloc (.cells #[.int .i64 P, .slice As ns cs, .slice Ai ni ci, .int .i64 R, .int .i64 X, .int .i64 V, .int .i64 U, .int .i64 D, .slice Az nz cz, .int .i64 Q] 28) := ⟨_, rfl⟩
  have T0 : Hid (Below w.heap.size w W0) := Lib.hid (by rw [hW0]; exact (Below.refl _ _).alloc (Nat.le_refl _) _)
  have E0 := Lib.hid (E.below T0.out)
  have H0 := Lib.hid (h.below T0.out hD)
  have HD : Hid (D0 ≤ W0.heap.size) := Lib.hid (Nat.le_trans hD T0.out.size)
  have Z0 : Hid (Blk W0 w.heap.size 28 #[.int .i64 P, .slice As ns cs, .slice Ai ni ci, .int .i64 R, .int .i64 X, .int .i64 V, .int .i64 U, .int .i64 D, .slice Az nz cz, .int .i64 Q]) := Lib.hid (by rw [hW0]; exact Blk.new _ _ _)
  have HN := Lib.hid hn
  obtain ⟨z, hz⟩ : ∃ z, shOf U D ls li node t = z := ⟨_, rfl⟩
  have HZ := Lib.hid hz
  have hb : (z == 0) = v := litAt_eq hv hz
  clear E h hD hn hz hv
  obtain ⟨c0, c1, c2, c3, c4, c5, c6, c7, c8, c9⟩ := Z0.out.ten
  go_enter Tryd.func53, Tryd.ntmps53
  go_wp2_with fail
  rw [← hW0]
  refine (ishadow W0 P R X V U D Q ns ni nz ls li lz As cs Ai ci Az cz D0 H0.out HD.out hs hi nA tW E0.out node t HN.out z HZ.out).mono ?_
  rintro e w1 ⟨rfl, b1⟩
  have HF := Lib.hid (T0.out.trans (b1.mono T0.out.size))
  clear b1 hW0
  go_wp2
  go_ret
  exact ⟨rfl, HF.out⟩
theorem isdark (w : World) (P R X V U D Q : Int) (ns ni nz : Nat) (ls : List Sat4) (li lz : List Tri) (As : Option Addr) (cs : Nat) (Ai : Option Addr) (ci : Nat) (Az : Option Addr) (cz : Nat) (D0 : Nat) (h : InSky w (D0) As ns cs Ai ni ci Az nz cz ls li lz) (hD : D0 ≤ w.heap.size) (hs : ns ≤ 16777216) (hi : ni ≤ 16777216) (nA tW : Addr) (E : Errs w nA tW) (node t : Int) (hn : J64 node) (v : Bool) (hv : (!litAt U D ls li node t) = v) :
    Calls Tryd.prog 54 #[.agg #[.int .i64 P, .slice As ns cs, .slice Ai ni ci, .int .i64 R, .int .i64 X, .int .i64 V, .int .i64 U, .int .i64 D, .slice Az nz cz, .int .i64 Q], .int .i64 node, .int .i64 t] w (Tells w v) := by
  obtain ⟨W0, hW0⟩ : ∃ W, W = w.alloc (.cells #[.int .i64 P, .slice As ns cs, .slice Ai ni ci, .int .i64 R, .int .i64 X, .int .i64 V, .int .i64 U, .int .i64 D, .slice Az nz cz, .int .i64 Q] 28) := ⟨_, rfl⟩
  have T0 : Hid (Below w.heap.size w W0) := Lib.hid (by rw [hW0]; exact (Below.refl _ _).alloc (Nat.le_refl _) _)
  have E0 := Lib.hid (E.below T0.out)
  have H0 := Lib.hid (h.below T0.out hD)
  have HD : Hid (D0 ≤ W0.heap.size) := Lib.hid (Nat.le_trans hD T0.out.size)
  have Z0 : Hid (Blk W0 w.heap.size 28 #[.int .i64 P, .slice As ns cs, .slice Ai ni ci, .int .i64 R, .int .i64 X, .int .i64 V, .int .i64 U, .int .i64 D, .slice Az nz cz, .int .i64 Q]) := Lib.hid (by rw [hW0]; exact Blk.new _ _ _)
  have HN := Lib.hid hn
  obtain ⟨u, hu⟩ : ∃ u, litAt U D ls li node t = u := ⟨_, rfl⟩
  have HU := Lib.hid hu
  have hb : (!u) = v := by rw [← hu]; exact hv
  clear E h hD hn hu hv
  obtain ⟨c0, c1, c2, c3, c4, c5, c6, c7, c8, c9⟩ := Z0.out.ten
  go_enter Tryd.func54, Tryd.ntmps54
  go_wp2_with fail
  rw [← hW0]
  refine (islit W0 P R X V U D Q ns ni nz ls li lz As cs Ai ci Az cz D0 H0.out HD.out hs hi nA tW E0.out node t HN.out u HU.out).mono ?_
  rintro e w1 ⟨rfl, b1⟩
  have HF := Lib.hid (T0.out.trans (b1.mono T0.out.size))
  clear b1 hW0
  go_wp2
  go_ret
  exact ⟨rfl, HF.out⟩
end Go.Proofs.YtpaedbmdcbmpiaaDoor
