/- Chapter 11's draws DrawContactsOf and DrawPlanOf. -/
import Derived.Test.YtlaigbhiligceaaGreatDoorDrawQuiet
import Derived.Test.YtlaigbhiligceaaGreatDoorDrawAny2
import Derived.Deep.Cut
import Derived.Deep.DeepCutAuto
import Derived.Deep.CutRange
namespace Go.Proofs.YtlaigbhiligceaaGreatDoor
open Go.ChangeShapes Go.WideShapes Go.ChangeAt Go.RowKit
set_option linter.unusedVariables false
/-- what the draw answers -/
def GotContacts (w : World) (e : Ending) (w' : World) : Prop :=
  (∃ (P R X V U D Q : Int) (ns ni nz : Nat) (ls : List Sat4) (li lz : List Tri) (As : Option Addr) (cs : Nat) (Ai : Option Addr) (ci : Nat) (Az : Option Addr) (cz : Nat) (a b f t : Int),
    e = .returned (.tuple #[.agg #[.int .i64 P, .slice As ns cs, .slice Ai ni ci, .int .i64 R, .int .i64 X, .int .i64 V, .int .i64 U, .int .i64 D, .slice Az nz cz, .int .i64 Q], .int .i64 a, .int .i64 b, .int .i64 f, .int .i64 t]) ∧ OwnSky w' w.heap.size As ns cs Ai ni ci Az nz cz ls li lz ∧ (ns ≤ 6 ∧ ni = 2 ∧ nz ≤ 2) ∧ (J64 P ∧ J64 R ∧ J64 X ∧ J64 V ∧ J64 U ∧ J64 D ∧ J64 Q) ∧ (∀ x ∈ ls, Oke x) ∧ (∀ x ∈ li, Ok3 x) ∧ (0 ≤ a ∧ a ≤ 7 ∧ 0 ≤ b ∧ b ≤ 7) ∧ (-2 ≤ f ∧ f ≤ 17 ∧ f ≤ t ∧ t ≤ 56)) ∧ Below w.heap.size w w'
set_option maxRecDepth 100000 in
set_option maxHeartbeats 2000000 in
theorem drawcontacts (w : World) (A : Option Addr) (cap : Nat) (xs : List Value) (hB : Bytes xs) (hn : xs.length ≤ 1048576) (hR : Reads w w.heap.size A xs) :
    Calls Tryz.prog 7 #[.slice A xs.length cap] w (GotContacts w) := by
  have B1 := Lib.hid ((Below.refl w.heap.size w).alloc (Nat.le_refl _) (.cells #[.int .i64 0, .slice none 0 0, .slice none 0 0, .int .i64 0, .int .i64 0, .int .i64 0, .int .i64 0, .int .i64 0, .slice none 0 0, .int .i64 0] 28))
  have R1 : Hid (Blk (w.alloc (.cells #[.int .i64 0, .slice none 0 0, .slice none 0 0, .int .i64 0, .int .i64 0, .int .i64 0, .int .i64 0, .int .i64 0, .slice none 0 0, .int .i64 0] 28)) w.heap.size 28 #[.int .i64 0, .slice none 0 0, .slice none 0 0, .int .i64 0, .int .i64 0, .int .i64 0, .int .i64 0, .int .i64 0, .slice none 0 0, .int .i64 0]) := Lib.hid (Blk.new _ _ _)
  have HR := Lib.hid ((hR.below B1.out (Nat.le_refl _)).more B1.out.size)
  go_enter Tryz.func7, Tryz.ntmps7
  go_wp2_with fail
  refine (drawspeak _ _ _ _ hB hn HR.out).mono ?_
  rintro e w1 ⟨⟨P, R, X, V, U, D, Q, ns, ni, nz, ls, li, lz, As, cs, Ai, ci, Az, cz, a, b, f, t, rfl, ho, hns, hj, hk1, hk2, hab, ht⟩, hb⟩
  have HJ := Lib.hid hj; have HN := Lib.hid hns; have HK := Lib.hid (And.intro (fun x hx => (hk1 x hx).1) (fun x hx => (hk2 x hx).1)); have HAB := Lib.hid hab; have HTT := Lib.hid ht
  have ho1 : OwnSky w1 (w.heap.size + 1) As ns cs Ai ni ci Az nz cz ls li lz := by simpa using ho
  have B2a := B1.out.trans (hb.mono (by simp))
  have s1 : w.heap.size < w1.heap.size := (R1.out.below hb R1.out.lt).lt
  obtain ⟨gs, hgs⟩ : ∃ g, g = w1.heap.size := ⟨_, rfl⟩
  obtain ⟨W2, hW2⟩ : ∃ W, W = w1.alloc (.cells #[.int .i64 P, .slice As ns cs, .slice Ai ni ci, .int .i64 R, .int .i64 X, .int .i64 V, .int .i64 U, .int .i64 D, .slice Az nz cz, .int .i64 Q] 28) := ⟨_, rfl⟩
  have HO : Hid (OwnSky W2 (w.heap.size + 1) As ns cs Ai ni ci Az nz cz ls li lz) := Lib.hid (by rw [hW2]; exact ho1.alloc (.cells #[.int .i64 P, .slice As ns cs, .slice Ai ni ci, .int .i64 R, .int .i64 X, .int .i64 V, .int .i64 U, .int .i64 D, .slice Az nz cz, .int .i64 Q] 28))
  have B2 : Hid (Below w.heap.size w W2) := Lib.hid (by rw [hW2]; exact B2a.alloc B2a.size (.cells #[.int .i64 P, .slice As ns cs, .slice Ai ni ci, .int .i64 R, .int .i64 X, .int .i64 V, .int .i64 U, .int .i64 D, .slice Az nz cz, .int .i64 Q] 28))
  have R2 : Hid (Blk W2 w.heap.size 28 #[.int .i64 0, .slice none 0 0, .slice none 0 0, .int .i64 0, .int .i64 0, .int .i64 0, .int .i64 0, .int .i64 0, .slice none 0 0, .int .i64 0]) := Lib.hid (by rw [hW2]; exact (R1.out.below hb R1.out.lt).alloc (.cells #[.int .i64 P, .slice As ns cs, .slice Ai ni ci, .int .i64 R, .int .i64 X, .int .i64 V, .int .i64 U, .int .i64 D, .slice Az nz cz, .int .i64 Q] 28))
  have S2 : Hid (Blk W2 gs 28 #[.int .i64 P, .slice As ns cs, .slice Ai ni ci, .int .i64 R, .int .i64 X, .int .i64 V, .int .i64 U, .int .i64 D, .slice Az nz cz, .int .i64 Q]) := Lib.hid (by rw [hW2, hgs]; exact Blk.new _ _ _)
  have HRR : Hid (Reads W2 W2.heap.size A xs) := Lib.hid ((hR.below B2.out (Nat.le_refl _)).more B2.out.size)
  have hwg : w.heap.size < gs := by rw [hgs]; exact s1
  clear hj hns hk1 hk2 hab ht ho ho1 hb B2a B1 R1 s1 HR
  go_upto_region 2 with fail
  rw [← hW2, ← hgs]
  clear hW2 hgs
  go_wp2_with fail
  refine (dnew _ _ _ _ hB hn HRR.out).mono ?_
  rintro e w6 ⟨⟨p, hp, rfl, hc⟩, hb⟩
  have hw1 : w.heap.size < w.heap.size + 1 := by omega
  have hgl : w.heap.size < W2.heap.size := R2.out.lt
  have hgs2 : gs < W2.heap.size := S2.out.lt
  have hp2 : ¬ (w.heap.size = p) := by omega
  have hsp : ¬ (gs = p) := by omega
  have hwp : w.heap.size ≤ p := by omega
  have HNP : Hid (NotAt p As ∧ NotAt p Ai ∧ NotAt p Az) := Lib.hid ⟨HO.out.s.notAt hp, HO.out.i.notAt hp, HO.out.z.notAt hp⟩
  have HO6 := Lib.hid (HO.out.on hb); have B6 := Lib.hid (B2.out.trans (hb.mono (by omega))); have R6 := Lib.hid (R2.out.below hb R2.out.lt); have S6 := Lib.hid (S2.out.below hb S2.out.lt); have K6 := Lib.hid hc
  clear hp hc HO B2 R2 S2 hb
  go_wp2_with fail
  refine (donce _ _ _ _ _ _ K6.out (by omega)).mono ?_
  rintro e w7 ⟨⟨bb, rfl⟩, c1, u1⟩
  have HO7 := Lib.hid (HO6.out.turn' u1 HNP.out.1 HNP.out.2.1 HNP.out.2.2); have B7 := Lib.hid (B6.out.trans ((u1.below K6.out.lt).mono hwp)); have R7 := Lib.hid (u1.blk R6.out hp2); have S7 := Lib.hid (u1.blk S6.out hsp); have K7 := Lib.hid c1
  clear c1 u1 HO6 B6 R6 S6 K6
  cases bb
  · clear K7
    obtain ⟨c0, c1, c2, c3, c4, c5, c6, c7, c8, c9⟩ := S7.out.ten
    obtain ⟨r0, r1, r2, r3, r4, r5, r6, r7, r8, r9⟩ := R7.out.ten
    have f0 := R7.out.frozen 0; have f1 := R7.out.frozen 1; have f2 := R7.out.frozen 2; have f3 := R7.out.frozen 3; have f4 := R7.out.frozen 4; have f5 := R7.out.frozen 5; have f6 := R7.out.frozen 6; have f7 := R7.out.frozen 7; have f8 := R7.out.frozen 8; have f9 := R7.out.frozen 9
    have ZF := Lib.hid ((((((((((R7.out.set_ 0 (.int .i64 P)).set_ 1 (.slice As ns cs)).set_ 2 (.slice Ai ni ci)).set_ 3 (.int .i64 R)).set_ 4 (.int .i64 X)).set_ 5 (.int .i64 V)).set_ 6 (.int .i64 U)).set_ 7 (.int .i64 D)).set_ 8 (.slice Az nz cz)).set_ 9 (.int .i64 Q))
    have OF := Lib.hid ((((((((((HO7.out.far (a := ⟨w.heap.size, 0, none⟩) hw1 (.int .i64 P)).far (a := ⟨w.heap.size, 1, none⟩) hw1 (.slice As ns cs)).far (a := ⟨w.heap.size, 2, none⟩) hw1 (.slice Ai ni ci)).far (a := ⟨w.heap.size, 3, none⟩) hw1 (.int .i64 R)).far (a := ⟨w.heap.size, 4, none⟩) hw1 (.int .i64 X)).far (a := ⟨w.heap.size, 5, none⟩) hw1 (.int .i64 V)).far (a := ⟨w.heap.size, 6, none⟩) hw1 (.int .i64 U)).far (a := ⟨w.heap.size, 7, none⟩) hw1 (.int .i64 D)).far (a := ⟨w.heap.size, 8, none⟩) hw1 (.slice Az nz cz)).far (a := ⟨w.heap.size, 9, none⟩) hw1 (.int .i64 Q))
    have BF := Lib.hid ((((((((((B7.out.setCell (p := ⟨w.heap.size, 0, none⟩) (Nat.le_refl _) (.int .i64 P)).setCell (p := ⟨w.heap.size, 1, none⟩) (Nat.le_refl _) (.slice As ns cs)).setCell (p := ⟨w.heap.size, 2, none⟩) (Nat.le_refl _) (.slice Ai ni ci)).setCell (p := ⟨w.heap.size, 3, none⟩) (Nat.le_refl _) (.int .i64 R)).setCell (p := ⟨w.heap.size, 4, none⟩) (Nat.le_refl _) (.int .i64 X)).setCell (p := ⟨w.heap.size, 5, none⟩) (Nat.le_refl _) (.int .i64 V)).setCell (p := ⟨w.heap.size, 6, none⟩) (Nat.le_refl _) (.int .i64 U)).setCell (p := ⟨w.heap.size, 7, none⟩) (Nat.le_refl _) (.int .i64 D)).setCell (p := ⟨w.heap.size, 8, none⟩) (Nat.le_refl _) (.slice Az nz cz)).setCell (p := ⟨w.heap.size, 9, none⟩) (Nat.le_refl _) (.int .i64 Q))
    clear HO7 B7 R7 S7
    go_wp2
    have k0 := ZF.out.cell 0; have k1 := ZF.out.cell 1; have k2 := ZF.out.cell 2; have k3 := ZF.out.cell 3; have k4 := ZF.out.cell 4; have k5 := ZF.out.cell 5; have k6 := ZF.out.cell 6; have k7 := ZF.out.cell 7; have k8 := ZF.out.cell 8; have k9 := ZF.out.cell 9
    simp at k0 k1 k2 k3 k4 k5 k6 k7 k8 k9
    refine bodyPost_ret (v := .tuple #[.agg #[.int .i64 P, .slice As ns cs, .slice Ai ni ci, .int .i64 R, .int .i64 X, .int .i64 V, .int .i64 U, .int .i64 D, .slice Az nz cz, .int .i64 Q], .int .i64 a, .int .i64 b, .int .i64 f, .int .i64 t]) (by simp [results, Tryz.results7, go_sem, k0, k1, k2, k3, k4, k5, k6, k7, k8, k9]) rfl ?_
    exact ⟨⟨_, _, _, _, _, _, _, _, _, _, _, _, _, _, _, _, _, _, _, _, _, _, _, rfl, OF.out.fewer (Nat.le_of_lt hw1), HN.out, HJ.out, HK.out.1, HK.out.2, HAB.out, HTT.out⟩, BF.out⟩
  · have HS7 := S7; have HR7 := R7; have HB7 := B7
    clear S7 R7 B7 HO7 HJ HN HK HNP
    go_wp2_with fail
    refine (danysky _ _ _ _ _ K7.out).mono ?_
    rintro e w8 ⟨⟨P, R, X, V, U, D, Q, ns, ni, nz, ls, li, lz, As, cs, Ai, ci, Az, cz, rfl, ho, hns, hj, hk1, hk2⟩, c1, u1⟩
    have HJ := Lib.hid hj; have HN := Lib.hid hns; have HK := Lib.hid (And.intro hk1 hk2)
    have g7 : gs < w7.heap.size := HS7.out.lt
    have S8 := Lib.hid (u1.blk HS7.out hsp); have R8 := Lib.hid (u1.blk HR7.out hp2); have B8 := Lib.hid (HB7.out.trans ((u1.below K7.out.lt).mono hwp)); have HO8 := Lib.hid ho
    have hgn : w.heap.size ≠ gs := Nat.ne_of_lt hwg
    have hgl2 : w.heap.size ≤ gs := Nat.le_of_lt hwg
    clear hj hns hk1 hk2 ho c1 u1 HS7 HR7 HB7 K7
    obtain ⟨d0, d1, d2, d3, d4, d5, d6, d7, d8, d9⟩ := S8.out.ten
    have e0 := S8.out.frozen 0; have e1 := S8.out.frozen 1; have e2 := S8.out.frozen 2; have e3 := S8.out.frozen 3; have e4 := S8.out.frozen 4; have e5 := S8.out.frozen 5; have e6 := S8.out.frozen 6; have e7 := S8.out.frozen 7; have e8 := S8.out.frozen 8; have e9 := S8.out.frozen 9
    have ZS : Blk _ _ _ _ := ((((((((((S8.out.set_ 0 (.int .i64 P)).set_ 1 (.slice As ns cs)).set_ 2 (.slice Ai ni ci)).set_ 3 (.int .i64 R)).set_ 4 (.int .i64 X)).set_ 5 (.int .i64 V)).set_ 6 (.int .i64 U)).set_ 7 (.int .i64 D)).set_ 8 (.slice Az nz cz)).set_ 9 (.int .i64 Q))
    have OS := ((((((((((HO8.out.far (a := ⟨gs, 0, none⟩) g7 (.int .i64 P)).far (a := ⟨gs, 1, none⟩) g7 (.slice As ns cs)).far (a := ⟨gs, 2, none⟩) g7 (.slice Ai ni ci)).far (a := ⟨gs, 3, none⟩) g7 (.int .i64 R)).far (a := ⟨gs, 4, none⟩) g7 (.int .i64 X)).far (a := ⟨gs, 5, none⟩) g7 (.int .i64 V)).far (a := ⟨gs, 6, none⟩) g7 (.int .i64 U)).far (a := ⟨gs, 7, none⟩) g7 (.int .i64 D)).far (a := ⟨gs, 8, none⟩) g7 (.slice Az nz cz)).far (a := ⟨gs, 9, none⟩) g7 (.int .i64 Q))
    have RS := ((((((((((R8.out.far (p := ⟨gs, 0, none⟩) hgn (.int .i64 P)).far (p := ⟨gs, 1, none⟩) hgn (.slice As ns cs)).far (p := ⟨gs, 2, none⟩) hgn (.slice Ai ni ci)).far (p := ⟨gs, 3, none⟩) hgn (.int .i64 R)).far (p := ⟨gs, 4, none⟩) hgn (.int .i64 X)).far (p := ⟨gs, 5, none⟩) hgn (.int .i64 V)).far (p := ⟨gs, 6, none⟩) hgn (.int .i64 U)).far (p := ⟨gs, 7, none⟩) hgn (.int .i64 D)).far (p := ⟨gs, 8, none⟩) hgn (.slice Az nz cz)).far (p := ⟨gs, 9, none⟩) hgn (.int .i64 Q))
    have BS := ((((((((((B8.out.setCell (p := ⟨gs, 0, none⟩) hgl2 (.int .i64 P)).setCell (p := ⟨gs, 1, none⟩) hgl2 (.slice As ns cs)).setCell (p := ⟨gs, 2, none⟩) hgl2 (.slice Ai ni ci)).setCell (p := ⟨gs, 3, none⟩) hgl2 (.int .i64 R)).setCell (p := ⟨gs, 4, none⟩) hgl2 (.int .i64 X)).setCell (p := ⟨gs, 5, none⟩) hgl2 (.int .i64 V)).setCell (p := ⟨gs, 6, none⟩) hgl2 (.int .i64 U)).setCell (p := ⟨gs, 7, none⟩) hgl2 (.int .i64 D)).setCell (p := ⟨gs, 8, none⟩) hgl2 (.slice Az nz cz)).setCell (p := ⟨gs, 9, none⟩) hgl2 (.int .i64 Q))
    go_upto_region 5 with fail
    obtain ⟨W9, hW9⟩ : ∃ W, W = ((((((((((w8.setCell ⟨gs, 0, none⟩ (.int .i64 P)).setCell ⟨gs, 1, none⟩ (.slice As ns cs)).setCell ⟨gs, 2, none⟩ (.slice Ai ni ci)).setCell ⟨gs, 3, none⟩ (.int .i64 R)).setCell ⟨gs, 4, none⟩ (.int .i64 X)).setCell ⟨gs, 5, none⟩ (.int .i64 V)).setCell ⟨gs, 6, none⟩ (.int .i64 U)).setCell ⟨gs, 7, none⟩ (.int .i64 D)).setCell ⟨gs, 8, none⟩ (.slice Az nz cz)).setCell ⟨gs, 9, none⟩ (.int .i64 Q)) := ⟨_, rfl⟩
    rw [← hW9] at ZS OS RS BS
    rw [← hW9]
    clear hW9 d0 d1 d2 d3 d4 d5 d6 d7 d8 d9 e0 e1 e2 e3 e4 e5 e6 e7 e8 e9 S8 R8 B8 HO8
    have S7 : Hid (Blk W9 gs 28 #[.int .i64 P, .slice As ns cs, .slice Ai ni ci, .int .i64 R, .int .i64 X, .int .i64 V, .int .i64 U, .int .i64 D, .slice Az nz cz, .int .i64 Q]) := Lib.hid (by simpa using ZS)
    have R7 := Lib.hid RS; have B7 := Lib.hid BS
    have HO7 : Hid (OwnSky W9 (w.heap.size + 1) As ns cs Ai ni ci Az nz cz ls li lz) := Lib.hid (OS.fewer (by omega))
    clear ZS OS RS BS
    obtain ⟨c0, c1, c2, c3, c4, c5, c6, c7, c8, c9⟩ := S7.out.ten
    obtain ⟨r0, r1, r2, r3, r4, r5, r6, r7, r8, r9⟩ := R7.out.ten
    have f0 := R7.out.frozen 0; have f1 := R7.out.frozen 1; have f2 := R7.out.frozen 2; have f3 := R7.out.frozen 3; have f4 := R7.out.frozen 4; have f5 := R7.out.frozen 5; have f6 := R7.out.frozen 6; have f7 := R7.out.frozen 7; have f8 := R7.out.frozen 8; have f9 := R7.out.frozen 9
    have ZF := Lib.hid ((((((((((R7.out.set_ 0 (.int .i64 P)).set_ 1 (.slice As ns cs)).set_ 2 (.slice Ai ni ci)).set_ 3 (.int .i64 R)).set_ 4 (.int .i64 X)).set_ 5 (.int .i64 V)).set_ 6 (.int .i64 U)).set_ 7 (.int .i64 D)).set_ 8 (.slice Az nz cz)).set_ 9 (.int .i64 Q))
    have OF := Lib.hid ((((((((((HO7.out.far (a := ⟨w.heap.size, 0, none⟩) hw1 (.int .i64 P)).far (a := ⟨w.heap.size, 1, none⟩) hw1 (.slice As ns cs)).far (a := ⟨w.heap.size, 2, none⟩) hw1 (.slice Ai ni ci)).far (a := ⟨w.heap.size, 3, none⟩) hw1 (.int .i64 R)).far (a := ⟨w.heap.size, 4, none⟩) hw1 (.int .i64 X)).far (a := ⟨w.heap.size, 5, none⟩) hw1 (.int .i64 V)).far (a := ⟨w.heap.size, 6, none⟩) hw1 (.int .i64 U)).far (a := ⟨w.heap.size, 7, none⟩) hw1 (.int .i64 D)).far (a := ⟨w.heap.size, 8, none⟩) hw1 (.slice Az nz cz)).far (a := ⟨w.heap.size, 9, none⟩) hw1 (.int .i64 Q))
    have BF := Lib.hid ((((((((((B7.out.setCell (p := ⟨w.heap.size, 0, none⟩) (Nat.le_refl _) (.int .i64 P)).setCell (p := ⟨w.heap.size, 1, none⟩) (Nat.le_refl _) (.slice As ns cs)).setCell (p := ⟨w.heap.size, 2, none⟩) (Nat.le_refl _) (.slice Ai ni ci)).setCell (p := ⟨w.heap.size, 3, none⟩) (Nat.le_refl _) (.int .i64 R)).setCell (p := ⟨w.heap.size, 4, none⟩) (Nat.le_refl _) (.int .i64 X)).setCell (p := ⟨w.heap.size, 5, none⟩) (Nat.le_refl _) (.int .i64 V)).setCell (p := ⟨w.heap.size, 6, none⟩) (Nat.le_refl _) (.int .i64 U)).setCell (p := ⟨w.heap.size, 7, none⟩) (Nat.le_refl _) (.int .i64 D)).setCell (p := ⟨w.heap.size, 8, none⟩) (Nat.le_refl _) (.slice Az nz cz)).setCell (p := ⟨w.heap.size, 9, none⟩) (Nat.le_refl _) (.int .i64 Q))
    clear HO7 B7 R7 S7
    go_wp2
    have k0 := ZF.out.cell 0; have k1 := ZF.out.cell 1; have k2 := ZF.out.cell 2; have k3 := ZF.out.cell 3; have k4 := ZF.out.cell 4; have k5 := ZF.out.cell 5; have k6 := ZF.out.cell 6; have k7 := ZF.out.cell 7; have k8 := ZF.out.cell 8; have k9 := ZF.out.cell 9
    simp at k0 k1 k2 k3 k4 k5 k6 k7 k8 k9
    refine bodyPost_ret (v := .tuple #[.agg #[.int .i64 P, .slice As ns cs, .slice Ai ni ci, .int .i64 R, .int .i64 X, .int .i64 V, .int .i64 U, .int .i64 D, .slice Az nz cz, .int .i64 Q], .int .i64 a, .int .i64 b, .int .i64 f, .int .i64 t]) (by simp [results, Tryz.results7, go_sem, k0, k1, k2, k3, k4, k5, k6, k7, k8, k9]) rfl ?_
    exact ⟨⟨_, _, _, _, _, _, _, _, _, _, _, _, _, _, _, _, _, _, _, _, _, _, _, rfl, OF.out.fewer (Nat.le_of_lt hw1), HN.out, HJ.out, HK.out.1, HK.out.2, HAB.out, HTT.out⟩, BF.out⟩
/-- what the draw answers -/
def GotPlan (w : World) (e : Ending) (w' : World) : Prop :=
  (∃ (P R X V U D Q : Int) (ns ni nz : Nat) (ls : List Sat4) (li lz : List Tri) (As : Option Addr) (cs : Nat) (Ai : Option Addr) (ci : Nat) (Az : Option Addr) (cz : Nat) (f t : Int),
    e = .returned (.tuple #[.agg #[.int .i64 P, .slice As ns cs, .slice Ai ni ci, .int .i64 R, .int .i64 X, .int .i64 V, .int .i64 U, .int .i64 D, .slice Az nz cz, .int .i64 Q], .int .i64 f, .int .i64 t]) ∧ OwnSky w' w.heap.size As ns cs Ai ni ci Az nz cz ls li lz ∧ (ns ≤ 6 ∧ ni = 2 ∧ nz ≤ 2) ∧ (J64 P ∧ J64 R ∧ J64 X ∧ J64 V ∧ J64 U ∧ J64 D ∧ J64 Q) ∧ (∀ x ∈ ls, Oke x) ∧ (∀ x ∈ li, Ok3 x) ∧ (-2 ≤ f ∧ f ≤ 17 ∧ f ≤ t ∧ t ≤ 46)) ∧ Below w.heap.size w w'
set_option maxRecDepth 100000 in
set_option maxHeartbeats 2000000 in
theorem drawplan (w : World) (A : Option Addr) (cap : Nat) (xs : List Value) (hB : Bytes xs) (hn : xs.length ≤ 1048576) (hR : Reads w w.heap.size A xs) :
    Calls Tryz.prog 13 #[.slice A xs.length cap] w (GotPlan w) := by
  have B1 := Lib.hid ((Below.refl w.heap.size w).alloc (Nat.le_refl _) (.cells #[.int .i64 0, .slice none 0 0, .slice none 0 0, .int .i64 0, .int .i64 0, .int .i64 0, .int .i64 0, .int .i64 0, .slice none 0 0, .int .i64 0] 28))
  have R1 : Hid (Blk (w.alloc (.cells #[.int .i64 0, .slice none 0 0, .slice none 0 0, .int .i64 0, .int .i64 0, .int .i64 0, .int .i64 0, .int .i64 0, .slice none 0 0, .int .i64 0] 28)) w.heap.size 28 #[.int .i64 0, .slice none 0 0, .slice none 0 0, .int .i64 0, .int .i64 0, .int .i64 0, .int .i64 0, .int .i64 0, .slice none 0 0, .int .i64 0]) := Lib.hid (Blk.new _ _ _)
  have HR := Lib.hid ((hR.below B1.out (Nat.le_refl _)).more B1.out.size)
  go_enter Tryz.func13, Tryz.ntmps13
  go_wp2_with fail
  refine (dnew _ _ _ _ hB hn HR.out).mono ?_
  rintro e w1 ⟨⟨p, hp, rfl, hc⟩, hb⟩
  have hp1 : w.heap.size < p := by simp at hp; omega
  have hp2 : ¬ (w.heap.size = p) := by omega
  have B2 := Lib.hid (B1.out.trans (hb.mono (by simp)))
  have R2 := Lib.hid (R1.out.below hb R1.out.lt)
  have K2 := Lib.hid hc
  clear hb hc B1 R1 hp
  go_wp2_with fail
  refine (dten _ _ _ _ _ K2.out).mono ?_
  rintro e w2 ⟨⟨P, R, X, V, U, D, Q, ns, ni, nz, ls, li, lz, As, cs, Ai, ci, Az, cz, rfl, ho, hns, hap, hj, hk1, hk2⟩, c1, u1⟩
  have HJ := Lib.hid hj; have HN := Lib.hid hns; have HK := Lib.hid (And.intro (fun x hx => (hk1 x hx).1) (fun x hx => (hk2 x hx).1))
  have hw1 : w.heap.size < w1.heap.size := R2.out.lt
  have hsp : ¬ (w2.heap.size = p) := by have := c1.lt; omega
  have HO := Lib.hid (ho.alloc (.cells #[.int .i64 P, .slice As ns cs, .slice Ai ni ci, .int .i64 R, .int .i64 X, .int .i64 V, .int .i64 U, .int .i64 D, .slice Az nz cz, .int .i64 Q] 28))
  have B3 := Lib.hid ((B2.out.trans ((u1.below K2.out.lt).mono (by omega))).alloc (by have := (u1.blk R2.out hp2).lt; omega) (.cells #[.int .i64 P, .slice As ns cs, .slice Ai ni ci, .int .i64 R, .int .i64 X, .int .i64 V, .int .i64 U, .int .i64 D, .slice Az nz cz, .int .i64 Q] 28))
  have R3 := Lib.hid ((u1.blk R2.out hp2).alloc (.cells #[.int .i64 P, .slice As ns cs, .slice Ai ni ci, .int .i64 R, .int .i64 X, .int .i64 V, .int .i64 U, .int .i64 D, .slice Az nz cz, .int .i64 Q] 28))
  have S3 : Hid (Blk (w2.alloc (.cells #[.int .i64 P, .slice As ns cs, .slice Ai ni ci, .int .i64 R, .int .i64 X, .int .i64 V, .int .i64 U, .int .i64 D, .slice Az nz cz, .int .i64 Q] 28)) w2.heap.size 28 #[.int .i64 P, .slice As ns cs, .slice Ai ni ci, .int .i64 R, .int .i64 X, .int .i64 V, .int .i64 U, .int .i64 D, .slice Az nz cz, .int .i64 Q]) := Lib.hid (Blk.new _ _ _)
  have K3 := Lib.hid (c1.alloc (.cells #[.int .i64 P, .slice As ns cs, .slice Ai ni ci, .int .i64 R, .int .i64 X, .int .i64 V, .int .i64 U, .int .i64 D, .slice Az nz cz, .int .i64 Q] 28))
  have hpw : p < w1.heap.size := K2.out.lt
  have hs2 : w.heap.size < w2.heap.size := (u1.blk R2.out hp2).lt
  clear hj hns hap hk1 hk2 ho c1 u1 B2 R2 K2
  go_wp2_with fail
  refine (dbelow _ _ _ _ _ _ K3.out (by omega)).mono ?_
  rintro e w6 ⟨⟨f, hf, rfl⟩, c1, u1⟩
  have hf1 := hf.1 (by omega)
  have HO7 := Lib.hid (HO.out.turn u1 hpw); have B7 := Lib.hid (B3.out.trans ((u1.below K3.out.lt).mono (by omega))); have R7 := Lib.hid (u1.blk R3.out hp2); have S7 := Lib.hid (u1.blk S3.out hsp); have K7 := Lib.hid c1
  clear hf c1 u1 HO B3 R3 S3 K3
  have hw : IntKind.i64.wrap ((f : Int) - 2) = (f : Int) - 2 := wrap_in _ (by omega) (by omega)
  obtain ⟨c0, c1, c2, c3, c4, c5, c6, c7, c8, c9⟩ := S7.out.ten
  have K5 : Hid (Cur w6.drew p A cap xs) := Lib.hid K7.out
  go_wp2_with fail
  go_region_law (first
    | (go_simp; go_at_call 38; refine (dbelow _ _ _ _ _ _ K5.out (by omega)).mono ?_; rintro e w5 ⟨⟨z, hz, rfl⟩, c5, u5'⟩; have hz1 := hz.1 (by omega); have u5 : Turn p w6 w5 := ((Turn.refl p w6).drew).trans u5'; have HO5 := Lib.hid (HO7.out.turn u5 hpw); have B5 := Lib.hid (B7.out.trans ((u5.below K7.out.lt).mono (by omega))); have R5 := Lib.hid (u5.blk R7.out hp2); have S5 := Lib.hid (u5.blk S7.out hsp); obtain ⟨d0, d1, d2, d3, d4, d5, d6, d7, d8, d9⟩ := S5.out.ten; obtain ⟨r0, r1, r2, r3, r4, r5, r6, r7, r8, r9⟩ := R5.out.ten; have f0 := R5.out.frozen 0; have f1 := R5.out.frozen 1; have f2 := R5.out.frozen 2; have f3 := R5.out.frozen 3; have f4 := R5.out.frozen 4; have f5 := R5.out.frozen 5; have f6 := R5.out.frozen 6; have f7 := R5.out.frozen 7; have f8 := R5.out.frozen 8; have f9 := R5.out.frozen 9; have hwz : IntKind.i64.wrap ((f : Int) - 2 + (z : Int)) = (f : Int) - 2 + (z : Int) := wrap_in _ (by omega) (by omega); clear hz c5 u5' u5))
  all_goals
    have ZF := Lib.hid ((((((((((R5.out.set_ 0 (.int .i64 P)).set_ 1 (.slice As ns cs)).set_ 2 (.slice Ai ni ci)).set_ 3 (.int .i64 R)).set_ 4 (.int .i64 X)).set_ 5 (.int .i64 V)).set_ 6 (.int .i64 U)).set_ 7 (.int .i64 D)).set_ 8 (.slice Az nz cz)).set_ 9 (.int .i64 Q))
    have OF := Lib.hid ((((((((((HO5.out.far (a := ⟨w.heap.size, 0, none⟩) hw1 (.int .i64 P)).far (a := ⟨w.heap.size, 1, none⟩) hw1 (.slice As ns cs)).far (a := ⟨w.heap.size, 2, none⟩) hw1 (.slice Ai ni ci)).far (a := ⟨w.heap.size, 3, none⟩) hw1 (.int .i64 R)).far (a := ⟨w.heap.size, 4, none⟩) hw1 (.int .i64 X)).far (a := ⟨w.heap.size, 5, none⟩) hw1 (.int .i64 V)).far (a := ⟨w.heap.size, 6, none⟩) hw1 (.int .i64 U)).far (a := ⟨w.heap.size, 7, none⟩) hw1 (.int .i64 D)).far (a := ⟨w.heap.size, 8, none⟩) hw1 (.slice Az nz cz)).far (a := ⟨w.heap.size, 9, none⟩) hw1 (.int .i64 Q))
    have BF := Lib.hid ((((((((((B5.out.setCell (p := ⟨w.heap.size, 0, none⟩) (Nat.le_refl _) (.int .i64 P)).setCell (p := ⟨w.heap.size, 1, none⟩) (Nat.le_refl _) (.slice As ns cs)).setCell (p := ⟨w.heap.size, 2, none⟩) (Nat.le_refl _) (.slice Ai ni ci)).setCell (p := ⟨w.heap.size, 3, none⟩) (Nat.le_refl _) (.int .i64 R)).setCell (p := ⟨w.heap.size, 4, none⟩) (Nat.le_refl _) (.int .i64 X)).setCell (p := ⟨w.heap.size, 5, none⟩) (Nat.le_refl _) (.int .i64 V)).setCell (p := ⟨w.heap.size, 6, none⟩) (Nat.le_refl _) (.int .i64 U)).setCell (p := ⟨w.heap.size, 7, none⟩) (Nat.le_refl _) (.int .i64 D)).setCell (p := ⟨w.heap.size, 8, none⟩) (Nat.le_refl _) (.slice Az nz cz)).setCell (p := ⟨w.heap.size, 9, none⟩) (Nat.le_refl _) (.int .i64 Q))
    clear HO5 B5 R5 S5 HO7 B7 R7 S7 K7 K5
    go_wp2
    have k0 := ZF.out.cell 0; have k1 := ZF.out.cell 1; have k2 := ZF.out.cell 2; have k3 := ZF.out.cell 3; have k4 := ZF.out.cell 4; have k5 := ZF.out.cell 5; have k6 := ZF.out.cell 6; have k7 := ZF.out.cell 7; have k8 := ZF.out.cell 8; have k9 := ZF.out.cell 9
    simp at k0 k1 k2 k3 k4 k5 k6 k7 k8 k9
    refine bodyPost_ret (v := .tuple #[.agg #[.int .i64 P, .slice As ns cs, .slice Ai ni ci, .int .i64 R, .int .i64 X, .int .i64 V, .int .i64 U, .int .i64 D, .slice Az nz cz, .int .i64 Q], .int .i64 ((f : Int) - 2), .int .i64 ((f : Int) - 2 + (z : Int))]) (by simp [results, Tryz.results13, go_sem, k0, k1, k2, k3, k4, k5, k6, k7, k8, k9]) rfl ?_
    exact ⟨⟨_, _, _, _, _, _, _, _, _, _, _, _, _, _, _, _, _, _, _, _, _, rfl, OF.out.fewer (Nat.le_of_lt hw1), HN.out, HJ.out, HK.out.1, HK.out.2, by omega⟩, BF.out⟩
end Go.Proofs.YtlaigbhiligceaaGreatDoor
