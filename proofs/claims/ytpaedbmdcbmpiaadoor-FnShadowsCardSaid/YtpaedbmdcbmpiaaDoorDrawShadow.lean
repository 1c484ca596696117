/- The contracts of chapter 9's draws DrawShadowAt and DrawLitSpans, and of DrawNodeAt. -/
import Derived.Test.YtpaedbmdcbmpiaaDoorDrawAny2
import Derived.Test.YtpaedbmdcbmpiaaDoorDrawSpans
import Derived.Test.YtpaedbmdcbmpiaaDoorDrawSight
import Derived.Deep.DeepCutAuto
import Derived.Deep.CutRange
namespace Go.Proofs.YtpaedbmdcbmpiaaDoor
open Go.ChangeShapes Go.WideShapes Go.ChangeAt Go.RowKit
set_option linter.unusedVariables false
/-- what DrawNodeAt answers -/
def GotNode (w : World) (e : Ending) (w' : World) : Prop :=
  (∃ (P R X V U D Q : Int) (ns ni nz : Nat) (ls : List Sat4) (li lz : List Tri) (As : Option Addr) (cs : Nat) (Ai : Option Addr) (ci : Nat) (Az : Option Addr) (cz : Nat) (a t : Int),
    e = .returned (.tuple #[.agg #[.int .i64 P, .slice As ns cs, .slice Ai ni ci, .int .i64 R, .int .i64 X, .int .i64 V, .int .i64 U, .int .i64 D, .slice Az nz cz, .int .i64 Q], .int .i64 a, .int .i64 t]) ∧ OwnSky w' w.heap.size As ns cs Ai ni ci Az nz cz ls li lz ∧ (ns ≤ 6 ∧ ni = 2 ∧ nz ≤ 2) ∧ (J64 P ∧ J64 R ∧ J64 X ∧ J64 V ∧ J64 U ∧ J64 D ∧ J64 Q) ∧ (∀ x ∈ ls, Oke x) ∧ (∀ x ∈ li, Ok3 x) ∧ (-1 ≤ a ∧ a ≤ 9) ∧ J64 t) ∧ Below w.heap.size w w'
set_option maxRecDepth 100000 in
set_option maxHeartbeats 2000000 in
theorem drawnode (w : World) (A : Option Addr) (cap : Nat) (xs : List Value) (hB : Bytes xs) (hn : xs.length ≤ 1048576) (hR : Reads w w.heap.size A xs) :
    Calls Tryd.prog 29 #[.slice A xs.length cap] w (GotNode w) := by
  have B1 := Lib.hid ((Below.refl w.heap.size w).alloc (Nat.le_refl _) (.cells #[.int .i64 0, .slice none 0 0, .slice none 0 0, .int .i64 0, .int .i64 0, .int .i64 0, .int .i64 0, .int .i64 0, .slice none 0 0, .int .i64 0] 28))
  have R1 : Hid (Blk (w.alloc (.cells #[.int .i64 0, .slice none 0 0, .slice none 0 0, .int .i64 0, .int .i64 0, .int .i64 0, .int .i64 0, .int .i64 0, .slice none 0 0, .int .i64 0] 28)) w.heap.size 28 #[.int .i64 0, .slice none 0 0, .slice none 0 0, .int .i64 0, .int .i64 0, .int .i64 0, .int .i64 0, .int .i64 0, .slice none 0 0, .int .i64 0]) := Lib.hid (Blk.new _ _ _)
  have HR := Lib.hid ((hR.below B1.out (Nat.le_refl _)).more B1.out.size)
  go_enter Tryd.func29, Tryd.ntmps29
  go_wp2_with fail
  refine (dnew _ _ _ _ hB hn HR.out).mono ?_
  rintro e w1 ⟨⟨p, hp, rfl, hc⟩, hb⟩
  have hp1 : w.heap.size < p := by simp at hp; omega
  have hp2 : ¬ (w.heap.size = p) := by omega
  have B2 := Lib.hid (B1.out.trans (hb.mono (by simp)))
  have R2 := Lib.hid (R1.out.below hb R1.out.lt)
  have K2 := Lib.hid hc
  clear hb hc B1 R1 hp
  go_wp2_with fail
  refine (danysky _ _ _ _ _ K2.out).mono ?_
  rintro e w2 ⟨⟨P, R, X, V, U, D, Q, ns, ni, nz, ls, li, lz, As, cs, Ai, ci, Az, cz, rfl, ho, hns, hj, hk1, hk2⟩, c1, u1⟩
  have HJ := Lib.hid hj; have HN := Lib.hid hns; have HK := Lib.hid (And.intro hk1 hk2)
  have hw1 : w.heap.size < w1.heap.size := R2.out.lt
  have hsp : ¬ (w2.heap.size = p) := by have := c1.lt; omega
  have HO := Lib.hid (ho.alloc (.cells #[.int .i64 P, .slice As ns cs, .slice Ai ni ci, .int .i64 R, .int .i64 X, .int .i64 V, .int .i64 U, .int .i64 D, .slice Az nz cz, .int .i64 Q] 28))
  have B3 := Lib.hid ((B2.out.trans ((u1.below K2.out.lt).mono (by omega))).alloc (by have := (u1.blk R2.out hp2).lt; omega) (.cells #[.int .i64 P, .slice As ns cs, .slice Ai ni ci, .int .i64 R, .int .i64 X, .int .i64 V, .int .i64 U, .int .i64 D, .slice Az nz cz, .int .i64 Q] 28))
  have R3 := Lib.hid ((u1.blk R2.out hp2).alloc (.cells #[.int .i64 P, .slice As ns cs, .slice Ai ni ci, .int .i64 R, .int .i64 X, .int .i64 V, .int .i64 U, .int .i64 D, .slice Az nz cz, .int .i64 Q] 28))
  have S3 : Hid (Blk (w2.alloc (.cells #[.int .i64 P, .slice As ns cs, .slice Ai ni ci, .int .i64 R, .int .i64 X, .int .i64 V, .int .i64 U, .int .i64 D, .slice Az nz cz, .int .i64 Q] 28)) w2.heap.size 28 #[.int .i64 P, .slice As ns cs, .slice Ai ni ci, .int .i64 R, .int .i64 X, .int .i64 V, .int .i64 U, .int .i64 D, .slice Az nz cz, .int .i64 Q]) := Lib.hid (Blk.new _ _ _)
  have K3 := Lib.hid (c1.alloc (.cells #[.int .i64 P, .slice As ns cs, .slice Ai ni ci, .int .i64 R, .int .i64 X, .int .i64 V, .int .i64 U, .int .i64 D, .slice Az nz cz, .int .i64 Q] 28))
  have hpw : p < w1.heap.size := K2.out.lt
  have hs2 : w.heap.size < w2.heap.size := (u1.blk R2.out hp2).lt
  clear hj hns hk1 hk2 ho c1 u1 B2 R2 K2
  go_wp2_with fail
  refine (dbelow _ _ _ _ _ _ K3.out (by omega)).mono ?_
  rintro e w3 ⟨⟨x, hx, rfl⟩, c1, u1⟩
  have hx1 := hx.1 (by omega)
  have HO4 := Lib.hid (HO.out.turn u1 hpw)
  have B4 := Lib.hid (B3.out.trans ((u1.below K3.out.lt).mono (by omega)))
  have R4 := Lib.hid (u1.blk R3.out hp2)
  have S4 := Lib.hid (u1.blk S3.out hsp)
  have K4 := Lib.hid c1
  clear hx c1 u1 HO B3 R3 S3 K3
  have hw : IntKind.i64.wrap ((x : Int) - 1) = (x : Int) - 1 := wrap_in _ (by omega) (by omega)
  obtain ⟨c0, c1, c2, c3, c4, c5, c6, c7, c8, c9⟩ := S4.out.ten
  have K5 : Hid (Cur w3.drew p A cap xs) := Lib.hid K4.out
  go_wp2_with fail
  go_region_law (first
    | (go_simp; go_at_call 63; refine (draw4 _ _ _ _ _ K5.out).mono ?_; rintro e w5 ⟨⟨z, hz, rfl⟩, c5, u5'⟩; have HZ := Lib.hid hz; have u5 : Turn p w3 w5 := ((Turn.refl p w3).drew).trans u5'; have HO5 := Lib.hid (HO4.out.turn u5 hpw); have B5 := Lib.hid (B4.out.trans ((u5.below K4.out.lt).mono (by omega))); have R5 := Lib.hid (u5.blk R4.out hp2); have S5 := Lib.hid (u5.blk S4.out hsp); obtain ⟨d0, d1, d2, d3, d4, d5, d6, d7, d8, d9⟩ := S5.out.ten; obtain ⟨r0, r1, r2, r3, r4, r5, r6, r7, r8, r9⟩ := R5.out.ten; have f0 := R5.out.frozen 0; have f1 := R5.out.frozen 1; have f2 := R5.out.frozen 2; have f3 := R5.out.frozen 3; have f4 := R5.out.frozen 4; have f5 := R5.out.frozen 5; have f6 := R5.out.frozen 6; have f7 := R5.out.frozen 7; have f8 := R5.out.frozen 8; have f9 := R5.out.frozen 9; clear hz c5 u5' u5))
  all_goals
    have ZF := Lib.hid ((((((((((R5.out.set_ 0 (.int .i64 P)).set_ 1 (.slice As ns cs)).set_ 2 (.slice Ai ni ci)).set_ 3 (.int .i64 R)).set_ 4 (.int .i64 X)).set_ 5 (.int .i64 V)).set_ 6 (.int .i64 U)).set_ 7 (.int .i64 D)).set_ 8 (.slice Az nz cz)).set_ 9 (.int .i64 Q))
    have OF := Lib.hid ((((((((((HO5.out.far (a := ⟨w.heap.size, 0, none⟩) hw1 (.int .i64 P)).far (a := ⟨w.heap.size, 1, none⟩) hw1 (.slice As ns cs)).far (a := ⟨w.heap.size, 2, none⟩) hw1 (.slice Ai ni ci)).far (a := ⟨w.heap.size, 3, none⟩) hw1 (.int .i64 R)).far (a := ⟨w.heap.size, 4, none⟩) hw1 (.int .i64 X)).far (a := ⟨w.heap.size, 5, none⟩) hw1 (.int .i64 V)).far (a := ⟨w.heap.size, 6, none⟩) hw1 (.int .i64 U)).far (a := ⟨w.heap.size, 7, none⟩) hw1 (.int .i64 D)).far (a := ⟨w.heap.size, 8, none⟩) hw1 (.slice Az nz cz)).far (a := ⟨w.heap.size, 9, none⟩) hw1 (.int .i64 Q))
    have BF := Lib.hid ((((((((((B5.out.setCell (p := ⟨w.heap.size, 0, none⟩) (Nat.le_refl _) (.int .i64 P)).setCell (p := ⟨w.heap.size, 1, none⟩) (Nat.le_refl _) (.slice As ns cs)).setCell (p := ⟨w.heap.size, 2, none⟩) (Nat.le_refl _) (.slice Ai ni ci)).setCell (p := ⟨w.heap.size, 3, none⟩) (Nat.le_refl _) (.int .i64 R)).setCell (p := ⟨w.heap.size, 4, none⟩) (Nat.le_refl _) (.int .i64 X)).setCell (p := ⟨w.heap.size, 5, none⟩) (Nat.le_refl _) (.int .i64 V)).setCell (p := ⟨w.heap.size, 6, none⟩) (Nat.le_refl _) (.int .i64 U)).setCell (p := ⟨w.heap.size, 7, none⟩) (Nat.le_refl _) (.int .i64 D)).setCell (p := ⟨w.heap.size, 8, none⟩) (Nat.le_refl _) (.slice Az nz cz)).setCell (p := ⟨w.heap.size, 9, none⟩) (Nat.le_refl _) (.int .i64 Q))
    clear HO4 B4 R4 S4 K4 K5 HO5 B5 R5 S5
    go_wp2
    have k0 := ZF.out.cell 0; have k1 := ZF.out.cell 1; have k2 := ZF.out.cell 2; have k3 := ZF.out.cell 3; have k4 := ZF.out.cell 4; have k5 := ZF.out.cell 5; have k6 := ZF.out.cell 6; have k7 := ZF.out.cell 7; have k8 := ZF.out.cell 8; have k9 := ZF.out.cell 9
    simp at k0 k1 k2 k3 k4 k5 k6 k7 k8 k9
    refine bodyPost_ret (v := .tuple #[.agg #[.int .i64 P, .slice As ns cs, .slice Ai ni ci, .int .i64 R, .int .i64 X, .int .i64 V, .int .i64 U, .int .i64 D, .slice Az nz cz, .int .i64 Q], .int .i64 ((x : Int) - 1), .int .i64 z]) (by simp [results, Tryd.results29, go_sem, k0, k1, k2, k3, k4, k5, k6, k7, k8, k9]) rfl ?_
    exact ⟨⟨_, _, _, _, _, _, _, _, _, _, _, _, _, _, _, _, _, _, _, _, _, rfl, OF.out.fewer (Nat.le_of_lt hw1), HN.out, HJ.out, HK.out.1, HK.out.2, by omega, HZ.out⟩, BF.out⟩
set_option maxRecDepth 100000 in
set_option maxHeartbeats 2000000 in
theorem drawshadow (w : World) (A : Option Addr) (cap : Nat) (xs : List Value) (hB : Bytes xs) (hn : xs.length ≤ 1048576) (hR : Reads w w.heap.size A xs) :
    Calls Tryd.prog 11 #[.slice A xs.length cap] w (GotNode w) := by
  have B1 := Lib.hid ((Below.refl w.heap.size w).alloc (Nat.le_refl _) (.cells #[.int .i64 0, .slice none 0 0, .slice none 0 0, .int .i64 0, .int .i64 0, .int .i64 0, .int .i64 0, .int .i64 0, .slice none 0 0, .int .i64 0] 28))
  have R1 : Hid (Blk (w.alloc (.cells #[.int .i64 0, .slice none 0 0, .slice none 0 0, .int .i64 0, .int .i64 0, .int .i64 0, .int .i64 0, .int .i64 0, .slice none 0 0, .int .i64 0] 28)) w.heap.size 28 #[.int .i64 0, .slice none 0 0, .slice none 0 0, .int .i64 0, .int .i64 0, .int .i64 0, .int .i64 0, .int .i64 0, .slice none 0 0, .int .i64 0]) := Lib.hid (Blk.new _ _ _)
  have HR := Lib.hid ((hR.below B1.out (Nat.le_refl _)).more B1.out.size)
  go_enter Tryd.func11, Tryd.ntmps11
  go_wp2_with fail
  refine (drawnode _ _ _ _ hB hn HR.out).mono ?_
  rintro e w1 ⟨⟨P, R, X, V, U, D, Q, ns, ni, nz, ls, li, lz, As, cs, Ai, ci, Az, cz, a, t, rfl, ho, hns, hj, hk1, hk2, hab, ht⟩, hb⟩
  have HJ := Lib.hid hj; have HN := Lib.hid hns; have HK := Lib.hid (And.intro hk1 hk2); have HAB := Lib.hid hab; have HTT := Lib.hid ht
  have hw1 : w.heap.size < w.heap.size + 1 := by omega
  have ho1 : OwnSky w1 (w.heap.size + 1) As ns cs Ai ni ci Az nz cz ls li lz := by simpa using ho
  have B2a := B1.out.trans (hb.mono (by simp))
  have s1 : w.heap.size < w1.heap.size := (R1.out.below hb R1.out.lt).lt
  have HO := Lib.hid ho1
  have B2 := Lib.hid B2a
  have R2 := Lib.hid (R1.out.below hb R1.out.lt)
  clear hj hns hk1 hk2 hab ht ho ho1 hb B2a B1 R1
  have f0 := R2.out.frozen 0; have f1 := R2.out.frozen 1; have f2 := R2.out.frozen 2; have f3 := R2.out.frozen 3; have f4 := R2.out.frozen 4; have f5 := R2.out.frozen 5; have f6 := R2.out.frozen 6; have f7 := R2.out.frozen 7; have f8 := R2.out.frozen 8; have f9 := R2.out.frozen 9
  obtain ⟨r0, r1, r2, r3, r4, r5, r6, r7, r8, r9⟩ := R2.out.ten
  have ZF := Lib.hid ((((((((((R2.out.set_ 0 (.int .i64 P)).set_ 1 (.slice As ns cs)).set_ 2 (.slice Ai ni ci)).set_ 3 (.int .i64 R)).set_ 4 (.int .i64 X)).set_ 5 (.int .i64 V)).set_ 6 (.int .i64 U)).set_ 7 (.int .i64 D)).set_ 8 (.slice Az nz cz)).set_ 9 (.int .i64 Q))
  have OF := Lib.hid ((((((((((HO.out.far (a := ⟨w.heap.size, 0, none⟩) hw1 (.int .i64 P)).far (a := ⟨w.heap.size, 1, none⟩) hw1 (.slice As ns cs)).far (a := ⟨w.heap.size, 2, none⟩) hw1 (.slice Ai ni ci)).far (a := ⟨w.heap.size, 3, none⟩) hw1 (.int .i64 R)).far (a := ⟨w.heap.size, 4, none⟩) hw1 (.int .i64 X)).far (a := ⟨w.heap.size, 5, none⟩) hw1 (.int .i64 V)).far (a := ⟨w.heap.size, 6, none⟩) hw1 (.int .i64 U)).far (a := ⟨w.heap.size, 7, none⟩) hw1 (.int .i64 D)).far (a := ⟨w.heap.size, 8, none⟩) hw1 (.slice Az nz cz)).far (a := ⟨w.heap.size, 9, none⟩) hw1 (.int .i64 Q))
  have BF := Lib.hid ((((((((((B2.out.setCell (p := ⟨w.heap.size, 0, none⟩) (Nat.le_refl _) (.int .i64 P)).setCell (p := ⟨w.heap.size, 1, none⟩) (Nat.le_refl _) (.slice As ns cs)).setCell (p := ⟨w.heap.size, 2, none⟩) (Nat.le_refl _) (.slice Ai ni ci)).setCell (p := ⟨w.heap.size, 3, none⟩) (Nat.le_refl _) (.int .i64 R)).setCell (p := ⟨w.heap.size, 4, none⟩) (Nat.le_refl _) (.int .i64 X)).setCell (p := ⟨w.heap.size, 5, none⟩) (Nat.le_refl _) (.int .i64 V)).setCell (p := ⟨w.heap.size, 6, none⟩) (Nat.le_refl _) (.int .i64 U)).setCell (p := ⟨w.heap.size, 7, none⟩) (Nat.le_refl _) (.int .i64 D)).setCell (p := ⟨w.heap.size, 8, none⟩) (Nat.le_refl _) (.slice Az nz cz)).setCell (p := ⟨w.heap.size, 9, none⟩) (Nat.le_refl _) (.int .i64 Q))
  clear HO B2 R2
  go_wp2
  have k0 := ZF.out.cell 0; have k1 := ZF.out.cell 1; have k2 := ZF.out.cell 2; have k3 := ZF.out.cell 3; have k4 := ZF.out.cell 4; have k5 := ZF.out.cell 5; have k6 := ZF.out.cell 6; have k7 := ZF.out.cell 7; have k8 := ZF.out.cell 8; have k9 := ZF.out.cell 9
  simp at k0 k1 k2 k3 k4 k5 k6 k7 k8 k9
  refine bodyPost_ret (v := .tuple #[.agg #[.int .i64 P, .slice As ns cs, .slice Ai ni ci, .int .i64 R, .int .i64 X, .int .i64 V, .int .i64 U, .int .i64 D, .slice Az nz cz, .int .i64 Q], .int .i64 a, .int .i64 t]) (by simp [results, Tryd.results11, go_sem, k0, k1, k2, k3, k4, k5, k6, k7, k8, k9]) rfl ?_
  exact ⟨⟨_, _, _, _, _, _, _, _, _, _, _, _, _, _, _, _, _, _, _, _, _, rfl, OF.out.fewer (by omega), HN.out, HJ.out, HK.out.1, HK.out.2, HAB.out, HTT.out⟩, BF.out⟩
/-- what DrawLitSpans answers -/
def GotLits (w : World) (e : Ending) (w' : World) : Prop :=
  (∃ (P R X V U D Q : Int) (ns ni nz : Nat) (ls : List Sat4) (li lz : List Tri) (As : Option Addr) (cs : Nat) (Ai : Option Addr) (ci : Nat) (Az : Option Addr) (cz : Nat) (a f t : Int),
    e = .returned (.tuple #[.agg #[.int .i64 P, .slice As ns cs, .slice Ai ni ci, .int .i64 R, .int .i64 X, .int .i64 V, .int .i64 U, .int .i64 D, .slice Az nz cz, .int .i64 Q], .int .i64 a, .int .i64 f, .int .i64 t]) ∧ OwnSky w' w.heap.size As ns cs Ai ni ci Az nz cz ls li lz ∧ (ns ≤ 6 ∧ ni = 2 ∧ nz ≤ 1) ∧ J64 P ∧ (∀ x ∈ ls, Oke x) ∧ (∀ x ∈ li, Ok3 x) ∧ (0 ≤ a ∧ a ≤ 7) ∧ (-2 ≤ f ∧ f ≤ 17 ∧ f ≤ t ∧ t ≤ 56)) ∧ Below w.heap.size w w'
set_option maxRecDepth 100000 in
set_option maxHeartbeats 2000000 in
theorem drawlits (w : World) (A : Option Addr) (cap : Nat) (xs : List Value) (hB : Bytes xs) (hn : xs.length ≤ 1048576) (hR : Reads w w.heap.size A xs) :
    Calls Tryd.prog 6 #[.slice A xs.length cap] w (GotLits w) := by
  have B1 := Lib.hid ((Below.refl w.heap.size w).alloc (Nat.le_refl _) (.cells #[.int .i64 0, .slice none 0 0, .slice none 0 0, .int .i64 0, .int .i64 0, .int .i64 0, .int .i64 0, .int .i64 0, .slice none 0 0, .int .i64 0] 28))
  have R1 : Hid (Blk (w.alloc (.cells #[.int .i64 0, .slice none 0 0, .slice none 0 0, .int .i64 0, .int .i64 0, .int .i64 0, .int .i64 0, .int .i64 0, .slice none 0 0, .int .i64 0] 28)) w.heap.size 28 #[.int .i64 0, .slice none 0 0, .slice none 0 0, .int .i64 0, .int .i64 0, .int .i64 0, .int .i64 0, .int .i64 0, .slice none 0 0, .int .i64 0]) := Lib.hid (Blk.new _ _ _)
  have HR := Lib.hid ((hR.below B1.out (Nat.le_refl _)).more B1.out.size)
  go_enter Tryd.func6, Tryd.ntmps6
  go_wp2_with fail
  refine (drawwin _ _ _ _ hB hn HR.out).mono ?_
  rintro e w1 ⟨⟨P, R, X, V, U, D, Q, ns, ni, nz, ls, li, lz, As, cs, Ai, ci, Az, cz, a, b, f, t, rfl, ho, hns, hj, hk1, hk2, hab, ht⟩, hb⟩
  have HJ := Lib.hid hj; have HN := Lib.hid hns; have HK := Lib.hid (And.intro hk1 hk2); have HAB := Lib.hid hab; have HTT := Lib.hid ht
  have hw1 : w.heap.size < w.heap.size + 1 := by omega
  have ho1 : OwnSky w1 (w.heap.size + 1) As ns cs Ai ni ci Az nz cz ls li lz := by simpa using ho
  have B2a := B1.out.trans (hb.mono (by simp))
  have s1 : w.heap.size < w1.heap.size := (R1.out.below hb R1.out.lt).lt
  obtain ⟨gs, hgs⟩ : ∃ g, g = w1.heap.size := ⟨_, rfl⟩
  obtain ⟨W2, hW2⟩ : ∃ W, W = w1.alloc (.cells #[.int .i64 P, .slice As ns cs, .slice Ai ni ci, .int .i64 R, .int .i64 X, .int .i64 V, .int .i64 U, .int .i64 D, .slice Az nz cz, .int .i64 Q] 28) := ⟨_, rfl⟩
  have HO : Hid (OwnSky W2 (w.heap.size + 1) As ns cs Ai ni ci Az nz cz ls li lz) := Lib.hid (by rw [hW2]; exact ho1.alloc (.cells #[.int .i64 P, .slice As ns cs, .slice Ai ni ci, .int .i64 R, .int .i64 X, .int .i64 V, .int .i64 U, .int .i64 D, .slice Az nz cz, .int .i64 Q] 28))
  have B2 : Hid (Below w.heap.size w W2) := Lib.hid (by rw [hW2]; exact B2a.alloc B2a.size (.cells #[.int .i64 P, .slice As ns cs, .slice Ai ni ci, .int .i64 R, .int .i64 X, .int .i64 V, .int .i64 U, .int .i64 D, .slice Az nz cz, .int .i64 Q] 28))
  have R2 : Hid (Blk W2 w.heap.size 28 #[.int .i64 0, .slice none 0 0, .slice none 0 0, .int .i64 0, .int .i64 0, .int .i64 0, .int .i64 0, .int .i64 0, .slice none 0 0, .int .i64 0]) := Lib.hid (by rw [hW2]; exact (R1.out.below hb R1.out.lt).alloc (.cells #[.int .i64 P, .slice As ns cs, .slice Ai ni ci, .int .i64 R, .int .i64 X, .int .i64 V, .int .i64 U, .int .i64 D, .slice Az nz cz, .int .i64 Q] 28))
  have S2 : Hid (Blk W2 gs 28 #[.int .i64 P, .slice As ns cs, .slice Ai ni ci, .int .i64 R, .int .i64 X, .int .i64 V, .int .i64 U, .int .i64 D, .slice Az nz cz, .int .i64 Q]) := Lib.hid (by rw [hW2, hgs]; exact Blk.new _ _ _)
  clear hj hns hk1 hk2 hab ht ho ho1 hb B2a B1 R1 s1
  go_upto_region 2 with fail
  rw [← hW2, ← hgs]
  clear hW2 hgs
  obtain ⟨c0, c1, c2, c3, c4, c5, c6, c7, c8, c9⟩ := S2.out.ten
  have f0 := R2.out.frozen 0; have f1 := R2.out.frozen 1; have f2 := R2.out.frozen 2; have f3 := R2.out.frozen 3; have f4 := R2.out.frozen 4; have f5 := R2.out.frozen 5; have f6 := R2.out.frozen 6; have f7 := R2.out.frozen 7; have f8 := R2.out.frozen 8; have f9 := R2.out.frozen 9
  obtain ⟨r0, r1, r2, r3, r4, r5, r6, r7, r8, r9⟩ := R2.out.ten
  have ZF := Lib.hid ((((((((((R2.out.set_ 0 (.int .i64 P)).set_ 1 (.slice As ns cs)).set_ 2 (.slice Ai ni ci)).set_ 3 (.int .i64 R)).set_ 4 (.int .i64 X)).set_ 5 (.int .i64 V)).set_ 6 (.int .i64 U)).set_ 7 (.int .i64 D)).set_ 8 (.slice Az nz cz)).set_ 9 (.int .i64 Q))
  have OF := Lib.hid ((((((((((HO.out.far (a := ⟨w.heap.size, 0, none⟩) hw1 (.int .i64 P)).far (a := ⟨w.heap.size, 1, none⟩) hw1 (.slice As ns cs)).far (a := ⟨w.heap.size, 2, none⟩) hw1 (.slice Ai ni ci)).far (a := ⟨w.heap.size, 3, none⟩) hw1 (.int .i64 R)).far (a := ⟨w.heap.size, 4, none⟩) hw1 (.int .i64 X)).far (a := ⟨w.heap.size, 5, none⟩) hw1 (.int .i64 V)).far (a := ⟨w.heap.size, 6, none⟩) hw1 (.int .i64 U)).far (a := ⟨w.heap.size, 7, none⟩) hw1 (.int .i64 D)).far (a := ⟨w.heap.size, 8, none⟩) hw1 (.slice Az nz cz)).far (a := ⟨w.heap.size, 9, none⟩) hw1 (.int .i64 Q))
  have BF := Lib.hid ((((((((((B2.out.setCell (p := ⟨w.heap.size, 0, none⟩) (Nat.le_refl _) (.int .i64 P)).setCell (p := ⟨w.heap.size, 1, none⟩) (Nat.le_refl _) (.slice As ns cs)).setCell (p := ⟨w.heap.size, 2, none⟩) (Nat.le_refl _) (.slice Ai ni ci)).setCell (p := ⟨w.heap.size, 3, none⟩) (Nat.le_refl _) (.int .i64 R)).setCell (p := ⟨w.heap.size, 4, none⟩) (Nat.le_refl _) (.int .i64 X)).setCell (p := ⟨w.heap.size, 5, none⟩) (Nat.le_refl _) (.int .i64 V)).setCell (p := ⟨w.heap.size, 6, none⟩) (Nat.le_refl _) (.int .i64 U)).setCell (p := ⟨w.heap.size, 7, none⟩) (Nat.le_refl _) (.int .i64 D)).setCell (p := ⟨w.heap.size, 8, none⟩) (Nat.le_refl _) (.slice Az nz cz)).setCell (p := ⟨w.heap.size, 9, none⟩) (Nat.le_refl _) (.int .i64 Q))
  clear HO B2 R2 S2
  go_wp2
  have k0 := ZF.out.cell 0; have k1 := ZF.out.cell 1; have k2 := ZF.out.cell 2; have k3 := ZF.out.cell 3; have k4 := ZF.out.cell 4; have k5 := ZF.out.cell 5; have k6 := ZF.out.cell 6; have k7 := ZF.out.cell 7; have k8 := ZF.out.cell 8; have k9 := ZF.out.cell 9
  simp at k0 k1 k2 k3 k4 k5 k6 k7 k8 k9
  refine bodyPost_ret (v := .tuple #[.agg #[.int .i64 P, .slice As ns cs, .slice Ai ni ci, .int .i64 R, .int .i64 X, .int .i64 V, .int .i64 U, .int .i64 D, .slice Az nz cz, .int .i64 Q], .int .i64 a, .int .i64 f, .int .i64 t]) (by simp [results, Tryd.results6, go_sem, k0, k1, k2, k3, k4, k5, k6, k7, k8, k9]) rfl ?_
  exact ⟨⟨_, _, _, _, _, _, _, _, _, _, _, _, _, _, _, _, _, _, _, _, _, _, rfl, OF.out.fewer (by omega), HN.out, HJ.out, HK.out.1, HK.out.2, ⟨HAB.out.1, HAB.out.2.1⟩, HTT.out⟩, BF.out⟩
end Go.Proofs.YtpaedbmdcbmpiaaDoor
