/- The contracts of chapter 8's draws DrawSightAt and DrawSureWindows. -/
import Derived.Test.YtpaedbmdcbmpiaaDoorDrawLim
import Derived.Test.YtpaedbmdcbmpiaaDoorDrawSpans
namespace Go.Proofs.YtpaedbmdcbmpiaaDoor
open Go.ChangeShapes Go.WideShapes Go.ChangeAt Go.RowKit
set_option linter.unusedVariables false
theorem OwnSky.past {w w3 w5 : World} {B p : Nat} {As : Option Addr} {ns cs : Nat} {Ai : Option Addr} {ni ci : Nat} {Az : Option Addr} {nz cz : Nat} {ls : List Sat4} {li lz : List Tri} (h : OwnSky w B As ns cs Ai ni ci Az nz cz ls li lz) (hb : Below w.heap.size w w3) (ht : Turn p w3 w5) (hp : w.heap.size ≤ p) : OwnSky w5 B As ns cs Ai ni ci Az nz cz ls li lz :=
  h.on ⟨ht.os.trans hb.os, ht.tape.trans hb.tape, ht.output.trans hb.output, Nat.le_trans hb.size ht.size, fun k hk => (ht.block k (Nat.lt_of_lt_of_le hk hb.size) (by omega)).trans (hb.block k hk)⟩
/-- what DrawSureWindows answers -/
def GotWin (w : World) (e : Ending) (w' : World) : Prop :=
  (∃ (P R X V U D Q : Int) (ns ni nz : Nat) (ls : List Sat4) (li lz : List Tri) (As : Option Addr) (cs : Nat) (Ai : Option Addr) (ci : Nat) (Az : Option Addr) (cz : Nat) (a b f t : Int),
    e = .returned (.tuple #[.agg #[.int .i64 P, .slice As ns cs, .slice Ai ni ci, .int .i64 R, .int .i64 X, .int .i64 V, .int .i64 U, .int .i64 D, .slice Az nz cz, .int .i64 Q], .int .i64 a, .int .i64 b, .int .i64 f, .int .i64 t]) ∧ OwnSky w' w.heap.size As ns cs Ai ni ci Az nz cz ls li lz ∧ (ns ≤ 6 ∧ ni = 2 ∧ nz ≤ 1) ∧ J64 P ∧ (∀ x ∈ ls, Oke x) ∧ (∀ x ∈ li, Ok3 x) ∧ (0 ≤ a ∧ a ≤ 7 ∧ 0 ≤ b ∧ b ≤ 7) ∧ (-2 ≤ f ∧ f ≤ 17 ∧ f ≤ t ∧ t ≤ 56)) ∧ Below w.heap.size w w'
set_option maxRecDepth 100000 in
set_option maxHeartbeats 2000000 in
theorem drawwin (w : World) (A : Option Addr) (cap : Nat) (xs : List Value) (hB : Bytes xs) (hn : xs.length ≤ 1048576) (hR : Reads w w.heap.size A xs) :
    Calls Tryd.prog 21 #[.slice A xs.length cap] w (GotWin w) := by
  have B1 := Lib.hid ((Below.refl w.heap.size w).alloc (Nat.le_refl _) (.cells #[.int .i64 0, .slice none 0 0, .slice none 0 0, .int .i64 0, .int .i64 0, .int .i64 0, .int .i64 0, .int .i64 0, .slice none 0 0, .int .i64 0] 28))
  have R1 : Hid (Blk (w.alloc (.cells #[.int .i64 0, .slice none 0 0, .slice none 0 0, .int .i64 0, .int .i64 0, .int .i64 0, .int .i64 0, .int .i64 0, .slice none 0 0, .int .i64 0] 28)) w.heap.size 28 #[.int .i64 0, .slice none 0 0, .slice none 0 0, .int .i64 0, .int .i64 0, .int .i64 0, .int .i64 0, .int .i64 0, .slice none 0 0, .int .i64 0]) := Lib.hid (Blk.new _ _ _)
  have HR := Lib.hid ((hR.below B1.out (Nat.le_refl _)).more B1.out.size)
  go_enter Tryd.func21, Tryd.ntmps21
  go_wp2_with fail
  refine (dnew _ _ _ _ hB hn HR.out).mono ?_
  rintro e w1 ⟨⟨p, hp, rfl, hc⟩, hb⟩
  have hp1 : w.heap.size < p := by simp at hp; omega
  have hp2 : ¬ (w.heap.size = p) := by omega
  have B2 := Lib.hid (B1.out.trans (hb.mono (by simp)))
  have R2 := Lib.hid (R1.out.below hb R1.out.lt)
  have K2 := Lib.hid hc
  clear hb hc B1 R1 hp
  go_wp2_with fail
  refine (dsky _ _ _ _ _ K2.out).mono ?_
  rintro e w2 ⟨⟨P, R, X, V, U, D, Q, ns, ni, nz, ls, li, lz, As, cs, Ai, ci, Az, cz, rfl, ho, hns, hap, hj, hk1, hk2⟩, c1, u1⟩
  have HJ := Lib.hid hj.1; have HN : Hid (ns ≤ 6 ∧ ni = 2 ∧ nz ≤ 1) := Lib.hid ⟨hns.2.1, hns.2.2.1, hns.2.2.2⟩; have HK := Lib.hid (And.intro hk1 hk2)
  have hw1 : w.heap.size < w1.heap.size := R2.out.lt
  have hsp : ¬ (w2.heap.size = p) := by have := c1.lt; omega
  have HO := Lib.hid (ho.alloc (.cells #[.int .i64 P, .slice As ns cs, .slice Ai ni ci, .int .i64 R, .int .i64 X, .int .i64 V, .int .i64 U, .int .i64 D, .slice Az nz cz, .int .i64 Q] 28))
  have B3 := Lib.hid ((B2.out.trans ((u1.below K2.out.lt).mono (by omega))).alloc (by have := (u1.blk R2.out hp2).lt; omega) (.cells #[.int .i64 P, .slice As ns cs, .slice Ai ni ci, .int .i64 R, .int .i64 X, .int .i64 V, .int .i64 U, .int .i64 D, .slice Az nz cz, .int .i64 Q] 28))
  have R3 := Lib.hid ((u1.blk R2.out hp2).alloc (.cells #[.int .i64 P, .slice As ns cs, .slice Ai ni ci, .int .i64 R, .int .i64 X, .int .i64 V, .int .i64 U, .int .i64 D, .slice Az nz cz, .int .i64 Q] 28))
  have S3 : Hid (Blk (w2.alloc (.cells #[.int .i64 P, .slice As ns cs, .slice Ai ni ci, .int .i64 R, .int .i64 X, .int .i64 V, .int .i64 U, .int .i64 D, .slice Az nz cz, .int .i64 Q] 28)) w2.heap.size 28 #[.int .i64 P, .slice As ns cs, .slice Ai ni ci, .int .i64 R, .int .i64 X, .int .i64 V, .int .i64 U, .int .i64 D, .slice Az nz cz, .int .i64 Q]) := Lib.hid (Blk.new _ _ _)
  have K3 := Lib.hid (c1.alloc (.cells #[.int .i64 P, .slice As ns cs, .slice Ai ni ci, .int .i64 R, .int .i64 X, .int .i64 V, .int .i64 U, .int .i64 D, .slice Az nz cz, .int .i64 Q] 28))
  have hpw : p < w1.heap.size := K2.out.lt
  have hs2 : w.heap.size < w2.heap.size := (u1.blk R2.out hp2).lt
  clear hj hns hap hk1 hk2 ho c1 u1 B2 R2 K2
  go_wp2_with fail
  refine (dbelow _ _ _ _ _ _ K3.out (by omega)).mono ?_
  rintro e w3 ⟨⟨x, hx, rfl⟩, c1, u1⟩
  have hx1 := hx.1 (by omega)
  have HO4 := Lib.hid (HO.out.turn u1 hpw); have B4 := Lib.hid (B3.out.trans ((u1.below K3.out.lt).mono (by omega))); have R4 := Lib.hid (u1.blk R3.out hp2); have S4 := Lib.hid (u1.blk S3.out hsp); have K4 := Lib.hid c1
  clear hx c1 u1 HO B3 R3 S3 K3
  go_wp2_with fail
  refine (dbelow _ _ _ _ _ _ K4.out (by omega)).mono ?_
  rintro e w4 ⟨⟨y, hy, rfl⟩, c1, u1⟩
  have hy1 := hy.1 (by omega)
  have HO6 := Lib.hid (HO4.out.turn u1 hpw); have B6 := Lib.hid (B4.out.trans ((u1.below K4.out.lt).mono (by omega))); have R6 := Lib.hid (u1.blk R4.out hp2); have S6 := Lib.hid (u1.blk S4.out hsp); have K6 := Lib.hid c1
  clear hy c1 u1 HO4 B4 R4 S4 K4
  go_wp2_with fail
  refine (dbelow _ _ _ _ _ _ K6.out (by omega)).mono ?_
  rintro e w6 ⟨⟨f, hf, rfl⟩, c1, u1⟩
  have hf1 := hf.1 (by omega)
  have HO7 := Lib.hid (HO6.out.turn u1 hpw); have B7 := Lib.hid (B6.out.trans ((u1.below K6.out.lt).mono (by omega))); have R7 := Lib.hid (u1.blk R6.out hp2); have S7 := Lib.hid (u1.blk S6.out hsp); have K7 := Lib.hid c1
  clear hf c1 u1 HO6 B6 R6 S6 K6
  have hw : IntKind.i64.wrap ((f : Int) - 2) = (f : Int) - 2 := wrap_in _ (by omega) (by omega)
  obtain ⟨c0, c1, c2, c3, c4, c5, c6, c7, c8, c9⟩ := S7.out.ten
  have K5 : Hid (Cur w6.drew p A cap xs) := Lib.hid K7.out
  go_wp2_with fail
  go_region_law (first
    | (go_simp; go_at_call 52; refine (dbelow _ _ _ _ _ _ K5.out (by omega)).mono ?_; rintro e w5 ⟨⟨z, hz, rfl⟩, c5, u5'⟩; have hz1 := hz.1 (by omega); have u5 : Turn p w6 w5 := ((Turn.refl p w6).drew).trans u5'; have HO5 := Lib.hid (HO7.out.turn u5 hpw); have B5 := Lib.hid (B7.out.trans ((u5.below K7.out.lt).mono (by omega))); have R5 := Lib.hid (u5.blk R7.out hp2); have S5 := Lib.hid (u5.blk S7.out hsp); obtain ⟨d0, d1, d2, d3, d4, d5, d6, d7, d8, d9⟩ := S5.out.ten; obtain ⟨r0, r1, r2, r3, r4, r5, r6, r7, r8, r9⟩ := R5.out.ten; have f0 := R5.out.frozen 0; have f1 := R5.out.frozen 1; have f2 := R5.out.frozen 2; have f3 := R5.out.frozen 3; have f4 := R5.out.frozen 4; have f5 := R5.out.frozen 5; have f6 := R5.out.frozen 6; have f7 := R5.out.frozen 7; have f8 := R5.out.frozen 8; have f9 := R5.out.frozen 9; have hwz : IntKind.i64.wrap ((f : Int) - 2 + (z : Int)) = (f : Int) - 2 + (z : Int) := wrap_in _ (by omega) (by omega); clear hz c5 u5' u5))
  all_goals
    have ZF := Lib.hid (((((((((((R5.out.set_ 0 (.int .i64 P)).set_ 1 (.slice As ns cs)).set_ 2 (.slice Ai ni ci)).set_ 3 (.int .i64 R)).set_ 4 (.int .i64 X)).set_ 5 (.int .i64 V)).set_ 6 (.int .i64 U)).set_ 7 (.int .i64 D)).set_ 8 (.slice Az nz cz)).set_ 9 (.int .i64 Q)))
    have OF := Lib.hid (((((((((((HO5.out.far (a := ⟨w.heap.size, 0, none⟩) hw1 (.int .i64 P)).far (a := ⟨w.heap.size, 1, none⟩) hw1 (.slice As ns cs)).far (a := ⟨w.heap.size, 2, none⟩) hw1 (.slice Ai ni ci)).far (a := ⟨w.heap.size, 3, none⟩) hw1 (.int .i64 R)).far (a := ⟨w.heap.size, 4, none⟩) hw1 (.int .i64 X)).far (a := ⟨w.heap.size, 5, none⟩) hw1 (.int .i64 V)).far (a := ⟨w.heap.size, 6, none⟩) hw1 (.int .i64 U)).far (a := ⟨w.heap.size, 7, none⟩) hw1 (.int .i64 D)).far (a := ⟨w.heap.size, 8, none⟩) hw1 (.slice Az nz cz)).far (a := ⟨w.heap.size, 9, none⟩) hw1 (.int .i64 Q)))
    have BF := Lib.hid (((((((((((B5.out.setCell (p := ⟨w.heap.size, 0, none⟩) (Nat.le_refl _) (.int .i64 P)).setCell (p := ⟨w.heap.size, 1, none⟩) (Nat.le_refl _) (.slice As ns cs)).setCell (p := ⟨w.heap.size, 2, none⟩) (Nat.le_refl _) (.slice Ai ni ci)).setCell (p := ⟨w.heap.size, 3, none⟩) (Nat.le_refl _) (.int .i64 R)).setCell (p := ⟨w.heap.size, 4, none⟩) (Nat.le_refl _) (.int .i64 X)).setCell (p := ⟨w.heap.size, 5, none⟩) (Nat.le_refl _) (.int .i64 V)).setCell (p := ⟨w.heap.size, 6, none⟩) (Nat.le_refl _) (.int .i64 U)).setCell (p := ⟨w.heap.size, 7, none⟩) (Nat.le_refl _) (.int .i64 D)).setCell (p := ⟨w.heap.size, 8, none⟩) (Nat.le_refl _) (.slice Az nz cz)).setCell (p := ⟨w.heap.size, 9, none⟩) (Nat.le_refl _) (.int .i64 Q)))
    clear HO7 B7 R7 S7 K7 K5 HO5 B5 R5 S5
    go_wp2
    have k0 := ZF.out.cell 0; have k1 := ZF.out.cell 1; have k2 := ZF.out.cell 2; have k3 := ZF.out.cell 3; have k4 := ZF.out.cell 4; have k5 := ZF.out.cell 5; have k6 := ZF.out.cell 6; have k7 := ZF.out.cell 7; have k8 := ZF.out.cell 8; have k9 := ZF.out.cell 9
    simp at k0 k1 k2 k3 k4 k5 k6 k7 k8 k9
    refine bodyPost_ret (v := .tuple #[.agg #[.int .i64 P, .slice As ns cs, .slice Ai ni ci, .int .i64 R, .int .i64 X, .int .i64 V, .int .i64 U, .int .i64 D, .slice Az nz cz, .int .i64 Q], .int .i64 x, .int .i64 y, .int .i64 ((f : Int) - 2), .int .i64 ((f : Int) - 2 + (z : Int))]) (by simp [results, Tryd.results21, go_sem, k0, k1, k2, k3, k4, k5, k6, k7, k8, k9]) rfl ?_
    exact ⟨⟨_, _, _, _, _, _, _, _, _, _, _, _, _, _, _, _, _, _, _, _, _, _, _, rfl, OF.out.fewer (Nat.le_of_lt hw1), HN.out, HJ.out, HK.out.1, HK.out.2, by omega, by omega⟩, BF.out⟩
end Go.Proofs.YtpaedbmdcbmpiaaDoor
