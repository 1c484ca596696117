/- Draws beside blocks of one's own, in one word; the contracts of chapter 6's draws: satellites. -/
import Derived.Test.YtlaigbhiligceaaGreatDoorDrawArcs
import Derived.Test.YtlaigbhiligceaaGreatDoorDrawOwn
import Derived.Test.YtlaigbhiligceaaGreatDoorSky
namespace Go.Proofs.YtlaigbhiligceaaGreatDoor
open Go.ChangeShapes Go.WideShapes Go.ChangeAt Go.RowKit
set_option linter.unusedVariables false
/-- since w0 the cursor at p has been turned, and new blocks were made and written -/
structure Dr (w0 : World) (p : Nat) (A : Option Addr) (cap : Nat) (xs : List Value) (w : World) : Prop where
  lt : p < w0.heap.size
  cur : Cur w p A cap xs
  turn : Turn p w0 w
section
variable {w0 w w' : World} {p : Nat} {A : Option Addr} {cap : Nat} {xs : List Value}
theorem Dr.start (h : Cur w p A cap xs) : Dr w p A cap xs w := ⟨h.lt, h, Turn.refl _ _⟩
theorem Dr.call (h : Dr w0 p A cap xs w) (c : Cur w' p A cap xs) (u : Turn p w w') : Dr w0 p A cap xs w' := ⟨h.lt, c, h.turn.trans u⟩
theorem Dr.alloc (h : Dr w0 p A cap xs w) (o : Obj) : Dr w0 p A cap xs (w.alloc o) := ⟨h.lt, h.cur.alloc o, h.turn.alloc o⟩
theorem Dr.size (h : Dr w0 p A cap xs w) : w0.heap.size ≤ w.heap.size := h.turn.size
theorem Dr.set_ (h : Dr w0 p A cap xs w) {a : Addr} (ha : w0.heap.size ≤ a.block) (u : Value) : Dr w0 p A cap xs (w.setCell a u) := by
  have := h.lt
  obtain ⟨c, t⟩ := put_far (w := w0) (w5 := w) (p := p) a u (by omega) ha h.cur h.turn
  exact ⟨h.lt, c, t⟩
theorem Dr.grown {E : TypeId} {s n c : Nat} {A' : Option Addr} {ys : List Value} (h : Dr w0 p A cap xs w) (ho : Own w w0.heap.size E s A' n c ys) (hg : w.grownBy w' (Value.slice A' n c).ownBlock) : Dr w0 p A cap xs w' := ⟨h.lt, h.cur.grown ho h.lt hg, h.turn.grown ho hg⟩
theorem Dr.below (h : Dr w0 p A cap xs w) (hb : Below w.heap.size w w') : Dr w0 p A cap xs w' := ⟨h.lt, h.cur.below hb, h.turn.belowOn hb⟩
end
/-- a call that answers v and turns the cursor -/
def DrV (w : World) (p : Nat) (A : Option Addr) (cap : Nat) (xs : List Value) (Q : Value → Prop) (e : Ending) (w' : World) : Prop := (∃ v, e = .returned v ∧ Q v) ∧ Cur w' p A cap xs ∧ Turn p w w'
theorem j64 {z : Int} (h0 : -9223372036854775808 ≤ z) (h1 : z ≤ 9223372036854775807) : J64 z := ⟨h0, h1⟩
/-- a drawn satellite: its error is small -/
def Oke (x : Sat4) : Prop := J64 x.p ∧ J64 x.h ∧ J64 x.v ∧ (J64 x.e ∧ x.e ≤ 21)
theorem Oke.ok4 {x : Sat4} (h : Oke x) : Ok4 x := ⟨h.1, h.2.1, h.2.2.1, h.2.2.2.1⟩
theorem oke {x y z u : Int} (a : J64 x) (b : J64 y) (c : J64 z) (d : J64 u) (e : u ≤ 21) : Oke ⟨x, y, z, u⟩ := ⟨a, b, c, d, e⟩
/-- a satellite as a value -/
def satV (x : Sat4) : Value := .agg #[.int .i64 x.p, .int .i64 x.h, .int .i64 x.v, .int .i64 x.e]
set_option maxRecDepth 100000 in
set_option maxHeartbeats 800000 in
theorem dsat (w : World) (p : Nat) (A : Option Addr) (cap : Nat) (xs : List Value) (hc : Cur w p A cap xs) :
    Calls Tryz.prog 106 #[.pointer (some ⟨p, 0, none⟩)] w fun e w' => (∃ x y z u : Int, e = .returned (.agg #[.int .i64 x, .int .i64 y, .int .i64 z, .int .i64 u]) ∧ Oke ⟨x, y, z, u⟩) ∧ Cur w' p A cap xs ∧ Turn p w w' := by
  have hr := Lib.hid (i64_all (l := [5, 10, 12, -10, 0]) (by decide))
  have hp2 : ¬ (w.heap.size = p) := by have := hc.lt; omega
  have K1 := Lib.hid ((Dr.start hc).alloc (.cells #[.int .i64 0, .int .i64 0, .int .i64 0, .int .i64 0] 109))
  have R1 : Hid (Blk (w.alloc (.cells #[.int .i64 0, .int .i64 0, .int .i64 0, .int .i64 0] 109)) w.heap.size 109 #[.int .i64 0, .int .i64 0, .int .i64 0, .int .i64 0]) := Lib.hid (Blk.new _ _ _)
  clear hc
  go_enter Tryz.func106, Tryz.ntmps106
  go_wp2_with fail
  refine (dbelow _ _ _ _ _ _ K1.out.cur (by omega)).mono ?_
  rintro e w1 ⟨⟨x, hx, rfl⟩, c1, u1⟩
  have hx1 := hx.1 (by omega)
  have K2 := Lib.hid (K1.out.call c1 u1); have R2 := Lib.hid (u1.blk R1.out hp2)
  clear hx c1 u1 K1 R1
  go_wp2_with fail
  refine (dbelow _ _ _ _ _ _ K2.out.cur (by omega)).mono ?_
  rintro e w2 ⟨⟨y, hy, rfl⟩, c1, u1⟩
  have hy1 := hy.1 (by omega)
  have K3 := Lib.hid (K2.out.call c1 u1); have R3 := Lib.hid (u1.blk R2.out hp2)
  clear hy c1 u1 K2 R2
  go_wp2_with fail
  refine (dlist _ _ _ _ _ [5, 10, 12, -10, 0] _ _ _ rfl rfl K3.out.cur (by decide) (by decide) hr.out).mono ?_
  rintro e w3 ⟨⟨z, hz, rfl⟩, c1, u1⟩
  have hz1 := Lib.hid (hr.out z hz)
  have K4 := Lib.hid (K3.out.call c1 u1); have R4 := Lib.hid (u1.blk R3.out hp2)
  clear hz c1 u1 K3 R3
  go_wp2_with fail
  refine (dbelow _ _ _ _ _ _ K4.out.cur (by omega)).mono ?_
  rintro e w4 ⟨⟨u, hu, rfl⟩, c1, u1⟩
  have hu1 := hu.1 (by omega)
  have HQ : Hid (Oke ⟨x, 30 * (y : Int), z, u⟩) := Lib.hid (oke (j64 (by omega) (by omega)) (j64 (by omega) (by omega)) hz1.out (j64 (by omega) (by omega)) (by omega))
  have K5 := Lib.hid (K4.out.call c1 u1); have R5 := Lib.hid (u1.blk R4.out hp2)
  clear hu c1 u1 K4 R4
  have r0 := R5.out.cell 0; have r1 := R5.out.cell 1; have r2 := R5.out.cell 2; have r3 := R5.out.cell 3
  have f0 := R5.out.frozen 0; have f1 := R5.out.frozen 1; have f2 := R5.out.frozen 2; have f3 := R5.out.frozen 3
  simp at r0 r1 r2 r3
  go_wp2
  have zf := (((R5.out.set_ 0 (.int .i64 x)).set_ 1 (.int .i64 (30 * (y : Int)))).set_ 2 (.int .i64 z)).set_ 3 (.int .i64 u)
  have k0 := zf.cell 0; have k1 := zf.cell 1; have k2 := zf.cell 2; have k3 := zf.cell 3
  simp at k0 k1 k2 k3
  refine bodyPost_ret (v := .agg #[.int .i64 x, .int .i64 (30 * (y : Int)), .int .i64 z, .int .i64 u]) (by simp [results, Tryz.results106, go_sem, k0, k1, k2, k3]) rfl ?_
  have KF := (((K5.out.set_ (a := ⟨w.heap.size, 0, none⟩) (by simp) (.int .i64 x)).set_ (a := ⟨w.heap.size, 1, none⟩) (by simp) (.int .i64 (30 * (y : Int)))).set_ (a := ⟨w.heap.size, 2, none⟩) (by simp) (.int .i64 z)).set_ (a := ⟨w.heap.size, 3, none⟩) (by simp) (.int .i64 u)
  exact ⟨⟨_, _, _, _, rfl, HQ.out⟩, KF.cur, KF.turn⟩
set_option maxRecDepth 100000 in
set_option maxHeartbeats 1600000 in
theorem dsatany (w : World) (p : Nat) (A : Option Addr) (cap : Nat) (xs : List Value) (hc : Cur w p A cap xs) :
    Calls Tryz.prog 67 #[.pointer (some ⟨p, 0, none⟩)] w fun e w' => (∃ x y z u : Int, e = .returned (.agg #[.int .i64 x, .int .i64 y, .int .i64 z, .int .i64 u]) ∧ Oke ⟨x, y, z, u⟩) ∧ Cur w' p A cap xs ∧ Turn p w w' := by
  have hr1 := Lib.hid (i64_all (l := [-1, 3, 9223372036854775807]) (by decide))
  have hr2 := Lib.hid (i64_all (l := [60, 61, -60, -61, 9223372036854775807]) (by decide))
  have hr3 := Lib.hid (i64_all (l := [-1, 20, 21]) (by decide))
  have hp2 : ¬ (w.heap.size = p) := by have := hc.lt; omega
  have K1 := Lib.hid ((Dr.start hc).alloc (.cells #[.int .i64 0, .int .i64 0, .int .i64 0, .int .i64 0] 109))
  have R1 : Hid (Blk (w.alloc (.cells #[.int .i64 0, .int .i64 0, .int .i64 0, .int .i64 0] 109)) w.heap.size 109 #[.int .i64 0, .int .i64 0, .int .i64 0, .int .i64 0]) := Lib.hid (Blk.new _ _ _)
  clear hc
  go_enter Tryz.func67, Tryz.ntmps67
  go_wp2_with fail
  refine (dsat _ _ _ _ _ K1.out.cur).mono ?_
  rintro e w1 ⟨⟨x, y, z, u, rfl, hq⟩, c1, u1⟩
  have hw1 : w.heap.size < w1.heap.size := by have := u1.size; simp at this; omega
  have hp3 : ¬ (w1.heap.size = p) := by have := c1.lt; omega
  have HQ := Lib.hid hq
  have K2 := Lib.hid ((K1.out.call c1 u1).alloc (.cells #[.int .i64 x, .int .i64 y, .int .i64 z, .int .i64 u] 109)); have R2 := Lib.hid ((u1.blk R1.out hp2).alloc (.cells #[.int .i64 x, .int .i64 y, .int .i64 z, .int .i64 u] 109))
  have S2 : Hid (Blk (w1.alloc (.cells #[.int .i64 x, .int .i64 y, .int .i64 z, .int .i64 u] 109)) w1.heap.size 109 #[.int .i64 x, .int .i64 y, .int .i64 z, .int .i64 u]) := Lib.hid (Blk.new _ _ _)
  clear hq c1 u1 K1 R1
  go_wp2_with fail
  refine (dbelow _ _ _ _ _ _ K2.out.cur (by omega)).mono ?_
  rintro e w2 ⟨⟨f, hf, rfl⟩, c1, u1⟩
  have hf1 := hf.1 (by omega)
  have K3 := Lib.hid (K2.out.call c1 u1); have R3 := Lib.hid (u1.blk R2.out hp2); have S3 := Lib.hid (u1.blk S2.out hp3)
  clear hf c1 u1 K2 R2 S2
  -- the end: from a world in which the satellite holds four numbers
  have END : Hid (∀ (w5 : World) (x y z u : Int), Dr w p A cap xs w5 → Blk w5 w.heap.size 109 #[.int .i64 0, .int .i64 0, .int .i64 0, .int .i64 0] →
      Blk ((((w5.setCell ⟨w.heap.size, 0, none⟩ (.int .i64 x)).setCell ⟨w.heap.size, 1, none⟩ (.int .i64 y)).setCell ⟨w.heap.size, 2, none⟩ (.int .i64 z)).setCell ⟨w.heap.size, 3, none⟩ (.int .i64 u)) w.heap.size 109 #[.int .i64 x, .int .i64 y, .int .i64 z, .int .i64 u] ∧
      Dr w p A cap xs ((((w5.setCell ⟨w.heap.size, 0, none⟩ (.int .i64 x)).setCell ⟨w.heap.size, 1, none⟩ (.int .i64 y)).setCell ⟨w.heap.size, 2, none⟩ (.int .i64 z)).setCell ⟨w.heap.size, 3, none⟩ (.int .i64 u))) := by
    refine Lib.hid fun w5 x y z u hd hb => ⟨?_, ?_⟩
    · have h1 := (((hb.set_ 0 (.int .i64 x)).set_ 1 (.int .i64 y)).set_ 2 (.int .i64 z)).set_ 3 (.int .i64 u)
      simpa using h1
    · exact (((hd.set_ (a := ⟨w.heap.size, 0, none⟩) (by simp) _).set_ (a := ⟨w.heap.size, 1, none⟩) (by simp) _).set_ (a := ⟨w.heap.size, 2, none⟩) (by simp) _).set_ (a := ⟨w.heap.size, 3, none⟩) (by simp) _
  by_cases q0 : f = 0
  · subst q0
    go_wp2_with fail
    refine (dlist _ _ _ _ _ [-1, 3, 9223372036854775807] _ _ _ rfl rfl K3.out.cur (by decide) (by decide) hr1.out).mono ?_
    rintro e w3 ⟨⟨v, hv, rfl⟩, c1, u1⟩
    have hv1 := Lib.hid (hr1.out v hv)
    have K4 := Lib.hid (K3.out.call c1 u1); have R4 := Lib.hid (u1.blk R3.out hp2); have S4 := Lib.hid (u1.blk S3.out hp3)
    clear hv c1 u1 K3 R3 S3
    have s0 := S4.out.cell 0; have s1 := S4.out.cell 1; have s2 := S4.out.cell 2; have s3 := S4.out.cell 3
    have g0 := S4.out.frozen 0
    have r0 := R4.out.cell 0; have r1 := R4.out.cell 1; have r2 := R4.out.cell 2; have r3 := R4.out.cell 3
    have f0 := R4.out.frozen 0; have f1 := R4.out.frozen 1; have f2 := R4.out.frozen 2; have f3 := R4.out.frozen 3
    simp at r0 r1 r2 r3 s0 s1 s2 s3
    have KF := Lib.hid (END.out _ v y z u (K4.out.set_ (a := ⟨w1.heap.size, 0, none⟩) (by simp; omega) (.int .i64 v)) (R4.out.far (p := ⟨w1.heap.size, 0, none⟩) (by simp; omega) (.int .i64 v)))
    clear END
    go_wp2
    have k0 := KF.out.1.cell 0; have k1 := KF.out.1.cell 1; have k2 := KF.out.1.cell 2; have k3 := KF.out.1.cell 3
    simp at k0 k1 k2 k3
    refine bodyPost_ret (v := .agg #[.int .i64 v, .int .i64 y, .int .i64 z, .int .i64 u]) (by simp [results, Tryz.results67, go_sem, k0, k1, k2, k3]) rfl ?_
    exact ⟨⟨_, _, _, _, rfl, hv1.out, HQ.out.2.1, HQ.out.2.2.1, HQ.out.2.2.2⟩, KF.out.2.cur, KF.out.2.turn⟩
  have q0' : ((f : Int) == 0) = false := by simp; omega
  by_cases q1 : f = 1
  · subst q1
    go_wp2_with fail
    refine (dangle _ _ _ _ _ K3.out.cur).mono ?_
    rintro e w3 ⟨⟨v, hv, rfl⟩, c1, u1⟩
    have hv1 : Hid (J64 v) := Lib.hid hv
    have K4 := Lib.hid (K3.out.call c1 u1); have R4 := Lib.hid (u1.blk R3.out hp2); have S4 := Lib.hid (u1.blk S3.out hp3)
    clear hv c1 u1 K3 R3 S3
    have s0 := S4.out.cell 0; have s1 := S4.out.cell 1; have s2 := S4.out.cell 2; have s3 := S4.out.cell 3
    have g0 := S4.out.frozen 1
    have r0 := R4.out.cell 0; have r1 := R4.out.cell 1; have r2 := R4.out.cell 2; have r3 := R4.out.cell 3
    have f0 := R4.out.frozen 0; have f1 := R4.out.frozen 1; have f2 := R4.out.frozen 2; have f3 := R4.out.frozen 3
    simp at r0 r1 r2 r3 s0 s1 s2 s3
    have KF := Lib.hid (END.out _ x v z u (K4.out.set_ (a := ⟨w1.heap.size, 1, none⟩) (by simp; omega) (.int .i64 v)) (R4.out.far (p := ⟨w1.heap.size, 1, none⟩) (by simp; omega) (.int .i64 v)))
    clear END
    go_wp2
    have k0 := KF.out.1.cell 0; have k1 := KF.out.1.cell 1; have k2 := KF.out.1.cell 2; have k3 := KF.out.1.cell 3
    simp at k0 k1 k2 k3
    refine bodyPost_ret (v := .agg #[.int .i64 x, .int .i64 v, .int .i64 z, .int .i64 u]) (by simp [results, Tryz.results67, go_sem, k0, k1, k2, k3]) rfl ?_
    exact ⟨⟨_, _, _, _, rfl, HQ.out.1, hv1.out, HQ.out.2.2.1, HQ.out.2.2.2⟩, KF.out.2.cur, KF.out.2.turn⟩
  have q1' : ((f : Int) == 1) = false := by simp; omega
  by_cases q2 : f = 2
  · subst q2
    go_wp2_with fail
    refine (dlist _ _ _ _ _ [60, 61, -60, -61, 9223372036854775807] _ _ _ rfl rfl K3.out.cur (by decide) (by decide) hr2.out).mono ?_
    rintro e w3 ⟨⟨v, hv, rfl⟩, c1, u1⟩
    have hv1 := Lib.hid (hr2.out v hv)
    have K4 := Lib.hid (K3.out.call c1 u1); have R4 := Lib.hid (u1.blk R3.out hp2); have S4 := Lib.hid (u1.blk S3.out hp3)
    clear hv c1 u1 K3 R3 S3
    have s0 := S4.out.cell 0; have s1 := S4.out.cell 1; have s2 := S4.out.cell 2; have s3 := S4.out.cell 3
    have g0 := S4.out.frozen 2
    have r0 := R4.out.cell 0; have r1 := R4.out.cell 1; have r2 := R4.out.cell 2; have r3 := R4.out.cell 3
    have f0 := R4.out.frozen 0; have f1 := R4.out.frozen 1; have f2 := R4.out.frozen 2; have f3 := R4.out.frozen 3
    simp at r0 r1 r2 r3 s0 s1 s2 s3
    have KF := Lib.hid (END.out _ x y v u (K4.out.set_ (a := ⟨w1.heap.size, 2, none⟩) (by simp; omega) (.int .i64 v)) (R4.out.far (p := ⟨w1.heap.size, 2, none⟩) (by simp; omega) (.int .i64 v)))
    clear END
    go_wp2
    have k0 := KF.out.1.cell 0; have k1 := KF.out.1.cell 1; have k2 := KF.out.1.cell 2; have k3 := KF.out.1.cell 3
    simp at k0 k1 k2 k3
    refine bodyPost_ret (v := .agg #[.int .i64 x, .int .i64 y, .int .i64 v, .int .i64 u]) (by simp [results, Tryz.results67, go_sem, k0, k1, k2, k3]) rfl ?_
    exact ⟨⟨_, _, _, _, rfl, HQ.out.1, HQ.out.2.1, hv1.out, HQ.out.2.2.2⟩, KF.out.2.cur, KF.out.2.turn⟩
  have q2' : ((f : Int) == 2) = false := by simp; omega
  by_cases q3 : f = 3
  · subst q3
    go_wp2_with fail
    refine (dlist _ _ _ _ _ [-1, 20, 21] _ _ _ rfl rfl K3.out.cur (by decide) (by decide) hr3.out).mono ?_
    rintro e w3 ⟨⟨v, hv, rfl⟩, c1, u1⟩
    have hv1 : Hid (J64 v ∧ v ≤ 21) := Lib.hid ⟨hr3.out v hv, by simp at hv; omega⟩
    have K4 := Lib.hid (K3.out.call c1 u1); have R4 := Lib.hid (u1.blk R3.out hp2); have S4 := Lib.hid (u1.blk S3.out hp3)
    clear hv c1 u1 K3 R3 S3
    have s0 := S4.out.cell 0; have s1 := S4.out.cell 1; have s2 := S4.out.cell 2; have s3 := S4.out.cell 3
    have g0 := S4.out.frozen 3
    have r0 := R4.out.cell 0; have r1 := R4.out.cell 1; have r2 := R4.out.cell 2; have r3 := R4.out.cell 3
    have f0 := R4.out.frozen 0; have f1 := R4.out.frozen 1; have f2 := R4.out.frozen 2; have f3 := R4.out.frozen 3
    simp at r0 r1 r2 r3 s0 s1 s2 s3
    have KF := Lib.hid (END.out _ x y z v (K4.out.set_ (a := ⟨w1.heap.size, 3, none⟩) (by simp; omega) (.int .i64 v)) (R4.out.far (p := ⟨w1.heap.size, 3, none⟩) (by simp; omega) (.int .i64 v)))
    clear END
    go_wp2
    have k0 := KF.out.1.cell 0; have k1 := KF.out.1.cell 1; have k2 := KF.out.1.cell 2; have k3 := KF.out.1.cell 3
    simp at k0 k1 k2 k3
    refine bodyPost_ret (v := .agg #[.int .i64 x, .int .i64 y, .int .i64 z, .int .i64 v]) (by simp [results, Tryz.results67, go_sem, k0, k1, k2, k3]) rfl ?_
    exact ⟨⟨_, _, _, _, rfl, HQ.out.1, HQ.out.2.1, HQ.out.2.2.1, hv1.out⟩, KF.out.2.cur, KF.out.2.turn⟩
  have q3' : ((f : Int) == 3) = false := by simp; omega
  have s0 := S3.out.cell 0; have s1 := S3.out.cell 1; have s2 := S3.out.cell 2; have s3 := S3.out.cell 3
  have r0 := R3.out.cell 0; have r1 := R3.out.cell 1; have r2 := R3.out.cell 2; have r3 := R3.out.cell 3
  have f0 := R3.out.frozen 0; have f1 := R3.out.frozen 1; have f2 := R3.out.frozen 2; have f3 := R3.out.frozen 3
  simp at r0 r1 r2 r3 s0 s1 s2 s3
  have KF := Lib.hid (END.out _ x y z u K3.out R3.out)
  clear END
  go_wp2
  have k0 := KF.out.1.cell 0; have k1 := KF.out.1.cell 1; have k2 := KF.out.1.cell 2; have k3 := KF.out.1.cell 3
  simp at k0 k1 k2 k3
  refine bodyPost_ret (v := .agg #[.int .i64 x, .int .i64 y, .int .i64 z, .int .i64 u]) (by simp [results, Tryz.results67, go_sem, k0, k1, k2, k3]) rfl ?_
  exact ⟨⟨_, _, _, _, rfl, HQ.out.1, HQ.out.2.1, HQ.out.2.2.1, HQ.out.2.2.2⟩, KF.out.2.cur, KF.out.2.turn⟩
end Go.Proofs.YtlaigbhiligceaaGreatDoor
