/- The contracts of chapter 5's draws: angles and arcs. -/
import Derived.Test.YtlaigbhiligceaaGreatDoorDrawInts
import Derived.Deep.RegionHeld3
namespace Go.Proofs.YtlaigbhiligceaaGreatDoor
open Go.ChangeShapes Go.WideShapes Go.ChangeAt Go.RowKit
set_option linter.unusedVariables false
set_option maxRecDepth 100000 in
theorem dangle (w : World) (p : Nat) (A : Option Addr) (cap : Nat) (xs : List Value) (hc : Cur w p A cap xs) :
    Calls Tryz.prog 68 #[.pointer (some ⟨p, 0, none⟩)] w fun e w' => SomeI64 e ∧ Cur w' p A cap xs ∧ Turn p w w' := by
  have hr := Lib.hid (i64_all (l := [-1, -360, -361, 359, 360, 361, 9223372036854775807, -9223372036854775808]) (by decide))
  go_enter Tryz.func68, Tryz.ntmps68
  go_wp2_with fail
  refine (donce _ _ _ _ _ _ hc (by omega)).mono ?_
  rintro e w1 ⟨⟨b, rfl⟩, hc1, ht1⟩
  cases b
  · go_wp2_with fail
    refine (dbelow _ _ _ _ _ _ hc1 (by omega)).mono ?_
    rintro e w2 ⟨⟨x, hx, rfl⟩, hc2, ht2⟩
    have hx4 := hx.1 (by omega); clear hx
    have HF : Hid (SomeI64 (.returned (.int .i64 (x : Int)))) := Lib.hid ⟨x, by omega, rfl⟩
    clear hx4
    go_wp2
    go_ret
    exact ⟨HF.out, hc2, ht1.trans ht2⟩
  · go_wp2_with fail
    refine (dlist _ _ _ _ _ [-1, -360, -361, 359, 360, 361, 9223372036854775807, -9223372036854775808] _ _ _ rfl rfl hc1 (by decide) (by decide) hr.out).mono ?_
    rintro e w2 ⟨⟨z, hz, rfl⟩, hc2, ht2⟩
    have hb := Lib.hid (hr.out z hz)
    clear hz
    go_wp2
    go_ret
    exact ⟨⟨z, hb.out, rfl⟩, hc2, ht1.trans ht2⟩
/-- some pair, as a value -/
def SomePair (e : Ending) : Prop := ∃ x y : Int, e = .returned (.agg #[.int .i64 x, .int .i64 y])
/-- a pair is stored into a block of two cells that lies above the cursor -/
theorem put_pair {w w5 : World} {p g : Nat} {T : TypeId} {A : Option Addr} {cap : Nat} {xs : List Value} {u v : Value} (x y : Int) (hp : p < g) (hg : w.heap.size ≤ g) (hc : Cur w5 p A cap xs) (ht : Turn p w w5) (hb : Blk w5 g T #[u, v]) :
    w5.frozen? ⟨g, 0, none⟩ = false ∧ w5.cell? ⟨g, 0, none⟩ = some u ∧ (w5.setCell ⟨g, 0, none⟩ (.int .i64 x)).cell? ⟨g, 1, none⟩ = some v ∧ (w5.setCell ⟨g, 0, none⟩ (.int .i64 x)).frozen? ⟨g, 1, none⟩ = false ∧
    (w5.setCell ⟨g, 0, none⟩ (.int .i64 x)).cell? ⟨g, 0, none⟩ = some (.int .i64 x) ∧
    ((w5.setCell ⟨g, 0, none⟩ (.int .i64 x)).setCell ⟨g, 1, none⟩ (.int .i64 y)).cell? ⟨g, 0, none⟩ = some (.int .i64 x) ∧
    ((w5.setCell ⟨g, 0, none⟩ (.int .i64 x)).setCell ⟨g, 1, none⟩ (.int .i64 y)).cell? ⟨g, 1, none⟩ = some (.int .i64 y) ∧
    Blk ((w5.setCell ⟨g, 0, none⟩ (.int .i64 x)).setCell ⟨g, 1, none⟩ (.int .i64 y)) g T #[.int .i64 x, .int .i64 y] ∧
    Cur ((w5.setCell ⟨g, 0, none⟩ (.int .i64 x)).setCell ⟨g, 1, none⟩ (.int .i64 y)) p A cap xs ∧ Turn p w ((w5.setCell ⟨g, 0, none⟩ (.int .i64 x)).setCell ⟨g, 1, none⟩ (.int .i64 y)) := by
  have h2 := hb.set_ 0 (.int .i64 x)
  have h1 := h2.set_ 1 (.int .i64 y)
  refine ⟨hb.frozen 0, hb.cell 0, h2.cell 1, h2.frozen 1, h2.cell 0, h1.cell 0, h1.cell 1, by simpa using h1, ?_, ?_⟩
  · exact hc.turned fun k hk => (Below.heap_setCell _ _ _ k (by simp; omega)).trans (Below.heap_setCell _ _ _ k (by simp; omega))
  · exact ⟨ht.os, ht.tape, ht.output, by simpa using ht.size, fun k hk hne => ((Below.heap_setCell _ _ _ k (by simp; omega)).trans (Below.heap_setCell _ _ _ k (by simp; omega))).trans (ht.block k hk hne)⟩
/-- a value is stored into a block above the cursor -/
theorem put_far {w w5 : World} {p : Nat} {A : Option Addr} {cap : Nat} {xs : List Value} (a : Addr) (u : Value) (hp : p < a.block) (hg : w.heap.size ≤ a.block) (hc : Cur w5 p A cap xs) (ht : Turn p w w5) :
    Cur (w5.setCell a u) p A cap xs ∧ Turn p w (w5.setCell a u) :=
  ⟨hc.turned fun k hk => Below.heap_setCell _ _ _ k (by omega), ht.os, ht.tape, ht.output, by simpa using ht.size, fun k hk hne => (Below.heap_setCell _ _ _ k (by omega)).trans (ht.block k hk hne)⟩
set_option maxRecDepth 100000 in
set_option maxHeartbeats 800000 in
theorem darc (w : World) (p : Nat) (A : Option Addr) (cap : Nat) (xs : List Value) (hc : Cur w p A cap xs) :
    Calls Tryz.prog 69 #[.pointer (some ⟨p, 0, none⟩)] w fun e w' => SomePair e ∧ Cur w' p A cap xs ∧ Turn p w w' := by
  have hr := Lib.hid (i64_all (l := [-1, 0, 359, 360, 9223372036854775807]) (by decide))
  have hp := hc.lt
  have hp2 : ¬ (w.heap.size = p) := by omega
  have k1 := Lib.hid (hc.alloc (.cells #[.int .i64 0, .int .i64 0] 115))
  have t1 := Lib.hid ((Turn.refl p w).alloc (.cells #[.int .i64 0, .int .i64 0] 115))
  have r1 : Hid (Blk (w.alloc (.cells #[.int .i64 0, .int .i64 0] 115)) w.heap.size 115 #[.int .i64 0, .int .i64 0]) := Lib.hid (Blk.new _ _ _)
  clear hc
  go_enter Tryz.func69, Tryz.ntmps69
  go_wp2_with fail
  refine (dangle _ _ _ _ _ k1.out).mono ?_
  rintro e w1 ⟨⟨f, hf, rfl⟩, c1, u1⟩
  clear hf
  have k2 := Lib.hid c1; have t2 := Lib.hid (t1.out.trans u1); have r2 := Lib.hid (u1.blk r1.out hp2)
  clear c1 u1 k1 t1 r1
  go_wp2_with fail
  refine (dbelow _ _ _ _ _ _ k2.out (by omega)).mono ?_
  rintro e w2 ⟨⟨d, hd, rfl⟩, c2, u2⟩
  have hd1 := hd.1 (by omega); clear hd
  have hs2 : ¬ (w2.heap.size = p) := by have := c2.lt; omega
  have hs3 : p < w2.heap.size := c2.lt
  have hR2 : w.heap.size < w2.heap.size := (u2.blk r2.out hp2).lt
  have k3 := Lib.hid (c2.alloc (.cells #[.int .i64 f, .int .i64 (d : Int)] 115))
  have t3 := Lib.hid ((t2.out.trans u2).alloc (.cells #[.int .i64 f, .int .i64 (d : Int)] 115))
  have r3 := Lib.hid ((u2.blk r2.out hp2).alloc (.cells #[.int .i64 f, .int .i64 (d : Int)] 115))
  have s3 : Hid (Blk (w2.alloc (.cells #[.int .i64 f, .int .i64 (d : Int)] 115)) w2.heap.size 115 #[.int .i64 f, .int .i64 (d : Int)]) := Lib.hid (Blk.new _ _ _)
  clear c2 u2 k2 t2 r2 hd1
  go_wp2_with fail
  refine (donce _ _ _ _ _ _ k3.out (by omega)).mono ?_
  rintro e w3 ⟨⟨b, rfl⟩, c3, u3⟩
  have k4 := Lib.hid c3; have t4 := Lib.hid (t3.out.trans u3); have r4 := Lib.hid (u3.blk r3.out hp2); have s4 := Lib.hid (u3.blk s3.out hs2)
  clear c3 u3 k3 t3 r3 s3
  cases b
  · have g0 : w3.cell? ⟨w2.heap.size, 0, none⟩ = some (.int .i64 f) := s4.out.cell 0
    have g1 : w3.cell? ⟨w2.heap.size, 1, none⟩ = some (.int .i64 (d : Int)) := s4.out.cell 1
    obtain ⟨m0, e2, e3, m1, n2, n0, n1, _, HC, HT⟩ := put_pair f (d : Int) hp (Nat.le_refl _) k4.out t4.out r4.out
    have HE2 := Lib.hid HC; have HE3 := Lib.hid HT
    clear HC HT k4 t4 r4 s4
    go_wp2
    (try simp only [Exit.inBlock, Exit.then])
    refine bodyPost_ret (by simp [results, Tryz.results69, go_sem, n2, n1]; try rfl) rfl ?_
    exact ⟨⟨_, _, rfl⟩, HE2.out, HE3.out⟩
  · go_wp2_with fail
    refine (dlist _ _ _ _ _ [-1, 0, 359, 360, 9223372036854775807] _ _ _ rfl rfl k4.out (by decide) (by decide) hr.out).mono ?_
    rintro e w4 ⟨⟨z, hz, rfl⟩, c4, u4⟩
    clear hz
    have s5 := (u4.blk s4.out hs2).set_ 1 (.int .i64 z)
    have ff := (u4.blk s4.out hs2).frozen 1
    have gc : w4.cell? ⟨w2.heap.size, 1, none⟩ = some (.int .i64 (d : Int)) := (u4.blk s4.out hs2).cell 1
    have R5 := (u4.blk r4.out hp2).far (p := ⟨w2.heap.size, 1, none⟩) (by simp; omega) (.int .i64 z)
    obtain ⟨C5, T5⟩ := put_far (w := w) ⟨w2.heap.size, 1, none⟩ (.int .i64 z) (by simpa using hs3) (by simp; omega) c4 (t4.out.trans u4)
    have g0 : (w4.setCell ⟨w2.heap.size, 1, none⟩ (.int .i64 z)).cell? ⟨w2.heap.size, 0, none⟩ = some (.int .i64 f) := s5.cell 0
    have g1 : (w4.setCell ⟨w2.heap.size, 1, none⟩ (.int .i64 z)).cell? ⟨w2.heap.size, 1, none⟩ = some (.int .i64 z) := s5.cell 1
    obtain ⟨m0, e2, e3, m1, n2, n0, n1, _, HC, HT⟩ := put_pair f z hp (Nat.le_refl _) C5 T5 R5
    have HE2 := Lib.hid HC; have HE3 := Lib.hid HT
    clear HC HT k4 t4 r4 s4 c4 u4 s5 R5 C5 T5
    go_wp2
    (try simp only [Exit.inBlock, Exit.then])
    refine bodyPost_ret (by simp [results, Tryz.results69, go_sem, n2, n1]; try rfl) rfl ?_
    exact ⟨⟨_, _, rfl⟩, HE2.out, HE3.out⟩
end Go.Proofs.YtlaigbhiligceaaGreatDoor
