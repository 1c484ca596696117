/- The contracts of chapter 4's draws: lists of spans. -/
import Derived.Test.YtmmnnbgfomcihaaDrawInts
import Derived.Test.YtmmnnbgfomcihaaDrawOwn
import Derived.Test.YtmmnnbgfomcihaaSpanPut
namespace Go.Proofs.Ytmmnnbgfomcihaa
open Go.ChangeShapes Go.WideShapes Go.ChangeAt Go.RowKit
set_option linter.unusedVariables false
set_option maxRecDepth 100000 in
theorem draw4 (w : World) (p : Nat) (A : Option Addr) (cap : Nat) (xs : List Value) (hc : Cur w p A cap xs) :
    Calls Try.prog 59 #[.pointer (some ⟨p, 0, none⟩)] w fun e w' => SomeI64 e ∧ Cur w' p A cap xs ∧ Turn p w w' := by
  have hr := Lib.hid (i64_all (l := [-1, 0, 1000, 1001, 9223372036854775807, -9223372036854775808]) (by decide))
  go_enter Try.func59, Try.ntmps59
  go_wp2_with fail
  refine (donce _ _ _ _ _ _ hc (by omega)).mono ?_
  rintro e w1 ⟨⟨b, rfl⟩, hc1, ht1⟩
  cases b
  · go_wp2_with fail
    refine (dbelow _ _ _ _ _ _ hc1 (by omega)).mono ?_
    rintro e w2 ⟨⟨x, hx, rfl⟩, hc2, ht2⟩
    have hx4 := hx.1 (by omega); clear hx
    have HF : Hid (SomeI64 (.returned (.int .i64 (x : Int)))) := Lib.hid ⟨x, by omega, rfl⟩
    clear hx4
    go_wp2
    go_ret
    exact ⟨HF.out, hc2, ht1.trans ht2⟩
  · go_wp2_with fail
    refine (dlist _ _ _ _ _ [-1, 0, 1000, 1001, 9223372036854775807, -9223372036854775808] _ _ _ rfl rfl hc1 (by decide) (by decide) hr.out).mono ?_
    rintro e w2 ⟨⟨z, hz, rfl⟩, hc2, ht2⟩
    have hb := Lib.hid (hr.out z hz)
    clear hz
    go_wp2
    go_ret
    exact ⟨⟨z, hb.out, rfl⟩, hc2, ht1.trans ht2⟩
/-- some span, as a value -/
def SomeSpan (e : Ending) : Prop := ∃ x y : Int, e = .returned (.agg #[.int .i64 x, .int .i64 y])
set_option maxRecDepth 100000 in
set_option maxHeartbeats 800000 in
theorem dany (w : World) (p : Nat) (A : Option Addr) (cap : Nat) (xs : List Value) (hc : Cur w p A cap xs) :
    Calls Try.prog 61 #[.pointer (some ⟨p, 0, none⟩)] w fun e w' => SomeSpan e ∧ Cur w' p A cap xs ∧ Turn p w w' := by
  have hz2 : (Try.prog.info? 60).map (·.size) = some 2 := by kernel_rfl
  have HZ2 := Lib.hid hz2; clear hz2
  have hp := hc.lt
  have hp2 : ¬ (w.heap.size = p) := by omega
  have k1 := Lib.hid (hc.alloc (.cells #[.int .i64 0, .int .i64 0] 60))
  have t1 := Lib.hid ((Turn.refl p w).alloc (.cells #[.int .i64 0, .int .i64 0] 60))
  have r1 : Hid (Blk (w.alloc (.cells #[.int .i64 0, .int .i64 0] 60)) w.heap.size 60 #[.int .i64 0, .int .i64 0]) := Lib.hid (Blk.new _ _ _)
  clear hc
  go_enter Try.func61, Try.ntmps61
  go_wp2_with fail
  refine (dbelow _ _ _ _ _ _ k1.out (by omega)).mono ?_
  rintro e w1 ⟨⟨f, hf, rfl⟩, c1, u1⟩
  have hf1 := hf.1 (by omega); clear hf
  have k2 := Lib.hid c1; have t2 := Lib.hid (t1.out.trans u1); have r2 := Lib.hid (u1.blk r1.out hp2)
  clear c1 u1 k1 t1 r1
  go_wp2_with fail
  refine (dbelow _ _ _ _ _ _ k2.out (by omega)).mono ?_
  rintro e w2 ⟨⟨d, hd, rfl⟩, c2, u2⟩
  have hd1 := hd.1 (by omega); clear hd
  have hs2 : ¬ (w2.heap.size = p) := by have := c2.lt; omega
  have hR2 : w.heap.size < w2.heap.size := (u2.blk r2.out hp2).lt
  have k3 := Lib.hid (c2.alloc (.cells #[.int .i64 (f : Int), .int .i64 ((f : Int) + 1 + (d : Int))] 60))
  have t3 := Lib.hid ((t2.out.trans u2).alloc (.cells #[.int .i64 (f : Int), .int .i64 ((f : Int) + 1 + (d : Int))] 60))
  have r3 := Lib.hid ((u2.blk r2.out hp2).alloc (.cells #[.int .i64 (f : Int), .int .i64 ((f : Int) + 1 + (d : Int))] 60))
  have s3 : Hid (Blk (w2.alloc (.cells #[.int .i64 (f : Int), .int .i64 ((f : Int) + 1 + (d : Int))] 60)) w2.heap.size 60 #[.int .i64 (f : Int), .int .i64 ((f : Int) + 1 + (d : Int))]) := Lib.hid (Blk.new _ _ _)
  clear c2 u2 k2 t2 r2
  go_wp2_with fail
  refine (dbelow _ _ _ _ _ _ k3.out (by omega)).mono ?_
  rintro e w3 ⟨⟨q, hq, rfl⟩, c3, u3⟩
  clear hq
  have k4 := Lib.hid c3; have t4 := Lib.hid (t3.out.trans u3); have r4 := Lib.hid (u3.blk r3.out hp2); have s4 := Lib.hid (u3.blk s3.out hs2)
  clear c3 u3 k3 t3 r3 s3 hf1 hd1
  -- what the end is, from whatever the span holds by now
  have END : Hid (∀ (w5 : World) (x y : Int), Cur w5 p A cap xs → Turn p w w5 → Blk w5 w.heap.size 60 #[.int .i64 0, .int .i64 0] →
      Blk ((w5.setCell ⟨w.heap.size, 0, none⟩ (.int .i64 x)).setCell ⟨w.heap.size, 1, none⟩ (.int .i64 y)) w.heap.size 60 #[.int .i64 x, .int .i64 y] ∧
      Cur ((w5.setCell ⟨w.heap.size, 0, none⟩ (.int .i64 x)).setCell ⟨w.heap.size, 1, none⟩ (.int .i64 y)) p A cap xs ∧ Turn p w ((w5.setCell ⟨w.heap.size, 0, none⟩ (.int .i64 x)).setCell ⟨w.heap.size, 1, none⟩ (.int .i64 y))) := by
    refine Lib.hid fun w5 x y hc ht hb => ⟨?_, ?_, ?_⟩
    · have h1 := (hb.set_ 0 (.int .i64 x)).set_ 1 (.int .i64 y)
      simpa using h1
    · exact hc.turned fun k hk => (Below.heap_setCell _ _ _ k (by simp; omega)).trans (Below.heap_setCell _ _ _ k (by simp; omega))
    · exact ⟨ht.os, ht.tape, ht.output, by simpa using ht.size, fun k hk hne => ((Below.heap_setCell _ _ _ k (by simp; omega)).trans (Below.heap_setCell _ _ _ k (by simp; omega))).trans (ht.block k hk hne)⟩
  have FAR : Hid (∀ (w5 : World) (a : Addr) (u : Value), Cur w5 p A cap xs → Turn p w w5 → w.heap.size < a.block → Cur (w5.setCell a u) p A cap xs ∧ Turn p w (w5.setCell a u)) := by
    refine Lib.hid fun w5 a u hc ht hb => ⟨?_, ?_⟩
    · exact hc.turned fun k hk => Below.heap_setCell _ _ _ k (by omega)
    · exact ⟨ht.os, ht.tape, ht.output, by simpa using ht.size, fun k hk hne => (Below.heap_setCell _ _ _ k (by omega)).trans (ht.block k hk hne)⟩
  by_cases q0 : q = 0
  · subst q0
    go_wp2_with fail
    refine (draw4 _ _ _ _ _ k4.out).mono ?_
    rintro e w4 ⟨⟨z, hz, rfl⟩, c4, u4⟩
    clear hz
    have s5 := (u4.blk s4.out hs2).set_ 0 (.int .i64 z)
    have ff := (u4.blk s4.out hs2).frozen 0
    have gc : w4.cell? ⟨w2.heap.size, 0, none⟩ = some (.int .i64 (f : Int)) := (u4.blk s4.out hs2).cell 0
    have hlt4 := (u4.blk s4.out hs2).lt
    have R5 := (u4.blk r4.out hp2).far (p := ⟨w2.heap.size, 0, none⟩) (by simp; omega) (.int .i64 z)
    have C5 := FAR.out w4 ⟨w2.heap.size, 0, none⟩ (.int .i64 z) c4 (t4.out.trans u4) (by simp; omega)
    obtain ⟨C5, T5⟩ := C5
    clear k4 t4 r4 s4 c4 u4
    have e0 : (w4.setCell ⟨w2.heap.size, 0, none⟩ (.int .i64 z)).cell? ⟨w2.heap.size, 0, none⟩ = some (.int .i64 z) := s5.cell 0
    have e1 : (w4.setCell ⟨w2.heap.size, 0, none⟩ (.int .i64 z)).cell? ⟨w2.heap.size, 1, none⟩ = some (.int .i64 ((f : Int) + 1 + (d : Int))) := s5.cell 1
    obtain ⟨E1, E2, E3⟩ := END.out (w4.setCell ⟨w2.heap.size, 0, none⟩ (.int .i64 z)) z ((f : Int) + 1 + (d : Int)) C5 T5 R5
    have m0 := R5.frozen 0
    have e2 : (w4.setCell ⟨w2.heap.size, 0, none⟩ (.int .i64 z)).cell? ⟨w.heap.size, 0, none⟩ = some (.int .i64 0) := R5.cell 0
    have e3 : ((w4.setCell ⟨w2.heap.size, 0, none⟩ (.int .i64 z)).setCell ⟨w.heap.size, 0, none⟩ (.int .i64 z)).cell? ⟨w.heap.size, 1, none⟩ = some (.int .i64 0) := (R5.set_ 0 _).cell 1
    have m1 : ((w4.setCell ⟨w2.heap.size, 0, none⟩ (.int .i64 z)).setCell ⟨w.heap.size, 0, none⟩ (.int .i64 z)).frozen? ⟨w.heap.size, 1, none⟩ = false := (R5.set_ 0 _).frozen 1
    have n2 : ((w4.setCell ⟨w2.heap.size, 0, none⟩ (.int .i64 z)).setCell ⟨w.heap.size, 0, none⟩ (.int .i64 z)).cell? ⟨w.heap.size, 0, none⟩ = some (.int .i64 z) := (R5.set_ 0 _).cell 0
    have n0 : (((w4.setCell ⟨w2.heap.size, 0, none⟩ (.int .i64 z)).setCell ⟨w.heap.size, 0, none⟩ (.int .i64 z)).setCell ⟨w.heap.size, 1, none⟩ (.int .i64 ((f : Int) + 1 + (d : Int)))).cell? ⟨w.heap.size, 0, none⟩ = some (.int .i64 z) := E1.cell 0
    have n1 : (((w4.setCell ⟨w2.heap.size, 0, none⟩ (.int .i64 z)).setCell ⟨w.heap.size, 0, none⟩ (.int .i64 z)).setCell ⟨w.heap.size, 1, none⟩ (.int .i64 ((f : Int) + 1 + (d : Int)))).cell? ⟨w.heap.size, 1, none⟩ = some (.int .i64 ((f : Int) + 1 + (d : Int))) := E1.cell 1
    have HE2 := Lib.hid E2; have HE3 := Lib.hid E3
    clear E1 E2 E3 s5 C5 T5 R5 END
    go_wp2
    (try simp only [Exit.inBlock, Exit.then])
    refine bodyPost_ret (by simp [results, Try.results61, go_sem, n2, n1]; try rfl) rfl ?_
    exact ⟨⟨_, _, rfl⟩, HE2.out, HE3.out⟩
  · have q0' : ((q : Int) == 0) = false := by simp; omega
    by_cases q1 : q = 1
    · subst q1
      go_wp2_with fail
      refine (draw4 _ _ _ _ _ k4.out).mono ?_
      rintro e w4 ⟨⟨z, hz, rfl⟩, c4, u4⟩
      clear hz
      have s5 := (u4.blk s4.out hs2).set_ 1 (.int .i64 z)
      have ff := (u4.blk s4.out hs2).frozen 1
      have gc : w4.cell? ⟨w2.heap.size, 1, none⟩ = some (.int .i64 ((f : Int) + 1 + (d : Int))) := (u4.blk s4.out hs2).cell 1
      have hlt4 := (u4.blk s4.out hs2).lt
      have R5 := (u4.blk r4.out hp2).far (p := ⟨w2.heap.size, 1, none⟩) (by simp; omega) (.int .i64 z)
      have C5 := FAR.out w4 ⟨w2.heap.size, 1, none⟩ (.int .i64 z) c4 (t4.out.trans u4) (by simp; omega)
      obtain ⟨C5, T5⟩ := C5
      clear k4 t4 r4 s4 c4 u4
      have e0 : (w4.setCell ⟨w2.heap.size, 1, none⟩ (.int .i64 z)).cell? ⟨w2.heap.size, 0, none⟩ = some (.int .i64 (f : Int)) := s5.cell 0
      have e1 : (w4.setCell ⟨w2.heap.size, 1, none⟩ (.int .i64 z)).cell? ⟨w2.heap.size, 1, none⟩ = some (.int .i64 z) := s5.cell 1
      obtain ⟨E1, E2, E3⟩ := END.out (w4.setCell ⟨w2.heap.size, 1, none⟩ (.int .i64 z)) (f : Int) z C5 T5 R5
      have m0 := R5.frozen 0
      have e2 : (w4.setCell ⟨w2.heap.size, 1, none⟩ (.int .i64 z)).cell? ⟨w.heap.size, 0, none⟩ = some (.int .i64 0) := R5.cell 0
      have e3 : ((w4.setCell ⟨w2.heap.size, 1, none⟩ (.int .i64 z)).setCell ⟨w.heap.size, 0, none⟩ (.int .i64 (f : Int))).cell? ⟨w.heap.size, 1, none⟩ = some (.int .i64 0) := (R5.set_ 0 _).cell 1
      have m1 : ((w4.setCell ⟨w2.heap.size, 1, none⟩ (.int .i64 z)).setCell ⟨w.heap.size, 0, none⟩ (.int .i64 (f : Int))).frozen? ⟨w.heap.size, 1, none⟩ = false := (R5.set_ 0 _).frozen 1
      have n2 : ((w4.setCell ⟨w2.heap.size, 1, none⟩ (.int .i64 z)).setCell ⟨w.heap.size, 0, none⟩ (.int .i64 (f : Int))).cell? ⟨w.heap.size, 0, none⟩ = some (.int .i64 (f : Int)) := (R5.set_ 0 _).cell 0
      have n0 : (((w4.setCell ⟨w2.heap.size, 1, none⟩ (.int .i64 z)).setCell ⟨w.heap.size, 0, none⟩ (.int .i64 (f : Int))).setCell ⟨w.heap.size, 1, none⟩ (.int .i64 z)).cell? ⟨w.heap.size, 0, none⟩ = some (.int .i64 (f : Int)) := E1.cell 0
      have n1 : (((w4.setCell ⟨w2.heap.size, 1, none⟩ (.int .i64 z)).setCell ⟨w.heap.size, 0, none⟩ (.int .i64 (f : Int))).setCell ⟨w.heap.size, 1, none⟩ (.int .i64 z)).cell? ⟨w.heap.size, 1, none⟩ = some (.int .i64 z) := E1.cell 1
      have HE2 := Lib.hid E2; have HE3 := Lib.hid E3
      clear E1 E2 E3 s5 C5 T5 R5 END
      go_wp2
      (try simp only [Exit.inBlock, Exit.then])
      refine bodyPost_ret (by simp [results, Try.results61, go_sem, n2, n1]; try rfl) rfl ?_
      exact ⟨⟨_, _, rfl⟩, HE2.out, HE3.out⟩
    · have q1' : ((q : Int) == 1) = false := by simp; omega
      have s5 := s4.out
      have R5 := r4.out
      have C5 := k4.out
      have T5 := t4.out
      clear k4 t4 r4 s4
      have e0 : (w3).cell? ⟨w2.heap.size, 0, none⟩ = some (.int .i64 (f : Int)) := s5.cell 0
      have e1 : (w3).cell? ⟨w2.heap.size, 1, none⟩ = some (.int .i64 ((f : Int) + 1 + (d : Int))) := s5.cell 1
      obtain ⟨E1, E2, E3⟩ := END.out (w3) (f : Int) ((f : Int) + 1 + (d : Int)) C5 T5 R5
      have m0 := R5.frozen 0
      have e2 : (w3).cell? ⟨w.heap.size, 0, none⟩ = some (.int .i64 0) := R5.cell 0
      have e3 : ((w3).setCell ⟨w.heap.size, 0, none⟩ (.int .i64 (f : Int))).cell? ⟨w.heap.size, 1, none⟩ = some (.int .i64 0) := (R5.set_ 0 _).cell 1
      have m1 : ((w3).setCell ⟨w.heap.size, 0, none⟩ (.int .i64 (f : Int))).frozen? ⟨w.heap.size, 1, none⟩ = false := (R5.set_ 0 _).frozen 1
      have n2 : ((w3).setCell ⟨w.heap.size, 0, none⟩ (.int .i64 (f : Int))).cell? ⟨w.heap.size, 0, none⟩ = some (.int .i64 (f : Int)) := (R5.set_ 0 _).cell 0
      have n0 : (((w3).setCell ⟨w.heap.size, 0, none⟩ (.int .i64 (f : Int))).setCell ⟨w.heap.size, 1, none⟩ (.int .i64 ((f : Int) + 1 + (d : Int)))).cell? ⟨w.heap.size, 0, none⟩ = some (.int .i64 (f : Int)) := E1.cell 0
      have n1 : (((w3).setCell ⟨w.heap.size, 0, none⟩ (.int .i64 (f : Int))).setCell ⟨w.heap.size, 1, none⟩ (.int .i64 ((f : Int) + 1 + (d : Int)))).cell? ⟨w.heap.size, 1, none⟩ = some (.int .i64 ((f : Int) + 1 + (d : Int))) := E1.cell 1
      have HE2 := Lib.hid E2; have HE3 := Lib.hid E3
      clear E1 E2 E3 s5 C5 T5 R5 END
      go_wp2
      (try simp only [Exit.inBlock, Exit.then])
      refine bodyPost_ret (by simp [results, Try.results61, go_sem, n2, n1]; try rfl) rfl ?_
      exact ⟨⟨_, _, rfl⟩, HE2.out, HE3.out⟩
end Go.Proofs.Ytmmnnbgfomcihaa
