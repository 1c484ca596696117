/- The contracts of chapter 4's draws: lists of spans. -/
import Derived.Test.YtnonlmgjbmllnaaDrawInts
import Derived.Test.YtnonlmgjbmllnaaDrawOwn
import Derived.Test.YtnonlmgjbmllnaaSpanModel
namespace Go.Proofs.Ytnonlmgjbmllnaa
open Go.ChangeShapes Go.WideShapes Go.ChangeAt Go.RowKit
set_option linter.unusedVariables false
set_option maxRecDepth 100000 in
theorem draw4 (w : World) (p : Nat) (A : Option Addr) (cap : Nat) (xs : List Value) (hc : Cur w p A cap xs) :
    Calls Try.prog 45 #[.pointer (some ⟨p, 0, none⟩)] w fun e w' => SomeI64 e ∧ Cur w' p A cap xs ∧ Turn p w w' := by
  have hr := Lib.hid (i64_all (l := [-1, 0, 1000, 1001, 9223372036854775807, -9223372036854775808]) (by decide))
  go_enter Try.func45, Try.ntmps45
  go_wp2_with fail
  refine (donce _ _ _ _ _ _ hc (by omega)).mono ?_
  rintro e w1 ⟨⟨b, rfl⟩, hc1, ht1⟩
  cases b
  · go_wp2_with fail
    refine (dbelow _ _ _ _ _ _ hc1 (by omega)).mono ?_
    rintro e w2 ⟨⟨x, hx, rfl⟩, hc2, ht2⟩
    have hx4 := hx.1 (by omega); clear hx
    have HF : Hid (SomeI64 (.returned (.int .i64 (x : Int)))) := Lib.hid ⟨x, by omega, rfl⟩
    clear hx4
    go_wp2
    go_ret
    exact ⟨HF.out, hc2, ht1.trans ht2⟩
  · go_wp2_with fail
    refine (dlist _ _ _ _ _ [-1, 0, 1000, 1001, 9223372036854775807, -9223372036854775808] _ _ _ rfl rfl hc1 (by decide) (by decide) hr.out).mono ?_
    rintro e w2 ⟨⟨z, hz, rfl⟩, hc2, ht2⟩
    have hb := Lib.hid (hr.out z hz)
    clear hz
    go_wp2
    go_ret
    exact ⟨⟨z, hb.out, rfl⟩, hc2, ht1.trans ht2⟩
/-- some span, as a value -/
def SomeSpan (e : Ending) : Prop := ∃ x y : Int, e = .returned (.agg #[.int .i64 x, .int .i64 y])
set_option maxRecDepth 100000 in
set_option maxHeartbeats 800000 in
theorem dany (w : World) (p : Nat) (A : Option Addr) (cap : Nat) (xs : List Value) (hc : Cur w p A cap xs) :
    Calls Try.prog 55 #[.pointer (some ⟨p, 0, none⟩)] w fun e w' => SomeSpan e ∧ Cur w' p A cap xs ∧ Turn p w w' := by
  have hz2 : (Try.prog.info? 34).map (·.size) = some 2 := by kernel_rfl
  have HZ2 := Lib.hid hz2; clear hz2
  have hp := hc.lt
  have hp2 : ¬ (w.heap.size = p) := by omega
  have k1 := Lib.hid (hc.alloc (.cells #[.int .i64 0, .int .i64 0] 34))
  have t1 := Lib.hid ((Turn.refl p w).alloc (.cells #[.int .i64 0, .int .i64 0] 34))
  have r1 : Hid (Blk (w.alloc (.cells #[.int .i64 0, .int .i64 0] 34)) w.heap.size 34 #[.int .i64 0, .int .i64 0]) := Lib.hid (Blk.new _ _ _)
  clear hc
  go_enter Try.func55, Try.ntmps55
  go_wp2_with fail
  refine (dbelow _ _ _ _ _ _ k1.out (by omega)).mono ?_
  rintro e w1 ⟨⟨f, hf, rfl⟩, c1, u1⟩
  have hf1 := hf.1 (by omega); clear hf
  have k2 := Lib.hid c1; have t2 := Lib.hid (t1.out.trans u1); have r2 := Lib.hid (u1.blk r1.out hp2)
  clear c1 u1 k1 t1 r1
  go_wp2_with fail
  refine (dbelow _ _ _ _ _ _ k2.out (by omega)).mono ?_
  rintro e w2 ⟨⟨d, hd, rfl⟩, c2, u2⟩
  have hd1 := hd.1 (by omega); clear hd
  have hs2 : ¬ (w2.heap.size = p) := by have := c2.lt; omega
  have hR2 : w.heap.size < w2.heap.size := (u2.blk r2.out hp2).lt
  have k3 := Lib.hid (c2.alloc (.cells #[.int .i64 (f : Int), .int .i64 ((f : Int) + 1 + (d : Int))] 34))
  have t3 := Lib.hid ((t2.out.trans u2).alloc (.cells #[.int .i64 (f : Int), .int .i64 ((f : Int) + 1 + (d : Int))] 34))
  have r3 := Lib.hid ((u2.blk r2.out hp2).alloc (.cells #[.int .i64 (f : Int), .int .i64 ((f : Int) + 1 + (d : Int))] 34))
  have s3 : Hid (Blk (w2.alloc (.cells #[.int .i64 (f : Int), .int .i64 ((f : Int) + 1 + (d : Int))] 34)) w2.heap.size 34 #[.int .i64 (f : Int), .int .i64 ((f : Int) + 1 + (d : Int))]) := Lib.hid (Blk.new _ _ _)
  clear c2 u2 k2 t2 r2
  go_wp2_with fail
  refine (dbelow _ _ _ _ _ _ k3.out (by omega)).mono ?_
  rintro e w3 ⟨⟨q, hq, rfl⟩, c3, u3⟩
  clear hq
  have k4 := Lib.hid c3; have t4 := Lib.hid (t3.out.trans u3); have r4 := Lib.hid (u3.blk r3.out hp2); have s4 := Lib.hid (u3.blk s3.out hs2)
  clear c3 u3 k3 t3 r3 s3 hf1 hd1
  -- what the end is, from whatever the span holds by now
  have END : Hid (∀ (w5 : World) (x y : Int), Cur w5 p A cap xs → Turn p w w5 → Blk w5 w.heap.size 34 #[.int .i64 0, .int .i64 0] →
      Blk ((w5.setCell ⟨w.heap.size, 0, none⟩ (.int .i64 x)).setCell ⟨w.heap.size, 1, none⟩ (.int .i64 y)) w.heap.size 34 #[.int .i64 x, .int .i64 y] ∧
      Cur ((w5.setCell ⟨w.heap.size, 0, none⟩ (.int .i64 x)).setCell ⟨w.heap.size, 1, none⟩ (.int .i64 y)) p A cap xs ∧ Turn p w ((w5.setCell ⟨w.heap.size, 0, none⟩ (.int .i64 x)).setCell ⟨w.heap.size, 1, none⟩ (.int .i64 y))) := by
    refine Lib.hid fun w5 x y hc ht hb => ⟨?_, ?_, ?_⟩
    · have h1 := (hb.set_ 0 (.int .i64 x)).set_ 1 (.int .i64 y)
      simpa using h1
    · exact hc.turned fun k hk => (Below.heap_setCell _ _ _ k (by simp; omega)).trans (Below.heap_setCell _ _ _ k (by simp; omega))
    · exact ⟨ht.os, ht.tape, ht.output, by simpa using ht.size, fun k hk hne => ((Below.heap_setCell _ _ _ k (by simp; omega)).trans (Below.heap_setCell _ _ _ k (by simp; omega))).trans (ht.block k hk hne)⟩
  have FAR : Hid (∀ (w5 : World) (a : Addr) (u : Value), Cur w5 p A cap xs → Turn p w w5 → w.heap.size < a.block → Cur (w5.setCell a u) p A cap xs ∧ Turn p w (w5.setCell a u)) := by
    refine Lib.hid fun w5 a u hc ht hb => ⟨?_, ?_⟩
    · exact hc.turned fun k hk => Below.heap_setCell _ _ _ k (by omega)
    · exact ⟨ht.os, ht.tape, ht.output, by simpa using ht.size, fun k hk hne => (Below.heap_setCell _ _ _ k (by omega)).trans (ht.block k hk hne)⟩
  by_cases q0 : q = 0
  · subst q0
    go_wp2_with fail
    refine (draw4 _ _ _ _ _ k4.out).mono ?_
    rintro e w4 ⟨⟨z, hz, rfl⟩, c4, u4⟩
    clear hz
    have s5 := (u4.blk s4.out hs2).set_ 0 (.int .i64 z)
    have ff := (u4.blk s4.out hs2).frozen 0
    have gc : w4.cell? ⟨w2.heap.size, 0, none⟩ = some (.int .i64 (f : Int)) := (u4.blk s4.out hs2).cell 0
    have hlt4 := (u4.blk s4.out hs2).lt
    have R5 := (u4.blk r4.out hp2).far (p := ⟨w2.heap.size, 0, none⟩) (by simp; omega) (.int .i64 z)
    have C5 := FAR.out w4 ⟨w2.heap.size, 0, none⟩ (.int .i64 z) c4 (t4.out.trans u4) (by simp; omega)
    obtain ⟨C5, T5⟩ := C5
    clear k4 t4 r4 s4 c4 u4
    have e0 : (w4.setCell ⟨w2.heap.size, 0, none⟩ (.int .i64 z)).cell? ⟨w2.heap.size, 0, none⟩ = some (.int .i64 z) := s5.cell 0
    have e1 : (w4.setCell ⟨w2.heap.size, 0, none⟩ (.int .i64 z)).cell? ⟨w2.heap.size, 1, none⟩ = some (.int .i64 ((f : Int) + 1 + (d : Int))) := s5.cell 1
    obtain ⟨E1, E2, E3⟩ := END.out (w4.setCell ⟨w2.heap.size, 0, none⟩ (.int .i64 z)) z ((f : Int) + 1 + (d : Int)) C5 T5 R5
    have m0 := R5.frozen 0
    have e2 : (w4.setCell ⟨w2.heap.size, 0, none⟩ (.int .i64 z)).cell? ⟨w.heap.size, 0, none⟩ = some (.int .i64 0) := R5.cell 0
    have e3 : ((w4.setCell ⟨w2.heap.size, 0, none⟩ (.int .i64 z)).setCell ⟨w.heap.size, 0, none⟩ (.int .i64 z)).cell? ⟨w.heap.size, 1, none⟩ = some (.int .i64 0) := (R5.set_ 0 _).cell 1
    have m1 : ((w4.setCell ⟨w2.heap.size, 0, none⟩ (.int .i64 z)).setCell ⟨w.heap.size, 0, none⟩ (.int .i64 z)).frozen? ⟨w.heap.size, 1, none⟩ = false := (R5.set_ 0 _).frozen 1
    have n2 : ((w4.setCell ⟨w2.heap.size, 0, none⟩ (.int .i64 z)).setCell ⟨w.heap.size, 0, none⟩ (.int .i64 z)).cell? ⟨w.heap.size, 0, none⟩ = some (.int .i64 z) := (R5.set_ 0 _).cell 0
    have n0 : (((w4.setCell ⟨w2.heap.size, 0, none⟩ (.int .i64 z)).setCell ⟨w.heap.size, 0, none⟩ (.int .i64 z)).setCell ⟨w.heap.size, 1, none⟩ (.int .i64 ((f : Int) + 1 + (d : Int)))).cell? ⟨w.heap.size, 0, none⟩ = some (.int .i64 z) := E1.cell 0
    have n1 : (((w4.setCell ⟨w2.heap.size, 0, none⟩ (.int .i64 z)).setCell ⟨w.heap.size, 0, none⟩ (.int .i64 z)).setCell ⟨w.heap.size, 1, none⟩ (.int .i64 ((f : Int) + 1 + (d : Int)))).cell? ⟨w.heap.size, 1, none⟩ = some (.int .i64 ((f : Int) + 1 + (d : Int))) := E1.cell 1
    have HE2 := Lib.hid E2; have HE3 := Lib.hid E3
    clear E1 E2 E3 s5 C5 T5 R5 END
    go_wp2
    (try simp only [Exit.inBlock, Exit.then])
    refine bodyPost_ret (by simp [results, Try.results55, go_sem, n2, n1]; try rfl) rfl ?_
    exact ⟨⟨_, _, rfl⟩, HE2.out, HE3.out⟩
  · have q0' : ((q : Int) == 0) = false := by simp; omega
    by_cases q1 : q = 1
    · subst q1
      go_wp2_with fail
      refine (draw4 _ _ _ _ _ k4.out).mono ?_
      rintro e w4 ⟨⟨z, hz, rfl⟩, c4, u4⟩
      clear hz
      have s5 := (u4.blk s4.out hs2).set_ 1 (.int .i64 z)
      have ff := (u4.blk s4.out hs2).frozen 1
      have gc : w4.cell? ⟨w2.heap.size, 1, none⟩ = some (.int .i64 ((f : Int) + 1 + (d : Int))) := (u4.blk s4.out hs2).cell 1
      have hlt4 := (u4.blk s4.out hs2).lt
      have R5 := (u4.blk r4.out hp2).far (p := ⟨w2.heap.size, 1, none⟩) (by simp; omega) (.int .i64 z)
      have C5 := FAR.out w4 ⟨w2.heap.size, 1, none⟩ (.int .i64 z) c4 (t4.out.trans u4) (by simp; omega)
      obtain ⟨C5, T5⟩ := C5
      clear k4 t4 r4 s4 c4 u4
      have e0 : (w4.setCell ⟨w2.heap.size, 1, none⟩ (.int .i64 z)).cell? ⟨w2.heap.size, 0, none⟩ = some (.int .i64 (f : Int)) := s5.cell 0
      have e1 : (w4.setCell ⟨w2.heap.size, 1, none⟩ (.int .i64 z)).cell? ⟨w2.heap.size, 1, none⟩ = some (.int .i64 z) := s5.cell 1
      obtain ⟨E1, E2, E3⟩ := END.out (w4.setCell ⟨w2.heap.size, 1, none⟩ (.int .i64 z)) (f : Int) z C5 T5 R5
      have m0 := R5.frozen 0
      have e2 : (w4.setCell ⟨w2.heap.size, 1, none⟩ (.int .i64 z)).cell? ⟨w.heap.size, 0, none⟩ = some (.int .i64 0) := R5.cell 0
      have e3 : ((w4.setCell ⟨w2.heap.size, 1, none⟩ (.int .i64 z)).setCell ⟨w.heap.size, 0, none⟩ (.int .i64 (f : Int))).cell? ⟨w.heap.size, 1, none⟩ = some (.int .i64 0) := (R5.set_ 0 _).cell 1
      have m1 : ((w4.setCell ⟨w2.heap.size, 1, none⟩ (.int .i64 z)).setCell ⟨w.heap.size, 0, none⟩ (.int .i64 (f : Int))).frozen? ⟨w.heap.size, 1, none⟩ = false := (R5.set_ 0 _).frozen 1
      have n2 : ((w4.setCell ⟨w2.heap.size, 1, none⟩ (.int .i64 z)).setCell ⟨w.heap.size, 0, none⟩ (.int .i64 (f : Int))).cell? ⟨w.heap.size, 0, none⟩ = some (.int .i64 (f : Int)) := (R5.set_ 0 _).cell 0
      have n0 : (((w4.setCell ⟨w2.heap.size, 1, none⟩ (.int .i64 z)).setCell ⟨w.heap.size, 0, none⟩ (.int .i64 (f : Int))).setCell ⟨w.heap.size, 1, none⟩ (.int .i64 z)).cell? ⟨w.heap.size, 0, none⟩ = some (.int .i64 (f : Int)) := E1.cell 0
      have n1 : (((w4.setCell ⟨w2.heap.size, 1, none⟩ (.int .i64 z)).setCell ⟨w.heap.size, 0, none⟩ (.int .i64 (f : Int))).setCell ⟨w.heap.size, 1, none⟩ (.int .i64 z)).cell? ⟨w.heap.size, 1, none⟩ = some (.int .i64 z) := E1.cell 1
      have HE2 := Lib.hid E2; have HE3 := Lib.hid E3
      clear E1 E2 E3 s5 C5 T5 R5 END
      go_wp2
      (try simp only [Exit.inBlock, Exit.then])
      refine bodyPost_ret (by simp [results, Try.results55, go_sem, n2, n1]; try rfl) rfl ?_
      exact ⟨⟨_, _, rfl⟩, HE2.out, HE3.out⟩
    · have q1' : ((q : Int) == 1) = false := by simp; omega
      have s5 := s4.out
      have R5 := r4.out
      have C5 := k4.out
      have T5 := t4.out
      clear k4 t4 r4 s4
      have e0 : (w3).cell? ⟨w2.heap.size, 0, none⟩ = some (.int .i64 (f : Int)) := s5.cell 0
      have e1 : (w3).cell? ⟨w2.heap.size, 1, none⟩ = some (.int .i64 ((f : Int) + 1 + (d : Int))) := s5.cell 1
      obtain ⟨E1, E2, E3⟩ := END.out (w3) (f : Int) ((f : Int) + 1 + (d : Int)) C5 T5 R5
      have m0 := R5.frozen 0
      have e2 : (w3).cell? ⟨w.heap.size, 0, none⟩ = some (.int .i64 0) := R5.cell 0
      have e3 : ((w3).setCell ⟨w.heap.size, 0, none⟩ (.int .i64 (f : Int))).cell? ⟨w.heap.size, 1, none⟩ = some (.int .i64 0) := (R5.set_ 0 _).cell 1
      have m1 : ((w3).setCell ⟨w.heap.size, 0, none⟩ (.int .i64 (f : Int))).frozen? ⟨w.heap.size, 1, none⟩ = false := (R5.set_ 0 _).frozen 1
      have n2 : ((w3).setCell ⟨w.heap.size, 0, none⟩ (.int .i64 (f : Int))).cell? ⟨w.heap.size, 0, none⟩ = some (.int .i64 (f : Int)) := (R5.set_ 0 _).cell 0
      have n0 : (((w3).setCell ⟨w.heap.size, 0, none⟩ (.int .i64 (f : Int))).setCell ⟨w.heap.size, 1, none⟩ (.int .i64 ((f : Int) + 1 + (d : Int)))).cell? ⟨w.heap.size, 0, none⟩ = some (.int .i64 (f : Int)) := E1.cell 0
      have n1 : (((w3).setCell ⟨w.heap.size, 0, none⟩ (.int .i64 (f : Int))).setCell ⟨w.heap.size, 1, none⟩ (.int .i64 ((f : Int) + 1 + (d : Int)))).cell? ⟨w.heap.size, 1, none⟩ = some (.int .i64 ((f : Int) + 1 + (d : Int))) := E1.cell 1
      have HE2 := Lib.hid E2; have HE3 := Lib.hid E3
      clear E1 E2 E3 s5 C5 T5 R5 END
      go_wp2
      (try simp only [Exit.inBlock, Exit.then])
      refine bodyPost_ret (by simp [results, Try.results55, go_sem, n2, n1]; try rfl) rfl ?_
      exact ⟨⟨_, _, rfl⟩, HE2.out, HE3.out⟩
/-- a list of spans of one's own, as a value -/
def OwnSpans (B : Nat) (e : Ending) (w' : World) : Prop := ∃ (A' : Option Addr) (n' c' : Nat) (l : List (Int × Int)), e = .returned (.slice A' n' c') ∧ n' ≤ 4 ∧ Own w' B 34 2 A' n' c' (sv l)
set_option maxRecDepth 100000 in
set_option maxHeartbeats 800000 in
theorem dspans (w : World) (p : Nat) (A : Option Addr) (cap : Nat) (xs : List Value) (hc : Cur w p A cap xs) :
    Calls Try.prog 42 #[.pointer (some ⟨p, 0, none⟩)] w fun e w' => OwnSpans w.heap.size e w' ∧ Cur w' p A cap xs ∧ Turn p w w' := by
  obtain ⟨i0, hi, hy0, hy1, hy2⟩ := info_parts span_info
  have hp := hc.lt
  have H0 : Hid (Own (w.alloc (.cells #[] 34)) w.heap.size 34 2 (some ⟨w.heap.size, 0, none⟩) 0 0 (sv [])) := Lib.hid (Own.made0 w w.heap.size _ (Nat.le_refl _))
  have HC0 := Lib.hid (hc.alloc (.cells #[] 34))
  have HT0 := Lib.hid ((Turn.refl p w).alloc (.cells #[] 34))
  clear hc
  go_enter Try.func42, Try.ntmps42
  go_wp2_with fail
  refine (dbelow _ _ _ _ _ _ HC0.out (by omega)).mono ?_
  rintro e w1 ⟨⟨x, hx, rfl⟩, hc1, ht1⟩
  have hx5 := hx.1 (by omega); clear hx
  have H1 := Lib.hid (H0.out.turn ht1 hp); have HC1 := Lib.hid hc1; have HT1 := Lib.hid (HT0.out.trans ht1)
  clear hc1 ht1 H0 HC0 HT0
  go_wp2_with fail
  go_loopw [3, 4] (fun v i wr => ∃ (k j : Nat) (A1 : Option Addr) (c1 : Nat) (l : List (Int × Int)), k + j = x ∧ i = .int .i64 j ∧ v = .slice A1 k c1 ∧ Own wr w.heap.size 34 2 A1 k c1 (sv l) ∧ Cur wr p A cap xs ∧ Turn p w wr) (fun _ i _ => (intOf i).toNat)
  case atStart => exact ⟨0, x, _, _, [], by omega, rfl, rfl, H1.out, HC1.out, HT1.out⟩
  case round =>
    clear H1 HC1 HT1
    obtain ⟨k, j, A1, c1, l, hkj, rfl, rfl, ho, hc, ht⟩ := hrel
    have HO := Lib.hid ho; have HC := Lib.hid hc; have HT := Lib.hid ht
    clear ho hc ht
    by_cases hlt : 0 < j
    · obtain ⟨j, rfl⟩ : ∃ j', j = j' + 1 := ⟨j - 1, by omega⟩
      go_wp2_with fail
      refine (dany _ _ _ _ _ HC.out).mono ?_
      rintro e w4 ⟨⟨a, b, rfl⟩, hc4, ht4⟩
      have HO1 := Lib.hid ((HO.out.turn ht4 hp).on ((Below.refl w4.heap.size w4).alloc (Nat.le_refl _) (.cells #[.int .i64 a, .int .i64 b] 34)))
      have HC1 := Lib.hid (hc4.alloc (.cells #[.int .i64 a, .int .i64 b] 34))
      have HT1 := Lib.hid ((HT.out.trans ht4).alloc (.cells #[.int .i64 a, .int .i64 b] 34))
      have hsz4 : w.heap.size ≤ w4.heap.size := (HT.out.trans ht4).size
      clear hc4 ht4
      go_wp2_with (at_builtin; refine wpList_append_sl _ rfl (.tmp 12) (.tmp 15) 24 rfl w.heap.size 34 i0 _ 2 16 Try.underlying24 hi hy0 hy1 hy2 rfl (by omega) A1 k c1 (sv l) rfl HO1.out (w4.heap.size + 1) _ 1 1 [.int .i64 a, .int .i64 b] rfl (Sl.one2 w4 _ _ _) (by simp [Value.oneCell']) (by omega) (by omega) (by simp; omega) ?_; intro A3 c3 w5 hown3 hg3 hat3)
      have HO3 : Hid (Own w5 w.heap.size 34 2 A3 (k + 1) c3 (sv (l ++ [(a, b)]))) := Lib.hid (by rw [sv_app]; exact hown3)
      have HC3 := Lib.hid (HC1.out.grown HO1.out hp hg3)
      have HT3 := Lib.hid (HT1.out.grown HO1.out hg3)
      clear hown3 hg3 hat3 HO HO1 HC HC1 HT HT1
      go_wp2
      go_roundw
      case rel => exact ⟨k + 1, j, A3, c3, _, by omega, by go_num, rfl, HO3.out, HC3.out, HT3.out⟩
      case measure => simp [intOf]
    · obtain rfl : j = 0 := by omega
      have HF : Hid (OwnSpans w.heap.size (.returned (.slice A1 k c1)) wr) := Lib.hid ⟨A1, k, c1, l, rfl, by omega, HO.out⟩
      clear HO
      go_wp2
      go_ret
      exact ⟨HF.out, HC.out, HT.out⟩
/-- two lists of spans of one's own, as a pair -/
def OwnSpans2 (B : Nat) (e : Ending) (w' : World) : Prop := ∃ (A1 : Option Addr) (n1 c1 : Nat) (l1 : List (Int × Int)) (A2 : Option Addr) (n2 c2 : Nat) (l2 : List (Int × Int)),
  e = .returned (.tuple #[.slice A1 n1 c1, .slice A2 n2 c2]) ∧ n1 ≤ 4 ∧ n2 ≤ 4 ∧ Own w' B 34 2 A1 n1 c1 (sv l1) ∧ Own w' B 34 2 A2 n2 c2 (sv l2)
set_option maxRecDepth 100000 in
theorem drawMeet (w : World) (A : Option Addr) (cap : Nat) (xs : List Value) (hB : Bytes xs) (hn : xs.length ≤ 1048576) (hR : Reads w w.heap.size A xs) :
    Calls Try.prog 37 #[.slice A xs.length cap] w fun e w' => OwnSpans2 w.heap.size e w' ∧ Below w.heap.size w w' := by
  go_enter Try.func37, Try.ntmps37
  go_wp2_with fail
  refine (dnew _ _ _ _ hB hn hR).mono ?_
  rintro e w1 ⟨⟨p, hp, rfl, hc⟩, hb⟩
  have hp1 := hc.lt
  have hs1 := hb.size
  go_wp2_with fail
  refine (dspans _ _ _ _ _ hc).mono ?_
  rintro e w2 ⟨⟨A1, n1, c1, l1, rfl, hn1, ho1⟩, hc2, ht2⟩
  have HO1 := Lib.hid ho1; clear ho1
  have hs2 := ht2.size
  go_wp2_with fail
  refine (dspans _ _ _ _ _ hc2).mono ?_
  rintro e w3 ⟨⟨A2, n2, c2, l2, rfl, hn2, ho2⟩, hc3, ht3⟩
  have HF : Hid (OwnSpans2 w.heap.size (.returned (.tuple #[.slice A1 n1 c1, .slice A2 n2 c2])) w3) :=
    Lib.hid ⟨A1, n1, c1, l1, A2, n2, c2, l2, rfl, hn1, hn2, (HO1.out.turn ht3 hp1).fewer hs1, ho2.fewer (by omega)⟩
  have HB := Lib.hid (hb.trans (((ht2.trans ht3).below hp1).mono hp))
  clear hc hb hc2 ht2 hc3 ht3 HO1 ho2
  go_wp2
  go_ret2
  exact ⟨HF.out, HB.out⟩
theorem drawCut (w : World) (A : Option Addr) (cap : Nat) (xs : List Value) (hB : Bytes xs) (hn : xs.length ≤ 1048576) (hR : Reads w w.heap.size A xs) :
    Calls Try.prog 13 #[.slice A xs.length cap] w fun e w' => OwnSpans2 w.heap.size e w' ∧ Below w.heap.size w w' := by
  go_enter Try.func13, Try.ntmps13
  go_wp2_with fail
  refine (drawMeet _ _ _ _ hB hn hR).mono ?_
  rintro e w1 ⟨⟨A1, n1, c1, l1, A2, n2, c2, l2, rfl, h1, h2, o1, o2⟩, hb⟩
  have HF : Hid (OwnSpans2 w.heap.size (.returned (.tuple #[.slice A1 n1 c1, .slice A2 n2 c2])) w1) := Lib.hid ⟨A1, n1, c1, l1, A2, n2, c2, l2, rfl, h1, h2, o1, o2⟩
  have HB := Lib.hid hb
  clear o1 o2 hb
  go_wp2
  go_ret2
  exact ⟨HF.out, HB.out⟩
/-- a list of spans of one's own and two numbers -/
def OwnSpansZ (B : Nat) (e : Ending) (w' : World) : Prop := ∃ (A1 : Option Addr) (n1 c1 : Nat) (l1 : List (Int × Int)) (a b : Int),
  e = .returned (.tuple #[.slice A1 n1 c1, .int .i64 a, .int .i64 b]) ∧ n1 ≤ 4 ∧ (-9223372036854775808 ≤ a ∧ a ≤ 9223372036854775807) ∧ (-9223372036854775808 ≤ b ∧ b ≤ 9223372036854775807) ∧ Own w' B 34 2 A1 n1 c1 (sv l1)
set_option maxRecDepth 100000 in
set_option maxHeartbeats 400000 in
theorem drawShorten (w : World) (A : Option Addr) (cap : Nat) (xs : List Value) (hB : Bytes xs) (hn : xs.length ≤ 1048576) (hR : Reads w w.heap.size A xs) :
    Calls Try.prog 18 #[.slice A xs.length cap] w fun e w' => OwnSpansZ w.heap.size e w' ∧ Below w.heap.size w w' := by
  go_enter Try.func18, Try.ntmps18
  go_wp2_with fail
  refine (dnew _ _ _ _ hB hn hR).mono ?_
  rintro e w1 ⟨⟨p, hp, rfl, hc⟩, hb⟩
  have hp1 := hc.lt
  have hs1 := hb.size
  go_wp2_with fail
  refine (dspans _ _ _ _ _ hc).mono ?_
  rintro e w2 ⟨⟨A1, n1, c1, l1, rfl, hn1, ho1⟩, hc2, ht2⟩
  have HO1 := Lib.hid ho1; clear ho1
  have hs2 := ht2.size
  go_wp2_with fail
  refine (dbelow _ _ _ _ _ _ hc2 (by omega)).mono ?_
  rintro e w3 ⟨⟨a, ha, rfl⟩, hc3, ht3⟩
  have ha4 := ha.1 (by omega); clear ha
  go_wp2_with fail
  refine (donce _ _ _ _ _ _ hc3 (by omega)).mono ?_
  rintro e w4 ⟨⟨q, rfl⟩, hc4, ht4⟩
  have HO4 := Lib.hid ((HO1.out.turn ht3 hp1).turn ht4 hp1)
  have HT4 := Lib.hid ((ht2.trans ht3).trans ht4)
  have HB1 := Lib.hid hb
  have HC4 := Lib.hid hc4
  clear hc hb hc2 ht2 hc3 ht3 hc4 ht4 HO1
  have END : Hid (∀ (w5 : World) (z : Int) (y : Nat), (-9223372036854775808 ≤ z ∧ z ≤ 9223372036854775807) → y < 3 → Turn p w4 w5 → OwnSpansZ w.heap.size (.returned (.tuple #[.slice A1 n1 c1, .int .i64 z, .int .i64 (y : Int)])) w5 ∧ Below w.heap.size w w5) :=
    Lib.hid fun w5 z y hz hy ht => ⟨⟨A1, n1, c1, l1, z, y, rfl, hn1, hz, by omega, (HO4.out.turn ht hp1).fewer hs1⟩, HB1.out.trans (((HT4.out.trans ht).below hp1).mono hp)⟩
  clear HO4 HT4 HB1
  cases q
  · go_wp2_with fail
    refine (dbelow _ _ _ _ _ _ HC4.out (by omega)).mono ?_
    rintro e w5 ⟨⟨y, hy, rfl⟩, hc5, ht5⟩
    have hy3 := hy.1 (by omega); clear hy
    have HF := Lib.hid (END.out w5 (a : Int) y (by omega) (by omega) ht5)
    clear hc5 ht5 END HC4
    go_wp2
    go_ret3
    exact HF.out
  · go_wp2_with fail
    refine (draw4 _ _ _ _ _ HC4.out).mono ?_
    rintro e w5 ⟨⟨z, hz, rfl⟩, hc5, ht5⟩
    have HZ := Lib.hid hz; clear hz
    go_wp2_with fail
    refine (dbelow _ _ _ _ _ _ hc5 (by omega)).mono ?_
    rintro e w6 ⟨⟨y, hy, rfl⟩, hc6, ht6⟩
    have hy3 := hy.1 (by omega); clear hy
    have HF := Lib.hid (END.out w6 z y HZ.out (by omega) (ht5.trans ht6))
    clear hc5 ht5 hc6 ht6 END HC4
    go_wp2
    go_ret3
    exact HF.out
end Go.Proofs.Ytnonlmgjbmllnaa
