/- The contracts of DrawGapOf, DrawWidenArc and DrawArcsMeet. -/
import Derived.Test.YteingcdjoepeiaaDoorDrawArcs
namespace Go.Proofs.YteingcdjoepeiaaDoor
open Go.ChangeShapes Go.WideShapes Go.ChangeAt Go.RowKit
set_option linter.unusedVariables false
/-- a pair is stored into a block of two cells of the call's own -/
theorem put_low {w w5 : World} {g : Nat} {T : TypeId} {u v : Value} (x y : Int) (hg : w.heap.size ≤ g) (hB : Below w.heap.size w w5) (hb : Blk w5 g T #[u, v]) :
    w5.frozen? ⟨g, 0, none⟩ = false ∧ w5.cell? ⟨g, 0, none⟩ = some u ∧ (w5.setCell ⟨g, 0, none⟩ (.int .i64 x)).cell? ⟨g, 1, none⟩ = some v ∧ (w5.setCell ⟨g, 0, none⟩ (.int .i64 x)).frozen? ⟨g, 1, none⟩ = false ∧
    (w5.setCell ⟨g, 0, none⟩ (.int .i64 x)).cell? ⟨g, 0, none⟩ = some (.int .i64 x) ∧
    ((w5.setCell ⟨g, 0, none⟩ (.int .i64 x)).setCell ⟨g, 1, none⟩ (.int .i64 y)).cell? ⟨g, 0, none⟩ = some (.int .i64 x) ∧
    ((w5.setCell ⟨g, 0, none⟩ (.int .i64 x)).setCell ⟨g, 1, none⟩ (.int .i64 y)).cell? ⟨g, 1, none⟩ = some (.int .i64 y) ∧
    Blk ((w5.setCell ⟨g, 0, none⟩ (.int .i64 x)).setCell ⟨g, 1, none⟩ (.int .i64 y)) g T #[.int .i64 x, .int .i64 y] ∧
    Below w.heap.size w ((w5.setCell ⟨g, 0, none⟩ (.int .i64 x)).setCell ⟨g, 1, none⟩ (.int .i64 y)) := by
  have h2 := hb.set_ 0 (.int .i64 x)
  have h1 := h2.set_ 1 (.int .i64 y)
  exact ⟨hb.frozen 0, hb.cell 0, h2.cell 1, h2.frozen 1, h2.cell 0, h1.cell 0, h1.cell 1, by simpa using h1, (hB.setCell (by simpa using hg) _).setCell (by simpa using hg) _⟩
set_option maxRecDepth 100000 in
theorem drawGap (w : World) (A : Option Addr) (cap : Nat) (xs : List Value) (hB : Bytes xs) (hn : xs.length ≤ 1048576) (hR : Reads w w.heap.size A xs) :
    Calls Tryd.prog 9 #[.slice A xs.length cap] w fun e w' => (∃ a b : Int, e = .returned (.tuple #[.int .i64 a, .int .i64 b])) ∧ Below w.heap.size w w' := by
  go_enter Tryd.func9, Tryd.ntmps9
  go_wp2_with fail
  refine (dnew _ _ _ _ hB hn hR).mono ?_
  rintro e w1 ⟨⟨p, hp, rfl, hc⟩, hb⟩
  go_wp2_with fail
  refine (dangle _ _ _ _ _ hc).mono ?_
  rintro e w2 ⟨⟨z, hz, rfl⟩, hc2, ht2⟩
  clear hz
  go_wp2_with fail
  refine (dangle _ _ _ _ _ hc2).mono ?_
  rintro e w3 ⟨⟨y, hy, rfl⟩, hc3, ht3⟩
  clear hy
  have hfin := hb.trans (((ht2.trans ht3).below hc.lt).mono hp)
  go_wp2
  go_ret2
  exact ⟨⟨z, y, rfl⟩, hfin⟩
set_option maxRecDepth 100000 in
theorem drawWiden (w : World) (A : Option Addr) (cap : Nat) (xs : List Value) (hB : Bytes xs) (hn : xs.length ≤ 1048576) (hR : Reads w w.heap.size A xs) :
    Calls Tryd.prog 12 #[.slice A xs.length cap] w fun e w' => (∃ x y z : Int, e = .returned (.tuple #[.agg #[.int .i64 x, .int .i64 y], .int .i64 z])) ∧ Below w.heap.size w w' := by
  have hr := Lib.hid (i64_all (l := [-1, 0, 1, 5, 170, 360, 361]) (by decide))
  have b1 : Below w.heap.size w (w.alloc (.cells #[.int .i64 0, .int .i64 0] 29)) := (Below.refl _ _).alloc (Nat.le_refl _) _
  have B1 := Lib.hid b1
  have R1 : Hid (Reads (w.alloc (.cells #[.int .i64 0, .int .i64 0] 29)) (w.alloc (.cells #[.int .i64 0, .int .i64 0] 29)).heap.size A xs) := Lib.hid ((hR.below b1 (Nat.le_refl _)).more b1.size)
  have r1 : Hid (Blk (w.alloc (.cells #[.int .i64 0, .int .i64 0] 29)) w.heap.size 29 #[.int .i64 0, .int .i64 0]) := Lib.hid (Blk.new _ _ _)
  clear b1 hR
  go_enter Tryd.func12, Tryd.ntmps12
  go_wp2_with fail
  refine (dnew _ _ _ _ hB hn R1.out).mono ?_
  rintro e w1 ⟨⟨p, hp, rfl, hc⟩, hb⟩
  have hp' : w.heap.size < p := by simp at hp; omega
  have hp2 : ¬ (w.heap.size = p) := by omega
  have B2 := Lib.hid (B1.out.trans (hb.mono (by simp)))
  have r2 := Lib.hid (r1.out.below hb (by simp))
  clear hb hp r1 B1 R1
  go_wp2_with fail
  refine (darc _ _ _ _ _ hc).mono ?_
  rintro e w2 ⟨⟨x, y, rfl⟩, c2, u2⟩
  have hs2 : ¬ (w2.heap.size = p) := by have := c2.lt; omega
  have r3 := Lib.hid ((u2.blk r2.out hp2).alloc (.cells #[.int .i64 x, .int .i64 y] 29))
  have k3 := Lib.hid (c2.alloc (.cells #[.int .i64 x, .int .i64 y] 29))
  have b3 := B2.out.trans ((u2.below hc.lt).mono (by omega))
  have B3 := Lib.hid (b3.trans (((Below.refl _ _).alloc (Nat.le_refl _) (.cells #[.int .i64 x, .int .i64 y] 29)).mono b3.size))
  have s3 : Hid (Blk (w2.alloc (.cells #[.int .i64 x, .int .i64 y] 29)) w2.heap.size 29 #[.int .i64 x, .int .i64 y]) := Lib.hid (Blk.new _ _ _)
  have g0 : (w2.alloc (.cells #[.int .i64 x, .int .i64 y] 29)).cell? ⟨w2.heap.size, 0, none⟩ = some (.int .i64 x) := s3.out.cell 0
  have g1 : (w2.alloc (.cells #[.int .i64 x, .int .i64 y] 29)).cell? ⟨w2.heap.size, 1, none⟩ = some (.int .i64 y) := s3.out.cell 1
  obtain ⟨W4, hW⟩ : ∃ W, W = ((w2.alloc (.cells #[.int .i64 x, .int .i64 y] 29)).alloc (.cells #[.int .i64 (-1), .int .i64 0, .int .i64 1, .int .i64 5, .int .i64 170, .int .i64 360, .int .i64 361] 3)).drew := ⟨_, rfl⟩
  have K4 : Hid (Cur W4 p A cap xs) := Lib.hid (by rw [hW]; exact (k3.out.alloc _).turned (fun _ _ => rfl))
  have R4 : Hid (Blk W4 w.heap.size 29 #[.int .i64 0, .int .i64 0]) := Lib.hid (by rw [hW]; exact (r3.out.alloc _).drew)
  have S4 : Hid (Blk W4 w2.heap.size 29 #[.int .i64 x, .int .i64 y]) := Lib.hid (by rw [hW]; exact (s3.out.alloc _).drew)
  have Q4 : Hid (Blk W4 (w2.heap.size + 1) 3 (([-1, 0, 1, 5, 170, 360, 361] : List Int).map (Value.int .i64)).toArray) := Lib.hid (by
    rw [hW]; refine Blk.drew ?_
    have h := Blk.new (w2.alloc (.cells #[.int .i64 x, .int .i64 y] 29)) 3 (([-1, 0, 1, 5, 170, 360, 361] : List Int).map (Value.int .i64)).toArray
    simpa using h)
  have B4 : Hid (Below w.heap.size w W4) := Lib.hid (by rw [hW]; exact (B3.out.alloc (by have := b3.size; simp; omega) _).drew)
  have hs4 : w2.heap.size + 1 ≠ p := by have := c2.lt; omega
  have hlt : w2.heap.size ≠ w.heap.size := by have := b3.size; have := c2.lt; omega
  rw [hW] at K4 R4 S4 Q4 B4
  clear b3 hc c2 u2 r2 B2 hW k3 r3 s3 B3
  go_wp2_with fail
  go_region_held3 (fun w' => w'.cell? ⟨w2.heap.size, 0, none⟩ = some (.int .i64 x) ∧ w'.cell? ⟨w2.heap.size, 1, none⟩ = some (.int .i64 y)) (first | with_reducible exact ⟨g0, g1⟩ | with_reducible exact ⟨j0, j1⟩ | with_reducible exact ⟨j2, j3⟩ | go_keep) (first
    | (go_at_call 30; refine (dint _ p A cap xs (w2.heap.size + 1) 7 [-1, 0, 1, 5, 170, 360, 361] K4.out hs4 (by decide) (by decide) hr.out Q4.out.int_at).mono ?_; rintro e w5 ⟨⟨z, hz, rfl⟩, c5, u5⟩; clear hz; have s5 := u5.blk S4.out hs2; have j0 : w5.cell? ⟨w2.heap.size, 0, none⟩ = some (.int .i64 x) := s5.cell 0; have j1 : w5.cell? ⟨w2.heap.size, 1, none⟩ = some (.int .i64 y) := s5.cell 1; have j5 := (s5.far (p := ⟨w.heap.size, 0, none⟩) hlt (.int .i64 x)).far (p := ⟨w.heap.size, 1, none⟩) hlt (.int .i64 y); have j2 : ((w5.setCell ⟨w.heap.size, 0, none⟩ (.int .i64 x)).setCell ⟨w.heap.size, 1, none⟩ (.int .i64 y)).cell? ⟨w2.heap.size, 0, none⟩ = some (.int .i64 x) := j5.cell 0; have j3 : ((w5.setCell ⟨w.heap.size, 0, none⟩ (.int .i64 x)).setCell ⟨w.heap.size, 1, none⟩ (.int .i64 y)).cell? ⟨w2.heap.size, 1, none⟩ = some (.int .i64 y) := j5.cell 1; clear j5; obtain ⟨m0, e2, e3, m1, n2, n0, n1, _, HF⟩ := put_low x y (Nat.le_refl _) (B4.out.trans ((u5.below K4.out.lt).mono (by omega))) (u5.blk R4.out hp2); have HF' := Lib.hid HF; clear HF s5 c5 u5))
  go_wp2
  (try simp only [Exit.inBlock, Exit.then])
  refine bodyPost_ret (by simp [results, Tryd.results12, go_sem, n0, n1]; try rfl) rfl ?_
  exact ⟨⟨_, _, _, rfl⟩, HF'.out⟩
set_option maxRecDepth 100000 in
set_option maxHeartbeats 800000 in
theorem drawMeetA (w : World) (A : Option Addr) (cap : Nat) (xs : List Value) (hB : Bytes xs) (hn : xs.length ≤ 1048576) (hR : Reads w w.heap.size A xs) :
    Calls Tryd.prog 14 #[.slice A xs.length cap] w fun e w' => (∃ x y x' y' : Int, e = .returned (.tuple #[.agg #[.int .i64 x, .int .i64 y], .agg #[.int .i64 x', .int .i64 y']])) ∧ Below w.heap.size w w' := by
  obtain ⟨W1, hW1⟩ : ∃ W, W = (w.alloc (.cells #[.int .i64 0, .int .i64 0] 29)).alloc (.cells #[.int .i64 0, .int .i64 0] 29) := ⟨_, rfl⟩
  have b1 : Below w.heap.size w W1 := by rw [hW1]; exact ((Below.refl _ _).alloc (Nat.le_refl _) _).alloc (by simp) _
  have hsz : W1.heap.size = w.heap.size + 2 := by rw [hW1]; simp
  have B1 := Lib.hid b1
  have R1 : Hid (Reads W1 W1.heap.size A xs) := Lib.hid ((hR.below b1 (Nat.le_refl _)).more b1.size)
  have r1 : Hid (Blk W1 w.heap.size 29 #[.int .i64 0, .int .i64 0] ∧ Blk W1 (w.heap.size + 1) 29 #[.int .i64 0, .int .i64 0]) := Lib.hid (by
    rw [hW1]; refine ⟨(Blk.new _ _ _).alloc _, ?_⟩
    have h := Blk.new (w.alloc (.cells #[.int .i64 0, .int .i64 0] 29)) 29 #[.int .i64 0, .int .i64 0]
    simpa using h)
  have HZ := Lib.hid hsz
  rw [hW1] at B1 R1 r1 HZ
  clear b1 hR hW1 hsz
  go_enter Tryd.func14, Tryd.ntmps14
  go_wp2_with fail
  refine (dnew _ _ _ _ hB hn R1.out).mono ?_
  rintro e w1 ⟨⟨p, hp, rfl, hc⟩, hb⟩
  have hp' : w.heap.size + 1 < p := by rw [HZ.out] at hp; omega
  have hp2 : ¬ (w.heap.size = p) := by omega
  have hp3 : ¬ (w.heap.size + 1 = p) := by omega
  have B2 := Lib.hid (B1.out.trans (hb.mono (by rw [HZ.out]; omega)))
  have r2 := Lib.hid (r1.out.1.below hb (by rw [HZ.out]; omega)); have q2 := Lib.hid (r1.out.2.below hb (by rw [HZ.out]; omega))
  clear hb hp r1 B1 R1 HZ
  go_wp2_with fail
  refine (darc _ _ _ _ _ hc).mono ?_
  rintro e w2 ⟨⟨x, y, rfl⟩, c2, u2⟩
  have hs2 : ¬ (w2.heap.size = p) := by have := c2.lt; omega
  have hl1 : w2.heap.size ≠ w.heap.size := by have := c2.lt; omega
  have hl2 : w2.heap.size ≠ w.heap.size + 1 := by have := c2.lt; omega
  have r3 := Lib.hid ((u2.blk r2.out hp2).alloc (.cells #[.int .i64 x, .int .i64 y] 29)); have q3 := Lib.hid ((u2.blk q2.out hp3).alloc (.cells #[.int .i64 x, .int .i64 y] 29))
  have k3 := Lib.hid (c2.alloc (.cells #[.int .i64 x, .int .i64 y] 29))
  have b3 := B2.out.trans ((u2.below hc.lt).mono (by omega))
  have B3 := Lib.hid (b3.trans (((Below.refl _ _).alloc (Nat.le_refl _) (.cells #[.int .i64 x, .int .i64 y] 29)).mono b3.size))
  have s3 : Hid (Blk (w2.alloc (.cells #[.int .i64 x, .int .i64 y] 29)) w2.heap.size 29 #[.int .i64 x, .int .i64 y]) := Lib.hid (Blk.new _ _ _)
  have g0 : (w2.alloc (.cells #[.int .i64 x, .int .i64 y] 29)).cell? ⟨w2.heap.size, 0, none⟩ = some (.int .i64 x) := s3.out.cell 0
  have g1 : (w2.alloc (.cells #[.int .i64 x, .int .i64 y] 29)).cell? ⟨w2.heap.size, 1, none⟩ = some (.int .i64 y) := s3.out.cell 1
  obtain ⟨W4, hW⟩ : ∃ W, W = (w2.alloc (.cells #[.int .i64 x, .int .i64 y] 29)).drew := ⟨_, rfl⟩
  have K4 : Hid (Cur W4 p A cap xs) := Lib.hid (by rw [hW]; exact k3.out.turned (fun _ _ => rfl))
  have R4 : Hid (Blk W4 w.heap.size 29 #[.int .i64 0, .int .i64 0]) := Lib.hid (by rw [hW]; exact r3.out.drew)
  have T4 : Hid (Blk W4 (w.heap.size + 1) 29 #[.int .i64 0, .int .i64 0]) := Lib.hid (by rw [hW]; exact q3.out.drew)
  have S4 : Hid (Blk W4 w2.heap.size 29 #[.int .i64 x, .int .i64 y]) := Lib.hid (by rw [hW]; exact s3.out.drew)
  have B4 : Hid (Below w.heap.size w W4) := Lib.hid (by rw [hW]; exact B3.out.drew)
  rw [hW] at K4 R4 S4 T4 B4
  clear b3 hc c2 u2 r2 q2 B2 hW k3 r3 q3 s3 B3
  go_wp2_with fail
  go_region_held3 (fun w' => w'.cell? ⟨w2.heap.size, 0, none⟩ = some (.int .i64 x) ∧ w'.cell? ⟨w2.heap.size, 1, none⟩ = some (.int .i64 y)) (first | with_reducible exact ⟨g0, g1⟩ | with_reducible exact ⟨j0, j1⟩ | with_reducible exact ⟨j2, j3⟩ | with_reducible exact ⟨j4, j5⟩ | go_keep) (first
    | (go_at_call 29; refine (darc _ p A cap xs K4.out).mono ?_; rintro e w5 ⟨⟨x', y', rfl⟩, c5, u5⟩; have s5 := u5.blk S4.out hs2; have j0 : w5.cell? ⟨w2.heap.size, 0, none⟩ = some (.int .i64 x) := s5.cell 0; have j1 : w5.cell? ⟨w2.heap.size, 1, none⟩ = some (.int .i64 y) := s5.cell 1; have s6 := (s5.far (p := ⟨w.heap.size, 0, none⟩) hl1 (.int .i64 x)).far (p := ⟨w.heap.size, 1, none⟩) hl1 (.int .i64 y); have j2 : ((w5.setCell ⟨w.heap.size, 0, none⟩ (.int .i64 x)).setCell ⟨w.heap.size, 1, none⟩ (.int .i64 y)).cell? ⟨w2.heap.size, 0, none⟩ = some (.int .i64 x) := s6.cell 0; have j3 : ((w5.setCell ⟨w.heap.size, 0, none⟩ (.int .i64 x)).setCell ⟨w.heap.size, 1, none⟩ (.int .i64 y)).cell? ⟨w2.heap.size, 1, none⟩ = some (.int .i64 y) := s6.cell 1; have s7 := (s6.far (p := ⟨w.heap.size + 1, 0, none⟩) hl2 (.int .i64 x')).far (p := ⟨w.heap.size + 1, 1, none⟩) hl2 (.int .i64 y'); have j4 : ((((w5.setCell ⟨w.heap.size, 0, none⟩ (.int .i64 x)).setCell ⟨w.heap.size, 1, none⟩ (.int .i64 y)).setCell ⟨w.heap.size + 1, 0, none⟩ (.int .i64 x')).setCell ⟨w.heap.size + 1, 1, none⟩ (.int .i64 y')).cell? ⟨w2.heap.size, 0, none⟩ = some (.int .i64 x) := s7.cell 0; have j5 : ((((w5.setCell ⟨w.heap.size, 0, none⟩ (.int .i64 x)).setCell ⟨w.heap.size, 1, none⟩ (.int .i64 y)).setCell ⟨w.heap.size + 1, 0, none⟩ (.int .i64 x')).setCell ⟨w.heap.size + 1, 1, none⟩ (.int .i64 y')).cell? ⟨w2.heap.size, 1, none⟩ = some (.int .i64 y) := s7.cell 1; clear s6 s7 s5; obtain ⟨m0, e2, e3, m1, n2, n0, n1, h1, HF⟩ := put_low x y (Nat.le_refl _) (B4.out.trans ((u5.below K4.out.lt).mono (by omega))) (u5.blk R4.out hp2); obtain ⟨m0', e2', e3', m1', n2', n0', n1', _, HG⟩ := put_low (g := w.heap.size + 1) x' y' (by omega) HF (((u5.blk T4.out hp3).far (p := ⟨w.heap.size, 0, none⟩) (by simp) (.int .i64 x)).far (p := ⟨w.heap.size, 1, none⟩) (by simp) (.int .i64 y)); have h2 := (h1.far (p := ⟨w.heap.size + 1, 0, none⟩) (by simp) (.int .i64 x')).far (p := ⟨w.heap.size + 1, 1, none⟩) (by simp) (.int .i64 y'); have v0 : ((((w5.setCell ⟨w.heap.size, 0, none⟩ (.int .i64 x)).setCell ⟨w.heap.size, 1, none⟩ (.int .i64 y)).setCell ⟨w.heap.size + 1, 0, none⟩ (.int .i64 x')).setCell ⟨w.heap.size + 1, 1, none⟩ (.int .i64 y')).cell? ⟨w.heap.size, 0, none⟩ = some (.int .i64 x) := h2.cell 0; have v1 : ((((w5.setCell ⟨w.heap.size, 0, none⟩ (.int .i64 x)).setCell ⟨w.heap.size, 1, none⟩ (.int .i64 y)).setCell ⟨w.heap.size + 1, 0, none⟩ (.int .i64 x')).setCell ⟨w.heap.size + 1, 1, none⟩ (.int .i64 y')).cell? ⟨w.heap.size, 1, none⟩ = some (.int .i64 y) := h2.cell 1; have HF' := Lib.hid HG; clear HF HG h1 h2 c5 u5))
  go_wp2
  (try simp only [Exit.inBlock, Exit.then])
  refine bodyPost_ret (by simp [results, Tryd.results14, go_sem, v0, v1, n0', n1']; try rfl) rfl ?_
  exact ⟨⟨_, _, _, _, rfl⟩, HF'.out⟩
end Go.Proofs.YteingcdjoepeiaaDoor
