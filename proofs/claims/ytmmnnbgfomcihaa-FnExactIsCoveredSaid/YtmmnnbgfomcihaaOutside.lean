/- The program's walk along two lists of spans (nextOf, its closure) and what they leave of a span (spansOutside). -/
import Derived.Test.YtmmnnbgfomcihaaMergeCut
import Derived.Test.YtmmnnbgfomcihaaSpanPut
import Derived.Test.YtmmnnbgfomcihaaApart
import Derived.Test.YtmmnnbgfomcihaaInts
import Derived.BigQuiet
import Derived.Deep.Cut
import Derived.Deep.DeepCutAuto
import Derived.Deep.CutRange
import Derived.Deep.RegionHeld3
namespace Go.Proofs.Ytmmnnbgfomcihaa
open Go.ChangeShapes Go.WideShapes Go.ChangeAt Go.RowKit
set_option linter.unusedVariables false
theorem Blk.grownQ {w w' : World} {g : Nat} {t : TypeId} {cs : Array Value} {row : Option Nat} (h : Blk w g t cs) (hg : w.grownBy w' row) (hne : some g ≠ row) : Blk w' g t cs := (hg.block g h.lt hne).trans h
theorem below_drawnQ {B : Nat} {a w : World} (h : Below B a w) (n : Nat) : Below B a (w.drewN n) := ⟨h.os, h.tape, h.output, h.size, h.block⟩
/-- what the closure holds: both lists and the two places, in blocks g to g + 3 -/
structure Nxt (w : World) (D g : Nat) (A A' : Option Addr) (n n' c c' : Nat) (a b : List (Int × Int)) (i j : Nat) : Prop where
  ba : Blk w g 35 #[.slice A n c]
  bb : Blk w (g + 1) 35 #[.slice A' n' c']
  bi : Blk w (g + 2) 3 #[.int .i64 i]
  bj : Blk w (g + 3) 3 #[.int .i64 j]
  sa : Sl w D 2 A n c (sv a)
  sb : Sl w D 2 A' n' c' (sv b)
  lo : D ≤ g
section
variable {w w' : World} {D g : Nat} {A A' : Option Addr} {n n' c c' : Nat} {a b : List (Int × Int)} {i j : Nat}
theorem Nxt.on (h : Nxt w D g A A' n n' c c' a b i j) (hb : Below w.heap.size w w') : Nxt w' D g A A' n n' c c' a b i j :=
  ⟨h.ba.below hb h.ba.lt, h.bb.below hb h.bb.lt, h.bi.below hb h.bi.lt, h.bj.below hb h.bj.lt, h.sa.below hb (by have := h.ba.lt; have := h.lo; omega), h.sb.below hb (by have := h.ba.lt; have := h.lo; omega), h.lo⟩
theorem Sl.far {B s : Nat} {xs : List Value} (h : Sl w B s A n c xs) {p : Addr} (hp : B ≤ p.block) (u : Value) : Sl (w.setCell p u) B s A n c xs :=
  h.keep fun q hq => by
    unfold World.cell?
    rw [Below.heap_setCell w p u q.block (by omega)]
theorem Nxt.out (h : Nxt w D g A A' n n' c c' a b i j) {p : Addr} (hp : g + 4 ≤ p.block) (u : Value) : Nxt (w.setCell p u) D g A A' n n' c c' a b i j :=
  ⟨h.ba.far (by omega) u, h.bb.far (by omega) u, h.bi.far (by omega) u, h.bj.far (by omega) u, h.sa.far (by have := h.lo; omega) u, h.sb.far (by have := h.lo; omega) u, h.lo⟩
theorem Nxt.left (h : Nxt w D g A A' n n' c c' a b i j) : Nxt (w.setCell ⟨g + 2, 0, none⟩ (.int .i64 ((i : Int) + 1))) D g A A' n n' c c' a b (i + 1) j :=
  ⟨h.ba.far (by simp) _, h.bb.far (by simp) _, by have := h.bi.set_ 0 (.int .i64 ((i : Int) + 1)); simpa using this, h.bj.far (by simp) _, h.sa.far (by have := h.lo; simp; omega) _, h.sb.far (by have := h.lo; simp; omega) _, h.lo⟩
theorem Nxt.right (h : Nxt w D g A A' n n' c c' a b i j) : Nxt (w.setCell ⟨g + 3, 0, none⟩ (.int .i64 ((j : Int) + 1))) D g A A' n n' c c' a b i (j + 1) :=
  ⟨h.ba.far (by simp) _, h.bb.far (by simp) _, h.bi.far (by simp) _, by have := h.bj.set_ 0 (.int .i64 ((j : Int) + 1)); simpa using this, h.sa.far (by have := h.lo; simp; omega) _, h.sb.far (by have := h.lo; simp; omega) _, h.lo⟩
/-- a store into a block, of a world that has grown -/
theorem grown_store {row : Option Nat} (h : w.grownBy w' row) {p : Addr} (hp : some p.block = row ∨ w.heap.size ≤ p.block) (u : Value) : w.grownBy (w'.setCell p u) row := by
  refine ⟨h.os, h.tape, h.output, by have := h.size; simpa using this, fun k hk hne => ?_⟩
  rw [Below.heap_setCell w' p u k ?_]
  · exact h.block k hk hne
  · rcases hp with hp | hp
    · intro e; subst e; exact hne hp
    · omega
end
set_option maxRecDepth 100000 in
set_option maxHeartbeats 1000000 in
theorem inext_1 (w : World) (D g : Nat) (A A' : Option Addr) (n n' c c' : Nat) (a b : List (Int × Int)) (i j : Nat) (h : Nxt w D g A A' n n' c c' a b i j) (ha : a.length ≤ 1000000) (hb : b.length ≤ 1000000) (hi : i < a.length) (hj : j < b.length) (hle : a[i].1 ≤ b[j].1) :
    Calls Try.prog 73 #[.pointer (some ⟨g + 2, 0, none⟩), .pointer (some ⟨g, 0, none⟩), .pointer (some ⟨g + 3, 0, none⟩), .pointer (some ⟨g + 1, 0, none⟩)] w fun e w' => e = .returned (.tuple #[.agg #[.int .i64 a[i].1, .int .i64 a[i].2], .bool true]) ∧ Nxt w' D g A A' n n' c c' a b (i + 1) j ∧ w.grownBy w' (some (g + 2)) := by
  have hna : n = a.length := by have h1 := h.sa.len; rw [sv_len] at h1; omega
  have hnb : n' = b.length := by have h1 := h.sb.len; rw [sv_len] at h1; omega
  subst hna hnb
  have hcap := h.sa.cap; have hcapm := h.sa.capm; have hcap' := h.sb.cap; have hcapm' := h.sb.capm
  obtain ⟨W1, hW1⟩ : ∃ W, W = w.alloc (.cells #[.int .i64 0, .int .i64 0] 60) := ⟨_, rfl⟩
  obtain ⟨r, hr⟩ : ∃ r, r = w.heap.size := ⟨_, rfl⟩
  have Z1 : Hid (Blk W1 r 60 #[.int .i64 0, .int .i64 0]) := Lib.hid (by rw [hW1, hr]; exact Blk.new _ _ _)
  have B1 : Below w.heap.size w W1 := by rw [hW1]; exact (Below.refl _ _).alloc (Nat.le_refl _) _
  have HB1 := Lib.hid B1
  have H1 := Lib.hid (h.on B1)
  have hgr : g + 3 < r := by have := h.bj.lt; omega
  have HR := Lib.hid hr
  have e1 : ¬ (g + 2 = r) := by omega
  have e2 : ¬ (r = g + 2) := by omega
  have e3 : ¬ (g + 3 = r) := by omega
  have e4 : ¬ (r = g + 3) := by omega
  have c0 : W1.cell? ⟨g, 0, none⟩ = some (.slice A a.length c) := H1.out.ba.cell 0
  have c1 : W1.cell? ⟨g + 1, 0, none⟩ = some (.slice A' b.length c') := H1.out.bb.cell 0
  have c2 : W1.cell? ⟨g + 2, 0, none⟩ = some (.int .i64 i) := H1.out.bi.cell 0
  have c3 : W1.cell? ⟨g + 3, 0, none⟩ = some (.int .i64 j) := H1.out.bj.cell 0
  have hi0 : (0 : Int) ≤ (i : Int) := by omega
  have hj0 : (0 : Int) ≤ (j : Int) := by omega
  clear h B1
  have hil : (i : Int) < (a.length : Int) := by omega
  obtain ⟨ad, hx, rfl, had, p0, p1⟩ := H1.out.sa.two hi
  have hjl : (j : Int) < (b.length : Int) := by omega
  obtain ⟨bd, hx', rfl, hbd, q0, q1⟩ := H1.out.sb.two hj
  have hjn : ((j : Int) == (b.length : Int)) = false := by simp; omega
  obtain ⟨x, hxx⟩ : ∃ x, x = a[i].1 := ⟨_, rfl⟩
  obtain ⟨y, hyy⟩ : ∃ y, y = a[i].2 := ⟨_, rfl⟩
  have HE : Hid (a[i] = (x, y)) := Lib.hid (by rw [hxx, hyy])
  rw [← hxx] at p0; rw [← hyy] at p1
  obtain ⟨x', hxx'⟩ : ∃ x, x = b[j].1 := ⟨_, rfl⟩
  obtain ⟨y', hyy'⟩ : ∃ y, y = b[j].2 := ⟨_, rfl⟩
  have HE' : Hid (b[j] = (x', y')) := Lib.hid (by rw [hxx', hyy'])
  rw [← hxx'] at q0; rw [← hyy'] at q1
  rw [← hxx, ← hxx'] at hle
  rw [← hxx, ← hyy]
  clear hxx hyy
  clear hxx' hyy'
  go_enter Try.func73, Try.ntmps73
  go_wp2_with fail
  rw [← hW1, ← hr]
  clear hW1 hr
  go_quiet (fail)
  have HQ : Hid (Below w.heap.size w (W1.drewN nq) ∧ Nxt (W1.drewN nq) D g (some ad) (some bd) a.length b.length c c' a b i j ∧ Blk (W1.drewN nq) r 60 #[.int .i64 0, .int .i64 0]) := Lib.hid ⟨below_drawnQ HB1.out nq, H1.out.on (below_drawnQ (Below.refl _ _) nq), Z1.out.drewN nq⟩
  clear c0 c1 c2 c3 H1 Z1 HB1 p0 p1 q0 q1
  generalize W1.drewN nq = W2 at HQ ⊢
  have c0 : W2.cell? ⟨g, 0, none⟩ = some (.slice (some ad) a.length c) := HQ.out.2.1.ba.cell 0
  have c1 : W2.cell? ⟨g + 1, 0, none⟩ = some (.slice (some bd) b.length c') := HQ.out.2.1.bb.cell 0
  have c2 : W2.cell? ⟨g + 2, 0, none⟩ = some (.int .i64 i) := HQ.out.2.1.bi.cell 0
  have c3 : W2.cell? ⟨g + 3, 0, none⟩ = some (.int .i64 j) := HQ.out.2.1.bj.cell 0
  have z0 : W2.cell? ⟨r, 0, none⟩ = some (.int .i64 0) := HQ.out.2.2.cell 0
  have z1 : W2.cell? ⟨r, 1, none⟩ = some (.int .i64 0) := HQ.out.2.2.cell 1
  have f0 := HQ.out.2.2.frozen 0; have f1 := HQ.out.2.2.frozen 1; have f2 := HQ.out.2.1.bi.frozen 0; have f3 := HQ.out.2.1.bj.frozen 0
  go_upto_region 3 with fail
  obtain ⟨W3, hW3⟩ : ∃ W, W = W2.setCell ⟨g + 2, 0, none⟩ (.int .i64 ((i : Int) + 1)) := ⟨_, rfl⟩
  have HQ3 : Hid (w.grownBy W3 (some (g + 2)) ∧ Nxt W3 D g (some ad) (some bd) a.length b.length c c' a b (i + 1) j ∧ Blk W3 r 60 #[.int .i64 0, .int .i64 0]) := Lib.hid (by
    rw [hW3]
    exact ⟨grown_store (grown_of_below HQ.out.1 _) (.inl rfl) _, HQ.out.2.1.left, HQ.out.2.2.far (by simp; omega) _⟩)
  rw [← hW3]
  clear hW3 HQ c0 c1 c2 c3 z0 z1 f0 f1 f2 f3
  have c0 : W3.cell? ⟨g, 0, none⟩ = some (.slice (some ad) a.length c) := HQ3.out.2.1.ba.cell 0
  have c1 : W3.cell? ⟨g + 1, 0, none⟩ = some (.slice (some bd) b.length c') := HQ3.out.2.1.bb.cell 0
  have c2 : W3.cell? ⟨g + 2, 0, none⟩ = some (.int .i64 ((i : Int) + 1)) := by have h := HQ3.out.2.1.bi.cell 0; simpa using h
  have z0 : W3.cell? ⟨r, 0, none⟩ = some (.int .i64 0) := HQ3.out.2.2.cell 0
  have z1 : W3.cell? ⟨r, 1, none⟩ = some (.int .i64 0) := HQ3.out.2.2.cell 1
  have f0 := HQ3.out.2.2.frozen 0; have f1 := HQ3.out.2.2.frozen 1
  obtain ⟨ad', hx2, e, hbd', p0, p1⟩ := HQ3.out.2.1.sa.two hi
  injection e with e
  subst e
  rw [HE.out] at p0 p1
  simp only at p0 p1
  obtain ⟨W4, hW4⟩ : ∃ W, W = (W3.setCell ⟨r, 0, none⟩ (.int .i64 x)).setCell ⟨r, 1, none⟩ (.int .i64 y) := ⟨_, rfl⟩
  have Z4 : Blk W4 r 60 #[.int .i64 x, .int .i64 y] := by
    have h := (HQ3.out.2.2.set_ 0 (.int .i64 x)).set_ 1 (.int .i64 y)
    rw [hW4]; simpa using h
  have d0 : W4.cell? ⟨r, 0, none⟩ = some (.int .i64 x) := Z4.cell 0
  have d1 : W4.cell? ⟨r, 1, none⟩ = some (.int .i64 y) := Z4.cell 1
  have HF : Hid (Nxt W4 D g (some ad) (some bd) a.length b.length c c' a b (i + 1) j ∧ w.grownBy W4 (some (g + 2))) := Lib.hid (by
    rw [hW4]
    exact ⟨(HQ3.out.2.1.out (by simp; omega) _).out (by simp; omega) _, grown_store (grown_store HQ3.out.1 (.inr (by have := HR.out; simp; omega)) _) (.inr (by have := HR.out; simp; omega)) _⟩)
  go_wp2_with fail
  rw [← hW4]
  clear hW4 Z4
  refine bodyPost_ret (v := .tuple #[.agg #[.int .i64 x, .int .i64 y], .bool true]) (by simp [results, Try.results73, go_sem, d0, d1]; try rfl) rfl ⟨rfl, HF.out⟩
set_option maxRecDepth 100000 in
set_option maxHeartbeats 1000000 in
theorem inext_2 (w : World) (D g : Nat) (A A' : Option Addr) (n n' c c' : Nat) (a b : List (Int × Int)) (i j : Nat) (h : Nxt w D g A A' n n' c c' a b i j) (ha : a.length ≤ 1000000) (hb : b.length ≤ 1000000) (hi : i < a.length) (hj : j = b.length) :
    Calls Try.prog 73 #[.pointer (some ⟨g + 2, 0, none⟩), .pointer (some ⟨g, 0, none⟩), .pointer (some ⟨g + 3, 0, none⟩), .pointer (some ⟨g + 1, 0, none⟩)] w fun e w' => e = .returned (.tuple #[.agg #[.int .i64 a[i].1, .int .i64 a[i].2], .bool true]) ∧ Nxt w' D g A A' n n' c c' a b (i + 1) j ∧ w.grownBy w' (some (g + 2)) := by
  have hna : n = a.length := by have h1 := h.sa.len; rw [sv_len] at h1; omega
  have hnb : n' = b.length := by have h1 := h.sb.len; rw [sv_len] at h1; omega
  subst hna hnb
  have hcap := h.sa.cap; have hcapm := h.sa.capm; have hcap' := h.sb.cap; have hcapm' := h.sb.capm
  obtain ⟨W1, hW1⟩ : ∃ W, W = w.alloc (.cells #[.int .i64 0, .int .i64 0] 60) := ⟨_, rfl⟩
  obtain ⟨r, hr⟩ : ∃ r, r = w.heap.size := ⟨_, rfl⟩
  have Z1 : Hid (Blk W1 r 60 #[.int .i64 0, .int .i64 0]) := Lib.hid (by rw [hW1, hr]; exact Blk.new _ _ _)
  have B1 : Below w.heap.size w W1 := by rw [hW1]; exact (Below.refl _ _).alloc (Nat.le_refl _) _
  have HB1 := Lib.hid B1
  have H1 := Lib.hid (h.on B1)
  have hgr : g + 3 < r := by have := h.bj.lt; omega
  have HR := Lib.hid hr
  have e1 : ¬ (g + 2 = r) := by omega
  have e2 : ¬ (r = g + 2) := by omega
  have e3 : ¬ (g + 3 = r) := by omega
  have e4 : ¬ (r = g + 3) := by omega
  have c0 : W1.cell? ⟨g, 0, none⟩ = some (.slice A a.length c) := H1.out.ba.cell 0
  have c1 : W1.cell? ⟨g + 1, 0, none⟩ = some (.slice A' b.length c') := H1.out.bb.cell 0
  have c2 : W1.cell? ⟨g + 2, 0, none⟩ = some (.int .i64 i) := H1.out.bi.cell 0
  have c3 : W1.cell? ⟨g + 3, 0, none⟩ = some (.int .i64 j) := H1.out.bj.cell 0
  have hi0 : (0 : Int) ≤ (i : Int) := by omega
  have hj0 : (0 : Int) ≤ (j : Int) := by omega
  clear h B1
  have hil : (i : Int) < (a.length : Int) := by omega
  obtain ⟨ad, hx, rfl, had, p0, p1⟩ := H1.out.sa.two hi
  have hje : ¬ (j : Int) < (b.length : Int) := by omega
  have hjn : ((j : Int) == (b.length : Int)) = true := by simp; omega
  obtain ⟨x, hxx⟩ : ∃ x, x = a[i].1 := ⟨_, rfl⟩
  obtain ⟨y, hyy⟩ : ∃ y, y = a[i].2 := ⟨_, rfl⟩
  have HE : Hid (a[i] = (x, y)) := Lib.hid (by rw [hxx, hyy])
  rw [← hxx] at p0; rw [← hyy] at p1
  rw [← hxx, ← hyy]
  clear hxx hyy
  go_enter Try.func73, Try.ntmps73
  go_wp2_with fail
  rw [← hW1, ← hr]
  clear hW1 hr
  go_quiet (fail)
  have HQ : Hid (Below w.heap.size w (W1.drewN nq) ∧ Nxt (W1.drewN nq) D g (some ad) A' a.length b.length c c' a b i j ∧ Blk (W1.drewN nq) r 60 #[.int .i64 0, .int .i64 0]) := Lib.hid ⟨below_drawnQ HB1.out nq, H1.out.on (below_drawnQ (Below.refl _ _) nq), Z1.out.drewN nq⟩
  clear c0 c1 c2 c3 H1 Z1 HB1 p0 p1
  generalize W1.drewN nq = W2 at HQ ⊢
  have c0 : W2.cell? ⟨g, 0, none⟩ = some (.slice (some ad) a.length c) := HQ.out.2.1.ba.cell 0
  have c1 : W2.cell? ⟨g + 1, 0, none⟩ = some (.slice A' b.length c') := HQ.out.2.1.bb.cell 0
  have c2 : W2.cell? ⟨g + 2, 0, none⟩ = some (.int .i64 i) := HQ.out.2.1.bi.cell 0
  have c3 : W2.cell? ⟨g + 3, 0, none⟩ = some (.int .i64 j) := HQ.out.2.1.bj.cell 0
  have z0 : W2.cell? ⟨r, 0, none⟩ = some (.int .i64 0) := HQ.out.2.2.cell 0
  have z1 : W2.cell? ⟨r, 1, none⟩ = some (.int .i64 0) := HQ.out.2.2.cell 1
  have f0 := HQ.out.2.2.frozen 0; have f1 := HQ.out.2.2.frozen 1; have f2 := HQ.out.2.1.bi.frozen 0; have f3 := HQ.out.2.1.bj.frozen 0
  go_upto_region 3 with fail
  obtain ⟨W3, hW3⟩ : ∃ W, W = W2.setCell ⟨g + 2, 0, none⟩ (.int .i64 ((i : Int) + 1)) := ⟨_, rfl⟩
  have HQ3 : Hid (w.grownBy W3 (some (g + 2)) ∧ Nxt W3 D g (some ad) A' a.length b.length c c' a b (i + 1) j ∧ Blk W3 r 60 #[.int .i64 0, .int .i64 0]) := Lib.hid (by
    rw [hW3]
    exact ⟨grown_store (grown_of_below HQ.out.1 _) (.inl rfl) _, HQ.out.2.1.left, HQ.out.2.2.far (by simp; omega) _⟩)
  rw [← hW3]
  clear hW3 HQ c0 c1 c2 c3 z0 z1 f0 f1 f2 f3
  have c0 : W3.cell? ⟨g, 0, none⟩ = some (.slice (some ad) a.length c) := HQ3.out.2.1.ba.cell 0
  have c1 : W3.cell? ⟨g + 1, 0, none⟩ = some (.slice A' b.length c') := HQ3.out.2.1.bb.cell 0
  have c2 : W3.cell? ⟨g + 2, 0, none⟩ = some (.int .i64 ((i : Int) + 1)) := by have h := HQ3.out.2.1.bi.cell 0; simpa using h
  have z0 : W3.cell? ⟨r, 0, none⟩ = some (.int .i64 0) := HQ3.out.2.2.cell 0
  have z1 : W3.cell? ⟨r, 1, none⟩ = some (.int .i64 0) := HQ3.out.2.2.cell 1
  have f0 := HQ3.out.2.2.frozen 0; have f1 := HQ3.out.2.2.frozen 1
  obtain ⟨ad', hx2, e, hbd', p0, p1⟩ := HQ3.out.2.1.sa.two hi
  injection e with e
  subst e
  rw [HE.out] at p0 p1
  simp only at p0 p1
  obtain ⟨W4, hW4⟩ : ∃ W, W = (W3.setCell ⟨r, 0, none⟩ (.int .i64 x)).setCell ⟨r, 1, none⟩ (.int .i64 y) := ⟨_, rfl⟩
  have Z4 : Blk W4 r 60 #[.int .i64 x, .int .i64 y] := by
    have h := (HQ3.out.2.2.set_ 0 (.int .i64 x)).set_ 1 (.int .i64 y)
    rw [hW4]; simpa using h
  have d0 : W4.cell? ⟨r, 0, none⟩ = some (.int .i64 x) := Z4.cell 0
  have d1 : W4.cell? ⟨r, 1, none⟩ = some (.int .i64 y) := Z4.cell 1
  have HF : Hid (Nxt W4 D g (some ad) A' a.length b.length c c' a b (i + 1) j ∧ w.grownBy W4 (some (g + 2))) := Lib.hid (by
    rw [hW4]
    exact ⟨(HQ3.out.2.1.out (by simp; omega) _).out (by simp; omega) _, grown_store (grown_store HQ3.out.1 (.inr (by have := HR.out; simp; omega)) _) (.inr (by have := HR.out; simp; omega)) _⟩)
  go_wp2_with fail
  rw [← hW4]
  clear hW4 Z4
  refine bodyPost_ret (v := .tuple #[.agg #[.int .i64 x, .int .i64 y], .bool true]) (by simp [results, Try.results73, go_sem, d0, d1]; try rfl) rfl ⟨rfl, HF.out⟩
set_option maxRecDepth 100000 in
set_option maxHeartbeats 1000000 in
theorem inext_3 (w : World) (D g : Nat) (A A' : Option Addr) (n n' c c' : Nat) (a b : List (Int × Int)) (i j : Nat) (h : Nxt w D g A A' n n' c c' a b i j) (ha : a.length ≤ 1000000) (hb : b.length ≤ 1000000) (hi : i < a.length) (hj : j < b.length) (hle : ¬ a[i].1 ≤ b[j].1) :
    Calls Try.prog 73 #[.pointer (some ⟨g + 2, 0, none⟩), .pointer (some ⟨g, 0, none⟩), .pointer (some ⟨g + 3, 0, none⟩), .pointer (some ⟨g + 1, 0, none⟩)] w fun e w' => e = .returned (.tuple #[.agg #[.int .i64 b[j].1, .int .i64 b[j].2], .bool true]) ∧ Nxt w' D g A A' n n' c c' a b i (j + 1) ∧ w.grownBy w' (some (g + 3)) := by
  have hna : n = a.length := by have h1 := h.sa.len; rw [sv_len] at h1; omega
  have hnb : n' = b.length := by have h1 := h.sb.len; rw [sv_len] at h1; omega
  subst hna hnb
  have hcap := h.sa.cap; have hcapm := h.sa.capm; have hcap' := h.sb.cap; have hcapm' := h.sb.capm
  obtain ⟨W1, hW1⟩ : ∃ W, W = w.alloc (.cells #[.int .i64 0, .int .i64 0] 60) := ⟨_, rfl⟩
  obtain ⟨r, hr⟩ : ∃ r, r = w.heap.size := ⟨_, rfl⟩
  have Z1 : Hid (Blk W1 r 60 #[.int .i64 0, .int .i64 0]) := Lib.hid (by rw [hW1, hr]; exact Blk.new _ _ _)
  have B1 : Below w.heap.size w W1 := by rw [hW1]; exact (Below.refl _ _).alloc (Nat.le_refl _) _
  have HB1 := Lib.hid B1
  have H1 := Lib.hid (h.on B1)
  have hgr : g + 3 < r := by have := h.bj.lt; omega
  have HR := Lib.hid hr
  have e1 : ¬ (g + 2 = r) := by omega
  have e2 : ¬ (r = g + 2) := by omega
  have e3 : ¬ (g + 3 = r) := by omega
  have e4 : ¬ (r = g + 3) := by omega
  have c0 : W1.cell? ⟨g, 0, none⟩ = some (.slice A a.length c) := H1.out.ba.cell 0
  have c1 : W1.cell? ⟨g + 1, 0, none⟩ = some (.slice A' b.length c') := H1.out.bb.cell 0
  have c2 : W1.cell? ⟨g + 2, 0, none⟩ = some (.int .i64 i) := H1.out.bi.cell 0
  have c3 : W1.cell? ⟨g + 3, 0, none⟩ = some (.int .i64 j) := H1.out.bj.cell 0
  have hi0 : (0 : Int) ≤ (i : Int) := by omega
  have hj0 : (0 : Int) ≤ (j : Int) := by omega
  clear h B1
  have hil : (i : Int) < (a.length : Int) := by omega
  obtain ⟨ad, hx, rfl, had, p0, p1⟩ := H1.out.sa.two hi
  have hjl : (j : Int) < (b.length : Int) := by omega
  obtain ⟨bd, hx', rfl, hbd, q0, q1⟩ := H1.out.sb.two hj
  have hjn : ((j : Int) == (b.length : Int)) = false := by simp; omega
  obtain ⟨x, hxx⟩ : ∃ x, x = a[i].1 := ⟨_, rfl⟩
  obtain ⟨y, hyy⟩ : ∃ y, y = a[i].2 := ⟨_, rfl⟩
  have HE : Hid (a[i] = (x, y)) := Lib.hid (by rw [hxx, hyy])
  rw [← hxx] at p0; rw [← hyy] at p1
  obtain ⟨x', hxx'⟩ : ∃ x, x = b[j].1 := ⟨_, rfl⟩
  obtain ⟨y', hyy'⟩ : ∃ y, y = b[j].2 := ⟨_, rfl⟩
  have HE' : Hid (b[j] = (x', y')) := Lib.hid (by rw [hxx', hyy'])
  rw [← hxx'] at q0; rw [← hyy'] at q1
  rw [← hxx, ← hxx'] at hle
  rw [← hxx', ← hyy']
  clear hxx hyy
  clear hxx' hyy'
  go_enter Try.func73, Try.ntmps73
  go_wp2_with fail
  rw [← hW1, ← hr]
  clear hW1 hr
  go_quiet (fail)
  have HQ : Hid (Below w.heap.size w (W1.drewN nq) ∧ Nxt (W1.drewN nq) D g (some ad) (some bd) a.length b.length c c' a b i j ∧ Blk (W1.drewN nq) r 60 #[.int .i64 0, .int .i64 0]) := Lib.hid ⟨below_drawnQ HB1.out nq, H1.out.on (below_drawnQ (Below.refl _ _) nq), Z1.out.drewN nq⟩
  clear c0 c1 c2 c3 H1 Z1 HB1 p0 p1 q0 q1
  generalize W1.drewN nq = W2 at HQ ⊢
  have c0 : W2.cell? ⟨g, 0, none⟩ = some (.slice (some ad) a.length c) := HQ.out.2.1.ba.cell 0
  have c1 : W2.cell? ⟨g + 1, 0, none⟩ = some (.slice (some bd) b.length c') := HQ.out.2.1.bb.cell 0
  have c2 : W2.cell? ⟨g + 2, 0, none⟩ = some (.int .i64 i) := HQ.out.2.1.bi.cell 0
  have c3 : W2.cell? ⟨g + 3, 0, none⟩ = some (.int .i64 j) := HQ.out.2.1.bj.cell 0
  have z0 : W2.cell? ⟨r, 0, none⟩ = some (.int .i64 0) := HQ.out.2.2.cell 0
  have z1 : W2.cell? ⟨r, 1, none⟩ = some (.int .i64 0) := HQ.out.2.2.cell 1
  have f0 := HQ.out.2.2.frozen 0; have f1 := HQ.out.2.2.frozen 1; have f2 := HQ.out.2.1.bi.frozen 0; have f3 := HQ.out.2.1.bj.frozen 0
  go_upto_region 6 with fail
  obtain ⟨W3, hW3⟩ : ∃ W, W = W2.setCell ⟨g + 3, 0, none⟩ (.int .i64 ((j : Int) + 1)) := ⟨_, rfl⟩
  have HQ3 : Hid (w.grownBy W3 (some (g + 3)) ∧ Nxt W3 D g (some ad) (some bd) a.length b.length c c' a b i (j + 1) ∧ Blk W3 r 60 #[.int .i64 0, .int .i64 0]) := Lib.hid (by
    rw [hW3]
    exact ⟨grown_store (grown_of_below HQ.out.1 _) (.inl rfl) _, HQ.out.2.1.right, HQ.out.2.2.far (by simp; omega) _⟩)
  rw [← hW3]
  clear hW3 HQ c0 c1 c2 c3 z0 z1 f0 f1 f2 f3
  have c0 : W3.cell? ⟨g, 0, none⟩ = some (.slice (some ad) a.length c) := HQ3.out.2.1.ba.cell 0
  have c1 : W3.cell? ⟨g + 1, 0, none⟩ = some (.slice (some bd) b.length c') := HQ3.out.2.1.bb.cell 0
  have c2 : W3.cell? ⟨g + 3, 0, none⟩ = some (.int .i64 ((j : Int) + 1)) := by have h := HQ3.out.2.1.bj.cell 0; simpa using h
  have z0 : W3.cell? ⟨r, 0, none⟩ = some (.int .i64 0) := HQ3.out.2.2.cell 0
  have z1 : W3.cell? ⟨r, 1, none⟩ = some (.int .i64 0) := HQ3.out.2.2.cell 1
  have f0 := HQ3.out.2.2.frozen 0; have f1 := HQ3.out.2.2.frozen 1
  obtain ⟨bd', hx2, e, hbd', q0, q1⟩ := HQ3.out.2.1.sb.two hj
  injection e with e
  subst e
  rw [HE'.out] at q0 q1
  simp only at q0 q1
  obtain ⟨W4, hW4⟩ : ∃ W, W = (W3.setCell ⟨r, 0, none⟩ (.int .i64 x')).setCell ⟨r, 1, none⟩ (.int .i64 y') := ⟨_, rfl⟩
  have Z4 : Blk W4 r 60 #[.int .i64 x', .int .i64 y'] := by
    have h := (HQ3.out.2.2.set_ 0 (.int .i64 x')).set_ 1 (.int .i64 y')
    rw [hW4]; simpa using h
  have d0 : W4.cell? ⟨r, 0, none⟩ = some (.int .i64 x') := Z4.cell 0
  have d1 : W4.cell? ⟨r, 1, none⟩ = some (.int .i64 y') := Z4.cell 1
  have HF : Hid (Nxt W4 D g (some ad) (some bd) a.length b.length c c' a b i (j + 1) ∧ w.grownBy W4 (some (g + 3))) := Lib.hid (by
    rw [hW4]
    exact ⟨(HQ3.out.2.1.out (by simp; omega) _).out (by simp; omega) _, grown_store (grown_store HQ3.out.1 (.inr (by have := HR.out; simp; omega)) _) (.inr (by have := HR.out; simp; omega)) _⟩)
  go_wp2_with fail
  rw [← hW4]
  clear hW4 Z4
  refine bodyPost_ret (v := .tuple #[.agg #[.int .i64 x', .int .i64 y'], .bool true]) (by simp [results, Try.results73, go_sem, d0, d1]; try rfl) rfl ⟨rfl, HF.out⟩
set_option maxRecDepth 100000 in
set_option maxHeartbeats 1000000 in
theorem inext_4 (w : World) (D g : Nat) (A A' : Option Addr) (n n' c c' : Nat) (a b : List (Int × Int)) (i j : Nat) (h : Nxt w D g A A' n n' c c' a b i j) (ha : a.length ≤ 1000000) (hb : b.length ≤ 1000000) (hi : i = a.length) (hj : j < b.length) :
    Calls Try.prog 73 #[.pointer (some ⟨g + 2, 0, none⟩), .pointer (some ⟨g, 0, none⟩), .pointer (some ⟨g + 3, 0, none⟩), .pointer (some ⟨g + 1, 0, none⟩)] w fun e w' => e = .returned (.tuple #[.agg #[.int .i64 b[j].1, .int .i64 b[j].2], .bool true]) ∧ Nxt w' D g A A' n n' c c' a b i (j + 1) ∧ w.grownBy w' (some (g + 3)) := by
  have hna : n = a.length := by have h1 := h.sa.len; rw [sv_len] at h1; omega
  have hnb : n' = b.length := by have h1 := h.sb.len; rw [sv_len] at h1; omega
  subst hna hnb
  have hcap := h.sa.cap; have hcapm := h.sa.capm; have hcap' := h.sb.cap; have hcapm' := h.sb.capm
  obtain ⟨W1, hW1⟩ : ∃ W, W = w.alloc (.cells #[.int .i64 0, .int .i64 0] 60) := ⟨_, rfl⟩
  obtain ⟨r, hr⟩ : ∃ r, r = w.heap.size := ⟨_, rfl⟩
  have Z1 : Hid (Blk W1 r 60 #[.int .i64 0, .int .i64 0]) := Lib.hid (by rw [hW1, hr]; exact Blk.new _ _ _)
  have B1 : Below w.heap.size w W1 := by rw [hW1]; exact (Below.refl _ _).alloc (Nat.le_refl _) _
  have HB1 := Lib.hid B1
  have H1 := Lib.hid (h.on B1)
  have hgr : g + 3 < r := by have := h.bj.lt; omega
  have HR := Lib.hid hr
  have e1 : ¬ (g + 2 = r) := by omega
  have e2 : ¬ (r = g + 2) := by omega
  have e3 : ¬ (g + 3 = r) := by omega
  have e4 : ¬ (r = g + 3) := by omega
  have c0 : W1.cell? ⟨g, 0, none⟩ = some (.slice A a.length c) := H1.out.ba.cell 0
  have c1 : W1.cell? ⟨g + 1, 0, none⟩ = some (.slice A' b.length c') := H1.out.bb.cell 0
  have c2 : W1.cell? ⟨g + 2, 0, none⟩ = some (.int .i64 i) := H1.out.bi.cell 0
  have c3 : W1.cell? ⟨g + 3, 0, none⟩ = some (.int .i64 j) := H1.out.bj.cell 0
  have hi0 : (0 : Int) ≤ (i : Int) := by omega
  have hj0 : (0 : Int) ≤ (j : Int) := by omega
  clear h B1
  have hie : ¬ (i : Int) < (a.length : Int) := by omega
  have hjl : (j : Int) < (b.length : Int) := by omega
  obtain ⟨bd, hx', rfl, hbd, q0, q1⟩ := H1.out.sb.two hj
  have hjn : ((j : Int) == (b.length : Int)) = false := by simp; omega
  obtain ⟨x', hxx'⟩ : ∃ x, x = b[j].1 := ⟨_, rfl⟩
  obtain ⟨y', hyy'⟩ : ∃ y, y = b[j].2 := ⟨_, rfl⟩
  have HE' : Hid (b[j] = (x', y')) := Lib.hid (by rw [hxx', hyy'])
  rw [← hxx'] at q0; rw [← hyy'] at q1
  rw [← hxx', ← hyy']
  clear hxx' hyy'
  go_enter Try.func73, Try.ntmps73
  go_wp2_with fail
  rw [← hW1, ← hr]
  clear hW1 hr
  go_quiet (fail)
  have HQ : Hid (Below w.heap.size w (W1.drewN nq) ∧ Nxt (W1.drewN nq) D g A (some bd) a.length b.length c c' a b i j ∧ Blk (W1.drewN nq) r 60 #[.int .i64 0, .int .i64 0]) := Lib.hid ⟨below_drawnQ HB1.out nq, H1.out.on (below_drawnQ (Below.refl _ _) nq), Z1.out.drewN nq⟩
  clear c0 c1 c2 c3 H1 Z1 HB1 q0 q1
  generalize W1.drewN nq = W2 at HQ ⊢
  have c0 : W2.cell? ⟨g, 0, none⟩ = some (.slice A a.length c) := HQ.out.2.1.ba.cell 0
  have c1 : W2.cell? ⟨g + 1, 0, none⟩ = some (.slice (some bd) b.length c') := HQ.out.2.1.bb.cell 0
  have c2 : W2.cell? ⟨g + 2, 0, none⟩ = some (.int .i64 i) := HQ.out.2.1.bi.cell 0
  have c3 : W2.cell? ⟨g + 3, 0, none⟩ = some (.int .i64 j) := HQ.out.2.1.bj.cell 0
  have z0 : W2.cell? ⟨r, 0, none⟩ = some (.int .i64 0) := HQ.out.2.2.cell 0
  have z1 : W2.cell? ⟨r, 1, none⟩ = some (.int .i64 0) := HQ.out.2.2.cell 1
  have f0 := HQ.out.2.2.frozen 0; have f1 := HQ.out.2.2.frozen 1; have f2 := HQ.out.2.1.bi.frozen 0; have f3 := HQ.out.2.1.bj.frozen 0
  go_upto_region 6 with fail
  obtain ⟨W3, hW3⟩ : ∃ W, W = W2.setCell ⟨g + 3, 0, none⟩ (.int .i64 ((j : Int) + 1)) := ⟨_, rfl⟩
  have HQ3 : Hid (w.grownBy W3 (some (g + 3)) ∧ Nxt W3 D g A (some bd) a.length b.length c c' a b i (j + 1) ∧ Blk W3 r 60 #[.int .i64 0, .int .i64 0]) := Lib.hid (by
    rw [hW3]
    exact ⟨grown_store (grown_of_below HQ.out.1 _) (.inl rfl) _, HQ.out.2.1.right, HQ.out.2.2.far (by simp; omega) _⟩)
  rw [← hW3]
  clear hW3 HQ c0 c1 c2 c3 z0 z1 f0 f1 f2 f3
  have c0 : W3.cell? ⟨g, 0, none⟩ = some (.slice A a.length c) := HQ3.out.2.1.ba.cell 0
  have c1 : W3.cell? ⟨g + 1, 0, none⟩ = some (.slice (some bd) b.length c') := HQ3.out.2.1.bb.cell 0
  have c2 : W3.cell? ⟨g + 3, 0, none⟩ = some (.int .i64 ((j : Int) + 1)) := by have h := HQ3.out.2.1.bj.cell 0; simpa using h
  have z0 : W3.cell? ⟨r, 0, none⟩ = some (.int .i64 0) := HQ3.out.2.2.cell 0
  have z1 : W3.cell? ⟨r, 1, none⟩ = some (.int .i64 0) := HQ3.out.2.2.cell 1
  have f0 := HQ3.out.2.2.frozen 0; have f1 := HQ3.out.2.2.frozen 1
  obtain ⟨bd', hx2, e, hbd', q0, q1⟩ := HQ3.out.2.1.sb.two hj
  injection e with e
  subst e
  rw [HE'.out] at q0 q1
  simp only at q0 q1
  obtain ⟨W4, hW4⟩ : ∃ W, W = (W3.setCell ⟨r, 0, none⟩ (.int .i64 x')).setCell ⟨r, 1, none⟩ (.int .i64 y') := ⟨_, rfl⟩
  have Z4 : Blk W4 r 60 #[.int .i64 x', .int .i64 y'] := by
    have h := (HQ3.out.2.2.set_ 0 (.int .i64 x')).set_ 1 (.int .i64 y')
    rw [hW4]; simpa using h
  have d0 : W4.cell? ⟨r, 0, none⟩ = some (.int .i64 x') := Z4.cell 0
  have d1 : W4.cell? ⟨r, 1, none⟩ = some (.int .i64 y') := Z4.cell 1
  have HF : Hid (Nxt W4 D g A (some bd) a.length b.length c c' a b i (j + 1) ∧ w.grownBy W4 (some (g + 3))) := Lib.hid (by
    rw [hW4]
    exact ⟨(HQ3.out.2.1.out (by simp; omega) _).out (by simp; omega) _, grown_store (grown_store HQ3.out.1 (.inr (by have := HR.out; simp; omega)) _) (.inr (by have := HR.out; simp; omega)) _⟩)
  go_wp2_with fail
  rw [← hW4]
  clear hW4 Z4
  refine bodyPost_ret (v := .tuple #[.agg #[.int .i64 x', .int .i64 y'], .bool true]) (by simp [results, Try.results73, go_sem, d0, d1]; try rfl) rfl ⟨rfl, HF.out⟩
set_option maxRecDepth 100000 in
set_option maxHeartbeats 1000000 in
theorem inext_5 (w : World) (D g : Nat) (A A' : Option Addr) (n n' c c' : Nat) (a b : List (Int × Int)) (i j : Nat) (h : Nxt w D g A A' n n' c c' a b i j) (ha : a.length ≤ 1000000) (hb : b.length ≤ 1000000) (hi : i = a.length) (hj : j = b.length) :
    Calls Try.prog 73 #[.pointer (some ⟨g + 2, 0, none⟩), .pointer (some ⟨g, 0, none⟩), .pointer (some ⟨g + 3, 0, none⟩), .pointer (some ⟨g + 1, 0, none⟩)] w fun e w' => e = .returned (.tuple #[.agg #[.int .i64 0, .int .i64 0], .bool false]) ∧ Nxt w' D g A A' n n' c c' a b i j ∧ w.grownBy w' (some (g + 2)) := by
  have hna : n = a.length := by have h1 := h.sa.len; rw [sv_len] at h1; omega
  have hnb : n' = b.length := by have h1 := h.sb.len; rw [sv_len] at h1; omega
  subst hna hnb
  have hcap := h.sa.cap; have hcapm := h.sa.capm; have hcap' := h.sb.cap; have hcapm' := h.sb.capm
  obtain ⟨W1, hW1⟩ : ∃ W, W = w.alloc (.cells #[.int .i64 0, .int .i64 0] 60) := ⟨_, rfl⟩
  obtain ⟨r, hr⟩ : ∃ r, r = w.heap.size := ⟨_, rfl⟩
  have Z1 : Hid (Blk W1 r 60 #[.int .i64 0, .int .i64 0]) := Lib.hid (by rw [hW1, hr]; exact Blk.new _ _ _)
  have B1 : Below w.heap.size w W1 := by rw [hW1]; exact (Below.refl _ _).alloc (Nat.le_refl _) _
  have HB1 := Lib.hid B1
  have H1 := Lib.hid (h.on B1)
  have hgr : g + 3 < r := by have := h.bj.lt; omega
  have HR := Lib.hid hr
  have e1 : ¬ (g + 2 = r) := by omega
  have e2 : ¬ (r = g + 2) := by omega
  have e3 : ¬ (g + 3 = r) := by omega
  have e4 : ¬ (r = g + 3) := by omega
  have c0 : W1.cell? ⟨g, 0, none⟩ = some (.slice A a.length c) := H1.out.ba.cell 0
  have c1 : W1.cell? ⟨g + 1, 0, none⟩ = some (.slice A' b.length c') := H1.out.bb.cell 0
  have c2 : W1.cell? ⟨g + 2, 0, none⟩ = some (.int .i64 i) := H1.out.bi.cell 0
  have c3 : W1.cell? ⟨g + 3, 0, none⟩ = some (.int .i64 j) := H1.out.bj.cell 0
  have hi0 : (0 : Int) ≤ (i : Int) := by omega
  have hj0 : (0 : Int) ≤ (j : Int) := by omega
  clear h B1
  have hie : ¬ (i : Int) < (a.length : Int) := by omega
  have hje : ¬ (j : Int) < (b.length : Int) := by omega
  have hjn : ((j : Int) == (b.length : Int)) = true := by simp; omega
  go_enter Try.func73, Try.ntmps73
  go_wp2_with fail
  rw [← hW1, ← hr]
  clear hW1 hr
  go_quiet (fail)
  have HQ : Hid (Below w.heap.size w (W1.drewN nq) ∧ Nxt (W1.drewN nq) D g A A' a.length b.length c c' a b i j ∧ Blk (W1.drewN nq) r 60 #[.int .i64 0, .int .i64 0]) := Lib.hid ⟨below_drawnQ HB1.out nq, H1.out.on (below_drawnQ (Below.refl _ _) nq), Z1.out.drewN nq⟩
  clear c0 c1 c2 c3 H1 Z1 HB1
  generalize W1.drewN nq = W2 at HQ ⊢
  have c0 : W2.cell? ⟨g, 0, none⟩ = some (.slice A a.length c) := HQ.out.2.1.ba.cell 0
  have c1 : W2.cell? ⟨g + 1, 0, none⟩ = some (.slice A' b.length c') := HQ.out.2.1.bb.cell 0
  have c2 : W2.cell? ⟨g + 2, 0, none⟩ = some (.int .i64 i) := HQ.out.2.1.bi.cell 0
  have c3 : W2.cell? ⟨g + 3, 0, none⟩ = some (.int .i64 j) := HQ.out.2.1.bj.cell 0
  have z0 : W2.cell? ⟨r, 0, none⟩ = some (.int .i64 0) := HQ.out.2.2.cell 0
  have z1 : W2.cell? ⟨r, 1, none⟩ = some (.int .i64 0) := HQ.out.2.2.cell 1
  have f0 := HQ.out.2.2.frozen 0; have f1 := HQ.out.2.2.frozen 1; have f2 := HQ.out.2.1.bi.frozen 0; have f3 := HQ.out.2.1.bj.frozen 0
  obtain ⟨W4, hW4⟩ : ∃ W, W = (W2.setCell ⟨r, 0, none⟩ (.int .i64 0)).setCell ⟨r, 1, none⟩ (.int .i64 0) := ⟨_, rfl⟩
  have Z4 : Blk W4 r 60 #[.int .i64 0, .int .i64 0] := by
    have h := (HQ.out.2.2.set_ 0 (.int .i64 0)).set_ 1 (.int .i64 0)
    rw [hW4]; simpa using h
  have d0 : W4.cell? ⟨r, 0, none⟩ = some (.int .i64 0) := Z4.cell 0
  have d1 : W4.cell? ⟨r, 1, none⟩ = some (.int .i64 0) := Z4.cell 1
  have HF : Hid (Nxt W4 D g A A' a.length b.length c c' a b i j ∧ w.grownBy W4 (some (g + 2))) := Lib.hid (by
    rw [hW4]
    exact ⟨(HQ.out.2.1.out (by simp; omega) _).out (by simp; omega) _, grown_store (grown_store (grown_of_below HQ.out.1 _) (.inr (by have := HR.out; simp; omega)) _) (.inr (by have := HR.out; simp; omega)) _⟩)
  go_wp2_with fail
  rw [← hW4]
  clear hW4 Z4
  refine bodyPost_ret (v := .tuple #[.agg #[.int .i64 0, .int .i64 0], .bool false]) (by simp [results, Try.results73, go_sem, d0, d1]; try rfl) rfl ⟨rfl, HF.out⟩
theorem inext (w : World) (D g : Nat) (A A' : Option Addr) (n n' c c' : Nat) (a b : List (Int × Int)) (i j : Nat) (h : Nxt w D g A A' n n' c c' a b i j) (hi : i ≤ a.length) (hj : j ≤ b.length) (ha : a.length ≤ 1000000) (hb : b.length ≤ 1000000) :
    Calls Try.prog 73 #[.pointer (some ⟨g + 2, 0, none⟩), .pointer (some ⟨g, 0, none⟩), .pointer (some ⟨g + 3, 0, none⟩), .pointer (some ⟨g + 1, 0, none⟩)] w fun e w' => ∃ p ok i' j' k, Step a b i j p ok i' j' ∧ e = .returned (.tuple #[.agg #[.int .i64 p.1, .int .i64 p.2], .bool ok]) ∧ Nxt w' D g A A' n n' c c' a b i' j' ∧ k < 4 ∧ w.grownBy w' (some (g + k)) := by
  by_cases h1 : i < a.length
  · by_cases h2 : j < b.length
    · by_cases h3 : a[i].1 ≤ b[j].1
      · exact (inext_1 w D g A A' n n' c c' a b i j h ha hb h1 h2 h3).mono fun e w' ⟨e1, e2, e3⟩ => ⟨_, _, _, _, 2, .left h1 (.inr ⟨h2, h3⟩), e1, e2, by omega, e3⟩
      · exact (inext_3 w D g A A' n n' c c' a b i j h ha hb h1 h2 h3).mono fun e w' ⟨e1, e2, e3⟩ => ⟨_, _, _, _, 3, .right h2 (.inr ⟨h1, by omega⟩), e1, e2, by omega, e3⟩
    · exact (inext_2 w D g A A' n n' c c' a b i j h ha hb h1 (by omega)).mono fun e w' ⟨e1, e2, e3⟩ => ⟨_, _, _, _, 2, .left h1 (.inl (by omega)), e1, e2, by omega, e3⟩
  · by_cases h2 : j < b.length
    · exact (inext_4 w D g A A' n n' c c' a b i j h ha hb (by omega) h2).mono fun e w' ⟨e1, e2, e3⟩ => ⟨_, _, _, _, 3, .right h2 (.inl (by omega)), e1, e2, by omega, e3⟩
    · exact (inext_5 w D g A A' n n' c c' a b i j h ha hb (by omega) (by omega)).mono fun e w' ⟨e1, e2, e3⟩ => ⟨_, _, _, _, 2, .done (by omega) (by omega), e1, e2, by omega, e3⟩
theorem Nxt.kept {w w' : World} {D g : Nat} {A A' : Option Addr} {n n' c c' : Nat} {a b : List (Int × Int)} {i j : Nat} {row : Option Nat} (h : Nxt w D g A A' n n' c c' a b i j) (hg : w.grownBy w' row) (hr : ∀ r, row = some r → D ≤ r ∧ (r < g ∨ g + 4 ≤ r)) : Nxt w' D g A A' n n' c c' a b i j := by
  have hb : ∀ k, k < 4 → some (g + k) ≠ row := fun k hk e => by have := hr _ e.symm; omega
  have hs : ∀ q : Addr, q.block < D → w'.cell? q = w.cell? q := fun q hq => by
    unfold World.cell?
    rw [hg.block q.block (by have := h.ba.lt; have := h.lo; omega) (fun e => by have := hr _ e.symm; omega)]
  exact ⟨h.ba.grownQ hg (hb 0 (by omega)), h.bb.grownQ hg (hb 1 (by omega)), h.bi.grownQ hg (hb 2 (by omega)), h.bj.grownQ hg (hb 3 (by omega)), h.sa.keep hs, h.sb.keep hs, h.lo⟩
theorem inextof (w : World) (D : Nat) (A A' : Option Addr) (n n' c c' : Nat) (a b : List (Int × Int)) (h : Sl w D 2 A n c (sv a)) (h' : Sl w D 2 A' n' c' (sv b)) (hD : D ≤ w.heap.size) :
    Calls Try.prog 63 #[.slice A n c, .slice A' n' c'] w fun e w' => (∃ g, e = .returned (.func (.func 73) #[] #[.pointer (some ⟨g + 2, 0, none⟩), .pointer (some ⟨g, 0, none⟩), .pointer (some ⟨g + 3, 0, none⟩), .pointer (some ⟨g + 1, 0, none⟩)]) ∧ w.heap.size ≤ g ∧ Nxt w' D g A A' n n' c c' a b 0 0) ∧ Below w.heap.size w w' := by
  have hmf : ∀ (fn : Fn) (first cap : Array Value) (w : World), (Instr.makeFunc fn first cap).run Try.prog w = .ok (.func fn first cap) w := fun _ _ _ _ => rfl
  obtain ⟨W1, hW1⟩ : ∃ W, W = (w.alloc (.cells #[.slice A n c] 35)).alloc (.cells #[.slice A' n' c'] 35) := ⟨_, rfl⟩
  obtain ⟨W3, hW3⟩ : ∃ W, W = (W1.alloc (.cells #[.int .i64 0] 3)).alloc (.cells #[.int .i64 0] 3) := ⟨_, rfl⟩
  have s1 : W1.heap.size = w.heap.size + 2 := by rw [hW1]; simp
  have b1 : Below w.heap.size w W1 := by rw [hW1]; exact ((Below.refl _ _).alloc (Nat.le_refl _) _).alloc (by simp) _
  have b3 : Below W1.heap.size W1 W3 := by rw [hW3]; exact ((Below.refl _ _).alloc (Nat.le_refl _) _).alloc (by simp) _
  have bb := b1.trans (b3.mono b1.size)
  have q0 : Blk W1 w.heap.size 35 #[.slice A n c] := by rw [hW1]; exact (Blk.new _ _ _).alloc _
  have q1 : Blk W1 (w.heap.size + 1) 35 #[.slice A' n' c'] := by
    rw [hW1]
    have h := Blk.new (w.alloc (.cells #[.slice A n c] 35)) 35 #[.slice A' n' c']
    simpa using h
  have q2 : Blk W3 (w.heap.size + 2) 3 #[.int .i64 0] := by rw [hW3, ← s1]; exact (Blk.new _ _ _).alloc _
  have q3 : Blk W3 (w.heap.size + 3) 3 #[.int .i64 0] := by
    rw [hW3]
    have h := Blk.new (W1.alloc (.cells #[.int .i64 0] 3)) 3 #[.int .i64 0]
    simpa [s1] using h
  have HF : Hid (Nxt W3 D w.heap.size A A' n n' c c' a b 0 0 ∧ Below w.heap.size w W3) := Lib.hid ⟨⟨q0.below b3 q0.lt, q1.below b3 q1.lt, q2, q3, h.below bb hD, h'.below bb hD, hD⟩, bb⟩
  clear q0 q1 q2 q3 bb b1 b3 h h'
  go_enter Try.func63, Try.ntmps63
  go_wp2
  subst hW3 hW1
  go_ret
  refine ⟨⟨w.heap.size, ?_, Nat.le_refl _, ?_⟩, ?_⟩
  · simp
  · simpa using HF.out.1
  · simpa using HF.out.2
end Go.Proofs.Ytmmnnbgfomcihaa
