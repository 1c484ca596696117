/- The program's orbit: an iterator over ticks and places; what it yields to whatever loop. -/
import Derived.Test.YtjpjigkamkhaoaaOrbit
import Derived.RangeFuncNested
import Derived.RangeFuncBound
import Derived.RangeFuncCalls
import Derived.RangeFuncLeaves
import Derived.Shelf.Abstract
import Derived.Shelf.RegionOpen
import Derived.OwnWalkIn
import Derived.TacticsInMore
import Derived.LoopNIn
import Derived.LoopIn
namespace Go.Proofs.Ytjpjigkamkhaoaa
open Go.ChangeShapes Go.WideShapes Go.ChangeAt Go.RowKit Go.Shelf
set_option linter.unusedVariables false
attribute [local go_sem] Oper.semAt_some
/-- a tick and a place, as yield takes them -/
abbrev penc (x : Int × Int) : Array Value := #[.int .i64 x.1, .int .i64 x.2]
/-- the first k ticks from a on, each with its place -/
def plist (ph v a : Int) (k : Nat) : List (Int × Int) := (List.range k).map fun (i : Nat) => (a + (i : Int), plc ph v (a + (i : Int)))
theorem plist_len (ph v a : Int) (k : Nat) : (plist ph v a k).length = k := by simp [plist]
theorem plist_succ (ph v a : Int) (k : Nat) : plist ph v a (k + 1) = plist ph v a k ++ [(a + (k : Int), plc ph v (a + (k : Int)))] := by simp [plist, List.range_succ]
theorem plist_prefix (ph v a : Int) {j k : Nat} (h : j ≤ k) : plist ph v a j <+: plist ph v a k := by
  unfold plist
  obtain ⟨d, rfl⟩ := Nat.exists_eq_add_of_le h
  rw [List.range_add, List.map_append]
  exact List.prefix_append _ _
theorem grown_below {w w' : World} (h : Below w.heap.size w w') (row : Option Nat) : w.grownBy w' row := ⟨h.os, h.tape, h.output, h.size, fun k hk _ => h.block k hk⟩
/-- the first tick that comes -/
def fstT (first : Int) : Int := mxf first 0
/-- the last tick that may come -/
def lstT (last : Int) : Int := mnf last 1000
/-- how many come -/
def cntT (first last : Int) : Nat := (lstT last - fstT first + 1).toNat
theorem orb_max (a b : Int) (w : World) :
    Calls Try.prog 20 #[.int .i64 a, .int .i64 b] w fun e w' => e = .returned (.int .i64 (mxf a b)) ∧ Below w.heap.size w w' := by
  have hc : (w.alloc (Obj.cells #[.int .i64 b] 3)).cell? ⟨w.heap.size, 0, none⟩ = some (.int .i64 b) := by go_cell
  go_enter Try.func20, Try.ntmps20
  go_wp2_with (go_at_call 22; refine (lag _ _ _ _ hc).mono ?_; rintro e w' ⟨rfl, rfl⟩)
  go_ret
  exact ⟨rfl, (Below.refl _ _).alloc (Nat.le_refl _) _⟩
section
variable (F : Fence)
/-- what the iterator's callees answer, within the fence -/
structure OrbCalls : Prop where
  f18 : F.fn 18
  hro : F.round = none
  min : ∀ (m : Nat) (a b : Int) (w : World), CallsIn F m Try.prog 19 #[.int .i64 a, .int .i64 b] w fun e w' => e = .returned (.int .i64 (mnf a b)) ∧ Below w.heap.size w w'
  max : ∀ (m : Nat) (a b : Int) (w : World), CallsIn F m Try.prog 20 #[.int .i64 a, .int .i64 b] w fun e w' => e = .returned (.int .i64 (mxf a b)) ∧ Below w.heap.size w w'
  place : ∀ (m : Nat) (pl ph v er t : Int) (w : World), CallsIn F m Try.prog 21 #[.agg #[.int .i64 pl, .int .i64 ph, .int .i64 v, .int .i64 er], .int .i64 t] w fun e w' => e = .returned (.int .i64 (plc ph v t)) ∧ Below w.heap.size w w'
/-- the boxes that the closure has captured -/
structure OrbBox (W : World) (n₀ b5 b4 b3 : Nat) (pl ph v er first last : Int) : Prop where
  lt5 : b5 < n₀
  lt4 : b4 < n₀
  lt3 : b3 < n₀
  c5 : W.cell? ⟨b5, 0, none⟩ = some (.int .i64 last)
  c4 : W.cell? ⟨b4, 0, none⟩ = some (.int .i64 first)
  s0 : W.cell? ⟨b3, 0, none⟩ = some (.int .i64 pl)
  s1 : W.cell? ⟨b3, 1, none⟩ = some (.int .i64 ph)
  s2 : W.cell? ⟨b3, 2, none⟩ = some (.int .i64 v)
  s3 : W.cell? ⟨b3, 3, none⟩ = some (.int .i64 er)
theorem OrbBox.below {W W' : World} {n₀ b5 b4 b3 : Nat} {pl ph v er first last : Int} (h : OrbBox W n₀ b5 b4 b3 pl ph v er first last) (hb : Below n₀ W W') : OrbBox W' n₀ b5 b4 b3 pl ph v er first last :=
  ⟨h.lt5, h.lt4, h.lt3, (hb.cell (p := ⟨b5, 0, none⟩) h.lt5).trans h.c5, (hb.cell (p := ⟨b4, 0, none⟩) h.lt4).trans h.c4, (hb.cell (p := ⟨b3, 0, none⟩) h.lt3).trans h.s0,
   (hb.cell (p := ⟨b3, 1, none⟩) h.lt3).trans h.s1, (hb.cell (p := ⟨b3, 2, none⟩) h.lt3).trans h.s2, (hb.cell (p := ⟨b3, 3, none⟩) h.lt3).trans h.s3⟩
set_option maxRecDepth 100000 in
set_option maxHeartbeats 1000000 in
theorem orb1 (n : Nat) (C : OrbCalls F) (hn : 1 ≤ n) (l n₀ b5 b4 b3 : Nat) (pl ph v er first last : Int) (J Jx : List (Int × Int) → World → Prop) (W : World) (hn₀ : n₀ ≤ W.heap.size)
    (hJ : AbidesFrom W.heap.size J)
    (hY : ∀ pre x W1, J pre W1 → pre.length < cntT first last → YieldAt F (n - 1) Try.prog l (penc x) W1 fun e W' =>
      (e = .returned (.bool true) ∧ J (pre ++ [x]) W' ∧ Below n₀ W1 W') ∨ (e = .returned (.bool false) ∧ Jx (pre ++ [x]) W'))
    (hB : OrbBox W n₀ b5 b4 b3 pl ph v er first last) (h0 : J [] W) :
    CallsIn F n Try.prog 18 #[.func (.yield l) #[] #[], .pointer (some ⟨b5, 0, none⟩), .pointer (some ⟨b4, 0, none⟩), .pointer (some ⟨b3, 0, none⟩)] W fun e W' => (∃ v, e = .returned v) ∧
      ((∃ ys, ys = plist ph v (fstT first) (cntT first last) ∧ J ys W') ∨ (∃ pre, pre <+: plist ph v (fstT first) (cntT first last) ∧ Jx pre W')) := by
  have hJ' : ∀ s A B, J s A → Below A.heap.size A B → J s B := fun s A B hs hb => hJ s A B none hs (grown_below hb _) (fun r e => by cases e)
  have e1 := hB.c5
  have e2 := hB.c4
  have HB := Lib.hid hB
  have HJ := Lib.hid hJ'
  have HY := Lib.hid hY
  have H0 := Lib.hid h0
  have hro := C.hro
  obtain ⟨lo, hlo⟩ : ∃ lo, fstT first = lo := ⟨_, rfl⟩
  obtain ⟨hi, hhi⟩ : ∃ hi, lstT last = hi := ⟨_, rfl⟩
  have g1 : 0 ≤ lo := by rw [← hlo]; unfold fstT mxf; split <;> omega
  have g2 : hi ≤ 1000 := by rw [← hhi]; unfold lstT mnf; split <;> omega
  obtain ⟨N, hN⟩ : ∃ N, cntT first last = N := ⟨_, rfl⟩
  have g3 : N = (hi - lo + 1).toNat := by rw [← hN]; unfold cntT; rw [hlo, hhi]
  have HLO := Lib.hid hlo; have HHI := Lib.hid hhi
  rw [hN] at HY
  rw [hN, hlo]
  clear hJ hJ' hY h0 hB hlo hhi hN
  refine callsIn_of_wp Try.func18 rfl C.f18 ?_ hro
  simp only [Try.ntmps18, List.size_toArray, List.length_cons, List.length_nil, Nat.reduceAdd, Nat.reduceSub, Array.replicate_succ, Array.replicate_zero, List.push_toArray, List.append_toArray, List.nil_append, List.cons_append]
  gi_wp2_with fail
  refine ⟨(C.min 0 0 0 W).1, (C.min _ _ _ _).mono ?_⟩
  rintro e w1 ⟨rfl, k1⟩
  have K1 := Lib.hid k1
  rw [show mnf last 1000 = hi from HHI.out]
  have e3 : w1.cell? ⟨b4, 0, none⟩ = some (.int .i64 first) := (k1.cell (p := ⟨b4, 0, none⟩) (Nat.lt_of_lt_of_le HB.out.lt4 hn₀)).trans e2
  clear k1 e1 e2
  gi_wp2_with fail
  refine ⟨(C.max 0 0 0 W).1, (C.max _ _ _ _).mono ?_⟩
  rintro e w2 ⟨rfl, k2⟩
  have K2 := Lib.hid (K1.out.trans (k2.mono K1.out.size))
  rw [show mxf first 0 = lo from HLO.out]
  clear k2 e3
  have hJ2 := Lib.hid (HJ.out _ _ _ H0.out K2.out)
  gi_wp2
  gi_loopw [6] (fun i wr => ∃ k : Nat, k ≤ N ∧ i = .int .i64 (lo + (k : Int)) ∧ J (plist ph v lo k) wr ∧ Below n₀ W wr) (fun i _ => 1002 - (intOf i).toNat)
  case atStart => exact ⟨0, Nat.zero_le _, by simp, hJ2.out, K2.out.mono hn₀⟩
  case round =>
    obtain ⟨k, hk, rfl, hj, hb⟩ := hrel
    have HJK := Lib.hid hj; have HBK := Lib.hid hb
    clear hj hb
    by_cases hlt : lo + (k : Int) ≤ hi
    · have hkN : k < N := by omega
      have hb := HB.out.below HBK.out
      have s0 := hb.s0; have s1 := hb.s1; have s2 := hb.s2; have s3 := hb.s3
      clear hb
      gi_wp2_with fail
      refine ⟨(C.place 0 0 0 0 0 0 W).1, (C.place _ _ _ _ _ _ _).mono ?_⟩
      rintro e w4 ⟨rfl, k4⟩
      have hlenk := plist_len ph v lo k
      obtain ⟨fn, tmps, assign, body, hy, hR⟩ := HY.out (plist ph v lo k) (lo + (k : Int), plc ph v (lo + (k : Int))) w4 (HJ.out _ _ _ HJK.out k4) (by rw [hlenk]; exact hkN)
      have HB4 := Lib.hid (HBK.out.trans (k4.mono (Nat.le_trans hn₀ HBK.out.size)))
      clear k4 s0 s1 s2 s3 hlenk
      dsimp only [penc] at hy
      rw [← plist_succ] at hR
      gi_wp2
      refine hR.mono ?_
      rintro e w5 (⟨rfl, hJ5, hk5⟩ | ⟨rfl, hJx5⟩)
      · have HJ5 := Lib.hid hJ5; have HK5 := Lib.hid hk5
        clear hR hy hJ5 hk5
        gi_wp2
        go_roundw
        case rel => exact ⟨k + 1, by omega, by simp; omega, HJ5.out, HB4.out.trans HK5.out⟩
        case measure => simp [intOf]; omega
      · have HJ5 := Lib.hid hJx5
        clear hR hy hJx5
        gi_wp2
        refine bodyPost_ret (results_none rfl _ _ _) rfl ?_
        exact ⟨⟨_, rfl⟩, .inr ⟨_, plist_prefix _ _ _ (by omega), HJ5.out⟩⟩
    · have HN : Hid (k = N) := Lib.hid (by omega)
      clear g3
      gi_wp2
      go_end0
      exact ⟨⟨_, rfl⟩, .inl (HN.out ▸ HJK.out)⟩
/-- what orbit hands back keeps its contract: all of the ticks, or as many as a round let come -/
theorem orb_stops (n : Nat) (C : OrbCalls F) (hn : 1 ≤ n) (n₀ b5 b4 b3 : Nat) (pl ph v er first last : Int) (w : World) (hn₀ : n₀ ≤ w.heap.size) (hB : OrbBox w n₀ b5 b4 b3 pl ph v er first last) :
    SeqStopsK F n Try.prog 18 #[.pointer (some ⟨b5, 0, none⟩), .pointer (some ⟨b4, 0, none⟩), .pointer (some ⟨b3, 0, none⟩)] penc (Below n₀)
      (fun ys => ys = plist ph v (fstT first) (cntT first last)) (fun pre => pre <+: plist ph v (fstT first) (cntT first last)) (cntT first last) w := fun l J Jx W hW hJ _ hY h0 =>
  orb1 F n C hn l n₀ b5 b4 b3 pl ph v er first last J Jx W (Nat.le_trans hn₀ hW.size) hJ hY (hB.below (hW.mono hn₀)) h0
end
/-- without a fence -/
theorem orb_wide : OrbCalls Fence.wide :=
  ⟨trivial, rfl, fun m a b w => callsIn_wide.2 (iminB a b w), fun m a b w => callsIn_wide.2 (orb_max a b w), fun m pl ph v er t w => callsIn_wide.2 (iplace pl ph v er t w)⟩
/-- orbit: three boxes, and the closure over them -/
theorem iorbit (pl ph v er first last : Int) (w : World) :
    Calls Try.prog 16 #[.agg #[.int .i64 pl, .int .i64 ph, .int .i64 v, .int .i64 er], .int .i64 first, .int .i64 last] w fun e w' =>
      e = .returned (.func (.func 18) #[] #[.pointer (some ⟨w.heap.size + 1 + 1, 0, none⟩), .pointer (some ⟨w.heap.size + 1, 0, none⟩), .pointer (some ⟨w.heap.size, 0, none⟩)]) ∧
      OrbBox w' (w.heap.size + 1 + 1 + 1) (w.heap.size + 1 + 1) (w.heap.size + 1) w.heap.size pl ph v er first last ∧ w'.heap.size = w.heap.size + 1 + 1 + 1 ∧ Below w.heap.size w w' := by
  obtain ⟨W1, hW⟩ : ∃ W1, ((w.alloc (.cells #[.int .i64 pl, .int .i64 ph, .int .i64 v, .int .i64 er] 25)).alloc (.cells #[.int .i64 first] 3)).alloc (.cells #[.int .i64 last] 3) = W1 := ⟨_, rfl⟩
  have b3 : Blk W1 w.heap.size 25 #[.int .i64 pl, .int .i64 ph, .int .i64 v, .int .i64 er] := by rw [← hW]; exact ((Blk.new _ _ _).alloc _).alloc _
  have b4 : Blk W1 (w.heap.size + 1) 3 #[.int .i64 first] := by
    rw [← hW]
    have h := (Blk.new (w.alloc (.cells #[.int .i64 pl, .int .i64 ph, .int .i64 v, .int .i64 er] 25)) 3 #[.int .i64 first]).alloc (.cells #[.int .i64 last] 3)
    rwa [World.size_alloc] at h
  have b5 : Blk W1 (w.heap.size + 1 + 1) 3 #[.int .i64 last] := by
    rw [← hW]
    have h := Blk.new ((w.alloc (.cells #[.int .i64 pl, .int .i64 ph, .int .i64 v, .int .i64 er] 25)).alloc (.cells #[.int .i64 first] 3)) 3 #[.int .i64 last]
    rwa [World.size_alloc, World.size_alloc] at h
  have hb : Below w.heap.size w W1 := by rw [← hW]; exact (((Below.refl _ _).alloc (Nat.le_refl _) _).alloc (by simp) _).alloc (by simp; omega) _
  have hs : W1.heap.size = w.heap.size + 1 + 1 + 1 := by rw [← hW]; simp
  have HO : Hid (OrbBox W1 (w.heap.size + 1 + 1 + 1) (w.heap.size + 1 + 1) (w.heap.size + 1) w.heap.size pl ph v er first last) :=
    Lib.hid ⟨by omega, by omega, by omega, b5.cell 0, b4.cell 0, b3.cell 0, b3.cell 1, b3.cell 2, b3.cell 3⟩
  have HB := Lib.hid hb; have HS := Lib.hid hs
  clear b3 b4 b5 hb hs
  go_enter Try.func16, Try.ntmps16
  go_wp2
  go_ret
  exact ⟨rfl, HO.out, HS.out, HB.out⟩
end Go.Proofs.Ytjpjigkamkhaoaa
