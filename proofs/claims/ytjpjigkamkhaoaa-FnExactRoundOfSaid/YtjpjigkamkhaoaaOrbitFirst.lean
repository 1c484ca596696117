/- The program's firstWhere over an orbit: the first tick whose place is 0; and the program's RoundOf. -/
import Derived.Test.YtjpjigkamkhaoaaOrbitSeq
import Derived.Test.YtjpjigkamkhaoaaRoundS
namespace Go.Proofs.Ytjpjigkamkhaoaa
open Go.ChangeShapes Go.WideShapes Go.ChangeAt Go.RowKit Go.Shelf
set_option linter.unusedVariables false
attribute [local go_sem] Oper.semAt_some
/-- a part of the ticks that ends in x: which tick x is -/
theorem plist_snoc {ph v a : Int} {K : Nat} {q : List (Int × Int)} {x : Int × Int} (h : q ++ [x] <+: plist ph v a K) :
    q.length < K ∧ x = (a + (q.length : Int), plc ph v (a + (q.length : Int))) ∧ q = plist ph v a q.length := by
  have hl := h.length_le
  rw [plist_len] at hl
  simp at hl
  have hp : plist ph v a (q.length + 1) <+: plist ph v a K := plist_prefix _ _ _ (by omega)
  have he : q ++ [x] = plist ph v a (q.length + 1) := by
    have h1 := List.prefix_of_prefix_length_le h hp (by rw [plist_len]; simp)
    exact h1.eq_of_length (by rw [plist_len]; simp)
  rw [plist_succ] at he
  have h2 := List.append_inj he (by rw [plist_len])
  exact ⟨by omega, by simpa using h2.2, h2.1⟩
theorem two_set {W : World} {a b : Addr} {x y u v : Value} (ha : W.cell? a = some u) (hb : W.cell? b = some v) (hne : a ≠ b) :
    ((W.setCell a x).setCell b y).cell? a = some x ∧ ((W.setCell a x).setCell b y).cell? b = some y := by
  refine ⟨?_, ?_⟩
  · rw [World.cell?_setCell_other _ _ _ _ (fun h => hne h.symm)]
    exact World.cell?_setCell_same' _ _ _ (by rw [ha]; rfl)
  · exact World.cell?_setCell_same' _ _ _ (by rw [World.cell?_setCell_other _ _ _ _ hne, hb]; rfl)
theorem plist_mem (ph v a : Int) (k j : Nat) (h : j < k) : (a + (j : Int), plc ph v (a + (j : Int))) ∈ plist ph v a k := by
  unfold plist
  exact List.mem_map.2 ⟨j, List.mem_range.2 h, rfl⟩
theorem isz (x : Int) (w : World) :
    Calls Try.prog 14 #[.int .i64 x] w fun e w' => e = .returned (.bool (x == 0)) ∧ w = w' := by
  go_enter Try.func14, Try.ntmps14
  go_wp2
  go_ret
  exact ⟨rfl, rfl⟩
/-- what firstWhere answers, over the ticks from a on, K of them, asking for the place 0 -/
def SaysFirst (w : World) (ph v a : Int) (K : Nat) (e : Ending) (w' : World) : Prop :=
  ((∃ k : Nat, k < K ∧ plc ph v (a + (k : Int)) = 0 ∧ (∀ j : Nat, j < k → plc ph v (a + (j : Int)) ≠ 0) ∧ e = .returned (.tuple #[.int .i64 (a + (k : Int)), .bool true])) ∨
   ((∀ j : Nat, j < K → plc ph v (a + (j : Int)) ≠ 0) ∧ e = .returned (.tuple #[.int .i64 0, .bool false]))) ∧ Below w.heap.size w w'
set_option maxRecDepth 100000 in
set_option maxHeartbeats 2000000 in
theorem ifirst (F : Fence) (n : Nat) (C : OrbCalls F) (h15 : F.fn 15)
    (hz : ∀ (m : Nat) (x : Int) (w : World), CallsIn F m Try.prog 14 #[.int .i64 x] w fun e w' => e = .returned (.bool (x == 0)) ∧ w = w') (hn : 3 ≤ n)
    (w : World) (n₀ b5 b4 b3 : Nat) (pl ph v er first last : Int) (hn₀ : n₀ ≤ w.heap.size) (hB : OrbBox w n₀ b5 b4 b3 pl ph v er first last) :
    CallsIn F n Try.prog 15 #[.func (.func 18) #[] #[.pointer (some ⟨b5, 0, none⟩), .pointer (some ⟨b4, 0, none⟩), .pointer (some ⟨b3, 0, none⟩)], .func (.func 14) #[] #[]] w
      (SaysFirst w ph v (fstT first) (cntT first last)) := by
  have h1 : 1 ≤ n := by omega
  have hro := C.hro
  refine callsIn_of_wp_marks Try.func15 rfl h15 ?_ hro
  simp only [Try.ntmps15, List.size_toArray, List.length_cons, List.length_nil, Nat.reduceAdd, Nat.reduceSub, Array.replicate_succ, Array.replicate_zero, List.push_toArray, List.append_toArray, List.nil_append, List.cons_append]
  gi_wp2
  obtain ⟨W0, hW0⟩ : ∃ W0, ((w.alloc (.cells #[.func (.func 14) #[] #[]] 32)).alloc (.cells #[.int .i64 0] 3)).alloc (.cells #[.bool false] 4) = W0 := ⟨_, rfl⟩
  have c3 : Blk W0 w.heap.size 32 #[.func (.func 14) #[] #[]] := by rw [← hW0]; exact ((Blk.new _ _ _).alloc _).alloc _
  have c4 : Blk W0 (w.heap.size + 1) 3 #[.int .i64 0] := by
    rw [← hW0]
    have h := (Blk.new (w.alloc (.cells #[.func (.func 14) #[] #[]] 32)) 3 #[.int .i64 0]).alloc (.cells #[.bool false] 4)
    rwa [World.size_alloc] at h
  have c5 : Blk W0 (w.heap.size + 1 + 1) 4 #[.bool false] := by
    rw [← hW0]
    have h := Blk.new ((w.alloc (.cells #[.func (.func 14) #[] #[]] 32)).alloc (.cells #[.int .i64 0] 3)) 4 #[.bool false]
    rwa [World.size_alloc, World.size_alloc] at h
  have hb : Below w.heap.size w W0 := by rw [← hW0]; exact (((Below.refl _ _).alloc (Nat.le_refl _) _).alloc (by simp) _).alloc (by simp; omega) _
  have hs : W0.heap.size = w.heap.size + 1 + 1 + 1 := by rw [← hW0]; simp
  have hB0 := hB.below (hb.mono hn₀)
  rw [hW0]
  have HB0 := Lib.hid hb
  have HS := Lib.hid hs
  have k3 := c3.cell 0; have k4 := c4.cell 0; have k5 := c5.cell 0
  have f4 := c4.frozen 0; have f5 := c5.frozen 0
  clear hb c3 c4 c5 hW0
  refine wpIn_rangeFunc_ownF hro h1 (gf := 18) (lb := #[.pointer (some ⟨b5, 0, none⟩), .pointer (some ⟨b4, 0, none⟩), .pointer (some ⟨b3, 0, none⟩)]) rfl C.f18 (enters_of Try.func18 (by kernel_rfl) rfl)
    (orb_stops F (n - 1) C (by omega) n₀ b5 b4 b3 pl ph v er first last W0 (by omega) hB0) belowK_t (belowK_b (by omega)) (Below.refl _ _) (fun _ => rfl)
    (fun pre W => ((∀ y ∈ pre, y.2 ≠ 0) ∧ W.cell? ⟨w.heap.size, 0, none⟩ = some (.func (.func 14) #[] #[]) ∧ W.cell? ⟨w.heap.size + 1, 0, none⟩ = some (.int .i64 0) ∧ W.frozen? ⟨w.heap.size + 1, 0, none⟩ = false ∧
      W.cell? ⟨w.heap.size + 1 + 1, 0, none⟩ = some (.bool false) ∧ W.frozen? ⟨w.heap.size + 1 + 1, 0, none⟩ = false) ∧ Below w.heap.size w W)
    (fun c pre W => (c = .ret ∧ (∃ q x, pre = q ++ [x] ∧ (∀ y ∈ q, y.2 ≠ 0) ∧ x.2 = 0 ∧ W.cell? ⟨w.heap.size + 1, 0, none⟩ = some (.int .i64 x.1)) ∧ W.cell? ⟨w.heap.size + 1 + 1, 0, none⟩ = some (.bool true)) ∧ Below w.heap.size w W)
    (OwnFrom.and (Own.from (fun s A B row hs hg hr => ⟨hs.1, cell_kept hs.2.1 hg hr, cell_kept hs.2.2.1 hg hr, (frozen_kept hs.2.2.1 hg hr).trans hs.2.2.2.1, cell_kept hs.2.2.2.2.1 hg hr, (frozen_kept hs.2.2.2.2.1 hg hr).trans hs.2.2.2.2.2⟩) _) (ownFrom_below (Nat.le_refl _) (by omega)))
    (fun c => OwnFrom.and (Own.from (fun s A B row hs hg hr => by
      obtain ⟨hc, ⟨q, x, h1, h2, h3, h4⟩, h5⟩ := hs
      exact ⟨hc, ⟨q, x, h1, h2, h3, cell_kept h4 hg hr⟩, cell_kept h5 hg hr⟩) _) (ownFrom_below (Nat.le_refl _) (by omega)))
    ⟨⟨by simp, k3, k4, f4, k5, f5⟩, HB0.out⟩
    (fun x => { tmps := #[.func (.func 18) #[] #[.pointer (some ⟨b5, 0, none⟩), .pointer (some ⟨b4, 0, none⟩), .pointer (some ⟨b3, 0, none⟩)], .func (.func 14) #[] #[], undef,
      .pointer (some ⟨w.heap.size, 0, none⟩), .pointer (some ⟨w.heap.size + 1, 0, none⟩), .pointer (some ⟨w.heap.size + 1 + 1, 0, none⟩), .int .i64 x.1, .int .i64 x.2, undef,
      .func (.func 18) #[] #[.pointer (some ⟨b5, 0, none⟩), .pointer (some ⟨b4, 0, none⟩), .pointer (some ⟨b3, 0, none⟩)], .int .i64 x.1, .int .i64 x.2, undef, undef, undef, undef, undef], defers := [] }) ?assign ?body ?done ?stop
  case assign =>
    intro l x W K hK
    gi_wp2
    exact hK
  case body =>
    rintro l pre ⟨t, p⟩ W ⟨⟨hp, q3, q4, g4, q5, g5⟩, hB⟩ _
    have HP := Lib.hid hp; have HBW := Lib.hid hB
    have hsz : W0.heap.size = w.heap.size + 1 + 1 + 1 := HS.out
    clear hp hB k3 k4 k5 f4 f5 hB0 hs
    gi_wp2_with fail
    refine ⟨(hz 0 0 W).1, fun _ => by omega, (CallsIn.inRound l (hz _ _ _)).mono ?_⟩
    rintro e w1 ⟨rfl, rfl⟩
    by_cases hpz : p = 0
    · subst hpz
      obtain ⟨u1, u2⟩ := two_set (x := .int .i64 t) (y := .bool true) q4 q5 (by simp)
      have U1 := Lib.hid u1; have U2 := Lib.hid u2
      clear u1 u2
      gi_wp2
      exact ⟨(KeepsOthers.setCell _ _ _).trans (KeepsOthers.setCell _ _ _), ⟨rfl, ⟨pre, (t, 0), rfl, HP.out, rfl, U1.out⟩, U2.out⟩, (HBW.out.setCell (p := ⟨w.heap.size + 1, 0, none⟩) (by simp) _).setCell (p := ⟨w.heap.size + 1 + 1, 0, none⟩) (by simp; omega) _⟩
    · have HZ := Lib.hid hpz
      gi_wp2
      refine ⟨KeepsOthers.refl _, Below.refl _ _, ⟨fun y hy => ?_, q3, q4, g4, q5, g5⟩, HBW.out⟩
      rcases List.mem_append.1 hy with h | h
      · exact HP.out y h
      · obtain rfl : y = (t, p) := by simpa using h
        exact HZ.out
  case done =>
    rintro D ys W hD rfl ⟨⟨hp, q3, q4, g4, q5, g5⟩, hB⟩ hK
    have hsz : W0.heap.size = w.heap.size + 1 + 1 + 1 := HS.out
    have HP := Lib.hid hp; have HBW := Lib.hid hB
    clear hp hB k3 k4 k5 f4 f5 hB0 hs
    have hK' := ((KeepsOthers.setCell W ⟨w.heap.size + 1, 0, none⟩ (.int .i64 0)).trans (KeepsOthers.setCell _ ⟨w.heap.size + 1 + 1, 0, none⟩ (.bool false))).same D _ hK rfl
    have HK' := Lib.hid hK'
    obtain ⟨u1, u2⟩ := two_set (x := .int .i64 0) (y := .bool false) q4 q5 (by simp)
    have U1 := Lib.hid u1; have U2 := Lib.hid u2
    clear u1 u2 hK'
    gi_wp2
    refine ⟨by simp, .inl ⟨_, _, rfl, run_takeDeferred HK'.out, ?_⟩⟩
    have hc4 := cell_kept U1.out (grownBy_putObj' _ D (.deferred none)) (fun r e => by cases e; exact ⟨_, HK'.out, rfl⟩)
    have hc5 := cell_kept U2.out (grownBy_putObj' _ D (.deferred none)) (fun r e => by cases e; exact ⟨_, HK'.out, rfl⟩)
    refine ⟨.tuple #[.int .i64 0, .bool false], ?_, .inr ⟨fun j hj => HP.out _ (plist_mem _ _ _ _ _ hj), rfl⟩,
      ((HBW.out.setCell (p := ⟨w.heap.size + 1, 0, none⟩) (by simp) _).setCell (p := ⟨w.heap.size + 1 + 1, 0, none⟩) (by simp; omega) _).trans (belowK_b (w := w) (Nat.le_refl _) _ D _ _ (by omega) HK'.out rfl rfl)⟩
    simp [results, Try.f15, go_sem, hc4, hc5]
  case stop =>
    rintro D c pre W hD hSp ⟨⟨rfl, ⟨q, x, rfl, hq, hx, q4⟩, q5⟩, hB⟩ hK
    have hsz : W0.heap.size = w.heap.size + 1 + 1 + 1 := HS.out
    have HQ := Lib.hid hq; have HX := Lib.hid hx; have HSP := Lib.hid (plist_snoc hSp); have HBW := Lib.hid hB
    clear hq hx hSp hB k3 k4 k5 f4 f5 hB0 hs
    gi_wp2
    refine ⟨by simp, .inl ⟨_, _, rfl, run_takeDeferred hK, ?_⟩⟩
    have hc4 := cell_kept q4 (grownBy_putObj' _ D (.deferred none)) (fun r e => by cases e; exact ⟨_, hK, rfl⟩)
    have hc5 := cell_kept q5 (grownBy_putObj' _ D (.deferred none)) (fun r e => by cases e; exact ⟨_, hK, rfl⟩)
    obtain ⟨p1, p2, p3⟩ := HSP.out
    refine ⟨.tuple #[.int .i64 x.1, .bool true], ?_, .inl ⟨q.length, p1, ?_, fun j hj => ?_, ?_⟩, HBW.out.trans (belowK_b (w := w) (Nat.le_refl _) _ D _ _ (by omega) hK rfl rfl)⟩
    · simp [results, Try.f15, go_sem, hc4, hc5]
    · rw [← HX.out, p2]
    · exact HQ.out _ (by rw [p3]; exact plist_mem _ _ _ _ _ hj)
    · rw [p2]
theorem fst_one : fstT 1 = 1 := by decide
theorem cnt_round : cntT 1 360 = 360 := by decide
theorem iround (pl ph v er : Int) (w : World) :
    Calls Try.prog 9 #[.agg #[.int .i64 pl, .int .i64 ph, .int .i64 v, .int .i64 er]] w (SaysRound w v) := by
  have O1 := Lib.hid (orb_one w #[.int .i64 pl, .int .i64 ph, .int .i64 v, .int .i64 er] 25)
  have c2 : (w.alloc (.cells #[.int .i64 pl, .int .i64 ph, .int .i64 v, .int .i64 er] 25)).cell? ⟨w.heap.size, 2, none⟩ = some (.int .i64 v) := (Blk.new w 25 #[.int .i64 pl, .int .i64 ph, .int .i64 v, .int .i64 er]).cell 2
  go_enter Try.func9, Try.ntmps9
  go_wp2_with fail
  refine (iorbit 0 0 v 0 1 360 _).mono ?_
  rintro e w1 ⟨rfl, hO, hs, hb⟩
  rw [World.size_alloc] at hO hs
  have HO := Lib.hid hO; have HB := Lib.hid (O1.out.trans (hb.mono O1.out.size)); have HS := Lib.hid hs
  clear hO hs hb c2
  go_wp2_with fail
  refine (callsIn_wide.1 (ifirst Fence.wide 3 orb_wide trivial (fun m x w => callsIn_wide.2 (isz x w)) (Nat.le_refl _) w1 _ _ _ _ 0 0 v 0 1 360 (Nat.le_of_eq HS.out.symm) HO.out)).mono ?_
  rintro e w2 ⟨h, hb⟩
  have HB2 := Lib.hid (HB.out.trans (hb.mono HB.out.size))
  clear hb
  rw [fst_one, cnt_round] at h
  rcases h with ⟨k, hk, hz, hm, rfl⟩ | ⟨hn, rfl⟩
  · have HR : Hid (IsRound v (1 + (k : Int))) := by
      refine Lib.hid ⟨by omega, by omega, ?_, fun u h1 h2 => ?_⟩
      · rw [← plc_zero v (by omega) (by omega)]; exact hz
      · obtain ⟨j, rfl⟩ : ∃ j : Nat, u = 1 + (j : Int) := ⟨(u - 1).toNat, by omega⟩
        rw [← plc_zero v (by omega) (by omega)]
        exact hm j (by omega)
    clear hz hm hk
    go_wp2
    go_ret
    exact ⟨⟨_, HR.out, rfl⟩, HB2.out⟩
  · exfalso
    refine hn 359 (by omega) ?_
    rw [plc_zero v (by omega) (by omega)]
    exact ang_turn _
end Go.Proofs.Ytjpjigkamkhaoaa
