/- The program's watchOf: the value that follows two nodes. -/
import Derived.Test.YtlaigbhiligceaaGreatDoorSight
import Derived.Laws.EntriesVeiled
namespace Go.Proofs.YtlaigbhiligceaaGreatDoor
open Go.ChangeShapes Go.WideShapes Go.ChangeAt Go.RowKit Go.Maps
set_option linter.unusedVariables false
theorem grown_one (w : World) (a : Addr) (u : Value) : w.grownBy (w.setCell a u) (some a.block) := ⟨rfl, rfl, rfl, by simp, fun k hk hne => Below.heap_setCell w a u k (fun e => hne (by rw [e]))⟩
/-- the cells of a watch, one by one -/
theorem Blk.watch {w : World} {g : Nat} {t : TypeId} {v0 v1 v2 v3 v4 v5 v6 v7 v8 v9 v10 v11 v12 : Value} (h : Blk w g t #[v0, v1, v2, v3, v4, v5, v6, v7, v8, v9, v10, v11, v12]) :
    w.cell? ⟨g, 0, none⟩ = some v0 ∧ w.cell? ⟨g, 1, none⟩ = some v1 ∧ w.cell? ⟨g, 2, none⟩ = some v2 ∧ w.cell? ⟨g, 3, none⟩ = some v3 ∧ w.cell? ⟨g, 4, none⟩ = some v4 ∧
    w.cell? ⟨g, 5, none⟩ = some v5 ∧ w.cell? ⟨g, 6, none⟩ = some v6 ∧ w.cell? ⟨g, 7, none⟩ = some v7 ∧ w.cell? ⟨g, 8, none⟩ = some v8 ∧ w.cell? ⟨g, 9, none⟩ = some v9 ∧
    w.cell? ⟨g, 10, none⟩ = some v10 ∧ w.cell? ⟨g, 11, none⟩ = some v11 ∧ w.cell? ⟨g, 12, none⟩ = some v12 :=
  ⟨h.cell 0, h.cell 1, h.cell 2, h.cell 3, h.cell 4, h.cell 5, h.cell 6, h.cell 7, h.cell 8, h.cell 9, h.cell 10, h.cell 11, h.cell 12⟩
/-- how much is unsure of two nodes -/
def douOf (ls : List Sat4) (li : List Tri) (a b : Int) : Int := (arcW ls li a + arcW ls li b) / 2
theorem douOf_bd (ls : List Sat4) (li : List Tri) (a b : Int) : 0 ≤ douOf ls li a b ∧ douOf ls li a b < 360 := by
  have h1 := arcW_bd ls li a; have h2 := arcW_bd ls li b
  unfold douOf; omega
theorem arc_w (x y : Int) (w : World) : (Instr.field 115 (.agg #[.int .i64 x, .int .i64 y]) 1).run Tryz.prog w = .ok (.int .i64 y) w := by kernel_rfl
set_option maxHeartbeats 1000000 in
set_option maxRecDepth 100000 in
theorem iwatch (w : World) (P R X V U D Q : Int) (ns ni nz : Nat) (ls : List Sat4) (li lz : List Tri) (As : Option Addr) (cs : Nat) (Ai : Option Addr) (ci : Nat) (Az : Option Addr) (cz : Nat) (D0 : Nat) (h : InSky w (D0) As ns cs Ai ni ci Az nz cz ls li lz) (hD : D0 ≤ w.heap.size) (hs : ns ≤ 16777216) (hi : ni ≤ 16777216) (hP : J64 P) (hk1 : ∀ x ∈ ls, Ok4 x) (hk2 : ∀ x ∈ li, Ok3 x) (nA tW : Addr) (E : Errs w nA tW) (a b : Int) (ha : J64 a) (hb : J64 b)
    (lim : Int) (hl : limI P R X V ls li a b = lim) (dou : Int) (hd : douOf ls li a b = dou) :
    Calls Tryz.prog 33 #[.agg #[.int .i64 P, .slice As ns cs, .slice Ai ni ci, .int .i64 R, .int .i64 X, .int .i64 V, .int .i64 U, .int .i64 D, .slice Az nz cz, .int .i64 Q], .int .i64 a, .int .i64 b] w fun e w' => (∃ mb tb lb db, e = .returned (.agg #[.int .i64 P, .slice As ns cs, .slice Ai ni ci, .int .i64 R, .int .i64 X, .int .i64 V, .int .i64 U, .int .i64 D, .slice Az nz cz, .int .i64 Q, .int .i64 a, .int .i64 b, .func (.func 124) #[] #[.pointer (some ⟨tb, 0, none⟩), .pointer (some ⟨lb, 0, none⟩), .pointer (some ⟨db, 0, none⟩)]]) ∧ w.heap.size ≤ mb ∧ Tab w' mb tb lb db lim dou 0) ∧ Below w.heap.size w w' := by
  obtain ⟨W0, hW0⟩ : ∃ W, W = (w.alloc (.cells #[.int .i64 P, .slice As ns cs, .slice Ai ni ci, .int .i64 R, .int .i64 X, .int .i64 V, .int .i64 U, .int .i64 D, .slice Az nz cz, .int .i64 Q] 28)).alloc (.cells #[.int .i64 0, .slice none 0 0, .slice none 0 0, .int .i64 0, .int .i64 0, .int .i64 0, .int .i64 0, .int .i64 0, .slice none 0 0, .int .i64 0, .int .i64 0, .int .i64 0, .nilFunc] 69) := ⟨_, rfl⟩
  have T0 : Hid (Below w.heap.size w W0) := Lib.hid (by rw [hW0]; exact ((Below.refl _ _).alloc (Nat.le_refl _) _).alloc (by simp) _)
  have E0 := Lib.hid (E.below T0.out)
  have H0 := Lib.hid (h.below T0.out hD)
  have HD : Hid (D0 ≤ W0.heap.size) := Lib.hid (Nat.le_trans hD T0.out.size)
  have Z0 : Hid (Blk W0 w.heap.size 28 #[.int .i64 P, .slice As ns cs, .slice Ai ni ci, .int .i64 R, .int .i64 X, .int .i64 V, .int .i64 U, .int .i64 D, .slice Az nz cz, .int .i64 Q]) := Lib.hid (by rw [hW0]; exact (Blk.new _ _ _).alloc _)
  have Y0 : Hid (Blk W0 (w.heap.size + 1) 69 #[.int .i64 0, .slice none 0 0, .slice none 0 0, .int .i64 0, .int .i64 0, .int .i64 0, .int .i64 0, .int .i64 0, .slice none 0 0, .int .i64 0, .int .i64 0, .int .i64 0, .nilFunc]) := Lib.hid (by
    rw [hW0]
    have h := Blk.new (w.alloc (.cells #[.int .i64 P, .slice As ns cs, .slice Ai ni ci, .int .i64 R, .int .i64 X, .int .i64 V, .int .i64 U, .int .i64 D, .slice Az nz cz, .int .i64 Q] 28)) 69 #[.int .i64 0, .slice none 0 0, .slice none 0 0, .int .i64 0, .int .i64 0, .int .i64 0, .int .i64 0, .int .i64 0, .slice none 0 0, .int .i64 0, .int .i64 0, .int .i64 0, .nilFunc]
    simpa using h)
  obtain ⟨xa, hxa⟩ : ∃ z, arcS ls li a 0 = z := ⟨_, rfl⟩
  obtain ⟨xb, hxb⟩ : ∃ z, arcS ls li b 0 = z := ⟨_, rfl⟩
  obtain ⟨wa, hwa⟩ : ∃ z, arcW ls li a = z := ⟨_, rfl⟩
  obtain ⟨wb, hwb⟩ : ∃ z, arcW ls li b = z := ⟨_, rfl⟩
  have q1 := arcW_bd ls li a; have q2 := arcW_bd ls li b
  rw [hwa] at q1; rw [hwb] at q2
  have g1 : IntKind.i64.wrap (wa + wb) = wa + wb := wrap_in _ (by omega) (by omega)
  have g2 : IntKind.i64.wrap ((wa + wb).tdiv 2) = dou := by
    rw [Int.tdiv_eq_ediv_of_nonneg (by omega), wrap_in _ (by omega) (by omega), ← hd, ← hwa, ← hwb]; rfl
  have HXA := Lib.hid hxa; have HXB := Lib.hid hxb; have HWA := Lib.hid hwa; have HWB := Lib.hid hwb
  have HJA := Lib.hid ha; have HJB := Lib.hid hb; have HJP := Lib.hid hP; have HK1 := Lib.hid hk1; have HK2 := Lib.hid hk2; have HL := Lib.hid hl
  clear E h hD hxa hxb hwa hwb ha hb hP hk1 hk2 hl hd q1 q2
  obtain ⟨c0, c1, c2, c3, c4, c5, c6, c7, c8, c9⟩ := Z0.out.ten
  have hbl : ∀ (tb lb db : Nat) (w : World), (Instr.build 69 #[(0, .agg #[.int .i64 P, .slice As ns cs, .slice Ai ni ci, .int .i64 R, .int .i64 X, .int .i64 V, .int .i64 U, .int .i64 D, .slice Az nz cz, .int .i64 Q]), (1, .int .i64 a), (2, .int .i64 b), (3, .func (.func 124) #[] #[.pointer (some ⟨tb, 0, none⟩), .pointer (some ⟨lb, 0, none⟩), .pointer (some ⟨db, 0, none⟩)])]).run Tryz.prog w = .ok (.agg #[.int .i64 P, .slice As ns cs, .slice Ai ni ci, .int .i64 R, .int .i64 X, .int .i64 V, .int .i64 U, .int .i64 D, .slice Az nz cz, .int .i64 Q, .int .i64 a, .int .i64 b, .func (.func 124) #[] #[.pointer (some ⟨tb, 0, none⟩), .pointer (some ⟨lb, 0, none⟩), .pointer (some ⟨db, 0, none⟩)]]) w := fun _ _ _ _ => by kernel_rfl
  have hfa : ∀ w : World, (Instr.field 115 (.agg #[.int .i64 xa, .int .i64 wa]) 1).run Tryz.prog w = .ok (.int .i64 wa) w := arc_w xa wa
  have hfb : ∀ w : World, (Instr.field 115 (.agg #[.int .i64 xb, .int .i64 wb]) 1).run Tryz.prog w = .ok (.int .i64 wb) w := arc_w xb wb
  go_enter Tryz.func33, Tryz.ntmps33
  go_wp2_with fail
  rw [← hW0]
  clear hW0
  go_region_held3 (fun w' => (w'.cell? ⟨w.heap.size, 0, none⟩ = some (.int .i64 P) ∧ w'.cell? ⟨w.heap.size, 1, none⟩ = some (.slice As ns cs) ∧ w'.cell? ⟨w.heap.size, 2, none⟩ = some (.slice Ai ni ci) ∧ w'.cell? ⟨w.heap.size, 3, none⟩ = some (.int .i64 R) ∧ w'.cell? ⟨w.heap.size, 4, none⟩ = some (.int .i64 X) ∧ w'.cell? ⟨w.heap.size, 5, none⟩ = some (.int .i64 V) ∧ w'.cell? ⟨w.heap.size, 6, none⟩ = some (.int .i64 U) ∧ w'.cell? ⟨w.heap.size, 7, none⟩ = some (.int .i64 D) ∧ w'.cell? ⟨w.heap.size, 8, none⟩ = some (.slice Az nz cz) ∧ w'.cell? ⟨w.heap.size, 9, none⟩ = some (.int .i64 Q))) (first | exact ⟨c0, c1, c2, c3, c4, c5, c6, c7, c8, c9⟩ | exact hcA | go_keep) (first
    | (go_at_call 75; have hbefore := HBA.out; refine (inodeat wA P R X V U D Q ns ni nz ls li lz As cs Ai ci Az cz D0 (H0.out.below HBA.out HD.out) (Nat.le_trans HD.out HBA.out.size) hs hi nA tW (E0.out.below HBA.out) b 0 HJB.out xb wb HXB.out HWB.out).mono ?_; rintro e wB ⟨rfl, bB⟩; have HBB : Hid (Below W0.heap.size W0 wB) := Lib.hid (HBA.out.trans (bB.mono HBA.out.size)); have hcA := (Z0.out.below HBB.out Z0.out.lt).ten; clear bB)
    | (go_at_call 75; refine (inodeat W0.drew P R X V U D Q ns ni nz ls li lz As cs Ai ci Az cz D0 (H0.out.below (Below.refl _ _).drew HD.out) HD.out hs hi nA tW E0.out.drew a 0 HJA.out xa wa HXA.out HWA.out).mono ?_; rintro e wA ⟨rfl, bA⟩; have HBA : Hid (Below W0.heap.size W0 wA) := Lib.hid ((Below.refl _ _).drew.trans bA); have hcA := (Z0.out.below HBA.out Z0.out.lt).ten; clear bA))
  clear c0 c1 c2 c3 c4 c5 c6 c7 c8 c9 hcA
  obtain ⟨c0, c1, c2, c3, c4, c5, c6, c7, c8, c9⟩ := (Z0.out.below HBB.out Z0.out.lt).ten
  go_wp2_with fail
  go_region_held3 (fun w' => (w'.cell? ⟨w.heap.size, 0, none⟩ = some (.int .i64 P) ∧ w'.cell? ⟨w.heap.size, 1, none⟩ = some (.slice As ns cs) ∧ w'.cell? ⟨w.heap.size, 2, none⟩ = some (.slice Ai ni ci) ∧ w'.cell? ⟨w.heap.size, 3, none⟩ = some (.int .i64 R) ∧ w'.cell? ⟨w.heap.size, 4, none⟩ = some (.int .i64 X) ∧ w'.cell? ⟨w.heap.size, 5, none⟩ = some (.int .i64 V) ∧ w'.cell? ⟨w.heap.size, 6, none⟩ = some (.int .i64 U) ∧ w'.cell? ⟨w.heap.size, 7, none⟩ = some (.int .i64 D) ∧ w'.cell? ⟨w.heap.size, 8, none⟩ = some (.slice Az nz cz) ∧ w'.cell? ⟨w.heap.size, 9, none⟩ = some (.int .i64 Q))) (first | with_reducible exact ⟨c0, c1, c2, c3, c4, c5, c6, c7, c8, c9⟩ | with_reducible exact hcA | with_reducible exact HCE.out | go_keep) (first
    | (go_at_call 77; refine (ilimit wB.drew P R X V U D Q ns ni nz ls li lz As cs Ai ci Az cz D0 (H0.out.below HBB.out.drew HD.out) (Nat.le_trans HD.out HBB.out.drew.size) hs hi HJP.out HK1.out HK2.out a b HJA.out HJB.out lim HL.out).mono ?_; rintro e wC ⟨rfl, bC⟩; have HBC : Hid (Below W0.heap.size W0 wC) := Lib.hid (HBB.out.drew.trans (bC.mono HBB.out.drew.size)); have hcA := (Z0.out.below HBC.out Z0.out.lt).ten; clear bC)
    | (go_at_call 76; refine (itable wC lim dou).mono ?_; rintro e wD ⟨⟨mb, tb, lb, db, rfl, hm, hT⟩, bD⟩; have HM := Lib.hid hm; have HT := Lib.hid hT; have HBD : Hid (Below W0.heap.size W0 wD) := Lib.hid (HBC.out.trans (bD.mono HBC.out.size)); have hcA := (Z0.out.below HBD.out Z0.out.lt).ten; have YD := Lib.hid (Y0.out.below HBD.out Y0.out.lt); clear bD hm hT; obtain ⟨y0, y1, y2, y3, y4, y5, y6, y7, y8, y9, y10, y11, y12⟩ := YD.out.watch; have f0 := YD.out.frozen 0; have f1 := YD.out.frozen 1; have f2 := YD.out.frozen 2; have f3 := YD.out.frozen 3; have f4 := YD.out.frozen 4; have f5 := YD.out.frozen 5; have f6 := YD.out.frozen 6; have f7 := YD.out.frozen 7; have f8 := YD.out.frozen 8; have f9 := YD.out.frozen 9; have f10 := YD.out.frozen 10; have f11 := YD.out.frozen 11; have f12 := YD.out.frozen 12; have HCE := Lib.hid (((((((((((((((Z0.out.below HBD.out Z0.out.lt).far (p := ⟨w.heap.size + 1, 0, none⟩) (by simp) (.int .i64 P)).far (p := ⟨w.heap.size + 1, 1, none⟩) (by simp) (.slice As ns cs)).far (p := ⟨w.heap.size + 1, 2, none⟩) (by simp) (.slice Ai ni ci)).far (p := ⟨w.heap.size + 1, 3, none⟩) (by simp) (.int .i64 R)).far (p := ⟨w.heap.size + 1, 4, none⟩) (by simp) (.int .i64 X)).far (p := ⟨w.heap.size + 1, 5, none⟩) (by simp) (.int .i64 V)).far (p := ⟨w.heap.size + 1, 6, none⟩) (by simp) (.int .i64 U)).far (p := ⟨w.heap.size + 1, 7, none⟩) (by simp) (.int .i64 D)).far (p := ⟨w.heap.size + 1, 8, none⟩) (by simp) (.slice Az nz cz)).far (p := ⟨w.heap.size + 1, 9, none⟩) (by simp) (.int .i64 Q)).far (p := ⟨w.heap.size + 1, 10, none⟩) (by simp) (.int .i64 a)).far (p := ⟨w.heap.size + 1, 11, none⟩) (by simp) (.int .i64 b)).far (p := ⟨w.heap.size + 1, 12, none⟩) (by simp) (.func (.func 124) #[] #[.pointer (some ⟨tb, 0, none⟩), .pointer (some ⟨lb, 0, none⟩), .pointer (some ⟨db, 0, none⟩)]))).ten; clear hbl hfa hfb hbefore g1 g2 c0 c1 c2 c3 c4 c5 c6 c7 c8 c9))
  have hsz : w.heap.size + 1 < wC.heap.size := Nat.lt_of_lt_of_le Y0.out.lt HBC.out.size
  have hm := HM.out
  obtain ⟨wE, hE⟩ : ∃ x, x = (((((((((((((wD.setCell ⟨w.heap.size + 1, 0, none⟩ (.int .i64 P)).setCell ⟨w.heap.size + 1, 1, none⟩ (.slice As ns cs)).setCell ⟨w.heap.size + 1, 2, none⟩ (.slice Ai ni ci)).setCell ⟨w.heap.size + 1, 3, none⟩ (.int .i64 R)).setCell ⟨w.heap.size + 1, 4, none⟩ (.int .i64 X)).setCell ⟨w.heap.size + 1, 5, none⟩ (.int .i64 V)).setCell ⟨w.heap.size + 1, 6, none⟩ (.int .i64 U)).setCell ⟨w.heap.size + 1, 7, none⟩ (.int .i64 D)).setCell ⟨w.heap.size + 1, 8, none⟩ (.slice Az nz cz)).setCell ⟨w.heap.size + 1, 9, none⟩ (.int .i64 Q)).setCell ⟨w.heap.size + 1, 10, none⟩ (.int .i64 a)).setCell ⟨w.heap.size + 1, 11, none⟩ (.int .i64 b)).setCell ⟨w.heap.size + 1, 12, none⟩ (.func (.func 124) #[] #[.pointer (some ⟨tb, 0, none⟩), .pointer (some ⟨lb, 0, none⟩), .pointer (some ⟨db, 0, none⟩)])) := ⟨_, rfl⟩
  have GE : Hid (wD.grownBy wE (some (w.heap.size + 1))) := Lib.hid (by rw [hE]; exact ((((((((((((((World.grownBy.refl wD (some (w.heap.size + 1))).trans (grown_one _ ⟨w.heap.size + 1, 0, none⟩ (.int .i64 P))).trans (grown_one _ ⟨w.heap.size + 1, 1, none⟩ (.slice As ns cs))).trans (grown_one _ ⟨w.heap.size + 1, 2, none⟩ (.slice Ai ni ci))).trans (grown_one _ ⟨w.heap.size + 1, 3, none⟩ (.int .i64 R))).trans (grown_one _ ⟨w.heap.size + 1, 4, none⟩ (.int .i64 X))).trans (grown_one _ ⟨w.heap.size + 1, 5, none⟩ (.int .i64 V))).trans (grown_one _ ⟨w.heap.size + 1, 6, none⟩ (.int .i64 U))).trans (grown_one _ ⟨w.heap.size + 1, 7, none⟩ (.int .i64 D))).trans (grown_one _ ⟨w.heap.size + 1, 8, none⟩ (.slice Az nz cz))).trans (grown_one _ ⟨w.heap.size + 1, 9, none⟩ (.int .i64 Q))).trans (grown_one _ ⟨w.heap.size + 1, 10, none⟩ (.int .i64 a))).trans (grown_one _ ⟨w.heap.size + 1, 11, none⟩ (.int .i64 b))).trans (grown_one _ ⟨w.heap.size + 1, 12, none⟩ (.func (.func 124) #[] #[.pointer (some ⟨tb, 0, none⟩), .pointer (some ⟨lb, 0, none⟩), .pointer (some ⟨db, 0, none⟩)]))))
  have HF : Hid (w.heap.size ≤ mb ∧ Tab wE mb tb lb db lim dou 0 ∧ Below w.heap.size w wE) := Lib.hid ⟨by omega,
    HT.out.kept GE.out (by intro e; injection e; omega) (by intro e; injection e; omega) (by intro e; injection e; omega) (by intro e; injection e; omega),
    (T0.out.trans (HBD.out.mono T0.out.size)).grown GE.out (Nat.le_trans T0.out.size HBD.out.size) (fun k hk => by injection hk; omega)⟩
  have ZF0 := (((((((((((((YD.out.set_ 0 (.int .i64 P)).set_ 1 (.slice As ns cs)).set_ 2 (.slice Ai ni ci)).set_ 3 (.int .i64 R)).set_ 4 (.int .i64 X)).set_ 5 (.int .i64 V)).set_ 6 (.int .i64 U)).set_ 7 (.int .i64 D)).set_ 8 (.slice Az nz cz)).set_ 9 (.int .i64 Q)).set_ 10 (.int .i64 a)).set_ 11 (.int .i64 b)).set_ 12 (.func (.func 124) #[] #[.pointer (some ⟨tb, 0, none⟩), .pointer (some ⟨lb, 0, none⟩), .pointer (some ⟨db, 0, none⟩)]))
  rw [← hE] at ZF0
  have ZF := Lib.hid ZF0
  rw [← hE]
  clear hE hsz hm hcA GE ZF0 y0 y1 y2 y3 y4 y5 y6 y7 y8 y9 y10 y11 y12 f0 f1 f2 f3 f4 f5 f6 f7 f8 f9 f10 f11 f12
  go_wp2
  have k0 := ZF.out.cell 0; have k1 := ZF.out.cell 1; have k2 := ZF.out.cell 2; have k3 := ZF.out.cell 3; have k4 := ZF.out.cell 4; have k5 := ZF.out.cell 5; have k6 := ZF.out.cell 6; have k7 := ZF.out.cell 7; have k8 := ZF.out.cell 8; have k9 := ZF.out.cell 9; have k10 := ZF.out.cell 10; have k11 := ZF.out.cell 11; have k12 := ZF.out.cell 12
  simp at k0 k1 k2 k3 k4 k5 k6 k7 k8 k9 k10 k11 k12
  refine bodyPost_ret (v := .agg #[.int .i64 P, .slice As ns cs, .slice Ai ni ci, .int .i64 R, .int .i64 X, .int .i64 V, .int .i64 U, .int .i64 D, .slice Az nz cz, .int .i64 Q, .int .i64 a, .int .i64 b, .func (.func 124) #[] #[.pointer (some ⟨tb, 0, none⟩), .pointer (some ⟨lb, 0, none⟩), .pointer (some ⟨db, 0, none⟩)]]) (by simp [results, Tryz.results33, go_sem, k0, k1, k2, k3, k4, k5, k6, k7, k8, k9, k10, k11, k12]) rfl ?_
  exact ⟨⟨mb, tb, lb, db, rfl, HF.out.1, HF.out.2.1⟩, HF.out.2.2⟩
end Go.Proofs.YtlaigbhiligceaaGreatDoor
