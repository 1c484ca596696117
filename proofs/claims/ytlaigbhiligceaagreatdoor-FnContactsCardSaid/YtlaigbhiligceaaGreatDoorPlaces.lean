/- PlacesAt and NodeAt of the program, in plain words. -/
import Derived.Test.YtlaigbhiligceaaGreatDoorArc2
import Derived.Test.YtlaigbhiligceaaGreatDoorOrbit
import Derived.Test.YtlaigbhiligceaaGreatDoorIsSky
namespace Go.Proofs.YtlaigbhiligceaaGreatDoor
open Go.ChangeShapes Go.WideShapes Go.ChangeAt Go.RowKit
set_option linter.unusedVariables false
/-- a block of two integers that is stored anew -/
theorem pair_out {w : World} {g : Nat} {T : TypeId} {a b : Int} (h : Blk w g T #[.int .i64 a, .int .i64 b]) (x y : Int) :
    w.cell? ⟨g, 0, none⟩ = some (.int .i64 a) ∧ w.frozen? ⟨g, 0, none⟩ = false ∧ (w.setCell ⟨g, 0, none⟩ (.int .i64 x)).cell? ⟨g, 1, none⟩ = some (.int .i64 b) ∧ (w.setCell ⟨g, 0, none⟩ (.int .i64 x)).frozen? ⟨g, 1, none⟩ = false ∧
    ((w.setCell ⟨g, 0, none⟩ (.int .i64 x)).setCell ⟨g, 1, none⟩ (.int .i64 y)).cell? ⟨g, 0, none⟩ = some (.int .i64 x) ∧ ((w.setCell ⟨g, 0, none⟩ (.int .i64 x)).setCell ⟨g, 1, none⟩ (.int .i64 y)).cell? ⟨g, 1, none⟩ = some (.int .i64 y) :=
  ⟨h.cell 0, h.frozen 0, (h.set_ 0 _).cell 1, (h.set_ 0 _).frozen 1, ((h.set_ 0 (.int .i64 x)).set_ 1 (.int .i64 y)).cell 0, ((h.set_ 0 (.int .i64 x)).set_ 1 (.int .i64 y)).cell 1⟩
/-- where a node may be: the arc's start and width -/
def arcS (ls : List Sat4) (li : List Tri) (node t : Int) : Int :=
  if node < 0 then 0 else if node < ls.length then widS (plc (ls.getD node.toNat default).h (ls.getD node.toNat default).v t) 0 (ls.getD node.toNat default).e
  else if node < ls.length + li.length then widS (plc (li.getD (node.toNat - ls.length) default).a (li.getD (node.toNat - ls.length) default).b t) 0 0 else 0
def arcW (ls : List Sat4) (li : List Tri) (node : Int) : Int :=
  if node < 0 then 0 else if node < ls.length then widW 0 (ls.getD node.toNat default).e else 0
theorem arc_sat (ls : List Sat4) (li : List Tri) (t : Int) {k : Nat} (hk : k < ls.length) : arcS ls li (k : Int) t = widS (plc ls[k].h ls[k].v t) 0 ls[k].e ∧ arcW ls li (k : Int) = widW 0 ls[k].e := by
  have e : ls.getD (k : Int).toNat default = ls[k] := by simp [List.getD, List.getElem?_eq_getElem hk]
  constructor
  · unfold arcS; rw [if_neg (by omega), if_pos (by omega), e]
  · unfold arcW; rw [if_neg (by omega), if_pos (by omega), e]
theorem arc_site (ls : List Sat4) (li : List Tri) (t : Int) {k : Nat} (hk : k < li.length) : arcS ls li ((ls.length : Int) + k) t = widS (plc li[k].a li[k].b t) 0 0 ∧ arcW ls li ((ls.length : Int) + k) = 0 := by
  have e0 : ((ls.length : Int) + (k : Int)).toNat - ls.length = k := by omega
  have e : li.getD (((ls.length : Int) + (k : Int)).toNat - ls.length) default = li[k] := by rw [e0]; simp [List.getD, List.getElem?_eq_getElem hk]
  constructor
  · unfold arcS; rw [if_neg (by omega), if_neg (by omega), if_pos (by omega), e]
  · unfold arcW; rw [if_neg (by omega), if_neg (by omega)]
theorem arc_none (ls : List Sat4) (li : List Tri) (t : Int) {node : Int} (h : node < 0 ∨ (ls.length : Int) + li.length ≤ node) : arcS ls li node t = 0 ∧ arcW ls li node = 0 := by
  by_cases h0 : node < 0
  · constructor
    · unfold arcS; rw [if_pos h0]
    · unfold arcW; rw [if_pos h0]
  · constructor
    · unfold arcS; rw [if_neg h0, if_neg (by omega), if_neg (by omega)]
    · unfold arcW; rw [if_neg h0, if_neg (by omega)]
theorem widS_bd (s d : Int) : 0 ≤ widS s 0 d ∧ widS s 0 d < 360 := by
  unfold widS
  split
  · exact ⟨ang_lo _, ang_hi _⟩
  · exact ⟨ang_lo _, ang_hi _⟩
theorem widW_bd (d : Int) : 0 ≤ widW 0 d ∧ widW 0 d < 360 := by unfold widW mnf; split <;> (try split) <;> omega
theorem arcS_bd (ls : List Sat4) (li : List Tri) (node t : Int) : 0 ≤ arcS ls li node t ∧ arcS ls li node t < 360 := by
  unfold arcS
  split
  · omega
  · split
    · exact widS_bd _ _
    · split
      · exact widS_bd _ _
      · omega
theorem arcW_bd (ls : List Sat4) (li : List Tri) (node : Int) : 0 ≤ arcW ls li node ∧ arcW ls li node < 360 := by
  unfold arcW
  split
  · omega
  · split
    · exact widW_bd _
    · omega
set_option maxRecDepth 100000 in
theorem iplaces (w : World) (nA tW : Addr) (E : Errs w nA tW) (pl ph v er t x y : Int) (hx : widS (plc ph v t) 0 er = x) (hy : widW 0 er = y) :
    Calls Tryz.prog 202 #[.agg #[.int .i64 pl, .int .i64 ph, .int .i64 v, .int .i64 er], .int .i64 t] w (SaysP w x y) := by
  obtain ⟨W0, hW0⟩ : ∃ W, W = (w.alloc (.cells #[.int .i64 pl, .int .i64 ph, .int .i64 v, .int .i64 er] 109)).alloc (.cells #[.int .i64 0, .int .i64 0] 115) := ⟨_, rfl⟩
  have T0 : Hid (Below w.heap.size w W0) := Lib.hid (by rw [hW0]; exact ((Below.refl _ _).alloc (Nat.le_refl _) _).alloc (by simp) _)
  have E0 := Lib.hid (E.below T0.out)
  have Z0 : Hid (Blk W0 w.heap.size 109 #[.int .i64 pl, .int .i64 ph, .int .i64 v, .int .i64 er]) := Lib.hid (by rw [hW0]; exact (Blk.new _ _ _).alloc _)
  have Y0 : Hid (Blk W0 (w.heap.size + 1) 115 #[.int .i64 0, .int .i64 0]) := Lib.hid (by
    rw [hW0]
    have h := Blk.new (w.alloc (.cells #[.int .i64 pl, .int .i64 ph, .int .i64 v, .int .i64 er] 109)) 115 #[.int .i64 0, .int .i64 0]
    simpa using h)
  have HX := Lib.hid hx; have HY := Lib.hid hy
  clear E hx hy
  have hc : W0.cell? ⟨w.heap.size, 0, none⟩ = some (.int .i64 pl) ∧ W0.cell? ⟨w.heap.size, 1, none⟩ = some (.int .i64 ph) ∧ W0.cell? ⟨w.heap.size, 2, none⟩ = some (.int .i64 v) ∧ W0.cell? ⟨w.heap.size, 3, none⟩ = some (.int .i64 er) := ⟨Z0.out.cell 0, Z0.out.cell 1, Z0.out.cell 2, Z0.out.cell 3⟩
  obtain ⟨c0, c1, c2, c3⟩ := hc
  go_enter Tryz.func202, Tryz.ntmps202
  go_wp2_with fail
  rw [← hW0]
  clear hW0
  go_region_held3 (fun w' => w'.cell? ⟨w.heap.size, 0, none⟩ = some (.int .i64 pl) ∧ w'.cell? ⟨w.heap.size, 1, none⟩ = some (.int .i64 ph) ∧ w'.cell? ⟨w.heap.size, 2, none⟩ = some (.int .i64 v) ∧ w'.cell? ⟨w.heap.size, 3, none⟩ = some (.int .i64 er)) (first | exact ⟨c0, c1, c2, c3⟩ | exact hcA | go_keep) (first
    | (go_at_call 204; refine (iplace _ _ _ _ _ _).mono ?_; rintro e wA ⟨rfl, bA⟩; have HBA : Hid (Below W0.heap.size W0 wA) := Lib.hid (by first | exact (Below.refl _ _).drew.trans bA | exact bA); have ZA := Lib.hid (Z0.out.below HBA.out Z0.out.lt); have hcA : wA.cell? ⟨w.heap.size, 0, none⟩ = some (.int .i64 pl) ∧ wA.cell? ⟨w.heap.size, 1, none⟩ = some (.int .i64 ph) ∧ wA.cell? ⟨w.heap.size, 2, none⟩ = some (.int .i64 v) ∧ wA.cell? ⟨w.heap.size, 3, none⟩ = some (.int .i64 er) := ⟨ZA.out.cell 0, ZA.out.cell 1, ZA.out.cell 2, ZA.out.cell 3⟩; clear bA)
    | (go_at_call 203; refine (iwiden wA nA tW (E0.out.below HBA.out) _ 0 er x y HX.out HY.out).mono ?_; rintro e wB ⟨rfl, bB⟩; have HBB : Hid (Below W0.heap.size W0 wB) := Lib.hid (HBA.out.trans (bB.mono HBA.out.size)); have YB := Lib.hid (Y0.out.below HBB.out Y0.out.lt); have ZB := Lib.hid (Z0.out.below HBB.out Z0.out.lt); have hcA : wB.cell? ⟨w.heap.size, 0, none⟩ = some (.int .i64 pl) ∧ wB.cell? ⟨w.heap.size, 1, none⟩ = some (.int .i64 ph) ∧ wB.cell? ⟨w.heap.size, 2, none⟩ = some (.int .i64 v) ∧ wB.cell? ⟨w.heap.size, 3, none⟩ = some (.int .i64 er) := ⟨ZB.out.cell 0, ZB.out.cell 1, ZB.out.cell 2, ZB.out.cell 3⟩; obtain ⟨e2, m0, e3, m1, n0, n1⟩ := pair_out YB.out x y; clear bB))
  have HO : Hid (Below w.heap.size w ((wB.setCell ⟨w.heap.size + 1, 0, none⟩ (.int .i64 x)).setCell ⟨w.heap.size + 1, 1, none⟩ (.int .i64 y))) := Lib.hid (((T0.out.trans (HBB.out.mono T0.out.size)).setCell (by simp) _).setCell (by simp) _)
  have N0 := n0; have N1 := n1
  go_wp2
  (try simp only [Exit.inBlock, Exit.then])
  refine bodyPost_ret (v := .agg #[.int .i64 x, .int .i64 y]) (by simp [results, Tryz.results202, go_sem, N0, N1]; try rfl) rfl ⟨rfl, HO.out⟩
theorem sat_places (w : World) (nA tW : Addr) (E : Errs w nA tW) (pl ph v er t x y : Int) (hx : widS (plc ph v t) 0 er = x) (hy : widW 0 er = y) :
    Calls Tryz.prog 200 #[.agg #[.int .i64 pl, .int .i64 ph, .int .i64 v, .int .i64 er], .int .i64 t] w (SaysP w x y) := by
  obtain ⟨W0, hW0⟩ : ∃ W, W = (w.alloc (.cells #[.int .i64 pl, .int .i64 ph, .int .i64 v, .int .i64 er] 109)).alloc (.cells #[.int .i64 0, .int .i64 0] 115) := ⟨_, rfl⟩
  have T0 : Hid (Below w.heap.size w W0) := Lib.hid (by rw [hW0]; exact ((Below.refl _ _).alloc (Nat.le_refl _) _).alloc (by simp) _)
  have E0 := Lib.hid (E.below T0.out)
  have Y0 : Hid (Blk W0 (w.heap.size + 1) 115 #[.int .i64 0, .int .i64 0]) := Lib.hid (by
    rw [hW0]
    have h := Blk.new (w.alloc (.cells #[.int .i64 pl, .int .i64 ph, .int .i64 v, .int .i64 er] 109)) 115 #[.int .i64 0, .int .i64 0]
    simpa using h)
  have HX := Lib.hid hx; have HY := Lib.hid hy
  clear E hx hy
  go_enter Tryz.func200, Tryz.ntmps200
  go_wp2_with fail
  rw [← hW0]
  clear hW0
  refine (iplaces W0 nA tW E0.out pl ph v er t x y HX.out HY.out).mono ?_
  rintro e wB ⟨rfl, bB⟩
  have YB := Lib.hid (Y0.out.below bB Y0.out.lt)
  obtain ⟨e2, m0, e3, m1, n0, n1⟩ := pair_out YB.out x y
  have HO : Hid (Below w.heap.size w ((wB.setCell ⟨w.heap.size + 1, 0, none⟩ (.int .i64 x)).setCell ⟨w.heap.size + 1, 1, none⟩ (.int .i64 y))) := Lib.hid (((T0.out.trans (bB.mono T0.out.size)).setCell (by simp) _).setCell (by simp) _)
  clear bB
  go_wp2
  (try simp only [Exit.inBlock, Exit.then])
  refine bodyPost_ret (v := .agg #[.int .i64 x, .int .i64 y]) (by simp [results, Tryz.results200, go_sem, n0, n1]; try rfl) rfl ⟨rfl, HO.out⟩
theorem site_places (w : World) (nA tW : Addr) (E : Errs w nA tW) (pl an v t x y : Int) (hx : widS (plc an v t) 0 0 = x) (hy : widW 0 0 = y) :
    Calls Tryz.prog 206 #[.agg #[.int .i64 pl, .int .i64 an, .int .i64 v], .int .i64 t] w (SaysP w x y) := by
  obtain ⟨W0, hW0⟩ : ∃ W, W = (w.alloc (.cells #[.int .i64 pl, .int .i64 an, .int .i64 v] 113)).alloc (.cells #[.int .i64 0, .int .i64 0] 115) := ⟨_, rfl⟩
  have T0 : Hid (Below w.heap.size w W0) := Lib.hid (by rw [hW0]; exact ((Below.refl _ _).alloc (Nat.le_refl _) _).alloc (by simp) _)
  have E0 := Lib.hid (E.below T0.out)
  have Y0 : Hid (Blk W0 (w.heap.size + 1) 115 #[.int .i64 0, .int .i64 0]) := Lib.hid (by
    rw [hW0]
    have h := Blk.new (w.alloc (.cells #[.int .i64 pl, .int .i64 an, .int .i64 v] 113)) 115 #[.int .i64 0, .int .i64 0]
    simpa using h)
  have HX := Lib.hid hx; have HY := Lib.hid hy
  clear E hx hy
  go_enter Tryz.func206, Tryz.ntmps206
  go_wp2_with fail
  rw [← hW0]
  clear hW0
  refine (iassat W0 pl an v).mono ?_
  rintro e wA ⟨rfl, bA⟩
  have TA := Lib.hid (T0.out.trans (bA.mono T0.out.size))
  have EA := Lib.hid (E0.out.below bA)
  have YA := Lib.hid (Y0.out.below bA Y0.out.lt)
  clear bA
  go_wp2_with fail
  refine (iplaces wA nA tW EA.out pl an v 0 t x y HX.out HY.out).mono ?_
  rintro e wB ⟨rfl, bB⟩
  have YB := Lib.hid (YA.out.below bB YA.out.lt)
  obtain ⟨e2, m0, e3, m1, n0, n1⟩ := pair_out YB.out x y
  have HO : Hid (Below w.heap.size w ((wB.setCell ⟨w.heap.size + 1, 0, none⟩ (.int .i64 x)).setCell ⟨w.heap.size + 1, 1, none⟩ (.int .i64 y))) := Lib.hid (((TA.out.trans (bB.mono TA.out.size)).setCell (by simp) _).setCell (by simp) _)
  clear bB
  go_wp2
  (try simp only [Exit.inBlock, Exit.then])
  refine bodyPost_ret (v := .agg #[.int .i64 x, .int .i64 y]) (by simp [results, Tryz.results206, go_sem, n0, n1]; try rfl) rfl ⟨rfl, HO.out⟩
set_option maxRecDepth 100000 in
theorem inodeat (w : World) (P R X V U D Q : Int) (ns ni nz : Nat) (ls : List Sat4) (li lz : List Tri) (As : Option Addr) (cs : Nat) (Ai : Option Addr) (ci : Nat) (Az : Option Addr) (cz : Nat) (D0 : Nat) (h : InSky w (D0) As ns cs Ai ni ci Az nz cz ls li lz) (hD : D0 ≤ w.heap.size) (hs : ns ≤ 16777216) (hi : ni ≤ 16777216) (nA tW : Addr) (E : Errs w nA tW) (node t : Int) (hn : J64 node) (x y : Int) (hx : arcS ls li node t = x) (hy : arcW ls li node = y) :
    Calls Tryz.prog 75 #[.agg #[.int .i64 P, .slice As ns cs, .slice Ai ni ci, .int .i64 R, .int .i64 X, .int .i64 V, .int .i64 U, .int .i64 D, .slice Az nz cz, .int .i64 Q], .int .i64 node, .int .i64 t] w (SaysP w x y) := by
  obtain ⟨W0, hW0⟩ : ∃ W, W = (w.alloc (.cells #[.int .i64 P, .slice As ns cs, .slice Ai ni ci, .int .i64 R, .int .i64 X, .int .i64 V, .int .i64 U, .int .i64 D, .slice Az nz cz, .int .i64 Q] 28)).alloc (.cells #[.int .i64 0, .int .i64 0] 115) := ⟨_, rfl⟩
  have T0 : Hid (Below w.heap.size w W0) := Lib.hid (by rw [hW0]; exact ((Below.refl _ _).alloc (Nat.le_refl _) _).alloc (by simp) _)
  have E0 := Lib.hid (E.below T0.out)
  have H0 := Lib.hid (h.below T0.out hD)
  have HD : Hid (D0 ≤ W0.heap.size) := Lib.hid (Nat.le_trans hD T0.out.size)
  have Y0 : Hid (Blk W0 (w.heap.size + 1) 115 #[.int .i64 0, .int .i64 0]) := Lib.hid (by
    rw [hW0]
    have h := Blk.new (w.alloc (.cells #[.int .i64 P, .slice As ns cs, .slice Ai ni ci, .int .i64 R, .int .i64 X, .int .i64 V, .int .i64 U, .int .i64 D, .slice Az nz cz, .int .i64 Q] 28)) 115 #[.int .i64 0, .int .i64 0]
    simpa using h)
  have HN := Lib.hid hn
  have HK : Hid ((∃ pl ph v er, nodeV ls li node = .iface 109 (.agg #[.int .i64 pl, .int .i64 ph, .int .i64 v, .int .i64 er]) ∧ widS (plc ph v t) 0 er = x ∧ widW 0 er = y) ∨
      (∃ pl an v, nodeV ls li node = .iface 113 (.agg #[.int .i64 pl, .int .i64 an, .int .i64 v]) ∧ widS (plc an v t) 0 0 = x ∧ widW 0 0 = y) ∨ (nodeV ls li node = .nilIface ∧ x = 0 ∧ y = 0)) := Lib.hid (by
    rcases node_cases ls li node with ⟨k, hk, rfl, hv, -, -⟩ | ⟨k, hk, rfl, hv, -, -⟩ | ⟨hr, hv, -, -⟩
    · obtain ⟨e1, e2⟩ := arc_sat ls li t hk
      exact .inl ⟨_, _, _, _, hv, e1.symm.trans hx, e2.symm.trans hy⟩
    · obtain ⟨e1, e2⟩ := arc_site ls li t hk
      exact .inr (.inl ⟨_, _, _, hv, e1.symm.trans hx, (show widW 0 0 = 0 by decide).trans (e2.symm.trans hy)⟩)
    · obtain ⟨e1, e2⟩ := arc_none ls li t hr
      exact .inr (.inr ⟨hv, hx.symm.trans e1, hy.symm.trans e2⟩))
  clear E h hD hn hx hy
  go_enter Tryz.func75, Tryz.ntmps75
  go_wp2_with fail
  rw [← hW0]
  refine (inode W0 P R X V U D Q ns ni nz ls li lz As cs Ai ci Az cz D0 H0.out HD.out hs hi node HN.out).mono ?_
  rintro e w1 ⟨rfl, b1⟩
  have T1 := Lib.hid (T0.out.trans (b1.mono T0.out.size))
  have E1 := Lib.hid (E0.out.below b1)
  have Y1 := Lib.hid (Y0.out.below b1 Y0.out.lt)
  clear b1 hW0
  rcases HK.out with ⟨pl, ph, v, er, hv, hx, hy⟩ | ⟨pl, an, v, hv, hx, hy⟩ | ⟨hv, rfl, rfl⟩
  · rw [hv]
    have HX := Lib.hid hx; have HY := Lib.hid hy
    clear hv hx hy HK
    go_wp2_with fail
    refine (sat_places w1 nA tW E1.out pl ph v er t x y HX.out HY.out).mono ?_
    rintro e wB ⟨rfl, bB⟩
    have YB := Lib.hid (Y1.out.below bB Y1.out.lt)
    obtain ⟨e2, m0, e3, m1, n0, n1⟩ := pair_out YB.out x y
    have HO : Hid (Below w.heap.size w ((wB.setCell ⟨w.heap.size + 1, 0, none⟩ (.int .i64 x)).setCell ⟨w.heap.size + 1, 1, none⟩ (.int .i64 y))) := Lib.hid (((T1.out.trans (bB.mono T1.out.size)).setCell (by simp) _).setCell (by simp) _)
    clear bB
    go_wp2
    (try simp only [Exit.inBlock, Exit.then])
    refine bodyPost_ret (v := .agg #[.int .i64 x, .int .i64 y]) (by simp [results, Tryz.results75, go_sem, n0, n1]; try rfl) rfl ⟨rfl, HO.out⟩
  · rw [hv]
    have HX := Lib.hid hx; have HY := Lib.hid hy
    clear hv hx hy HK
    go_wp2_with fail
    refine (site_places w1 nA tW E1.out pl an v t x y HX.out HY.out).mono ?_
    rintro e wB ⟨rfl, bB⟩
    have YB := Lib.hid (Y1.out.below bB Y1.out.lt)
    obtain ⟨e2, m0, e3, m1, n0, n1⟩ := pair_out YB.out x y
    have HO : Hid (Below w.heap.size w ((wB.setCell ⟨w.heap.size + 1, 0, none⟩ (.int .i64 x)).setCell ⟨w.heap.size + 1, 1, none⟩ (.int .i64 y))) := Lib.hid (((T1.out.trans (bB.mono T1.out.size)).setCell (by simp) _).setCell (by simp) _)
    clear bB
    go_wp2
    (try simp only [Exit.inBlock, Exit.then])
    refine bodyPost_ret (v := .agg #[.int .i64 x, .int .i64 y]) (by simp [results, Tryz.results75, go_sem, n0, n1]; try rfl) rfl ⟨rfl, HO.out⟩
  · rw [hv]
    clear hv HK
    obtain ⟨e2, m0, e3, m1, n0, n1⟩ := pair_out Y1.out 0 0
    have HO : Hid (Below w.heap.size w ((w1.setCell ⟨w.heap.size + 1, 0, none⟩ (.int .i64 0)).setCell ⟨w.heap.size + 1, 1, none⟩ (.int .i64 0))) := Lib.hid ((T1.out.setCell (by simp) _).setCell (by simp) _)
    go_wp2
    (try simp only [Exit.inBlock, Exit.then])
    refine bodyPost_ret (v := .agg #[.int .i64 0, .int .i64 0]) (by simp [results, Tryz.results75, go_sem, n0, n1]; try rfl) rfl ⟨rfl, HO.out⟩
end Go.Proofs.YtlaigbhiligceaaGreatDoor
