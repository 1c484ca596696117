/- The program's sightAt, holdsAt, SightAt, IsSure. The program's holdsAt, SightAt, IsSure. -/
import Derived.Test.YtlaigbhiligceaaGreatDoorWatch
import Derived.Deep.DeepCutAuto
import Derived.Deep.CutRange
namespace Go.Proofs.YtlaigbhiligceaaGreatDoor
open Go.ChangeShapes Go.WideShapes Go.ChangeAt Go.RowKit Go.Maps
set_option linter.unusedVariables false
/-- the gap between two nodes' middles at a tick; what they see of each other -/
def gapAt (ls : List Sat4) (li : List Tri) (a b t : Int) : Int := gapf (midf (arcS ls li a t) (arcW ls li a)) (midf (arcS ls li b t) (arcW ls li b))
def sightOf (P R X V : Int) (ls : List Sat4) (li : List Tri) (a b t : Int) : Int := sightI (limI P R X V ls li a b) (douOf ls li a b) (gapAt ls li a b t)
theorem gapf_bd (a b : Int) : 0 ≤ gapf a b ∧ gapf a b ≤ 180 := by unfold gapf mnf ang; split <;> omega
set_option maxHeartbeats 1000000 in
set_option maxRecDepth 100000 in
theorem isightat (w : World) (P R X V U D Q : Int) (ns ni nz : Nat) (ls : List Sat4) (li lz : List Tri) (As : Option Addr) (cs : Nat) (Ai : Option Addr) (ci : Nat) (Az : Option Addr) (cz : Nat) (D0 : Nat) (h : InSky w (D0) As ns cs Ai ni ci Az nz cz ls li lz) (hD : D0 ≤ w.heap.size) (hs : ns ≤ 16777216) (hi : ni ≤ 16777216) (nA tW : Addr) (E : Errs w nA tW) (a b : Int) (ha : J64 a) (hb : J64 b)
    (mb tb lb db : Nat) (lim dou : Int) (n : Nat) (hT : Tab w mb tb lb db lim dou n) (hn : n ≤ 1000000) (hd0 : 0 ≤ dou) (hd1 : dou ≤ 360) (t : Int) (S : Int) (hS : sightI lim dou (gapAt ls li a b t) = S) :
    Calls Tryz.prog 78 #[.agg #[.int .i64 P, .slice As ns cs, .slice Ai ni ci, .int .i64 R, .int .i64 X, .int .i64 V, .int .i64 U, .int .i64 D, .slice Az nz cz, .int .i64 Q, .int .i64 a, .int .i64 b, .func (.func 124) #[] #[.pointer (some ⟨tb, 0, none⟩), .pointer (some ⟨lb, 0, none⟩), .pointer (some ⟨db, 0, none⟩)]], .int .i64 t] w fun e w' => e = .returned (.int .i64 S) ∧ Tab w' mb tb lb db lim dou (n + 1) ∧ w.grownBy w' (some mb) := by
  obtain ⟨W0, hW0⟩ : ∃ W, W = w.alloc (.cells #[.int .i64 P, .slice As ns cs, .slice Ai ni ci, .int .i64 R, .int .i64 X, .int .i64 V, .int .i64 U, .int .i64 D, .slice Az nz cz, .int .i64 Q, .int .i64 a, .int .i64 b, .func (.func 124) #[] #[.pointer (some ⟨tb, 0, none⟩), .pointer (some ⟨lb, 0, none⟩), .pointer (some ⟨db, 0, none⟩)]] 69) := ⟨_, rfl⟩
  have T0 : Hid (Below w.heap.size w W0) := Lib.hid (by rw [hW0]; exact (Below.refl _ _).alloc (Nat.le_refl _) _)
  have E0 := Lib.hid (E.below T0.out)
  have H0 := Lib.hid (h.below T0.out hD)
  have HD : Hid (D0 ≤ W0.heap.size) := Lib.hid (Nat.le_trans hD T0.out.size)
  have Z0 : Hid (Blk W0 w.heap.size 69 #[.int .i64 P, .slice As ns cs, .slice Ai ni ci, .int .i64 R, .int .i64 X, .int .i64 V, .int .i64 U, .int .i64 D, .slice Az nz cz, .int .i64 Q, .int .i64 a, .int .i64 b, .func (.func 124) #[] #[.pointer (some ⟨tb, 0, none⟩), .pointer (some ⟨lb, 0, none⟩), .pointer (some ⟨db, 0, none⟩)]]) := Lib.hid (by rw [hW0]; exact Blk.new _ _ _)
  have HT := Lib.hid (hT.on T0.out)
  have HMBW := Lib.hid hT.lt.1
  obtain ⟨xa, hxa⟩ : ∃ z, arcS ls li a t = z := ⟨_, rfl⟩
  obtain ⟨xb, hxb⟩ : ∃ z, arcS ls li b t = z := ⟨_, rfl⟩
  obtain ⟨wa, hwa⟩ : ∃ z, arcW ls li a = z := ⟨_, rfl⟩
  obtain ⟨wb, hwb⟩ : ∃ z, arcW ls li b = z := ⟨_, rfl⟩
  obtain ⟨ma, hma⟩ : ∃ z, midf xa wa = z := ⟨_, rfl⟩
  obtain ⟨mB, hmb⟩ : ∃ z, midf xb wb = z := ⟨_, rfl⟩
  obtain ⟨g, hg⟩ : ∃ z, gapf ma mB = z := ⟨_, rfl⟩
  have hgb := gapf_bd ma mB
  rw [hg] at hgb
  have HS : Hid (sightI lim dou g = S) := Lib.hid (by rw [← hg, ← hma, ← hmb, ← hxa, ← hxb, ← hwa, ← hwb]; exact hS)
  have HXA := Lib.hid hxa; have HXB := Lib.hid hxb; have HWA := Lib.hid hwa; have HWB := Lib.hid hwb; have HMA := Lib.hid hma; have HMB := Lib.hid hmb; have HG := Lib.hid hg
  have HJA := Lib.hid ha; have HJB := Lib.hid hb; have HDD := Lib.hid (And.intro hd0 hd1); have HN := Lib.hid hn; have HGB := Lib.hid hgb
  clear E h hD hxa hxb hwa hwb ha hb hma hmb hg hS hT hn hd0 hd1 hgb
  obtain ⟨c0, c1, c2, c3, c4, c5, c6, c7, c8, c9, c10, c11, c12⟩ := Z0.out.watch
  have n0 := Z0.out.lt
  go_enter Tryz.func78, Tryz.ntmps78
  go_wp2_with fail
  rw [← hW0]
  clear hW0
  have m0 : ¬ (w.heap.size = W0.heap.size) := by omega
  have m1 : ¬ (w.heap.size = W0.heap.size + 1) := by omega
  go_cut [5, 6] from 7 to 18 (fun c d wx => ∃ ga gb : Nat, c = .pointer (some ⟨ga, 0, none⟩) ∧ d = .pointer (some ⟨gb, 0, none⟩) ∧ (wx.cell? ⟨ga, 0, none⟩ = some (.int .i64 xa) ∧ wx.cell? ⟨ga, 1, none⟩ = some (.int .i64 wa) ∧ wx.cell? ⟨gb, 0, none⟩ = some (.int .i64 xb) ∧ wx.cell? ⟨gb, 1, none⟩ = some (.int .i64 wb)) ∧ W0.heap.size ≤ ga ∧ W0.heap.size ≤ gb ∧ Below W0.heap.size W0 wx)
  case first =>
    go_region_held3 (fun w' => (w'.cell? ⟨w.heap.size, 0, none⟩ = some (.int .i64 P) ∧ w'.cell? ⟨w.heap.size, 1, none⟩ = some (.slice As ns cs) ∧ w'.cell? ⟨w.heap.size, 2, none⟩ = some (.slice Ai ni ci) ∧ w'.cell? ⟨w.heap.size, 3, none⟩ = some (.int .i64 R) ∧ w'.cell? ⟨w.heap.size, 4, none⟩ = some (.int .i64 X) ∧ w'.cell? ⟨w.heap.size, 5, none⟩ = some (.int .i64 V) ∧ w'.cell? ⟨w.heap.size, 6, none⟩ = some (.int .i64 U) ∧ w'.cell? ⟨w.heap.size, 7, none⟩ = some (.int .i64 D) ∧ w'.cell? ⟨w.heap.size, 8, none⟩ = some (.slice Az nz cz) ∧ w'.cell? ⟨w.heap.size, 9, none⟩ = some (.int .i64 Q) ∧ w'.cell? ⟨w.heap.size, 10, none⟩ = some (.int .i64 a) ∧ w'.cell? ⟨w.heap.size, 11, none⟩ = some (.int .i64 b) ∧ w'.cell? ⟨w.heap.size, 12, none⟩ = some (.func (.func 124) #[] #[.pointer (some ⟨tb, 0, none⟩), .pointer (some ⟨lb, 0, none⟩), .pointer (some ⟨db, 0, none⟩)]))) (first | with_reducible exact ⟨c0, c1, c2, c3, c4, c5, c6, c7, c8, c9, c10, c11, c12⟩ | with_reducible exact hcA | (refine Blk.watch (t := 69) ?_; (repeat' (first | with_reducible exact zB | with_reducible exact zA | with_reducible refine Blk.alloc ?_ _ | (with_reducible refine Blk.far ?_ ?_ _; rotate_left; (simp <;> omega)))); done) | go_keep) (first
      | (go_at_call 75; have hbefore := HBA.out; refine (inodeat _ P R X V U D Q ns ni nz ls li lz As cs Ai ci Az cz D0 ?h1 ?h2 hs hi nA tW ?h3 b t HJB.out xb wb HXB.out HWB.out).mono ?_
         case h1 => first | exact H0.out.below HBA.out HD.out | exact H0.out.below (HBA.out.alloc HBA.out.size _) HD.out | exact H0.out.below ((HBA.out.alloc HBA.out.size _).alloc (HBA.out.alloc HBA.out.size _).size _) HD.out
         case h2 => first | exact Nat.le_trans HD.out HBA.out.size | exact Nat.le_trans HD.out (HBA.out.alloc HBA.out.size _).size | exact Nat.le_trans HD.out ((HBA.out.alloc HBA.out.size _).alloc (HBA.out.alloc HBA.out.size _).size _).size
         case h3 => first | exact E0.out.below HBA.out | exact E0.out.below (HBA.out.alloc HBA.out.size _) | exact E0.out.below ((HBA.out.alloc HBA.out.size _).alloc (HBA.out.alloc HBA.out.size _).size _)
         rintro e wB ⟨rfl, bB⟩
         have HBB : Hid (Below W0.heap.size W0 wB) := Lib.hid (by first | exact HBA.out.trans (bB.mono HBA.out.size) | exact (HBA.out.alloc HBA.out.size _).trans (bB.mono (HBA.out.alloc HBA.out.size _).size) | exact ((HBA.out.alloc HBA.out.size _).alloc (HBA.out.alloc HBA.out.size _).size _).trans (bB.mono ((HBA.out.alloc HBA.out.size _).alloc (HBA.out.alloc HBA.out.size _).size _).size))
         have sB : wA.heap.size ≤ wB.heap.size := by have := bB.size; first | exact this | (simp at this; omega)
         have zB := Z0.out.below HBB.out Z0.out.lt
         have hcA := zB.watch
         have mB1 : ¬ (w.heap.size = wB.heap.size) := by have := HBB.out.size; omega
         have mB2 : ¬ (w.heap.size = wB.heap.size + 1) := by have := HBB.out.size; omega
         try (have r0 : Blk wB W0.heap.size 115 #[.int .i64 0, .int .i64 0] := (by first | exact p0.below bB p0.lt | exact (p0.alloc _).below bB (p0.alloc _).lt | exact ((p0.alloc _).alloc _).below bB ((p0.alloc _).alloc _).lt); have r00 := r0.cell 0; have r01 := r0.cell 1; have r02 := r0.frozen 0; have r03 := r0.frozen 1; have r04 := r0.lt; have e3a : ¬ (W0.heap.size = wB.heap.size) := (by omega); have e3b : ¬ (wB.heap.size = W0.heap.size) := (by omega); have R0 := Lib.hid r0; clear r0)
         try (have r1 : Blk wB (W0.heap.size + 1) 115 #[.int .i64 0, .int .i64 0] := (by first | exact p1.below bB p1.lt | exact (p1.alloc _).below bB (p1.alloc _).lt | exact ((p1.alloc _).alloc _).below bB ((p1.alloc _).alloc _).lt); have r10 := r1.cell 0; have r11 := r1.cell 1; have r12 := r1.frozen 0; have r13 := r1.frozen 1; have r14 := r1.lt; have R1 := Lib.hid r1; clear r1)
         try (have q0 : Blk wB wA.heap.size 115 #[.int .i64 0, .int .i64 0] := (by first | exact (Blk.new wA _ _).below bB (by simp) | exact ((Blk.new wA _ _).alloc _).below bB (by simp <;> omega)); have q00 := q0.cell 0; have q01 := q0.cell 1; have q02 := q0.frozen 0; have q03 := q0.frozen 1; have q04 := q0.lt; have e4a : ¬ (wA.heap.size = wB.heap.size) := (by omega); have e4b : ¬ (wB.heap.size = wA.heap.size) := (by omega); have Q0 := Lib.hid q0; clear q0)
         try (have q1 : Blk wB (wA.heap.size + 1) 115 #[.int .i64 0, .int .i64 0] := (by have h := Blk.new (wA.alloc (.cells #[.int .i64 0, .int .i64 0] 115)) 115 #[.int .i64 0, .int .i64 0]; rw [World.size_alloc] at h; exact h.below bB (by simp)); have q10 := q1.cell 0; have q11 := q1.cell 1; have q12 := q1.frozen 0; have q13 := q1.frozen 1; have q14 := q1.lt; have Q1 := Lib.hid q1; clear q1)
         clear bB)
      | (go_at_call 75; refine (inodeat _ P R X V U D Q ns ni nz ls li lz As cs Ai ci Az cz D0 ?h1 ?h2 hs hi nA tW ?h3 a t HJA.out xa wa HXA.out HWA.out).mono ?_
         case h1 => first | exact H0.out.below (Below.refl _ _).drew HD.out | exact H0.out.below ((Below.refl W0.heap.size W0).drew.alloc (Nat.le_refl _) _) HD.out | exact H0.out.below (((Below.refl W0.heap.size W0).drew.alloc (Nat.le_refl _) _).alloc (by simp) _) HD.out
         case h2 => first | exact HD.out | exact Nat.le_trans HD.out (by simp <;> omega)
         case h3 => first | exact E0.out.drew | exact E0.out.below ((Below.refl W0.heap.size W0).drew.alloc (Nat.le_refl _) _) | exact E0.out.below (((Below.refl W0.heap.size W0).drew.alloc (Nat.le_refl _) _).alloc (by simp) _)
         rintro e wA ⟨rfl, bA⟩
         have HBA : Hid (Below W0.heap.size W0 wA) := Lib.hid (by first | exact (Below.refl _ _).drew.trans bA | exact ((Below.refl W0.heap.size W0).drew.alloc (Nat.le_refl _) _).trans (bA.mono (by simp)) | exact (((Below.refl W0.heap.size W0).drew.alloc (Nat.le_refl _) _).alloc (by simp) _).trans (bA.mono (by simp <;> omega)))
         have sA : W0.heap.size ≤ wA.heap.size := HBA.out.size
         have zA := Z0.out.below HBA.out Z0.out.lt
         have hcA := zA.watch
         have mA1 : ¬ (w.heap.size = wA.heap.size) := by omega
         have mA2 : ¬ (w.heap.size = wA.heap.size + 1) := by omega
         try (have p0 : Blk wA W0.heap.size 115 #[.int .i64 0, .int .i64 0] := (by first | exact (Blk.new W0.drew _ _).below bA (by simp) | exact ((Blk.new W0.drew _ _).alloc _).below bA (by simp <;> omega)); have p04 := p0.lt; have e1a : ¬ (W0.heap.size = wA.heap.size) := (by omega); have e1b : ¬ (wA.heap.size = W0.heap.size) := (by omega))
         try (have p1 : Blk wA (W0.heap.size + 1) 115 #[.int .i64 0, .int .i64 0] := (by have h := Blk.new (W0.drew.alloc (.cells #[.int .i64 0, .int .i64 0] 115)) 115 #[.int .i64 0, .int .i64 0]; rw [World.size_alloc] at h; exact h.below bA (by simp)))
         clear bA))
    all_goals
      have sB0 : W0.heap.size ≤ wB.heap.size := HBB.out.size
      go_wp2_with fail
      go_meet
      refine ⟨_, _, rfl, rfl, ⟨?_, ?_, ?_, ?_⟩, ?_, ?_, ?_⟩
      all_goals first
        | omega
        | go_cell
        | ((repeat' (first | with_reducible exact HBB.out | with_reducible refine Below.alloc ?_ ?_ _ | with_reducible refine Below.setCell ?_ ?_ _ | omega | (simp <;> omega))); done)
  case rest =>
  obtain ⟨ga, gb, rfl, rfl, hd, hla, hlb, hB⟩ := hcut
  have TC := Lib.hid (HT.out.on hB)
  have EC := Lib.hid (E0.out.below hB)
  have BC := Lib.hid hB
  have hd4 := (Z0.out.below hB Z0.out.lt).cell 12
  have D : Hid (wc.cell? ⟨w.heap.size, 12, none⟩ = some (.func (.func 124) #[] #[.pointer (some ⟨tb, 0, none⟩), .pointer (some ⟨lb, 0, none⟩), .pointer (some ⟨db, 0, none⟩)]) ∧ wc.cell? ⟨ga, 0, none⟩ = some (.int .i64 xa) ∧ wc.cell? ⟨ga, 1, none⟩ = some (.int .i64 wa) ∧ wc.cell? ⟨gb, 0, none⟩ = some (.int .i64 xb) ∧ wc.cell? ⟨gb, 1, none⟩ = some (.int .i64 wb)) := Lib.hid ⟨hd4, hd⟩
  have l0 : Hid (w.heap.size < wc.heap.size) := Lib.hid (Nat.lt_of_lt_of_le Z0.out.lt hB.size)
  have l1 : Hid (ga < wc.heap.size) := Lib.hid (lt_of_cell hd.1)
  have l2 : Hid (gb < wc.heap.size) := Lib.hid (lt_of_cell hd.2.2.1)
  have ha1 : Hid (mb < w.heap.size ∧ W0.heap.size ≤ ga ∧ W0.heap.size ≤ gb ∧ w.heap.size < W0.heap.size) := Lib.hid ⟨HMBW.out, hla, hlb, n0⟩
  obtain ⟨d0, d1, d2, d3, d4⟩ := D.out
  clear hd hd4 hla hlb hB c0 c1 c2 c3 c4 c5 c6 c7 c8 c9 c10 c11 c12 n0 m0 m1
  go_wp2_with fail
  go_region_held3 (fun w' => (w'.cell? ⟨w.heap.size, 12, none⟩ = some (.func (.func 124) #[] #[.pointer (some ⟨tb, 0, none⟩), .pointer (some ⟨lb, 0, none⟩), .pointer (some ⟨db, 0, none⟩)]) ∧ w'.cell? ⟨ga, 0, none⟩ = some (.int .i64 xa) ∧ w'.cell? ⟨ga, 1, none⟩ = some (.int .i64 wa) ∧ w'.cell? ⟨gb, 0, none⟩ = some (.int .i64 xb) ∧ w'.cell? ⟨gb, 1, none⟩ = some (.int .i64 wb))) (first | with_reducible exact ⟨d0, d1, d2, d3, d4⟩ | exact D.out | with_reducible exact hcA | go_keep) (first
    | (go_at_call 128; have hbefore := HBD.out; refine (imiddle wD nA tW (EC.out.below HBD.out) xb wb mB HMB.out).mono ?_; rintro e wE ⟨rfl, bE⟩; have HBE : Hid (Below wc.heap.size wc wE) := Lib.hid (HBD.out.trans (bE.mono HBD.out.size)); have hcA : (wE.cell? ⟨w.heap.size, 12, none⟩ = some (.func (.func 124) #[] #[.pointer (some ⟨tb, 0, none⟩), .pointer (some ⟨lb, 0, none⟩), .pointer (some ⟨db, 0, none⟩)]) ∧ wE.cell? ⟨ga, 0, none⟩ = some (.int .i64 xa) ∧ wE.cell? ⟨ga, 1, none⟩ = some (.int .i64 wa) ∧ wE.cell? ⟨gb, 0, none⟩ = some (.int .i64 xb) ∧ wE.cell? ⟨gb, 1, none⟩ = some (.int .i64 wb)) := ⟨(HBE.out.cell l0.out).trans D.out.1, (HBE.out.cell l1.out).trans D.out.2.1, (HBE.out.cell l1.out).trans D.out.2.2.1, (HBE.out.cell l2.out).trans D.out.2.2.2.1, (HBE.out.cell l2.out).trans D.out.2.2.2.2⟩; clear bE)
    | (go_at_call 128; refine (imiddle wc.drew nA tW EC.out.drew xa wa ma HMA.out).mono ?_; rintro e wD ⟨rfl, bD⟩; have HBD : Hid (Below wc.heap.size wc wD) := Lib.hid ((Below.refl _ _).drew.trans bD); have hcA : (wD.cell? ⟨w.heap.size, 12, none⟩ = some (.func (.func 124) #[] #[.pointer (some ⟨tb, 0, none⟩), .pointer (some ⟨lb, 0, none⟩), .pointer (some ⟨db, 0, none⟩)]) ∧ wD.cell? ⟨ga, 0, none⟩ = some (.int .i64 xa) ∧ wD.cell? ⟨ga, 1, none⟩ = some (.int .i64 wa) ∧ wD.cell? ⟨gb, 0, none⟩ = some (.int .i64 xb) ∧ wD.cell? ⟨gb, 1, none⟩ = some (.int .i64 wb)) := ⟨(HBD.out.cell l0.out).trans D.out.1, (HBD.out.cell l1.out).trans D.out.2.1, (HBD.out.cell l1.out).trans D.out.2.2.1, (HBD.out.cell l2.out).trans D.out.2.2.2.1, (HBD.out.cell l2.out).trans D.out.2.2.2.2⟩; clear bD)
    | (go_at_call 127; refine (igapOf ma mB wE).mono ?_; rintro e wF ⟨rfl, bF⟩; rw [HG.out]; have HBF : Hid (Below wc.heap.size wc wF) := Lib.hid (HBE.out.trans (bF.mono HBE.out.size)); have hcA : (wF.cell? ⟨w.heap.size, 12, none⟩ = some (.func (.func 124) #[] #[.pointer (some ⟨tb, 0, none⟩), .pointer (some ⟨lb, 0, none⟩), .pointer (some ⟨db, 0, none⟩)]) ∧ wF.cell? ⟨ga, 0, none⟩ = some (.int .i64 xa) ∧ wF.cell? ⟨ga, 1, none⟩ = some (.int .i64 wa) ∧ wF.cell? ⟨gb, 0, none⟩ = some (.int .i64 xb) ∧ wF.cell? ⟨gb, 1, none⟩ = some (.int .i64 wb)) := ⟨(HBF.out.cell l0.out).trans D.out.1, (HBF.out.cell l1.out).trans D.out.2.1, (HBF.out.cell l1.out).trans D.out.2.2.1, (HBF.out.cell l2.out).trans D.out.2.2.2.1, (HBF.out.cell l2.out).trans D.out.2.2.2.2⟩; clear bF)
    | (go_at_call 124; refine (isee wF mb tb lb db lim dou n ((TC.out.on HBF.out)) HN.out g S HGB.out.1 (by have := HGB.out.2; omega) HDD.out.1 HDD.out.2 HS.out).mono ?_; rintro e wG ⟨rfl, hTG, gG⟩; have HTG := Lib.hid hTG; have GG := Lib.hid gG; have hcA : (wG.cell? ⟨w.heap.size, 12, none⟩ = some (.func (.func 124) #[] #[.pointer (some ⟨tb, 0, none⟩), .pointer (some ⟨lb, 0, none⟩), .pointer (some ⟨db, 0, none⟩)]) ∧ wG.cell? ⟨ga, 0, none⟩ = some (.int .i64 xa) ∧ wG.cell? ⟨ga, 1, none⟩ = some (.int .i64 wa) ∧ wG.cell? ⟨gb, 0, none⟩ = some (.int .i64 xb) ∧ wG.cell? ⟨gb, 1, none⟩ = some (.int .i64 wb)) := ⟨gG.cell hcA.1 (by have := ha1.out; simp; omega), gG.cell hcA.2.1 (by have := ha1.out; simp; omega), gG.cell hcA.2.2.1 (by have := ha1.out; simp; omega), gG.cell hcA.2.2.2.1 (by have := ha1.out; simp; omega), gG.cell hcA.2.2.2.2 (by have := ha1.out; simp; omega)⟩; clear hTG gG))
  have HF : Hid (w.grownBy wG (some mb)) := Lib.hid ((grown_of_below (T0.out.trans ((BC.out.trans (HBF.out.mono BC.out.size)).mono T0.out.size)) (some mb)).trans GG.out)
  go_wp2
  go_ret
  exact ⟨rfl, HTG.out, HF.out⟩
end Go.Proofs.YtlaigbhiligceaaGreatDoor
namespace Go.Proofs.YtlaigbhiligceaaGreatDoor
open Go.ChangeShapes Go.WideShapes Go.ChangeAt Go.RowKit Go.Maps
set_option linter.unusedVariables false
set_option maxRecDepth 100000 in
theorem iholds (w : World) (P R X V U D Q : Int) (ns ni nz : Nat) (ls : List Sat4) (li lz : List Tri) (As : Option Addr) (cs : Nat) (Ai : Option Addr) (ci : Nat) (Az : Option Addr) (cz : Nat) (D0 : Nat) (h : InSky w (D0) As ns cs Ai ni ci Az nz cz ls li lz) (hD : D0 ≤ w.heap.size) (hs : ns ≤ 16777216) (hi : ni ≤ 16777216) (nA tW : Addr) (E : Errs w nA tW) (a b : Int) (ha : J64 a) (hb : J64 b)
    (mb tb lb db : Nat) (lim dou : Int) (n : Nat) (hT : Tab w mb tb lb db lim dou n) (hn : n ≤ 1000000) (hd0 : 0 ≤ dou) (hd1 : dou ≤ 360) (t : Int) (v : Bool) (hv : decide (sightI lim dou (gapAt ls li a b t) = 2) = v) :
    Calls Tryz.prog 34 #[.agg #[.int .i64 P, .slice As ns cs, .slice Ai ni ci, .int .i64 R, .int .i64 X, .int .i64 V, .int .i64 U, .int .i64 D, .slice Az nz cz, .int .i64 Q, .int .i64 a, .int .i64 b, .func (.func 124) #[] #[.pointer (some ⟨tb, 0, none⟩), .pointer (some ⟨lb, 0, none⟩), .pointer (some ⟨db, 0, none⟩)]], .int .i64 t] w fun e w' => e = .returned (.bool v) ∧ Tab w' mb tb lb db lim dou (n + 1) ∧ w.grownBy w' (some mb) := by
  obtain ⟨W0, hW0⟩ : ∃ W, W = w.alloc (.cells #[.int .i64 P, .slice As ns cs, .slice Ai ni ci, .int .i64 R, .int .i64 X, .int .i64 V, .int .i64 U, .int .i64 D, .slice Az nz cz, .int .i64 Q, .int .i64 a, .int .i64 b, .func (.func 124) #[] #[.pointer (some ⟨tb, 0, none⟩), .pointer (some ⟨lb, 0, none⟩), .pointer (some ⟨db, 0, none⟩)]] 69) := ⟨_, rfl⟩
  have T0 : Hid (Below w.heap.size w W0) := Lib.hid (by rw [hW0]; exact (Below.refl _ _).alloc (Nat.le_refl _) _)
  have E0 := Lib.hid (E.below T0.out)
  have H0 := Lib.hid (h.below T0.out hD)
  have HD : Hid (D0 ≤ W0.heap.size) := Lib.hid (Nat.le_trans hD T0.out.size)
  have Z0 : Hid (Blk W0 w.heap.size 69 #[.int .i64 P, .slice As ns cs, .slice Ai ni ci, .int .i64 R, .int .i64 X, .int .i64 V, .int .i64 U, .int .i64 D, .slice Az nz cz, .int .i64 Q, .int .i64 a, .int .i64 b, .func (.func 124) #[] #[.pointer (some ⟨tb, 0, none⟩), .pointer (some ⟨lb, 0, none⟩), .pointer (some ⟨db, 0, none⟩)]]) := Lib.hid (by rw [hW0]; exact Blk.new _ _ _)
  have HT := Lib.hid (hT.on T0.out)
  obtain ⟨S, hS⟩ : ∃ S, sightI lim dou (gapAt ls li a b t) = S := ⟨_, rfl⟩
  rw [hS] at hv
  have HS := Lib.hid hS
  have HA := Lib.hid (And.intro ha hb); have HDD := Lib.hid (And.intro hd0 hd1); have HN := Lib.hid hn
  clear h hD E hT hS ha hb hd0 hd1 hn
  obtain ⟨c0, c1, c2, c3, c4, c5, c6, c7, c8, c9, c10, c11, c12⟩ := Z0.out.watch
  by_cases h2 : S = 2
  case pos =>
    subst h2
    obtain rfl : true = v := by rw [← hv]; rfl
    clear hv
    go_enter Tryz.func34, Tryz.ntmps34
    go_wp2_with fail
    rw [← hW0]
    clear hW0
    refine (isightat W0 P R X V U D Q ns ni nz ls li lz As cs Ai ci Az cz D0 H0.out HD.out hs hi nA tW E0.out a b HA.out.1 HA.out.2 mb tb lb db lim dou n HT.out HN.out HDD.out.1 HDD.out.2 t 2 HS.out).mono ?_
    rintro e w1 ⟨rfl, hT1, g1⟩
    have HF := Lib.hid (And.intro hT1 ((grown_of_below T0.out (some mb)).trans g1))
    clear hT1 g1 c0 c1 c2 c3 c4 c5 c6 c7 c8 c9 c10 c11 c12
    go_wp2
    go_ret
    exact ⟨rfl, HF.out⟩
  case neg =>
    have h2' : (S == 2) = false := by simpa using h2
    obtain rfl : false = v := by rw [← hv]; simp [h2]
    clear hv
    go_enter Tryz.func34, Tryz.ntmps34
    go_wp2_with fail
    rw [← hW0]
    clear hW0
    refine (isightat W0 P R X V U D Q ns ni nz ls li lz As cs Ai ci Az cz D0 H0.out HD.out hs hi nA tW E0.out a b HA.out.1 HA.out.2 mb tb lb db lim dou n HT.out HN.out HDD.out.1 HDD.out.2 t S HS.out).mono ?_
    rintro e w1 ⟨rfl, hT1, g1⟩
    have HF := Lib.hid (And.intro hT1 ((grown_of_below T0.out (some mb)).trans g1))
    clear hT1 g1 c0 c1 c2 c3 c4 c5 c6 c7 c8 c9 c10 c11 c12
    go_wp2
    go_ret
    exact ⟨rfl, HF.out⟩
abbrev SightEq (P R X V : Int) (ls : List Sat4) (li : List Tri) (a b t : Int) (S : Int) : Prop := sightOf P R X V ls li a b t = S
abbrev SureEq (P R X V : Int) (ls : List Sat4) (li : List Tri) (a b t : Int) (v : Bool) : Prop := decide (sightOf P R X V ls li a b t = 2) = v
set_option maxRecDepth 100000 in
theorem isure (w : World) (P R X V U D Q : Int) (ns ni nz : Nat) (ls : List Sat4) (li lz : List Tri) (As : Option Addr) (cs : Nat) (Ai : Option Addr) (ci : Nat) (Az : Option Addr) (cz : Nat) (D0 : Nat) (h : InSky w (D0) As ns cs Ai ni ci Az nz cz ls li lz) (hD : D0 ≤ w.heap.size) (hs : ns ≤ 16777216) (hi : ni ≤ 16777216) (hP : J64 P) (hk1 : ∀ x ∈ ls, Ok4 x) (hk2 : ∀ x ∈ li, Ok3 x) (nA tW : Addr) (E : Errs w nA tW) (a b : Int) (ha : J64 a) (hb : J64 b)
    (t : Int) (v : Bool) (hS : SureEq P R X V ls li a b t v) :
    Calls Tryz.prog 9 #[.agg #[.int .i64 P, .slice As ns cs, .slice Ai ni ci, .int .i64 R, .int .i64 X, .int .i64 V, .int .i64 U, .int .i64 D, .slice Az nz cz, .int .i64 Q], .int .i64 a, .int .i64 b, .int .i64 t] w (Tells w v) := by
  obtain ⟨W0, hW0⟩ : ∃ W, W = w.alloc (.cells #[.int .i64 P, .slice As ns cs, .slice Ai ni ci, .int .i64 R, .int .i64 X, .int .i64 V, .int .i64 U, .int .i64 D, .slice Az nz cz, .int .i64 Q] 28) := ⟨_, rfl⟩
  have T0 : Hid (Below w.heap.size w W0) := Lib.hid (by rw [hW0]; exact (Below.refl _ _).alloc (Nat.le_refl _) _)
  have E0 := Lib.hid (E.below T0.out)
  have H0 := Lib.hid (h.below T0.out hD)
  have HD : Hid (D0 ≤ W0.heap.size) := Lib.hid (Nat.le_trans hD T0.out.size)
  have Z0 : Hid (Blk W0 w.heap.size 28 #[.int .i64 P, .slice As ns cs, .slice Ai ni ci, .int .i64 R, .int .i64 X, .int .i64 V, .int .i64 U, .int .i64 D, .slice Az nz cz, .int .i64 Q]) := Lib.hid (by rw [hW0]; exact Blk.new _ _ _)
  have HS := Lib.hid hS
  have HA := Lib.hid (And.intro ha hb); have HP := Lib.hid hP; have HK := Lib.hid (And.intro hk1 hk2)
  clear h hD E hS ha hb hP hk1 hk2
  obtain ⟨c0, c1, c2, c3, c4, c5, c6, c7, c8, c9⟩ := Z0.out.ten
  go_enter Tryz.func9, Tryz.ntmps9
  go_wp2_with fail
  rw [← hW0]
  clear hW0
  refine (iwatch W0 P R X V U D Q ns ni nz ls li lz As cs Ai ci Az cz D0 H0.out HD.out hs hi HP.out HK.out.1 HK.out.2 nA tW E0.out a b HA.out.1 HA.out.2 _ rfl _ rfl).mono ?_
  rintro e w1 ⟨⟨mb, tb, lb, db, rfl, hm, hT⟩, b1⟩
  have B1 := Lib.hid b1
  have HM := Lib.hid hm; have HT := Lib.hid hT
  have hb0 := douOf_bd ls li a b
  have HB0 := Lib.hid hb0
  clear b1 hm hT hb0 c0 c1 c2 c3 c4 c5 c6 c7 c8 c9
  go_wp2_with fail
  refine (iholds w1 P R X V U D Q ns ni nz ls li lz As cs Ai ci Az cz D0 (H0.out.below B1.out HD.out) (Nat.le_trans HD.out B1.out.size) hs hi nA tW (E0.out.below B1.out) a b HA.out.1 HA.out.2 mb tb lb db _ _ 0 HT.out (by omega) HB0.out.1 (by have := HB0.out.2; omega) t v HS.out).mono ?_
  rintro e w2 ⟨rfl, hT2, g2⟩
  have HF := Lib.hid ((T0.out.trans (B1.out.mono T0.out.size)).grown g2 (Nat.le_trans T0.out.size B1.out.size) (fun k hk => by injection hk with hk; rw [← hk]; exact Nat.le_trans T0.out.size HM.out))
  clear hT2 g2
  go_wp2
  go_ret
  exact ⟨rfl, HF.out⟩
end Go.Proofs.YtlaigbhiligceaaGreatDoor
