/- The program's LimitOf. -/
import Derived.Test.YtlaigbhiligceaaGreatDoorLimit
namespace Go.Proofs.YtlaigbhiligceaaGreatDoor
open Go.ChangeShapes Go.WideShapes Go.ChangeAt Go.RowKit
set_option linter.unusedVariables false
set_option maxRecDepth 100000 in
theorem lim_same (w : World) (P R X V U D Q : Int) (ns ni nz : Nat) (ls : List Sat4) (li lz : List Tri) (As : Option Addr) (cs : Nat) (Ai : Option Addr) (ci : Nat) (Az : Option Addr) (cz : Nat) (D0 : Nat) (h : InSky w (D0) As ns cs Ai ni ci Az nz cz ls li lz) (hD : D0 ≤ w.heap.size) (hs0 : ns ≤ 16777216) (hi0 : ni ≤ 16777216) (a b : Int) (ha : J64 a) (hb : J64 b) (hab : a = b) :
    Calls Tryz.prog 77 #[.agg #[.int .i64 P, .slice As ns cs, .slice Ai ni ci, .int .i64 R, .int .i64 X, .int .i64 V, .int .i64 U, .int .i64 D, .slice Az nz cz, .int .i64 Q], .int .i64 a, .int .i64 b] w (Num w (-1)) := by
  subst hab
  obtain ⟨W0, hW0⟩ : ∃ W, W = w.alloc (.cells #[.int .i64 P, .slice As ns cs, .slice Ai ni ci, .int .i64 R, .int .i64 X, .int .i64 V, .int .i64 U, .int .i64 D, .slice Az nz cz, .int .i64 Q] 28) := ⟨_, rfl⟩
  have T0 := Lib.hid ((Below.refl w.heap.size w).alloc (Nat.le_refl _) (.cells #[.int .i64 P, .slice As ns cs, .slice Ai ni ci, .int .i64 R, .int .i64 X, .int .i64 V, .int .i64 U, .int .i64 D, .slice Az nz cz, .int .i64 Q] 28))
  rw [← hW0] at T0
  have Z0 : Hid (Blk W0 w.heap.size 28 #[.int .i64 P, .slice As ns cs, .slice Ai ni ci, .int .i64 R, .int .i64 X, .int .i64 V, .int .i64 U, .int .i64 D, .slice Az nz cz, .int .i64 Q]) := Lib.hid (by rw [hW0]; exact Blk.new _ _ _)
  have HS0 := Lib.hid (h.below T0.out hD)
  have HSd := Lib.hid (HS0.out.below (Below.refl W0.heap.size W0).drew (Nat.le_trans hD T0.out.size))
  have hD1 := Lib.hid (Nat.le_trans hD T0.out.size)
  have hs := Lib.hid hs0; have hi := Lib.hid hi0; have HJa := Lib.hid ha
  clear h hD hs0 hi0 ha hb
  go_enter Tryz.func77, Tryz.ntmps77
  go_wp2_with fail
  rw [← hW0]
  clear hW0
  obtain ⟨c0, c1, c2, c3, c4, c5, c6, c7, c8, c9⟩ := Z0.out.ten
  go_region_held3 (fun w' => (w'.cell? ⟨w.heap.size, 0, none⟩ = some (.int .i64 P) ∧ w'.cell? ⟨w.heap.size, 1, none⟩ = some (.slice As ns cs) ∧ w'.cell? ⟨w.heap.size, 2, none⟩ = some (.slice Ai ni ci) ∧ w'.cell? ⟨w.heap.size, 3, none⟩ = some (.int .i64 R) ∧ w'.cell? ⟨w.heap.size, 4, none⟩ = some (.int .i64 X) ∧ w'.cell? ⟨w.heap.size, 5, none⟩ = some (.int .i64 V) ∧ w'.cell? ⟨w.heap.size, 6, none⟩ = some (.int .i64 U) ∧ w'.cell? ⟨w.heap.size, 7, none⟩ = some (.int .i64 D) ∧ w'.cell? ⟨w.heap.size, 8, none⟩ = some (.slice Az nz cz) ∧ w'.cell? ⟨w.heap.size, 9, none⟩ = some (.int .i64 Q))) (first | exact ⟨c0, c1, c2, c3, c4, c5, c6, c7, c8, c9⟩ | exact hcA | go_keep) (first
    | (have hbefore := HBA.out; go_at_call 82; refine (inode wA P R X V U D Q ns ni nz ls li lz As cs Ai ci Az cz D0 HSA.out hDA.out hs.out hi.out a HJa.out).mono ?_; clear hbefore; rintro e wB ⟨rfl, bB⟩; have HBB : Hid (Below W0.heap.size W0 wB) := Lib.hid (HBA.out.trans (bB.mono HBA.out.size)); have hcA := (Z0.out.below HBB.out Z0.out.lt).ten; clear bB)
    | (go_at_call 82; refine (inode W0.drew P R X V U D Q ns ni nz ls li lz As cs Ai ci Az cz D0 HSd.out hD1.out hs.out hi.out a HJa.out).mono ?_; rintro e wA ⟨rfl, bA⟩; have HBA : Hid (Below W0.heap.size W0 wA) := Lib.hid (by first | exact (Below.refl _ _).drew.trans bA | exact bA); have HSA := Lib.hid (HS0.out.below HBA.out hD1.out); have hDA := Lib.hid (Nat.le_trans hD1.out HBA.out.size); have hcA := (Z0.out.below HBA.out Z0.out.lt).ten; clear bA))
  clear c0 c1 c2 c3 c4 c5 c6 c7 c8 c9
  have TB := Lib.hid (T0.out.trans (HBB.out.mono T0.out.size))
  have ZB := Lib.hid (Z0.out.below HBB.out Z0.out.lt)
  clear HBA HSA hDA HBB HS0 HSd T0 Z0
  have hab' : (a == a) = true := by simp
  go_wp2
  go_ret
  exact ⟨rfl, TB.out⟩
set_option maxRecDepth 100000 in
theorem lim_none_a (w : World) (P R X V U D Q : Int) (ns ni nz : Nat) (ls : List Sat4) (li lz : List Tri) (As : Option Addr) (cs : Nat) (Ai : Option Addr) (ci : Nat) (Az : Option Addr) (cz : Nat) (D0 : Nat) (h : InSky w (D0) As ns cs Ai ni ci Az nz cz ls li lz) (hD : D0 ≤ w.heap.size) (hs0 : ns ≤ 16777216) (hi0 : ni ≤ 16777216) (a b : Int) (ha : J64 a) (hb : J64 b) (hab : ¬ a = b) (hva : nodeV ls li a = .nilIface) :
    Calls Tryz.prog 77 #[.agg #[.int .i64 P, .slice As ns cs, .slice Ai ni ci, .int .i64 R, .int .i64 X, .int .i64 V, .int .i64 U, .int .i64 D, .slice Az nz cz, .int .i64 Q], .int .i64 a, .int .i64 b] w (Num w (-1)) := by
  obtain ⟨W0, hW0⟩ : ∃ W, W = w.alloc (.cells #[.int .i64 P, .slice As ns cs, .slice Ai ni ci, .int .i64 R, .int .i64 X, .int .i64 V, .int .i64 U, .int .i64 D, .slice Az nz cz, .int .i64 Q] 28) := ⟨_, rfl⟩
  have T0 := Lib.hid ((Below.refl w.heap.size w).alloc (Nat.le_refl _) (.cells #[.int .i64 P, .slice As ns cs, .slice Ai ni ci, .int .i64 R, .int .i64 X, .int .i64 V, .int .i64 U, .int .i64 D, .slice Az nz cz, .int .i64 Q] 28))
  rw [← hW0] at T0
  have Z0 : Hid (Blk W0 w.heap.size 28 #[.int .i64 P, .slice As ns cs, .slice Ai ni ci, .int .i64 R, .int .i64 X, .int .i64 V, .int .i64 U, .int .i64 D, .slice Az nz cz, .int .i64 Q]) := Lib.hid (by rw [hW0]; exact Blk.new _ _ _)
  have HS0 := Lib.hid (h.below T0.out hD)
  have HSd := Lib.hid (HS0.out.below (Below.refl W0.heap.size W0).drew (Nat.le_trans hD T0.out.size))
  have hD1 := Lib.hid (Nat.le_trans hD T0.out.size)
  have hs := Lib.hid hs0; have hi := Lib.hid hi0; have HJa := Lib.hid ha; have HJb := Lib.hid hb
  clear h hD hs0 hi0 ha hb
  go_enter Tryz.func77, Tryz.ntmps77
  go_wp2_with fail
  rw [← hW0]
  clear hW0
  obtain ⟨c0, c1, c2, c3, c4, c5, c6, c7, c8, c9⟩ := Z0.out.ten
  go_region_held3 (fun w' => (w'.cell? ⟨w.heap.size, 0, none⟩ = some (.int .i64 P) ∧ w'.cell? ⟨w.heap.size, 1, none⟩ = some (.slice As ns cs) ∧ w'.cell? ⟨w.heap.size, 2, none⟩ = some (.slice Ai ni ci) ∧ w'.cell? ⟨w.heap.size, 3, none⟩ = some (.int .i64 R) ∧ w'.cell? ⟨w.heap.size, 4, none⟩ = some (.int .i64 X) ∧ w'.cell? ⟨w.heap.size, 5, none⟩ = some (.int .i64 V) ∧ w'.cell? ⟨w.heap.size, 6, none⟩ = some (.int .i64 U) ∧ w'.cell? ⟨w.heap.size, 7, none⟩ = some (.int .i64 D) ∧ w'.cell? ⟨w.heap.size, 8, none⟩ = some (.slice Az nz cz) ∧ w'.cell? ⟨w.heap.size, 9, none⟩ = some (.int .i64 Q))) (first | exact ⟨c0, c1, c2, c3, c4, c5, c6, c7, c8, c9⟩ | exact hcA | go_keep) (first
    | (have hbefore := HBA.out; go_at_call 82; refine (inode wA P R X V U D Q ns ni nz ls li lz As cs Ai ci Az cz D0 HSA.out hDA.out hs.out hi.out b HJb.out).mono ?_; clear hbefore; rintro e wB ⟨rfl, bB⟩; have HBB : Hid (Below W0.heap.size W0 wB) := Lib.hid (HBA.out.trans (bB.mono HBA.out.size)); have hcA := (Z0.out.below HBB.out Z0.out.lt).ten; clear bB)
    | (go_at_call 82; refine (inode W0.drew P R X V U D Q ns ni nz ls li lz As cs Ai ci Az cz D0 HSd.out hD1.out hs.out hi.out a HJa.out).mono ?_; rintro e wA ⟨rfl, bA⟩; have HBA : Hid (Below W0.heap.size W0 wA) := Lib.hid (by first | exact (Below.refl _ _).drew.trans bA | exact bA); have HSA := Lib.hid (HS0.out.below HBA.out hD1.out); have hDA := Lib.hid (Nat.le_trans hD1.out HBA.out.size); have hcA := (Z0.out.below HBA.out Z0.out.lt).ten; clear bA))
  clear c0 c1 c2 c3 c4 c5 c6 c7 c8 c9
  have TB := Lib.hid (T0.out.trans (HBB.out.mono T0.out.size))
  have ZB := Lib.hid (Z0.out.below HBB.out Z0.out.lt)
  clear HBA HSA hDA HBB HS0 HSd T0 Z0
  have hab' : (a == b) = false := by simpa using hab
  try rw [hva]
  go_wp2
  go_ret
  exact ⟨rfl, TB.out⟩
set_option maxRecDepth 100000 in
theorem lim_none_bs (w : World) (P R X V U D Q : Int) (ns ni nz : Nat) (ls : List Sat4) (li lz : List Tri) (As : Option Addr) (cs : Nat) (Ai : Option Addr) (ci : Nat) (Az : Option Addr) (cz : Nat) (D0 : Nat) (h : InSky w (D0) As ns cs Ai ni ci Az nz cz ls li lz) (hD : D0 ≤ w.heap.size) (hs0 : ns ≤ 16777216) (hi0 : ni ≤ 16777216) (a b : Int) (ha : J64 a) (hb : J64 b) (hab : ¬ a = b) {x y z u : Int} (hva : nodeV ls li a = .iface 109 (.agg #[.int .i64 x, .int .i64 y, .int .i64 z, .int .i64 u])) (hvb : nodeV ls li b = .nilIface) :
    Calls Tryz.prog 77 #[.agg #[.int .i64 P, .slice As ns cs, .slice Ai ni ci, .int .i64 R, .int .i64 X, .int .i64 V, .int .i64 U, .int .i64 D, .slice Az nz cz, .int .i64 Q], .int .i64 a, .int .i64 b] w (Num w (-1)) := by
  obtain ⟨W0, hW0⟩ : ∃ W, W = w.alloc (.cells #[.int .i64 P, .slice As ns cs, .slice Ai ni ci, .int .i64 R, .int .i64 X, .int .i64 V, .int .i64 U, .int .i64 D, .slice Az nz cz, .int .i64 Q] 28) := ⟨_, rfl⟩
  have T0 := Lib.hid ((Below.refl w.heap.size w).alloc (Nat.le_refl _) (.cells #[.int .i64 P, .slice As ns cs, .slice Ai ni ci, .int .i64 R, .int .i64 X, .int .i64 V, .int .i64 U, .int .i64 D, .slice Az nz cz, .int .i64 Q] 28))
  rw [← hW0] at T0
  have Z0 : Hid (Blk W0 w.heap.size 28 #[.int .i64 P, .slice As ns cs, .slice Ai ni ci, .int .i64 R, .int .i64 X, .int .i64 V, .int .i64 U, .int .i64 D, .slice Az nz cz, .int .i64 Q]) := Lib.hid (by rw [hW0]; exact Blk.new _ _ _)
  have HS0 := Lib.hid (h.below T0.out hD)
  have HSd := Lib.hid (HS0.out.below (Below.refl W0.heap.size W0).drew (Nat.le_trans hD T0.out.size))
  have hD1 := Lib.hid (Nat.le_trans hD T0.out.size)
  have hs := Lib.hid hs0; have hi := Lib.hid hi0; have HJa := Lib.hid ha; have HJb := Lib.hid hb
  clear h hD hs0 hi0 ha hb
  go_enter Tryz.func77, Tryz.ntmps77
  go_wp2_with fail
  rw [← hW0]
  clear hW0
  obtain ⟨c0, c1, c2, c3, c4, c5, c6, c7, c8, c9⟩ := Z0.out.ten
  go_region_held3 (fun w' => (w'.cell? ⟨w.heap.size, 0, none⟩ = some (.int .i64 P) ∧ w'.cell? ⟨w.heap.size, 1, none⟩ = some (.slice As ns cs) ∧ w'.cell? ⟨w.heap.size, 2, none⟩ = some (.slice Ai ni ci) ∧ w'.cell? ⟨w.heap.size, 3, none⟩ = some (.int .i64 R) ∧ w'.cell? ⟨w.heap.size, 4, none⟩ = some (.int .i64 X) ∧ w'.cell? ⟨w.heap.size, 5, none⟩ = some (.int .i64 V) ∧ w'.cell? ⟨w.heap.size, 6, none⟩ = some (.int .i64 U) ∧ w'.cell? ⟨w.heap.size, 7, none⟩ = some (.int .i64 D) ∧ w'.cell? ⟨w.heap.size, 8, none⟩ = some (.slice Az nz cz) ∧ w'.cell? ⟨w.heap.size, 9, none⟩ = some (.int .i64 Q))) (first | exact ⟨c0, c1, c2, c3, c4, c5, c6, c7, c8, c9⟩ | exact hcA | go_keep) (first
    | (have hbefore := HBA.out; go_at_call 82; refine (inode wA P R X V U D Q ns ni nz ls li lz As cs Ai ci Az cz D0 HSA.out hDA.out hs.out hi.out b HJb.out).mono ?_; clear hbefore; rintro e wB ⟨rfl, bB⟩; have HBB : Hid (Below W0.heap.size W0 wB) := Lib.hid (HBA.out.trans (bB.mono HBA.out.size)); have hcA := (Z0.out.below HBB.out Z0.out.lt).ten; clear bB)
    | (go_at_call 82; refine (inode W0.drew P R X V U D Q ns ni nz ls li lz As cs Ai ci Az cz D0 HSd.out hD1.out hs.out hi.out a HJa.out).mono ?_; rintro e wA ⟨rfl, bA⟩; have HBA : Hid (Below W0.heap.size W0 wA) := Lib.hid (by first | exact (Below.refl _ _).drew.trans bA | exact bA); have HSA := Lib.hid (HS0.out.below HBA.out hD1.out); have hDA := Lib.hid (Nat.le_trans hD1.out HBA.out.size); have hcA := (Z0.out.below HBA.out Z0.out.lt).ten; clear bA))
  clear c0 c1 c2 c3 c4 c5 c6 c7 c8 c9
  have TB := Lib.hid (T0.out.trans (HBB.out.mono T0.out.size))
  have ZB := Lib.hid (Z0.out.below HBB.out Z0.out.lt)
  clear HBA HSA hDA HBB HS0 HSd T0 Z0
  have hab' : (a == b) = false := by simpa using hab
  try rw [hva]
  try rw [hvb]
  go_wp2
  go_ret
  exact ⟨rfl, TB.out⟩
set_option maxRecDepth 100000 in
theorem lim_none_bi (w : World) (P R X V U D Q : Int) (ns ni nz : Nat) (ls : List Sat4) (li lz : List Tri) (As : Option Addr) (cs : Nat) (Ai : Option Addr) (ci : Nat) (Az : Option Addr) (cz : Nat) (D0 : Nat) (h : InSky w (D0) As ns cs Ai ni ci Az nz cz ls li lz) (hD : D0 ≤ w.heap.size) (hs0 : ns ≤ 16777216) (hi0 : ni ≤ 16777216) (a b : Int) (ha : J64 a) (hb : J64 b) (hab : ¬ a = b) {x y z : Int} (hva : nodeV ls li a = .iface 113 (.agg #[.int .i64 x, .int .i64 y, .int .i64 z])) (hvb : nodeV ls li b = .nilIface) :
    Calls Tryz.prog 77 #[.agg #[.int .i64 P, .slice As ns cs, .slice Ai ni ci, .int .i64 R, .int .i64 X, .int .i64 V, .int .i64 U, .int .i64 D, .slice Az nz cz, .int .i64 Q], .int .i64 a, .int .i64 b] w (Num w (-1)) := by
  obtain ⟨W0, hW0⟩ : ∃ W, W = w.alloc (.cells #[.int .i64 P, .slice As ns cs, .slice Ai ni ci, .int .i64 R, .int .i64 X, .int .i64 V, .int .i64 U, .int .i64 D, .slice Az nz cz, .int .i64 Q] 28) := ⟨_, rfl⟩
  have T0 := Lib.hid ((Below.refl w.heap.size w).alloc (Nat.le_refl _) (.cells #[.int .i64 P, .slice As ns cs, .slice Ai ni ci, .int .i64 R, .int .i64 X, .int .i64 V, .int .i64 U, .int .i64 D, .slice Az nz cz, .int .i64 Q] 28))
  rw [← hW0] at T0
  have Z0 : Hid (Blk W0 w.heap.size 28 #[.int .i64 P, .slice As ns cs, .slice Ai ni ci, .int .i64 R, .int .i64 X, .int .i64 V, .int .i64 U, .int .i64 D, .slice Az nz cz, .int .i64 Q]) := Lib.hid (by rw [hW0]; exact Blk.new _ _ _)
  have HS0 := Lib.hid (h.below T0.out hD)
  have HSd := Lib.hid (HS0.out.below (Below.refl W0.heap.size W0).drew (Nat.le_trans hD T0.out.size))
  have hD1 := Lib.hid (Nat.le_trans hD T0.out.size)
  have hs := Lib.hid hs0; have hi := Lib.hid hi0; have HJa := Lib.hid ha; have HJb := Lib.hid hb
  clear h hD hs0 hi0 ha hb
  go_enter Tryz.func77, Tryz.ntmps77
  go_wp2_with fail
  rw [← hW0]
  clear hW0
  obtain ⟨c0, c1, c2, c3, c4, c5, c6, c7, c8, c9⟩ := Z0.out.ten
  go_region_held3 (fun w' => (w'.cell? ⟨w.heap.size, 0, none⟩ = some (.int .i64 P) ∧ w'.cell? ⟨w.heap.size, 1, none⟩ = some (.slice As ns cs) ∧ w'.cell? ⟨w.heap.size, 2, none⟩ = some (.slice Ai ni ci) ∧ w'.cell? ⟨w.heap.size, 3, none⟩ = some (.int .i64 R) ∧ w'.cell? ⟨w.heap.size, 4, none⟩ = some (.int .i64 X) ∧ w'.cell? ⟨w.heap.size, 5, none⟩ = some (.int .i64 V) ∧ w'.cell? ⟨w.heap.size, 6, none⟩ = some (.int .i64 U) ∧ w'.cell? ⟨w.heap.size, 7, none⟩ = some (.int .i64 D) ∧ w'.cell? ⟨w.heap.size, 8, none⟩ = some (.slice Az nz cz) ∧ w'.cell? ⟨w.heap.size, 9, none⟩ = some (.int .i64 Q))) (first | exact ⟨c0, c1, c2, c3, c4, c5, c6, c7, c8, c9⟩ | exact hcA | go_keep) (first
    | (have hbefore := HBA.out; go_at_call 82; refine (inode wA P R X V U D Q ns ni nz ls li lz As cs Ai ci Az cz D0 HSA.out hDA.out hs.out hi.out b HJb.out).mono ?_; clear hbefore; rintro e wB ⟨rfl, bB⟩; have HBB : Hid (Below W0.heap.size W0 wB) := Lib.hid (HBA.out.trans (bB.mono HBA.out.size)); have hcA := (Z0.out.below HBB.out Z0.out.lt).ten; clear bB)
    | (go_at_call 82; refine (inode W0.drew P R X V U D Q ns ni nz ls li lz As cs Ai ci Az cz D0 HSd.out hD1.out hs.out hi.out a HJa.out).mono ?_; rintro e wA ⟨rfl, bA⟩; have HBA : Hid (Below W0.heap.size W0 wA) := Lib.hid (by first | exact (Below.refl _ _).drew.trans bA | exact bA); have HSA := Lib.hid (HS0.out.below HBA.out hD1.out); have hDA := Lib.hid (Nat.le_trans hD1.out HBA.out.size); have hcA := (Z0.out.below HBA.out Z0.out.lt).ten; clear bA))
  clear c0 c1 c2 c3 c4 c5 c6 c7 c8 c9
  have TB := Lib.hid (T0.out.trans (HBB.out.mono T0.out.size))
  have ZB := Lib.hid (Z0.out.below HBB.out Z0.out.lt)
  clear HBA HSA hDA HBB HS0 HSd T0 Z0
  have hab' : (a == b) = false := by simpa using hab
  try rw [hva]
  try rw [hvb]
  go_wp2
  go_ret
  exact ⟨rfl, TB.out⟩
set_option maxRecDepth 100000 in
set_option maxHeartbeats 1000000 in
theorem lim_ss (w : World) (P R X V U D Q : Int) (ns ni nz : Nat) (ls : List Sat4) (li lz : List Tri) (As : Option Addr) (cs : Nat) (Ai : Option Addr) (ci : Nat) (Az : Option Addr) (cz : Nat) (D0 : Nat) (h : InSky w (D0) As ns cs Ai ni ci Az nz cz ls li lz) (hD : D0 ≤ w.heap.size) (hs0 : ns ≤ 16777216) (hi0 : ni ≤ 16777216) (a b : Int) (ha : J64 a) (hb : J64 b) (hP : J64 P) (hab : ¬ a = b) {x y z u : Int} {x' y' z' u' : Int} (hva : nodeV ls li a = .iface 109 (.agg #[.int .i64 x, .int .i64 y, .int .i64 z, .int .i64 u])) (hvb : nodeV ls li b = .iface 109 (.agg #[.int .i64 x', .int .i64 y', .int .i64 z', .int .i64 u'])) (hx : J64 x) (hx' : J64 x') (r : Int) (hr : r = (if x = x' then R else if nearI P x x' = true then X else -1)) :
    Calls Tryz.prog 77 #[.agg #[.int .i64 P, .slice As ns cs, .slice Ai ni ci, .int .i64 R, .int .i64 X, .int .i64 V, .int .i64 U, .int .i64 D, .slice Az nz cz, .int .i64 Q], .int .i64 a, .int .i64 b] w (Num w r) := by
  obtain ⟨v, hv⟩ : ∃ v, nearI P x x' = v := ⟨_, rfl⟩
  have HV := Lib.hid hv
  rw [hv] at hr
  have HR := Lib.hid hr
  have HPj := Lib.hid hP; have HXj := Lib.hid hx; have HXj' := Lib.hid hx'
  clear hv hr hP hx hx'
  obtain ⟨W0, hW0⟩ : ∃ W, W = w.alloc (.cells #[.int .i64 P, .slice As ns cs, .slice Ai ni ci, .int .i64 R, .int .i64 X, .int .i64 V, .int .i64 U, .int .i64 D, .slice Az nz cz, .int .i64 Q] 28) := ⟨_, rfl⟩
  have T0 := Lib.hid ((Below.refl w.heap.size w).alloc (Nat.le_refl _) (.cells #[.int .i64 P, .slice As ns cs, .slice Ai ni ci, .int .i64 R, .int .i64 X, .int .i64 V, .int .i64 U, .int .i64 D, .slice Az nz cz, .int .i64 Q] 28))
  rw [← hW0] at T0
  have Z0 : Hid (Blk W0 w.heap.size 28 #[.int .i64 P, .slice As ns cs, .slice Ai ni ci, .int .i64 R, .int .i64 X, .int .i64 V, .int .i64 U, .int .i64 D, .slice Az nz cz, .int .i64 Q]) := Lib.hid (by rw [hW0]; exact Blk.new _ _ _)
  have HS0 := Lib.hid (h.below T0.out hD)
  have HSd := Lib.hid (HS0.out.below (Below.refl W0.heap.size W0).drew (Nat.le_trans hD T0.out.size))
  have hD1 := Lib.hid (Nat.le_trans hD T0.out.size)
  have hs := Lib.hid hs0; have hi := Lib.hid hi0; have HJa := Lib.hid ha; have HJb := Lib.hid hb
  clear h hD hs0 hi0 ha hb
  go_enter Tryz.func77, Tryz.ntmps77
  go_wp2_with fail
  rw [← hW0]
  clear hW0
  obtain ⟨c0, c1, c2, c3, c4, c5, c6, c7, c8, c9⟩ := Z0.out.ten
  go_region_held3 (fun w' => (w'.cell? ⟨w.heap.size, 0, none⟩ = some (.int .i64 P) ∧ w'.cell? ⟨w.heap.size, 1, none⟩ = some (.slice As ns cs) ∧ w'.cell? ⟨w.heap.size, 2, none⟩ = some (.slice Ai ni ci) ∧ w'.cell? ⟨w.heap.size, 3, none⟩ = some (.int .i64 R) ∧ w'.cell? ⟨w.heap.size, 4, none⟩ = some (.int .i64 X) ∧ w'.cell? ⟨w.heap.size, 5, none⟩ = some (.int .i64 V) ∧ w'.cell? ⟨w.heap.size, 6, none⟩ = some (.int .i64 U) ∧ w'.cell? ⟨w.heap.size, 7, none⟩ = some (.int .i64 D) ∧ w'.cell? ⟨w.heap.size, 8, none⟩ = some (.slice Az nz cz) ∧ w'.cell? ⟨w.heap.size, 9, none⟩ = some (.int .i64 Q))) (first | exact ⟨c0, c1, c2, c3, c4, c5, c6, c7, c8, c9⟩ | exact hcA | go_keep) (first
    | (have hbefore := HBA.out; go_at_call 82; refine (inode wA P R X V U D Q ns ni nz ls li lz As cs Ai ci Az cz D0 HSA.out hDA.out hs.out hi.out b HJb.out).mono ?_; clear hbefore; rintro e wB ⟨rfl, bB⟩; have HBB : Hid (Below W0.heap.size W0 wB) := Lib.hid (HBA.out.trans (bB.mono HBA.out.size)); have hcA := (Z0.out.below HBB.out Z0.out.lt).ten; clear bB)
    | (go_at_call 82; refine (inode W0.drew P R X V U D Q ns ni nz ls li lz As cs Ai ci Az cz D0 HSd.out hD1.out hs.out hi.out a HJa.out).mono ?_; rintro e wA ⟨rfl, bA⟩; have HBA : Hid (Below W0.heap.size W0 wA) := Lib.hid (by first | exact (Below.refl _ _).drew.trans bA | exact bA); have HSA := Lib.hid (HS0.out.below HBA.out hD1.out); have hDA := Lib.hid (Nat.le_trans hD1.out HBA.out.size); have hcA := (Z0.out.below HBA.out Z0.out.lt).ten; clear bA))
  clear c0 c1 c2 c3 c4 c5 c6 c7 c8 c9
  have TB := Lib.hid (T0.out.trans (HBB.out.mono T0.out.size))
  have ZB := Lib.hid (Z0.out.below HBB.out Z0.out.lt)
  clear HBA HSA hDA HBB HS0 HSd T0 Z0
  have hab' : (a == b) = false := by simpa using hab
  try rw [hva]
  try rw [hvb]
  clear hva hvb
  go_wp2_with fail
  refine (kind_sat _ _).mono ?_
  rintro e w' ⟨rfl, rfl⟩
  go_wp2_with fail
  refine (kind_sat _ _).mono ?_
  rintro e w' ⟨rfl, rfl⟩
  go_wp2_with fail
  refine (kind_sat _ _).mono ?_
  rintro e w' ⟨rfl, rfl⟩
  go_wp2_with fail
  refine (kind_sat _ _).mono ?_
  rintro e w' ⟨rfl, rfl⟩
  go_wp2_with fail
  refine (sat_plane _ x y z u).mono ?_
  rintro e wp1 ⟨rfl, bp⟩
  have TB1 := Lib.hid (TB.out.trans (bp.mono TB.out.size)); have ZB1 := Lib.hid (ZB.out.below bp ZB.out.lt)
  clear bp TB ZB
  go_wp2_with fail
  refine (sat_plane _ x' y' z' u').mono ?_
  rintro e wp2 ⟨rfl, bp⟩
  have TB2 := Lib.hid (TB1.out.trans (bp.mono TB1.out.size)); have ZB2 := Lib.hid (ZB1.out.below bp ZB1.out.lt)
  clear bp TB1 ZB1
  obtain ⟨c0, c1, c2, c3, c4, c5, c6, c7, c8, c9⟩ := ZB2.out.ten
  go_wp2_with fail
  go_region_held3 (fun w' => (w'.cell? ⟨w.heap.size, 0, none⟩ = some (.int .i64 P) ∧ w'.cell? ⟨w.heap.size, 1, none⟩ = some (.slice As ns cs) ∧ w'.cell? ⟨w.heap.size, 2, none⟩ = some (.slice Ai ni ci) ∧ w'.cell? ⟨w.heap.size, 3, none⟩ = some (.int .i64 R) ∧ w'.cell? ⟨w.heap.size, 4, none⟩ = some (.int .i64 X) ∧ w'.cell? ⟨w.heap.size, 5, none⟩ = some (.int .i64 V) ∧ w'.cell? ⟨w.heap.size, 6, none⟩ = some (.int .i64 U) ∧ w'.cell? ⟨w.heap.size, 7, none⟩ = some (.int .i64 D) ∧ w'.cell? ⟨w.heap.size, 8, none⟩ = some (.slice Az nz cz) ∧ w'.cell? ⟨w.heap.size, 9, none⟩ = some (.int .i64 Q))) (first | exact ⟨c0, c1, c2, c3, c4, c5, c6, c7, c8, c9⟩ | exact hcA | go_keep) (first
    | (go_at_call 126; refine (ineigh _ P R X V U D Q ns ni nz ls li lz As cs Ai ci Az cz x x' HXj.out HXj'.out HPj.out v HV.out).mono ?_; rintro e wC ⟨rfl, bC⟩; have HBC : Hid (Below wp2.heap.size wp2 wC) := Lib.hid (HBB.out.trans (bC.mono HBB.out.size)); have hcA := (ZB2.out.below HBC.out ZB2.out.lt).ten; clear bC)
    | (have hbefore := HBA.out; go_at_call 201; refine (sat_plane _ x' y' z' u').mono ?_; clear hbefore; rintro e wB ⟨rfl, bB⟩; have HBB : Hid (Below wp2.heap.size wp2 wB) := Lib.hid (HBA.out.trans (bB.mono HBA.out.size)); have hcA := (ZB2.out.below HBB.out ZB2.out.lt).ten; clear bB)
    | (go_at_call 201; refine (sat_plane _ x y z u).mono ?_; rintro e wA ⟨rfl, bA⟩; have HBA : Hid (Below wp2.heap.size wp2 wA) := Lib.hid (by first | exact (Below.refl _ _).drew.trans bA | exact bA); have once := True.intro; have hcA := (ZB2.out.below HBA.out ZB2.out.lt).ten; clear bA))
  clear c0 c1 c2 c3 c4 c5 c6 c7 c8 c9
  have TC := Lib.hid (TB2.out.trans (HBC.out.mono TB2.out.size))
  obtain ⟨d0, d1, d2, d3, d4, d5, d6, d7, d8, d9⟩ := (ZB2.out.below HBC.out ZB2.out.lt).ten
  clear HBA HBB HBC TB2 ZB2
  by_cases hxx : x = x'
  · have hxx' : (x == x') = true := by simpa using hxx
    go_wp2
    go_ret
    exact ⟨ret_int (k := .i64) (HR.out.trans (by rw [if_pos hxx])).symm, TC.out⟩
  · have hxx' : (x == x') = false := by simpa using hxx
    cases v
    · go_wp2
      go_ret
      exact ⟨ret_int (k := .i64) (HR.out.trans (by rw [if_neg hxx, if_neg (by simp)])).symm, TC.out⟩
    · go_wp2
      go_ret
      exact ⟨ret_int (k := .i64) (HR.out.trans (by simp [hxx])).symm, TC.out⟩
end Go.Proofs.YtlaigbhiligceaaGreatDoor
