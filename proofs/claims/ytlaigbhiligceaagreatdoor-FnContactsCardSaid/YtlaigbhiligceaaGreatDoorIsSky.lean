/- IsSat and IsSky of both sides, in plain words. -/
import Derived.Test.YtlaigbhiligceaaGreatDoorNodes
import Derived.Test.YtlaigbhiligceaaGreatDoorSentinels
import Derived.LoopTactic
namespace Go.Proofs.YtlaigbhiligceaaGreatDoor
open Go.ChangeShapes Go.WideShapes Go.ChangeAt Go.RowKit
set_option linter.unusedVariables false
theorem says_ex (p : Prop) : ∃ b, SaysOf b p := by
  by_cases h : p
  · exact ⟨true, by simp [SaysOf, h]⟩
  · exact ⟨false, by simp [SaysOf, h]⟩
theorem SaysOf.dec {b : Bool} {p : Prop} [Decidable p] (h : SaysOf b p) : decide p = b := by
  cases b
  · simpa using h.f
  · simpa using h.t
def satOk (P : Int) (x : Sat4) : Bool := decide (0 ≤ x.p ∧ x.p ≤ P - 1) && (decide (0 ≤ x.h ∧ x.h ≤ 359) && (decide (-60 ≤ x.v ∧ x.v ≤ 60) && decide (0 ≤ x.e ∧ x.e ≤ 20)))
def siteOk (P : Int) (x : Tri) : Bool := decide (0 ≤ x.p ∧ x.p ≤ P - 1) && (decide (0 ≤ x.a ∧ x.a ≤ 359) && decide (-60 ≤ x.b ∧ x.b ≤ 60))
def zoneOk (P : Int) (x : Tri) : Bool := decide (0 ≤ x.p ∧ x.p ≤ P - 1) && decide (0 ≤ x.b ∧ x.b ≤ 359)
def halfOk (z : Int) : Bool := decide (0 ≤ z ∧ z ≤ 180)
def skyOk (P R X V U D Q : Int) (ls : List Sat4) (li lz : List Tri) : Bool :=
  decide (1 ≤ P ∧ P ≤ 4) && (decide (1 ≤ (ls.length : Int) ∧ (ls.length : Int) ≤ 8) && (ls.all (satOk P) && (decide (li.length ≤ 4) && (li.all (siteOk P) && (decide (lz.length ≤ 4) && (lz.all (zoneOk P) &&
    ([R, X, V, D].all halfOk && (decide (-60 ≤ U ∧ U ≤ 60) && decide (0 ≤ Q ∧ Q ≤ 20)))))))))
theorem siteOk_sat (P : Int) (x y z : Int) : satOk P ⟨x, y, z, 0⟩ = siteOk P ⟨x, y, z⟩ := by simp [satOk, siteOk]
theorem iinr_b (n lo hi : Int) (w : World) (b : Bool) (h : SaysOf b (lo ≤ n ∧ n ≤ hi)) :
    Calls Tryz.prog 112 #[.int .i64 n, .int .i64 lo, .int .i64 hi] w fun e w' => e = .returned (.bool b) ∧ w = w' := by
  cases b
  · exact iinr_f n lo hi w h.f
  · exact iinr_t n lo hi w h.t.1 h.t.2
theorem sinr_b (n lo hi : Int) (w : World) (b : Bool) (h : SaysOf b (lo ≤ n ∧ n ≤ hi)) :
    Calls Tryz.prog 91 #[.int .i64 n, .int .i64 lo, .int .i64 hi] w fun e w' => e = .returned (.bool b) ∧ w = w' := by
  cases b
  · exact sinr_f n lo hi w h.f
  · exact sinr_t n lo hi w h.t.1 h.t.2
theorem iissat (w : World) (x y z u P : Int) (hP1 : 1 ≤ P) (hP4 : P ≤ 4) (b : Bool) (hb : satOk P ⟨x, y, z, u⟩ = b) :
    Calls Tryz.prog 108 #[.agg #[.int .i64 x, .int .i64 y, .int .i64 z, .int .i64 u], .int .i64 P] w (Tells w b) := by
  obtain ⟨b1, h1⟩ := says_ex (0 ≤ x ∧ x ≤ P - 1)
  obtain ⟨b2, h2⟩ := says_ex (0 ≤ y ∧ y ≤ 359)
  obtain ⟨b3, h3⟩ := says_ex (-60 ≤ z ∧ z ≤ 60)
  obtain ⟨b4, h4⟩ := says_ex (0 ≤ u ∧ u ≤ 20)
  have HB : Hid (b = (b1 && (b2 && (b3 && b4)))) := Lib.hid (by rw [← hb, ← h1.dec, ← h2.dec, ← h3.dec, ← h4.dec]; rfl)
  have H1 := Lib.hid h1; have H2 := Lib.hid h2; have H3 := Lib.hid h3; have H4 := Lib.hid h4
  clear h1 h2 h3 h4 hb
  go_enter Tryz.func108, Tryz.ntmps108
  go_wp2_with fail
  refine (iinr_b _ _ _ _ b1 H1.out).mono ?_
  rintro e w' ⟨rfl, rfl⟩
  cases b1
  · obtain rfl : b = false := by simpa using HB.out
    go_wp2
    go_ret
    exact ⟨rfl, (Below.refl _ _).alloc (Nat.le_refl _) _⟩
  go_wp2_with fail
  refine (iinr_b _ _ _ _ b2 H2.out).mono ?_
  rintro e w' ⟨rfl, rfl⟩
  cases b2
  · obtain rfl : b = false := by simpa using HB.out
    go_wp2
    go_ret
    exact ⟨rfl, (Below.refl _ _).alloc (Nat.le_refl _) _⟩
  go_wp2_with fail
  refine (iinr_b _ _ _ _ b3 H3.out).mono ?_
  rintro e w' ⟨rfl, rfl⟩
  cases b3
  · obtain rfl : b = false := by simpa using HB.out
    go_wp2
    go_ret
    exact ⟨rfl, (Below.refl _ _).alloc (Nat.le_refl _) _⟩
  go_wp2_with fail
  refine (iinr_b _ _ _ _ b4 H4.out).mono ?_
  rintro e w' ⟨rfl, rfl⟩
  obtain rfl : b = b4 := by simpa using HB.out
  go_wp2
  go_ret
  exact ⟨rfl, (Below.refl _ _).alloc (Nat.le_refl _) _⟩
theorem sissat (w : World) (x y z u P : Int) (b : Bool) (hb : satOk P ⟨x, y, z, u⟩ = b) :
    Calls Tryz.prog 90 #[.agg #[.int .i64 x, .int .i64 y, .int .i64 z, .int .i64 u], .int .i64 P] w (Tells w b) := by
  obtain ⟨b2, h2⟩ := says_ex (0 ≤ y ∧ y ≤ 359)
  obtain ⟨b3, h3⟩ := says_ex (-60 ≤ z ∧ z ≤ 60)
  obtain ⟨b4, h4⟩ := says_ex (0 ≤ u ∧ u ≤ 20)
  have HB : Hid (b = (decide (0 ≤ x ∧ x ≤ P - 1) && (b2 && (b3 && b4)))) := Lib.hid (by rw [← hb, ← h2.dec, ← h3.dec, ← h4.dec]; rfl)
  have H2 := Lib.hid h2; have H3 := Lib.hid h3; have H4 := Lib.hid h4
  clear h2 h3 h4 hb
  by_cases g1 : 0 ≤ x
  · by_cases g2 : x < P
    · have HB1 : Hid (b = (b2 && (b3 && b4))) := Lib.hid (by rw [HB.out]; simp; intro _ _ _; omega)
      clear HB
      go_enter Tryz.func90, Tryz.ntmps90
      go_wp2_with fail
      refine (sinr_b _ _ _ _ b2 H2.out).mono ?_
      rintro e w' ⟨rfl, rfl⟩
      cases b2
      · obtain rfl : b = false := by simpa using HB1.out
        go_wp2
        go_ret
        exact ⟨rfl, (Below.refl _ _).alloc (Nat.le_refl _) _⟩
      go_wp2_with fail
      refine (sinr_b _ _ _ _ b3 H3.out).mono ?_
      rintro e w' ⟨rfl, rfl⟩
      cases b3
      · obtain rfl : b = false := by simpa using HB1.out
        go_wp2
        go_ret
        exact ⟨rfl, (Below.refl _ _).alloc (Nat.le_refl _) _⟩
      go_wp2_with fail
      refine (sinr_b _ _ _ _ b4 H4.out).mono ?_
      rintro e w' ⟨rfl, rfl⟩
      obtain rfl : b = b4 := by simpa using HB1.out
      go_wp2
      go_ret
      exact ⟨rfl, (Below.refl _ _).alloc (Nat.le_refl _) _⟩
    · obtain rfl : b = false := by rw [HB.out]; simp; omega
      clear HB
      go_enter Tryz.func90, Tryz.ntmps90
      go_wp2
      go_ret
      exact ⟨rfl, (Below.refl _ _).alloc (Nat.le_refl _) _⟩
  · obtain rfl : b = false := by rw [HB.out]; simp; omega
    clear HB
    go_enter Tryz.func90, Tryz.ntmps90
    go_wp2
    go_ret
    exact ⟨rfl, (Below.refl _ _).alloc (Nat.le_refl _) _⟩
theorem iassat (w : World) (x y z : Int) :
    Calls Tryz.prog 110 #[.agg #[.int .i64 x, .int .i64 y, .int .i64 z]] w (Vals w (.agg #[.int .i64 x, .int .i64 y, .int .i64 z, .int .i64 0])) := by
  go_enter Tryz.func110, Tryz.ntmps110
  go_wp2
  refine bodyPost_ret (v := .agg #[.int .i64 x, .int .i64 y, .int .i64 z, .int .i64 0]) (by simp [results, Tryz.results110, go_sem]) rfl ⟨rfl, ?_⟩
  exact ((Below.refl _ _).alloc (Nat.le_refl _) _).alloc (by simp) _
/-! The closures of IsSky: g is the block in which they find the sky -/
theorem isky1 (w : World) (x y z u P : Int) (g : Nat) (hg : g < w.heap.size) (hc : w.cell? ⟨g, 0, none⟩ = some (.int .i64 P)) (hP1 : 1 ≤ P) (hP4 : P ≤ 4) (b : Bool) (hb : satOk P ⟨x, y, z, u⟩ = b) :
    Calls Tryz.prog 107 #[.agg #[.int .i64 x, .int .i64 y, .int .i64 z, .int .i64 u], .pointer (some ⟨g, 0, none⟩)] w (Tells w b) := by
  have HB := Lib.hid hb; clear hb
  go_enter Tryz.func107, Tryz.ntmps107
  go_wp2_with fail
  refine (iissat _ x y z u P hP1 hP4 b HB.out).mono ?_
  rintro e w1 ⟨rfl, b1⟩
  have B1 := Lib.hid (((Below.refl w.heap.size w).alloc (Nat.le_refl _) _).trans (b1.mono (by simp)))
  clear b1
  go_wp2
  go_ret
  exact ⟨rfl, B1.out⟩
theorem isky2 (w : World) (x y z P : Int) (g : Nat) (hg : g < w.heap.size) (hc : w.cell? ⟨g, 0, none⟩ = some (.int .i64 P)) (hP1 : 1 ≤ P) (hP4 : P ≤ 4) (b : Bool) (hb : siteOk P ⟨x, y, z⟩ = b) :
    Calls Tryz.prog 109 #[.agg #[.int .i64 x, .int .i64 y, .int .i64 z], .pointer (some ⟨g, 0, none⟩)] w (Tells w b) := by
  have HB : Hid (satOk P ⟨x, y, z, 0⟩ = b) := Lib.hid (by rw [siteOk_sat]; exact hb)
  have HC := Lib.hid hc
  have T0 := Lib.hid ((Below.refl w.heap.size w).alloc (Nat.le_refl _) (.cells #[.int .i64 x, .int .i64 y, .int .i64 z] 113))
  clear hb hc
  obtain ⟨W0, hW0⟩ : ∃ W, W = w.alloc (.cells #[.int .i64 x, .int .i64 y, .int .i64 z] 113) := ⟨_, rfl⟩
  have Z0 : Hid (Blk W0 w.heap.size 113 #[.int .i64 x, .int .i64 y, .int .i64 z]) := Lib.hid (by rw [hW0]; exact Blk.new _ _ _)
  rw [← hW0] at T0
  go_enter Tryz.func109, Tryz.ntmps109
  go_wp2_with fail
  rw [← hW0]
  have c0 : W0.cell? ⟨w.heap.size, 0, none⟩ = some (.int .i64 x) := Z0.out.cell 0
  have c1 : W0.cell? ⟨w.heap.size, 1, none⟩ = some (.int .i64 y) := Z0.out.cell 1
  have c2 : W0.cell? ⟨w.heap.size, 2, none⟩ = some (.int .i64 z) := Z0.out.cell 2
  have c3 : W0.cell? ⟨g, 0, none⟩ = some (.int .i64 P) := (T0.out.cell hg).trans HC.out
  clear hW0
  go_region_held3 (fun w' => w'.cell? ⟨w.heap.size, 0, none⟩ = some (.int .i64 x) ∧ w'.cell? ⟨w.heap.size, 1, none⟩ = some (.int .i64 y) ∧ w'.cell? ⟨w.heap.size, 2, none⟩ = some (.int .i64 z) ∧ w'.cell? ⟨g, 0, none⟩ = some (.int .i64 P)) (first | exact ⟨c0, c1, c2, c3⟩ | exact hcA | go_keep) (first
    | (go_at_call 110; refine (iassat _ x y z).mono ?_; rintro e wA ⟨rfl, bA⟩; have HBA : Hid (Below W0.heap.size W0 wA) := Lib.hid (by first | exact (Below.refl _ _).drew.trans bA | exact bA); have hcA : wA.cell? ⟨w.heap.size, 0, none⟩ = some (.int .i64 x) ∧ wA.cell? ⟨w.heap.size, 1, none⟩ = some (.int .i64 y) ∧ wA.cell? ⟨w.heap.size, 2, none⟩ = some (.int .i64 z) ∧ wA.cell? ⟨g, 0, none⟩ = some (.int .i64 P) := ⟨(Z0.out.below HBA.out Z0.out.lt).cell 0, (Z0.out.below HBA.out Z0.out.lt).cell 1, (Z0.out.below HBA.out Z0.out.lt).cell 2, ((T0.out.trans (HBA.out.mono T0.out.size)).cell hg).trans HC.out⟩; clear bA)
    | (go_at_call 108; refine (iissat _ x y z 0 P hP1 hP4 b HB.out).mono ?_; rintro e wB ⟨rfl, bB⟩; have HBB : Hid (Below w.heap.size w wB) := Lib.hid ((T0.out.trans (HBA.out.mono T0.out.size)).trans (bB.mono (T0.out.trans (HBA.out.mono T0.out.size)).size)); have hcA : wB.cell? ⟨w.heap.size, 0, none⟩ = some (.int .i64 x) ∧ wB.cell? ⟨w.heap.size, 1, none⟩ = some (.int .i64 y) ∧ wB.cell? ⟨w.heap.size, 2, none⟩ = some (.int .i64 z) ∧ wB.cell? ⟨g, 0, none⟩ = some (.int .i64 P) := ⟨((Z0.out.below HBA.out Z0.out.lt).below bB (Z0.out.below HBA.out Z0.out.lt).lt).cell 0, ((Z0.out.below HBA.out Z0.out.lt).below bB (Z0.out.below HBA.out Z0.out.lt).lt).cell 1, ((Z0.out.below HBA.out Z0.out.lt).below bB (Z0.out.below HBA.out Z0.out.lt).lt).cell 2, (HBB.out.cell hg).trans HC.out⟩; clear bB))
  go_wp2
  go_ret
  exact ⟨rfl, HBB.out⟩
theorem isky3 (w : World) (nA tW : Addr) (E : Errs w nA tW) (x y z P : Int) (g : Nat) (hg : g < w.heap.size) (hc : w.cell? ⟨g, 0, none⟩ = some (.int .i64 P)) (hP1 : 1 ≤ P) (hP4 : P ≤ 4) (b : Bool) (hb : zoneOk P ⟨x, y, z⟩ = b) :
    Calls Tryz.prog 111 #[.agg #[.int .i64 x, .int .i64 y, .int .i64 z], .pointer (some ⟨g, 0, none⟩)] w (Tells w b) := by
  obtain ⟨b1, h1⟩ := says_ex (0 ≤ x ∧ x ≤ P - 1)
  have HB : Hid (b = (b1 && decide (0 ≤ z ∧ z ≤ 359))) := Lib.hid (by rw [← hb, ← h1.dec]; rfl)
  have H1 := Lib.hid h1
  have E1 := Lib.hid (E.below ((Below.refl w.heap.size w).alloc (Nat.le_refl _) (.cells #[.int .i64 x, .int .i64 y, .int .i64 z] 118)))
  clear h1 hb E
  go_enter Tryz.func111, Tryz.ntmps111
  go_wp2_with fail
  refine (iinr_b _ _ _ _ b1 H1.out).mono ?_
  rintro e w' ⟨rfl, rfl⟩
  cases b1
  · obtain rfl : b = false := by simpa using HB.out
    go_wp2
    go_ret
    exact ⟨rfl, (Below.refl _ _).alloc (Nat.le_refl _) _⟩
  go_wp2_with fail
  by_cases g1 : z < 0
  · obtain rfl : b = false := by rw [HB.out]; simp; omega
    refine (iwf_n E1.out z g1).mono ?_
    rintro e w' ⟨rfl, rfl⟩
    go_wp2
    go_ret
    exact ⟨rfl, (Below.refl _ _).alloc (Nat.le_refl _) _⟩
  · by_cases g2 : 360 ≤ z
    · obtain rfl : b = false := by rw [HB.out]; simp; omega
      refine (iwf_t E1.out z g2).mono ?_
      rintro e w' ⟨rfl, rfl⟩
      go_wp2
      go_ret
      exact ⟨rfl, (Below.refl _ _).alloc (Nat.le_refl _) _⟩
    · obtain rfl : b = true := by rw [HB.out]; simp; omega
      refine (iwf_o _ z (by omega) (by omega)).mono ?_
      rintro e w' ⟨rfl, rfl⟩
      go_wp2
      go_ret
      exact ⟨rfl, (Below.refl _ _).alloc (Nat.le_refl _) _⟩
theorem isky4 (w : World) (z : Int) (b : Bool) (hb : halfOk z = b) :
    Calls Tryz.prog 114 #[.int .i64 z] w (Tells w b) := by
  have HB : Hid (SaysOf b (0 ≤ z ∧ z ≤ 180)) := Lib.hid (by rw [← hb]; simp [SaysOf, halfOk])
  clear hb
  go_enter Tryz.func114, Tryz.ntmps114
  go_wp2_with fail
  refine (iinr_b _ _ _ _ b HB.out).mono ?_
  rintro e w' ⟨rfl, rfl⟩
  go_wp2
  go_ret
  exact ⟨rfl, Below.refl _ _⟩
end Go.Proofs.YtlaigbhiligceaaGreatDoor
