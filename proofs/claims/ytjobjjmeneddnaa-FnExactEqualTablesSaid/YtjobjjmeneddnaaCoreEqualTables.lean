/- The walk of law FnExactEqualTables, its arguments known as lists. -/
import Derived.Test.YtjobjjmeneddnaaTableM
import Derived.Test.YtjobjjmeneddnaaTableCopies
import Derived.Test.YtjobjjmeneddnaaTable
import Derived.Test.YtjobjjmeneddnaaExact
import Derived.Deep.RegionHeld3
import Derived.Deep.CutBlock
namespace Go.Proofs.Ytjobjjmeneddnaa
open Go.ChangeShapes Go.WideShapes Go.ChangeAt Go.RowKit
set_option linter.unusedVariables false
set_option maxHeartbeats 1600000 in
set_option maxRecDepth 100000 in
theorem coreEqualTables (w : World) (S0 : Int) (Ad0 : Option Addr) (nd0 cd0 : Nat) (An0 : Option Addr) (nn0 cn0 : Nat) (ld0 ln0 : List Int) (r0 : InTab w w.heap.size Ad0 nd0 cd0 An0 nn0 cn0 ld0 ln0) (k0 : OkTab S0 ld0 ln0) (S1 : Int) (Ad1 : Option Addr) (nd1 cd1 : Nat) (An1 : Option Addr) (nn1 cn1 : Nat) (ld1 ln1 : List Int) (r1 : InTab w w.heap.size Ad1 nd1 cd1 An1 nn1 cn1 ld1 ln1) (k1 : OkTab S1 ld1 ln1) (ms : nd0 + nn0 + nd1 + nn1 ≤ 1048576) :
    Calls Try.prog 7 #[.agg #[.int .i64 S0, .slice Ad0 nd0 cd0, .slice An0 nn0 cn0], .agg #[.int .i64 S1, .slice Ad1 nd1 cd1, .slice An1 nn1 cn1]] w fun e w' => e = .returned (.bool true) ∧ Below w.heap.size w w' := by
  have TB := Lib.hid (Below.refl w.heap.size w)
  have capd0 := r0.d.cap; have capmd0 := r0.d.capm; have capn0 := r0.n.cap; have capmn0 := r0.n.capm
  have lnn0 : nn0 = ln0.length := by have h1 := r0.n.len; rw [iv_len] at h1; omega
  have LNN0 := Lib.hid lnn0; clear lnn0
  replace r0 := Lib.hid r0; replace k0 := Lib.hid k0
  have capd1 := r1.d.cap; have capmd1 := r1.d.capm; have capn1 := r1.n.cap; have capmn1 := r1.n.capm
  have lnn1 : nn1 = ln1.length := by have h1 := r1.n.len; rw [iv_len] at h1; omega
  have LNN1 := Lib.hid lnn1; clear lnn1
  replace r1 := Lib.hid r1; replace k1 := Lib.hid k1
  obtain ⟨W0, hW0⟩ : ∃ W, W = ((w.alloc (.cells #[.int .i64 S0, .slice Ad0 nd0 cd0, .slice An0 nn0 cn0] 47)).alloc (.cells #[.int .i64 S1, .slice Ad1 nd1 cd1, .slice An1 nn1 cn1] 47)) := ⟨_, rfl⟩
  have b : Below w.heap.size w W0 := by rw [hW0]; exact ((Below.refl _ _).alloc (Nat.le_refl _) _).alloc (by simp) _
  have oba0 : Hid (Blk W0 w.heap.size 47 #[.int .i64 S0, .slice Ad0 nd0 cd0, .slice An0 nn0 cn0]) := Lib.hid (by rw [hW0]; exact (Blk.new _ _ _).alloc _)
  have oba1 : Hid (Blk W0 (w.heap.size + 1) 47 #[.int .i64 S1, .slice Ad1 nd1 cd1, .slice An1 nn1 cn1]) := Lib.hid (by
    rw [hW0]
    have h := Blk.new (w.alloc (.cells #[.int .i64 S0, .slice Ad0 nd0 cd0, .slice An0 nn0 cn0] 47)) 47 #[.int .i64 S1, .slice Ad1 nd1 cd1, .slice An1 nn1 cn1]
    rwa [World.size_alloc] at h)
  have HW0 := Lib.hid hW0; clear hW0
  replace r0 := Lib.hid (r0.out.below (b.mono TB.out.size) (Nat.le_refl _))
  replace r1 := Lib.hid (r1.out.below (b.mono TB.out.size) (Nat.le_refl _))
  replace TB := Lib.hid (TB.out.trans (b.mono TB.out.size)); clear b
  go_enter Try.func7, Try.ntmps7
  go_upto_region 1 with fail
  rw [← HW0.out]; clear HW0
  obtain ⟨cba00, cba01, cba02⟩ := oba0.out.three
  go_wp2_with fail
  refine (sztable _ S0 Ad0 nd0 cd0 An0 nn0 cn0 (1048576) (by omega) (by omega) (by omega) (by omega) (1048576 - (nd0 : Int) - nn0) (by rw [if_neg (by omega)])).mono ?_
  rintro e wz0 ⟨rfl, b⟩
  clear cba00 cba01 cba02
  replace oba0 := Lib.hid (oba0.out.below b oba0.out.lt)
  replace oba1 := Lib.hid (oba1.out.below b oba1.out.lt)
  replace r0 := Lib.hid (r0.out.below (b.mono TB.out.size) (Nat.le_refl _))
  replace r1 := Lib.hid (r1.out.below (b.mono TB.out.size) (Nat.le_refl _))
  replace TB := Lib.hid (TB.out.trans (b.mono TB.out.size)); clear b
  have hpos0 : ¬ (1048576 - (nd0 : Int) - nn0 < 0) := by omega
  obtain ⟨cba10, cba11, cba12⟩ := oba1.out.three
  go_wp2_with fail
  refine (sztable _ S1 Ad1 nd1 cd1 An1 nn1 cn1 (1048576 - (nd0 : Int) - nn0) (by omega) (by omega) (by omega) (by omega) (1048576 - (nd0 : Int) - nn0 - (nd1 : Int) - nn1) (by rw [if_neg (by omega)])).mono ?_
  rintro e wz1 ⟨rfl, b⟩
  clear cba10 cba11 cba12
  replace oba0 := Lib.hid (oba0.out.below b oba0.out.lt)
  replace oba1 := Lib.hid (oba1.out.below b oba1.out.lt)
  replace r0 := Lib.hid (r0.out.below (b.mono TB.out.size) (Nat.le_refl _))
  replace r1 := Lib.hid (r1.out.below (b.mono TB.out.size) (Nat.le_refl _))
  replace TB := Lib.hid (TB.out.trans (b.mono TB.out.size)); clear b
  have hpos1 : ¬ (1048576 - (nd0 : Int) - nn0 - (nd1 : Int) - nn1 < 0) := by omega
  obtain ⟨bv, hbv⟩ : ∃ b, decide (S0 = S1 ∧ ld0 = ld1 ∧ ln0 = ln1) = b := ⟨_, rfl⟩
  have HBV := Lib.hid hbv; clear hbv
  have hc0 := And.intro oba0.out.three oba1.out.three
  obtain ⟨cba00, cba01, cba02⟩ := oba0.out.three
  obtain ⟨cba10, cba11, cba12⟩ := oba1.out.three
  go_wp2_with fail
  go_region_held3 (fun w' => (w'.cell? ⟨w.heap.size, 0, none⟩ = some (.int .i64 S0) ∧ w'.cell? ⟨w.heap.size, 1, none⟩ = some (.slice Ad0 nd0 cd0) ∧ w'.cell? ⟨w.heap.size, 2, none⟩ = some (.slice An0 nn0 cn0)) ∧ (w'.cell? ⟨(w.heap.size + 1), 0, none⟩ = some (.int .i64 S1) ∧ w'.cell? ⟨(w.heap.size + 1), 1, none⟩ = some (.slice Ad1 nd1 cd1) ∧ w'.cell? ⟨(w.heap.size + 1), 2, none⟩ = some (.slice An1 nn1 cn1))) (first | exact hc0 | exact hcA | exact hcB | exact hcC | go_keep) (first
    | (go_at_call 31; (with_reducible show Calls _ _ #[.agg #[.int .i64 S0, .slice Ad0 nd0 cd0, .slice An0 nn0 cn0]] _ _); refine (totable _ _ S0 Ad0 nd0 cd0 An0 nn0 cn0 ld0 ln0 (by first | exact r0.out.below (Below.refl wz1.heap.size wz1).drew TB.out.size | exact r0.out) (by first | exact TB.out.drew.size | exact TB.out.size) (by omega) (by omega) k0.out).mono ?_; rintro e wA ⟨⟨Adt0, cdt0, Ant0, cnt0, rfl, o⟩, bA⟩; have HBA : Hid (Below wz1.heap.size wz1 wA) := Lib.hid (by first | exact (Below.refl wz1.heap.size wz1).drew.trans bA | exact bA); have HOA := Lib.hid o; have hcA := And.intro (oba0.out.below HBA.out oba0.out.lt).three (oba1.out.below HBA.out oba1.out.lt).three; clear o bA)
    | (go_at_call 31; refine (totable wA _ S1 Ad1 nd1 cd1 An1 nn1 cn1 ld1 ln1 (r1.out.below HBA.out TB.out.size) (Nat.le_trans TB.out.size HBA.out.size) (by omega) (by omega) k1.out).mono ?_; rintro e wB ⟨⟨Adt1, cdt1, Ant1, cnt1, rfl, o⟩, bB⟩; have HBB : Hid (Below wz1.heap.size wz1 wB) := Lib.hid (HBA.out.trans (bB.mono HBA.out.size)); have HOB := Lib.hid o; have HOA2 := Lib.hid (HOA.out.on bB); have hcB := And.intro (oba0.out.below HBB.out oba0.out.lt).three (oba1.out.below HBB.out oba1.out.lt).three; clear o bB)
    | (go_at_call 33; refine (seqtab wB _ _ S0 Adt0 nd0 cdt0 Ant0 nn0 cnt0 ld0 ln0 HOA2.out.sl (Nat.le_refl _) S1 Adt1 nd1 cdt1 Ant1 nn1 cnt1 ld1 ln1 HOB.out.sl (Nat.le_refl _) k0.out k1.out bv HBV.out).mono ?_; rintro e wC ⟨rfl, bC⟩; have HBC : Hid (Below wz1.heap.size wz1 wC) := Lib.hid (HBB.out.trans (bC.mono HBB.out.size)); have hcC := And.intro (oba0.out.below HBC.out oba0.out.lt).three (oba1.out.below HBC.out oba1.out.lt).three; clear bC))
  have b := HBC.out; clear HBA HBB HBC HOA HOA2 HOB hcA hcB hcC hc0
  clear cba00 cba01 cba02 cba10 cba11 cba12
  replace oba0 := Lib.hid (oba0.out.below b oba0.out.lt)
  replace oba1 := Lib.hid (oba1.out.below b oba1.out.lt)
  replace r0 := Lib.hid (r0.out.below (b.mono TB.out.size) (Nat.le_refl _))
  replace r1 := Lib.hid (r1.out.below (b.mono TB.out.size) (Nat.le_refl _))
  replace TB := Lib.hid (TB.out.trans (b.mono TB.out.size)); clear b
  obtain ⟨cba00, cba01, cba02⟩ := oba0.out.three
  go_wp2_with fail
  refine (totable _ _ S0 Ad0 nd0 cd0 An0 nn0 cn0 ld0 ln0 r0.out TB.out.size (by omega) (by omega) k0.out).mono ?_
  rintro e w1 ⟨⟨Adx0, cdx0, Anx0, cnx0, rfl, o⟩, b⟩
  clear cba00 cba01 cba02
  have ntba0_x0d := Lib.hid (Own.low o.d oba0.out.lt)
  have ntba0_x0n := Lib.hid (Own.low o.n oba0.out.lt)
  have ntba1_x0d := Lib.hid (Own.low o.d oba1.out.lt)
  have ntba1_x0n := Lib.hid (Own.low o.n oba1.out.lt)
  have ox0 := Lib.hid (o.fewer TB.out.size); clear o
  replace oba0 := Lib.hid (oba0.out.below b oba0.out.lt)
  replace oba1 := Lib.hid (oba1.out.below b oba1.out.lt)
  replace r0 := Lib.hid (r0.out.below (b.mono TB.out.size) (Nat.le_refl _))
  replace r1 := Lib.hid (r1.out.below (b.mono TB.out.size) (Nat.le_refl _))
  replace TB := Lib.hid (TB.out.trans (b.mono TB.out.size)); clear b
  obtain ⟨Wx0, hWx0⟩ : ∃ W, W = w1.alloc (.cells #[.int .i64 S0, .slice Adx0 nd0 cdx0, .slice Anx0 nn0 cnx0] 29) := ⟨_, rfl⟩
  have b : Below w1.heap.size w1 Wx0 := by rw [hWx0]; exact (Below.refl _ _).alloc (Nat.le_refl _) _
  have ntbx0_x0d := Lib.hid (Own.notAt ox0.out.d (Nat.le_refl _))
  have ntbx0_x0n := Lib.hid (Own.notAt ox0.out.n (Nat.le_refl _))
  have oNEW : Hid (Blk Wx0 w1.heap.size 29 #[.int .i64 S0, .slice Adx0 nd0 cdx0, .slice Anx0 nn0 cnx0]) := Lib.hid (by rw [hWx0]; exact Blk.new _ _ _)
  have HWx0 := Lib.hid hWx0; clear hWx0
  replace oba0 := Lib.hid (oba0.out.below b oba0.out.lt)
  replace oba1 := Lib.hid (oba1.out.below b oba1.out.lt)
  replace ox0 := Lib.hid (ox0.out.on b)
  replace r0 := Lib.hid (r0.out.below (b.mono TB.out.size) (Nat.le_refl _))
  replace r1 := Lib.hid (r1.out.below (b.mono TB.out.size) (Nat.le_refl _))
  replace TB := Lib.hid (TB.out.trans (b.mono TB.out.size)); clear b
  have obx0 := oNEW; clear oNEW
  go_upto_region 10 with fail
  rw [← HWx0.out]; clear HWx0
  obtain ⟨cba10, cba11, cba12⟩ := oba1.out.three
  go_wp2_with fail
  refine (totable _ _ S1 Ad1 nd1 cd1 An1 nn1 cn1 ld1 ln1 r1.out TB.out.size (by omega) (by omega) k1.out).mono ?_
  rintro e w2 ⟨⟨Adx1, cdx1, Anx1, cnx1, rfl, o⟩, b⟩
  clear cba10 cba11 cba12
  have ntba0_x1d := Lib.hid (Own.low o.d oba0.out.lt)
  have ntba0_x1n := Lib.hid (Own.low o.n oba0.out.lt)
  have ntba1_x1d := Lib.hid (Own.low o.d oba1.out.lt)
  have ntba1_x1n := Lib.hid (Own.low o.n oba1.out.lt)
  have apx0d_x1d := Lib.hid (Own.apart ox0.out.d o.d (Nat.le_refl _)); have apx1d_x0d := Lib.hid (Own.apart' ox0.out.d o.d (Nat.le_refl _))
  have apx0n_x1d := Lib.hid (Own.apart ox0.out.n o.d (Nat.le_refl _)); have apx1d_x0n := Lib.hid (Own.apart' ox0.out.n o.d (Nat.le_refl _))
  have apx0d_x1n := Lib.hid (Own.apart ox0.out.d o.n (Nat.le_refl _)); have apx1n_x0d := Lib.hid (Own.apart' ox0.out.d o.n (Nat.le_refl _))
  have apx0n_x1n := Lib.hid (Own.apart ox0.out.n o.n (Nat.le_refl _)); have apx1n_x0n := Lib.hid (Own.apart' ox0.out.n o.n (Nat.le_refl _))
  have ntbx0_x1d := Lib.hid (Own.low o.d obx0.out.lt)
  have ntbx0_x1n := Lib.hid (Own.low o.n obx0.out.lt)
  have ox1 := Lib.hid (o.fewer TB.out.size); clear o
  replace oba0 := Lib.hid (oba0.out.below b oba0.out.lt)
  replace oba1 := Lib.hid (oba1.out.below b oba1.out.lt)
  replace ox0 := Lib.hid (ox0.out.on b)
  replace obx0 := Lib.hid (obx0.out.below b obx0.out.lt)
  replace r0 := Lib.hid (r0.out.below (b.mono TB.out.size) (Nat.le_refl _))
  replace r1 := Lib.hid (r1.out.below (b.mono TB.out.size) (Nat.le_refl _))
  replace TB := Lib.hid (TB.out.trans (b.mono TB.out.size)); clear b
  obtain ⟨Wx1, hWx1⟩ : ∃ W, W = w2.alloc (.cells #[.int .i64 S1, .slice Adx1 nd1 cdx1, .slice Anx1 nn1 cnx1] 29) := ⟨_, rfl⟩
  have b : Below w2.heap.size w2 Wx1 := by rw [hWx1]; exact (Below.refl _ _).alloc (Nat.le_refl _) _
  have ntbx1_x0d := Lib.hid (Own.notAt ox0.out.d (Nat.le_refl _))
  have ntbx1_x0n := Lib.hid (Own.notAt ox0.out.n (Nat.le_refl _))
  have ntbx1_x1d := Lib.hid (Own.notAt ox1.out.d (Nat.le_refl _))
  have ntbx1_x1n := Lib.hid (Own.notAt ox1.out.n (Nat.le_refl _))
  have oNEW : Hid (Blk Wx1 w2.heap.size 29 #[.int .i64 S1, .slice Adx1 nd1 cdx1, .slice Anx1 nn1 cnx1]) := Lib.hid (by rw [hWx1]; exact Blk.new _ _ _)
  have HWx1 := Lib.hid hWx1; clear hWx1
  replace oba0 := Lib.hid (oba0.out.below b oba0.out.lt)
  replace oba1 := Lib.hid (oba1.out.below b oba1.out.lt)
  replace ox0 := Lib.hid (ox0.out.on b)
  replace obx0 := Lib.hid (obx0.out.below b obx0.out.lt)
  replace ox1 := Lib.hid (ox1.out.on b)
  replace r0 := Lib.hid (r0.out.below (b.mono TB.out.size) (Nat.le_refl _))
  replace r1 := Lib.hid (r1.out.below (b.mono TB.out.size) (Nat.le_refl _))
  replace TB := Lib.hid (TB.out.trans (b.mono TB.out.size)); clear b
  have obx1 := oNEW; clear oNEW
  go_upto_region 11 with fail
  rw [← HWx1.out]; clear HWx1
  obtain ⟨cbx00, cbx01, cbx02⟩ := obx0.out.three
  obtain ⟨cbx10, cbx11, cbx12⟩ := obx1.out.three
  go_wp2_with fail
  refine (ieqtab _ _ _ S0 Adx0 nd0 cdx0 Anx0 nn0 cnx0 ld0 ln0 ox0.out.sl (Nat.le_refl _) S1 Adx1 nd1 cdx1 Anx1 nn1 cnx1 ld1 ln1 ox1.out.sl (Nat.le_refl _) (by omega) (by omega) (by omega) (by omega) k0.out k1.out bv HBV.out).mono ?_
  rintro e w3 ⟨rfl, b⟩
  clear cbx00 cbx01 cbx02 cbx10 cbx11 cbx12
  replace oba0 := Lib.hid (oba0.out.below b oba0.out.lt)
  replace oba1 := Lib.hid (oba1.out.below b oba1.out.lt)
  replace ox0 := Lib.hid (ox0.out.on b)
  replace obx0 := Lib.hid (obx0.out.below b obx0.out.lt)
  replace ox1 := Lib.hid (ox1.out.on b)
  replace obx1 := Lib.hid (obx1.out.below b obx1.out.lt)
  replace r0 := Lib.hid (r0.out.below (b.mono TB.out.size) (Nat.le_refl _))
  replace r1 := Lib.hid (r1.out.below (b.mono TB.out.size) (Nat.le_refl _))
  replace TB := Lib.hid (TB.out.trans (b.mono TB.out.size)); clear b
  have hc0 := And.intro obx0.out.three oba0.out.three
  obtain ⟨cbx00, cbx01, cbx02⟩ := obx0.out.three
  obtain ⟨cba00, cba01, cba02⟩ := oba0.out.three
  go_wp2_with fail
  go_region_held3 (fun w' => (w'.cell? ⟨w1.heap.size, 0, none⟩ = some (.int .i64 S0) ∧ w'.cell? ⟨w1.heap.size, 1, none⟩ = some (.slice Adx0 nd0 cdx0) ∧ w'.cell? ⟨w1.heap.size, 2, none⟩ = some (.slice Anx0 nn0 cnx0)) ∧ (w'.cell? ⟨w.heap.size, 0, none⟩ = some (.int .i64 S0) ∧ w'.cell? ⟨w.heap.size, 1, none⟩ = some (.slice Ad0 nd0 cd0) ∧ w'.cell? ⟨w.heap.size, 2, none⟩ = some (.slice An0 nn0 cn0))) (first | exact hc0 | exact hcA | exact hcB | go_keep) (first
    | (go_at_call 31; refine (totable _ _ S0 Ad0 nd0 cd0 An0 nn0 cn0 ld0 ln0 (by first | exact r0.out.below (Below.refl w3.heap.size w3).drew TB.out.size | exact r0.out) (by first | exact TB.out.drew.size | exact TB.out.size) (by omega) (by omega) k0.out).mono ?_; rintro e wA0 ⟨⟨Ady0, cdy0, Any0, cny0, rfl, o⟩, bA⟩; have HBA : Hid (Below w3.heap.size w3 wA0) := Lib.hid (by first | exact (Below.refl w3.heap.size w3).drew.trans bA | exact bA); have HOY := Lib.hid o; have hcA := And.intro (obx0.out.below HBA.out obx0.out.lt).three (oba0.out.below HBA.out oba0.out.lt).three; clear o bA)
    | (go_at_call 24; refine (eqtable _ _ _ S0 Adx0 nd0 cdx0 Anx0 nn0 cnx0 ld0 ln0 (ox0.out.on HBA.out).sl (Nat.le_refl _) S0 Ady0 nd0 cdy0 Any0 nn0 cny0 ld0 ln0 HOY.out.sl (Nat.le_refl _) rfl rfl rfl k0.out).mono ?_; rintro e wB0 ⟨rfl, bB⟩; have HBB : Hid (Below w3.heap.size w3 wB0) := Lib.hid (HBA.out.trans (bB.mono HBA.out.size)); have hcB := And.intro (obx0.out.below HBB.out obx0.out.lt).three (oba0.out.below HBB.out oba0.out.lt).three; clear bB))
  have b := HBB.out; clear HBA HBB HOY hcA hcB hc0
  clear cbx00 cbx01 cbx02 cba00 cba01 cba02
  replace oba0 := Lib.hid (oba0.out.below b oba0.out.lt)
  replace oba1 := Lib.hid (oba1.out.below b oba1.out.lt)
  replace ox0 := Lib.hid (ox0.out.on b)
  replace obx0 := Lib.hid (obx0.out.below b obx0.out.lt)
  replace ox1 := Lib.hid (ox1.out.on b)
  replace obx1 := Lib.hid (obx1.out.below b obx1.out.lt)
  replace r0 := Lib.hid (r0.out.below (b.mono TB.out.size) (Nat.le_refl _))
  replace r1 := Lib.hid (r1.out.below (b.mono TB.out.size) (Nat.le_refl _))
  replace TB := Lib.hid (TB.out.trans (b.mono TB.out.size)); clear b
  have hc0 := And.intro obx1.out.three oba1.out.three
  obtain ⟨cbx10, cbx11, cbx12⟩ := obx1.out.three
  obtain ⟨cba10, cba11, cba12⟩ := oba1.out.three
  go_wp2_with fail
  go_region_held3 (fun w' => (w'.cell? ⟨w2.heap.size, 0, none⟩ = some (.int .i64 S1) ∧ w'.cell? ⟨w2.heap.size, 1, none⟩ = some (.slice Adx1 nd1 cdx1) ∧ w'.cell? ⟨w2.heap.size, 2, none⟩ = some (.slice Anx1 nn1 cnx1)) ∧ (w'.cell? ⟨(w.heap.size + 1), 0, none⟩ = some (.int .i64 S1) ∧ w'.cell? ⟨(w.heap.size + 1), 1, none⟩ = some (.slice Ad1 nd1 cd1) ∧ w'.cell? ⟨(w.heap.size + 1), 2, none⟩ = some (.slice An1 nn1 cn1))) (first | exact hc0 | exact hcA | exact hcB | go_keep) (first
    | (go_at_call 31; refine (totable _ _ S1 Ad1 nd1 cd1 An1 nn1 cn1 ld1 ln1 (by first | exact r1.out.below (Below.refl wB0.heap.size wB0).drew TB.out.size | exact r1.out) (by first | exact TB.out.drew.size | exact TB.out.size) (by omega) (by omega) k1.out).mono ?_; rintro e wA1 ⟨⟨Ady1, cdy1, Any1, cny1, rfl, o⟩, bA⟩; have HBA : Hid (Below wB0.heap.size wB0 wA1) := Lib.hid (by first | exact (Below.refl wB0.heap.size wB0).drew.trans bA | exact bA); have HOY := Lib.hid o; have hcA := And.intro (obx1.out.below HBA.out obx1.out.lt).three (oba1.out.below HBA.out oba1.out.lt).three; clear o bA)
    | (go_at_call 24; refine (eqtable _ _ _ S1 Adx1 nd1 cdx1 Anx1 nn1 cnx1 ld1 ln1 (ox1.out.on HBA.out).sl (Nat.le_refl _) S1 Ady1 nd1 cdy1 Any1 nn1 cny1 ld1 ln1 HOY.out.sl (Nat.le_refl _) rfl rfl rfl k1.out).mono ?_; rintro e wB1 ⟨rfl, bB⟩; have HBB : Hid (Below wB0.heap.size wB0 wB1) := Lib.hid (HBA.out.trans (bB.mono HBA.out.size)); have hcB := And.intro (obx1.out.below HBB.out obx1.out.lt).three (oba1.out.below HBB.out oba1.out.lt).three; clear bB))
  have b := HBB.out; clear HBA HBB HOY hcA hcB hc0
  clear cbx10 cbx11 cbx12 cba10 cba11 cba12
  replace oba0 := Lib.hid (oba0.out.below b oba0.out.lt)
  replace oba1 := Lib.hid (oba1.out.below b oba1.out.lt)
  replace ox0 := Lib.hid (ox0.out.on b)
  replace obx0 := Lib.hid (obx0.out.below b obx0.out.lt)
  replace ox1 := Lib.hid (ox1.out.on b)
  replace obx1 := Lib.hid (obx1.out.below b obx1.out.lt)
  replace r0 := Lib.hid (r0.out.below (b.mono TB.out.size) (Nat.le_refl _))
  replace r1 := Lib.hid (r1.out.below (b.mono TB.out.size) (Nat.le_refl _))
  replace TB := Lib.hid (TB.out.trans (b.mono TB.out.size)); clear b
  go_wp2_with fail
  go_ret
  exact ⟨rfl, TB.out⟩
set_option maxRecDepth 100000 in
theorem bigEqualTables (w : World) (S0 : Int) (Ad0 : Option Addr) (nd0 cd0 : Nat) (An0 : Option Addr) (nn0 cn0 : Nat) (ld0 ln0 : List Int) (r0 : InTab w w.heap.size Ad0 nd0 cd0 An0 nn0 cn0 ld0 ln0) (k0 : OkTab S0 ld0 ln0) (S1 : Int) (Ad1 : Option Addr) (nd1 cd1 : Nat) (An1 : Option Addr) (nn1 cn1 : Nat) (ld1 ln1 : List Int) (r1 : InTab w w.heap.size Ad1 nd1 cd1 An1 nn1 cn1 ld1 ln1) (k1 : OkTab S1 ld1 ln1) (ms : ¬ (nd0 + nn0 + nd1 + nn1 ≤ 1048576)) :
    Calls Try.prog 7 #[.agg #[.int .i64 S0, .slice Ad0 nd0 cd0, .slice An0 nn0 cn0], .agg #[.int .i64 S1, .slice Ad1 nd1 cd1, .slice An1 nn1 cn1]] w fun e w' => e = .returned (.bool true) ∧ Below w.heap.size w w' := by
  have TB := Lib.hid (Below.refl w.heap.size w)
  have capd0 := r0.d.cap; have capmd0 := r0.d.capm; have capn0 := r0.n.cap; have capmn0 := r0.n.capm
  have lnn0 : nn0 = ln0.length := by have h1 := r0.n.len; rw [iv_len] at h1; omega
  have LNN0 := Lib.hid lnn0; clear lnn0
  replace r0 := Lib.hid r0; replace k0 := Lib.hid k0
  have capd1 := r1.d.cap; have capmd1 := r1.d.capm; have capn1 := r1.n.cap; have capmn1 := r1.n.capm
  have lnn1 : nn1 = ln1.length := by have h1 := r1.n.len; rw [iv_len] at h1; omega
  have LNN1 := Lib.hid lnn1; clear lnn1
  replace r1 := Lib.hid r1; replace k1 := Lib.hid k1
  obtain ⟨W0, hW0⟩ : ∃ W, W = ((w.alloc (.cells #[.int .i64 S0, .slice Ad0 nd0 cd0, .slice An0 nn0 cn0] 47)).alloc (.cells #[.int .i64 S1, .slice Ad1 nd1 cd1, .slice An1 nn1 cn1] 47)) := ⟨_, rfl⟩
  have b : Below w.heap.size w W0 := by rw [hW0]; exact ((Below.refl _ _).alloc (Nat.le_refl _) _).alloc (by simp) _
  have oba0 : Hid (Blk W0 w.heap.size 47 #[.int .i64 S0, .slice Ad0 nd0 cd0, .slice An0 nn0 cn0]) := Lib.hid (by rw [hW0]; exact (Blk.new _ _ _).alloc _)
  have oba1 : Hid (Blk W0 (w.heap.size + 1) 47 #[.int .i64 S1, .slice Ad1 nd1 cd1, .slice An1 nn1 cn1]) := Lib.hid (by
    rw [hW0]
    have h := Blk.new (w.alloc (.cells #[.int .i64 S0, .slice Ad0 nd0 cd0, .slice An0 nn0 cn0] 47)) 47 #[.int .i64 S1, .slice Ad1 nd1 cd1, .slice An1 nn1 cn1]
    rwa [World.size_alloc] at h)
  have HW0 := Lib.hid hW0; clear hW0
  replace r0 := Lib.hid (r0.out.below (b.mono TB.out.size) (Nat.le_refl _))
  replace r1 := Lib.hid (r1.out.below (b.mono TB.out.size) (Nat.le_refl _))
  replace TB := Lib.hid (TB.out.trans (b.mono TB.out.size)); clear b
  go_enter Try.func7, Try.ntmps7
  go_upto_region 1 with fail
  rw [← HW0.out]; clear HW0
  by_cases hb0 : (1048576 : Int) < (nd0 : Int) + nn0
  · skip
    obtain ⟨cba00, cba01, cba02⟩ := oba0.out.three
    go_wp2_with fail
    refine (sztable _ S0 Ad0 nd0 cd0 An0 nn0 cn0 (1048576) (by omega) (by omega) (by omega) (by omega) (-1) (by rw [if_pos (by omega)])).mono ?_
    rintro e wz0 ⟨rfl, b⟩
    have HF := Lib.hid (TB.out.trans (b.mono TB.out.size))
    clear b
    go_wp2
    go_ret
    exact ⟨rfl, HF.out⟩
  · skip
    obtain ⟨cba00, cba01, cba02⟩ := oba0.out.three
    go_wp2_with fail
    refine (sztable _ S0 Ad0 nd0 cd0 An0 nn0 cn0 (1048576) (by omega) (by omega) (by omega) (by omega) (1048576 - (nd0 : Int) - nn0) (by rw [if_neg (by omega)])).mono ?_
    rintro e wz0 ⟨rfl, b⟩
    have hpos0 : ¬ (1048576 - (nd0 : Int) - nn0 < 0) := by omega
    clear cba00 cba01 cba02
    replace oba1 := Lib.hid (oba1.out.below b oba1.out.lt)
    replace TB := Lib.hid (TB.out.trans (b.mono TB.out.size)); clear b
    obtain ⟨cba10, cba11, cba12⟩ := oba1.out.three
    go_wp2_with fail
    refine (sztable _ S1 Ad1 nd1 cd1 An1 nn1 cn1 (1048576 - (nd0 : Int) - nn0) (by omega) (by omega) (by omega) (by omega) (-1) (by rw [if_pos (by omega)])).mono ?_
    rintro e wz1 ⟨rfl, b⟩
    have HF := Lib.hid (TB.out.trans (b.mono TB.out.size))
    clear b
    go_wp2
    go_ret
    exact ⟨rfl, HF.out⟩
end Go.Proofs.Ytjobjjmeneddnaa
