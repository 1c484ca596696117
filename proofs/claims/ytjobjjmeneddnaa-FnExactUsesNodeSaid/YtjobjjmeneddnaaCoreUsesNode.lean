/- The walk of law FnExactUsesNode, its arguments known as lists. -/
import Derived.Test.YtjobjjmeneddnaaTableM
import Derived.Test.YtjobjjmeneddnaaTableCopies
import Derived.Test.YtjobjjmeneddnaaTable
import Derived.Test.YtjobjjmeneddnaaExact
import Derived.Deep.RegionHeld3
import Derived.Deep.CutBlock
namespace Go.Proofs.Ytjobjjmeneddnaa
open Go.ChangeShapes Go.WideShapes Go.ChangeAt Go.RowKit
set_option linter.unusedVariables false
set_option maxHeartbeats 1600000 in
set_option maxRecDepth 100000 in
theorem coreUsesNode (w : World) (S0 : Int) (Ad0 : Option Addr) (nd0 cd0 : Nat) (An0 : Option Addr) (nn0 cn0 : Nat) (ld0 ln0 : List Int) (r0 : InTab w w.heap.size Ad0 nd0 cd0 An0 nn0 cn0 ld0 ln0) (k0 : OkTab S0 ld0 ln0) (z1 : Int) (p1 : -9223372036854775808 ≤ z1) (q1 : z1 ≤ 9223372036854775807) (ms : nd0 + nn0 ≤ 1048576) :
    Calls Try.prog 9 #[.agg #[.int .i64 S0, .slice Ad0 nd0 cd0, .slice An0 nn0 cn0], .int .i64 z1] w fun e w' => e = .returned (.bool true) ∧ Below w.heap.size w w' := by
  have TB := Lib.hid (Below.refl w.heap.size w)
  have capd0 := r0.d.cap; have capmd0 := r0.d.capm; have capn0 := r0.n.cap; have capmn0 := r0.n.capm
  have lnn0 : nn0 = ln0.length := by have h1 := r0.n.len; rw [iv_len] at h1; omega
  have LNN0 := Lib.hid lnn0; clear lnn0
  replace r0 := Lib.hid r0; replace k0 := Lib.hid k0
  obtain ⟨W0, hW0⟩ : ∃ W, W = (w.alloc (.cells #[.int .i64 S0, .slice Ad0 nd0 cd0, .slice An0 nn0 cn0] 47)) := ⟨_, rfl⟩
  have b : Below w.heap.size w W0 := by rw [hW0]; exact (Below.refl _ _).alloc (Nat.le_refl _) _
  have oba0 : Hid (Blk W0 w.heap.size 47 #[.int .i64 S0, .slice Ad0 nd0 cd0, .slice An0 nn0 cn0]) := Lib.hid (by rw [hW0]; exact Blk.new _ _ _)
  have HW0 := Lib.hid hW0; clear hW0
  replace r0 := Lib.hid (r0.out.below (b.mono TB.out.size) (Nat.le_refl _))
  replace TB := Lib.hid (TB.out.trans (b.mono TB.out.size)); clear b
  go_enter Try.func9, Try.ntmps9
  go_upto_region 1 with fail
  rw [← HW0.out]; clear HW0
  obtain ⟨cba00, cba01, cba02⟩ := oba0.out.three
  go_wp2_with fail
  refine (sztable _ S0 Ad0 nd0 cd0 An0 nn0 cn0 (1048576) (by omega) (by omega) (by omega) (by omega) (1048576 - (nd0 : Int) - nn0) (by rw [if_neg (by omega)])).mono ?_
  rintro e wz0 ⟨rfl, b⟩
  clear cba00 cba01 cba02
  replace oba0 := Lib.hid (oba0.out.below b oba0.out.lt)
  replace r0 := Lib.hid (r0.out.below (b.mono TB.out.size) (Nat.le_refl _))
  replace TB := Lib.hid (TB.out.trans (b.mono TB.out.size)); clear b
  have hpos0 : ¬ (1048576 - (nd0 : Int) - nn0 < 0) := by omega
  obtain ⟨cba00, cba01, cba02⟩ := oba0.out.three
  go_wp2_with fail
  refine (totable _ _ S0 Ad0 nd0 cd0 An0 nn0 cn0 ld0 ln0 r0.out TB.out.size (by omega) (by omega) k0.out).mono ?_
  rintro e w1 ⟨⟨Adt0, cdt0, Ant0, cnt0, rfl, o⟩, b⟩
  clear cba00 cba01 cba02
  have ntba0_t0d := Lib.hid (Own.low o.d oba0.out.lt)
  have ntba0_t0n := Lib.hid (Own.low o.n oba0.out.lt)
  have ot0 := Lib.hid (o.fewer TB.out.size); clear o
  replace oba0 := Lib.hid (oba0.out.below b oba0.out.lt)
  replace r0 := Lib.hid (r0.out.below (b.mono TB.out.size) (Nat.le_refl _))
  replace TB := Lib.hid (TB.out.trans (b.mono TB.out.size)); clear b
  go_wp2_with fail
  refine (suses _ _ S0 Adt0 nd0 cdt0 Ant0 nn0 cnt0 ld0 ln0 ot0.out.sl (Nat.le_refl _) (by omega) z1).mono ?_
  rintro e w2 ⟨rfl, b⟩
  obtain ⟨zv, hzv⟩ : ∃ z, z = ((usesL S0 ln0 z1 : Nat) : Int) := ⟨_, rfl⟩
  rw [← hzv]; replace hzv := Lib.hid hzv
  replace oba0 := Lib.hid (oba0.out.below b oba0.out.lt)
  replace ot0 := Lib.hid (ot0.out.on b)
  replace r0 := Lib.hid (r0.out.below (b.mono TB.out.size) (Nat.le_refl _))
  replace TB := Lib.hid (TB.out.trans (b.mono TB.out.size)); clear b
  clear ot0
  obtain ⟨cba00, cba01, cba02⟩ := oba0.out.three
  go_wp2_with fail
  refine (totable _ _ S0 Ad0 nd0 cd0 An0 nn0 cn0 ld0 ln0 r0.out TB.out.size (by omega) (by omega) k0.out).mono ?_
  rintro e w3 ⟨⟨Adx0, cdx0, Anx0, cnx0, rfl, o⟩, b⟩
  clear cba00 cba01 cba02
  have ntba0_x0d := Lib.hid (Own.low o.d oba0.out.lt)
  have ntba0_x0n := Lib.hid (Own.low o.n oba0.out.lt)
  have ox0 := Lib.hid (o.fewer TB.out.size); clear o
  replace oba0 := Lib.hid (oba0.out.below b oba0.out.lt)
  replace r0 := Lib.hid (r0.out.below (b.mono TB.out.size) (Nat.le_refl _))
  replace TB := Lib.hid (TB.out.trans (b.mono TB.out.size)); clear b
  obtain ⟨Wx0, hWx0⟩ : ∃ W, W = w3.alloc (.cells #[.int .i64 S0, .slice Adx0 nd0 cdx0, .slice Anx0 nn0 cnx0] 29) := ⟨_, rfl⟩
  have b : Below w3.heap.size w3 Wx0 := by rw [hWx0]; exact (Below.refl _ _).alloc (Nat.le_refl _) _
  have ntbx0_x0d := Lib.hid (Own.notAt ox0.out.d (Nat.le_refl _))
  have ntbx0_x0n := Lib.hid (Own.notAt ox0.out.n (Nat.le_refl _))
  have oNEW : Hid (Blk Wx0 w3.heap.size 29 #[.int .i64 S0, .slice Adx0 nd0 cdx0, .slice Anx0 nn0 cnx0]) := Lib.hid (by rw [hWx0]; exact Blk.new _ _ _)
  have HWx0 := Lib.hid hWx0; clear hWx0
  replace oba0 := Lib.hid (oba0.out.below b oba0.out.lt)
  replace ox0 := Lib.hid (ox0.out.on b)
  replace r0 := Lib.hid (r0.out.below (b.mono TB.out.size) (Nat.le_refl _))
  replace TB := Lib.hid (TB.out.trans (b.mono TB.out.size)); clear b
  have obx0 := oNEW; clear oNEW
  go_upto_region 7 with fail
  rw [← HWx0.out]; clear HWx0
  obtain ⟨cbx00, cbx01, cbx02⟩ := obx0.out.three
  go_wp2_with fail
  refine (iuses _ _ S0 Adx0 nd0 cdx0 Anx0 nn0 cnx0 ld0 ln0 ox0.out.sl (Nat.le_refl _) (by omega) (by omega) k0.out z1 ⟨p1, q1⟩).mono ?_
  rintro e w4 ⟨rfl, b⟩
  clear cbx00 cbx01 cbx02
  rw [← hzv.out]
  replace oba0 := Lib.hid (oba0.out.below b oba0.out.lt)
  replace ox0 := Lib.hid (ox0.out.on b)
  replace obx0 := Lib.hid (obx0.out.below b obx0.out.lt)
  replace r0 := Lib.hid (r0.out.below (b.mono TB.out.size) (Nat.le_refl _))
  replace TB := Lib.hid (TB.out.trans (b.mono TB.out.size)); clear b
  have hc0 := And.intro obx0.out.three oba0.out.three
  obtain ⟨cbx00, cbx01, cbx02⟩ := obx0.out.three
  obtain ⟨cba00, cba01, cba02⟩ := oba0.out.three
  go_wp2_with fail
  go_region_held3 (fun w' => (w'.cell? ⟨w3.heap.size, 0, none⟩ = some (.int .i64 S0) ∧ w'.cell? ⟨w3.heap.size, 1, none⟩ = some (.slice Adx0 nd0 cdx0) ∧ w'.cell? ⟨w3.heap.size, 2, none⟩ = some (.slice Anx0 nn0 cnx0)) ∧ (w'.cell? ⟨w.heap.size, 0, none⟩ = some (.int .i64 S0) ∧ w'.cell? ⟨w.heap.size, 1, none⟩ = some (.slice Ad0 nd0 cd0) ∧ w'.cell? ⟨w.heap.size, 2, none⟩ = some (.slice An0 nn0 cn0))) (first | exact hc0 | exact hcA | exact hcB | go_keep) (first
    | (go_at_call 31; refine (totable _ _ S0 Ad0 nd0 cd0 An0 nn0 cn0 ld0 ln0 (by first | exact r0.out.below (Below.refl w4.heap.size w4).drew TB.out.size | exact r0.out) (by first | exact TB.out.drew.size | exact TB.out.size) (by omega) (by omega) k0.out).mono ?_; rintro e wA0 ⟨⟨Ady0, cdy0, Any0, cny0, rfl, o⟩, bA⟩; have HBA : Hid (Below w4.heap.size w4 wA0) := Lib.hid (by first | exact (Below.refl w4.heap.size w4).drew.trans bA | exact bA); have HOY := Lib.hid o; have hcA := And.intro (obx0.out.below HBA.out obx0.out.lt).three (oba0.out.below HBA.out oba0.out.lt).three; clear o bA)
    | (go_at_call 24; refine (eqtable _ _ _ S0 Adx0 nd0 cdx0 Anx0 nn0 cnx0 ld0 ln0 (ox0.out.on HBA.out).sl (Nat.le_refl _) S0 Ady0 nd0 cdy0 Any0 nn0 cny0 ld0 ln0 HOY.out.sl (Nat.le_refl _) rfl rfl rfl k0.out).mono ?_; rintro e wB0 ⟨rfl, bB⟩; have HBB : Hid (Below w4.heap.size w4 wB0) := Lib.hid (HBA.out.trans (bB.mono HBA.out.size)); have hcB := And.intro (obx0.out.below HBB.out obx0.out.lt).three (oba0.out.below HBB.out oba0.out.lt).three; clear bB))
  have b := HBB.out; clear HBA HBB HOY hcA hcB hc0
  clear cbx00 cbx01 cbx02 cba00 cba01 cba02
  replace oba0 := Lib.hid (oba0.out.below b oba0.out.lt)
  replace ox0 := Lib.hid (ox0.out.on b)
  replace obx0 := Lib.hid (obx0.out.below b obx0.out.lt)
  replace r0 := Lib.hid (r0.out.below (b.mono TB.out.size) (Nat.le_refl _))
  replace TB := Lib.hid (TB.out.trans (b.mono TB.out.size)); clear b
  go_wp2_with fail
  go_ret
  exact ⟨rfl, TB.out⟩
set_option maxRecDepth 100000 in
theorem bigUsesNode (w : World) (S0 : Int) (Ad0 : Option Addr) (nd0 cd0 : Nat) (An0 : Option Addr) (nn0 cn0 : Nat) (ld0 ln0 : List Int) (r0 : InTab w w.heap.size Ad0 nd0 cd0 An0 nn0 cn0 ld0 ln0) (k0 : OkTab S0 ld0 ln0) (z1 : Int) (p1 : -9223372036854775808 ≤ z1) (q1 : z1 ≤ 9223372036854775807) (ms : ¬ (nd0 + nn0 ≤ 1048576)) :
    Calls Try.prog 9 #[.agg #[.int .i64 S0, .slice Ad0 nd0 cd0, .slice An0 nn0 cn0], .int .i64 z1] w fun e w' => e = .returned (.bool true) ∧ Below w.heap.size w w' := by
  have TB := Lib.hid (Below.refl w.heap.size w)
  have capd0 := r0.d.cap; have capmd0 := r0.d.capm; have capn0 := r0.n.cap; have capmn0 := r0.n.capm
  have lnn0 : nn0 = ln0.length := by have h1 := r0.n.len; rw [iv_len] at h1; omega
  have LNN0 := Lib.hid lnn0; clear lnn0
  replace r0 := Lib.hid r0; replace k0 := Lib.hid k0
  obtain ⟨W0, hW0⟩ : ∃ W, W = (w.alloc (.cells #[.int .i64 S0, .slice Ad0 nd0 cd0, .slice An0 nn0 cn0] 47)) := ⟨_, rfl⟩
  have b : Below w.heap.size w W0 := by rw [hW0]; exact (Below.refl _ _).alloc (Nat.le_refl _) _
  have oba0 : Hid (Blk W0 w.heap.size 47 #[.int .i64 S0, .slice Ad0 nd0 cd0, .slice An0 nn0 cn0]) := Lib.hid (by rw [hW0]; exact Blk.new _ _ _)
  have HW0 := Lib.hid hW0; clear hW0
  replace r0 := Lib.hid (r0.out.below (b.mono TB.out.size) (Nat.le_refl _))
  replace TB := Lib.hid (TB.out.trans (b.mono TB.out.size)); clear b
  go_enter Try.func9, Try.ntmps9
  go_upto_region 1 with fail
  rw [← HW0.out]; clear HW0
  obtain ⟨cba00, cba01, cba02⟩ := oba0.out.three
  go_wp2_with fail
  refine (sztable _ S0 Ad0 nd0 cd0 An0 nn0 cn0 (1048576) (by omega) (by omega) (by omega) (by omega) (-1) (by rw [if_pos (by omega)])).mono ?_
  rintro e wz0 ⟨rfl, b⟩
  have HF := Lib.hid (TB.out.trans (b.mono TB.out.size))
  clear b
  go_wp2
  go_ret
  exact ⟨rfl, HF.out⟩
end Go.Proofs.Ytjobjjmeneddnaa
