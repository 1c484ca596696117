/- For all arguments, the program's SunAt answers as the model's, and writes into no argument (law FnExactSunAt). -/
import Derived.Test.YtpaedbmdcbmpiaaShellSky
import Derived.Test.YtpaedbmdcbmpiaaSkyCopies
import Derived.Test.YtpaedbmdcbmpiaaSun
import Derived.Test.YtpaedbmdcbmpiaaSunS
namespace Go.Proofs.Ytpaedbmdcbmpiaa.fnExactSunAt
open Go.ChangeShapes Go.WideShapes Go.ChangeAt Go.RowKit Go.ChangeMaps
set_option linter.unusedVariables false
theorem walk (w : World) (P R X V U D Q : Int) (ns ni nz : Nat) (ls : List Sat4) (li lz : List Tri) (As : Option Addr) (cs : Nat) (Ai : Option Addr) (ci : Nat) (Az : Option Addr) (cz : Nat) (hsky : InSky w (w.heap.size) As ns cs Ai ni ci Az nz cz ls li lz) (oksky : OkSky P R X V U D Q ls li lz) (a1 : Int) (w1 : (Lit.int .i64 a1).wf = true) :
    Calls Try.prog 3 #[.agg #[.int .i64 P, .slice As ns cs, .slice Ai ni ci, .int .i64 R, .int .i64 X, .int .i64 V, .int .i64 U, .int .i64 D, .slice Az nz cz, .int .i64 Q], .int .i64 a1] w fun e w' => e = .returned (.bool true) ∧ Below w.heap.size w w' := by
  have JW1 := Lib.hid (wf_j64 w1)
  obtain ⟨z, hz⟩ : ∃ z, plc 0 U a1 = z := ⟨_, rfl⟩
  have HZI := Lib.hid hz
  have HZS : Hid (plS 0 U a1 = z) := Lib.hid ((plS_zero U a1).trans hz)
  clear hz
  obtain ⟨W0, hW0⟩ : ∃ W, W = w.alloc (.cells #[.int .i64 P, .slice As ns cs, .slice Ai ni ci, .int .i64 R, .int .i64 X, .int .i64 V, .int .i64 U, .int .i64 D, .slice Az nz cz, .int .i64 Q] 26) := ⟨_, rfl⟩
  have T0 : Hid (Below w.heap.size w W0) := Lib.hid (by rw [hW0]; exact (Below.refl w.heap.size w).alloc (Nat.le_refl _) _)
  have Z0 : Hid (Blk W0 w.heap.size 26 #[.int .i64 P, .slice As ns cs, .slice Ai ni ci, .int .i64 R, .int .i64 X, .int .i64 V, .int .i64 U, .int .i64 D, .slice Az nz cz, .int .i64 Q]) := Lib.hid (by rw [hW0]; exact Blk.new _ _ _)
  have hsz : Hid (w.heap.size < W0.heap.size) := Lib.hid (by rw [hW0]; simp)
  have HS := Lib.hid hsky
  have hm1 := hsky.s.cap; have hm2 := hsky.s.capm; have hm3 := hsky.i.cap; have hm4 := hsky.i.capm; have hm5 := hsky.z.cap; have hm6 := hsky.z.capm
  clear hsky
  go_enter Try.func3, Try.ntmps3
  go_wp2_with fail
  rw [← hW0]
  refine (szsky _ P R X V U D Q ns ni nz ls li lz As cs Ai ci Az cz (by omega) (by omega) (by omega)).mono ?_
  rintro e w1 ⟨⟨r, rfl, hr⟩, b1⟩
  have T1 := Lib.hid (T0.out.trans (b1.mono T0.out.size))
  have Z1 := Lib.hid (Z0.out.below b1 hsz.out)
  clear b1 hW0 hm1 hm2 hm3 hm4 hm5 hm6
  rcases hr with rfl | ⟨hr0, hs, hi, hz⟩
  · clear Z1 Z0 HS
    go_wp2
    go_ret
    exact ⟨rfl, T1.out⟩
  have hs : Hid (ns ≤ 16777216) := Lib.hid (by omega)
  have hi : Hid (ni ≤ 16777216) := Lib.hid (by omega)
  have hz : Hid (nz ≤ 16777216) := Lib.hid (by omega)
  have hr1 : ¬ (r < 0) := by omega
  obtain ⟨c0, c1, c2, c3, c4, c5, c6, c7, c8, c9⟩ := Z1.out.ten
  go_wp2_with fail
  refine (tosky _ P R X V U D Q ns ni nz ls li lz As cs Ai ci Az cz w.heap.size (HS.out.below T1.out (Nat.le_refl _)) T1.out.size hs.out hi.out hz.out).mono ?_
  rintro e w2 ⟨⟨As1, cs1, Ai1, ci1, Az1, cz1, rfl, S1⟩, b2⟩
  have HS1 := Lib.hid S1
  have T2 := Lib.hid (T1.out.trans (b2.mono T1.out.size))
  have Z2 := Lib.hid (Z1.out.below b2 Z1.out.lt)
  clear b2 S1 Z1 T1 c0 c1 c2 c3 c4 c5 c6 c7 c8 c9 hr0 hr1
  go_wp2_with fail
  refine (ssun _ P R X V U D Q ns ni nz ls li lz As1 cs1 Ai1 ci1 Az1 cz1 a1 z HZS.out).mono ?_
  rintro e w3 ⟨rfl, b3⟩
  have T3 := Lib.hid (T2.out.trans (b3.mono T2.out.size))
  have Z3 := Lib.hid (Z2.out.below b3 Z2.out.lt)
  clear b3 HS1 Z2 T2
  obtain ⟨c0, c1, c2, c3, c4, c5, c6, c7, c8, c9⟩ := Z3.out.ten
  go_wp2_with fail
  refine (tosky _ P R X V U D Q ns ni nz ls li lz As cs Ai ci Az cz w.heap.size (HS.out.below T3.out (Nat.le_refl _)) T3.out.size hs.out hi.out hz.out).mono ?_
  rintro e w4 ⟨⟨As2, cs2, Ai2, ci2, Az2, cz2, rfl, S2⟩, b4⟩
  obtain ⟨W4, hW4⟩ : ∃ W, W = w4.alloc (.cells #[.int .i64 P, .slice As2 ns cs2, .slice Ai2 ni ci2, .int .i64 R, .int .i64 X, .int .i64 V, .int .i64 U, .int .i64 D, .slice Az2 nz cz2, .int .i64 Q] 33) := ⟨_, rfl⟩
  have U4 : Below w4.heap.size w4 W4 := by rw [hW4]; exact (Below.refl w4.heap.size w4).alloc (Nat.le_refl _) _
  have HS2 := Lib.hid (S2.on U4)
  have T4 := Lib.hid ((T3.out.trans (b4.mono T3.out.size)).trans (U4.mono (Nat.le_trans T3.out.size b4.size)))
  have Z4 := Lib.hid ((Z3.out.below b4 Z3.out.lt).below U4 (Nat.lt_of_lt_of_le Z3.out.lt b4.size))
  have Y4 : Hid (Blk W4 w4.heap.size 33 #[.int .i64 P, .slice As2 ns cs2, .slice Ai2 ni ci2, .int .i64 R, .int .i64 X, .int .i64 V, .int .i64 U, .int .i64 D, .slice Az2 nz cz2, .int .i64 Q]) := Lib.hid (by rw [hW4]; exact Blk.new _ _ _)
  have hgw : Hid (w.heap.size < w4.heap.size) := Lib.hid (Nat.lt_of_lt_of_le Z3.out.lt b4.size)
  clear b4 S2 U4 Z3 T3 c0 c1 c2 c3 c4 c5 c6 c7 c8 c9
  go_wp2_with fail
  rw [← hW4]
  refine (isun _ P R X V U D Q ns ni nz ls li lz As2 cs2 Ai2 ci2 Az2 cz2 a1 z HZI.out).mono ?_
  rintro e w5 ⟨rfl, b5⟩
  have T5 := Lib.hid (T4.out.trans (b5.mono T4.out.size))
  have Z5 := Lib.hid (Z4.out.below b5 Z4.out.lt)
  have Y5 := Lib.hid (Y4.out.below b5 Y4.out.lt)
  have HS5 := Lib.hid (HS2.out.on b5)
  clear b5 hW4 HS2 Z4 Y4 T4
  obtain ⟨c0, c1, c2, c3, c4, c5, c6, c7, c8, c9⟩ := Z5.out.ten
  obtain ⟨d0, d1, d2, d3, d4, d5, d6, d7, d8, d9⟩ := Y5.out.ten
  go_wp2_with fail
  go_region_held3 (fun w' => (w'.cell? ⟨w.heap.size, 0, none⟩ = some (.int .i64 P) ∧ w'.cell? ⟨w.heap.size, 1, none⟩ = some (.slice As ns cs) ∧ w'.cell? ⟨w.heap.size, 2, none⟩ = some (.slice Ai ni ci) ∧ w'.cell? ⟨w.heap.size, 3, none⟩ = some (.int .i64 R) ∧ w'.cell? ⟨w.heap.size, 4, none⟩ = some (.int .i64 X) ∧ w'.cell? ⟨w.heap.size, 5, none⟩ = some (.int .i64 V) ∧ w'.cell? ⟨w.heap.size, 6, none⟩ = some (.int .i64 U) ∧ w'.cell? ⟨w.heap.size, 7, none⟩ = some (.int .i64 D) ∧ w'.cell? ⟨w.heap.size, 8, none⟩ = some (.slice Az nz cz) ∧ w'.cell? ⟨w.heap.size, 9, none⟩ = some (.int .i64 Q)) ∧ (w'.cell? ⟨w4.heap.size, 0, none⟩ = some (.int .i64 P) ∧ w'.cell? ⟨w4.heap.size, 1, none⟩ = some (.slice As2 ns cs2) ∧ w'.cell? ⟨w4.heap.size, 2, none⟩ = some (.slice Ai2 ni ci2) ∧ w'.cell? ⟨w4.heap.size, 3, none⟩ = some (.int .i64 R) ∧ w'.cell? ⟨w4.heap.size, 4, none⟩ = some (.int .i64 X) ∧ w'.cell? ⟨w4.heap.size, 5, none⟩ = some (.int .i64 V) ∧ w'.cell? ⟨w4.heap.size, 6, none⟩ = some (.int .i64 U) ∧ w'.cell? ⟨w4.heap.size, 7, none⟩ = some (.int .i64 D) ∧ w'.cell? ⟨w4.heap.size, 8, none⟩ = some (.slice Az2 nz cz2) ∧ w'.cell? ⟨w4.heap.size, 9, none⟩ = some (.int .i64 Q))) (first | exact ⟨⟨c0, c1, c2, c3, c4, c5, c6, c7, c8, c9⟩, ⟨d0, d1, d2, d3, d4, d5, d6, d7, d8, d9⟩⟩ | exact hcA | go_keep) (first
    | (go_at_call 6; refine (tosky _ P R X V U D Q ns ni nz ls li lz As cs Ai ci Az cz w.heap.size (by first | exact HS.out.below T5.out.drew (Nat.le_refl _) | exact HS.out.below T5.out (Nat.le_refl _)) (by first | exact T5.out.drew.size | exact T5.out.size) hs.out hi.out hz.out).mono ?_; rintro e wA ⟨⟨As3, cs3, Ai3, ci3, Az3, cz3, rfl, S3⟩, bA⟩; have HBA : Hid (Below w5.heap.size w5 wA) := Lib.hid (by first | exact (Below.refl _ _).drew.trans bA | exact bA); have HS3 := Lib.hid S3; have hcA := And.intro (Z5.out.below HBA.out Z5.out.lt).ten (Y5.out.below HBA.out Y5.out.lt).ten; clear bA S3)
    | (go_at_call 8; refine (eqsky_same _ P R X V U D Q ns ni nz ls li lz As2 cs2 Ai2 ci2 Az2 cz2 As3 cs3 Ai3 ci3 Az3 cz3 wA.heap.size (HS5.out.on HBA.out) HS3.out (Nat.le_refl _)).mono ?_; rintro e wB ⟨rfl, bB⟩; have HBB : Hid (Below w5.heap.size w5 wB) := Lib.hid (HBA.out.trans (bB.mono HBA.out.size)); have hcA := And.intro (Z5.out.below HBB.out Z5.out.lt).ten (Y5.out.below HBB.out Y5.out.lt).ten; clear bB))
  have HF := Lib.hid (T5.out.trans (HBB.out.mono T5.out.size))
  go_wp2
  go_ret
  exact ⟨rfl, HF.out⟩

set_option maxRecDepth 100000 in
theorem lifted (os : Os) (started : os.Started) (H : Type) (enc : TypeId × Value → H) :
    ReturnsInHanded {} Try.checked os 3 .any (Rows.fnExactSunAtSpec.pre6 enc Try.prog Try.f3 Rows.fnExactSunAtRow.domain false) (Rows.fnExactSunAtSpec.post enc Try.prog Try.f3 false true false false) := by
  refine returnsInHanded_of_change (C := Try.checked) Try.own started (by kernel_rfl) Try.func3
    (ChangeSpec.witness6 (enc := enc) (C := Try.checked) false ⟨#[], #[.agg #[.int .i64 0, .slice none 0 0, .slice none 0 0, .int .i64 0, .int .i64 0, .int .i64 0, .int .i64 0, .int .i64 0, .slice none 0 0, .int .i64 0], .int .i64 0], []⟩ 8 (by kernel_rfl) (by kernel_rfl) (by kernel_rfl) (by kernel_rfl)) ?_
  intro W base args ds gs before hval0 hW hcnd _
  have hval : ∀ (j : Nat) t v, Try.f3.params[j]? = some t → args[j]? = some v → Value.okWide Try.prog W .any base t v := hval0
  have hW' := hW
  obtain ⟨p, q, hA0, hV, rfl, hfz, hnd⟩ := hW
  have hA : DataW.TrodAll enc Try.prog W 0 (fun _ => true) true Try.f3.params.toList args.toList ds p := hA0
  rw [Try.params3] at hA hval
  obtain ⟨v0, vs0, d0, ds0, p0, q0, hargs, rfl, rfl, h0, rr0⟩ := trodAll_cons hA
  obtain ⟨v1, vs1, d1, ds1, p1, q1, rfl, rfl, rfl, h1, rr1⟩ := trodAll_cons rr0
  obtain ⟨rfl, rfl, rfl⟩ := trodAll_nil rr1
  obtain rfl : args = #[v0, v1] := by cases args; simp_all
  obtain ⟨rfl, rfl⟩ := trodVars_none hV
  obtain ⟨P, R, X, V, U, D, Q, As, ns, cs, Ai, ni, ci, Az, nz, cz, ls, li, lz, rfl, hsky, oksky⟩ := open_sky (hval 0 26 v0 rfl rfl) h0
  obtain ⟨a1, rfl, rfl, rfl, w1⟩ := open_int Try.underlying3 (hval 1 3 v1 rfl rfl) h1
  clear hA0 hval0
  refine (walk W P R X V U D Q ns ni nz ls li lz As cs Ai ci Az cz hsky oksky a1 w1).mono fun e W' ⟨he, hb⟩ => ⟨_, he, ?_⟩
  exact law_post Try.laidOut (by kernel_rfl) (by kernel_rfl) (by kernel_rfl) Try.underlying4 rfl rfl rfl hW' hb

theorem over : Rows.fnExactSunAtRow.holds Try.pinned (OpenSpec.ofChange Rows.fnExactSunAtSpec) :=
  OpenClaim.holds_of_wide 3 Try.f3 rfl rfl rfl rfl rfl rfl rfl ⟨rfl, rfl, rfl, rfl, rfl⟩ rfl rfl rfl rfl rfl (by kernel_rfl) Try.func3 (by kernel_rfl)
    (of_decide_eq_true (by kernel_rfl)) (by unfold Func.isWrapper; first | (rw [if_pos (by decide +kernel)]; kernel_rfl) | (rw [if_neg (by decide +kernel)]; exact ⟨rfl, rfl⟩))
    (fun os started H enc _ => lifted os started H enc)

/-- THE STATEMENT -/
theorem proved : Rows.FnExactSunAtSaid :=
  over
#print axioms proved
end Go.Proofs.Ytpaedbmdcbmpiaa.fnExactSunAt
