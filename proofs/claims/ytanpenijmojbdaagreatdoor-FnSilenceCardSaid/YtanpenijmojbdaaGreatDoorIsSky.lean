/- IsSat and IsSky of both sides, in plain words. -/
import Derived.Test.YtanpenijmojbdaaGreatDoorNodes
import Derived.Test.YtanpenijmojbdaaGreatDoorSentinels
import Derived.LoopTactic
namespace Go.Proofs.YtanpenijmojbdaaGreatDoor
open Go.ChangeShapes Go.WideShapes Go.ChangeAt Go.RowKit
set_option linter.unusedVariables false
theorem says_ex (p : Prop) : ∃ b, SaysOf b p := by
  by_cases h : p
  · exact ⟨true, by simp [SaysOf, h]⟩
  · exact ⟨false, by simp [SaysOf, h]⟩
theorem SaysOf.dec {b : Bool} {p : Prop} [Decidable p] (h : SaysOf b p) : decide p = b := by
  cases b
  · simpa using h.f
  · simpa using h.t
def satOk (P : Int) (x : Sat4) : Bool := decide (0 ≤ x.p ∧ x.p ≤ P - 1) && (decide (0 ≤ x.h ∧ x.h ≤ 359) && (decide (-60 ≤ x.v ∧ x.v ≤ 60) && decide (0 ≤ x.e ∧ x.e ≤ 20)))
def siteOk (P : Int) (x : Tri) : Bool := decide (0 ≤ x.p ∧ x.p ≤ P - 1) && (decide (0 ≤ x.a ∧ x.a ≤ 359) && decide (-60 ≤ x.b ∧ x.b ≤ 60))
def zoneOk (P : Int) (x : Tri) : Bool := decide (0 ≤ x.p ∧ x.p ≤ P - 1) && decide (0 ≤ x.b ∧ x.b ≤ 359)
def halfOk (z : Int) : Bool := decide (0 ≤ z ∧ z ≤ 180)
def skyOk (P R X V U D Q : Int) (ls : List Sat4) (li lz : List Tri) : Bool :=
  decide (1 ≤ P ∧ P ≤ 4) && (decide (1 ≤ (ls.length : Int) ∧ (ls.length : Int) ≤ 8) && (ls.all (satOk P) && (decide (li.length ≤ 4) && (li.all (siteOk P) && (decide (lz.length ≤ 4) && (lz.all (zoneOk P) &&
    ([R, X, V, D].all halfOk && (decide (-60 ≤ U ∧ U ≤ 60) && decide (0 ≤ Q ∧ Q ≤ 20)))))))))
theorem siteOk_sat (P : Int) (x y z : Int) : satOk P ⟨x, y, z, 0⟩ = siteOk P ⟨x, y, z⟩ := by simp [satOk, siteOk]
theorem iinr_b (n lo hi : Int) (w : World) (b : Bool) (h : SaysOf b (lo ≤ n ∧ n ≤ hi)) :
    Calls Tryz.prog 103 #[.int .i64 n, .int .i64 lo, .int .i64 hi] w fun e w' => e = .returned (.bool b) ∧ w = w' := by
  cases b
  · exact iinr_f n lo hi w h.f
  · exact iinr_t n lo hi w h.t.1 h.t.2
theorem sinr_b (n lo hi : Int) (w : World) (b : Bool) (h : SaysOf b (lo ≤ n ∧ n ≤ hi)) :
    Calls Tryz.prog 85 #[.int .i64 n, .int .i64 lo, .int .i64 hi] w fun e w' => e = .returned (.bool b) ∧ w = w' := by
  cases b
  · exact sinr_f n lo hi w h.f
  · exact sinr_t n lo hi w h.t.1 h.t.2
theorem iassat (w : World) (x y z : Int) :
    Calls Tryz.prog 164 #[.agg #[.int .i64 x, .int .i64 y, .int .i64 z]] w (Vals w (.agg #[.int .i64 x, .int .i64 y, .int .i64 z, .int .i64 0])) := by
  go_enter Tryz.func164, Tryz.ntmps164
  go_wp2
  refine bodyPost_ret (v := .agg #[.int .i64 x, .int .i64 y, .int .i64 z, .int .i64 0]) (by simp [results, Tryz.results164, go_sem]) rfl ⟨rfl, ?_⟩
  exact ((Below.refl _ _).alloc (Nat.le_refl _) _).alloc (by simp) _
end Go.Proofs.YtanpenijmojbdaaGreatDoor
