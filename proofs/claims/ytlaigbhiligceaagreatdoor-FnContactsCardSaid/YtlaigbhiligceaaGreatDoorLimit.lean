/- The program's areNeighbors and LimitOf, in plain words. -/
import Derived.Test.YtlaigbhiligceaaGreatDoorIsSky
import Derived.Deep.Cut
namespace Go.Proofs.YtlaigbhiligceaaGreatDoor
open Go.ChangeShapes Go.WideShapes Go.ChangeAt Go.RowKit
set_option linter.unusedVariables false
/-- two planes are neighbors -/
def nearI (P p q : Int) : Bool := !decide (mnf p q < 0) && (decide (mxf p q - mnf p q = 1) || (decide (mnf p q = 0) && (decide (mxf p q = P - 1) && decide (1 ≤ P - 1 ∧ P - 1 ≤ 4))))
theorem mnf_comm (p q : Int) : mnf p q = mnf q p := by unfold mnf; split <;> split <;> omega
theorem mxf_comm (p q : Int) : mxf p q = mxf q p := by unfold mxf; split <;> split <;> omega
theorem nearI_comm (P p q : Int) : nearI P p q = nearI P q p := by unfold nearI; rw [mnf_comm p q, mxf_comm p q]
/-- 1: a satellite, 2: a site, 0: no node -/
def nodeK (ns ni : Nat) (node : Int) : Nat := if node < 0 then 0 else if node < ns then 1 else if node < ns + ni then 2 else 0
theorem nodeK_sat {ns ni k : Nat} (h : k < ns) : nodeK ns ni k = 1 := by unfold nodeK; rw [if_neg (by omega), if_pos (by omega)]
theorem nodeK_site {ns ni k : Nat} (h : k < ni) : nodeK ns ni ((ns : Int) + k) = 2 := by unfold nodeK; rw [if_neg (by omega), if_neg (by omega), if_pos (by omega)]
theorem nodeK_none {ns ni : Nat} {node : Int} (h : node < 0 ∨ (ns : Int) + ni ≤ node) : nodeK ns ni node = 0 := by
  unfold nodeK
  by_cases h0 : node < 0
  · rw [if_pos h0]
  · rw [if_neg h0, if_neg (by omega), if_neg (by omega)]
def limI (P R X V : Int) (ls : List Sat4) (li : List Tri) (a b : Int) : Int :=
  if a = b ∨ nodeK ls.length li.length a = 0 ∨ nodeK ls.length li.length b = 0 then -1
  else if nodeK ls.length li.length a = 1 ∧ nodeK ls.length li.length b = 1 then (if planeOf ls li a = planeOf ls li b then R else if nearI P (planeOf ls li a) (planeOf ls li b) = true then X else -1)
  else if nodeK ls.length li.length a ≠ nodeK ls.length li.length b then (if planeOf ls li a = planeOf ls li b ∨ nearI P (planeOf ls li a) (planeOf ls li b) = true then V else -1) else -1
theorem limI_comm (P R X V : Int) (ls : List Sat4) (li : List Tri) (a b : Int) : limI P R X V ls li a b = limI P R X V ls li b a := by
  unfold limI
  rw [nearI_comm P (planeOf ls li b) (planeOf ls li a)]
  generalize nodeK ls.length li.length a = ka
  generalize nodeK ls.length li.length b = kb
  generalize planeOf ls li a = pa
  generalize planeOf ls li b = pb
  generalize nearI P pa pb = v
  have e1 : (a = b) = (b = a) := propext ⟨fun h => h.symm, fun h => h.symm⟩
  have e2 : (pa = pb) = (pb = pa) := propext ⟨fun h => h.symm, fun h => h.symm⟩
  have e3 : (a = b ∨ ka = 0 ∨ kb = 0) = (b = a ∨ kb = 0 ∨ ka = 0) := propext ⟨fun h => by omega, fun h => by omega⟩
  have e4 : (ka = 1 ∧ kb = 1) = (kb = 1 ∧ ka = 1) := propext ⟨fun h => h.symm, fun h => h.symm⟩
  have e5 : (ka ≠ kb) = (kb ≠ ka) := propext ⟨fun h => h.symm, fun h => h.symm⟩
  simp only [e2, e3, e4, e5]
set_option maxRecDepth 100000 in
theorem ineigh (w : World) (P R X V U D Q : Int) (ns ni nz : Nat) (ls : List Sat4) (li lz : List Tri) (As : Option Addr) (cs : Nat) (Ai : Option Addr) (ci : Nat) (Az : Option Addr) (cz : Nat) (p q : Int) (hp : J64 p) (hq : J64 q) (hP : J64 P) (b : Bool) (hb : nearI P p q = b) :
    Calls Tryz.prog 126 #[.agg #[.int .i64 P, .slice As ns cs, .slice Ai ni ci, .int .i64 R, .int .i64 X, .int .i64 V, .int .i64 U, .int .i64 D, .slice Az nz cz, .int .i64 Q], .int .i64 p, .int .i64 q] w (Tells w b) := by
  obtain ⟨L, hL⟩ : ∃ z, wrap64 (P - 1) = z := ⟨_, rfl⟩
  have hLJ : J64 L := by rw [← hL]; unfold J64 wrap64; omega
  obtain ⟨bL, hbL⟩ := says_ex (1 ≤ L ∧ L ≤ 4)
  have hlo : J64 (mnf p q) := by unfold mnf; split <;> assumption
  have hhi : J64 (mxf p q) := by unfold mxf; split <;> assumption
  have hle : mnf p q ≤ mxf p q := by unfold mnf mxf; split <;> split <;> omega
  obtain ⟨lo, hlo2⟩ : ∃ z, z = mnf p q := ⟨_, rfl⟩
  obtain ⟨hi, hhi2⟩ : ∃ z, z = mxf p q := ⟨_, rfl⟩
  unfold J64 at hP
  have hPL : (decide (hi = P - 1) && decide (1 ≤ P - 1 ∧ P - 1 ≤ 4)) = (decide (hi = L) && bL) := by
    rw [← hbL.dec]
    by_cases g : P = -9223372036854775808
    · have e : L = 9223372036854775807 := by rw [← hL, g]; unfold wrap64; omega
      rw [decide_eq_false (show ¬ (1 ≤ P - 1 ∧ P - 1 ≤ 4) by omega), decide_eq_false (show ¬ (1 ≤ L ∧ L ≤ 4) by omega)]; simp
    · have e : L = P - 1 := by rw [← hL]; exact IntWalk.wrap64_in _ (by omega)
      rw [e]
  have HB : Hid (b = (!decide (lo < 0) && (decide (hi - lo = 1) || (decide (lo = 0) && (decide (hi = L) && bL))))) := Lib.hid (by rw [← hb, ← hPL, hlo2, hhi2]; rfl)
  have HP := Lib.hid hbL
  have HL := Lib.hid (And.intro hlo2 hhi2)
  rw [← hlo2] at hlo hle
  rw [← hhi2] at hhi hle
  unfold J64 at hlo hhi hLJ
  have T := Lib.hid (((Below.refl w.heap.size w).alloc (Nat.le_refl _) (.cells #[.int .i64 P, .slice As ns cs, .slice Ai ni ci, .int .i64 R, .int .i64 X, .int .i64 V, .int .i64 U, .int .i64 D, .slice Az nz cz, .int .i64 Q] 28)).alloc (by simp) (.cells #[.int .i64 q] 3))
  clear hbL hb hlo2 hhi2 hp hq hPL
  by_cases g1 : lo < 0
  · obtain rfl : b = false := by rw [HB.out]; simp [g1]
    clear HB
    go_enter Tryz.func126, Tryz.ntmps126
    go_wp2_with fail
    refine (lag p q _ ⟨w.heap.size + 1, 0, none⟩ (by simp)).mono ?_
    rintro e w' ⟨rfl, rfl⟩
    rw [← HL.out.1, ← HL.out.2]
    go_wp2
    go_ret
    exact ⟨rfl, T.out⟩
  by_cases g2 : hi - lo = 1
  · obtain rfl : b = true := by rw [HB.out]; simp [g1, g2]
    clear HB
    go_enter Tryz.func126, Tryz.ntmps126
    go_wp2_with fail
    refine (lag p q _ ⟨w.heap.size + 1, 0, none⟩ (by simp)).mono ?_
    rintro e w' ⟨rfl, rfl⟩
    rw [← HL.out.1, ← HL.out.2]
    go_wp2
    go_ret
    exact ⟨rfl, T.out⟩
  have g2' : (hi - lo == 1) = false := by simpa using g2
  by_cases g3 : lo = 0
  case neg =>
    have g3' : (lo == 0) = false := by simpa using g3
    obtain rfl : b = false := by rw [HB.out]; simp [g2, g3]
    clear HB
    go_enter Tryz.func126, Tryz.ntmps126
    go_wp2_with fail
    refine (lag p q _ ⟨w.heap.size + 1, 0, none⟩ (by simp)).mono ?_
    rintro e w' ⟨rfl, rfl⟩
    rw [← HL.out.1, ← HL.out.2]
    go_wp2
    go_ret
    exact ⟨rfl, T.out⟩
  subst g3
  have g2'' : (hi == 1) = false := by simp; omega
  by_cases g5 : hi = L
  · obtain rfl : b = bL := by rw [HB.out]; simp [g5]; omega
    clear HB
    subst g5
    go_enter Tryz.func126, Tryz.ntmps126
    go_wp2_with fail
    refine (lag p q _ ⟨w.heap.size + 1, 0, none⟩ (by simp)).mono ?_
    rintro e w' ⟨rfl, rfl⟩
    rw [← HL.out.1, ← HL.out.2]
    go_wp2_with fail
    refine (iinr_b _ _ _ _ b HP.out).mono ?_
    rintro e w' ⟨rfl, rfl⟩
    go_wp2
    go_ret
    exact ⟨rfl, T.out⟩
  · obtain rfl : b = false := by rw [HB.out]; simp [g5]; omega
    clear HB
    have g5' : (hi == L) = false := by simpa using g5
    go_enter Tryz.func126, Tryz.ntmps126
    go_wp2_with fail
    refine (lag p q _ ⟨w.heap.size + 1, 0, none⟩ (by simp)).mono ?_
    rintro e w' ⟨rfl, rfl⟩
    rw [← HL.out.1, ← HL.out.2]
    go_wp2
    go_ret
    exact ⟨rfl, T.out⟩
end Go.Proofs.YtlaigbhiligceaaGreatDoor
