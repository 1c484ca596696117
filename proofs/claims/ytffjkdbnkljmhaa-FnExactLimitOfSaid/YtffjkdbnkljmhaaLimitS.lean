/- The model's l7Near and LimitOf, in plain words. -/
import Derived.Test.YtffjkdbnkljmhaaLimit
namespace Go.Proofs.Ytffjkdbnkljmhaa
open Go.ChangeShapes Go.WideShapes Go.ChangeAt Go.RowKit
set_option linter.unusedVariables false
/-- two planes are neighbors, as the model says it -/
def nearM (P p q : Int) : Bool := !decide (mnf p q < 0) && (decide (mnf p q < mxf p q) && (decide (mxf p q - mnf p q = 1) || (decide (mnf p q = 0) && (decide (mxf p q ≤ 4) && decide (mxf p q + 1 = P)))))
def limS (P R X V : Int) (ns ni : Nat) (ls : List Sat4) (li : List Tri) (a b : Int) : Int :=
  if (!decide (0 ≤ a ∧ a ≤ (ns : Int) + ni - 1) || (!decide (0 ≤ b ∧ b ≤ (ns : Int) + ni - 1) || (decide (a = b) || (siteAt ns ni a && siteAt ns ni b)))) = true then -1
  else if (siteAt ns ni a || siteAt ns ni b) = true then (if (decide (planeOf ls li a = planeOf ls li b) || nearM P (planeOf ls li a) (planeOf ls li b)) = true then V else -1)
  else if planeOf ls li a = planeOf ls li b then R else if nearM P (planeOf ls li a) (planeOf ls li b) = true then X else -1
theorem plane_J64 {ls : List Sat4} {li : List Tri} (h1 : ∀ x ∈ ls, Ok4 x) (h2 : ∀ x ∈ li, Ok3 x) (i : Int) : J64 (planeOf ls li i) := by
  rcases node_cases ls li i with ⟨k, hk, -, -, hp, -⟩ | ⟨k, hk, -, -, hp, -⟩ | ⟨-, -, hp, -⟩
  · rw [hp]; exact (h1 _ (List.getElem_mem hk)).1
  · rw [hp]; exact (h2 _ (List.getElem_mem hk)).1
  · rw [hp]; unfold J64; omega
/-- the program's limit is the model's, where the program's neighbors are -/
theorem limS_eq (P R X V : Int) (ls : List Sat4) (li : List Tri) (a b : Int) (hn : nearM P (planeOf ls li a) (planeOf ls li b) = nearI P (planeOf ls li a) (planeOf ls li b)) : limS P R X V ls.length li.length ls li a b = limI P R X V ls li a b := by
  rcases node_cases ls li a with ⟨k, hk, ea, -, -, va⟩ | ⟨k, hk, ea, -, -, va⟩ | ⟨ea, -, -, va⟩
  · have ka : nodeK ls.length li.length a = 1 := by rw [ea]; exact nodeK_sat hk
    have ia : (0 ≤ a ∧ a ≤ (ls.length : Int) + li.length - 1) := by omega
    rcases node_cases ls li b with ⟨m, hm, eb, -, -, vb⟩ | ⟨m, hm, eb, -, -, vb⟩ | ⟨eb, -, -, vb⟩
    · have kb : nodeK ls.length li.length b = 1 := by rw [eb]; exact nodeK_sat hm
      have ib : (0 ≤ b ∧ b ≤ (ls.length : Int) + li.length - 1) := by omega
      simp [limS, limI, ka, kb, ia, ib, va, vb, hn]
    · have kb : nodeK ls.length li.length b = 2 := by rw [eb]; exact nodeK_site hm
      have ib : (0 ≤ b ∧ b ≤ (ls.length : Int) + li.length - 1) := by omega
      simp [limS, limI, ka, kb, ia, ib, va, vb, hn]
    · have kb : nodeK ls.length li.length b = 0 := nodeK_none eb
      have ib : ¬ (0 ≤ b ∧ b ≤ (ls.length : Int) + li.length - 1) := by omega
      simp [limS, limI, kb, ib]
  · have ka : nodeK ls.length li.length a = 2 := by rw [ea]; exact nodeK_site hk
    have ia : (0 ≤ a ∧ a ≤ (ls.length : Int) + li.length - 1) := by omega
    rcases node_cases ls li b with ⟨m, hm, eb, -, -, vb⟩ | ⟨m, hm, eb, -, -, vb⟩ | ⟨eb, -, -, vb⟩
    · have kb : nodeK ls.length li.length b = 1 := by rw [eb]; exact nodeK_sat hm
      have ib : (0 ≤ b ∧ b ≤ (ls.length : Int) + li.length - 1) := by omega
      simp [limS, limI, ka, kb, ia, ib, va, vb, hn]
    · have kb : nodeK ls.length li.length b = 2 := by rw [eb]; exact nodeK_site hm
      simp [limS, limI, ka, kb, va, vb]
    · have kb : nodeK ls.length li.length b = 0 := nodeK_none eb
      have ib : ¬ (0 ≤ b ∧ b ≤ (ls.length : Int) + li.length - 1) := by omega
      simp [limS, limI, kb, ib]
  · have ka : nodeK ls.length li.length a = 0 := nodeK_none ea
    have ia : ¬ (0 ≤ a ∧ a ≤ (ls.length : Int) + li.length - 1) := by omega
    simp [limS, limI, ka, ia]
set_option maxRecDepth 100000 in
theorem snear (w : World) (P R X V U D Q : Int) (ns ni nz : Nat) (ls : List Sat4) (li lz : List Tri) (As : Option Addr) (cs : Nat) (Ai : Option Addr) (ci : Nat) (Az : Option Addr) (cz : Nat) (p q : Int) (hp : J64 p) (hq : J64 q) (b : Bool) (hb : nearM P p q = b) :
    Calls Try.prog 23 #[.agg #[.int .i64 P, .slice As ns cs, .slice Ai ni ci, .int .i64 R, .int .i64 X, .int .i64 V, .int .i64 U, .int .i64 D, .slice Az nz cz, .int .i64 Q], .int .i64 p, .int .i64 q] w (Tells w b) := by
  have hlo : J64 (mnf p q) := by unfold mnf; split <;> assumption
  have hhi : J64 (mxf p q) := by unfold mxf; split <;> assumption
  obtain ⟨lo, hlo2⟩ : ∃ z, mnf p q = z := ⟨_, rfl⟩
  obtain ⟨hi, hhi2⟩ : ∃ z, mxf p q = z := ⟨_, rfl⟩
  have HB : Hid (b = (!decide (lo < 0) && (decide (lo < hi) && (decide (hi - lo = 1) || (decide (lo = 0) && (decide (hi ≤ 4) && decide (hi + 1 = P))))))) := Lib.hid (by rw [← hb, ← hlo2, ← hhi2]; rfl)
  have HL := Lib.hid (And.intro hlo2 hhi2)
  rw [hlo2] at hlo
  rw [hhi2] at hhi
  unfold J64 at hlo hhi
  have T := Lib.hid ((Below.refl w.heap.size w).alloc (Nat.le_refl _) (.cells #[.int .i64 P, .slice As ns cs, .slice Ai ni ci, .int .i64 R, .int .i64 X, .int .i64 V, .int .i64 U, .int .i64 D, .slice Az nz cz, .int .i64 Q] 33))
  clear hb hlo2 hhi2 hp hq
  go_enter Try.func23, Try.ntmps23
  go_wp2_with fail
  refine (smin p q _).mono ?_
  rintro e w' ⟨rfl, rfl⟩
  rw [HL.out.1]
  go_wp2_with fail
  refine (smax p q _).mono ?_
  rintro e w' ⟨rfl, rfl⟩
  rw [HL.out.2]
  by_cases g1 : lo < 0
  · obtain rfl : b = false := by rw [HB.out]; simp [g1]
    clear HB
    go_wp2
    go_ret
    exact ⟨rfl, T.out⟩
  by_cases g2 : lo < hi
  case neg =>
    obtain rfl : b = false := by rw [HB.out]; simp [g2]
    clear HB
    go_wp2
    go_ret
    exact ⟨rfl, T.out⟩
  by_cases g3 : hi - lo = 1
  · obtain rfl : b = true := by rw [HB.out]; simp [g1, g2, g3]
    clear HB
    have g3' : (hi - lo == 1) = true := by simpa using g3
    clear g3
    go_wp2
    go_ret
    exact ⟨rfl, T.out⟩
  by_cases g4 : lo = 0
  case neg =>
    obtain rfl : b = false := by rw [HB.out]; simp [g3, g4]
    clear HB
    have g3' : (hi - lo == 1) = false := by simpa using g3
    have g4' : (lo == 0) = false := by simpa using g4
    go_wp2
    go_ret
    exact ⟨rfl, T.out⟩
  subst g4
  have g3' : (hi == 1) = false := by simp; omega
  by_cases g5 : hi ≤ 4
  case neg =>
    obtain rfl : b = false := by rw [HB.out]; simp [g5]; omega
    clear HB g3
    go_wp2
    go_ret
    exact ⟨rfl, T.out⟩
  by_cases g6 : hi + 1 = P
  · obtain rfl : b = true := by rw [HB.out]; simp [g2, g5, g6]
    clear HB g3
    have g6' : (hi + 1 == P) = true := by simpa using g6
    subst g6
    go_wp2
    go_ret
    exact ⟨rfl, T.out⟩
  · obtain rfl : b = false := by rw [HB.out]; simp [g6]; omega
    clear HB g3
    have g6' : (hi + 1 == P) = false := by simpa using g6
    go_wp2
    go_ret
    exact ⟨rfl, T.out⟩
end Go.Proofs.Ytffjkdbnkljmhaa
