/- Silence in plain words: which nodes may disturb, the windows without them, of both sides. -/
import Derived.Test.YtlaigbhiligceaaGreatDoorWindows
import Derived.Test.YtlaigbhiligceaaGreatDoorArc
namespace Go.Proofs.YtlaigbhiligceaaGreatDoor
open Go.ChangeShapes Go.WideShapes Go.ChangeAt Go.RowKit
set_option linter.unusedVariables false
theorem meetA_comm (s wd s' wd' : Int) : meetA s wd s' wd' = meetA s' wd' s wd := by
  rw [meetA_eq, meetA_eq, Bool.or_comm, Bool.and_comm (decide (0 ≤ wd))]
/-- a zone of this plane with an angle of this arc -/
def zoneHit (pl x wd : Int) (z : Tri) : Bool := decide (z.p = pl) && meetA z.a z.b x wd
/-- the node is a satellite and may be in a zone of its plane -/
def mayAt (ls : List Sat4) (li lz : List Tri) (node t : Int) : Bool := decide (0 ≤ node ∧ node < ls.length) && lz.any (zoneHit (planeOf ls li node) (arcS ls li node t) (arcW ls li node))
/-- the zones of one group -/
def grp (lz : List Tri) (i : Int) : List Tri := lz.filter fun z => decide (z.p % 4 = i)
theorem grp_any (lz : List Tri) (pl x wd : Int) : (grp lz (pl % 4)).any (zoneHit pl x wd) = lz.any (zoneHit pl x wd) := by
  unfold grp
  induction lz with
  | nil => rfl
  | cons z l ih =>
    by_cases h : z.p % 4 = pl % 4
    · rw [List.filter_cons_of_pos (by simpa using h), List.any_cons, List.any_cons, ih]
    · rw [List.filter_cons_of_neg (by simpa using h), List.any_cons, ih]
      have : zoneHit pl x wd z = false := by
        unfold zoneHit
        rw [decide_eq_false (fun e => h (by rw [e]))]; rfl
      rw [this]; rfl
theorem any_false_of {α : Type} (p : α → Bool) (l : List α) (k : Nat) (h : ∀ i, (hi : i < l.length) → p l[i] = false) : l.any p = false := by
  rw [List.any_eq_false]
  intro x hx
  obtain ⟨i, hi, rfl⟩ := List.getElem_of_mem hx
  rw [h i hi]; simp
theorem may_node {ls : List Sat4} {li lz : List Tri} {node t : Int} (h : mayAt ls li lz node t = true) : 0 ≤ node ∧ node < ls.length := by
  unfold mayAt at h
  rw [Bool.and_eq_true] at h
  exact of_decide_eq_true h.1
/-- the ticks of a range as the model takes them, in which H holds -/
def setT (H : Int → Bool) (lo : Int) : Nat → Bool := fun k => decide (lo ≤ (k : Int)) && H k
def winS (H : Int → Bool) (lo hi : Int) : List (Int × Int) := runs (setT H lo) hi.toNat
theorem runs_low (H : Int → Bool) (lo : Int) (n : Nat) (h : (n : Int) ≤ lo) : runs (setT H lo) n = [] := by
  rw [runs_more (setT H lo) 0 n (Nat.zero_le _) (fun k _ hk => by unfold setT; rw [decide_eq_false (by omega)]; rfl)]
  rfl
theorem runs_step (H : Int → Bool) (lo : Int) (k : Nat) (h : lo ≤ (k : Int)) : runs (setT H lo) (k + 1) = if H k = true then put (runs (setT H lo) k) (k : Int) else runs (setT H lo) k := by
  show (if setT H lo k = true then _ else _) = _
  unfold setT
  rw [decide_eq_true h]; rfl
theorem tk_winS (H : Int → Bool) (lo hi : Int) (h : hi ≤ 1000) (k : Nat) : tk (winS H lo hi) k = (decide ((k : Int) < hi) && (decide (lo ≤ (k : Int)) && H k)) := by
  unfold winS
  rw [tk_runs _ _ (by omega)]
  have : decide (k < hi.toNat) = decide ((k : Int) < hi) := decide_eq_decide.2 (by omega)
  rw [this]; rfl
theorem runs_same (S S' : Nat → Bool) (n : Nat) (h : ∀ k, k < n → S k = S' k) : runs S n = runs S' n := by
  induction n with
  | zero => rfl
  | succ n ih =>
    show (if S n = true then put (runs S n) (n : Int) else runs S n) = (if S' n = true then put (runs S' n) (n : Int) else runs S' n)
    rw [ih fun k hk => h k (by omega), h n (by omega)]
theorem inL_app (l m : List (Int × Int)) (t : Int) : inL (l ++ m) t = (inL l t || inL m t) := by
  unfold inL; rw [List.any_append]
/-- the model's ticks of a range -/
def loM (f : Int) : Int := if (if 0 ≤ f then f else 0) ≤ 1000 then (if 0 ≤ f then f else 0) else 1000
def hiM (t : Int) : Int := if 0 ≤ (if t ≤ 1000 then t else 1000) then (if t ≤ 1000 then t else 1000) else 0
/-- where nothing wraps, a window of the program has the ticks of the model's -/
theorem tk_win (H : Int → Bool) (f t : Int) (hf : J64 f) (ht : -9223372036854775808 < t) (ht1 : t ≤ 9223372036854775807) (k : Nat) (hk : k < 1000) : tk (winOf H f t) k = tk (winS H (loM f) (hiM t)) k := by
  rw [tk_winS _ _ _ (by unfold hiM; split <;> split <;> omega)]
  unfold tk
  rw [win_has H f t _ hf]
  have e1 : highT t = if t ≤ 1000 then t else 1000 := by unfold highT mnf wrap64; split <;> split <;> omega
  have e2 : lowT f ≤ (k : Int) ↔ loM f ≤ (k : Int) := by unfold lowT mxf loM; repeat' split <;> omega
  have e3 : (k : Int) < highT t ↔ (k : Int) < hiM t := by rw [e1]; unfold hiM; repeat' split <;> omega
  have e4 : (decide ((k : Int) < hiM t) && (decide (loM f ≤ (k : Int)) && H k)) = decide ((k : Int) < hiM t ∧ loM f ≤ (k : Int) ∧ H k = true) := by rw [Bool.decide_and, Bool.decide_and]; simp
  rw [e4]
  exact decide_eq_decide.2 ⟨fun h => ⟨e3.1 h.1.2, e2.1 h.1.1, h.2⟩, fun h => ⟨⟨e2.2 h.2.1, e3.2 h.1⟩, h.2.2⟩⟩
/-- when two nodes speak: the program's list and the model's -/
def spkI (H Qa Qb : Int → Bool) (f t : Int) : List (Int × Int) := cutOf (winOf H f t) (winOf Qa f t ++ winOf Qb f t)
def spkS (H Qa Qb : Int → Bool) (f t : Int) : List (Int × Int) := cutOf (cutOf (winS H (loM f) (hiM t)) (winS Qa (loM f) (hiM t))) (winS Qb (loM f) (hiM t))
theorem spk_eq (H Qa Qb : Int → Bool) (f t : Int) (hf : J64 f) (ht : -9223372036854775808 < t) (ht1 : t ≤ 9223372036854775807) : spkI H Qa Qb f t = spkS H Qa Qb f t := by
  unfold spkI spkS
  unfold cutOf
  refine runs_same _ _ _ fun k hk => ?_
  have e := tk_cut (winS H (loM f) (hiM t)) (winS Qa (loM f) (hiM t)) k
  unfold cutOf at e
  rw [e, tk_win H f t hf ht ht1 k hk]
  have e2 : tk (winOf Qa f t ++ winOf Qb f t) k = (tk (winOf Qa f t) k || tk (winOf Qb f t) k) := inL_app _ _ _
  rw [e2, tk_win Qa f t hf ht ht1 k hk, tk_win Qb f t hf ht ht1 k hk, Bool.not_or, Bool.and_assoc]
end Go.Proofs.YtlaigbhiligceaaGreatDoor
