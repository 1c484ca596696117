/- Clouds in plain words (a cloud as three numbers: node, from, to): the spans over a node, what is left of a contact and of a plan; its ticks, its order, its sum. No program. -/
import Derived.Test.YtmmnnbgfomcihaaContactFacts
namespace Go.Proofs.Ytmmnnbgfomcihaa
open Go.ChangeShapes Go.WideShapes Go.ChangeAt Go.RowKit
set_option linter.unusedVariables false
/-- the spans of the clouds over a node -/
def cloudL (l : List Tri) (v : Int) : List (Int × Int) := (l.filter fun x => decide (x.p = v)).map fun x => (x.a, x.b)
def cloudS (l : List Tri) (v : Int) : List (Int × Int) := joinOf (cloudL l v)
/-- what is left of a contact's span -/
def cutC (cl : List Tri) (x : Sat4) : List (Int × Int) := cutOf (cutOf [conS x] (cloudS cl x.p)) (cloudS cl x.h)
def cutX (cl : List Tri) (x : Sat4) : List Sat4 := (cutC cl x).map fun p => ⟨x.p, x.h, p.1, p.2⟩
/-- what is left of a plan -/
def cutP (cl : List Tri) (plan : List Sat4) : List Sat4 := plan.flatMap (cutX cl)
/-- whether a node is covered -/
def covI (cl : List Tri) (v t : Int) : Bool := inL (cloudS cl v) t
theorem cloudL_snoc (l : List Tri) (k : Nat) (hk : k < l.length) (v : Int) : cloudL (l.take (k + 1)) v = if l[k].p = v then cloudL (l.take k) v ++ [(l[k].a, l[k].b)] else cloudL (l.take k) v := by
  unfold cloudL
  rw [List.take_succ_eq_append_getElem hk, List.filter_append, List.map_append]
  by_cases h : l[k].p = v <;> simp [h]
theorem cloudL_len (l : List Tri) (v : Int) : (cloudL l v).length ≤ l.length := by
  unfold cloudL; rw [List.length_map]; exact List.length_filter_le _ _
/-- the ticks that are left, as a set -/
def cutK (cl : List Tri) (x : Sat4) (k : Nat) : Bool := tk (cutOf [conS x] (cloudS cl x.p)) k && !tk (cloudS cl x.h) k
theorem cutC_eq (cl : List Tri) (x : Sat4) : cutC cl x = runs (cutK cl x) 1000 := rfl
theorem cutC_len (cl : List Tri) (x : Sat4) : (cutC cl x).length ≤ 1000 := by rw [cutC_eq]; exact runs_len _ 1000
theorem cutC_valid (cl : List Tri) (x : Sat4) : ∀ p ∈ cutC cl x, 0 ≤ p.1 ∧ p.1 < p.2 ∧ p.2 ≤ 1000 := by rw [cutC_eq]; exact runs_valid _ 1000 (by omega)
theorem sumL_from (L : List (Int × Int)) (s : Int) : L.foldl (fun s p => s + p.2 - p.1) s = s + L.foldl (fun s p => s + p.2 - p.1) 0 := by
  induction L generalizing s with
  | nil => simp
  | cons p L ih => rw [List.foldl_cons, List.foldl_cons, ih, ih (0 + p.2 - p.1)]; omega
theorem sumL_cons (p : Int × Int) (L : List (Int × Int)) : sumL (p :: L) = p.2 - p.1 + sumL L := by
  unfold sumL; rw [List.foldl_cons, sumL_from]; omega
theorem cutP_snoc (cl : List Tri) (l : List Sat4) (k : Nat) (hk : k < l.length) : cutP cl (l.take (k + 1)) = cutP cl (l.take k) ++ cutX cl l[k] := by
  unfold cutP
  rw [List.take_succ_eq_append_getElem hk, List.flatMap_append]; simp
theorem cutX_len (cl : List Tri) (x : Sat4) : (cutX cl x).length ≤ 1000 := by unfold cutX; rw [List.length_map]; exact cutC_len cl x
theorem cutP_len (cl : List Tri) (l : List Sat4) : (cutP cl l).length ≤ 1000 * l.length := by
  induction l with
  | nil => simp [cutP]
  | cons x l ih =>
    have e : cutP cl (x :: l) = cutX cl x ++ cutP cl l := by simp [cutP]
    rw [e, List.length_append, List.length_cons]
    have := cutX_len cl x
    omega
theorem tk_one (x : Sat4) (k : Nat) : tk [conS x] k = inS (conS x) k := by unfold tk inL; simp
/-- the ticks that are left -/
theorem tk_cutC (cl : List Tri) (x : Sat4) (k : Nat) : tk (cutC cl x) k = (inS (conS x) k && !covI cl x.p k && !covI cl x.h k) := by
  unfold cutC
  rw [tk_cut, tk_cut, tk_one]; rfl
theorem canS_app (l m : List Sat4) (a b t : Int) : canS (l ++ m) a b t = (canS l a b t || canS m a b t) := by unfold canS; rw [List.any_append]
theorem canS_cutX (cl : List Tri) (x : Sat4) (a b : Int) (k : Nat) : canS (cutX cl x) a b k = (decide (x.p = mnf a b ∧ x.h = mxf a b) && tk (cutC cl x) k) := by
  unfold canS cutX tk inL
  rw [List.any_map]
  by_cases h : x.p = mnf a b ∧ x.h = mxf a b
  · rw [decide_eq_true h, Bool.true_and]
    congr 1
    funext p
    simp [h, conS]
  · rw [decide_eq_false h, Bool.false_and, List.any_eq_false]
    intro p _
    simp only [Function.comp]
    rw [decide_eq_false h]; simp
/-- who can speak over what is left of a plan -/
theorem canS_cutP (cl : List Tri) (l : List Sat4) (a b : Int) (k : Nat) : canS (cutP cl l) a b k = (!covI cl a k && !covI cl b k && canS l a b k) := by
  induction l with
  | nil => simp [cutP, canS]
  | cons x l ih =>
    have e : cutP cl (x :: l) = cutX cl x ++ cutP cl l := by simp [cutP]
    have e2 : canS (x :: l) a b k = (decide (x.p = mnf a b ∧ x.h = mxf a b) && inS (conS x) k || canS l a b k) := rfl
    rw [e, canS_app, ih, canS_cutX, tk_cutC, e2]
    by_cases h : x.p = mnf a b ∧ x.h = mxf a b
    · have hc : (covI cl x.p k && covI cl x.h k) = (covI cl a k && covI cl b k) ∧ (!covI cl x.p k && !covI cl x.h k) = (!covI cl a k && !covI cl b k) := by
        obtain ⟨h1, h2⟩ := h
        unfold mnf at h1; unfold mxf at h2
        rw [h1, h2]
        by_cases h3 : b < a
        · rw [if_pos h3, if_neg (by omega)]; exact ⟨Bool.and_comm _ _, Bool.and_comm _ _⟩
        · rw [if_neg h3]
          by_cases h4 : a < b
          · rw [if_pos h4]; exact ⟨rfl, rfl⟩
          · rw [if_neg h4]
            obtain rfl : a = b := by omega
            exact ⟨rfl, rfl⟩
      rw [decide_eq_true h, Bool.true_and, Bool.true_and, Bool.and_assoc, hc.2]
      cases inS (conS x) k <;> cases (!covI cl a k && !covI cl b k) <;> simp
    · rw [decide_eq_false h, Bool.false_and, Bool.false_and, Bool.false_or, Bool.false_or]
theorem cnt_in (S : Nat → Bool) (lo hi : Nat) (h : ∀ k, S k = true → lo ≤ k ∧ k < hi) (n : Nat) : cnt S 0 n ≤ min n hi - lo := by
  induction n with
  | zero => simp [cnt]
  | succ n ih =>
    rw [cnt_snoc, Nat.zero_add]
    cases hs : S n
    · simp only [Bool.toNat_false]; omega
    · have := h n hs; simp only [Bool.toNat_true]; omega
theorem conTicks_app (l m : List Sat4) : conTicks (l ++ m) = conTicks l + conTicks m := by unfold conTicks; rw [List.map_append, List.sum_append]
theorem conTicks_cutX (cl : List Tri) (x : Sat4) : conTicks (cutX cl x) = sumL (cutC cl x) := by
  have hv := cutC_valid cl x
  unfold cutX
  generalize cutC cl x = L at hv
  induction L with
  | nil => rfl
  | cons p L ih =>
    have e : conTicks (List.map (fun p => (⟨x.p, x.h, p.1, p.2⟩ : Sat4)) (p :: L)) = (if isS p = true then p.2 - p.1 else 0) + conTicks (List.map (fun p => (⟨x.p, x.h, p.1, p.2⟩ : Sat4)) L) := by
      unfold conTicks conS; simp
    rw [e, ih fun q hq => hv q (List.mem_cons_of_mem _ hq)]
    have h1 := hv p List.mem_cons_self
    have hs : isS p = true := (isS_iff p).2 (by omega)
    rw [if_pos hs, sumL_cons]
/-- clouds take ticks away, none are added -/
theorem conTicks_cut (cl : List Tri) (l : List Sat4) : conTicks (cutP cl l) ≤ conTicks l := by
  induction l with
  | nil => simp [cutP]
  | cons x l ih =>
    have e : cutP cl (x :: l) = cutX cl x ++ cutP cl l := by simp [cutP]
    have e2 : conTicks (x :: l) = (if isS (conS x) = true then x.e - x.v else 0) + conTicks l := by unfold conTicks; simp
    rw [e, conTicks_app, e2, conTicks_cutX]
    have h1 : sumL (cutC cl x) = (cnt (cutK cl x) 0 1000 : Nat) := by rw [cutC_eq]; exact sum_runs _ 1000
    have h2 : ∀ k, cutK cl x k = true → inS (conS x) k = true := fun k hk => by
      unfold cutK at hk
      rw [tk_cut, tk_one] at hk
      simp only [Bool.and_eq_true] at hk
      exact hk.1.1
    by_cases hs : isS (conS x) = true
    · rw [if_pos hs]
      have h3 := (isS_iff _).1 hs
      unfold conS at h3; simp only at h3
      have h4 := cnt_in (cutK cl x) x.v.toNat x.e.toNat (fun k hk => by
        have := (inS_iff _ _).1 (h2 k hk)
        unfold conS at this; simp only at this; omega) 1000
      rw [h1]; omega
    · rw [if_neg hs]
      have h4 := cnt_in (cutK cl x) 0 0 (fun k hk => absurd ((isS_iff _).2 ((inS_iff _ _).1 (h2 k hk)).1) hs) 1000
      rw [h1]; omega
/-- a piece lies in its contact's span -/
theorem cutC_in (cl : List Tri) (x : Sat4) : ∀ p ∈ cutC cl x, x.v ≤ p.1 ∧ p.2 ≤ x.e := fun p hp => by
  have hv := cutC_valid cl x p hp
  have key : ∀ k : Nat, p.1 ≤ (k : Int) → (k : Int) < p.2 → x.v ≤ (k : Int) ∧ (k : Int) < x.e := fun k h1 h2 => by
    have h3 : tk (cutC cl x) k = true := by unfold tk; exact (inL_iff _ _).2 ⟨p, hp, (inS_iff _ _).2 ⟨by omega, by omega, by omega⟩⟩
    rw [tk_cutC] at h3
    simp only [Bool.and_eq_true] at h3
    have := (inS_iff _ _).1 h3.1.1
    unfold conS at this; simp only at this; omega
  have h1 := key p.1.toNat (by omega) (by omega)
  have h2 := key (p.2 - 1).toNat (by omega) (by omega)
  omega
theorem cutC_chain (cl : List Tri) (x : Sat4) : (cutC cl x).Pairwise fun p q => p.2 < q.1 :=
  chain_all _ (fun p hp => (cutC_valid cl x p hp).2.1) (by rw [cutC_eq]; exact fun i h => (good_runs _ 1000).chain i h)
theorem conLt_trans {n : Int} {x y z : Sat4} (hy : conOk n y = true) (h1 : conLt x y = true) (h2 : conLt y z = true) : conLt x z = true := by
  have hv : y.v < y.e := by
    unfold conOk at hy
    simp only [Bool.and_eq_true] at hy
    have := (isS_iff _).1 hy.2
    unfold conS at this; simp only at this; omega
  unfold conLt at *
  by_cases e1 : x.p = y.p
  · rw [if_neg (by simp [e1])] at h1
    by_cases e2 : y.p = z.p
    · rw [if_neg (by simp [e2])] at h2
      rw [if_neg (by simp [e1, e2])]
      by_cases e3 : x.h = y.h
      · rw [if_neg (by simp [e3])] at h1
        by_cases e4 : y.h = z.h
        · rw [if_neg (by simp [e4])] at h2
          rw [if_neg (by simp [e3, e4])]
          simp only [decide_eq_true_eq] at *; omega
        · rw [if_pos e4] at h2
          rw [if_pos (by omega)]
          simp only [decide_eq_true_eq] at *; omega
      · rw [if_pos e3] at h1
        by_cases e4 : y.h = z.h
        · rw [if_pos (by omega)]
          simp only [decide_eq_true_eq] at *; omega
        · rw [if_pos e4] at h2
          simp only [decide_eq_true_eq] at *
          rw [if_pos (by omega)]; exact decide_eq_true (by omega)
    · rw [if_pos e2] at h2
      rw [if_pos (by omega)]
      simp only [decide_eq_true_eq] at *; omega
  · rw [if_pos e1] at h1
    by_cases e2 : y.p = z.p
    · rw [if_pos (by omega)]
      simp only [decide_eq_true_eq] at *; omega
    · rw [if_pos e2] at h2
      simp only [decide_eq_true_eq] at *
      rw [if_pos (by omega)]; exact decide_eq_true (by omega)
theorem planOk_pairs {n : Int} {l : List Sat4} (h : PlanOk n l) : l.Pairwise fun x y => conLt x y = true := by
  rw [List.pairwise_iff_getElem]
  intro i j hi hj hij
  obtain ⟨d, rfl⟩ : ∃ d, j = i + 1 + d := ⟨j - (i + 1), by omega⟩
  induction d with
  | zero => exact h.2 i hj
  | succ d ih =>
    have h1 := ih (by omega) (by omega)
    have h2 := h.2 (i + 1 + d) hj
    exact conLt_trans (h.1 _ (List.getElem_mem (show i + 1 + d < l.length by omega))) h1 h2
/-- what is left of a plan is one -/
theorem planOk_cut {n : Int} (cl : List Tri) {l : List Sat4} (h : PlanOk n l) : PlanOk n (cutP cl l) := by
  refine planOk_of (fun y hy => ?_) ?_
  · obtain ⟨x, hx, hy⟩ := List.mem_flatMap.1 hy
    obtain ⟨p, hp, rfl⟩ := List.mem_map.1 hy
    have h1 := h.1 x hx
    have h2 := cutC_valid cl x p hp
    unfold conOk at h1 ⊢
    simp only [Bool.and_eq_true] at h1 ⊢
    exact ⟨h1.1, (isS_iff _).2 (by unfold conS; simp only; omega)⟩
  · unfold cutP
    rw [List.pairwise_flatMap]
    refine ⟨fun x _ => ?_, (planOk_pairs h).imp fun {x y} hxy a ha b hb => ?_⟩
    · unfold cutX
      rw [List.pairwise_map]
      refine (cutC_chain cl x).imp fun {p q} hpq => ?_
      unfold conLt; simp; exact hpq
    · obtain ⟨p, hp, rfl⟩ := List.mem_map.1 ha
      obtain ⟨q, hq, rfl⟩ := List.mem_map.1 hb
      have h1 := cutC_in cl x p hp
      have h2 := cutC_in cl y q hq
      unfold conLt at hxy ⊢
      simp only at hxy ⊢
      by_cases e1 : x.p = y.p
      · rw [if_neg (by simp [e1])] at hxy ⊢
        by_cases e2 : x.h = y.h
        · rw [if_neg (by simp [e2])] at hxy ⊢
          simp only [decide_eq_true_eq] at *; omega
        · rw [if_pos e2] at hxy ⊢; exact hxy
      · rw [if_pos e1] at hxy ⊢; exact hxy
end Go.Proofs.Ytmmnnbgfomcihaa
