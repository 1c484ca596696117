/- What two lists in order leave of a span, found by a walk along both by their From: the walk in plain words. No program. -/
import Derived.Test.YtmmnnbgfomcihaaCloudFacts
namespace Go.Proofs.Ytmmnnbgfomcihaa
open Go.ChangeShapes Go.WideShapes Go.ChangeAt Go.RowKit
set_option linter.unusedVariables false
/-- a list in order of valid spans -/
structure InOrd (a : List (Int × Int)) : Prop where
  ok : ∀ p ∈ a, 0 ≤ p.1 ∧ p.1 < p.2 ∧ p.2 ≤ 1000
  ord : a.Pairwise fun p q => p.2 < q.1
theorem inOrd_runs (S : Nat → Bool) : InOrd (runs S 1000) :=
  ⟨runs_valid S 1000 (by omega), chain_all _ (fun p hp => (runs_valid S 1000 (by omega) p hp).2.1) fun i h => (good_runs S 1000).chain i h⟩
theorem InOrd.later {a : List (Int × Int)} (h : InOrd a) {i k : Nat} (hik : i ≤ k) (hk : k < a.length) : (a[i]'(by omega)).1 ≤ a[k].1 := by
  by_cases e : i = k
  · subst e; exact Int.le_refl _
  · have h1 := List.pairwise_iff_getElem.1 h.ord i k (by omega) hk (by omega)
    have h2 := h.ok _ (List.getElem_mem (show i < a.length by omega))
    omega
theorem InOrd.rng {a : List (Int × Int)} (h : InOrd a) : Rng a := fun p hp => by have := h.ok p hp; unfold I64; omega
theorem InOrd.tick {a : List (Int × Int)} (h : InOrd a) (t : Nat) : tk a t = true ↔ ∃ k, ∃ hk : k < a.length, a[k].1 ≤ (t : Int) ∧ (t : Int) < a[k].2 := by
  unfold tk
  rw [inL_iff]
  constructor
  · rintro ⟨p, hp, hi⟩
    obtain ⟨k, hk, rfl⟩ := List.getElem_of_mem hp
    have := (inS_iff _ _).1 hi
    exact ⟨k, hk, by omega, by omega⟩
  · rintro ⟨k, hk, h1, h2⟩
    have := h.ok _ (List.getElem_mem hk)
    exact ⟨_, List.getElem_mem hk, (inS_iff _ _).2 ⟨by omega, h1, h2⟩⟩
/-- one step along both: the span that is next, whether there is one, and the places behind it -/
inductive Step (a b : List (Int × Int)) (i j : Nat) : (Int × Int) → Bool → Nat → Nat → Prop
  | left (hi : i < a.length) (h : j = b.length ∨ ∃ hj : j < b.length, a[i].1 ≤ b[j].1) : Step a b i j a[i] true (i + 1) j
  | right (hj : j < b.length) (h : i = a.length ∨ ∃ hi : i < a.length, b[j].1 < a[i].1) : Step a b i j b[j] true i (j + 1)
  | done (hi : i = a.length) (hj : j = b.length) : Step a b i j (0, 0) false i j
/-- what is left -/
def leftK (a b : List (Int × Int)) (x : Int × Int) (k : Nat) : Bool := inS x k && !tk a k && !tk b k
/-- the walk, i spans of a and j of b behind it, all ticks ahead of f done -/
structure Along (a b : List (Int × Int)) (x : Int × Int) (i j : Nat) (f : Int) (L : List (Int × Int)) : Prop where
  ia : i ≤ a.length
  jb : j ≤ b.length
  lo : x.1 ≤ f
  top : f ≤ 1000
  da : ∀ k, ∀ h : k < a.length, k < i → a[k].2 ≤ f
  db : ∀ k, ∀ h : k < b.length, k < j → b[k].2 ≤ f
  left : L = runs (leftK a b x) f.toNat
  stop : ∀ k : Nat, (k : Int) + 1 = f → leftK a b x k = false
theorem put_snoc (L : List (Int × Int)) (u t : Int) : put (L ++ [(u, t)]) t = L ++ [(u, t + 1)] := by
  have he : endOf (L ++ [(u, t)]) = (u, t) := by
    rw [endOf_at _ (by simp)]
    simp
  have hg : grows (L ++ [(u, t)]) t = true := by
    unfold grows
    rw [he]
    simp
  unfold put
  rw [if_pos hg, he]
  simp
/-- ticks without a gap are one span -/
theorem runs_fill (S : Nat → Bool) (m d : Nat) (h0 : ∀ k, k + 1 = m → S k = false) (h1 : ∀ k, m ≤ k → k < m + (d + 1) → S k = true) :
    runs S (m + (d + 1)) = runs S m ++ [((m : Int), ((m + (d + 1) : Nat) : Int))] := by
  induction d with
  | zero =>
    show (if S m then put (runs S m) m else runs S m) = _
    rw [if_pos (h1 m (by omega) (by omega))]
    have hg : grows (runs S m) m = false := by
      unfold grows
      rw [decide_eq_false]
      rintro ⟨hl, he⟩
      rw [endOf_at _ hl] at he
      have hG := good_runs S m
      have hm := List.getElem_mem (l := runs S m) (n := (runs S m).length - 1) (by omega)
      have hb := hG.bd _ hm
      obtain ⟨q, rfl⟩ : ∃ q, m = q + 1 := ⟨m - 1, by omega⟩
      have ht := (hG.tick q).1 ⟨_, hm, by omega, by omega⟩
      rw [h0 q rfl] at ht
      cases ht.2
    unfold put
    rw [if_neg (by rw [hg]; simp)]
    simp
  | succ d ih =>
    have e : m + (d + 1 + 1) = m + (d + 1) + 1 := by omega
    rw [e]
    show (if S (m + (d + 1)) then put (runs S (m + (d + 1))) ((m + (d + 1) : Nat) : Int) else runs S (m + (d + 1))) = _
    rw [if_pos (h1 _ (by omega) (by omega)), ih (fun k h2 h3 => h1 k h2 (by omega)), put_snoc]
    simp
section
variable {a b : List (Int × Int)} {x : Int × Int} {i j i' j' : Nat} {f : Int} {L : List (Int × Int)} {p : Int × Int} {ok : Bool}
/-- up to the next span, no tick is taken -/
theorem Along.free (h : Along a b x i j f L) (oa : InOrd a) (ob : InOrd b) (s : Step a b i j p ok i' j') (k : Nat) (h1 : f ≤ (k : Int)) (h2 : ok = true → (k : Int) < p.1) : tk a k = false ∧ tk b k = false := by
  constructor
  · cases hk : tk a k
    · rfl
    · exfalso
      obtain ⟨q, hq, h3, h4⟩ := (oa.tick k).1 hk
      by_cases hqi : q < i
      · have := h.da q hq hqi; omega
      · have h5 := oa.later (show i ≤ q by omega) hq
        cases s with
        | left hi hh => have := h2 rfl; omega
        | right hj hh =>
          have := h2 rfl
          rcases hh with hh | ⟨hi, hh⟩ <;> omega
        | done hi hj => omega
  · cases hk : tk b k
    · rfl
    · exfalso
      obtain ⟨q, hq, h3, h4⟩ := (ob.tick k).1 hk
      by_cases hqi : q < j
      · have := h.db q hq hqi; omega
      · have h5 := ob.later (show j ≤ q by omega) hq
        cases s with
        | left hi hh =>
          have := h2 rfl
          rcases hh with hh | ⟨hj, hh⟩ <;> omega
        | right hj hh => have := h2 rfl; omega
        | done hi hj => omega
theorem Step.mem (s : Step a b i j p true i' j') : p ∈ a ∨ p ∈ b := by
  cases s with
  | left hi hh => exact .inl (List.getElem_mem hi)
  | right hj hh => exact .inr (List.getElem_mem hj)
theorem Step.valid (s : Step a b i j p true i' j') (oa : InOrd a) (ob : InOrd b) : 0 ≤ p.1 ∧ p.1 < p.2 ∧ p.2 ≤ 1000 := by
  rcases s.mem with h | h
  · exact oa.ok p h
  · exact ob.ok p h
/-- a tick of the span is taken -/
theorem Step.taken (s : Step a b i j p true i' j') (oa : InOrd a) (ob : InOrd b) (k : Nat) (h1 : p.1 ≤ (k : Int)) (h2 : (k : Int) < p.2) : leftK a b x k = false := by
  unfold leftK
  rcases s.mem with h | h
  · obtain ⟨q, hq, rfl⟩ := List.getElem_of_mem h
    rw [(oa.tick k).2 ⟨q, hq, h1, h2⟩]; simp
  · obtain ⟨q, hq, rfl⟩ := List.getElem_of_mem h
    rw [(ob.tick k).2 ⟨q, hq, h1, h2⟩]; simp
theorem Step.sum (s : Step a b i j p true i' j') : i' + j' = i + j + 1 := by cases s <;> omega
theorem leftK_true (hx : 0 ≤ x.1 ∧ x.2 ≤ 1000) (k : Nat) (h1 : x.1 ≤ (k : Int)) (h2 : (k : Int) < x.2) (h3 : tk a k = false ∧ tk b k = false) : leftK a b x k = true := by
  unfold leftK
  rw [h3.1, h3.2, (inS_iff x k).2 ⟨by omega, h1, h2⟩]; rfl
theorem leftK_out (k : Nat) (h : (k : Int) < x.1 ∨ x.2 ≤ (k : Int)) : leftK a b x k = false := by
  unfold leftK
  have e : inS x k = false := by
    cases hh : inS x k
    · rfl
    · have := (inS_iff x k).1 hh; omega
  rw [e]; rfl
theorem along_start (hx : 0 ≤ x.1 ∧ x.1 < x.2 ∧ x.2 ≤ 1000) : Along a b x 0 0 x.1 [] := by
  refine ⟨Nat.zero_le _, Nat.zero_le _, Int.le_refl _, by omega, fun k _ h => by omega, fun k _ h => by omega, ?_, fun k h => leftK_out k (by omega)⟩
  rw [runs_more _ 0 x.1.toNat (Nat.zero_le _) fun k _ h => leftK_out k (by omega)]
  rfl
/-- all of the rest is left -/
theorem Along.rest (h : Along a b x i j f L) (oa : InOrd a) (ob : InOrd b) (hx : 0 ≤ x.1 ∧ x.2 ≤ 1000) (s : Step a b i j p ok i' j') (hf : f < x.2) (hp : ok = true → x.2 ≤ p.1) : L ++ [(f, x.2)] = runs (leftK a b x) 1000 := by
  have hlo := h.lo
  have h1 : runs (leftK a b x) 1000 = runs (leftK a b x) x.2.toNat := runs_more _ _ _ (by omega) fun k h2 _ => leftK_out k (by omega)
  obtain ⟨m, rfl⟩ : ∃ m : Nat, f = m := ⟨f.toNat, by omega⟩
  obtain ⟨d, hd⟩ : ∃ d : Nat, x.2 = ((m + (d + 1) : Nat) : Int) := ⟨(x.2 - m).toNat - 1, by omega⟩
  rw [h1, hd, Int.toNat_natCast, runs_fill _ m d (fun k hk => h.stop k (by omega)) (fun k h2 h3 => leftK_true hx k (by omega) (by omega) (h.free oa ob s k (by omega) fun e => by have := hp e; omega))]
  rw [h.left, Int.toNat_natCast]
/-- nothing more is left -/
theorem Along.over (h : Along a b x i j f L) (hx : 0 ≤ x.1) (hf : x.2 ≤ f) : L = runs (leftK a b x) 1000 := by
  have hlo := h.lo; have htop := h.top
  rw [h.left]
  exact (runs_more _ _ _ (by omega) fun k h2 _ => leftK_out k (by omega)).symm
/-- one round -/
theorem Along.next (h : Along a b x i j f L) (oa : InOrd a) (ob : InOrd b) (hx : 0 ≤ x.1 ∧ x.2 ≤ 1000) (s : Step a b i j p true i' j') (hf : f < x.2) (hp : p.1 < x.2) :
    Along a b x i' j' (mxf f p.2) (if f < p.1 then L ++ [(f, p.1)] else L) := by
  have hv := s.valid oa ob
  have hlo := h.lo; have htop := h.top
  have hm : mxf f p.2 = if f < p.2 then p.2 else f := rfl
  have hge : f ≤ mxf f p.2 ∧ p.2 ≤ mxf f p.2 ∧ mxf f p.2 ≤ 1000 := by rw [hm]; split <;> omega
  have hi : i' ≤ a.length ∧ j' ≤ b.length ∧ (∀ k, ∀ h : k < a.length, k < i' → a[k].2 ≤ mxf f p.2) ∧ (∀ k, ∀ h : k < b.length, k < j' → b[k].2 ≤ mxf f p.2) := by
    cases s with
    | left hi hh =>
      refine ⟨hi, h.jb, fun k hk hki => ?_, fun k hk hkj => by have := h.db k hk hkj; omega⟩
      by_cases e : k = i
      · subst e; omega
      · have := h.da k hk (by omega); omega
    | right hj hh =>
      refine ⟨h.ia, hj, fun k hk hki => by have := h.da k hk hki; omega, fun k hk hkj => ?_⟩
      by_cases e : k = j
      · subst e; omega
      · have := h.db k hk (by omega); omega
  refine ⟨hi.1, hi.2.1, by omega, hge.2.2, hi.2.2.1, hi.2.2.2, ?_, fun k hk => ?_⟩
  · have hR : (if f < p.1 then L ++ [(f, p.1)] else L) = runs (leftK a b x) (if f < p.1 then p.1 else f).toNat := by
      by_cases hfp : f < p.1
      · rw [if_pos hfp, if_pos hfp]
        obtain ⟨m, rfl⟩ : ∃ m : Nat, f = m := ⟨f.toNat, by omega⟩
        obtain ⟨d, hd⟩ : ∃ d : Nat, p.1 = ((m + (d + 1) : Nat) : Int) := ⟨(p.1 - m).toNat - 1, by omega⟩
        rw [hd, Int.toNat_natCast, runs_fill _ m d (fun k hk => h.stop k (by omega)) (fun k h2 h3 => leftK_true hx k (by omega) (by omega) (h.free oa ob s k (by omega) fun e => by omega)), h.left, Int.toNat_natCast]
      · rw [if_neg hfp, if_neg hfp]; exact h.left
    rw [hR]
    refine (runs_more _ _ _ ?_ fun k h2 h3 => s.taken oa ob k ?_ ?_).symm
    · rw [hm]; split <;> split <;> omega
    · split at h2 <;> omega
    · rw [hm] at h3; split at h2 <;> split at h3 <;> omega
  · by_cases hfp : f < p.2
    · rw [hm, if_pos hfp] at hk
      exact s.taken oa ob k (by omega) (by omega)
    · rw [hm, if_neg hfp] at hk
      exact h.stop k hk
end
/-- what is left of a contact, as that walk finds it -/
theorem leftK_cut (cl : List Tri) (x : Sat4) : runs (leftK (cloudS cl x.p) (cloudS cl x.h) (conS x)) 1000 = cutC cl x := by
  rw [cutC_eq]
  congr 1
  funext k
  unfold leftK cutK
  rw [tk_cut, tk_one]
theorem inOrd_cloud (cl : List Tri) (v : Int) : InOrd (cloudS cl v) := inOrd_runs _
theorem cloudS_len (cl : List Tri) (v : Int) : (cloudS cl v).length ≤ 1000 := runs_len _ _
theorem cutX_bad (cl : List Tri) (x : Sat4) (h : isS (conS x) = false) : cutX cl x = [] := by
  have e : cutC cl x = [] := by
    rw [← leftK_cut, runs_more _ 0 1000 (Nat.zero_le _) fun k _ _ => ?_]
    · rfl
    · unfold leftK
      have e : inS (conS x) k = false := by
        cases hh : inS (conS x) k
        · rfl
        · rw [(isS_iff _).2 ((inS_iff _ _).1 hh).1] at h; cases h
      rw [e]; rfl
  unfold cutX
  rw [e]; rfl
end Go.Proofs.Ytmmnnbgfomcihaa
