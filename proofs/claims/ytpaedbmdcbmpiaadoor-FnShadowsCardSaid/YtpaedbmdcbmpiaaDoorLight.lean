/- A run-length list of light in plain words: what its runs say of each tick, the spans that it gives, and its longest dark run. -/
import Derived.Test.YtpaedbmdcbmpiaaDoorSpans
namespace Go.Proofs.YtpaedbmdcbmpiaaDoor
set_option linter.unusedVariables false
/-- the sum of the first k runs -/
def rsum (rs : List Nat) (k : Nat) : Nat := (rs.take k).sum
theorem rsum_zero (rs : List Nat) : rsum rs 0 = 0 := rfl
theorem rsum_succ (rs : List Nat) (k : Nat) (h : k < rs.length) : rsum rs (k + 1) = rsum rs k + rs[k] := by
  unfold rsum
  rw [List.take_succ_eq_append_getElem h, List.sum_append]
  simp
theorem rsum_snoc (rs : List Nat) (r k : Nat) (h : k ≤ rs.length) : rsum (rs ++ [r]) k = rsum rs k := by
  unfold rsum; rw [List.take_append_of_le_length h]
theorem rsum_all (rs : List Nat) (r : Nat) : rsum (rs ++ [r]) (rs.length + 1) = rsum rs rs.length + r := by
  have h : rs.length < (rs ++ [r]).length := by simp
  rw [rsum_succ _ _ h, rsum_snoc rs r _ (Nat.le_refl _)]
  simp
theorem rsum_mono (rs : List Nat) (k m : Nat) (h : k ≤ m) (hm : m ≤ rs.length) : rsum rs k ≤ rsum rs m := by
  induction m with
  | zero => rw [show k = 0 by omega]; exact Nat.le_refl _
  | succ m ih =>
    rcases Nat.lt_or_ge k (m + 1) with hk | hk
    · rw [rsum_succ rs m (by omega)]
      have := ih (by omega) (by omega); omega
    · rw [show k = m + 1 by omega]; exact Nat.le_refl _
/-- the runs from lo on: of even places where L holds, of odd places where it does not -/
def LR (L : Int → Bool) (lo : Int) (rs : List Nat) : Prop :=
  ∀ k (hk : k < rs.length) (t : Int), lo + rsum rs k ≤ t → t < lo + rsum rs k + rs[k] → L t = decide (k % 2 = 0)
theorem LR.nil (L : Int → Bool) (lo : Int) : LR L lo [] := fun k hk => by simp at hk
theorem LR.snoc {L : Int → Bool} {lo : Int} {rs : List Nat} (h : LR L lo rs) (r : Nat) (hr : ∀ t : Int, lo + rsum rs rs.length ≤ t → t < lo + rsum rs rs.length + r → L t = decide (rs.length % 2 = 0)) : LR L lo (rs ++ [r]) := by
  intro k hk t h0 h1
  rw [List.length_append, List.length_singleton] at hk
  rcases Nat.lt_or_ge k rs.length with hl | hg
  · rw [rsum_snoc rs r k (by omega)] at h0 h1
    rw [List.getElem_append_left hl] at h1
    exact h k hl t h0 h1
  · obtain rfl : k = rs.length := by omega
    rw [rsum_snoc rs r _ (Nat.le_refl _)] at h0 h1
    simp at h1
    exact hr t h0 h1
/-- the spans of the first k runs that are of a kind -/
def spK (lo kind : Int) (rs : List Nat) : Nat → List (Int × Int)
  | 0 => []
  | k + 1 => if ((k % 2 : Nat) : Int) = kind ∧ 0 < rs.getD k 0 then spK lo kind rs k ++ [(lo + (rsum rs k : Int), lo + (rsum rs k : Int) + (rs.getD k 0 : Nat))] else spK lo kind rs k
theorem spK_len (lo kind : Int) (rs : List Nat) (k : Nat) : (spK lo kind rs k).length ≤ k := by
  induction k with
  | zero => exact Nat.le_refl _
  | succ k ih =>
    unfold spK; split
    · rw [List.length_append]; simp; omega
    · omega
theorem spK_has (L : Int → Bool) (lo kind : Int) (rs : List Nat) (h : LR L lo rs) (h0 : 0 ≤ lo) (h1 : rs = [] ∨ lo + (rsum rs rs.length : Int) ≤ 1000) (hk2 : kind = 0 ∨ kind = 1) (k : Nat) (hk : k ≤ rs.length) (t : Int) :
    inL (spK lo kind rs k) t = decide ((lo ≤ t ∧ t < lo + (rsum rs k : Int)) ∧ L t = decide (kind = 0)) := by
  induction k with
  | zero => rw [rsum_zero]; simp [spK, inL]; omega
  | succ k ih =>
    have ih := ih (by omega)
    have hkl : k < rs.length := by omega
    have hne : ¬ rs = [] := fun e => by rw [e] at hkl; simp at hkl
    have h1' := h1.resolve_left hne
    have hm := rsum_mono rs (k + 1) rs.length hk (Nat.le_refl _)
    have hs := rsum_succ rs k hkl
    have hg : rs.getD k 0 = rs[k] := by simp [List.getD, List.getElem?_eq_getElem hkl]
    have hL := h k hkl
    obtain ⟨r, hr⟩ : ∃ r, r = rs[k] := ⟨_, rfl⟩
    obtain ⟨s, hs'⟩ : ∃ s, s = rsum rs k := ⟨_, rfl⟩
    rw [← hr] at hs hg hL
    rw [← hs'] at hs ih hL
    have hp : ((k % 2 : Nat) : Int) = kind ↔ decide (k % 2 = 0) = decide (kind = 0) := by
      rcases hk2 with rfl | rfl
      · simp; omega
      · simp; omega
    unfold spK
    rw [hg, ← hs', hs]
    by_cases hc : ((k % 2 : Nat) : Int) = kind ∧ 0 < r
    · rw [if_pos hc, inL_snoc, ih]
      have e : inS (lo + (s : Int), lo + (s : Int) + (r : Nat)) t = decide (lo + (s : Int) ≤ t ∧ t < lo + (s : Int) + r) := by
        unfold inS; exact decide_eq_decide.2 ⟨fun h => h.2, fun h => ⟨⟨by show 0 ≤ lo + (s : Int); omega, by show lo + (s : Int) + (r : Nat) ≤ 1000; omega, by show lo + (s : Int) < lo + (s : Int) + (r : Nat); omega⟩, h⟩⟩
      rw [e, ← Bool.decide_or]
      refine decide_eq_decide.2 ⟨fun h => ?_, fun h => ?_⟩
      · rcases h with h | h
        · exact ⟨⟨h.1.1, by omega⟩, h.2⟩
        · exact ⟨⟨by omega, by omega⟩, (hL t h.1 h.2).trans (hp.1 hc.1)⟩
      · rcases Int.lt_or_le t (lo + (s : Int)) with h2 | h2
        · exact .inl ⟨⟨h.1.1, h2⟩, h.2⟩
        · exact .inr ⟨h2, by omega⟩
    · rw [if_neg hc, ih]
      refine decide_eq_decide.2 ⟨fun h => ⟨⟨h.1.1, by omega⟩, h.2⟩, fun h => ⟨⟨h.1.1, ?_⟩, h.2⟩⟩
      rcases Int.lt_or_le t (lo + (s : Int)) with h2 | h2
      · exact h2
      · exfalso
        have e := hL t h2 (by omega)
        rw [h.2] at e
        exact hc ⟨hp.2 e.symm, by omega⟩
/-- a number of ticks that one dark run has, or 0 -/
def DarkRun (L : Int → Bool) (lo hi : Int) (m : Nat) : Prop := m = 0 ∨ ∃ a : Int, lo ≤ a ∧ a + m ≤ hi ∧ ∀ t, a ≤ t → t < a + m → L t = false
theorem LR.dark {L : Int → Bool} {lo : Int} {rs : List Nat} (h : LR L lo rs) (k : Nat) (hk : k < rs.length) (h2 : k % 2 = 1) : DarkRun L lo (lo + (rsum rs rs.length : Int)) rs[k] := by
  have hs := rsum_succ rs k hk
  have hm := rsum_mono rs (k + 1) rs.length (by omega) (Nat.le_refl _)
  refine .inr ⟨lo + rsum rs k, by omega, by omega, fun t h0 h1 => ?_⟩
  rw [h k hk t h0 h1]; simp; omega
theorem cnt_full (S : Nat → Bool) (a n : Nat) (h : ∀ k, a ≤ k → k < a + n → S k = true) : cnt S a n = n := by
  induction n generalizing a with
  | zero => rfl
  | succ n ih =>
    show (S a).toNat + cnt S (a + 1) n = n + 1
    rw [ih (a + 1) (fun k h0 h1 => h k (by omega) (by omega)), h a (Nat.le_refl _) (by omega)]
    simp; omega
/-- the longest dark run has at most the ticks of the dark spans -/
theorem DarkRun.le {L : Int → Bool} {lo hi : Int} {m : Nat} (h : DarkRun L lo hi m) (h0 : 0 ≤ lo) (h1 : hi ≤ 1000) (l : List (Int × Int)) (hl : ∀ t, lo ≤ t → t < hi → L t = false → inL l t = true) : (m : Int) ≤ ticksOf l := by
  rcases h with rfl | ⟨a, ha, hb, hd⟩
  · exact (ticks_bd l).1
  · obtain ⟨a, rfl⟩ := Int.eq_ofNat_of_zero_le (show 0 ≤ a by omega)
    unfold ticksOf
    have e1 : cnt (tk l) 0 1000 = cnt (tk l) 0 a + cnt (tk l) a (1000 - a) := by
      have := cnt_app (tk l) 0 a (1000 - a)
      rw [show a + (1000 - a) = 1000 by omega, Nat.zero_add] at this; exact this
    have e2 : cnt (tk l) a (1000 - a) = cnt (tk l) a m + cnt (tk l) (a + m) (1000 - a - m) := by
      have := cnt_app (tk l) a m (1000 - a - m)
      rw [show m + (1000 - a - m) = 1000 - a by omega] at this; exact this
    have e3 : cnt (tk l) a m = m := cnt_full _ _ _ fun k k0 k1 => hl (k : Int) (by omega) (by omega) (hd (k : Int) (by omega) (by omega))
    omega
end Go.Proofs.YtpaedbmdcbmpiaaDoor
