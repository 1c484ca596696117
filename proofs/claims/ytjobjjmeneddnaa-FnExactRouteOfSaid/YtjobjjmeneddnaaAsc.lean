/- A list sorted and without doubles; the library's words on rows against a slice of one's own. No program. ascendingOnce of the program. -/
import Derived.Test.YtjobjjmeneddnaaSlices
import Derived.Test.YtjobjjmeneddnaaShelf
import Derived.Test.YtjobjjmeneddnaaSpans
import Derived.Test.YtjobjjmeneddnaaSpan
import Derived.Test.YtjobjjmeneddnaaApart
import Derived.Test.YtjobjjmeneddnaaChecked
namespace Go.Proofs.Ytjobjjmeneddnaa
open Go.RowKit Go.Sort
set_option linter.unusedVariables false
/-- sorted, each once -/
def ascOf (l : List Int) : List Int := Lib.compact (l.mergeSort fun x y => decide (x ≤ y))
theorem compact_spec (zs : List Int) (hs : zs.Pairwise (· ≤ ·)) : (Lib.compact zs).Pairwise (· < ·) ∧ ∀ x, x ∈ Lib.compact zs ↔ x ∈ zs := by
  have hget : ∀ j, j < zs.length → zs.toArray[j]! = zs.getD j 0 := fun j hj => by simp [hj, List.getD]
  have hle : ∀ i j, i ≤ j → j < zs.length → zs.toArray[i]! ≤ zs.toArray[j]! := fun i j hij hj => by
    rcases Nat.lt_or_eq_of_le hij with h | rfl
    · rw [hget i (by omega), hget j hj]
      have := List.pairwise_iff_getElem.1 hs i j (by omega) hj h
      simpa [List.getD, hj, show i < zs.length by omega] using this
    · exact Int.le_refl _
  have key : ∀ m, m ≤ zs.length → (Lib.compactUpTo zs.toArray m).Pairwise (· < ·) ∧ ∀ x, x ∈ Lib.compactUpTo zs.toArray m ↔ ∃ j, j < m ∧ zs.toArray[j]! = x := by
    intro m
    induction m with
    | zero => intro _; exact ⟨by simp [Lib.compactUpTo], fun x => by simp [Lib.compactUpTo]⟩
    | succ m ih =>
      intro hm
      obtain ⟨h1, h2⟩ := ih (by omega)
      rw [Lib.compactUpTo_succ]
      by_cases hk : Lib.keeps zs.toArray m = true
      · rw [if_pos hk]
        have hk2 : m = 0 ∨ zs.toArray[m]! ≠ zs.toArray[m - 1]! := by
          unfold Lib.keeps at hk; exact of_decide_eq_true hk
        refine ⟨List.pairwise_append.2 ⟨h1, by simp, fun a ha b hb => ?_⟩, fun x => ?_⟩
        · obtain rfl := List.mem_singleton.1 hb
          obtain ⟨j, hj, rfl⟩ := (h2 a).1 ha
          have a1 := hle j (m - 1) (by omega) (by omega)
          have a2 := hle (m - 1) m (by omega) (by omega)
          rcases hk2 with h | h <;> omega
        · rw [List.mem_append, h2, List.mem_singleton]
          constructor
          · rintro (⟨j, hj, e⟩ | e)
            · exact ⟨j, by omega, e⟩
            · exact ⟨m, by omega, e.symm⟩
          · rintro ⟨j, hj, e⟩
            by_cases hjm : j = m
            · subst hjm; exact .inr e.symm
            · exact .inl ⟨j, by omega, e⟩
      · rw [if_neg hk, List.append_nil]
        have hk2 : m ≠ 0 ∧ zs.toArray[m]! = zs.toArray[m - 1]! := by
          unfold Lib.keeps at hk
          have h3 := fun h => hk (decide_eq_true h)
          exact ⟨fun e => h3 (.inl e), Classical.byContradiction fun e => h3 (.inr e)⟩
        refine ⟨h1, fun x => ?_⟩
        rw [h2]
        constructor
        · rintro ⟨j, hj, e⟩; exact ⟨j, by omega, e⟩
        · rintro ⟨j, hj, e⟩
          by_cases hjm : j = m
          · subst hjm; exact ⟨j - 1, by omega, by rw [← hk2.2]; exact e⟩
          · exact ⟨j, by omega, e⟩
  obtain ⟨h1, h2⟩ := key zs.length (Nat.le_refl _)
  refine ⟨h1, fun x => ?_⟩
  unfold Lib.compact
  rw [h2, List.mem_iff_getElem]
  constructor
  · rintro ⟨j, hj, e⟩; exact ⟨j, hj, by rw [← e, hget j hj]; simp [List.getD, hj]⟩
  · rintro ⟨j, hj, e⟩; exact ⟨j, hj, by rw [← e, hget j hj]; simp [List.getD, hj]⟩
theorem sort_le (l : List Int) : (l.mergeSort fun x y => decide (x ≤ y)).Pairwise (· ≤ ·) := by
  have h := List.pairwise_mergeSort (le := fun x y : Int => decide (x ≤ y)) (fun a b c h1 h2 => by simp at *; omega) (fun a b => by simp; omega) l
  exact h.imp fun h => by simpa using h
theorem asc_lt (l : List Int) : (ascOf l).Pairwise (· < ·) := (compact_spec _ (sort_le l)).1
theorem mem_asc (l : List Int) (x : Int) : x ∈ ascOf l ↔ x ∈ l := by
  unfold ascOf
  rw [(compact_spec _ (sort_le l)).2, List.mem_mergeSort]
theorem asc_len (l : List Int) : (ascOf l).length ≤ l.length := by
  unfold ascOf Lib.compact Lib.compactUpTo
  rw [List.length_map]
  refine Nat.le_trans (List.length_filter_le _ _) ?_
  simp
section
variable {w : World} {B n c g : Nat} {E : TypeId} {l : List Int}
theorem own_holds (h : Own w B E 1 (some ⟨g, 0, none⟩) l.length c (iv l)) : Holds (Value.int .i64) w g 0 l.toArray := by
  intro j hj
  have hj' : j < l.length := by simpa using hj
  refine ⟨?_, ?_⟩
  · have h1 := h.row.cells (g := g) rfl j (.int .i64 l[j]) (by simp [iv, hj'])
    have e : (⟨g, 0, none⟩ : Addr).add j = ⟨g, 0 + j, none⟩ := by unfold Addr.add; split <;> simp_all
    rw [e] at h1
    rw [h1]; simp [hj']
  · rcases h.row.2 with ⟨hv, _⟩ | ⟨g', cap, cur, hv, hb, hg, _⟩
    · simp at hv
    · simp at hv
      obtain ⟨rfl, _⟩ := hv
      simp [World.frozen?, hg]
theorem own_put {xs : List Value} (h : Own w B E 1 (some ⟨g, 0, none⟩) n c xs) (q : Nat) (zs : List Int) (hz : zs.length = n) (os : Array Obj) :
    Own (grow (putRow (Value.int .i64) (Sort.ahead w q) g 0 zs.toArray) os) B E 1 (some ⟨g, 0, none⟩) n c (iv zs) ∧ w.grownBy (grow (putRow (Value.int .i64) (Sort.ahead w q) g 0 zs.toArray) os) (some g) := by
  rcases h.row.2 with ⟨hv, _⟩ | ⟨g', cap, cur, hv, hb, hg, hn, hm, hsz, htk⟩
  · simp at hv
  · simp at hv
    obtain ⟨rfl, rfl⟩ := hv
    have hgl : g < w.heap.size := (Array.getElem?_eq_some_iff.1 hg).1
    have hcell : (grow (putRow (Value.int .i64) (Sort.ahead w q) g 0 zs.toArray) os).heap[g]? = some (.cells (putCells (Value.int .i64) 0 zs.toArray cur) E (0, 0)) := by
      rw [heap_grow_old _ _ (by simpa using hgl)]
      simp only [putRow, mapBlock, Sort.heap_ahead]
      rw [Array.getElem?_modify, if_pos rfl, hg]
      rfl
    refine ⟨⟨by rw [iv_len, hz, Nat.mul_one], .inr ⟨g, c, _, rfl, hb, hcell, hn, hm, by simp [putCells]; omega, ?_⟩⟩, ⟨rfl, rfl, rfl, by simp, fun k hk hne => ?_⟩⟩
    · apply List.ext_getElem?
      intro k
      rw [List.getElem?_take]
      by_cases hk : k < n * 1
      · rw [if_pos hk]
        have hkn : k < zs.length := by omega
        have hkc : k < cur.size := by omega
        simp [putCells, hkc, hkn, iv]
      · rw [if_neg hk, List.getElem?_eq_none (by rw [iv_len]; omega)]
    · rw [heap_grow_old _ _ (by simpa using hk)]
      simp only [putRow, mapBlock, Sort.heap_ahead]
      rw [Array.getElem?_modify, if_neg (fun e => hne (by rw [e]))]
theorem Own.shrink {A : Option Addr} {xs : List Value} (h : Own w B E 1 A n c xs) {m : Nat} (hm : m ≤ n) : Own w B E 1 A m c (xs.take m) := by
  have hl := h.len
  refine ⟨by rw [List.length_take]; omega, ?_⟩
  rcases h.row.2 with ⟨hv, hn⟩ | ⟨g', cap, cur, hv, hb, hg, hn, hm', hsz, htk⟩
  · simp at hv
    obtain ⟨rfl, rfl, rfl⟩ := hv
    have : m = 0 := by omega
    subst this
    exact .inl ⟨rfl, rfl⟩
  · simp at hv
    obtain ⟨rfl, rfl⟩ := hv
    refine .inr ⟨g', c, cur, rfl, hb, hg, by omega, hm', hsz, ?_⟩
    rw [← htk, List.take_take]
    congr 1
    omega
end
end Go.Proofs.Ytjobjjmeneddnaa
namespace Go.Proofs.Ytjobjjmeneddnaa
open Go.ChangeShapes Go.WideShapes Go.ChangeAt Go.RowKit
set_option linter.unusedVariables false
set_option maxRecDepth 100000 in
set_option maxHeartbeats 1000000 in
theorem iasc (w : World) (B : Nat) (A : Option Addr) (n c : Nat) (l : List Int) (h : Own w B 3 1 A n c (iv l)) (hn : n ≤ 1000000000) :
    Calls Try.prog 84 #[.slice A n c] w fun e w' => e = .returned (.slice A (ascOf l).length (ascOf l).length) ∧ Own w' B 3 1 A (ascOf l).length c (iv (ascOf l)) ∧ w.grownBy w' (Value.slice A n c).ownBlock := by
  obtain rfl : n = l.length := by have h1 := h.len; rw [iv_len] at h1; omega
  have hcap := h.capm
  by_cases h0 : l.length = 0
  case pos =>
    obtain rfl : l = [] := List.eq_nil_of_length_eq_zero h0
    have ha : ascOf [] = [] := by simp [ascOf, Lib.compact, Lib.compactUpTo]
    rw [ha]
    have HO := Lib.hid h
    clear h h0 ha
    go_enter Try.func84, Try.ntmps84
    go_wp2_with fail
    refine (Try.slices_Sort_int_none A c w).mono ?_
    rintro e w1 ⟨rfl, rfl⟩
    go_wp2_with fail
    refine (Try.slices_Compact_int_empty A c w1).mono ?_
    rintro e w2 ⟨rfl, rfl⟩
    go_wp2_with fail
    go_ret
    exact ⟨rfl, HO.out, World.grownBy.refl _ _⟩
  case neg =>
    rcases h.form with ⟨_, e, _⟩ | ⟨g, rfl, hBg, hgl, _⟩
    · exact absurd e h0
    · have HH := Lib.hid (own_holds h)
      obtain ⟨zs, hzs⟩ : ∃ zs, zs = l.mergeSort fun x y => decide (x ≤ y) := ⟨_, rfl⟩
      have hzl : zs.length = l.length := by rw [hzs]; exact List.length_mergeSort l
      have hcl : (Lib.compact zs).length ≤ zs.length := by have := asc_len l; unfold ascOf at this; rw [← hzs] at this; omega
      obtain ⟨ys, hys⟩ : ∃ ys, ys = Lib.compact zs := ⟨_, rfl⟩
      have hya : ascOf l = ys := by rw [hys, hzs]; rfl
      rw [hya]
      rw [← hys] at hcl
      obtain ⟨m, hm⟩ : ∃ m, m = ys.length := ⟨_, rfl⟩
      have HO := Lib.hid h; have HZ := Lib.hid hzl; have HZS := Lib.hid hzs
      have hml : m ≤ l.length := by omega
      have HYS := Lib.hid hys; have HM := Lib.hid hm; have HCL := Lib.hid hcl
      rw [← hm]
      clear h hya hcl hzl hzs hys hm
      go_enter Try.func84, Try.ntmps84
      go_wp2_with fail
      refine (Try.slices_Sort_int g 0 c l w HH.out hgl (by omega)).mono ?_
      rintro e w1 ⟨rfl, q, os, hw1⟩
      have hp := own_put HO.out q zs HZ.out os
      rw [← HZS.out] at hw1
      rw [← hw1] at hp
      have HO1 := Lib.hid hp.1; have HG1 := Lib.hid hp.2
      have hc := Try.slices_Compact_int g 0 c zs w1 (own_holds (by rw [HZ.out]; exact HO1.out)) (by have := HZ.out; omega) (by have := HZ.out; omega)
      rw [HZ.out, ← HYS.out, ← HM.out] at hc
      clear hw1 hp
      go_wp2_with fail
      refine hc.mono ?_
      clear hc
      rintro e w2 ⟨rfl, q2, hw2⟩
      have hp := own_put HO1.out q2 (ys ++ List.replicate (l.length - m) 0) (by rw [List.length_append, List.length_replicate, ← HM.out]; omega) #[]
      rw [Sort.grow_empty, ← hw2] at hp
      have hO2 := hp.1.shrink hml
      rw [iv_app, HM.out, ← iv_len ys, List.take_left, iv_len ys, ← HM.out] at hO2
      have HO2 := Lib.hid hO2; have HG2 := Lib.hid (HG1.out.trans hp.2)
      clear hw2 hp hO2
      go_wp2_with fail
      go_ret
      exact ⟨rfl, HO2.out, HG2.out⟩
end Go.Proofs.Ytjobjjmeneddnaa
