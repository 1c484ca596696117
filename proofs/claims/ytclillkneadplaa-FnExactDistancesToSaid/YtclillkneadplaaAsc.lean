/- ascendingOnce of the program. -/
import Derived.Test.YtclillkneadplaaAscFacts
import Derived.Test.YtclillkneadplaaSpans
import Derived.Test.YtclillkneadplaaSpan
import Derived.Test.YtclillkneadplaaApart
import Derived.Test.YtclillkneadplaaChecked
namespace Go.Proofs.Ytclillkneadplaa
open Go.ChangeShapes Go.WideShapes Go.ChangeAt Go.RowKit
set_option linter.unusedVariables false
set_option maxRecDepth 100000 in
set_option maxHeartbeats 1000000 in
theorem iasc (w : World) (B : Nat) (A : Option Addr) (n c : Nat) (l : List Int) (h : Own w B 3 1 A n c (iv l)) (hn : n ≤ 1000000000) :
    Calls Try.prog 41 #[.slice A n c] w fun e w' => e = .returned (.slice A (ascOf l).length (ascOf l).length) ∧ Own w' B 3 1 A (ascOf l).length c (iv (ascOf l)) ∧ w.grownBy w' (Value.slice A n c).ownBlock := by
  obtain rfl : n = l.length := by have h1 := h.len; rw [iv_len] at h1; omega
  have hcap := h.capm
  by_cases h0 : l.length = 0
  case pos =>
    obtain rfl : l = [] := List.eq_nil_of_length_eq_zero h0
    have ha : ascOf [] = [] := by simp [ascOf, Lib.compact, Lib.compactUpTo]
    rw [ha]
    have HO := Lib.hid h
    clear h h0 ha
    go_enter Try.func41, Try.ntmps41
    go_wp2_with fail
    refine (Try.slices_Sort_int_none A c w).mono ?_
    rintro e w1 ⟨rfl, rfl⟩
    go_wp2_with fail
    refine (Try.slices_Compact_int_empty A c w1).mono ?_
    rintro e w2 ⟨rfl, rfl⟩
    go_wp2_with fail
    go_ret
    exact ⟨rfl, HO.out, World.grownBy.refl _ _⟩
  case neg =>
    rcases h.form with ⟨_, e, _⟩ | ⟨g, rfl, hBg, hgl, _⟩
    · exact absurd e h0
    · have HH := Lib.hid (own_holds h)
      obtain ⟨zs, hzs⟩ : ∃ zs, zs = l.mergeSort fun x y => decide (x ≤ y) := ⟨_, rfl⟩
      have hzl : zs.length = l.length := by rw [hzs]; exact List.length_mergeSort l
      have hcl : (Lib.compact zs).length ≤ zs.length := by have := asc_len l; unfold ascOf at this; rw [← hzs] at this; omega
      obtain ⟨ys, hys⟩ : ∃ ys, ys = Lib.compact zs := ⟨_, rfl⟩
      have hya : ascOf l = ys := by rw [hys, hzs]; rfl
      rw [hya]
      rw [← hys] at hcl
      obtain ⟨m, hm⟩ : ∃ m, m = ys.length := ⟨_, rfl⟩
      have HO := Lib.hid h; have HZ := Lib.hid hzl; have HZS := Lib.hid hzs
      have hml : m ≤ l.length := by omega
      have HYS := Lib.hid hys; have HM := Lib.hid hm; have HCL := Lib.hid hcl
      rw [← hm]
      clear h hya hcl hzl hzs hys hm
      go_enter Try.func41, Try.ntmps41
      go_wp2_with fail
      refine (Try.slices_Sort_int g 0 c l w HH.out hgl (by omega)).mono ?_
      rintro e w1 ⟨rfl, q, os, hw1⟩
      have hp := own_put HO.out q zs HZ.out os
      rw [← HZS.out] at hw1
      rw [← hw1] at hp
      have HO1 := Lib.hid hp.1; have HG1 := Lib.hid hp.2
      have hc := Try.slices_Compact_int g 0 c zs w1 (own_holds (by rw [HZ.out]; exact HO1.out)) (by have := HZ.out; omega) (by have := HZ.out; omega)
      rw [HZ.out, ← HYS.out, ← HM.out] at hc
      clear hw1 hp
      go_wp2_with fail
      refine hc.mono ?_
      clear hc
      rintro e w2 ⟨rfl, q2, hw2⟩
      have hp := own_put HO1.out q2 (ys ++ List.replicate (l.length - m) 0) (by rw [List.length_append, List.length_replicate, ← HM.out]; omega) #[]
      rw [Sort.grow_empty, ← hw2] at hp
      have hO2 := hp.1.shrink hml
      rw [iv_app, HM.out, ← iv_len ys, List.take_left, iv_len ys, ← HM.out] at hO2
      have HO2 := Lib.hid hO2; have HG2 := Lib.hid (HG1.out.trans hp.2)
      clear hw2 hp hO2
      go_wp2_with fail
      go_ret
      exact ⟨rfl, HO2.out, HG2.out⟩
end Go.Proofs.Ytclillkneadplaa
