/- The program's ticksWithin. -/
import Derived.Test.YtfnhfpahdgbfgaaNear
namespace Go.Proofs.Ytfnhfpahdgbfgaa
open Go.ChangeShapes Go.WideShapes Go.ChangeAt Go.RowKit
set_option linter.unusedVariables false
/-- how many are below x -/
def lowN (E : List Int) (x : Int) : Nat := E.countP (fun z => decide (z < x))
theorem lowN_le (E : List Int) (x : Int) : lowN E x ≤ E.length := List.countP_le_length
theorem lowN_mono (E : List Int) {x y : Int} (h : x ≤ y) : lowN E x ≤ lowN E y := by
  unfold lowN
  exact List.countP_mono_left fun z _ hz => by simp at hz ⊢; omega
theorem low_iff (E : List Int) (hE : E.Pairwise (· < ·)) (y : Int) (m : Nat) (hm : m < E.length) : E[m] < y ↔ m < lowN E y := by
  induction E generalizing m with
  | nil => simp at hm
  | cons z E ih =>
    rw [List.pairwise_cons] at hE
    unfold lowN
    rw [List.countP_cons]
    by_cases hz : z < y
    · rw [if_pos (by simpa using hz)]
      cases m with
      | zero => simp [hz]
      | succ m =>
        have := ih hE.2 m (by simpa using hm)
        unfold lowN at this
        rw [List.getElem_cons_succ, this]; omega
    · rw [if_neg (by simpa using hz)]
      have h0 : List.countP (fun z => decide (z < y)) E = 0 := List.countP_eq_zero.2 fun x hx => by
        have := hE.1 x hx
        simp; omega
      rw [h0]
      have hle : ∀ x ∈ z :: E, ¬ x < y := fun x hx => by
        rcases List.mem_cons.1 hx with rfl | hx
        · exact hz
        · have := hE.1 x hx; omega
      constructor
      · intro h; exact absurd h (hle _ (List.getElem_mem hm))
      · intro h; omega
/-- the elements from a to b - 1 -/
def wthn (E : List Int) (a b : Int) : List Int := E.filter fun x => decide (a ≤ x ∧ x < b)
theorem mem_wthn (E : List Int) (a b x : Int) : x ∈ wthn E a b ↔ x ∈ E ∧ a ≤ x ∧ x < b := by
  unfold wthn; rw [List.mem_filter, decide_eq_true_iff]
theorem wthn_asc (E : List Int) (hE : E.Pairwise (· < ·)) (a b : Int) : (wthn E a b).Pairwise (· < ·) := hE.filter _
theorem wthn_cut (E : List Int) (hE : E.Pairwise (· < ·)) (a b : Int) : (E.drop (lowN E a)).take (lowN E b - lowN E a) = wthn E a b := by
  refine asc_eq ((hE.drop).take) (wthn_asc E hE a b) fun x => ?_
  rw [mem_wthn, List.mem_iff_getElem]
  constructor
  · rintro ⟨m, hm, rfl⟩
    rw [List.length_take, List.length_drop] at hm
    rw [List.getElem_take, List.getElem_drop]
    have h1 := low_iff E hE a (lowN E a + m) (by omega)
    have h2 := low_iff E hE b (lowN E a + m) (by omega)
    exact ⟨List.getElem_mem _, by omega, h2.2 (by omega)⟩
  · rintro ⟨hx, h1, h2⟩
    obtain ⟨m, hm, rfl⟩ := List.mem_iff_getElem.1 hx
    have g1 := low_iff E hE a m hm
    have g2 := low_iff E hE b m hm
    refine ⟨m - lowN E a, by rw [List.length_take, List.length_drop]; omega, ?_⟩
    rw [List.getElem_take, List.getElem_drop]
    congr 1
    omega
theorem Own.shut {w w' : World} {D n c i j : Nat} {A : Option Addr} {E : List Int} (h : Sl w D 1 A n c (iv E)) (hE : E.Pairwise (· < ·)) (a b : Int) (hi : i = lowN E a) (hj : j = lowN E b) (hij : i ≤ j) (hn : E.length = n) : Sl w D 1 (A.map (fun x => x.add i)) (j - i) (j - i) (iv (wthn E a b)) := by
  have hjn : j ≤ n := by have := lowN_le E b; omega
  have e : iv (wthn E a b) = ((iv E).drop i).take (j - i) := by
    rw [← wthn_cut E hE a b, ← hi, ← hj]; simp [iv, List.map_take, List.map_drop]
  rw [e]
  refine ⟨by rw [List.length_take, List.length_drop, iv_len]; omega, (h.rd.cut i _ fun _ ad e => by rw [e]; rfl).take _, Nat.le_refl _, by have := h.cap; have := h.capm; omega, fun e => ?_⟩
  have h0 : A = none := by cases A with | none => rfl | some a => cases e
  have := h.nil h0
  have := h.cap
  omega
theorem isearch (w : World) (B : Nat) (A : Option Addr) (n c : Nat) (E : List Int) (h : OwnC w B 3 1 A n c (iv E)) (hE : E.Pairwise (· < ·)) (hn : n ≤ 1000000000) (x : Int) :
    Calls Try.prog 72 #[.slice A n c, .int .i64 x] w fun e w' => (∃ b, e = .returned (.tuple #[.int .i64 (lowN E x : Nat), .bool b])) ∧ Below w.heap.size w w' := by
  have hl : E.length = n := by have := h.len; rw [iv_len] at this; omega
  by_cases h0 : n = 0
  · subst h0
    obtain rfl := List.eq_nil_of_length_eq_zero hl
    refine (Try.slices_BinarySearch_int_empty A c x w).mono ?_
    rintro e w' ⟨rfl, rfl⟩
    exact ⟨⟨_, rfl⟩, Below.refl _ _⟩
  · obtain ⟨C, hC, hO⟩ := h.own
    rcases hO.form with ⟨_, e, _⟩ | ⟨g, rfl, hBg, hgl, _⟩
    · exact absurd e h0
    · have hc : ∀ j, j < E.length → w.cell? ⟨g, 0 + j, none⟩ = some (.int .i64 (E.getD j 0)) := fun j hj => by
        have h1 := hO.row.cells (g := g) rfl j (.int .i64 E[j]) (by simp [iv, hj])
        have e : (⟨g, 0, none⟩ : Addr).add j = ⟨g, 0 + j, none⟩ := by unfold Addr.add; split <;> simp_all
        rw [e] at h1
        rw [h1]; simp [hj, List.getD]
      refine (Try.slices_BinarySearch_int g 0 n c E x w (by omega) (by omega) hc (by rw [List.take_of_length_le (by omega)]; exact hE.imp fun h => by omega)).mono ?_
      rintro e w' ⟨rfl, q, rfl⟩
      rw [List.take_of_length_le (by omega)]
      exact ⟨⟨_, rfl⟩, ⟨rfl, rfl, rfl, Nat.le_refl _, fun _ _ => rfl⟩⟩
set_option maxRecDepth 100000 in
set_option maxHeartbeats 1000000 in
theorem iwithin (w : World) (B : Nat) (A : Option Addr) (n c : Nat) (E : List Int) (h : OwnC w B 3 1 A n c (iv E)) (hE : E.Pairwise (· < ·)) (hn : n ≤ 1000000000) (a b : Int) (hab : a < b) :
    Calls Try.prog 59 #[.slice A n c, .agg #[.int .i64 a, .int .i64 b]] w fun e w' => (∃ A' n' c', e = .returned (.slice A' n' c') ∧ Sl w' w.heap.size 1 A' n' c' (iv (wthn E a b)) ∧ ∀ ad, A' = some ad → B ≤ ad.block) ∧ Below w.heap.size w w' := by
  have hl : E.length = n := by have := h.len; rw [iv_len] at this; omega
  have hf1 : lowN E a ≤ lowN E b := lowN_mono E (by omega)
  have hf2 : lowN E b ≤ n := by have := lowN_le E b; omega
  have hcap := h.capm
  obtain ⟨i, hi⟩ : ∃ i, i = lowN E a := ⟨_, rfl⟩
  obtain ⟨j, hj⟩ : ∃ j, j = lowN E b := ⟨_, rfl⟩
  rw [← hi, ← hj] at hf1; rw [← hj] at hf2
  have HI := Lib.hid hi; have HJ := Lib.hid hj; have HL := Lib.hid hl
  have HH := Lib.hid h; have HE := Lib.hid hE
  obtain ⟨W1, hW1⟩ : ∃ W, W = w.alloc (.cells #[.int .i64 a, .int .i64 b] 30) := ⟨_, rfl⟩
  obtain ⟨g, hg⟩ : ∃ g, g = w.heap.size := ⟨_, rfl⟩
  have b1 : Below w.heap.size w W1 := by rw [hW1]; exact (Below.refl _ _).alloc (Nat.le_refl _) _
  have Z1 : Hid (Blk W1 g 30 #[.int .i64 a, .int .i64 b]) := Lib.hid (by rw [hW1, hg]; exact Blk.new _ _ _)
  have HB1 := Lib.hid b1; have HO1 := Lib.hid (h.on b1)
  have c0 : W1.cell? ⟨g, 0, none⟩ = some (.int .i64 a) := Z1.out.cell 0
  have h1 : (i : Int) ≤ (j : Int) := by omega
  have h2 : (j : Int) ≤ (c : Int) := by omega
  have h3 : (0 : Int) ≤ (i : Int) := by omega
  have HA : Hid (∀ ad, A = some ad → B ≤ ad.block) := Lib.hid fun ad e => by
    obtain ⟨C, hC, hO⟩ := h.own
    rcases hO.form with ⟨e2, _⟩ | ⟨g', e2, hB, _⟩
    · rw [e2] at e; cases e
    · rw [e2] at e; injection e with e; subst e; exact hB
  clear h hE hi hj hl b1
  go_enter Try.func59, Try.ntmps59
  go_wp2_with fail
  rw [← hW1, ← hg]
  clear hW1 hg
  go_wp2_with fail
  refine (isearch W1 B A n c E HO1.out HE.out hn a).mono ?_
  rintro _ w2 ⟨⟨v1, rfl⟩, b2⟩
  rw [← HI.out]
  have Z2 := Lib.hid (Z1.out.below b2 Z1.out.lt); have HO2 := Lib.hid (HO1.out.on b2); have HB2 := Lib.hid (HB1.out.trans (b2.mono HB1.out.size))
  have c1 : w2.cell? ⟨g, 1, none⟩ = some (.int .i64 b) := Z2.out.cell 1
  clear b2
  go_wp2_with fail
  refine (isearch w2 B A n c E HO2.out HE.out hn b).mono ?_
  rintro _ w3 ⟨⟨v2, rfl⟩, b3⟩
  rw [← HJ.out]
  have HO3 := Lib.hid (HO2.out.on b3); have HB3 := Lib.hid (HB2.out.trans (b3.mono HB2.out.size))
  clear b3
  go_wp2_with fail
  case inr =>
    go_ret
    exact ⟨⟨_, _, _, rfl, Own.shut (w' := w3) (HH.out.sl.below HB3.out (Nat.le_refl _)) HE.out a b HI.out HJ.out hf1 HL.out, fun ad e => by
      cases A with
      | none => cases e
      | some a0 => injection e with e; rw [← e, block_of_add]; exact HA.out a0 rfl⟩, HB3.out⟩
  case inl =>
    have hji : j = i := by assumption
    have h0 : wthn E a b = [] := by rw [← wthn_cut E HE.out a b, ← HI.out, ← HJ.out, hji, Nat.sub_self, List.take_zero]
    have HN := HH.out.sl.nil
    have HR : Hid (Sl w3 w.heap.size 1 A 0 0 (iv (wthn E a b))) := Lib.hid (by
      rw [h0]
      exact ⟨rfl, fun h => by simp [iv] at h, Nat.le_refl _, by omega, fun _ => rfl⟩)
    clear h0
    go_ret
    exact ⟨⟨_, _, _, rfl, HR.out, HA.out⟩, HB3.out⟩
end Go.Proofs.Ytfnhfpahdgbfgaa
