/- The contracts of chapter 2's readers of varints, of the program and of the model. -/
import Derived.Test.YtpfkijmicmampaaEncode2
namespace Go.Proofs.Ytpfkijmicmampaa
open Go.ChangeShapes Go.WideShapes Go.ChangeAt Go.RowKit
set_option linter.unusedVariables false
/-- the groups of the varint at an offset; none where there is none -/
def grp (l : List Nat) (off : Int) : List Nat := if 0 ≤ off ∧ off ≤ l.length then (rdG 6 (l.drop off.toNat)).getD [] else []
/-- what ReadUvarint answers -/
def rdAt (l : List Nat) (off : Int) : Int × Int × Bool :=
  if grp l off = [] ∨ padded (grp l off) = true ∨ 1000000000000 < val (grp l off) then (0, 0, false) else ((val (grp l off) : Int), off + (grp l off).length, true)
theorem grp_len (l : List Nat) (off : Int) (hb : ∀ b ∈ l, b < 256) : (grp l off).length ≤ 6 ∧ (∀ b ∈ grp l off, b < 256) ∧ (0 < (grp l off).length → 0 ≤ off ∧ off + (grp l off).length ≤ l.length ∧ Grp (grp l off) ∧ grp l off = (l.drop off.toNat).take (grp l off).length) := by
  unfold grp
  by_cases h : 0 ≤ off ∧ off ≤ l.length
  · rw [if_pos h]
    cases hg : rdG 6 (l.drop off.toNat) with
    | none => simp
    | some g =>
      obtain ⟨h1, h2, r, h3⟩ := rdG_grp 6 _ g (fun b hb' => hb b (List.mem_of_mem_drop hb')) hg
      have hl : (l.drop off.toNat).length = g.length + r.length := by rw [h3, List.length_append]
      rw [List.length_drop] at hl
      refine ⟨h2, fun b hb' => hb b (List.mem_of_mem_drop (i := off.toNat) (by rw [h3]; simp at hb' ⊢; exact .inl hb')), fun h0 => ⟨h.1, ?_, h1, ?_⟩⟩
      · simp at h0 ⊢; omega
      · rw [h3]; simp
  · rw [if_neg h]; simp
theorem grp_stop (l : List Nat) (o k : Nat) (h : Pre k (l.drop o)) (h6 : k < 6) (hk : o + k < l.length) (hb : l[o + k] < 128) : grp l o = (l.drop o).take (k + 1) := by
  unfold grp
  rw [if_pos ⟨by omega, by omega⟩, Int.toNat_natCast, rdG_stop k _ h h6 (by rw [List.length_drop]; omega) (by rw [List.getElem_drop]; exact hb)]
  rfl
theorem grp_end (l : List Nat) (o k : Nat) (h : Pre k (l.drop o)) (h6 : k ≤ 6) (hk : k = 6 ∨ l.length ≤ o + k) : grp l o = [] := by
  unfold grp
  by_cases ho : o ≤ l.length
  · rw [if_pos ⟨by omega, by omega⟩, Int.toNat_natCast, rdG_end k _ h ?_ h6]; rfl
    have := h.1; rw [List.length_drop] at this ⊢
    omega
  · rw [if_neg (by omega)]
theorem grp_out (l : List Nat) (off : Int) (h : ¬ (0 ≤ off ∧ off ≤ l.length)) : grp l off = [] := by unfold grp; rw [if_neg h]
theorem shl_val (v b k : Nat) (hk : k < 6) (hv : v < 128 ^ k) : wrap64 ((v : Int) + wrap64 ((b : Int) % 128 * 2 ^ (7 * k))) = ((v + b % 128 * 128 ^ k : Nat) : Int) := by
  have h : k = 0 ∨ k = 1 ∨ k = 2 ∨ k = 3 ∨ k = 4 ∨ k = 5 := by omega
  rcases h with rfl | rfl | rfl | rfl | rfl | rfl <;> simp at hv ⊢ <;> unfold wrap64 <;> omega
set_option maxRecDepth 100000 in
theorem ijoin (w : World) (D : Nat) (A : Option Addr) (n c : Nat) (g : List Nat) (h : Sl w D 1 A n c (bv g)) (hn : n ≤ 6) (hb : ∀ b ∈ g, b < 256) :
    Calls Try.prog 51 #[.slice A n c] w fun e w' => e = .returned (.int .i64 (val g)) ∧ w = w' := by
  have hlen := h.len
  rw [bv_len, Nat.mul_one] at hlen
  have Hl := Lib.hid hlen; clear hlen
  have hcap := h.cap; have hcapm := h.capm
  go_enter Try.func51, Try.ntmps51
  go_wp2
  go_loop [3, 8] (fun s i => ∃ k : Nat, k ≤ n ∧ i = .int .i64 k ∧ s = .int .i64 (val (g.take k))) (fun _ i => n - (intOf i).toNat)
  case atStart => exact ⟨0, Nat.zero_le _, rfl, rfl⟩
  case round =>
    obtain ⟨k, hk, rfl, rfl⟩ := hrel
    by_cases hlt : k < n
    · obtain ⟨ad, hx, rfl, had, hcx⟩ := h.at_ hlt
      rw [bv_get g k hx] at hcx
      have hkg : k < g.length := by rw [Hl.out]; omega
      have hbb := hb g[k] (List.getElem_mem hkg)
      have hv := Lib.hid (val_take k g hkg)
      have hvl := val_lt (g.take k)
      obtain ⟨b, hb'⟩ : ∃ b, b = g[k] := ⟨_, rfl⟩
      rw [← hb'] at hcx hv hbb
      obtain ⟨v, hv'⟩ : ∃ v, v = val (g.take k) := ⟨_, rfl⟩
      rw [← hv'] at hv hvl ⊢
      clear hb' hv'
      rw [List.length_take, Nat.min_eq_left (by omega)] at hvl
      go_wp2
      go_round
      case rel => exact ⟨k + 1, by omega, by go_num, by rw [hv.out, shl_val v b k (by omega) hvl]⟩
      case measure => simp [intOf]; omega
    · have e1 : g.take k = g := List.take_of_length_le (by rw [Hl.out]; omega)
      rw [e1]
      clear e1
      go_wp2
      go_ret
      exact ⟨rfl, rfl⟩
set_option maxRecDepth 100000 in
theorem ipad (w : World) (D : Nat) (A : Option Addr) (n c : Nat) (g : List Nat) (h : Sl w D 1 A n c (bv g)) (hb : ∀ b ∈ g, b < 256) :
    Calls Try.prog 52 #[.slice A n c] w fun e w' => e = .returned (.bool (padded g)) ∧ w = w' := by
  have hlen := h.len
  rw [bv_len, Nat.mul_one] at hlen
  have hcap := h.cap; have hcapm := h.capm
  by_cases h1 : 1 < n
  · have hp : padded g = (g[n - 1]'(by omega) == 0) := by
      unfold padded
      rw [List.getLast?_eq_getElem?, decide_eq_true (show 1 < g.length by omega), Bool.true_and, show g.length - 1 = n - 1 from by omega, List.getElem?_eq_getElem (by omega)]; rfl
    obtain ⟨ad, hx, rfl, had, hcx⟩ := h.at_ (show n - 1 < n by omega)
    rw [bv_get g _ hx] at hcx
    have hbb := hb (g[n - 1]'(by omega)) (List.getElem_mem _)
    rw [hp]
    obtain ⟨b, hb'⟩ : ∃ b, b = g[n - 1]'(by omega) := ⟨_, rfl⟩
    rw [← hb'] at hcx hbb ⊢
    clear hb' hp
    obtain ⟨j, rfl⟩ : ∃ j, n = j + 1 := ⟨n - 1, by omega⟩
    simp only [Nat.add_sub_cancel] at hcx
    have Hlen := Lib.hid hlen; clear hlen
    by_cases hb0 : b = 0
    · subst hb0
      go_enter Try.func52, Try.ntmps52
      go_wp2
      go_ret
      exact ⟨rfl, rfl⟩
    · have e0 : (b == 0) = false := by simp [hb0]
      have e1 : ((b : Int) == 0) = false := by simp [hb0]
      rw [e0]
      clear e0
      go_enter Try.func52, Try.ntmps52
      go_wp2
      go_ret
      exact ⟨rfl, rfl⟩
  · have hp : padded g = false := by
      unfold padded
      rw [decide_eq_false (show ¬ 1 < g.length by omega), Bool.false_and]
    rw [hp]
    have Hlen := Lib.hid hlen; clear hlen hp
    have e1 : decide ((1 : Int) < (n : Int)) = false := by simp; omega
    go_enter Try.func52, Try.ntmps52
    go_wp2
    go_ret
    exact ⟨rfl, rfl⟩
theorem iminb (a b : Int) (w : World) :
    Calls Try.prog 63 #[.int .i64 a, .int .i64 b] w fun e w' => (∃ v : Int, (v ≤ a ∧ v ≤ b ∧ (v = a ∨ v = b)) ∧ e = .returned (.int .i64 v)) ∧ Below w.heap.size w w' := by
  have hc : (w.alloc (Obj.cells #[.int .i64 b] 3)).cell? ⟨w.heap.size, 0, none⟩ = some (.int .i64 b) := by go_cell
  have hm : mnf a b ≤ a ∧ mnf a b ≤ b ∧ (mnf a b = a ∨ mnf a b = b) := by unfold mnf; split <;> omega
  have HM := Lib.hid hm; clear hm
  go_enter Try.func63, Try.ntmps63
  go_wp2_with (go_at_call 65; refine (lag _ _ _ _ hc).mono ?_; rintro e w' ⟨rfl, rfl⟩)
  go_ret
  exact ⟨⟨_, HM.out, rfl⟩, (Below.refl _ _).alloc (Nat.le_refl _) _⟩
/-- a part of a slice of bytes -/
theorem Sl.sub {w : World} {D n c : Nat} {ad : Addr} {l : List Nat} (h : Sl w D 1 (some ad) n c (bv l)) (o m m' : Nat) (ho : o + m ≤ n) (hm : m ≤ m') (hm' : m' ≤ 9223372036854775807) : Sl w D 1 (some (ad.add o)) m m' (bv ((l.drop o).take m)) := by
  have hl := h.len
  rw [bv_len, Nat.mul_one] at hl
  refine ⟨by rw [bv_len, List.length_take, List.length_drop]; omega, ?_, hm, hm', fun e => by cases e⟩
  have e : bv ((l.drop o).take m) = ((bv l).drop o).take m := by unfold bv; rw [List.map_take, List.map_drop]
  rw [e]
  exact (h.rd.cut o (some (ad.add o)) (fun _ ad' e => by injection e with e; rw [e])).take m
/-- what varintAt answers -/
def AtVarint (w : World) (D : Nat) (l : List Nat) (off : Int) (e : Ending) (w' : World) : Prop :=
  (∃ (A : Option Addr) (n : Nat), e = .returned (.slice A n n) ∧ Sl w' D 1 A n n (bv (grp l off))) ∧ Below w.heap.size w w'
set_option maxRecDepth 100000 in
theorem ivarint (w : World) (D : Nat) (A : Option Addr) (n c : Nat) (l : List Nat) (h : Sl w D 1 A n c (bv l)) (hD : D ≤ w.heap.size) (hn : n ≤ 1000000000) (hb : ∀ b ∈ l, b < 256) (off : Int) (h0 : -9223372036854775808 ≤ off) (h1 : off ≤ 9223372036854775807) :
    Calls Try.prog 50 #[.slice A n c, .int .i64 off] w (AtVarint w D l off) := by
  have hlen := h.len
  rw [bv_len, Nat.mul_one] at hlen
  have Hl := Lib.hid hlen; clear hlen
  have hcap := h.cap; have hcapm := h.capm
  by_cases hin : 0 ≤ off ∧ off ≤ n
  · obtain ⟨o, rfl⟩ := Int.eq_ofNat_of_zero_le hin.1
    have ho : o ≤ n := by omega
    go_enter Try.func50, Try.ntmps50
    go_wp2_with (go_at_call 56; refine (iinr_t _ _ _ _ (by omega) (by omega)).mono ?_; rintro e w' ⟨rfl, rfl⟩)
    refine (iminb _ _ _).mono ?_
    rintro e w1 ⟨⟨v, hv, rfl⟩, hb1⟩
    obtain ⟨st, rfl⟩ := Int.eq_ofNat_of_zero_le (show 0 ≤ v by omega)
    have hst : st ≤ o + 6 ∧ st ≤ n ∧ (o + 6 ≤ st ∨ n ≤ st) := by omega
    obtain ⟨hs1, hs2, hs3⟩ := hst
    clear hv
    have h' := h.below hb1 hD
    have HB1 := Lib.hid hb1; clear hb1
    go_wp2
    go_loop [6] (fun i => ∃ k : Nat, i = .int .i64 ((o + k : Nat) : Int) ∧ o + k ≤ st ∧ Pre k (l.drop o)) (fun i => st - (intOf i).toNat)
    case atStart => exact ⟨0, rfl, by omega, Pre_zero _⟩
    case round =>
      obtain ⟨k, rfl, hk, hp⟩ := hrel
      by_cases hlt : o + k < st
      · obtain ⟨ad, hx, rfl, had, hcx⟩ := h'.at_ (show o + k < n by omega)
        rw [bv_get l _ hx] at hcx
        have hkl : o + k < l.length := by rw [Hl.out]; omega
        have hbb := hb l[o + k] (List.getElem_mem hkl)
        have HP := Lib.hid hp; clear hp
        by_cases h128 : l[o + k] < 128
        · have HG := Lib.hid (grp_stop l o k HP.out (by omega) hkl h128)
          obtain ⟨b, hb'⟩ : ∃ b, b = l[o + k] := ⟨_, rfl⟩
          rw [← hb'] at hcx h128
          clear hb' hbb
          go_wp2
          go_ret
          refine ⟨⟨some (ad.add o), k + 1, ?_, ?_⟩, HB1.out⟩
          · rw [show k + 1 = o + k + 1 - o from by omega]; rfl
          · rw [HG.out]; exact h'.sub o (k + 1) (k + 1) (by omega) (by omega) (by omega)
        · have HP2 := Lib.hid (Pre_succ k _ HP.out (by rw [List.length_drop]; omega) (by rw [List.getElem_drop]; omega))
          obtain ⟨b, hb'⟩ : ∃ b, b = l[o + k] := ⟨_, rfl⟩
          rw [← hb'] at hcx h128
          clear hb' hbb
          have h128' : decide ((b : Int) < 128) = false := by simp; omega
          go_wp2
          go_round
          case rel => exact ⟨k + 1, by go_num, by omega, HP2.out⟩
          case measure => simp [intOf]; omega
      · have HG := Lib.hid (grp_end l o k hp (by omega) (by rw [Hl.out]; omega))
        clear hp
        go_wp2
        go_ret
        refine ⟨⟨none, 0, rfl, ?_⟩, HB1.out⟩
        rw [HG.out]; exact Sl.nil_ _ _ _
  · have HG := Lib.hid (grp_out l off (by rw [Hl.out]; exact hin))
    have Hin := Lib.hid hin; clear hin
    go_enter Try.func50, Try.ntmps50
    go_wp2_with (go_at_call 56; refine (iinr_f _ _ _ _ Hin.out).mono ?_; rintro e w' ⟨rfl, rfl⟩)
    go_ret
    refine ⟨⟨none, 0, rfl, ?_⟩, Below.refl _ _⟩
    rw [HG.out]; exact Sl.nil_ _ _ _
/-- what a reader of varints answers -/
def ReadsAs (r : Int × Int × Bool) (e : Ending) : Prop := ∃ (v nx : Int) (ok : Bool), r = (v, nx, ok) ∧ e = .returned (.tuple #[.int .i64 v, .int .i64 nx, .bool ok])
theorem ReadsAs.eq {r : Int × Int × Bool} {e : Ending} (h : ReadsAs r e) {v nx : Int} {ok : Bool} (hr : r = (v, nx, ok)) : e = .returned (.tuple #[.int .i64 v, .int .i64 nx, .bool ok]) := by
  obtain ⟨v', nx', ok', hr', he⟩ := h
  have hh := hr.symm.trans hr'
  injection hh with q1 q2; injection q2 with q2 q3
  subst q1 q2 q3
  exact he
theorem rdAt_none (l : List Nat) (off : Int) (h : grp l off = [] ∨ padded (grp l off) = true ∨ 1000000000000 < val (grp l off)) : rdAt l off = (0, 0, false) := by unfold rdAt; rw [if_pos h]
theorem rdAt_some (l : List Nat) (off : Int) (h : grp l off ≠ []) (h1 : padded (grp l off) = false) (h2 : val (grp l off) ≤ 1000000000000) : rdAt l off = ((val (grp l off) : Int), off + (grp l off).length, true) := by
  unfold rdAt; rw [if_neg]
  rintro (e | e | e)
  · exact h e
  · rw [h1] at e; cases e
  · omega
/-- the two ways of a reader of varints -/
theorem rdAt_cases (l : List Nat) (off : Int) (hb : ∀ b ∈ l, b < 256) {v nx : Int} {ok : Bool} (h : rdAt l off = (v, nx, ok)) :
    (ok = false ∧ v = 0 ∧ nx = 0) ∨ (ok = true ∧ ∃ o n k : Nat, off = o ∧ v = n ∧ nx = ((o + k : Nat) : Int) ∧ o + k ≤ l.length ∧ 0 < k ∧ k ≤ 6 ∧ n ≤ 1000000000000 ∧ uv n = (l.drop o).take k) := by
  obtain ⟨g1, g2, g3⟩ := grp_len l off hb
  unfold rdAt at h
  by_cases hc : grp l off = [] ∨ padded (grp l off) = true ∨ 1000000000000 < val (grp l off)
  · rw [if_pos hc] at h
    injection h with h0 h; injection h with h1 h2
    exact .inl ⟨h2.symm, h0.symm, h1.symm⟩
  · rw [if_neg hc] at h
    injection h with h0 h; injection h with h1 h2
    right
    have hne : 0 < (grp l off).length := by
      rcases Nat.eq_zero_or_pos (grp l off).length with e | e
      · exact absurd (.inl (List.eq_nil_of_length_eq_zero e)) hc
      · exact e
    obtain ⟨k1, k2, k3, k4⟩ := g3 hne
    have hp : padded (grp l off) = false := by cases e : padded (grp l off); rfl; exact absurd (.inr (.inl e)) hc
    obtain ⟨o, rfl⟩ := Int.eq_ofNat_of_zero_le k1
    refine ⟨h2.symm, o, val (grp l o), (grp l o).length, rfl, h0.symm, by rw [← h1]; omega, by omega, hne, g1, by omega, ?_⟩
    rw [uv_of_grp _ k3 hp]
    simpa using k4
set_option maxRecDepth 100000 in
theorem iread (w : World) (D : Nat) (A : Option Addr) (n c : Nat) (l : List Nat) (h : Sl w D 1 A n c (bv l)) (hD : D ≤ w.heap.size) (hn : n ≤ 1000000000) (hb : ∀ b ∈ l, b < 256) (off : Int) (h0 : -9223372036854775808 ≤ off) (h1 : off ≤ 9223372036854775807) :
    Calls Try.prog 16 #[.slice A n c, .int .i64 off] w fun e w' => ReadsAs (rdAt l off) e ∧ Below w.heap.size w w' := by
  have hlen := h.len
  rw [bv_len, Nat.mul_one] at hlen
  have Hl := Lib.hid hlen; clear hlen
  go_enter Try.func16, Try.ntmps16
  go_wp2_with fail
  refine (ivarint w D A n c l h hD hn hb off h0 h1).mono ?_
  rintro e w1 ⟨⟨A1, n1, rfl, hs⟩, hb1⟩
  obtain ⟨g1, g2, g3⟩ := grp_len l off hb
  have hr0 := Lib.hid (rdAt_none l off)
  have hr1 := Lib.hid (rdAt_some l off)
  obtain ⟨g, hg⟩ : ∃ g, g = grp l off := ⟨_, rfl⟩
  rw [← hg] at hs g1 g2 g3 hr0 hr1
  have HG := Lib.hid hg; clear hg
  have hgl := hs.len
  rw [bv_len, Nat.mul_one] at hgl
  subst hgl
  have HB1 := Lib.hid hb1; clear hb1
  go_wp2_with fail
  refine (ijoin w1 D A1 g.length g.length g hs g1 g2).mono ?_
  rintro e w2 ⟨rfl, rfl⟩
  have hvl := val_lt g
  have hv6 : val g < 4398046511104 := Nat.lt_of_lt_of_le hvl (Nat.le_trans (Nat.pow_le_pow_right (by omega) g1) (by decide))
  clear hvl
  rcases Nat.eq_zero_or_pos g.length with hz | hz
  · have hnil : g = [] := List.eq_nil_of_length_eq_zero hz
    subst hnil
    have HR := Lib.hid (hr0.out (.inl rfl)); clear hr0 hr1 g3
    go_wp2
    go_ret3
    exact ⟨⟨0, 0, false, HR.out, rfl⟩, HB1.out⟩
  · have G3 := Lib.hid (g3 hz); clear g3
    have e0 : ((g.length : Int) == 0) = false := by rw [beq_eq_false_iff_ne]; omega
    cases hp : padded g
    · by_cases hM : val g ≤ 1000000000000
      · have HR := Lib.hid (hr1.out (by intro e; rw [e] at hz; simp at hz) hp hM)
        obtain ⟨hof0, hof1⟩ : 0 ≤ off ∧ off + g.length ≤ 1000000000 := by
          obtain ⟨k1, k2, _⟩ := G3.out
          have k3 : l.length = n := Hl.out
          omega
        have HP := Lib.hid hp
        clear hr0 hr1 hp
        go_wp2_with fail
        refine (ipad w1 D A1 g.length g.length g hs g2).mono ?_
        rw [HP.out]
        rintro e w2 ⟨rfl, rfl⟩
        go_wp2
        go_ret3
        exact ⟨⟨_, _, true, HR.out, rfl⟩, HB1.out⟩
      · have HR := Lib.hid (hr0.out (.inr (.inr (by omega))))
        have HP := Lib.hid hp
        clear hr0 hr1 hp
        go_wp2_with fail
        refine (ipad w1 D A1 g.length g.length g hs g2).mono ?_
        rw [HP.out]
        rintro e w2 ⟨rfl, rfl⟩
        go_wp2
        go_ret3
        exact ⟨⟨0, 0, false, HR.out, rfl⟩, HB1.out⟩
    · have HR := Lib.hid (hr0.out (.inr (.inl hp)))
      have HP := Lib.hid hp
      clear hr0 hr1 hp
      go_wp2_with fail
      refine (ipad w1 D A1 g.length g.length g hs g2).mono ?_
      rw [HP.out]
      rintro e w2 ⟨rfl, rfl⟩
      go_wp2
      go_ret3
      exact ⟨⟨0, 0, false, HR.out, rfl⟩, HB1.out⟩
end Go.Proofs.Ytpfkijmicmampaa
