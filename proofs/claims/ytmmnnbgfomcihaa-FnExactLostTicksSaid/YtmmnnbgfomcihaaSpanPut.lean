/- The contracts of the model's l4Last and l4Put. The contracts of the model's JoinSpans, MeetSpans, CutSpans, TicksOf and ShortenSpans. The contracts of the model's MeetSpans and CutSpans. -/
import Derived.Test.YtmmnnbgfomcihaaSpan
import Derived.Test.YtmmnnbgfomcihaaInts
import Derived.IntWalk
namespace Go.Proofs.Ytmmnnbgfomcihaa
open Go.ChangeShapes Go.WideShapes Go.ChangeAt Go.RowKit
set_option linter.unusedVariables false
theorem span_info : (Try.prog.info? 60).map (fun i => (i.zero, i.size, i.bytes)) = some (some (.agg #[.int .i64 0, .int .i64 0]), 2, 16) := by kernel_rfl
/-- a call that answers a number and makes memory of its own at most -/
def NumB (w : World) (z : Int) (e : Ending) (w' : World) : Prop := e = .returned (.int .i64 z) ∧ Below w.heap.size w w'
set_option maxRecDepth 100000 in
theorem slast (w : World) (D : Nat) (A : Option Addr) (n c : Nat) (l : List (Int × Int)) (h : Sl w D 2 A n c (sv l)) (hD : D ≤ w.heap.size) :
    Calls Try.prog 65 #[.slice A n c] w (NumB w (lastOf l)) := by
  have hlen := h.len
  rw [sv_len] at hlen
  obtain rfl : n = l.length := by omega
  clear hlen
  have hcap := h.cap; have hcapm := h.capm
  have H := Lib.hid h; clear h
  go_enter Try.func65, Try.ntmps65
  go_wp2
  go_loopw [3, 4] (fun m i wr => ∃ (k : Nat) (z : Int), k ≤ l.length ∧ i = .int .i64 k ∧ m = .int .i64 z ∧ Hid (z = lastOf (l.take k)) ∧ 0 ≤ z ∧ z ≤ 1000 ∧ Below w.heap.size w wr) (fun _ i _ => l.length - (intOf i).toNat)
  case atStart => exact ⟨0, 0, Nat.zero_le _, rfl, rfl, Lib.hid rfl, by omega, by omega, Below.refl _ _⟩
  case round =>
    obtain ⟨k, z, hk, rfl, rfl, hz, hz0, hz1, hbw⟩ := hrel
    by_cases hlt : k < l.length
    · obtain ⟨ad, hx, rfl, had, hc0, hc1⟩ := (H.out.below hbw hD).two hlt
      have hsn : Hid (lastOf (l.take (k + 1)) = lastStep z l[k]) := Lib.hid (by rw [List.take_succ_eq_append_getElem hx, lastOf_snoc, ← hz.out])
      obtain ⟨x, hxx⟩ : ∃ x, x = l[k].1 := ⟨_, rfl⟩
      obtain ⟨y, hy⟩ : ∃ y, y = l[k].2 := ⟨_, rfl⟩
      have hp : l[k] = (x, y) := by rw [hxx, hy]
      rw [← hxx] at hc0; rw [← hy] at hc1
      rw [hp] at hsn
      have H2 := Lib.hid (H.out.below hbw hD)
      have BW := Lib.hid hbw
      clear hxx hy hp hbw hz
      obtain ⟨v, hv⟩ : ∃ v, isS (x, y) = v := ⟨_, rfl⟩
      have HV := Lib.hid hv; clear hv
      go_wp2_with fail
      refine (sisspan _ _ _ _ HV.out).mono ?_
      rintro e w2 ⟨rfl, b2⟩
      have had2 : ad.block < wr.heap.size := by have := BW.out.size; omega
      have hd1 : w2.cell? ⟨(ad.add (k * 2)).block, (ad.add (k * 2)).off + 1, none⟩ = some (.int .i64 y) := (b2.cell (by show (ad.add (k * 2)).block < _; rw [block_of_add]; exact had2)).trans hc1
      have B2 : Hid (Below w.heap.size w w2) := Lib.hid (BW.out.trans (b2.mono BW.out.size))
      clear b2
      cases v
      · have HS : Hid (z = lastOf (l.take (k + 1))) := Lib.hid (by rw [hsn.out]; unfold lastStep; rw [HV.out]; rfl)
        go_wp2
        go_roundw
        case rel => exact ⟨k + 1, z, by omega, by go_num, rfl, HS, hz0, hz1, B2.out⟩
        case measure => simp [intOf]; omega
      · have HS : Hid (mxf z y = lastOf (l.take (k + 1))) := Lib.hid (by rw [hsn.out]; unfold lastStep mxf; rw [HV.out]; rfl)
        have HB : Hid (0 ≤ mxf z y ∧ mxf z y ≤ 1000) := Lib.hid (by have := (isS_iff _).1 HV.out; unfold mxf; simp only at this; split <;> omega)
        go_wp2_with fail
        refine (smax z y _).mono ?_
        rintro e w3 ⟨rfl, rfl⟩
        obtain ⟨m, hm⟩ : ∃ m, m = mxf z y := ⟨_, rfl⟩
        rw [← hm] at HS HB ⊢
        have hm0 := HB.out.1; have hm1 := HB.out.2
        clear hm
        go_wp2
        go_roundw
        case rel => exact ⟨k + 1, m, by omega, by go_num, rfl, HS, hm0, hm1, B2.out⟩
        case measure => simp [intOf]; omega
    · have e1 : l.take k = l := List.take_of_length_le (by omega)
      rw [e1] at hz
      clear e1
      go_wp2
      go_ret
      exact ⟨ret_int hz.out, hbw⟩
theorem Sl.one2 (w : World) (u v : Value) (t : TypeId) : Sl (w.alloc (.cells #[u, v] t)) (w.heap.size + 1) 2 (some ⟨w.heap.size, 0, none⟩) 1 1 [u, v] :=
  ⟨rfl, fun _ => ⟨_, rfl, by simp, fun j x hx => by
    have e : (⟨w.heap.size, 0, none⟩ : Addr).add j = ⟨w.heap.size, j, none⟩ := by unfold Addr.add; split <;> simp_all
    rw [e, cell_of_row _ _ _ _ _ _ (heap_alloc_new w _), ← hx]
    simp⟩, Nat.le_refl _, by omega, fun h => by cases h⟩
/-- what l4Put leaves -/
def Puts (B0 : World) (B : Nat) (l : List (Int × Int)) (e : Ending) (w' : World) : Prop := ∃ A' n' c', e = .returned (.slice A' n' c') ∧ Own w' B 60 2 A' n' c' (sv l) ∧ Below B B0 w'
set_option maxRecDepth 100000 in
theorem sput (w W : World) (B : Nat) (A : Option Addr) (n c : Nat) (l : List (Int × Int)) (h : Own w B 60 2 A n c (sv l)) (hB : B ≤ w.heap.size) (hW : Below B W w) (hn : n ≤ 1000000) (t : Int) (ht0 : 0 ≤ t) (ht1 : t ≤ 1000000) :
    Calls Try.prog 66 #[.slice A n c, .int .i64 t] w (Puts W B (put l t)) := by
  obtain ⟨i0, hi, hy0, hy1, hy2⟩ := info_parts span_info
  have hlen := h.len
  rw [sv_len] at hlen
  obtain rfl : n = l.length := by omega
  clear hlen
  by_cases hg : grows l t = true
  · have hg' : 0 < l.length ∧ (endOf l).2 = t := by simpa [grows] using hg
    obtain ⟨hl, he⟩ := hg'
    have hput : Hid (put l t = l.set (l.length - 1) ((endOf l).1, t + 1)) := Lib.hid (if_pos hg)
    rw [endOf_at l hl] at he hput
    clear hg
    rcases h.form with ⟨_, h0, _⟩ | ⟨g, rfl, hBg, hgl, hcap, hcapm⟩
    · omega
    · have hlen := h.len
      obtain ⟨m, hm⟩ : ∃ m, l.length = m + 1 := ⟨l.length - 1, by omega⟩
      have HL := Lib.hid hm
      rw [hm] at h hcap hn
      rw [hm]
      have hml : m < l.length := by omega
      have e3 : l[l.length - 1] = l[m] := getElem_congr' (by omega) (by omega)
      have hf : w.frozen? ⟨g, m * 2 + 1, none⟩ = false := h.row.frozenAt (m * 2 + 1)
      have hc : w.cell? ⟨g, m * 2 + 1, none⟩ = some (.int .i64 t) := by
        rw [h.row.cellAt (m * 2 + 1) (by omega), sv_get1 l m hml, ← e3, he]
      have HF : Hid (Puts W B (put l t) (.returned (.slice (some ⟨g, 0, none⟩) (m + 1) c)) (w.setCell ⟨g, m * 2 + 1, none⟩ (.int .i64 (t + 1)))) := by
        have hs := h.row.stored (m * 2 + 1) (.int .i64 (t + 1))
        refine Lib.hid ⟨_, _, _, rfl, ⟨?_⟩, h.below hW hB hs.2⟩
        rw [hput.out, e3, show l.length - 1 = m by omega, ← sv_set1 l m hml]
        exact hs.1
      clear h he hm hlen hi hy0 hy1 hy2 hW e3 hput hl hml
      go_enter Try.func66, Try.ntmps66
      go_wp2
      go_ret
      exact HF.out
  · have HP : Hid (put l t = l ++ [(t, t + 1)]) := Lib.hid (if_neg hg)
    have hcap := h.capm
    have H0 := Lib.hid (h.on ((Below.refl w.heap.size w).alloc (Nat.le_refl _) (.cells #[.int .i64 t, .int .i64 (t + 1)] 60)))
    have HB0 := Lib.hid (hW.alloc hB (.cells #[.int .i64 t, .int .i64 (t + 1)] 60))
    by_cases h0 : 0 < l.length
    · have he : ¬ (l[l.length - 1].2 = t) := fun e => hg (by simp only [grows, decide_eq_true_eq]; exact ⟨h0, by rw [endOf_at l h0]; exact e⟩)
      obtain ⟨m, hm⟩ : ∃ m, l.length = m + 1 := ⟨l.length - 1, by omega⟩
      have HL := Lib.hid hm
      obtain ⟨ad, hx, rfl, had, hc0, hc1⟩ := h.sl.two (show m < l.length by omega)
      obtain ⟨y, hy⟩ : ∃ y, y = l[m].2 := ⟨_, rfl⟩
      rw [← hy] at hc1
      have hyt : (y == t) = false := by
        have e3 : l[l.length - 1].2 = l[m].2 := by rw [getElem_congr' (show l.length - 1 = m by omega)]
        rw [e3, ← hy] at he
        simpa using he
      rw [hm] at hcap hn H0
      rw [hm]
      clear h he hm hg h0 hy hc0 hW
      go_enter Try.func66, Try.ntmps66
      go_wp2_with (at_builtin; refine wpList_append_sl _ rfl (.tmp 28) (.tmp 33) 35 rfl B 60 i0 _ 2 16 Try.underlying35 hi hy0 hy1 hy2 rfl (by omega) (some ad) (m + 1) c (sv l) rfl H0.out (w.heap.size + 1) _ 1 1 [.int .i64 t, .int .i64 (t + 1)] rfl (Sl.one2 w _ _ _) (by simp [Value.oneCell']) (by omega) (by omega) (by simp; omega) ?_; intro A3 c3 w3 hown3 hg3 hat3; have HF : Hid (Puts W B (put l t) (.returned (.slice A3 (m + 1 + 1) c3)) w3) := Lib.hid ⟨_, _, _, rfl, by rw [HP.out, sv_app]; exact hown3, H0.out.below HB0.out (by simp; omega) hg3⟩; clear hown3 hg3 hat3)
      go_ret
      exact HF.out
    · have hm : l.length = 0 := by omega
      have HL := Lib.hid hm
      rw [hm] at hcap hn H0
      rw [hm]
      clear h hm hg h0 hW
      go_enter Try.func66, Try.ntmps66
      go_wp2_with (at_builtin; refine wpList_append_sl _ rfl (.tmp 28) (.tmp 33) 35 rfl B 60 i0 _ 2 16 Try.underlying35 hi hy0 hy1 hy2 rfl (by omega) A 0 c (sv l) rfl H0.out (w.heap.size + 1) _ 1 1 [.int .i64 t, .int .i64 (t + 1)] rfl (Sl.one2 w _ _ _) (by simp [Value.oneCell']) (by omega) (by omega) (by simp; omega) ?_; intro A3 c3 w3 hown3 hg3 hat3; have HF : Hid (Puts W B (put l t) (.returned (.slice A3 (0 + 1) c3)) w3) := Lib.hid ⟨_, _, _, rfl, by rw [HP.out, sv_app]; exact hown3, H0.out.below HB0.out (by simp; omega) hg3⟩; clear hown3 hg3 hat3)
      go_ret
      exact HF.out
end Go.Proofs.Ytmmnnbgfomcihaa
namespace Go.Proofs.Ytmmnnbgfomcihaa
open Go.ChangeShapes Go.WideShapes Go.ChangeAt Go.RowKit
set_option linter.unusedVariables false
/-- what a function that answers a list of spans answers -/
def GivesS (w : World) (l : List (Int × Int)) (e : Ending) (w' : World) : Prop := ∃ A' n' c', e = .returned (.slice A' n' c') ∧ Own w' w.heap.size 60 2 A' n' c' (sv l) ∧ Below w.heap.size w w'
theorem Own.made0 (w : World) (B : Nat) (E : TypeId) (hB : B ≤ w.heap.size) : Own (w.alloc (.cells #[] E)) B E 2 (some ⟨w.heap.size, 0, none⟩) 0 0 [] := ⟨World.ownsRow_made w #[] 0 hB (by unfold maxLen; omega) rfl⟩
set_option maxRecDepth 100000 in
theorem sjoin (w : World) (D : Nat) (A : Option Addr) (n c : Nat) (l : List (Int × Int)) (h : Sl w D 2 A n c (sv l)) (hD : D ≤ w.heap.size) :
    Calls Try.prog 48 #[.slice A n c] w (GivesS w (joinOf l)) := by
  have H := Lib.hid h; clear h
  have h0 : Hid (Own (w.alloc (.cells #[] 60)) w.heap.size 60 2 (some ⟨w.heap.size, 0, none⟩) 0 0 (sv []) ∧ Below w.heap.size w (w.alloc (.cells #[] 60))) :=
    Lib.hid ⟨Own.made0 w w.heap.size _ (Nat.le_refl _), (Below.refl _ _).alloc (Nat.le_refl _) _⟩
  go_enter Try.func48, Try.ntmps48
  go_wp2_with fail
  refine (slast _ _ A n c l (H.out.below h0.out.2 hD) (by simp; omega)).mono ?_
  rintro e w1 ⟨rfl, b1⟩
  have h1 : Hid (Own w1 w.heap.size 60 2 (some ⟨w.heap.size, 0, none⟩) 0 0 (sv (runs (tk l) 0)) ∧ Below w.heap.size w w1) :=
    Lib.hid ⟨h0.out.1.on b1, h0.out.2.trans (b1.mono (by simp))⟩
  obtain ⟨m, hm⟩ : ∃ m : Nat, (m : Int) = lastOf l := ⟨(lastOf l).toNat, by have := lastOf_bd l; omega⟩
  have hmb : m ≤ 1000 := by have := lastOf_bd l; omega
  have HM : Hid (runs (tk l) m = joinOf l) := Lib.hid (runs_last l (tk l) (fun _ h => h) m hm)
  rw [← hm]
  clear hm b1 h0
  go_wp2
  go_loopw [3, 5] (fun v i wr => ∃ (k : Nat) (A1 : Option Addr) (n1 c1 : Nat), k ≤ m ∧ i = .int .i64 k ∧ v = .slice A1 n1 c1 ∧ Own wr w.heap.size 60 2 A1 n1 c1 (sv (runs (tk l) k)) ∧ Below w.heap.size w wr) (fun _ i _ => m - (intOf i).toNat)
  case atStart => exact ⟨0, _, _, _, Nat.zero_le _, rfl, rfl, h1.out.1, h1.out.2⟩
  case round =>
    clear h1
    obtain ⟨k, A1, n1, c1, hk, rfl, rfl, ho, hb⟩ := hrel
    by_cases hlt : k < m
    · have hn1 : n1 ≤ 1000 := by have h2 := ho.len; rw [sv_len] at h2; have := runs_len (tk l) k; omega
      have HO := Lib.hid ho; have HB := Lib.hid hb
      clear ho hb
      obtain ⟨v, hv⟩ : ∃ v, inL l k = v := ⟨_, rfl⟩
      have HV := Lib.hid hv; clear hv
      go_wp2_with fail
      refine (sinspans _ _ A n c l (H.out.below HB.out hD) (Nat.le_trans hD HB.out.size) k v HV.out).mono ?_
      rintro e w2 ⟨rfl, b2⟩
      have HO2 := Lib.hid (HO.out.on b2)
      have HB2 := Lib.hid (HB.out.trans (b2.mono HB.out.size))
      clear b2 HO HB
      cases v
      · have hr : Hid (runs (tk l) (k + 1) = runs (tk l) k) := Lib.hid (by show (if tk l k then _ else _) = _; unfold tk; rw [HV.out]; rfl)
        have HF : Hid (Own w2 w.heap.size 60 2 A1 n1 c1 (sv (runs (tk l) (k + 1)))) := Lib.hid (by rw [hr.out]; exact HO2.out)
        clear hr HO2
        go_wp2
        go_roundw
        case rel => exact ⟨k + 1, A1, n1, c1, by omega, by go_num, rfl, HF.out, HB2.out⟩
        case measure => simp [intOf]; omega
      · have hr : Hid (runs (tk l) (k + 1) = put (runs (tk l) k) k) := Lib.hid (by show (if tk l k then _ else _) = _; unfold tk; rw [HV.out]; rfl)
        go_wp2_with fail
        refine (sput w2 w w.heap.size A1 n1 c1 _ HO2.out HB2.out.size HB2.out (by omega) k (by omega) (by omega)).mono ?_
        rintro e w3 ⟨A3, n3, c3, rfl, o3, b3⟩
        have HF : Hid (Own w3 w.heap.size 60 2 A3 n3 c3 (sv (runs (tk l) (k + 1)))) := Lib.hid (by rw [hr.out]; exact o3)
        have HB3 := Lib.hid b3
        clear hr HO2 HB2 o3 b3
        go_wp2
        go_roundw
        case rel => exact ⟨k + 1, A3, n3, c3, by omega, by go_num, rfl, HF.out, HB3.out⟩
        case measure => simp [intOf]; omega
    · obtain rfl : k = m := by omega
      rw [HM.out] at ho
      have HF : Hid (GivesS w (joinOf l) (.returned (.slice A1 n1 c1)) wr) := Lib.hid ⟨_, _, _, rfl, ho, hb⟩
      clear ho hb HM
      go_wp2
      go_ret
      exact HF.out
end Go.Proofs.Ytmmnnbgfomcihaa
namespace Go.Proofs.Ytmmnnbgfomcihaa
open Go.ChangeShapes Go.WideShapes Go.ChangeAt Go.RowKit
set_option linter.unusedVariables false
set_option maxRecDepth 100000 in
theorem scut (w : World) (D D' : Nat) (A A' : Option Addr) (n n' c c' : Nat) (l l' : List (Int × Int)) (h : Sl w D 2 A n c (sv l)) (h' : Sl w D' 2 A' n' c' (sv l')) (hD : D ≤ w.heap.size) (hD' : D' ≤ w.heap.size) :
    Calls Try.prog 41 #[.slice A n c, .slice A' n' c'] w (GivesS w (cutOf l l')) := by
  have H := Lib.hid h; have H' := Lib.hid h'; clear h h'
  have h0 : Hid (Own (w.alloc (.cells #[] 60)) w.heap.size 60 2 (some ⟨w.heap.size, 0, none⟩) 0 0 (sv []) ∧ Below w.heap.size w (w.alloc (.cells #[] 60))) :=
    Lib.hid ⟨Own.made0 w w.heap.size _ (Nat.le_refl _), (Below.refl _ _).alloc (Nat.le_refl _) _⟩
  obtain ⟨S, hS⟩ : ∃ S : Nat → Bool, S = fun k => tk l k && !tk l' k := ⟨_, rfl⟩
  have HS : Hid (∀ k, S k = (tk l k && !tk l' k)) := Lib.hid fun k => by rw [hS]
  have HJ : Hid (runs S 1000 = cutOf l l') := Lib.hid (by rw [hS]; rfl)
  clear hS
  go_enter Try.func41, Try.ntmps41
  go_wp2_with fail
  refine (slast _ _ A n c l (H.out.below h0.out.2 hD) (by simp; omega)).mono ?_
  rintro e w1 ⟨rfl, b1⟩
  have h1 : Hid (Own w1 w.heap.size 60 2 (some ⟨w.heap.size, 0, none⟩) 0 0 (sv (runs S 0)) ∧ Below w.heap.size w w1) :=
    Lib.hid ⟨h0.out.1.on b1, h0.out.2.trans (b1.mono (by simp))⟩
  obtain ⟨m, hm⟩ : ∃ m : Nat, (m : Int) = lastOf l := ⟨(lastOf l).toNat, by have := lastOf_bd l; omega⟩
  have hmb : m ≤ 1000 := by have := lastOf_bd l; omega
  have HM : Hid (runs S m = cutOf l l') := Lib.hid ((runs_last l S (fun k h => by rw [HS.out] at h; exact (Bool.and_eq_true_iff.1 h).1) m hm).trans HJ.out)
  rw [← hm]
  clear hm b1 h0
  go_wp2
  go_loopw [5, 7] (fun v i wr => ∃ (k : Nat) (A1 : Option Addr) (n1 c1 : Nat), k ≤ m ∧ i = .int .i64 k ∧ v = .slice A1 n1 c1 ∧ Own wr w.heap.size 60 2 A1 n1 c1 (sv (runs S k)) ∧ Below w.heap.size w wr) (fun _ i _ => m - (intOf i).toNat)
  case atStart => exact ⟨0, _, _, _, Nat.zero_le _, rfl, rfl, h1.out.1, h1.out.2⟩
  case round =>
    clear h1
    obtain ⟨k, A1, n1, c1, hk, rfl, rfl, ho, hb⟩ := hrel
    by_cases hlt : k < m
    · have hn1 : n1 ≤ 1000 := by have h2 := ho.len; rw [sv_len] at h2; have := runs_len S k; omega
      have HO := Lib.hid ho; have HB := Lib.hid hb
      clear ho hb
      obtain ⟨v, hv⟩ : ∃ v, inL l k = v := ⟨_, rfl⟩
      have HV := Lib.hid hv; clear hv
      obtain ⟨u, hu⟩ : ∃ u, inL l' k = u := ⟨_, rfl⟩
      have HU := Lib.hid hu; clear hu
      have hSk : Hid (S k = (v && !u)) := Lib.hid (by rw [HS.out]; unfold tk; rw [HV.out, HU.out])
      have hr0 : Hid ((v && !u) = false → runs S (k + 1) = runs S k) := Lib.hid (fun e => by show (if S k then _ else _) = _; rw [hSk.out, e]; rfl)
      have hr1 : Hid ((v && !u) = true → runs S (k + 1) = put (runs S k) k) := Lib.hid (fun e => by show (if S k then _ else _) = _; rw [hSk.out, e]; rfl)
      go_wp2_with fail
      refine (sinspans _ _ A n c l (H.out.below HB.out hD) (Nat.le_trans hD HB.out.size) k v HV.out).mono ?_
      rintro e w2 ⟨rfl, b2⟩
      have HO2 := Lib.hid (HO.out.on b2)
      have HB2 := Lib.hid (HB.out.trans (b2.mono HB.out.size))
      clear b2 HO HB
      cases v
      · have HF : Hid (Own w2 w.heap.size 60 2 A1 n1 c1 (sv (runs S (k + 1)))) := Lib.hid (by rw [hr0.out rfl]; exact HO2.out)
        clear hr0 hr1 hSk HO2
        go_wp2
        go_roundw
        case rel => exact ⟨k + 1, A1, n1, c1, by omega, by go_num, rfl, HF.out, HB2.out⟩
        case measure => simp [intOf]; omega
      · go_wp2_with fail
        refine (sinspans _ _ A' n' c' l' (H'.out.below HB2.out hD') (Nat.le_trans hD' HB2.out.size) k u HU.out).mono ?_
        rintro e w3 ⟨rfl, b3⟩
        have HO3 := Lib.hid (HO2.out.on b3)
        have HB3 := Lib.hid (HB2.out.trans (b3.mono HB2.out.size))
        clear b3 HO2 HB2
        cases u
        all_goals
          first
            | (have hr : Hid (runs S (k + 1) = runs S k) := Lib.hid (hr0.out rfl)
               have HF : Hid (Own w3 w.heap.size 60 2 A1 n1 c1 (sv (runs S (k + 1)))) := Lib.hid (by rw [hr.out]; exact HO3.out)
               clear hr0 hr1 hSk HO3 hr
               go_wp2
               go_roundw
               case rel => exact ⟨k + 1, A1, n1, c1, by omega, by go_num, rfl, HF.out, HB3.out⟩
               case measure => simp [intOf]; omega)
            | (have hr : Hid (runs S (k + 1) = put (runs S k) k) := Lib.hid (hr1.out rfl)
               go_wp2_with fail
               refine (sput w3 w w.heap.size A1 n1 c1 _ HO3.out HB3.out.size HB3.out (by omega) k (by omega) (by omega)).mono ?_
               rintro e w4 ⟨A4, n4, c4, rfl, o4, b4⟩
               have HF : Hid (Own w4 w.heap.size 60 2 A4 n4 c4 (sv (runs S (k + 1)))) := Lib.hid (by rw [hr.out]; exact o4)
               have HB4 := Lib.hid b4
               clear hr0 hr1 hSk hr HO3 HB3 o4 b4
               go_wp2
               go_roundw
               case rel => exact ⟨k + 1, A4, n4, c4, by omega, by go_num, rfl, HF.out, HB4.out⟩
               case measure => simp [intOf]; omega)
    · obtain rfl : k = m := by omega
      rw [HM.out] at ho
      have HF : Hid (GivesS w (cutOf l l') (.returned (.slice A1 n1 c1)) wr) := Lib.hid ⟨_, _, _, rfl, ho, hb⟩
      clear ho hb HM
      go_wp2
      go_ret
      exact HF.out
end Go.Proofs.Ytmmnnbgfomcihaa
