/- The model's SameLinks and LinksAt. -/
import Derived.Test.YtfnhfpahdgbfgaaGraphFacts
import Derived.Test.YtfnhfpahdgbfgaaSpanPut
import Derived.Test.YtfnhfpahdgbfgaaSpan
import Derived.Test.YtfnhfpahdgbfgaaApart
import Derived.BigQuiet
import Derived.Laws.StructEq
import Derived.Deep.RegionHeld3
import Derived.Deep.Cut
import Derived.Deep.DeepCutAuto
import Derived.Deep.CutRange
namespace Go.Proofs.Ytfnhfpahdgbfgaa
open Go.ChangeShapes Go.WideShapes Go.ChangeAt Go.RowKit
set_option linter.unusedVariables false
theorem take_all_eq {α : Type} {l m : List α} (h : l.length = m.length) (h2 : l.take l.length = m.take l.length) : l = m := by
  rw [List.take_length, h, List.take_length] at h2; exact h2
theorem memTake (L : List (Int × Int)) (r : Int × Int) (j : Nat) (h : j < L.length) : decide (r ∈ L.take (j + 1)) = (decide (r ∈ L.take j) || decide (L[j] = r)) := by
  rw [List.take_succ_eq_append_getElem h, Bool.eq_iff_iff]
  simp only [decide_eq_true_eq, Bool.or_eq_true, List.mem_append, List.mem_singleton]
  constructor
  · rintro (h | h)
    · exact .inl h
    · exact .inr h.symm
  · rintro (h | h)
    · exact .inl h
    · exact .inr h.symm
theorem take_eq_step {α : Type} {l m : List α} {k : Nat} (hl : k < l.length) (hm : k < m.length) : l.take (k + 1) = m.take (k + 1) ↔ l.take k = m.take k ∧ l[k] = m[k] := by
  rw [List.take_succ_eq_append_getElem hl, List.take_succ_eq_append_getElem hm]
  constructor
  · intro h
    have := List.append_inj h (by simp; omega)
    exact ⟨this.1, by simpa using this.2⟩
  · rintro ⟨h1, h2⟩; rw [h1, h2]
/-- what a function that answers a list of links answers -/
def GivesK (w : World) (l : List (Int × Int)) (e : Ending) (w' : World) : Prop := ∃ A' n' c', e = .returned (.slice A' n' c') ∧ Own w' w.heap.size 59 2 A' n' c' (sv l) ∧ Below w.heap.size w w'
theorem linkK_info : (Try.prog.info? 59).map (fun i => (i.zero, i.size, i.bytes)) = some (some (.agg #[.int .i64 0, .int .i64 0]), 2, 16) := by kernel_rfl
theorem below_drawnK {B : Nat} {a w : World} (h : Below B a w) (n : Nat) : Below B a (w.drewN n) := ⟨h.os, h.tape, h.output, h.size, h.block⟩
set_option maxRecDepth 100000 in
set_option maxHeartbeats 1000000 in
theorem ssame (w : World) (D D' : Nat) (A A' : Option Addr) (n n' c c' : Nat) (l m : List (Int × Int)) (h : Sl w D 2 A n c (sv l)) (h' : Sl w D' 2 A' n' c' (sv m)) (hD : D ≤ w.heap.size) (hD' : D' ≤ w.heap.size) (b : Bool) (hb : decide (l = m) = b) :
    Calls Try.prog 26 #[.slice A n c, .slice A' n' c'] w (Says w b) := by
  have hna : n = l.length := by have h1 := h.len; rw [sv_len] at h1; omega
  have hnb : n' = m.length := by have h1 := h'.len; rw [sv_len] at h1; omega
  subst hna hnb
  have hcap := h.cap; have hcapm := h.capm; have hcap' := h'.cap; have hcapm' := h'.capm
  have HS := Lib.hid h; have HS' := Lib.hid h'; have HB := Lib.hid hb
  clear h h' hb
  by_cases hll : l.length = m.length
  case neg =>
    obtain rfl : b = false := by rw [← HB.out]; exact decide_eq_false fun e => hll (by rw [e])
    have hne : ((l.length : Int) == (m.length : Int)) = false := by simp; omega
    have hne2 : ((l.length : Int) != (m.length : Int)) = true := by simp; omega
    go_enter Try.func26, Try.ntmps26
    go_wp2_with fail
    go_ret
    exact ⟨rfl, Below.refl _ _⟩
  case pos =>
    have hne2 : ((l.length : Int) != (m.length : Int)) = false := by simp; omega
    have HLL := Lib.hid hll
    clear hll
    go_enter Try.func26, Try.ntmps26
    go_wp2_with fail
    go_loopw [5] (fun i wr => ∃ k : Nat, k ≤ l.length ∧ i = .int .i64 k ∧ Hid (l.take k = m.take k) ∧ Below w.heap.size w wr) (fun i _ => l.length - (intOf i).toNat)
    case atStart => exact ⟨0, Nat.zero_le _, rfl, Lib.hid rfl, Below.refl _ _⟩
    case round =>
      obtain ⟨k, hk, rfl, hi, hbw⟩ := hrel
      have HBW := Lib.hid hbw
      clear hbw
      by_cases hlt : k < l.length
      case neg =>
        obtain rfl : k = l.length := by omega
        obtain rfl : b = true := by rw [← HB.out]; exact decide_eq_true (take_all_eq HLL.out hi.out)
        go_wp2_with fail
        go_ret
        exact ⟨rfl, HBW.out⟩
      case pos =>
        have hltm : k < m.length := by have := HLL.out; omega
        obtain ⟨ad, hx, rfl, had, p0, p1⟩ := (HS.out.below HBW.out hD).two hlt
        obtain ⟨bd, hx', rfl, hbd, q0, q1⟩ := (HS'.out.below HBW.out hD').two hltm
        have HST : Hid (l[k] = m[k] → l.take (k + 1) = m.take (k + 1)) := Lib.hid fun e => (take_eq_step hlt hltm).2 ⟨hi.out, e⟩
        have HNE : Hid (l[k] ≠ m[k] → b = false) := Lib.hid fun e => by
          rw [← HB.out]
          exact decide_eq_false fun e2 => e (by subst e2; rfl)
        obtain ⟨x, hxx⟩ : ∃ x, x = l[k] := ⟨_, rfl⟩
        obtain ⟨y, hyy⟩ : ∃ x, x = m[k] := ⟨_, rfl⟩
        rw [← hxx] at p0 p1 HST HNE; rw [← hyy] at q0 q1 HST HNE
        clear hxx hyy
        obtain ⟨x1, x2⟩ := x
        obtain ⟨y1, y2⟩ := y
        simp only at p0 p1 q0 q1
        have hk0 : (0 : Int) ≤ (k : Int) := by omega
        have hkl : (k : Int) < (l.length : Int) := by omega
        have hkm : (k : Int) < (m.length : Int) := by omega
        by_cases h1 : x1 = y1 ∧ x2 = y2
        case pos =>
          obtain ⟨rfl, rfl⟩ := h1
          replace HST := Lib.hid (HST.out rfl)
          clear HNE
          go_wp2_with fail
          go_quiet (fail)
          have HB2 : Hid (Below w.heap.size w (wr.drewN nq)) := Lib.hid ⟨HBW.out.os, HBW.out.tape, HBW.out.output, HBW.out.size, HBW.out.block⟩
          go_wp2_with fail
          go_roundw
          case rel => exact ⟨k + 1, by omega, by go_num, HST, HB2.out⟩
          case measure => simp [intOf]; omega
        case neg =>
          obtain rfl : b = false := HNE.out (fun e => h1 (by injection e with a b; exact ⟨a, b⟩))
          have HNN := Lib.hid h1
          by_cases h2 : x1 = y1
          · subst h2
            have h3 : (x2 == y2) = false := by simp; intro e; exact h1 ⟨rfl, e⟩
            clear h1
            go_wp2_with fail
            go_quiet (fail)
            have HB2 : Hid (Below w.heap.size w (wr.drewN nq)) := Lib.hid ⟨HBW.out.os, HBW.out.tape, HBW.out.output, HBW.out.size, HBW.out.block⟩
            go_wp2_with fail
            go_ret
            exact ⟨rfl, HB2.out⟩
          · have h3 : (x1 == y1) = false := by simpa using h2
            clear h1 h2
            go_wp2_with fail
            go_quiet (fail)
            have HB2 : Hid (Below w.heap.size w (wr.drewN nq)) := Lib.hid ⟨HBW.out.os, HBW.out.tape, HBW.out.output, HBW.out.size, HBW.out.block⟩
            go_wp2_with fail
            go_ret
            exact ⟨rfl, HB2.out⟩
set_option maxRecDepth 100000 in
set_option maxHeartbeats 2000000 in
theorem slinks (w : World) (D : Nat) (A : Option Addr) (n c : Nat) (l : List Sat4) (h : Sl w D 4 A n c (fl c4 l)) (hD : D ≤ w.heap.size) (hn : n ≤ 16777216) (t : Int) :
    Calls Try.prog 18 #[.slice A n c, .int .i64 t] w (GivesK w (linksL l t)) := by
  obtain ⟨i0, hi0, hy0, hy1, hy2⟩ := info_parts linkK_info
  obtain rfl := h.num c4_len (by omega)
  have HS := Lib.hid h
  have hcap := h.cap; have hcapm := h.capm
  clear h
  have hfirst : Hid (Own (w.alloc (.cells #[] 59)) w.heap.size 59 2 (some ⟨w.heap.size, 0, none⟩) 0 0 (sv (linksL (l.take 0) t)) ∧ Below w.heap.size w (w.alloc (.cells #[] 59))) := Lib.hid ⟨Own.made0 w w.heap.size _ (Nat.le_refl _), (Below.refl _ _).alloc (Nat.le_refl _) _⟩
  go_enter Try.func18, Try.ntmps18
  go_wp2_with fail
  go_loopw [5, 6] (fun o i wr => ∃ (k : Nat) (A1 : Option Addr) (n1 c1 : Nat), k ≤ l.length ∧ i = .int .i64 k ∧ o = .slice A1 n1 c1 ∧ Own wr w.heap.size 59 2 A1 n1 c1 (sv (linksL (l.take k) t)) ∧ Below w.heap.size w wr) (fun _ i _ => l.length - (intOf i).toNat)
  case atStart => exact ⟨0, _, _, _, Nat.zero_le _, rfl, rfl, hfirst.out⟩
  case round =>
    clear hfirst
    obtain ⟨k, A1, n1, c1, hk, rfl, rfl, ho, hb⟩ := hrel
    have HO := Lib.hid ho; have HB := Lib.hid hb
    clear ho hb
    by_cases hlt : k < l.length
    case neg =>
      obtain rfl : k = l.length := by omega
      have HF : Hid (GivesK w (linksL l t) (.returned (.slice A1 n1 c1)) wr) := Lib.hid ⟨_, _, _, rfl, by have h := HO.out; rw [List.take_length] at h; exact h, HB.out⟩
      clear hi0 hy0 hy1 hy2
      go_wp2_with fail
      go_ret
      exact HF.out
    case pos =>
      obtain ⟨ad, hx, rfl, had, c0, c1', c2', c3'⟩ := (HS.out.below HB.out hD).four hlt
      have HT := Lib.hid (linksL_snoc l k hlt t)
      obtain ⟨z, hz⟩ : ∃ z, z = l[k] := ⟨_, rfl⟩
      rw [← hz] at HT c0 c1' c2' c3'
      have HCB : Hid (∀ w', Below w.heap.size w w' → w'.cell? (ad.add (k * 4)) = some (.int .i64 z.p) ∧ w'.cell? ⟨(ad.add (k * 4)).block, (ad.add (k * 4)).off + 1, none⟩ = some (.int .i64 z.h) ∧ w'.cell? ⟨(ad.add (k * 4)).block, (ad.add (k * 4)).off + 2, none⟩ = some (.int .i64 z.v) ∧ w'.cell? ⟨(ad.add (k * 4)).block, (ad.add (k * 4)).off + 3, none⟩ = some (.int .i64 z.e)) := Lib.hid fun w' hb => by
        obtain ⟨ad', hx', e, had', q0, q1, q2, q3⟩ := (HS.out.below hb hD).four hlt
        injection e with e; rw [e, hz]; exact ⟨q0, q1, q2, q3⟩
      clear hz
      obtain ⟨p, q, f, s⟩ := z
      simp only at c0 c1' c2' c3' HCB
      have hk0 : (0 : Int) ≤ (k : Int) := by omega
      have hkl : (k : Int) < (l.length : Int) := by omega
      obtain ⟨L, hL⟩ : ∃ L, L = linksL (l.take k) t := ⟨_, rfl⟩
      have hLn : L.length ≤ 16777216 := by
        rw [hL]
        have h1 := linksL_len (l.take k) t
        rw [List.length_take] at h1; omega
      rw [← hL] at HO HT
      clear hL
      have hn1 : n1 = L.length := by have h2 := HO.out.len; rw [sv_len] at h2; omega
      subst hn1
      have b1 : Below wr.heap.size wr (wr.alloc (.cells #[.int .i64 0, .int .i64 0] 59)) := (Below.refl _ _).alloc (Nat.le_refl _) _
      obtain ⟨a0, a1, -, -⟩ := HCB.out _ (HB.out.trans (b1.mono HB.out.size))
      clear b1
      go_wp2_with fail
      go_region
      go_upto_region 6 with fail
      obtain ⟨W1, hW1⟩ : ∃ W, W = (wr.alloc (.cells #[.int .i64 p, .int .i64 q] 59)).drew := ⟨_, rfl⟩
      obtain ⟨T, hT⟩ : ∃ g, g = wr.heap.size := ⟨_, rfl⟩
      have b1 : Below wr.heap.size wr W1 := by rw [hW1]; exact ((Below.refl _ _).alloc (Nat.le_refl _) _).drew
      have Z1 : Hid (Blk W1 T 59 #[.int .i64 p, .int .i64 q]) := Lib.hid (by rw [hW1, hT]; exact (Blk.new _ _ _).drew)
      have HO1 := Lib.hid (HO.out.on b1); have HB1 := Lib.hid (HB.out.trans (b1.mono HB.out.size))
      rw [← hW1, ← hT]
      clear hW1 hT b1 c0 c1' c2' c3' a0 a1 HO HB
      have hcap1 := HO1.out.capm
      have HC : Hid (∀ w', Below W1.heap.size W1 w' → Sl w' W1.heap.size 2 A1 L.length c1 (sv L) ∧ Blk w' T 59 #[.int .i64 p, .int .i64 q] ∧ Below w.heap.size w w' ∧ Own w' w.heap.size 59 2 A1 L.length c1 (sv L)) := Lib.hid fun w' hb => ⟨HO1.out.sl.below hb (Nat.le_refl _), Z1.out.below hb Z1.out.lt, HB1.out.trans (hb.mono HB1.out.size), HO1.out.on hb⟩
      go_wp2_with fail
      go_loopw [8, 9] (fun v j w2 => ∃ (j0 : Nat) (b : Bool), j0 ≤ L.length ∧ j = .int .i64 j0 ∧ v = .bool b ∧ Hid (decide ((p, q) ∈ L.take j0) = b) ∧ Below W1.heap.size W1 w2) (fun _ j _ => L.length - (intOf j).toNat)
      case atStart => exact ⟨0, false, Nat.zero_le _, rfl, rfl, Lib.hid (by simp), Below.refl _ _⟩
      case round =>
        clear HO1 HB1 Z1
        obtain ⟨j0, b, hj, rfl, rfl, hv, hb⟩ := hrel
        have HBW := Lib.hid hb
        clear hb
        have hj0 : (0 : Int) ≤ (j0 : Int) := by omega
        by_cases hlj : j0 < L.length
        case pos =>
          have hjl : (j0 : Int) < (L.length : Int) := by omega
          obtain ⟨gd, hx3, rfl, hgd, p0, p1⟩ := (HC.out _ HBW.out).1.two hlj
          have t0 : wr.cell? ⟨T, 0, none⟩ = some (.int .i64 p) := (HC.out _ HBW.out).2.1.cell 0
          have t1 : wr.cell? ⟨T, 1, none⟩ = some (.int .i64 q) := (HC.out _ HBW.out).2.1.cell 1
          have HST := Lib.hid (memTake L (p, q) j0 hlj)
          obtain ⟨y, hyy⟩ : ∃ x, x = L[j0] := ⟨_, rfl⟩
          rw [← hyy] at p0 p1 HST
          clear hyy
          obtain ⟨y1, y2⟩ := y
          simp only at p0 p1
          cases b
          case true =>
            have HN : Hid (decide ((p, q) ∈ L.take (j0 + 1)) = true) := Lib.hid (by rw [HST.out, hv.out]; rfl)
            clear hv
            go_wp2_with fail
            go_quiet (first | fail)
            have HB2 := Lib.hid (below_drawnK HBW.out nq)
            go_wp2_with fail
            go_roundw
            case rel => exact ⟨j0 + 1, true, by omega, by go_num, rfl, HN, HB2.out⟩
            case measure => simp [intOf]; omega
          case false =>
            have HN : Hid (decide ((p, q) ∈ L.take (j0 + 1)) = decide ((y1, y2) = (p, q))) := Lib.hid (by rw [HST.out, hv.out]; rfl)
            clear hv HST
            by_cases h1 : y1 = p
            · subst h1
              by_cases h2 : y2 = q
              · subst h2
                replace HN : Hid (decide ((y1, y2) ∈ L.take (j0 + 1)) = true) := Lib.hid (by rw [HN.out]; simp)
                go_wp2_with fail
                go_quiet (first | fail)
                have HB2 := Lib.hid (below_drawnK HBW.out nq)
                go_wp2_with fail
                go_roundw
                case rel => exact ⟨j0 + 1, true, by omega, by go_num, rfl, HN, HB2.out⟩
                case measure => simp [intOf]; omega
              · replace HN : Hid (decide ((y1, q) ∈ L.take (j0 + 1)) = false) := Lib.hid (by rw [HN.out]; simp [h2])
                have h3 : (y2 == q) = false := by simpa using h2
                clear h2
                go_wp2_with fail
                go_quiet (first | fail)
                have HB2 := Lib.hid (below_drawnK HBW.out nq)
                go_wp2_with fail
                go_roundw
                case rel => exact ⟨j0 + 1, false, by omega, by go_num, rfl, HN, HB2.out⟩
                case measure => simp [intOf]; omega
            · replace HN : Hid (decide ((p, q) ∈ L.take (j0 + 1)) = false) := Lib.hid (by rw [HN.out]; simp [h1])
              have h3 : (y1 == p) = false := by simpa using h1
              clear h1
              go_wp2_with fail
              go_quiet (first | fail)
              have HB2 := Lib.hid (below_drawnK HBW.out nq)
              go_wp2_with fail
              go_roundw
              case rel => exact ⟨j0 + 1, false, by omega, by go_num, rfl, HN, HB2.out⟩
              case measure => simp [intOf]; omega
        case neg =>
          obtain rfl : j0 = L.length := by omega
          rw [List.take_length] at hv
          cases b
          case true =>
            have HF : Hid (Own wr w.heap.size 59 2 A1 L.length c1 (sv (linksL (l.take (k + 1)) t)) ∧ Below w.heap.size w wr) := Lib.hid ⟨by
              rw [HT.out]; unfold linkStep
              rw [if_neg (fun h => h.2 (by simpa [conN] using of_decide_eq_true hv.out))]
              exact (HC.out _ HBW.out).2.2.2, (HC.out _ HBW.out).2.2.1⟩
            clear hv
            go_wp2_with fail
            go_quiet (first | fail)
            have HF2 : Hid (Own (wr.drewN nq) w.heap.size 59 2 A1 L.length c1 (sv (linksL (l.take (k + 1)) t)) ∧ Below w.heap.size w (wr.drewN nq)) := Lib.hid ⟨HF.out.1.on (below_drawnK (Below.refl _ _) nq), below_drawnK HF.out.2 nq⟩
            go_wp2_with fail
            go_roundw
            case rel => exact ⟨k + 1, A1, L.length, c1, by omega, by go_num, rfl, HF2.out⟩
            case measure => simp [intOf]; omega
          case false =>
            obtain ⟨u, hu⟩ : ∃ u, inS (f, s) t = u := ⟨_, rfl⟩
            have HU := Lib.hid hu
            have HNM : Hid ((p, q) ∉ L) := Lib.hid (of_decide_eq_false hv.out)
            clear hu hv
            obtain ⟨a0, a1, a2, a3⟩ := HCB.out _ (HC.out _ HBW.out).2.2.1
            have hc0 : wr.cell? ⟨(ad.add (k * 4)).block, (ad.add (k * 4)).off + 2, none⟩ = some (.int .i64 f) ∧ wr.cell? ⟨(ad.add (k * 4)).block, (ad.add (k * 4)).off + 3, none⟩ = some (.int .i64 s) := ⟨a2, a3⟩
            have HBD : Hid (Below W1.heap.size W1 wr.drew) := Lib.hid HBW.out.drew
            clear a0 a1 a2 a3
            go_wp2_with fail
            go_region_held3 (fun w' => w'.cell? ⟨(ad.add (k * 4)).block, (ad.add (k * 4)).off + 2, none⟩ = some (.int .i64 f) ∧ w'.cell? ⟨(ad.add (k * 4)).block, (ad.add (k * 4)).off + 3, none⟩ = some (.int .i64 s)) (first | exact hc0 | exact hcA | go_keep) (first
              | (go_at_call 46; refine (sinspan wr.drew f s t u HU.out).mono ?_; rintro e wA ⟨rfl, bA⟩; have HBA := Lib.hid (HBD.out.trans (bA.mono HBD.out.size)); have hcA : wA.cell? ⟨(ad.add (k * 4)).block, (ad.add (k * 4)).off + 2, none⟩ = some (.int .i64 f) ∧ wA.cell? ⟨(ad.add (k * 4)).block, (ad.add (k * 4)).off + 3, none⟩ = some (.int .i64 s) := (HCB.out _ (HC.out _ HBA.out).2.2.1).2.2; clear bA))
            cases u
            case false =>
              have HF : Hid (Own wA w.heap.size 59 2 A1 L.length c1 (sv (linksL (l.take (k + 1)) t)) ∧ Below w.heap.size w wA) := Lib.hid ⟨by
                rw [HT.out]; unfold linkStep
                rw [if_neg (fun h => by have h1 := h.1; simp only [conS] at h1; rw [HU.out] at h1; cases h1)]
                exact (HC.out _ HBA.out).2.2.2, (HC.out _ HBA.out).2.2.1⟩
              go_wp2_with fail
              go_roundw
              case rel => exact ⟨k + 1, A1, L.length, c1, by omega, by go_num, rfl, HF.out⟩
              case measure => simp [intOf]; omega
            case true =>
              have HAPP : Hid (sv (linksL (l.take (k + 1)) t) = sv L ++ [.int .i64 p, .int .i64 q]) := Lib.hid (by
                rw [HT.out]; unfold linkStep
                rw [if_pos ⟨HU.out, HNM.out⟩, sv_app]; rfl)
              have t0 : wA.cell? ⟨T, 0, none⟩ = some (.int .i64 p) := (HC.out _ HBA.out).2.1.cell 0
              have t1 : wA.cell? ⟨T, 1, none⟩ = some (.int .i64 q) := (HC.out _ HBA.out).2.1.cell 1
              have b3 : Below wA.heap.size wA (wA.alloc (.cells #[.int .i64 p, .int .i64 q] 59)) := (Below.refl _ _).alloc (Nat.le_refl _) _
              have HO3 := Lib.hid ((HC.out _ HBA.out).2.2.2.on b3)
              have HB3 := Lib.hid ((HC.out _ HBA.out).2.2.1.trans (b3.mono (HC.out _ HBA.out).2.2.1.size))
              have hsz : w.heap.size ≤ (wA.alloc (.cells #[.int .i64 p, .int .i64 q] 59)).heap.size := HB3.out.size
              have hb16 : (L.length + 1) * 16 ≤ 140737488355328 := by omega
              clear b3 hcA hc0
              go_wp2_with (at_builtin; go_loud (refine wpList_append_sl _ rfl (.tmp 60) (.tmp 62) 32 rfl w.heap.size 59 i0 _ 2 16 Try.underlying32 hi0 hy0 hy1 hy2 rfl (by omega) A1 L.length c1 (sv L) rfl HO3.out (wA.heap.size + 1) _ 1 1 [.int .i64 p, .int .i64 q] rfl (Sl.one2 wA _ _ _) (by simp [Value.oneCell']) (by omega) hb16 hsz ?_; intro A5 c5 w5 hown5 hg5 hat5; have HF : Hid (Own w5 w.heap.size 59 2 A5 (L.length + 1) c5 (sv (linksL (l.take (k + 1)) t)) ∧ Below w.heap.size w w5) := Lib.hid ⟨by rw [HAPP.out]; exact hown5, HB3.out.grown hg5 HB3.out.size (fun j hj => (HO3.out.row.lt j hj).1)⟩; clear hown5 hg5 hat5))
              go_roundw
              case rel => exact ⟨k + 1, A5, L.length + 1, c5, by omega, by go_num, rfl, HF.out⟩
              case measure => simp [intOf]; omega
end Go.Proofs.Ytfnhfpahdgbfgaa
