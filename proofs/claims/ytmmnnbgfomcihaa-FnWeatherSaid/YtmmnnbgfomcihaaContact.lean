/- The program's IsContact, IsPlan, CanSpeak and ContactTicks. -/
import Derived.Test.YtmmnnbgfomcihaaContactFacts
import Derived.Test.YtmmnnbgfomcihaaSpan
import Derived.Test.YtmmnnbgfomcihaaInts
import Derived.Test.YtmmnnbgfomcihaaApart
import Derived.BigQuiet
namespace Go.Proofs.Ytmmnnbgfomcihaa
open Go.ChangeShapes Go.WideShapes Go.ChangeAt Go.RowKit
set_option linter.unusedVariables false
theorem ispan (w : World) (p q f t : Int) :
    Calls Try.prog 37 #[.agg #[.int .i64 p, .int .i64 q, .int .i64 f, .int .i64 t]] w fun e w' => e = .returned (.agg #[.int .i64 f, .int .i64 t]) ∧ Below w.heap.size w w' := by
  go_enter Try.func37, Try.ntmps37
  go_wp2
  (try simp only [Exit.inBlock, Exit.then])
  refine bodyPost_ret (v := .agg #[.int .i64 f, .int .i64 t]) (by simp [results, Try.results37, go_sem]; try rfl) rfl ⟨rfl, ?_⟩
  exact ((Below.refl _ _).alloc (Nat.le_refl _) _).alloc (by simp) _
set_option maxRecDepth 100000 in
theorem ibefore (w : World) (p q f t p' q' f' t' : Int) (b : Bool) (hb : conLt ⟨p, q, f, t⟩ ⟨p', q', f', t'⟩ = b) :
    Calls Try.prog 47 #[.agg #[.int .i64 p, .int .i64 q, .int .i64 f, .int .i64 t], .agg #[.int .i64 p', .int .i64 q', .int .i64 f', .int .i64 t']] w (Says w b) := by
  unfold conLt at hb
  simp only at hb
  by_cases h1 : p = p'
  · subst h1
    rw [if_neg (by simp)] at hb
    by_cases h2 : q = q'
    · subst h2
      rw [if_neg (by simp)] at hb
      have HB := Lib.hid hb
      clear hb
      go_enter Try.func47, Try.ntmps47
      go_wp2
      rw [HB.out]
      go_ret
      exact ⟨rfl, ((Below.refl _ _).alloc (Nat.le_refl _) _).alloc (by simp) _⟩
    · rw [if_pos h2] at hb
      have h2' : (q != q') = true := by simpa using h2
      have HB := Lib.hid hb
      clear hb
      go_enter Try.func47, Try.ntmps47
      go_wp2
      rw [HB.out]
      go_ret
      exact ⟨rfl, ((Below.refl _ _).alloc (Nat.le_refl _) _).alloc (by simp) _⟩
  · rw [if_pos h1] at hb
    have h1' : (p != p') = true := by simpa using h1
    have HB := Lib.hid hb
    clear hb
    go_enter Try.func47, Try.ntmps47
    go_wp2
    rw [HB.out]
    go_ret
    exact ⟨rfl, ((Below.refl _ _).alloc (Nat.le_refl _) _).alloc (by simp) _⟩
set_option maxRecDepth 100000 in
theorem iiscontact (w : World) (p q f t n : Int) (b : Bool) (hb : conOk n ⟨p, q, f, t⟩ = b) :
    Calls Try.prog 46 #[.agg #[.int .i64 p, .int .i64 q, .int .i64 f, .int .i64 t], .int .i64 n] w (Says w b) := by
  unfold conOk conS at hb
  simp only at hb
  by_cases h1 : 0 ≤ p
  · by_cases h2 : p < q
    · by_cases h3 : q < n
      · rw [decide_eq_true ⟨h1, h2, h3⟩, Bool.true_and] at hb
        have HB := Lib.hid hb
        clear hb
        go_enter Try.func46, Try.ntmps46
        go_wp2_with fail
        refine (ispan _ p q f t).mono ?_
        rintro e w1 ⟨rfl, b1⟩
        have HF := Lib.hid (((Below.refl w.heap.size w).alloc (Nat.le_refl _) (.cells #[.int .i64 p, .int .i64 q, .int .i64 f, .int .i64 t] 57)).trans (b1.mono (by simp)))
        clear b1
        go_wp2_with fail
        refine (iisspan _ f t b HB.out).mono ?_
        rintro e w2 ⟨rfl, b2⟩
        have HG := Lib.hid (HF.out.trans (b2.mono HF.out.size))
        clear b2
        go_wp2_with fail
        go_ret
        exact ⟨rfl, HG.out⟩
      · rw [decide_eq_false (by omega), Bool.false_and] at hb
        subst hb
        go_enter Try.func46, Try.ntmps46
        go_wp2
        go_ret
        exact ⟨rfl, (Below.refl _ _).alloc (Nat.le_refl _) _⟩
    · rw [decide_eq_false (by omega), Bool.false_and] at hb
      subst hb
      go_enter Try.func46, Try.ntmps46
      go_wp2
      go_ret
      exact ⟨rfl, (Below.refl _ _).alloc (Nat.le_refl _) _⟩
  · rw [decide_eq_false (by omega), Bool.false_and] at hb
    subst hb
    go_enter Try.func46, Try.ntmps46
    go_wp2
    go_ret
    exact ⟨rfl, (Below.refl _ _).alloc (Nat.le_refl _) _⟩
set_option maxRecDepth 100000 in
set_option maxHeartbeats 1000000 in
theorem iisplan (w : World) (D : Nat) (A : Option Addr) (n c : Nat) (l : List Sat4) (h : Sl w D 4 A n c (fl c4 l)) (hD : D ≤ w.heap.size) (nodes : Int) (b : Bool) (hb : b = true ↔ PlanOk nodes l) :
    Calls Try.prog 15 #[.slice A n c, .int .i64 nodes] w (Says w b) := by
  obtain rfl := h.num c4_len (by omega)
  have HS := Lib.hid h; have HB := Lib.hid hb
  have hcap := h.cap; have hcapm := h.capm
  clear h hb
  obtain ⟨QQ, hQ⟩ : ∃ QQ : World → Prop, ∀ wr, QQ wr ↔ Below w.heap.size w wr := ⟨_, fun _ => Iff.rfl⟩
  have HQ0 : Hid (QQ w) := Lib.hid ((hQ _).2 (Below.refl _ _))
  have HQ1 : Hid (∀ wr wr', QQ wr → Below wr.heap.size wr wr' → QQ wr') := Lib.hid fun wr wr' h h' => (hQ _).2 (((hQ _).1 h).trans (h'.mono ((hQ _).1 h).size))
  have HQA : Hid (∀ wr o, QQ wr → QQ (wr.alloc o)) := Lib.hid fun wr o h => HQ1.out _ _ h ((Below.refl _ _).alloc (Nat.le_refl _) o)
  have HQQ := Lib.hid hQ
  clear hQ
  go_enter Try.func15, Try.ntmps15
  go_wp2_with fail
  go_loopw [9] (fun iv wr => ∃ k : Nat, k ≤ l.length ∧ iv = .int .i64 k ∧ (∀ i, (h : i < l.length) → i < k → conOk nodes l[i] = true ∧ (∀ j, (hj : j + 1 = i) → conLt (l[j]'(by omega)) l[i] = true)) ∧ QQ wr) (fun iv _ => l.length - (intOf iv).toNat)
  case atStart => exact ⟨0, Nat.zero_le _, rfl, fun i _ h => absurd h (by omega), HQ0.out⟩
  case round =>
    clear HQ0
    obtain ⟨k, hk, rfl, hall, hq⟩ := hrel
    have HALL := Lib.hid hall; have HQ := Lib.hid hq
    clear hall hq
    by_cases hlt : k < l.length
    case neg =>
      obtain rfl : k = l.length := by omega
      obtain rfl : b = true := HB.out.2 (planOk_all HALL.out)
      have HF := Lib.hid ((HQQ.out _).1 HQ.out)
      go_wp2_with fail
      go_ret
      exact ⟨rfl, HF.out⟩
    case pos =>
      have HSX : Hid (∀ x, QQ x → Sl x D 4 A l.length c (fl c4 l)) := Lib.hid fun x hx => HS.out.below ((HQQ.out _).1 hx) hD
      obtain ⟨ad, hx, rfl, had, q0⟩ := (HSX.out _ HQ.out).four hlt
      have HR : Hid (∀ x, QQ x → ∀ (i : Nat) (hi : i < l.length), x.cell? (ad.add (i * 4)) = some (.int .i64 l[i].p) ∧ x.cell? ⟨(ad.add (i * 4)).block, (ad.add (i * 4)).off + 1, none⟩ = some (.int .i64 l[i].h) ∧ x.cell? ⟨(ad.add (i * 4)).block, (ad.add (i * 4)).off + 2, none⟩ = some (.int .i64 l[i].v) ∧ x.cell? ⟨(ad.add (i * 4)).block, (ad.add (i * 4)).off + 3, none⟩ = some (.int .i64 l[i].e)) := Lib.hid fun x hq i hi => by
        obtain ⟨ad', hx', e, had', q⟩ := (HSX.out x hq).four hi
        injection e with e; rw [e]; exact q
      obtain ⟨z, hz⟩ : ∃ z, z = l[k] := ⟨_, rfl⟩
      have HZ := Lib.hid hz
      rw [← hz] at q0
      clear hz
      obtain ⟨p, q, f, t⟩ := z
      simp only at q0
      obtain ⟨c0, c1, c2, c3⟩ := q0
      obtain ⟨v, hv⟩ : ∃ v, conOk nodes ⟨p, q, f, t⟩ = v := ⟨_, rfl⟩
      have HV := Lib.hid hv
      clear hv
      have hk0 : (0 : Int) ≤ (k : Int) := by omega
      have hkl : (k : Int) < (l.length : Int) := by omega
      obtain ⟨W1, hW1⟩ : ∃ W, W = wr.alloc (.cells #[.int .i64 p, .int .i64 q, .int .i64 f, .int .i64 t] 57) := ⟨_, rfl⟩
      obtain ⟨G, hG⟩ : ∃ g, g = wr.heap.size := ⟨_, rfl⟩
      have Z1 : Hid (Blk W1 G 57 #[.int .i64 p, .int .i64 q, .int .i64 f, .int .i64 t]) := Lib.hid (by rw [hW1, hG]; exact Blk.new _ _ _)
      have Q1 : Hid (QQ W1) := Lib.hid (by rw [hW1]; exact HQA.out _ _ HQ.out)
      obtain ⟨RR, hR⟩ : ∃ RR : World → Prop, ∀ x, RR x ↔ QQ x ∧ Below W1.heap.size W1 x := ⟨_, fun _ => Iff.rfl⟩
      have HR1 : Hid (∀ x x', RR x → Below x.heap.size x x' → RR x') := Lib.hid fun x x' h h' => (hR _).2 ⟨HQ1.out _ _ ((hR _).1 h).1 h', ((hR _).1 h).2.trans (h'.mono ((hR _).1 h).2.size)⟩
      have HR0 : Hid (RR W1) := Lib.hid ((hR _).2 ⟨Q1.out, Below.refl _ _⟩)
      have HRQ : Hid (∀ x, RR x → QQ x) := Lib.hid fun x h => ((hR _).1 h).1
      have HZR : Hid (∀ x, RR x → Blk x G 57 #[.int .i64 p, .int .i64 q, .int .i64 f, .int .i64 t]) := Lib.hid fun x h => Z1.out.below ((hR _).1 h).2 Z1.out.lt
      clear hR Z1 Q1
      go_wp2_with fail
      rw [← hW1, ← hG]
      clear hW1 hG c0 c1 c2 c3
      have a0 : ∀ x : Wld RR, x.w.cell? ⟨G, 0, none⟩ = some (.int .i64 p) := fun x => (HZR.out _ x.h).cell 0
      have a1 : ∀ x : Wld RR, x.w.cell? ⟨G, 1, none⟩ = some (.int .i64 q) := fun x => (HZR.out _ x.h).cell 1
      have a2 : ∀ x : Wld RR, x.w.cell? ⟨G, 2, none⟩ = some (.int .i64 f) := fun x => (HZR.out _ x.h).cell 2
      have a3 : ∀ x : Wld RR, x.w.cell? ⟨G, 3, none⟩ = some (.int .i64 t) := fun x => (HZR.out _ x.h).cell 3
      have hne : Nonempty (Wld RR) := ⟨⟨_, HR0.out⟩⟩
      cases v
      case false =>
        go_wp2_with fail
        refine wp_region_quiet_cls (C := fun w' => ∃ x : Wld RR, w' = x.w) (by kernel_rfl) (by kernel_rfl) ⟨⟨_, HR1.out _ _ HR0.out (Below.refl _ _).drew⟩, rfl⟩ ?_
        repeat (go_big_quiet_step (first
          | (go_at_call 46; rename_i x; refine (iiscontact x.w p q f t nodes _ HV.out).mono ?_; rintro e w' ⟨rfl, hb⟩; exact ⟨rfl, ⟨⟨_, HR1.out _ _ x.h hb⟩, rfl⟩⟩)))
        refine wpQuiet_nil ?_
        rintro _ ⟨⟨wq, hwq⟩, rfl⟩
        obtain rfl : b = false := by
          cases b
          · rfl
          · have h1 := (HB.out.1 rfl).1 _ (List.getElem_mem hlt)
            rw [← HZ.out, HV.out] at h1; cases h1
        have HF := Lib.hid ((HQQ.out _).1 (HRQ.out _ hwq))
        clear a0 a1 a2 a3 hne
        go_wp2_with fail
        go_ret
        exact ⟨rfl, HF.out⟩
      case true =>
        by_cases hk1 : 0 < k
        case neg =>
          have hd : decide (0 < k) = false := decide_eq_false hk1
          clear hk1
          have HFIN := Lib.hid (planOk_step hlt HALL.out (by rw [← HZ.out]; exact HV.out) (fun j hj => by simp at hd; omega))
          go_wp2_with fail
          refine wp_region_quiet_cls (C := fun w' => ∃ x : Wld RR, w' = x.w) (by kernel_rfl) (by kernel_rfl) ⟨⟨_, HR1.out _ _ HR0.out (Below.refl _ _).drew⟩, rfl⟩ ?_
          repeat (go_big_quiet_step (first
            | (go_at_call 46; rename_i x; refine (iiscontact x.w p q f t nodes _ HV.out).mono ?_; rintro e w' ⟨rfl, hb⟩; exact ⟨rfl, ⟨⟨_, HR1.out _ _ x.h hb⟩, rfl⟩⟩)))
          refine wpQuiet_nil ?_
          rintro _ ⟨⟨wq, hwq⟩, rfl⟩
          clear a0 a1 a2 a3 hne
          have HF := Lib.hid (HRQ.out _ hwq)
          go_wp2_with fail
          go_roundw
          case rel => exact ⟨k + 1, by omega, by go_num, HFIN.out, HF.out⟩
          case measure => simp [intOf]; omega
        case pos =>
          have hd : decide (0 < k) = true := decide_eq_true hk1
          obtain ⟨j, hj⟩ : ∃ j : Nat, j + 1 = k := ⟨k - 1, by omega⟩
          have HJ := Lib.hid hj
          have hjl : j < l.length := by omega
          have hw : IntKind.i64.wrap ((k : Int) - 1) = (j : Int) := by rw [show (k : Int) - 1 = (j : Int) by omega]; exact wrap_in _ (by omega) (by omega)
          have hj0 : (0 : Int) ≤ (j : Int) := by omega
          have hjl2 : (j : Int) < (l.length : Int) := by omega
          clear hj
          obtain ⟨z, hz⟩ : ∃ z, z = l[j] := ⟨_, rfl⟩
          have HY := Lib.hid hz
          clear hz
          obtain ⟨p', q', f', t'⟩ := z
          have d0 : ∀ x : Wld RR, x.w.cell? (ad.add (j * 4)) = some (.int .i64 p') := fun x => by have := (HR.out x.w (HRQ.out _ x.h) j hjl).1; rw [← HY.out] at this; exact this
          have d1 : ∀ x : Wld RR, x.w.cell? ⟨(ad.add (j * 4)).block, (ad.add (j * 4)).off + 1, none⟩ = some (.int .i64 q') := fun x => by have := (HR.out x.w (HRQ.out _ x.h) j hjl).2.1; rw [← HY.out] at this; exact this
          have d2 : ∀ x : Wld RR, x.w.cell? ⟨(ad.add (j * 4)).block, (ad.add (j * 4)).off + 2, none⟩ = some (.int .i64 f') := fun x => by have := (HR.out x.w (HRQ.out _ x.h) j hjl).2.2.1; rw [← HY.out] at this; exact this
          have d3 : ∀ x : Wld RR, x.w.cell? ⟨(ad.add (j * 4)).block, (ad.add (j * 4)).off + 3, none⟩ = some (.int .i64 t') := fun x => by have := (HR.out x.w (HRQ.out _ x.h) j hjl).2.2.2; rw [← HY.out] at this; exact this
          obtain ⟨u, hu⟩ : ∃ u, conLt ⟨p', q', f', t'⟩ ⟨p, q, f, t⟩ = u := ⟨_, rfl⟩
          have HU := Lib.hid hu
          clear hu hk1
          have HLT : Hid (u = true → ∀ j, (hj : j + 1 = k) → conLt (l[j]'(by omega)) l[k] = true) := Lib.hid fun e j' hj' => by
            obtain rfl : j' = j := by have := HJ.out; omega
            rw [← HY.out, ← HZ.out, HU.out]; exact e
          have HLF : Hid (b = true → u = true) := Lib.hid fun e => by
            have h1 := (HB.out.1 e).2 j (by have := HJ.out; omega)
            have e2 : l[j + 1]'(by have := HJ.out; omega) = l[k] := by have := HJ.out; subst this; rfl
            rw [e2, ← HY.out, ← HZ.out, HU.out] at h1; exact h1
          go_wp2_with fail
          cases u
          all_goals
            refine wp_region_quiet_cls (C := fun w' => ∃ x : Wld RR, w' = x.w) (by kernel_rfl) (by kernel_rfl) ⟨⟨_, HR1.out _ _ HR0.out (Below.refl _ _).drew⟩, rfl⟩ ?_
            repeat (go_big_quiet_step (first
              | (go_at_call 46; rename_i x; refine (iiscontact x.w p q f t nodes _ HV.out).mono ?_; rintro e w' ⟨rfl, hb⟩; exact ⟨rfl, ⟨⟨_, HR1.out _ _ x.h hb⟩, rfl⟩⟩)
              | (go_at_call 47; rename_i x; refine (ibefore x.w p' q' f' t' p q f t _ HU.out).mono ?_; rintro e w' ⟨rfl, hb⟩; exact ⟨rfl, ⟨⟨_, HR1.out _ _ x.h hb⟩, rfl⟩⟩)))
            refine wpQuiet_nil ?_
            rintro _ ⟨⟨wq, hwq⟩, rfl⟩
            clear a0 a1 a2 a3 d0 d1 d2 d3 hne
          · obtain rfl : b = false := by
              cases b
              · rfl
              · exact (HLF.out rfl).symm
            have HF := Lib.hid ((HQQ.out _).1 (HRQ.out _ hwq))
            go_wp2_with fail
            go_ret
            exact ⟨rfl, HF.out⟩
          · have HFIN := Lib.hid (planOk_step hlt HALL.out (by rw [← HZ.out]; exact HV.out) (HLT.out rfl))
            have HF := Lib.hid (HRQ.out _ hwq)
            go_wp2_with fail
            go_roundw
            case rel => exact ⟨k + 1, by omega, by go_num, HFIN.out, HF.out⟩
            case measure => simp [intOf]; omega
set_option maxRecDepth 100000 in
set_option maxHeartbeats 1000000 in
theorem icanspeak (w : World) (D : Nat) (A : Option Addr) (n c : Nat) (l : List Sat4) (h : Sl w D 4 A n c (fl c4 l)) (hD : D ≤ w.heap.size) (a b t : Int) (v : Bool) (hv : canS l a b t = v) :
    Calls Try.prog 13 #[.slice A n c, .int .i64 a, .int .i64 b, .int .i64 t] w (Says w v) := by
  obtain rfl := h.num c4_len (by omega)
  have HS := Lib.hid h
  have hcap := h.cap; have hcapm := h.capm
  clear h
  obtain ⟨QQ, hQ⟩ : ∃ QQ : World → Prop, ∀ wr, QQ wr ↔ Below w.heap.size w wr := ⟨_, fun _ => Iff.rfl⟩
  have HQ1 : Hid (∀ wr wr', QQ wr → Below wr.heap.size wr wr' → QQ wr') := Lib.hid fun wr wr' h h' => (hQ _).2 (((hQ _).1 h).trans (h'.mono ((hQ _).1 h).size))
  have HQA : Hid (∀ wr o, QQ wr → QQ (wr.alloc o)) := Lib.hid fun wr o h => HQ1.out _ _ h ((Below.refl _ _).alloc (Nat.le_refl _) o)
  have HQ0 : Hid (QQ (w.alloc (.cells #[.int .i64 b] 3))) := Lib.hid (HQA.out _ _ ((hQ _).2 (Below.refl _ _)))
  have HQQ := Lib.hid hQ
  clear hQ
  obtain ⟨m, hm⟩ : ∃ m, mnf a b = m := ⟨_, rfl⟩
  obtain ⟨M, hM⟩ : ∃ m, mxf a b = m := ⟨_, rfl⟩
  have HV : Hid (l.any (conHit m M t) = v) := Lib.hid (by rw [← hv, ← hm, ← hM]; rfl)
  have HMN := Lib.hid (And.intro hm hM)
  clear hv hm hM
  have hc : (w.alloc (Obj.cells #[.int .i64 b] 3)).cell? ⟨w.heap.size, 0, none⟩ = some (.int .i64 b) := by go_cell
  go_enter Try.func13, Try.ntmps13
  go_wp2_with fail
  refine (lag a b _ _ hc).mono ?_
  rintro e w' ⟨rfl, rfl⟩
  rw [HMN.out.1, HMN.out.2]
  obtain ⟨W0, hW0⟩ : ∃ W, W = w.alloc (Obj.cells #[.int .i64 b] 3) := ⟨_, rfl⟩
  rw [← hW0] at HQ0 ⊢
  clear hc hW0
  go_wp2_with fail
  go_loopw [22] (fun iv wr => ∃ k : Nat, k ≤ l.length ∧ iv = .int .i64 k ∧ (l.take k).any (conHit m M t) = false ∧ QQ wr) (fun iv _ => l.length - (intOf iv).toNat)
  case atStart => exact ⟨0, Nat.zero_le _, rfl, rfl, HQ0.out⟩
  case round =>
    clear HQ0
    obtain ⟨k, hk, rfl, hno, hq⟩ := hrel
    have HNO := Lib.hid hno; have HQ := Lib.hid hq
    clear hno hq
    by_cases hlt : k < l.length
    case neg =>
      obtain rfl : k = l.length := by omega
      rw [List.take_length] at HNO
      obtain rfl : false = v := HNO.out.symm.trans HV.out
      have HF := Lib.hid ((HQQ.out _).1 HQ.out)
      go_wp2_with fail
      go_ret
      exact ⟨rfl, HF.out⟩
    case pos =>
      have HANY := Lib.hid (any_taken4 l (conHit m M t) k hlt HNO.out)
      have HAT := Lib.hid (fun h => any_at4 (p := conHit m M t) hlt h)
      obtain ⟨ad, hx, rfl, had, q0⟩ := (HS.out.below ((HQQ.out _).1 HQ.out) hD).four hlt
      obtain ⟨z, hz⟩ : ∃ z, z = l[k] := ⟨_, rfl⟩
      rw [← hz] at q0 HANY HAT
      clear hz
      obtain ⟨p, q, f, e⟩ := z
      simp only at q0
      obtain ⟨c0, c1, c2, c3⟩ := q0
      have hk0 : (0 : Int) ≤ (k : Int) := by omega
      have hkl : (k : Int) < (l.length : Int) := by omega
      by_cases hp : p = m
      case neg =>
        have hpb : (p == m) = false := by simp [hp]
        have HF := Lib.hid (HANY.out.trans (show conHit m M t ⟨p, q, f, e⟩ = false by unfold conHit; rw [decide_eq_false (fun h => hp h.1)]; rfl))
        have HW := Lib.hid (HQA.out wr (.cells #[.int .i64 p, .int .i64 q, .int .i64 f, .int .i64 e] 57) HQ.out)
        clear HANY HAT
        go_wp2_with fail
        go_roundw
        case rel => exact ⟨k + 1, by omega, by go_num, HF.out, HW.out⟩
        case measure => simp [intOf]; omega
      case pos =>
        subst hp
        by_cases hq : q = M
        case neg =>
          have hqb : (q == M) = false := by simp [hq]
          have HF := Lib.hid (HANY.out.trans (show conHit p M t ⟨p, q, f, e⟩ = false by unfold conHit; rw [decide_eq_false (fun h => hq h.2)]; rfl))
          have HW := Lib.hid (HQA.out wr (.cells #[.int .i64 p, .int .i64 q, .int .i64 f, .int .i64 e] 57) HQ.out)
          clear HANY HAT
          go_wp2_with fail
          go_roundw
          case rel => exact ⟨k + 1, by omega, by go_num, HF.out, HW.out⟩
          case measure => simp [intOf]; omega
        case pos =>
          subst hq
          obtain ⟨u, hu⟩ : ∃ u, inS (f, e) t = u := ⟨_, rfl⟩
          have HE := Lib.hid hu
          have HHIT : Hid (conHit p q t ⟨p, q, f, e⟩ = u) := Lib.hid (by unfold conHit conS; rw [decide_eq_true ⟨rfl, rfl⟩]; exact hu)
          have HW := Lib.hid (HQA.out wr (.cells #[.int .i64 p, .int .i64 q, .int .i64 f, .int .i64 e] 57) HQ.out)
          clear hu
          go_wp2_with fail
          refine (ispan _ p q f e).mono ?_
          rintro _ w2 ⟨rfl, b2⟩
          have HW2 := Lib.hid (HQ1.out _ _ HW.out b2)
          clear b2
          go_wp2_with fail
          refine (iinspan w2 f e t u HE.out).mono ?_
          rintro _ w3 ⟨rfl, b3⟩
          have HW3 := Lib.hid (HQ1.out _ _ HW2.out b3)
          clear b3
          cases u
          · have HF := Lib.hid (HANY.out.trans HHIT.out)
            clear HANY HAT
            go_wp2_with fail
            go_roundw
            case rel => exact ⟨k + 1, by omega, by go_num, HF.out, HW3.out⟩
            case measure => simp [intOf]; omega
          · obtain rfl : true = v := (HAT.out HHIT.out).symm.trans HV.out
            have HF := Lib.hid ((HQQ.out _).1 HW3.out)
            go_wp2_with fail
            go_ret
            exact ⟨rfl, HF.out⟩
set_option maxRecDepth 100000 in
set_option maxHeartbeats 1000000 in
theorem icticks (w : World) (D : Nat) (A : Option Addr) (n c : Nat) (l : List Sat4) (h : Sl w D 4 A n c (fl c4 l)) (hD : D ≤ w.heap.size) (hn : n ≤ 1000000000000) (r : Int) (hr : conTicks l = r) :
    Calls Try.prog 45 #[.slice A n c] w fun e w' => e = .returned (.int .i64 r) ∧ Below w.heap.size w w' := by
  obtain rfl := h.num c4_len (by omega)
  have HS := Lib.hid h
  have hcap := h.cap; have hcapm := h.capm
  clear h
  have HR0 := Lib.hid hr
  clear hr
  go_enter Try.func45, Try.ntmps45
  go_wp2_with fail
  go_loopw [3, 8] (fun nv iv wr => ∃ k : Nat, k ≤ l.length ∧ iv = .int .i64 k ∧ nv = .int .i64 (conTicks (l.take k)) ∧ Below w.heap.size w wr) (fun _ iv _ => l.length - (intOf iv).toNat)
  case atStart => exact ⟨0, Nat.zero_le _, rfl, rfl, Below.refl _ _⟩
  case round =>
    obtain ⟨k, hk, rfl, rfl, hq⟩ := hrel
    have HQ := Lib.hid hq
    clear hq
    have hbd := conTicks_bd (l.take k)
    rw [List.length_take] at hbd
    by_cases hlt : k < l.length
    case neg =>
      obtain rfl : k = l.length := by omega
      rw [List.take_length, HR0.out]
      clear hbd
      go_wp2_with fail
      go_ret
      exact ⟨rfl, HQ.out⟩
    case pos =>
      have HT := Lib.hid (conTicks_take l k hlt)
      obtain ⟨acc, hacc⟩ : ∃ x, conTicks (l.take k) = x := ⟨_, rfl⟩
      rw [hacc] at hbd HT ⊢
      clear hacc
      obtain ⟨ad, hx, rfl, had, q0⟩ := (HS.out.below HQ.out hD).four hlt
      obtain ⟨z, hz⟩ : ∃ z, z = l[k] := ⟨_, rfl⟩
      rw [← hz] at q0 HT
      clear hz
      obtain ⟨p, q, f, e⟩ := z
      simp only at q0
      obtain ⟨c0, c1, c2, c3⟩ := q0
      have hk0 : (0 : Int) ≤ (k : Int) := by omega
      have hkl : (k : Int) < (l.length : Int) := by omega
      obtain ⟨u, hu⟩ : ∃ u, isS (f, e) = u := ⟨_, rfl⟩
      have HU := Lib.hid hu
      have HTT : Hid (conTicks (l.take (k + 1)) = acc + if u = true then e - f else 0) := Lib.hid (by rw [HT.out]; unfold conS; simp only [hu])
      clear hu
      obtain ⟨W1, hW1⟩ : ∃ W, W = wr.alloc (.cells #[.int .i64 p, .int .i64 q, .int .i64 f, .int .i64 e] 57) := ⟨_, rfl⟩
      obtain ⟨G, hG⟩ : ∃ g, g = wr.heap.size := ⟨_, rfl⟩
      have Z1 : Hid (Blk W1 G 57 #[.int .i64 p, .int .i64 q, .int .i64 f, .int .i64 e]) := Lib.hid (by rw [hW1, hG]; exact Blk.new _ _ _)
      have B1 : Hid (Below w.heap.size w W1) := Lib.hid (by rw [hW1]; exact HQ.out.alloc HQ.out.size _)
      go_wp2_with fail
      rw [← hW1, ← hG]
      clear hW1 hG c0 c1 c2 c3
      have a0 : W1.cell? ⟨G, 0, none⟩ = some (.int .i64 p) := Z1.out.cell 0
      have a1 : W1.cell? ⟨G, 1, none⟩ = some (.int .i64 q) := Z1.out.cell 1
      have a2 : W1.cell? ⟨G, 2, none⟩ = some (.int .i64 f) := Z1.out.cell 2
      have a3 : W1.cell? ⟨G, 3, none⟩ = some (.int .i64 e) := Z1.out.cell 3
      go_wp2_with fail
      refine (ispan W1 p q f e).mono ?_
      rintro _ w2 ⟨rfl, b2⟩
      have Z2 := Lib.hid (Z1.out.below b2 Z1.out.lt)
      have B2 := Lib.hid (B1.out.trans (b2.mono B1.out.size))
      clear b2 a0 a1 a2 a3
      go_wp2_with fail
      refine (iisspan w2 f e u HU.out).mono ?_
      rintro _ w3 ⟨rfl, b3⟩
      have Z3 := Lib.hid (Z2.out.below b3 Z2.out.lt)
      have B3 := Lib.hid (B2.out.trans (b3.mono B2.out.size))
      clear b3 Z2 Z1 B1 B2
      cases u
      case false =>
        go_wp2_with fail
        go_roundw
        case rel => exact ⟨k + 1, by omega, by go_num, by rw [HTT.out]; simp, B3.out⟩
        case measure => simp [intOf]; omega
      case true =>
        have hfe := (isS_iff _).1 HU.out
        simp only at hfe
        have a2 : w3.cell? ⟨G, 2, none⟩ = some (.int .i64 f) := Z3.out.cell 2
        have a3 : w3.cell? ⟨G, 3, none⟩ = some (.int .i64 e) := Z3.out.cell 3
        have w1 : IntKind.i64.wrap (e - f) = e - f := wrap_in _ (by omega) (by omega)
        have w2 : IntKind.i64.wrap (acc + (e - f)) = acc + (e - f) := wrap_in _ (by omega) (by omega)
        have HB := Lib.hid (B3.out.trans ((Below.refl w3.heap.size w3).drew.mono B3.out.size))
        go_wp2
        go_roundw
        case rel => exact ⟨k + 1, by omega, by go_num, by rw [HTT.out]; simp, by first | exact B3.out | exact HB.out⟩
        case measure => simp [intOf]; omega
end Go.Proofs.Ytmmnnbgfomcihaa
