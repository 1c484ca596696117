/- The model's IsContact, l11Before, IsPlan, CanSpeak and ContactTicks. -/
import Derived.Test.YtmmnnbgfomcihaaContactFacts
import Derived.Test.YtmmnnbgfomcihaaSpan
import Derived.Test.YtmmnnbgfomcihaaInts
import Derived.Test.YtmmnnbgfomcihaaApart
import Derived.BigQuiet
namespace Go.Proofs.Ytmmnnbgfomcihaa
open Go.ChangeShapes Go.WideShapes Go.ChangeAt Go.RowKit
set_option linter.unusedVariables false
set_option maxRecDepth 100000 in
set_option maxHeartbeats 1000000 in
theorem scticks (w : World) (D : Nat) (A : Option Addr) (n c : Nat) (l : List Sat4) (h : Sl w D 4 A n c (fl c4 l)) (hD : D ≤ w.heap.size) (hn : n ≤ 1000000000000) (r : Int) (hr : conTicks l = r) :
    Calls Try.prog 56 #[.slice A n c] w fun e w' => e = .returned (.int .i64 r) ∧ Below w.heap.size w w' := by
  obtain rfl := h.num c4_len (by omega)
  have HS := Lib.hid h
  have hcap := h.cap; have hcapm := h.capm
  clear h
  obtain ⟨QQ, hQ⟩ : ∃ QQ : World → Prop, ∀ wr, QQ wr ↔ Below w.heap.size w wr := ⟨_, fun _ => Iff.rfl⟩
  have HQ0 : Hid (QQ w) := Lib.hid ((hQ _).2 (Below.refl _ _))
  have HQ1 : Hid (∀ wr wr', QQ wr → Below wr.heap.size wr wr' → QQ wr') := Lib.hid fun wr wr' h h' => (hQ _).2 (((hQ _).1 h).trans (h'.mono ((hQ _).1 h).size))
  have HQQ := Lib.hid hQ
  clear hQ
  have HR0 := Lib.hid hr
  clear hr
  go_enter Try.func56, Try.ntmps56
  go_wp2_with fail
  go_loopw [3, 4] (fun nv iv wr => ∃ k : Nat, k ≤ l.length ∧ iv = .int .i64 k ∧ nv = .int .i64 (conTicks (l.take k)) ∧ QQ wr) (fun _ iv _ => l.length - (intOf iv).toNat)
  case atStart => exact ⟨0, Nat.zero_le _, rfl, rfl, HQ0.out⟩
  case round =>
    clear HQ0
    obtain ⟨k, hk, rfl, rfl, hq⟩ := hrel
    have HQ := Lib.hid hq
    clear hq
    have hbd := conTicks_bd (l.take k)
    rw [List.length_take] at hbd
    by_cases hlt : k < l.length
    case neg =>
      obtain rfl : k = l.length := by omega
      rw [List.take_length, HR0.out]
      have HF := Lib.hid ((HQQ.out _).1 HQ.out)
      clear hbd
      go_wp2_with fail
      go_ret
      exact ⟨rfl, HF.out⟩
    case pos =>
      have HT := Lib.hid (conTicks_take l k hlt)
      obtain ⟨acc, hacc⟩ : ∃ x, conTicks (l.take k) = x := ⟨_, rfl⟩
      rw [hacc] at hbd HT ⊢
      clear hacc
      have HSX : Hid (∀ x : Wld QQ, Sl x.w D 4 A l.length c (fl c4 l)) := Lib.hid fun x => HS.out.below ((HQQ.out _).1 x.h) hD
      obtain ⟨ad, hx, rfl, had, -⟩ := HS.out.four hlt
      have HR : Hid (∀ (x : Wld QQ), x.w.cell? (ad.add (k * 4)) = some (.int .i64 l[k].p) ∧ x.w.cell? ⟨(ad.add (k * 4)).block, (ad.add (k * 4)).off + 1, none⟩ = some (.int .i64 l[k].h) ∧ x.w.cell? ⟨(ad.add (k * 4)).block, (ad.add (k * 4)).off + 2, none⟩ = some (.int .i64 l[k].v) ∧ x.w.cell? ⟨(ad.add (k * 4)).block, (ad.add (k * 4)).off + 3, none⟩ = some (.int .i64 l[k].e)) := Lib.hid fun x => by
        obtain ⟨ad', hx', e, had', q⟩ := (HSX.out x).four hlt
        injection e with e; rw [e]; exact q
      obtain ⟨z, hz⟩ : ∃ z, z = l[k] := ⟨_, rfl⟩
      rw [← hz] at HR HT
      clear hz
      obtain ⟨p, q, f, e⟩ := z
      have a0 : ∀ x : Wld QQ, x.w.cell? (ad.add (k * 4)) = some (.int .i64 p) := fun x => (HR.out x).1
      have a1 : ∀ x : Wld QQ, x.w.cell? ⟨(ad.add (k * 4)).block, (ad.add (k * 4)).off + 1, none⟩ = some (.int .i64 q) := fun x => (HR.out x).2.1
      have a2 : ∀ x : Wld QQ, x.w.cell? ⟨(ad.add (k * 4)).block, (ad.add (k * 4)).off + 2, none⟩ = some (.int .i64 f) := fun x => (HR.out x).2.2.1
      have a3 : ∀ x : Wld QQ, x.w.cell? ⟨(ad.add (k * 4)).block, (ad.add (k * 4)).off + 3, none⟩ = some (.int .i64 e) := fun x => (HR.out x).2.2.2
      have hk0 : (0 : Int) ≤ (k : Int) := by omega
      have hkl : (k : Int) < (l.length : Int) := by omega
      have hne : Nonempty (Wld QQ) := ⟨⟨_, HQ.out⟩⟩
      obtain ⟨u, hu⟩ : ∃ u, isS (f, e) = u := ⟨_, rfl⟩
      have HU := Lib.hid hu
      have HTT : Hid (conTicks (l.take (k + 1)) = acc + if u = true then e - f else 0) := Lib.hid (by rw [HT.out]; unfold conS; simp only [hu])
      clear hu
      go_wp2_with fail
      cases u
      case false =>
        refine wp_region_quiet_cls (C := fun w' => ∃ x : Wld QQ, w' = x.w) (by kernel_rfl) (by kernel_rfl) ⟨⟨_, HQ1.out _ _ HQ.out (Below.refl _ _).drew⟩, rfl⟩ ?_
        repeat (go_big_quiet_step (first
          | (go_at_call 69; rename_i x; refine (sisspan x.w f e _ HU.out).mono ?_; rintro e w' ⟨rfl, hb⟩; exact ⟨rfl, ⟨⟨_, HQ1.out _ _ x.h hb⟩, rfl⟩⟩)))
        refine wpQuiet_nil ?_
        rintro _ ⟨⟨wq, hwq⟩, rfl⟩
        clear a0 a1 a2 a3 hne
        go_wp2_with fail
        go_roundw
        case rel => exact ⟨k + 1, by omega, by go_num, by rw [HTT.out]; simp, hwq⟩
        case measure => simp [intOf]; omega
      case true =>
        refine wp_region_quiet_cls (C := fun w' => ∃ x : Wld QQ, w' = x.w) (by kernel_rfl) (by kernel_rfl) ⟨⟨_, HQ1.out _ _ HQ.out (Below.refl _ _).drew⟩, rfl⟩ ?_
        repeat (go_big_quiet_step (first
          | (go_at_call 69; rename_i x; refine (sisspan x.w f e _ HU.out).mono ?_; rintro e w' ⟨rfl, hb⟩; exact ⟨rfl, ⟨⟨_, HQ1.out _ _ x.h hb⟩, rfl⟩⟩)))
        refine wpQuiet_nil ?_
        rintro _ ⟨⟨wq, hwq⟩, rfl⟩
        have hfe := (isS_iff _).1 HU.out
        simp only at hfe
        have w1 : IntKind.i64.wrap (acc + e) = acc + e := wrap_in _ (by omega) (by omega)
        have w2 : IntKind.i64.wrap (acc + e - f) = acc + e - f := wrap_in _ (by omega) (by omega)
        go_wp2_with fail
        refine wp_region_quiet_cls (C := fun w' => ∃ x : Wld QQ, w' = x.w) (by kernel_rfl) (by kernel_rfl) ⟨⟨_, HQ1.out _ _ hwq (Below.refl _ _).drew⟩, rfl⟩ ?_
        repeat (go_big_quiet_step (fail))
        refine wpQuiet_nil ?_
        rintro _ ⟨⟨wz, hwz⟩, rfl⟩
        clear a0 a1 a2 a3 hne
        go_wp2_with fail
        go_roundw
        case rel => exact ⟨k + 1, by omega, by go_num, by rw [HTT.out]; simp; omega, hwz⟩
        case measure => simp [intOf]; omega
end Go.Proofs.Ytmmnnbgfomcihaa
