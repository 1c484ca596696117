/- areAll at four types, over the closures of IsSky; IsSky of the program. -/
import Derived.Test.YtffjkdbnkljmhaaDoorIsSky
namespace Go.Proofs.YtffjkdbnkljmhaaDoor
open Go.ChangeShapes Go.WideShapes Go.ChangeAt Go.RowKit
set_option linter.unusedVariables false
theorem all_snoc {α : Type} (f : α → Bool) (l : List α) (k : Nat) (hk : k < l.length) : (l.take (k + 1)).all f = ((l.take k).all f && f l[k]) := by
  rw [List.take_succ_eq_append_getElem hk, List.all_append]; simp
theorem all_false {α : Type} (f : α → Bool) (l : List α) (k : Nat) (hk : k < l.length) (h : f l[k] = false) : l.all f = false := by
  rw [List.all_eq_false]; exact ⟨l[k], List.getElem_mem hk, by rw [h]; simp⟩
set_option maxRecDepth 100000 in
theorem areall1 (w : World) (D : Nat) (A : Option Addr) (n c : Nat) (l : List Sat4) (h : Sl w D 4 A n c (fl c4 l)) (hD : D ≤ w.heap.size) (g : Nat) (P : Int) (hg : g < w.heap.size) (hc : w.cell? ⟨g, 0, none⟩ = some (.int .i64 P)) (hP1 : 1 ≤ P) (hP4 : P ≤ 4) (b : Bool) (hb : l.all (satOk P) = b) :
    Calls Tryd.prog 48 #[.slice A n c, .func (.func 40) #[] #[.pointer (some ⟨g, 0, none⟩)]] w (Tells w b) := by
  obtain rfl : n = l.length := h.num c4_len (by omega)
  have hcap := h.cap; have hcapm := h.capm
  have H := Lib.hid h; clear h
  have HB := Lib.hid hb; clear hb
  have HC := Lib.hid hc; clear hc
  go_enter Tryd.func48, Tryd.ntmps48
  go_wp2
  go_loopw [9] (fun i wr => ∃ k : Nat, k ≤ l.length ∧ i = .int .i64 k ∧ Hid ((l.take k).all (satOk P) = true) ∧ Below w.heap.size w wr) (fun i _ => l.length - (intOf i).toNat)
  case atStart => exact ⟨0, Nat.zero_le _, rfl, Lib.hid rfl, Below.refl _ _⟩
  case round =>
    obtain ⟨k, hk, rfl, hi, hbw⟩ := hrel
    by_cases hlt : k < l.length
    · obtain ⟨ad, hx, rfl, had, q0, q1, q2, q3⟩ := (H.out.below hbw hD).four hlt
      have hsn := Lib.hid (all_snoc (satOk P) l k hx)
      have hfl := Lib.hid (all_false (satOk P) l k hx)
      obtain ⟨v, hv⟩ : ∃ v, satOk P l[k] = v := ⟨_, rfl⟩
      have HT : Hid (v = true → (l.take (k + 1)).all (satOk P) = true) := Lib.hid (fun e => by rw [hsn.out, hi.out, hv, e]; rfl)
      have HF : Hid (v = false → b = false) := Lib.hid (fun e => by rw [← HB.out]; exact hfl.out (hv.trans e))
      obtain ⟨e, he⟩ : ∃ e, e = l[k] := ⟨_, rfl⟩
      rw [← he] at q0 q1 q2 q3 hv
      obtain ⟨x, y, z, u⟩ := e
      simp only at q0 q1 q2 q3
      have HV := Lib.hid hv
      have BW := Lib.hid hbw
      clear he hv hbw hi hsn hfl
      go_wp2_with fail
      refine (isky1 _ x y z u P g (by have := BW.out.size; simp; omega) (((BW.out.alloc BW.out.size _).cell hg).trans HC.out) hP1 hP4 v HV.out).mono ?_
      rintro e w2 ⟨rfl, b2⟩
      have B2 : Hid (Below w.heap.size w w2) := Lib.hid ((BW.out.alloc BW.out.size _).trans (b2.mono (by have := BW.out.size; simp; omega)))
      clear b2
      cases v
      · obtain rfl := HF.out rfl
        go_wp2
        go_ret
        exact ⟨rfl, B2.out⟩
      · have HS := Lib.hid (HT.out rfl)
        clear HT HF
        go_wp2
        go_roundw
        case rel => exact ⟨k + 1, by omega, by go_num, HS, B2.out⟩
        case measure => simp [intOf]; omega
    · obtain rfl : b = true := by
        rw [← HB.out, ← hi.out, List.take_of_length_le (by omega)]
      go_wp2
      go_ret
      exact ⟨rfl, hbw⟩
set_option maxRecDepth 100000 in
theorem areall2 (w : World) (nA tW : Addr) (HE : Errs w nA tW) (D : Nat) (A : Option Addr) (n c : Nat) (l : List Tri) (h : Sl w D 3 A n c (fl c3 l)) (hD : D ≤ w.heap.size) (g : Nat) (P : Int) (hg : g < w.heap.size) (hc : w.cell? ⟨g, 0, none⟩ = some (.int .i64 P)) (hP1 : 1 ≤ P) (hP4 : P ≤ 4) (b : Bool) (hb : l.all (siteOk P) = b) :
    Calls Tryd.prog 49 #[.slice A n c, .func (.func 42) #[] #[.pointer (some ⟨g, 0, none⟩)]] w (Tells w b) := by
  obtain rfl : n = l.length := h.num c3_len (by omega)
  have hcap := h.cap; have hcapm := h.capm
  have H := Lib.hid h; clear h
  have HB := Lib.hid hb; clear hb
  have HC := Lib.hid hc; clear hc
  have HE' := Lib.hid HE; clear HE
  go_enter Tryd.func49, Tryd.ntmps49
  go_wp2
  go_loopw [9] (fun i wr => ∃ k : Nat, k ≤ l.length ∧ i = .int .i64 k ∧ Hid ((l.take k).all (siteOk P) = true) ∧ Below w.heap.size w wr) (fun i _ => l.length - (intOf i).toNat)
  case atStart => exact ⟨0, Nat.zero_le _, rfl, Lib.hid rfl, Below.refl _ _⟩
  case round =>
    obtain ⟨k, hk, rfl, hi, hbw⟩ := hrel
    by_cases hlt : k < l.length
    · obtain ⟨ad, hx, rfl, had, q0, q1, q2⟩ := (H.out.below hbw hD).tri hlt
      have hsn := Lib.hid (all_snoc (siteOk P) l k hx)
      have hfl := Lib.hid (all_false (siteOk P) l k hx)
      obtain ⟨v, hv⟩ : ∃ v, siteOk P l[k] = v := ⟨_, rfl⟩
      have HT : Hid (v = true → (l.take (k + 1)).all (siteOk P) = true) := Lib.hid (fun e => by rw [hsn.out, hi.out, hv, e]; rfl)
      have HF : Hid (v = false → b = false) := Lib.hid (fun e => by rw [← HB.out]; exact hfl.out (hv.trans e))
      obtain ⟨e, he⟩ : ∃ e, e = l[k] := ⟨_, rfl⟩
      rw [← he] at q0 q1 q2 hv
      obtain ⟨x, y, z⟩ := e
      simp only at q0 q1 q2
      have HV := Lib.hid hv
      have BW := Lib.hid hbw
      clear he hv hbw hi hsn hfl
      go_wp2_with fail
      first
        | refine (isky2 _ x y z P g (by have := BW.out.size; simp; omega) (((BW.out.alloc BW.out.size _).cell hg).trans HC.out) hP1 hP4 v HV.out).mono ?_
        | refine (isky3 _ nA tW (HE'.out.below (BW.out.alloc BW.out.size _)) x y z P g (by have := BW.out.size; simp; omega) (((BW.out.alloc BW.out.size _).cell hg).trans HC.out) hP1 hP4 v HV.out).mono ?_
      rintro e w2 ⟨rfl, b2⟩
      have B2 : Hid (Below w.heap.size w w2) := Lib.hid ((BW.out.alloc BW.out.size _).trans (b2.mono (by have := BW.out.size; simp; omega)))
      clear b2
      cases v
      · obtain rfl := HF.out rfl
        go_wp2
        go_ret
        exact ⟨rfl, B2.out⟩
      · have HS := Lib.hid (HT.out rfl)
        clear HT HF
        go_wp2
        go_roundw
        case rel => exact ⟨k + 1, by omega, by go_num, HS, B2.out⟩
        case measure => simp [intOf]; omega
    · obtain rfl : b = true := by
        rw [← HB.out, ← hi.out, List.take_of_length_le (by omega)]
      go_wp2
      go_ret
      exact ⟨rfl, hbw⟩
set_option maxRecDepth 100000 in
theorem areall3 (w : World) (nA tW : Addr) (HE : Errs w nA tW) (D : Nat) (A : Option Addr) (n c : Nat) (l : List Tri) (h : Sl w D 3 A n c (fl c3 l)) (hD : D ≤ w.heap.size) (g : Nat) (P : Int) (hg : g < w.heap.size) (hc : w.cell? ⟨g, 0, none⟩ = some (.int .i64 P)) (hP1 : 1 ≤ P) (hP4 : P ≤ 4) (b : Bool) (hb : l.all (zoneOk P) = b) :
    Calls Tryd.prog 50 #[.slice A n c, .func (.func 44) #[] #[.pointer (some ⟨g, 0, none⟩)]] w (Tells w b) := by
  obtain rfl : n = l.length := h.num c3_len (by omega)
  have hcap := h.cap; have hcapm := h.capm
  have H := Lib.hid h; clear h
  have HB := Lib.hid hb; clear hb
  have HC := Lib.hid hc; clear hc
  have HE' := Lib.hid HE; clear HE
  go_enter Tryd.func50, Tryd.ntmps50
  go_wp2
  go_loopw [9] (fun i wr => ∃ k : Nat, k ≤ l.length ∧ i = .int .i64 k ∧ Hid ((l.take k).all (zoneOk P) = true) ∧ Below w.heap.size w wr) (fun i _ => l.length - (intOf i).toNat)
  case atStart => exact ⟨0, Nat.zero_le _, rfl, Lib.hid rfl, Below.refl _ _⟩
  case round =>
    obtain ⟨k, hk, rfl, hi, hbw⟩ := hrel
    by_cases hlt : k < l.length
    · obtain ⟨ad, hx, rfl, had, q0, q1, q2⟩ := (H.out.below hbw hD).tri hlt
      have hsn := Lib.hid (all_snoc (zoneOk P) l k hx)
      have hfl := Lib.hid (all_false (zoneOk P) l k hx)
      obtain ⟨v, hv⟩ : ∃ v, zoneOk P l[k] = v := ⟨_, rfl⟩
      have HT : Hid (v = true → (l.take (k + 1)).all (zoneOk P) = true) := Lib.hid (fun e => by rw [hsn.out, hi.out, hv, e]; rfl)
      have HF : Hid (v = false → b = false) := Lib.hid (fun e => by rw [← HB.out]; exact hfl.out (hv.trans e))
      obtain ⟨e, he⟩ : ∃ e, e = l[k] := ⟨_, rfl⟩
      rw [← he] at q0 q1 q2 hv
      obtain ⟨x, y, z⟩ := e
      simp only at q0 q1 q2
      have HV := Lib.hid hv
      have BW := Lib.hid hbw
      clear he hv hbw hi hsn hfl
      go_wp2_with fail
      first
        | refine (isky2 _ x y z P g (by have := BW.out.size; simp; omega) (((BW.out.alloc BW.out.size _).cell hg).trans HC.out) hP1 hP4 v HV.out).mono ?_
        | refine (isky3 _ nA tW (HE'.out.below (BW.out.alloc BW.out.size _)) x y z P g (by have := BW.out.size; simp; omega) (((BW.out.alloc BW.out.size _).cell hg).trans HC.out) hP1 hP4 v HV.out).mono ?_
      rintro e w2 ⟨rfl, b2⟩
      have B2 : Hid (Below w.heap.size w w2) := Lib.hid ((BW.out.alloc BW.out.size _).trans (b2.mono (by have := BW.out.size; simp; omega)))
      clear b2
      cases v
      · obtain rfl := HF.out rfl
        go_wp2
        go_ret
        exact ⟨rfl, B2.out⟩
      · have HS := Lib.hid (HT.out rfl)
        clear HT HF
        go_wp2
        go_roundw
        case rel => exact ⟨k + 1, by omega, by go_num, HS, B2.out⟩
        case measure => simp [intOf]; omega
    · obtain rfl : b = true := by
        rw [← HB.out, ← hi.out, List.take_of_length_le (by omega)]
      go_wp2
      go_ret
      exact ⟨rfl, hbw⟩
set_option maxRecDepth 100000 in
theorem areall4 (w : World) (D : Nat) (A : Option Addr) (n c : Nat) (l : List Int) (h : Sl w D 1 A n c (iv l)) (hD : D ≤ w.heap.size) (b : Bool) (hb : l.all halfOk = b) :
    Calls Tryd.prog 51 #[.slice A n c, .func (.func 47) #[] #[]] w (Tells w b) := by
  obtain rfl : n = l.length := by have := h.len; rw [iv_len] at this; omega
  have hcap := h.cap; have hcapm := h.capm
  have H := Lib.hid h; clear h
  have HB := Lib.hid hb; clear hb
  go_enter Tryd.func51, Tryd.ntmps51
  go_wp2
  go_loopw [9] (fun i wr => ∃ k : Nat, k ≤ l.length ∧ i = .int .i64 k ∧ Hid ((l.take k).all halfOk = true) ∧ Below w.heap.size w wr) (fun i _ => l.length - (intOf i).toNat)
  case atStart => exact ⟨0, Nat.zero_le _, rfl, Lib.hid rfl, Below.refl _ _⟩
  case round =>
    obtain ⟨k, hk, rfl, hi, hbw⟩ := hrel
    by_cases hlt : k < l.length
    · obtain ⟨ad, hx0, rfl, had, q0⟩ := (H.out.below hbw hD).at_ hlt
      rw [iv_get] at q0
      have hsn := Lib.hid (all_snoc halfOk l k hlt)
      have hfl := Lib.hid (all_false halfOk l k hlt)
      obtain ⟨v, hv⟩ : ∃ v, halfOk l[k] = v := ⟨_, rfl⟩
      have HT : Hid (v = true → (l.take (k + 1)).all halfOk = true) := Lib.hid (fun e => by rw [hsn.out, hi.out, hv, e]; rfl)
      have HF : Hid (v = false → b = false) := Lib.hid (fun e => by rw [← HB.out]; exact hfl.out (hv.trans e))
      obtain ⟨x, he⟩ : ∃ e, e = l[k] := ⟨_, rfl⟩
      rw [← he] at q0 hv
      have HV := Lib.hid hv
      have BW := Lib.hid hbw
      clear he hv hbw hi hsn hfl
      go_wp2_with fail
      refine (isky4 _ x v HV.out).mono ?_
      rintro e w2 ⟨rfl, b2⟩
      have B2 : Hid (Below w.heap.size w w2) := Lib.hid (BW.out.trans (b2.mono BW.out.size))
      clear b2
      cases v
      · obtain rfl := HF.out rfl
        go_wp2
        go_ret
        exact ⟨rfl, B2.out⟩
      · have HS := Lib.hid (HT.out rfl)
        clear HT HF
        go_wp2
        go_roundw
        case rel => exact ⟨k + 1, by omega, by go_num, HS, B2.out⟩
        case measure => simp [intOf]; omega
    · obtain rfl : b = true := by
        rw [← HB.out, ← hi.out, List.take_of_length_le (by omega)]
      go_wp2
      go_ret
      exact ⟨rfl, hbw⟩
end Go.Proofs.YtffjkdbnkljmhaaDoor
