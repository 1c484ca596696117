/- areAll at four types, over the closures of IsSky; IsSky of the program. IsSky of the program. -/
import Derived.Test.YtlaigbhiligceaaGreatDoorIsSky
namespace Go.Proofs.YtlaigbhiligceaaGreatDoor
open Go.ChangeShapes Go.WideShapes Go.ChangeAt Go.RowKit
set_option linter.unusedVariables false
theorem all_snoc {α : Type} (f : α → Bool) (l : List α) (k : Nat) (hk : k < l.length) : (l.take (k + 1)).all f = ((l.take k).all f && f l[k]) := by
  rw [List.take_succ_eq_append_getElem hk, List.all_append]; simp
theorem all_false {α : Type} (f : α → Bool) (l : List α) (k : Nat) (hk : k < l.length) (h : f l[k] = false) : l.all f = false := by
  rw [List.all_eq_false]; exact ⟨l[k], List.getElem_mem hk, by rw [h]; simp⟩
set_option maxRecDepth 100000 in
theorem areall1 (w : World) (D : Nat) (A : Option Addr) (n c : Nat) (l : List Sat4) (h : Sl w D 4 A n c (fl c4 l)) (hD : D ≤ w.heap.size) (g : Nat) (P : Int) (hg : g < w.heap.size) (hc : w.cell? ⟨g, 0, none⟩ = some (.int .i64 P)) (hP1 : 1 ≤ P) (hP4 : P ≤ 4) (b : Bool) (hb : l.all (satOk P) = b) :
    Calls Tryz.prog 115 #[.slice A n c, .func (.func 107) #[] #[.pointer (some ⟨g, 0, none⟩)]] w (Tells w b) := by
  obtain rfl : n = l.length := h.num c4_len (by omega)
  have hcap := h.cap; have hcapm := h.capm
  have H := Lib.hid h; clear h
  have HB := Lib.hid hb; clear hb
  have HC := Lib.hid hc; clear hc
  go_enter Tryz.func115, Tryz.ntmps115
  go_wp2
  go_loopw [9] (fun i wr => ∃ k : Nat, k ≤ l.length ∧ i = .int .i64 k ∧ Hid ((l.take k).all (satOk P) = true) ∧ Below w.heap.size w wr) (fun i _ => l.length - (intOf i).toNat)
  case atStart => exact ⟨0, Nat.zero_le _, rfl, Lib.hid rfl, Below.refl _ _⟩
  case round =>
    obtain ⟨k, hk, rfl, hi, hbw⟩ := hrel
    by_cases hlt : k < l.length
    · obtain ⟨ad, hx, rfl, had, q0, q1, q2, q3⟩ := (H.out.below hbw hD).four hlt
      have hsn := Lib.hid (all_snoc (satOk P) l k hx)
      have hfl := Lib.hid (all_false (satOk P) l k hx)
      obtain ⟨v, hv⟩ : ∃ v, satOk P l[k] = v := ⟨_, rfl⟩
      have HT : Hid (v = true → (l.take (k + 1)).all (satOk P) = true) := Lib.hid (fun e => by rw [hsn.out, hi.out, hv, e]; rfl)
      have HF : Hid (v = false → b = false) := Lib.hid (fun e => by rw [← HB.out]; exact hfl.out (hv.trans e))
      obtain ⟨e, he⟩ : ∃ e, e = l[k] := ⟨_, rfl⟩
      rw [← he] at q0 q1 q2 q3 hv
      obtain ⟨x, y, z, u⟩ := e
      simp only at q0 q1 q2 q3
      have HV := Lib.hid hv
      have BW := Lib.hid hbw
      clear he hv hbw hi hsn hfl
      go_wp2_with fail
      refine (isky1 _ x y z u P g (by have := BW.out.size; simp; omega) (((BW.out.alloc BW.out.size _).cell hg).trans HC.out) hP1 hP4 v HV.out).mono ?_
      rintro e w2 ⟨rfl, b2⟩
      have B2 : Hid (Below w.heap.size w w2) := Lib.hid ((BW.out.alloc BW.out.size _).trans (b2.mono (by have := BW.out.size; simp; omega)))
      clear b2
      cases v
      · obtain rfl := HF.out rfl
        go_wp2
        go_ret
        exact ⟨rfl, B2.out⟩
      · have HS := Lib.hid (HT.out rfl)
        clear HT HF
        go_wp2
        go_roundw
        case rel => exact ⟨k + 1, by omega, by go_num, HS, B2.out⟩
        case measure => simp [intOf]; omega
    · obtain rfl : b = true := by
        rw [← HB.out, ← hi.out, List.take_of_length_le (by omega)]
      go_wp2
      go_ret
      exact ⟨rfl, hbw⟩
set_option maxRecDepth 100000 in
theorem areall2 (w : World) (nA tW : Addr) (HE : Errs w nA tW) (D : Nat) (A : Option Addr) (n c : Nat) (l : List Tri) (h : Sl w D 3 A n c (fl c3 l)) (hD : D ≤ w.heap.size) (g : Nat) (P : Int) (hg : g < w.heap.size) (hc : w.cell? ⟨g, 0, none⟩ = some (.int .i64 P)) (hP1 : 1 ≤ P) (hP4 : P ≤ 4) (b : Bool) (hb : l.all (siteOk P) = b) :
    Calls Tryz.prog 116 #[.slice A n c, .func (.func 109) #[] #[.pointer (some ⟨g, 0, none⟩)]] w (Tells w b) := by
  obtain rfl : n = l.length := h.num c3_len (by omega)
  have hcap := h.cap; have hcapm := h.capm
  have H := Lib.hid h; clear h
  have HB := Lib.hid hb; clear hb
  have HC := Lib.hid hc; clear hc
  have HE' := Lib.hid HE; clear HE
  go_enter Tryz.func116, Tryz.ntmps116
  go_wp2
  go_loopw [9] (fun i wr => ∃ k : Nat, k ≤ l.length ∧ i = .int .i64 k ∧ Hid ((l.take k).all (siteOk P) = true) ∧ Below w.heap.size w wr) (fun i _ => l.length - (intOf i).toNat)
  case atStart => exact ⟨0, Nat.zero_le _, rfl, Lib.hid rfl, Below.refl _ _⟩
  case round =>
    obtain ⟨k, hk, rfl, hi, hbw⟩ := hrel
    by_cases hlt : k < l.length
    · obtain ⟨ad, hx, rfl, had, q0, q1, q2⟩ := (H.out.below hbw hD).tri hlt
      have hsn := Lib.hid (all_snoc (siteOk P) l k hx)
      have hfl := Lib.hid (all_false (siteOk P) l k hx)
      obtain ⟨v, hv⟩ : ∃ v, siteOk P l[k] = v := ⟨_, rfl⟩
      have HT : Hid (v = true → (l.take (k + 1)).all (siteOk P) = true) := Lib.hid (fun e => by rw [hsn.out, hi.out, hv, e]; rfl)
      have HF : Hid (v = false → b = false) := Lib.hid (fun e => by rw [← HB.out]; exact hfl.out (hv.trans e))
      obtain ⟨e, he⟩ : ∃ e, e = l[k] := ⟨_, rfl⟩
      rw [← he] at q0 q1 q2 hv
      obtain ⟨x, y, z⟩ := e
      simp only at q0 q1 q2
      have HV := Lib.hid hv
      have BW := Lib.hid hbw
      clear he hv hbw hi hsn hfl
      go_wp2_with fail
      first
        | refine (isky2 _ x y z P g (by have := BW.out.size; simp; omega) (((BW.out.alloc BW.out.size _).cell hg).trans HC.out) hP1 hP4 v HV.out).mono ?_
        | refine (isky3 _ nA tW (HE'.out.below (BW.out.alloc BW.out.size _)) x y z P g (by have := BW.out.size; simp; omega) (((BW.out.alloc BW.out.size _).cell hg).trans HC.out) hP1 hP4 v HV.out).mono ?_
      rintro e w2 ⟨rfl, b2⟩
      have B2 : Hid (Below w.heap.size w w2) := Lib.hid ((BW.out.alloc BW.out.size _).trans (b2.mono (by have := BW.out.size; simp; omega)))
      clear b2
      cases v
      · obtain rfl := HF.out rfl
        go_wp2
        go_ret
        exact ⟨rfl, B2.out⟩
      · have HS := Lib.hid (HT.out rfl)
        clear HT HF
        go_wp2
        go_roundw
        case rel => exact ⟨k + 1, by omega, by go_num, HS, B2.out⟩
        case measure => simp [intOf]; omega
    · obtain rfl : b = true := by
        rw [← HB.out, ← hi.out, List.take_of_length_le (by omega)]
      go_wp2
      go_ret
      exact ⟨rfl, hbw⟩
set_option maxRecDepth 100000 in
theorem areall3 (w : World) (nA tW : Addr) (HE : Errs w nA tW) (D : Nat) (A : Option Addr) (n c : Nat) (l : List Tri) (h : Sl w D 3 A n c (fl c3 l)) (hD : D ≤ w.heap.size) (g : Nat) (P : Int) (hg : g < w.heap.size) (hc : w.cell? ⟨g, 0, none⟩ = some (.int .i64 P)) (hP1 : 1 ≤ P) (hP4 : P ≤ 4) (b : Bool) (hb : l.all (zoneOk P) = b) :
    Calls Tryz.prog 117 #[.slice A n c, .func (.func 111) #[] #[.pointer (some ⟨g, 0, none⟩)]] w (Tells w b) := by
  obtain rfl : n = l.length := h.num c3_len (by omega)
  have hcap := h.cap; have hcapm := h.capm
  have H := Lib.hid h; clear h
  have HB := Lib.hid hb; clear hb
  have HC := Lib.hid hc; clear hc
  have HE' := Lib.hid HE; clear HE
  go_enter Tryz.func117, Tryz.ntmps117
  go_wp2
  go_loopw [9] (fun i wr => ∃ k : Nat, k ≤ l.length ∧ i = .int .i64 k ∧ Hid ((l.take k).all (zoneOk P) = true) ∧ Below w.heap.size w wr) (fun i _ => l.length - (intOf i).toNat)
  case atStart => exact ⟨0, Nat.zero_le _, rfl, Lib.hid rfl, Below.refl _ _⟩
  case round =>
    obtain ⟨k, hk, rfl, hi, hbw⟩ := hrel
    by_cases hlt : k < l.length
    · obtain ⟨ad, hx, rfl, had, q0, q1, q2⟩ := (H.out.below hbw hD).tri hlt
      have hsn := Lib.hid (all_snoc (zoneOk P) l k hx)
      have hfl := Lib.hid (all_false (zoneOk P) l k hx)
      obtain ⟨v, hv⟩ : ∃ v, zoneOk P l[k] = v := ⟨_, rfl⟩
      have HT : Hid (v = true → (l.take (k + 1)).all (zoneOk P) = true) := Lib.hid (fun e => by rw [hsn.out, hi.out, hv, e]; rfl)
      have HF : Hid (v = false → b = false) := Lib.hid (fun e => by rw [← HB.out]; exact hfl.out (hv.trans e))
      obtain ⟨e, he⟩ : ∃ e, e = l[k] := ⟨_, rfl⟩
      rw [← he] at q0 q1 q2 hv
      obtain ⟨x, y, z⟩ := e
      simp only at q0 q1 q2
      have HV := Lib.hid hv
      have BW := Lib.hid hbw
      clear he hv hbw hi hsn hfl
      go_wp2_with fail
      first
        | refine (isky2 _ x y z P g (by have := BW.out.size; simp; omega) (((BW.out.alloc BW.out.size _).cell hg).trans HC.out) hP1 hP4 v HV.out).mono ?_
        | refine (isky3 _ nA tW (HE'.out.below (BW.out.alloc BW.out.size _)) x y z P g (by have := BW.out.size; simp; omega) (((BW.out.alloc BW.out.size _).cell hg).trans HC.out) hP1 hP4 v HV.out).mono ?_
      rintro e w2 ⟨rfl, b2⟩
      have B2 : Hid (Below w.heap.size w w2) := Lib.hid ((BW.out.alloc BW.out.size _).trans (b2.mono (by have := BW.out.size; simp; omega)))
      clear b2
      cases v
      · obtain rfl := HF.out rfl
        go_wp2
        go_ret
        exact ⟨rfl, B2.out⟩
      · have HS := Lib.hid (HT.out rfl)
        clear HT HF
        go_wp2
        go_roundw
        case rel => exact ⟨k + 1, by omega, by go_num, HS, B2.out⟩
        case measure => simp [intOf]; omega
    · obtain rfl : b = true := by
        rw [← HB.out, ← hi.out, List.take_of_length_le (by omega)]
      go_wp2
      go_ret
      exact ⟨rfl, hbw⟩
set_option maxRecDepth 100000 in
theorem areall4 (w : World) (D : Nat) (A : Option Addr) (n c : Nat) (l : List Int) (h : Sl w D 1 A n c (iv l)) (hD : D ≤ w.heap.size) (b : Bool) (hb : l.all halfOk = b) :
    Calls Tryz.prog 118 #[.slice A n c, .func (.func 114) #[] #[]] w (Tells w b) := by
  obtain rfl : n = l.length := by have := h.len; rw [iv_len] at this; omega
  have hcap := h.cap; have hcapm := h.capm
  have H := Lib.hid h; clear h
  have HB := Lib.hid hb; clear hb
  go_enter Tryz.func118, Tryz.ntmps118
  go_wp2
  go_loopw [9] (fun i wr => ∃ k : Nat, k ≤ l.length ∧ i = .int .i64 k ∧ Hid ((l.take k).all halfOk = true) ∧ Below w.heap.size w wr) (fun i _ => l.length - (intOf i).toNat)
  case atStart => exact ⟨0, Nat.zero_le _, rfl, Lib.hid rfl, Below.refl _ _⟩
  case round =>
    obtain ⟨k, hk, rfl, hi, hbw⟩ := hrel
    by_cases hlt : k < l.length
    · obtain ⟨ad, hx0, rfl, had, q0⟩ := (H.out.below hbw hD).at_ hlt
      rw [iv_get] at q0
      have hsn := Lib.hid (all_snoc halfOk l k hlt)
      have hfl := Lib.hid (all_false halfOk l k hlt)
      obtain ⟨v, hv⟩ : ∃ v, halfOk l[k] = v := ⟨_, rfl⟩
      have HT : Hid (v = true → (l.take (k + 1)).all halfOk = true) := Lib.hid (fun e => by rw [hsn.out, hi.out, hv, e]; rfl)
      have HF : Hid (v = false → b = false) := Lib.hid (fun e => by rw [← HB.out]; exact hfl.out (hv.trans e))
      obtain ⟨x, he⟩ : ∃ e, e = l[k] := ⟨_, rfl⟩
      rw [← he] at q0 hv
      have HV := Lib.hid hv
      have BW := Lib.hid hbw
      clear he hv hbw hi hsn hfl
      go_wp2_with fail
      refine (isky4 _ x v HV.out).mono ?_
      rintro e w2 ⟨rfl, b2⟩
      have B2 : Hid (Below w.heap.size w w2) := Lib.hid (BW.out.trans (b2.mono BW.out.size))
      clear b2
      cases v
      · obtain rfl := HF.out rfl
        go_wp2
        go_ret
        exact ⟨rfl, B2.out⟩
      · have HS := Lib.hid (HT.out rfl)
        clear HT HF
        go_wp2
        go_roundw
        case rel => exact ⟨k + 1, by omega, by go_num, HS, B2.out⟩
        case measure => simp [intOf]; omega
    · obtain rfl : b = true := by
        rw [← HB.out, ← hi.out, List.take_of_length_le (by omega)]
      go_wp2
      go_ret
      exact ⟨rfl, hbw⟩
end Go.Proofs.YtlaigbhiligceaaGreatDoor
namespace Go.Proofs.YtlaigbhiligceaaGreatDoor
open Go.ChangeShapes Go.WideShapes Go.ChangeAt Go.RowKit
set_option linter.unusedVariables false
set_option maxRecDepth 100000 in
set_option maxHeartbeats 1000000 in
theorem iissky (w : World) (P R X V U D Q : Int) (ns ni nz : Nat) (ls : List Sat4) (li lz : List Tri) (As : Option Addr) (cs : Nat) (Ai : Option Addr) (ci : Nat) (Az : Option Addr) (cz : Nat) (D0 : Nat) (h : InSky w (D0) As ns cs Ai ni ci Az nz cz ls li lz) (hD : D0 ≤ w.heap.size) (nA tW : Addr) (HE : Errs w nA tW) (b : Bool) (hb : skyOk P R X V U D Q ls li lz = b) :
    Calls Tryz.prog 70 #[.agg #[.int .i64 P, .slice As ns cs, .slice Ai ni ci, .int .i64 R, .int .i64 X, .int .i64 V, .int .i64 U, .int .i64 D, .slice Az nz cz, .int .i64 Q]] w (Tells w b) := by
  obtain ⟨b1, h1⟩ := says_ex (1 ≤ P ∧ P ≤ 4)
  obtain ⟨b2, h2⟩ := says_ex (1 ≤ (ns : Int) ∧ (ns : Int) ≤ 8)
  obtain ⟨b3, h3⟩ : ∃ v, ls.all (satOk P) = v := ⟨_, rfl⟩
  obtain ⟨b5, h5⟩ : ∃ v, li.all (siteOk P) = v := ⟨_, rfl⟩
  obtain ⟨b7, h7⟩ : ∃ v, lz.all (zoneOk P) = v := ⟨_, rfl⟩
  obtain ⟨b8, h8⟩ : ∃ v, [R, X, V, D].all halfOk = v := ⟨_, rfl⟩
  obtain ⟨b9, h9⟩ := says_ex (-60 ≤ U ∧ U ≤ 60)
  obtain ⟨b10, h10⟩ := says_ex (0 ≤ Q ∧ Q ≤ 20)
  have HB : Hid (b = (b1 && (b2 && (b3 && (decide (ni ≤ 4) && (b5 && (decide (nz ≤ 4) && (b7 && (b8 && (b9 && b10)))))))))) := Lib.hid (by
    rw [← hb, ← h1.dec, ← h2.dec, ← h3, ← h5, ← h7, ← h8, ← h9.dec, ← h10.dec, h.ns_, h.ni_, h.nz_]; rfl)
  have H1 := Lib.hid h1; have H2 := Lib.hid h2; have H3 := Lib.hid h3; have H5 := Lib.hid h5; have H7 := Lib.hid h7; have H8 := Lib.hid h8; have H9 := Lib.hid h9; have H10 := Lib.hid h10
  have hm1 := h.s.cap; have hm2 := h.s.capm; have hm3 := h.i.cap; have hm4 := h.i.capm; have hm5 := h.z.cap; have hm6 := h.z.capm
  obtain ⟨W0, hW0⟩ : ∃ W, W = w.alloc (.cells #[.int .i64 P, .slice As ns cs, .slice Ai ni ci, .int .i64 R, .int .i64 X, .int .i64 V, .int .i64 U, .int .i64 D, .slice Az nz cz, .int .i64 Q] 28) := ⟨_, rfl⟩
  have T0 := Lib.hid ((Below.refl w.heap.size w).alloc (Nat.le_refl _) (.cells #[.int .i64 P, .slice As ns cs, .slice Ai ni ci, .int .i64 R, .int .i64 X, .int .i64 V, .int .i64 U, .int .i64 D, .slice Az nz cz, .int .i64 Q] 28))
  rw [← hW0] at T0
  have Z0 : Hid (Blk W0 w.heap.size 28 #[.int .i64 P, .slice As ns cs, .slice Ai ni ci, .int .i64 R, .int .i64 X, .int .i64 V, .int .i64 U, .int .i64 D, .slice Az nz cz, .int .i64 Q]) := Lib.hid (by rw [hW0]; exact Blk.new _ _ _)
  have HS := Lib.hid (h.below T0.out hD)
  have E0 := Lib.hid (HE.below T0.out)
  clear h1 h2 h3 h5 h7 h8 h9 h10 hb h HE
  go_enter Tryz.func70, Tryz.ntmps70
  go_wp2_with fail
  rw [← hW0]
  obtain ⟨c0, c1, c2, c3, c4, c5, c6, c7, c8, c9⟩ := Z0.out.ten
  clear hW0
  refine (iinr_b _ _ _ _ b1 H1.out).mono ?_
  rintro e w' ⟨rfl, rfl⟩
  cases b1
  · obtain rfl : b = false := by simpa using HB.out
    go_wp2
    go_ret
    exact ⟨rfl, T0.out⟩
  have hP1 := Lib.hid H1.out.t.1; have hP4 := Lib.hid H1.out.t.2
  go_wp2_with fail
  refine (iinr_b _ _ _ _ b2 H2.out).mono ?_
  rintro e w' ⟨rfl, rfl⟩
  cases b2
  · obtain rfl : b = false := by simpa using HB.out
    go_wp2
    go_ret
    exact ⟨rfl, T0.out⟩
  go_wp2_with fail
  refine (areall1 _ D0 As ns cs ls HS.out.s (Nat.le_trans hD T0.out.size) w.heap.size P Z0.out.lt c0 hP1.out hP4.out b3 H3.out).mono ?_
  rintro e w1 ⟨rfl, d1⟩
  have T1 := Lib.hid (T0.out.trans (d1.mono T0.out.size)); have Z1 := Lib.hid (Z0.out.below d1 Z0.out.lt); have HS1 := Lib.hid (HS.out.below d1 (Nat.le_trans hD T0.out.size)); have E1 := Lib.hid (E0.out.below d1)
  clear d1 T0 Z0 HS E0 c0 c1 c2 c3 c4 c5 c6 c7 c8 c9
  obtain ⟨c0, c1, c2, c3, c4, c5, c6, c7, c8, c9⟩ := Z1.out.ten
  cases b3
  · obtain rfl : b = false := by simpa using HB.out
    go_wp2
    go_ret
    exact ⟨rfl, T1.out⟩
  by_cases hni : ni ≤ 4
  case neg =>
    obtain rfl : b = false := by rw [HB.out]; simp [hni]
    go_wp2
    go_ret
    exact ⟨rfl, T1.out⟩
  go_wp2_with fail
  refine (areall2 _ nA tW E1.out D0 Ai ni ci li HS1.out.i (Nat.le_trans hD T1.out.size) w.heap.size P Z1.out.lt c0 hP1.out hP4.out b5 H5.out).mono ?_
  rintro e w2 ⟨rfl, d1⟩
  have T2 := Lib.hid (T1.out.trans (d1.mono T1.out.size)); have Z2 := Lib.hid (Z1.out.below d1 Z1.out.lt); have HS2 := Lib.hid (HS1.out.below d1 (Nat.le_trans hD T1.out.size)); have E2 := Lib.hid (E1.out.below d1)
  clear d1 T1 Z1 HS1 E1 c0 c1 c2 c3 c4 c5 c6 c7 c8 c9
  obtain ⟨c0, c1, c2, c3, c4, c5, c6, c7, c8, c9⟩ := Z2.out.ten
  cases b5
  · obtain rfl : b = false := by simpa using HB.out
    go_wp2
    go_ret
    exact ⟨rfl, T2.out⟩
  by_cases hnz : nz ≤ 4
  case neg =>
    obtain rfl : b = false := by rw [HB.out]; simp [hnz]
    go_wp2
    go_ret
    exact ⟨rfl, T2.out⟩
  go_wp2_with fail
  refine (areall3 _ nA tW E2.out D0 Az nz cz lz HS2.out.z (Nat.le_trans hD T2.out.size) w.heap.size P Z2.out.lt c0 hP1.out hP4.out b7 H7.out).mono ?_
  rintro e w3 ⟨rfl, d1⟩
  have T3 := Lib.hid (T2.out.trans (d1.mono T2.out.size)); have Z3 := Lib.hid (Z2.out.below d1 Z2.out.lt)
  clear d1 T2 Z2 HS2 E2 c0 c1 c2 c3 c4 c5 c6 c7 c8 c9
  obtain ⟨c0, c1, c2, c3, c4, c5, c6, c7, c8, c9⟩ := Z3.out.ten
  cases b7
  · obtain rfl : b = false := by simpa using HB.out
    go_wp2
    go_ret
    exact ⟨rfl, T3.out⟩
  have L3 := Lib.hid ((Own.lit w3 w3.heap.size 3 #[.int .i64 R, .int .i64 X, .int .i64 V, .int .i64 D] 4 (Nat.le_refl _) (by omega) rfl).sl)
  have T4 := Lib.hid (T3.out.alloc T3.out.size (.cells #[.int .i64 R, .int .i64 X, .int .i64 V, .int .i64 D] 3))
  have Z4 := Lib.hid (Z3.out.alloc (.cells #[.int .i64 R, .int .i64 X, .int .i64 V, .int .i64 D] 3))
  go_wp2_with fail
  refine (areall4 _ _ _ 4 4 [R, X, V, D] L3.out (Nat.le_refl _) b8 H8.out).mono ?_
  rintro e w4 ⟨rfl, d1⟩
  have T5 := Lib.hid (T4.out.trans (d1.mono T4.out.size)); have Z5 := Lib.hid (Z4.out.below d1 Z4.out.lt)
  clear d1 T3 T4 Z3 Z4 L3 c0 c1 c2 c3 c4 c5 c6 c7 c8 c9
  obtain ⟨c0, c1, c2, c3, c4, c5, c6, c7, c8, c9⟩ := Z5.out.ten
  cases b8
  · obtain rfl : b = false := by rw [HB.out]; simp
    go_wp2
    go_ret
    exact ⟨rfl, T5.out⟩
  go_wp2_with fail
  refine (iinr_b _ _ _ _ b9 H9.out).mono ?_
  rintro e w' ⟨rfl, rfl⟩
  cases b9
  · obtain rfl : b = false := by rw [HB.out]; simp
    go_wp2
    go_ret
    exact ⟨rfl, T5.out⟩
  go_wp2_with fail
  refine (iinr_b _ _ _ _ b10 H10.out).mono ?_
  rintro e w' ⟨rfl, rfl⟩
  obtain rfl : b = b10 := by rw [HB.out]; simp [hni, hnz]
  go_wp2
  go_ret
  exact ⟨rfl, T5.out⟩
end Go.Proofs.YtlaigbhiligceaaGreatDoor
