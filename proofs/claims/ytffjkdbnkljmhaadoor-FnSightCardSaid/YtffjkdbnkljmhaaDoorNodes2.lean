/- IsSite and PlaneOf of both sides. -/
import Derived.Test.YtffjkdbnkljmhaaDoorNodes
namespace Go.Proofs.YtffjkdbnkljmhaaDoor
open Go.ChangeShapes Go.WideShapes Go.ChangeAt Go.RowKit
set_option linter.unusedVariables false
/-- b says p (kept whole by the walk) -/
def SaysOf (b : Bool) (p : Prop) : Prop := b = true ↔ p
theorem SaysOf.t {p : Prop} (h : SaysOf true p) : p := h.1 rfl
theorem SaysOf.f {p : Prop} (h : SaysOf false p) : ¬ p := fun hp => by cases h.2 hp
theorem sat_plane (w : World) (x y z u : Int) : Calls Tryd.prog 142 #[.agg #[.int .i64 x, .int .i64 y, .int .i64 z, .int .i64 u]] w (Num w x) := by
  go_enter Tryd.func142, Tryd.ntmps142
  go_wp2
  go_ret
  exact ⟨rfl, (Below.refl _ _).alloc (Nat.le_refl _) _⟩
theorem site_plane (w : World) (x y z : Int) : Calls Tryd.prog 148 #[.agg #[.int .i64 x, .int .i64 y, .int .i64 z]] w (Num w x) := by
  go_enter Tryd.func148, Tryd.ntmps148
  go_wp2
  go_ret
  exact ⟨rfl, (Below.refl _ _).alloc (Nat.le_refl _) _⟩
set_option maxRecDepth 100000 in
theorem iissite (w : World) (P R X V U D Q : Int) (ns ni nz : Nat) (ls : List Sat4) (li lz : List Tri) (As : Option Addr) (cs : Nat) (Ai : Option Addr) (ci : Nat) (Az : Option Addr) (cz : Nat) (D0 : Nat) (h : InSky w (D0) As ns cs Ai ni ci Az nz cz ls li lz) (hD : D0 ≤ w.heap.size) (hs : ns ≤ 16777216) (hi : ni ≤ 16777216) (node : Int) (hn : J64 node) :
    Calls Tryd.prog 11 #[.agg #[.int .i64 P, .slice As ns cs, .slice Ai ni ci, .int .i64 R, .int .i64 X, .int .i64 V, .int .i64 U, .int .i64 D, .slice Az nz cz, .int .i64 Q], .int .i64 node] w (Tells w (siteAt ns ni node)) := by
  have T0 := Lib.hid ((Below.refl w.heap.size w).alloc (Nat.le_refl _) (.cells #[.int .i64 P, .slice As ns cs, .slice Ai ni ci, .int .i64 R, .int .i64 X, .int .i64 V, .int .i64 U, .int .i64 D, .slice Az nz cz, .int .i64 Q] 28))
  have H := Lib.hid h
  have HN := Lib.hid hn
  obtain ⟨kd, hkd⟩ : ∃ kd : Int, (kd = 1 ∨ kd = 2 ∨ kd = 0) ∧ (kd = 2 ↔ siteAt ns ni node = true) ∧ ∀ w, Calls Tryd.prog 38 #[nodeV ls li node] w fun e w' => e = .returned (.int .i64 kd) ∧ w = w' := by
    obtain rfl := h.ns_; obtain rfl := h.ni_
    rcases node_cases ls li node with ⟨k, hk, rfl, hv, -, hsite⟩ | ⟨k, hk, rfl, hv, -, hsite⟩ | ⟨hr, hv, -, hsite⟩
    · exact ⟨1, .inl rfl, by simp [hsite], fun w => by rw [hv]; exact kind_sat _ _⟩
    · exact ⟨2, .inr (.inl rfl), by simp [hsite], fun w => by rw [hv]; exact kind_site _ _⟩
    · exact ⟨0, .inr (.inr rfl), by simp [hsite], fun w => by rw [hv]; exact kind_none _⟩
  have HK := Lib.hid hkd
  obtain ⟨b, hb⟩ : ∃ b, b = siteAt ns ni node := ⟨_, rfl⟩
  rw [← hb] at HK ⊢
  have hor := HK.out.1
  have hb2 := HK.out.2.1
  clear h hn hkd hb
  rcases hor with rfl | rfl | rfl
  all_goals
    cases b
    all_goals first | (exfalso; simp at hb2; done) | skip
    all_goals
      clear hb2
      go_enter Tryd.func11, Tryd.ntmps11
      go_wp2_with fail
      refine (inode _ P R X V U D Q ns ni nz ls li lz As cs Ai ci Az cz D0 (H.out.below T0.out hD) (by simp; omega) hs hi node HN.out).mono ?_
      rintro e w1 ⟨rfl, b1⟩
      have B1 := Lib.hid (T0.out.trans (b1.mono (by simp)))
      clear b1
      go_wp2_with fail
      refine (HK.out.2.2 _).mono ?_
      rintro e w2 ⟨rfl, rfl⟩
      go_wp2
      go_ret
      exact ⟨rfl, B1.out⟩
set_option maxRecDepth 100000 in
theorem iplane (w : World) (P R X V U D Q : Int) (ns ni nz : Nat) (ls : List Sat4) (li lz : List Tri) (As : Option Addr) (cs : Nat) (Ai : Option Addr) (ci : Nat) (Az : Option Addr) (cz : Nat) (D0 : Nat) (h : InSky w (D0) As ns cs Ai ni ci Az nz cz ls li lz) (hD : D0 ≤ w.heap.size) (hs : ns ≤ 16777216) (hi : ni ≤ 16777216) (node : Int) (hn : J64 node) :
    Calls Tryd.prog 13 #[.agg #[.int .i64 P, .slice As ns cs, .slice Ai ni ci, .int .i64 R, .int .i64 X, .int .i64 V, .int .i64 U, .int .i64 D, .slice Az nz cz, .int .i64 Q], .int .i64 node] w (Num w (planeOf ls li node)) := by
  have T0 := Lib.hid ((Below.refl w.heap.size w).alloc (Nat.le_refl _) (.cells #[.int .i64 P, .slice As ns cs, .slice Ai ni ci, .int .i64 R, .int .i64 X, .int .i64 V, .int .i64 U, .int .i64 D, .slice Az nz cz, .int .i64 Q] 28))
  have H := Lib.hid h
  have HN := Lib.hid hn
  clear hn
  rcases node_cases ls li node with ⟨k, hk, hnode, hv, hp, -⟩ | ⟨k, hk, hnode, hv, hp, -⟩ | ⟨hr, hv, hp, -⟩
  · rw [hp]
    obtain ⟨e, he⟩ : ∃ e, e = ls[k] := ⟨_, rfl⟩
    rw [← he] at hv ⊢
    obtain ⟨x, y, z, u⟩ := e
    have HV := Lib.hid hv
    clear h hv hp he hk hnode
    go_enter Tryd.func13, Tryd.ntmps13
    go_wp2_with fail
    refine (inode _ P R X V U D Q ns ni nz ls li lz As cs Ai ci Az cz D0 (H.out.below T0.out hD) (by simp; omega) hs hi node HN.out).mono ?_
    rintro e w1 ⟨rfl, b1⟩
    rw [HV.out]
    have B1 := Lib.hid (T0.out.trans (b1.mono (by simp)))
    clear b1
    go_wp2_with fail
    refine (sat_plane _ x y z u).mono ?_
    rintro e w2 ⟨rfl, b2⟩
    have B2 := Lib.hid (B1.out.trans (b2.mono B1.out.size))
    clear b2
    go_wp2
    go_ret
    exact ⟨rfl, B2.out⟩
  · rw [hp]
    obtain ⟨e, he⟩ : ∃ e, e = li[k] := ⟨_, rfl⟩
    rw [← he] at hv ⊢
    obtain ⟨x, y, z⟩ := e
    have HV := Lib.hid hv
    clear h hv hp he hk hnode
    go_enter Tryd.func13, Tryd.ntmps13
    go_wp2_with fail
    refine (inode _ P R X V U D Q ns ni nz ls li lz As cs Ai ci Az cz D0 (H.out.below T0.out hD) (by simp; omega) hs hi node HN.out).mono ?_
    rintro e w1 ⟨rfl, b1⟩
    rw [HV.out]
    have B1 := Lib.hid (T0.out.trans (b1.mono (by simp)))
    clear b1
    go_wp2_with fail
    refine (site_plane _ x y z).mono ?_
    rintro e w2 ⟨rfl, b2⟩
    have B2 := Lib.hid (B1.out.trans (b2.mono B1.out.size))
    clear b2
    go_wp2
    go_ret
    exact ⟨rfl, B2.out⟩
  · rw [hp]
    have HV := Lib.hid hv
    clear h hv hp hr
    go_enter Tryd.func13, Tryd.ntmps13
    go_wp2_with fail
    refine (inode _ P R X V U D Q ns ni nz ls li lz As cs Ai ci Az cz D0 (H.out.below T0.out hD) (by simp; omega) hs hi node HN.out).mono ?_
    rintro e w1 ⟨rfl, b1⟩
    rw [HV.out]
    have B1 := Lib.hid (T0.out.trans (b1.mono (by simp)))
    clear b1
    go_wp2
    go_ret
    exact ⟨rfl, B1.out⟩
set_option maxRecDepth 100000 in
theorem sissite (w : World) (P R X V U D Q : Int) (ns ni nz : Nat) (ls : List Sat4) (li lz : List Tri) (As : Option Addr) (cs : Nat) (Ai : Option Addr) (ci : Nat) (Az : Option Addr) (cz : Nat) (hs : ns ≤ 16777216) (hi : ni ≤ 16777216) (node : Int) :
    Calls Tryd.prog 95 #[.agg #[.int .i64 P, .slice As ns cs, .slice Ai ni ci, .int .i64 R, .int .i64 X, .int .i64 V, .int .i64 U, .int .i64 D, .slice Az nz cz, .int .i64 Q], .int .i64 node] w (Tells w (siteAt ns ni node)) := by
  obtain ⟨W0, hW0⟩ : ∃ W, W = w.alloc (.cells #[.int .i64 P, .slice As ns cs, .slice Ai ni ci, .int .i64 R, .int .i64 X, .int .i64 V, .int .i64 U, .int .i64 D, .slice Az nz cz, .int .i64 Q] 28) := ⟨_, rfl⟩
  have T0 := Lib.hid ((Below.refl w.heap.size w).alloc (Nat.le_refl _) (.cells #[.int .i64 P, .slice As ns cs, .slice Ai ni ci, .int .i64 R, .int .i64 X, .int .i64 V, .int .i64 U, .int .i64 D, .slice Az nz cz, .int .i64 Q] 28))
  rw [← hW0] at T0
  have Z0 : Hid (Blk W0 w.heap.size 28 #[.int .i64 P, .slice As ns cs, .slice Ai ni ci, .int .i64 R, .int .i64 X, .int .i64 V, .int .i64 U, .int .i64 D, .slice Az nz cz, .int .i64 Q]) := Lib.hid (by rw [hW0]; exact Blk.new _ _ _)
  have hsz : w.heap.size < W0.heap.size := by rw [hW0]; simp
  have hwr : IntKind.i64.wrap ((ns : Int) + (ni : Int) - 1) = (ns : Int) + (ni : Int) - 1 := wrap_in _ (by omega) (by omega)
  obtain ⟨b, hb⟩ : ∃ b, b = siteAt ns ni node := ⟨_, rfl⟩
  rw [← hb]
  have hin : SaysOf b ((ns : Int) ≤ node ∧ node ≤ (ns : Int) + ni - 1) := by unfold SaysOf; rw [hb]; simp [siteAt]; omega
  clear hb
  cases b
  all_goals
    have HIN := Lib.hid hin
    clear hin
    go_enter Tryd.func95, Tryd.ntmps95
    go_wp2_with fail
    rw [← hW0]
    have hc := Z0.out.ten
    obtain ⟨c0, c1, c2, c3, c4, c5, c6, c7, c8, c9⟩ := hc
    clear hW0
    go_region_held3 (fun w' => w'.cell? ⟨w.heap.size, 0, none⟩ = some (.int .i64 P) ∧ w'.cell? ⟨w.heap.size, 1, none⟩ = some (.slice As ns cs) ∧ w'.cell? ⟨w.heap.size, 2, none⟩ = some (.slice Ai ni ci) ∧ w'.cell? ⟨w.heap.size, 3, none⟩ = some (.int .i64 R) ∧ w'.cell? ⟨w.heap.size, 4, none⟩ = some (.int .i64 X) ∧ w'.cell? ⟨w.heap.size, 5, none⟩ = some (.int .i64 V) ∧ w'.cell? ⟨w.heap.size, 6, none⟩ = some (.int .i64 U) ∧ w'.cell? ⟨w.heap.size, 7, none⟩ = some (.int .i64 D) ∧ w'.cell? ⟨w.heap.size, 8, none⟩ = some (.slice Az nz cz) ∧ w'.cell? ⟨w.heap.size, 9, none⟩ = some (.int .i64 Q)) (first | exact ⟨c0, c1, c2, c3, c4, c5, c6, c7, c8, c9⟩ | exact hcA | go_keep) (first
      | (go_at_call 74; refine (snodes _ P R X V U D Q ns ni nz ls li lz As cs Ai ci Az cz hs hi).mono ?_; rintro e wA ⟨rfl, bA⟩; have HBA : Hid (Below W0.heap.size W0 wA) := Lib.hid (by first | exact (Below.refl _ _).drew.trans bA | exact bA); have hcA := (Z0.out.below HBA.out hsz).ten; clear bA)
      | (go_at_call 94; first | (refine (sinr_t _ _ _ _ HIN.out.t.1 HIN.out.t.2).mono ?_; rintro e w' ⟨rfl, rfl⟩) | (refine (sinr_f _ _ _ _ HIN.out.f).mono ?_; rintro e w' ⟨rfl, rfl⟩)))
    have HF := Lib.hid (T0.out.trans (HBA.out.mono (by omega)))
    go_wp2
    go_ret
    exact ⟨rfl, HF.out⟩
set_option maxRecDepth 100000 in
theorem splane (w : World) (P R X V U D Q : Int) (ns ni nz : Nat) (ls : List Sat4) (li lz : List Tri) (As : Option Addr) (cs : Nat) (Ai : Option Addr) (ci : Nat) (Az : Option Addr) (cz : Nat) (D0 : Nat) (h : InSky w (D0) As ns cs Ai ni ci Az nz cz ls li lz) (hD : D0 ≤ w.heap.size) (hs : ns ≤ 16777216) (hi : ni ≤ 16777216) (node : Int) (hn : J64 node) :
    Calls Tryd.prog 96 #[.agg #[.int .i64 P, .slice As ns cs, .slice Ai ni ci, .int .i64 R, .int .i64 X, .int .i64 V, .int .i64 U, .int .i64 D, .slice Az nz cz, .int .i64 Q], .int .i64 node] w (Num w (planeOf ls li node)) := by
  have T0 := Lib.hid ((Below.refl w.heap.size w).alloc (Nat.le_refl _) (.cells #[.int .i64 P, .slice As ns cs, .slice Ai ni ci, .int .i64 R, .int .i64 X, .int .i64 V, .int .i64 U, .int .i64 D, .slice Az nz cz, .int .i64 Q] 28))
  have H := Lib.hid h
  obtain rfl := h.ns_; obtain rfl := h.ni_
  have hc1 := h.s.cap; have hc2 := h.s.capm; have hc3 := h.i.cap; have hc4 := h.i.capm
  unfold J64 at hn
  rcases node_cases ls li node with ⟨k, hk, rfl, -, hp, hsite⟩ | ⟨k, hk, rfl, -, hp, hsite⟩ | ⟨hr, -, hp, hsite⟩
  · rw [hp]
    obtain ⟨ad, hx, rfl, had, q0, q1, q2, q3⟩ := (h.below T0.out hD).s.four hk
    obtain ⟨e, he⟩ : ∃ e, e = ls[k] := ⟨_, rfl⟩
    rw [← he] at q0 q1 q2 q3 ⊢
    obtain ⟨x, y, z, u⟩ := e
    simp only at q0 q1 q2 q3 ⊢
    clear hp h he hsite
    go_enter Tryd.func96, Tryd.ntmps96
    go_wp2_with fail
    refine (sinr_t _ _ _ _ (by omega) (by omega)).mono ?_
    rintro e w' ⟨rfl, rfl⟩
    go_wp2
    go_ret
    exact ⟨rfl, T0.out⟩
  · rw [hp]
    obtain ⟨ad, hx, rfl, had, -⟩ := h.i.tri hk
    obtain ⟨e, he⟩ : ∃ e, e = li[k] := ⟨_, rfl⟩
    rw [← he]
    obtain ⟨x, y, z⟩ := e
    have HE := Lib.hid he
    obtain ⟨W0, hW0⟩ : ∃ W, W = w.alloc (.cells #[.int .i64 P, .slice As ls.length cs, .slice (some ad) li.length ci, .int .i64 R, .int .i64 X, .int .i64 V, .int .i64 U, .int .i64 D, .slice Az nz cz, .int .i64 Q] 28) := ⟨_, rfl⟩
    rw [← hW0] at T0
    have Z0 : Hid (Blk W0 w.heap.size 28 #[.int .i64 P, .slice As ls.length cs, .slice (some ad) li.length ci, .int .i64 R, .int .i64 X, .int .i64 V, .int .i64 U, .int .i64 D, .slice Az nz cz, .int .i64 Q]) := Lib.hid (by rw [hW0]; exact Blk.new _ _ _)
    have hsz : w.heap.size < W0.heap.size := by rw [hW0]; simp
    have HS := Lib.hid hsite
    clear hp h he hsite
    go_enter Tryd.func96, Tryd.ntmps96
    go_wp2_with fail
    rw [← hW0]
    refine (sinr_f _ _ _ _ (by omega)).mono ?_
    rintro e w' ⟨rfl, rfl⟩
    have hc := Z0.out.ten
    obtain ⟨c0, c1, c2, c3, c4, c5, c6, c7, c8, c9⟩ := hc
    clear hW0
    go_wp2_with fail
    refine (sissite _ P R X V U D Q ls.length li.length nz ls li lz As cs (some ad) ci Az cz hs hi _).mono ?_
    rintro e w1 ⟨rfl, b1⟩
    rw [HS.out]
    obtain ⟨d0, d1, d2, d3, d4, d5, d6, d7, d8, d9⟩ := (Z0.out.below b1 hsz).ten
    obtain ⟨ad', hx', e', had', q0, q1, q2⟩ := ((H.out.below T0.out hD).below b1 (by omega)).i.tri hk
    injection e' with e'
    subst e'
    rw [← HE.out] at q0 q1 q2
    simp only at q0 q1 q2
    have HF := Lib.hid (T0.out.trans (b1.mono (by omega)))
    clear b1 c0 c1 c2 c3 c4 c5 c6 c7 c8 c9 HE H
    go_wp2
    go_ret
    exact ⟨rfl, HF.out⟩
  · rw [hp]
    have HS := Lib.hid hsite
    clear hp h hsite
    go_enter Tryd.func96, Tryd.ntmps96
    go_wp2_with fail
    refine (sinr_f _ _ _ _ (by omega)).mono ?_
    rintro e w' ⟨rfl, rfl⟩
    go_wp2_with fail
    refine (sissite _ P R X V U D Q ls.length li.length nz ls li lz As cs Ai ci Az cz hs hi _).mono ?_
    rintro e w1 ⟨rfl, b1⟩
    rw [HS.out]
    have HF := Lib.hid (T0.out.trans (b1.mono (by simp)))
    clear b1
    go_wp2
    go_ret
    exact ⟨rfl, HF.out⟩
end Go.Proofs.YtffjkdbnkljmhaaDoor
