/- IsSite and PlaneOf of both sides. -/
import Derived.Test.YtciopplobeiokaaDoorNodes
namespace Go.Proofs.YtciopplobeiokaaDoor
open Go.ChangeShapes Go.WideShapes Go.ChangeAt Go.RowKit
set_option linter.unusedVariables false
/-- b says p (kept whole by the walk) -/
def SaysOf (b : Bool) (p : Prop) : Prop := b = true ↔ p
theorem SaysOf.t {p : Prop} (h : SaysOf true p) : p := h.1 rfl
theorem SaysOf.f {p : Prop} (h : SaysOf false p) : ¬ p := fun hp => by cases h.2 hp
theorem sat_plane (w : World) (x y z u : Int) : Calls Tryd.prog 82 #[.agg #[.int .i64 x, .int .i64 y, .int .i64 z, .int .i64 u]] w (Num w x) := by
  go_enter Tryd.func82, Tryd.ntmps82
  go_wp2
  go_ret
  exact ⟨rfl, (Below.refl _ _).alloc (Nat.le_refl _) _⟩
theorem site_plane (w : World) (x y z : Int) : Calls Tryd.prog 84 #[.agg #[.int .i64 x, .int .i64 y, .int .i64 z]] w (Num w x) := by
  go_enter Tryd.func84, Tryd.ntmps84
  go_wp2
  go_ret
  exact ⟨rfl, (Below.refl _ _).alloc (Nat.le_refl _) _⟩
set_option maxRecDepth 100000 in
theorem iissite (w : World) (P R X V U D Q : Int) (ns ni nz : Nat) (ls : List Sat4) (li lz : List Tri) (As : Option Addr) (cs : Nat) (Ai : Option Addr) (ci : Nat) (Az : Option Addr) (cz : Nat) (D0 : Nat) (h : InSky w (D0) As ns cs Ai ni ci Az nz cz ls li lz) (hD : D0 ≤ w.heap.size) (hs : ns ≤ 16777216) (hi : ni ≤ 16777216) (node : Int) (hn : J64 node) :
    Calls Tryd.prog 8 #[.agg #[.int .i64 P, .slice As ns cs, .slice Ai ni ci, .int .i64 R, .int .i64 X, .int .i64 V, .int .i64 U, .int .i64 D, .slice Az nz cz, .int .i64 Q], .int .i64 node] w (Tells w (siteAt ns ni node)) := by
  have T0 := Lib.hid ((Below.refl w.heap.size w).alloc (Nat.le_refl _) (.cells #[.int .i64 P, .slice As ns cs, .slice Ai ni ci, .int .i64 R, .int .i64 X, .int .i64 V, .int .i64 U, .int .i64 D, .slice Az nz cz, .int .i64 Q] 28))
  have H := Lib.hid h
  have HN := Lib.hid hn
  obtain ⟨kd, hkd⟩ : ∃ kd : Int, (kd = 1 ∨ kd = 2 ∨ kd = 0) ∧ (kd = 2 ↔ siteAt ns ni node = true) ∧ ∀ w, Calls Tryd.prog 20 #[nodeV ls li node] w fun e w' => e = .returned (.int .i64 kd) ∧ w = w' := by
    obtain rfl := h.ns_; obtain rfl := h.ni_
    rcases node_cases ls li node with ⟨k, hk, rfl, hv, -, hsite⟩ | ⟨k, hk, rfl, hv, -, hsite⟩ | ⟨hr, hv, -, hsite⟩
    · exact ⟨1, .inl rfl, by simp [hsite], fun w => by rw [hv]; exact kind_sat _ _⟩
    · exact ⟨2, .inr (.inl rfl), by simp [hsite], fun w => by rw [hv]; exact kind_site _ _⟩
    · exact ⟨0, .inr (.inr rfl), by simp [hsite], fun w => by rw [hv]; exact kind_none _⟩
  have HK := Lib.hid hkd
  obtain ⟨b, hb⟩ : ∃ b, b = siteAt ns ni node := ⟨_, rfl⟩
  rw [← hb] at HK ⊢
  have hor := HK.out.1
  have hb2 := HK.out.2.1
  clear h hn hkd hb
  rcases hor with rfl | rfl | rfl
  all_goals
    cases b
    all_goals first | (exfalso; simp at hb2; done) | skip
    all_goals
      clear hb2
      go_enter Tryd.func8, Tryd.ntmps8
      go_wp2_with fail
      refine (inode _ P R X V U D Q ns ni nz ls li lz As cs Ai ci Az cz D0 (H.out.below T0.out hD) (by simp; omega) hs hi node HN.out).mono ?_
      rintro e w1 ⟨rfl, b1⟩
      have B1 := Lib.hid (T0.out.trans (b1.mono (by simp)))
      clear b1
      go_wp2_with fail
      refine (HK.out.2.2 _).mono ?_
      rintro e w2 ⟨rfl, rfl⟩
      go_wp2
      go_ret
      exact ⟨rfl, B1.out⟩
set_option maxRecDepth 100000 in
theorem iplane (w : World) (P R X V U D Q : Int) (ns ni nz : Nat) (ls : List Sat4) (li lz : List Tri) (As : Option Addr) (cs : Nat) (Ai : Option Addr) (ci : Nat) (Az : Option Addr) (cz : Nat) (D0 : Nat) (h : InSky w (D0) As ns cs Ai ni ci Az nz cz ls li lz) (hD : D0 ≤ w.heap.size) (hs : ns ≤ 16777216) (hi : ni ≤ 16777216) (node : Int) (hn : J64 node) :
    Calls Tryd.prog 10 #[.agg #[.int .i64 P, .slice As ns cs, .slice Ai ni ci, .int .i64 R, .int .i64 X, .int .i64 V, .int .i64 U, .int .i64 D, .slice Az nz cz, .int .i64 Q], .int .i64 node] w (Num w (planeOf ls li node)) := by
  have T0 := Lib.hid ((Below.refl w.heap.size w).alloc (Nat.le_refl _) (.cells #[.int .i64 P, .slice As ns cs, .slice Ai ni ci, .int .i64 R, .int .i64 X, .int .i64 V, .int .i64 U, .int .i64 D, .slice Az nz cz, .int .i64 Q] 28))
  have H := Lib.hid h
  have HN := Lib.hid hn
  clear hn
  rcases node_cases ls li node with ⟨k, hk, hnode, hv, hp, -⟩ | ⟨k, hk, hnode, hv, hp, -⟩ | ⟨hr, hv, hp, -⟩
  · rw [hp]
    obtain ⟨e, he⟩ : ∃ e, e = ls[k] := ⟨_, rfl⟩
    rw [← he] at hv ⊢
    obtain ⟨x, y, z, u⟩ := e
    have HV := Lib.hid hv
    clear h hv hp he hk hnode
    go_enter Tryd.func10, Tryd.ntmps10
    go_wp2_with fail
    refine (inode _ P R X V U D Q ns ni nz ls li lz As cs Ai ci Az cz D0 (H.out.below T0.out hD) (by simp; omega) hs hi node HN.out).mono ?_
    rintro e w1 ⟨rfl, b1⟩
    rw [HV.out]
    have B1 := Lib.hid (T0.out.trans (b1.mono (by simp)))
    clear b1
    go_wp2_with fail
    refine (sat_plane _ x y z u).mono ?_
    rintro e w2 ⟨rfl, b2⟩
    have B2 := Lib.hid (B1.out.trans (b2.mono B1.out.size))
    clear b2
    go_wp2
    go_ret
    exact ⟨rfl, B2.out⟩
  · rw [hp]
    obtain ⟨e, he⟩ : ∃ e, e = li[k] := ⟨_, rfl⟩
    rw [← he] at hv ⊢
    obtain ⟨x, y, z⟩ := e
    have HV := Lib.hid hv
    clear h hv hp he hk hnode
    go_enter Tryd.func10, Tryd.ntmps10
    go_wp2_with fail
    refine (inode _ P R X V U D Q ns ni nz ls li lz As cs Ai ci Az cz D0 (H.out.below T0.out hD) (by simp; omega) hs hi node HN.out).mono ?_
    rintro e w1 ⟨rfl, b1⟩
    rw [HV.out]
    have B1 := Lib.hid (T0.out.trans (b1.mono (by simp)))
    clear b1
    go_wp2_with fail
    refine (site_plane _ x y z).mono ?_
    rintro e w2 ⟨rfl, b2⟩
    have B2 := Lib.hid (B1.out.trans (b2.mono B1.out.size))
    clear b2
    go_wp2
    go_ret
    exact ⟨rfl, B2.out⟩
  · rw [hp]
    have HV := Lib.hid hv
    clear h hv hp hr
    go_enter Tryd.func10, Tryd.ntmps10
    go_wp2_with fail
    refine (inode _ P R X V U D Q ns ni nz ls li lz As cs Ai ci Az cz D0 (H.out.below T0.out hD) (by simp; omega) hs hi node HN.out).mono ?_
    rintro e w1 ⟨rfl, b1⟩
    rw [HV.out]
    have B1 := Lib.hid (T0.out.trans (b1.mono (by simp)))
    clear b1
    go_wp2
    go_ret
    exact ⟨rfl, B1.out⟩
end Go.Proofs.YtciopplobeiokaaDoor
