/- Chapter 10's draws DrawQuietSpans, DrawSpeakingSpans and DrawMayDisturb. -/
import Derived.Test.YtlaigbhiligceaaGreatDoorDrawTen
import Derived.Deep.Cut
import Derived.Deep.DeepCutAuto
import Derived.Deep.CutRange
namespace Go.Proofs.YtlaigbhiligceaaGreatDoor
open Go.ChangeShapes Go.WideShapes Go.ChangeAt Go.RowKit
set_option linter.unusedVariables false
theorem Own.turn' {p : Nat} {w w' : World} {B s n c : Nat} {E : TypeId} {A : Option Addr} {xs : List Value} (h : Own w B E s A n c xs) (ht : Turn p w w') (hp : NotAt p A) : Own w' B E s A n c xs := by
  refine h.kept ht.grownBy ?_
  rcases A with _ | a
  · exact .inl rfl
  · right
    intro e
    simp [Value.ownBlock] at e
    exact hp a rfl e
theorem OwnSky.turn' {p : Nat} {w w' : World} {B : Nat} {As : Option Addr} {ns cs : Nat} {Ai : Option Addr} {ni ci : Nat} {Az : Option Addr} {nz cz : Nat} {ls : List Sat4} {li lz : List Tri} (h : OwnSky w B As ns cs Ai ni ci Az nz cz ls li lz) (ht : Turn p w w') (h1 : NotAt p As) (h2 : NotAt p Ai) (h3 : NotAt p Az) : OwnSky w' B As ns cs Ai ni ci Az nz cz ls li lz := ⟨h.s.turn' ht h1, h.i.turn' ht h2, h.z.turn' ht h3⟩
theorem OwnSky.more {w w' : World} {B : Nat} {As : Option Addr} {ns cs : Nat} {Ai : Option Addr} {ni ci : Nat} {Az : Option Addr} {nz cz : Nat} {ls : List Sat4} {li lz : List Tri} {A2 : Option Addr} {c2 : Nat} {x : Tri} (h : OwnSky w B As ns cs Ai ni ci Az nz cz ls li lz) (haz : Apart As Az) (hiz : Apart Ai Az) (ho : Own w' B 118 3 A2 (nz + 1) c2 (fl c3 lz ++ c3 x)) (hg : w.grownBy w' (Value.slice Az nz cz).ownBlock) : OwnSky w' B As ns cs Ai ni ci A2 (nz + 1) c2 ls li (lz ++ [x]) := by
  have key : ∀ A', Apart A' Az → (Value.slice A' 0 0).ownBlock = none ∨ (Value.slice A' 0 0).ownBlock ≠ (Value.slice Az nz cz).ownBlock := fun A' ha => by
    rcases A' with _ | a
    · exact .inl rfl
    · right
      intro e
      rcases Az with _ | b
      · simp [Value.ownBlock] at e
      · simp [Value.ownBlock] at e
        exact ha a b rfl rfl e
  refine ⟨h.s.kept hg (by have := key As haz; rcases As with _ | a; exact .inl rfl; exact this), h.i.kept hg (by have := key Ai hiz; rcases Ai with _ | a; exact .inl rfl; exact this), ?_⟩
  rw [fl_app]
  simpa [fl] using ho
theorem notat_app {s m n c n' c' : Nat} {A A2 : Option Addr} (h : NotAt s A) (hat : (Value.slice A2 n c).ownBlock = (Value.slice A n' c').ownBlock ∨ (Value.slice A2 n c).ownBlock = some m) (hm : s < m) : NotAt s A2 := by
  intro a ea
  subst ea
  rcases hat with e | e
  · rcases A with _ | b
    · simp [Value.ownBlock] at e
    · simp [Value.ownBlock] at e
      rw [e]; exact h b rfl
  · simp [Value.ownBlock] at e
    omega
/-- what the draw answers -/
def GotQuiet (w : World) (e : Ending) (w' : World) : Prop :=
  (∃ (P R X V U D Q : Int) (ns ni nz : Nat) (ls : List Sat4) (li lz : List Tri) (As : Option Addr) (cs : Nat) (Ai : Option Addr) (ci : Nat) (Az : Option Addr) (cz : Nat) (a f t : Int),
    e = .returned (.tuple #[.agg #[.int .i64 P, .slice As ns cs, .slice Ai ni ci, .int .i64 R, .int .i64 X, .int .i64 V, .int .i64 U, .int .i64 D, .slice Az nz cz, .int .i64 Q], .int .i64 a, .int .i64 f, .int .i64 t]) ∧ OwnSky w' w.heap.size As ns cs Ai ni ci Az nz cz ls li lz ∧ (ns ≤ 6 ∧ ni = 2 ∧ nz ≤ 2) ∧ (J64 P ∧ J64 R ∧ J64 X ∧ J64 V ∧ J64 U ∧ J64 D ∧ J64 Q) ∧ (∀ x ∈ ls, Okz x) ∧ (∀ x ∈ li, Oky x) ∧ (0 ≤ a ∧ a ≤ 7) ∧ (-2 ≤ f ∧ f ≤ 17 ∧ f ≤ t ∧ t ≤ 56)) ∧ Below w.heap.size w w'
set_option maxRecDepth 100000 in
set_option maxHeartbeats 2000000 in
theorem drawquiet (w : World) (A : Option Addr) (cap : Nat) (xs : List Value) (hB : Bytes xs) (hn : xs.length ≤ 1048576) (hR : Reads w w.heap.size A xs) :
    Calls Tryz.prog 64 #[.slice A xs.length cap] w (GotQuiet w) := by
  have B1 := Lib.hid ((Below.refl w.heap.size w).alloc (Nat.le_refl _) (.cells #[.int .i64 0, .slice none 0 0, .slice none 0 0, .int .i64 0, .int .i64 0, .int .i64 0, .int .i64 0, .int .i64 0, .slice none 0 0, .int .i64 0] 28))
  have R1 : Hid (Blk (w.alloc (.cells #[.int .i64 0, .slice none 0 0, .slice none 0 0, .int .i64 0, .int .i64 0, .int .i64 0, .int .i64 0, .int .i64 0, .slice none 0 0, .int .i64 0] 28)) w.heap.size 28 #[.int .i64 0, .slice none 0 0, .slice none 0 0, .int .i64 0, .int .i64 0, .int .i64 0, .int .i64 0, .int .i64 0, .slice none 0 0, .int .i64 0]) := Lib.hid (Blk.new _ _ _)
  have HR := Lib.hid ((hR.below B1.out (Nat.le_refl _)).more B1.out.size)
  go_enter Tryz.func64, Tryz.ntmps64
  go_wp2_with fail
  refine (dnew _ _ _ _ hB hn HR.out).mono ?_
  rintro e w1 ⟨⟨p, hp, rfl, hc⟩, hb⟩
  have hp1 : w.heap.size < p := by simp at hp; omega
  have hp2 : ¬ (w.heap.size = p) := by omega
  have B2 := Lib.hid (B1.out.trans (hb.mono (by simp)))
  have R2 := Lib.hid (R1.out.below hb R1.out.lt)
  have K2 := Lib.hid hc
  clear hb hc B1 R1 hp
  go_wp2_with fail
  refine (dten _ _ _ _ _ K2.out).mono ?_
  rintro e w2 ⟨⟨P, R, X, V, U, D, Q, ns, ni, nz, ls, li, lz, As, cs, Ai, ci, Az, cz, rfl, ho, hns, hap, hj, hk1, hk2⟩, c1, u1⟩
  have HJ := Lib.hid hj; have HN := Lib.hid hns; have HK := Lib.hid (And.intro hk1 hk2)
  have hw1 : w.heap.size < w1.heap.size := R2.out.lt
  have hsp : ¬ (w2.heap.size = p) := by have := c1.lt; omega
  have HO := Lib.hid (ho.alloc (.cells #[.int .i64 P, .slice As ns cs, .slice Ai ni ci, .int .i64 R, .int .i64 X, .int .i64 V, .int .i64 U, .int .i64 D, .slice Az nz cz, .int .i64 Q] 28))
  have B3 := Lib.hid ((B2.out.trans ((u1.below K2.out.lt).mono (by omega))).alloc (by have := (u1.blk R2.out hp2).lt; omega) (.cells #[.int .i64 P, .slice As ns cs, .slice Ai ni ci, .int .i64 R, .int .i64 X, .int .i64 V, .int .i64 U, .int .i64 D, .slice Az nz cz, .int .i64 Q] 28))
  have R3 := Lib.hid ((u1.blk R2.out hp2).alloc (.cells #[.int .i64 P, .slice As ns cs, .slice Ai ni ci, .int .i64 R, .int .i64 X, .int .i64 V, .int .i64 U, .int .i64 D, .slice Az nz cz, .int .i64 Q] 28))
  have S3 : Hid (Blk (w2.alloc (.cells #[.int .i64 P, .slice As ns cs, .slice Ai ni ci, .int .i64 R, .int .i64 X, .int .i64 V, .int .i64 U, .int .i64 D, .slice Az nz cz, .int .i64 Q] 28)) w2.heap.size 28 #[.int .i64 P, .slice As ns cs, .slice Ai ni ci, .int .i64 R, .int .i64 X, .int .i64 V, .int .i64 U, .int .i64 D, .slice Az nz cz, .int .i64 Q]) := Lib.hid (Blk.new _ _ _)
  have K3 := Lib.hid (c1.alloc (.cells #[.int .i64 P, .slice As ns cs, .slice Ai ni ci, .int .i64 R, .int .i64 X, .int .i64 V, .int .i64 U, .int .i64 D, .slice Az nz cz, .int .i64 Q] 28))
  have hpw : p < w1.heap.size := K2.out.lt
  have hs2 : w.heap.size < w2.heap.size := (u1.blk R2.out hp2).lt
  clear hj hns hap hk1 hk2 ho c1 u1 B2 R2 K2
  go_wp2_with fail
  refine (dbelow _ _ _ _ _ _ K3.out (by omega)).mono ?_
  rintro e w3 ⟨⟨x, hx, rfl⟩, c1, u1⟩
  have hx1 := hx.1 (by omega)
  have HO4 := Lib.hid (HO.out.turn u1 hpw); have B4 := Lib.hid (B3.out.trans ((u1.below K3.out.lt).mono (by omega))); have R4 := Lib.hid (u1.blk R3.out hp2); have S4 := Lib.hid (u1.blk S3.out hsp); have K4 := Lib.hid c1
  clear hx c1 u1 HO B3 R3 S3 K3
  go_wp2_with fail
  refine (dbelow _ _ _ _ _ _ K4.out (by omega)).mono ?_
  rintro e w6 ⟨⟨f, hf, rfl⟩, c1, u1⟩
  have hf1 := hf.1 (by omega)
  have HO7 := Lib.hid (HO4.out.turn u1 hpw); have B7 := Lib.hid (B4.out.trans ((u1.below K4.out.lt).mono (by omega))); have R7 := Lib.hid (u1.blk R4.out hp2); have S7 := Lib.hid (u1.blk S4.out hsp); have K7 := Lib.hid c1
  clear hf c1 u1 HO4 B4 R4 S4 K4
  have hw : IntKind.i64.wrap ((f : Int) - 2) = (f : Int) - 2 := wrap_in _ (by omega) (by omega)
  obtain ⟨c0, c1, c2, c3, c4, c5, c6, c7, c8, c9⟩ := S7.out.ten
  have K5 : Hid (Cur w6.drew p A cap xs) := Lib.hid K7.out
  go_wp2_with fail
  go_region_law (first
    | (go_simp; go_at_call 38; refine (dbelow _ _ _ _ _ _ K5.out (by omega)).mono ?_; rintro e w5 ⟨⟨z, hz, rfl⟩, c5, u5'⟩; have hz1 := hz.1 (by omega); have u5 : Turn p w6 w5 := ((Turn.refl p w6).drew).trans u5'; have HO5 := Lib.hid (HO7.out.turn u5 hpw); have B5 := Lib.hid (B7.out.trans ((u5.below K7.out.lt).mono (by omega))); have R5 := Lib.hid (u5.blk R7.out hp2); have S5 := Lib.hid (u5.blk S7.out hsp); obtain ⟨d0, d1, d2, d3, d4, d5, d6, d7, d8, d9⟩ := S5.out.ten; obtain ⟨r0, r1, r2, r3, r4, r5, r6, r7, r8, r9⟩ := R5.out.ten; have f0 := R5.out.frozen 0; have f1 := R5.out.frozen 1; have f2 := R5.out.frozen 2; have f3 := R5.out.frozen 3; have f4 := R5.out.frozen 4; have f5 := R5.out.frozen 5; have f6 := R5.out.frozen 6; have f7 := R5.out.frozen 7; have f8 := R5.out.frozen 8; have f9 := R5.out.frozen 9; have hwz : IntKind.i64.wrap ((f : Int) - 2 + (z : Int)) = (f : Int) - 2 + (z : Int) := wrap_in _ (by omega) (by omega); clear hz c5 u5' u5))
  all_goals
    have ZF := Lib.hid ((((((((((R5.out.set_ 0 (.int .i64 P)).set_ 1 (.slice As ns cs)).set_ 2 (.slice Ai ni ci)).set_ 3 (.int .i64 R)).set_ 4 (.int .i64 X)).set_ 5 (.int .i64 V)).set_ 6 (.int .i64 U)).set_ 7 (.int .i64 D)).set_ 8 (.slice Az nz cz)).set_ 9 (.int .i64 Q))
    have OF := Lib.hid ((((((((((HO5.out.far (a := ⟨w.heap.size, 0, none⟩) hw1 (.int .i64 P)).far (a := ⟨w.heap.size, 1, none⟩) hw1 (.slice As ns cs)).far (a := ⟨w.heap.size, 2, none⟩) hw1 (.slice Ai ni ci)).far (a := ⟨w.heap.size, 3, none⟩) hw1 (.int .i64 R)).far (a := ⟨w.heap.size, 4, none⟩) hw1 (.int .i64 X)).far (a := ⟨w.heap.size, 5, none⟩) hw1 (.int .i64 V)).far (a := ⟨w.heap.size, 6, none⟩) hw1 (.int .i64 U)).far (a := ⟨w.heap.size, 7, none⟩) hw1 (.int .i64 D)).far (a := ⟨w.heap.size, 8, none⟩) hw1 (.slice Az nz cz)).far (a := ⟨w.heap.size, 9, none⟩) hw1 (.int .i64 Q))
    have BF := Lib.hid ((((((((((B5.out.setCell (p := ⟨w.heap.size, 0, none⟩) (Nat.le_refl _) (.int .i64 P)).setCell (p := ⟨w.heap.size, 1, none⟩) (Nat.le_refl _) (.slice As ns cs)).setCell (p := ⟨w.heap.size, 2, none⟩) (Nat.le_refl _) (.slice Ai ni ci)).setCell (p := ⟨w.heap.size, 3, none⟩) (Nat.le_refl _) (.int .i64 R)).setCell (p := ⟨w.heap.size, 4, none⟩) (Nat.le_refl _) (.int .i64 X)).setCell (p := ⟨w.heap.size, 5, none⟩) (Nat.le_refl _) (.int .i64 V)).setCell (p := ⟨w.heap.size, 6, none⟩) (Nat.le_refl _) (.int .i64 U)).setCell (p := ⟨w.heap.size, 7, none⟩) (Nat.le_refl _) (.int .i64 D)).setCell (p := ⟨w.heap.size, 8, none⟩) (Nat.le_refl _) (.slice Az nz cz)).setCell (p := ⟨w.heap.size, 9, none⟩) (Nat.le_refl _) (.int .i64 Q))
    clear HO5 B5 R5 S5 HO7 B7 R7 S7 K7 K5
    go_wp2
    have k0 := ZF.out.cell 0; have k1 := ZF.out.cell 1; have k2 := ZF.out.cell 2; have k3 := ZF.out.cell 3; have k4 := ZF.out.cell 4; have k5 := ZF.out.cell 5; have k6 := ZF.out.cell 6; have k7 := ZF.out.cell 7; have k8 := ZF.out.cell 8; have k9 := ZF.out.cell 9
    simp at k0 k1 k2 k3 k4 k5 k6 k7 k8 k9
    refine bodyPost_ret (v := .tuple #[.agg #[.int .i64 P, .slice As ns cs, .slice Ai ni ci, .int .i64 R, .int .i64 X, .int .i64 V, .int .i64 U, .int .i64 D, .slice Az nz cz, .int .i64 Q], .int .i64 x, .int .i64 ((f : Int) - 2), .int .i64 ((f : Int) - 2 + (z : Int))]) (by simp [results, Tryz.results64, go_sem, k0, k1, k2, k3, k4, k5, k6, k7, k8, k9]) rfl ?_
    exact ⟨⟨_, _, _, _, _, _, _, _, _, _, _, _, _, _, _, _, _, _, _, _, _, _, rfl, OF.out.fewer (Nat.le_of_lt hw1), HN.out, HJ.out, HK.out.1, HK.out.2, by omega, by omega⟩, BF.out⟩
/-- what the draw answers -/
def GotSpeak (w : World) (e : Ending) (w' : World) : Prop :=
  (∃ (P R X V U D Q : Int) (ns ni nz : Nat) (ls : List Sat4) (li lz : List Tri) (As : Option Addr) (cs : Nat) (Ai : Option Addr) (ci : Nat) (Az : Option Addr) (cz : Nat) (a b f t : Int),
    e = .returned (.tuple #[.agg #[.int .i64 P, .slice As ns cs, .slice Ai ni ci, .int .i64 R, .int .i64 X, .int .i64 V, .int .i64 U, .int .i64 D, .slice Az nz cz, .int .i64 Q], .int .i64 a, .int .i64 b, .int .i64 f, .int .i64 t]) ∧ OwnSky w' w.heap.size As ns cs Ai ni ci Az nz cz ls li lz ∧ (ns ≤ 6 ∧ ni = 2 ∧ nz ≤ 2) ∧ (J64 P ∧ J64 R ∧ J64 X ∧ J64 V ∧ J64 U ∧ J64 D ∧ J64 Q) ∧ (∀ x ∈ ls, Okz x) ∧ (∀ x ∈ li, Oky x) ∧ (0 ≤ a ∧ a ≤ 7 ∧ 0 ≤ b ∧ b ≤ 7) ∧ (-2 ≤ f ∧ f ≤ 17 ∧ f ≤ t ∧ t ≤ 56)) ∧ Below w.heap.size w w'
set_option maxRecDepth 100000 in
set_option maxHeartbeats 2000000 in
theorem drawspeak (w : World) (A : Option Addr) (cap : Nat) (xs : List Value) (hB : Bytes xs) (hn : xs.length ≤ 1048576) (hR : Reads w w.heap.size A xs) :
    Calls Tryz.prog 28 #[.slice A xs.length cap] w (GotSpeak w) := by
  have B1 := Lib.hid ((Below.refl w.heap.size w).alloc (Nat.le_refl _) (.cells #[.int .i64 0, .slice none 0 0, .slice none 0 0, .int .i64 0, .int .i64 0, .int .i64 0, .int .i64 0, .int .i64 0, .slice none 0 0, .int .i64 0] 28))
  have R1 : Hid (Blk (w.alloc (.cells #[.int .i64 0, .slice none 0 0, .slice none 0 0, .int .i64 0, .int .i64 0, .int .i64 0, .int .i64 0, .int .i64 0, .slice none 0 0, .int .i64 0] 28)) w.heap.size 28 #[.int .i64 0, .slice none 0 0, .slice none 0 0, .int .i64 0, .int .i64 0, .int .i64 0, .int .i64 0, .int .i64 0, .slice none 0 0, .int .i64 0]) := Lib.hid (Blk.new _ _ _)
  have HR := Lib.hid ((hR.below B1.out (Nat.le_refl _)).more B1.out.size)
  go_enter Tryz.func28, Tryz.ntmps28
  go_wp2_with fail
  refine (drawquiet _ _ _ _ hB hn HR.out).mono ?_
  rintro e w1 ⟨⟨P, R, X, V, U, D, Q, ns, ni, nz, ls, li, lz, As, cs, Ai, ci, Az, cz, a, f, t, rfl, ho, hns, hj, hk1, hk2, hab, ht⟩, hb⟩
  have HJ := Lib.hid hj; have HN := Lib.hid hns; have HK := Lib.hid (And.intro hk1 hk2); have HAB := Lib.hid hab; have HTT := Lib.hid ht
  have ho1 : OwnSky w1 (w.heap.size + 1) As ns cs Ai ni ci Az nz cz ls li lz := by simpa using ho
  have B2a := B1.out.trans (hb.mono (by simp))
  have s1 : w.heap.size < w1.heap.size := (R1.out.below hb R1.out.lt).lt
  obtain ⟨gs, hgs⟩ : ∃ g, g = w1.heap.size := ⟨_, rfl⟩
  obtain ⟨W2, hW2⟩ : ∃ W, W = w1.alloc (.cells #[.int .i64 P, .slice As ns cs, .slice Ai ni ci, .int .i64 R, .int .i64 X, .int .i64 V, .int .i64 U, .int .i64 D, .slice Az nz cz, .int .i64 Q] 28) := ⟨_, rfl⟩
  have HO : Hid (OwnSky W2 (w.heap.size + 1) As ns cs Ai ni ci Az nz cz ls li lz) := Lib.hid (by rw [hW2]; exact ho1.alloc (.cells #[.int .i64 P, .slice As ns cs, .slice Ai ni ci, .int .i64 R, .int .i64 X, .int .i64 V, .int .i64 U, .int .i64 D, .slice Az nz cz, .int .i64 Q] 28))
  have B2 : Hid (Below w.heap.size w W2) := Lib.hid (by rw [hW2]; exact B2a.alloc B2a.size (.cells #[.int .i64 P, .slice As ns cs, .slice Ai ni ci, .int .i64 R, .int .i64 X, .int .i64 V, .int .i64 U, .int .i64 D, .slice Az nz cz, .int .i64 Q] 28))
  have R2 : Hid (Blk W2 w.heap.size 28 #[.int .i64 0, .slice none 0 0, .slice none 0 0, .int .i64 0, .int .i64 0, .int .i64 0, .int .i64 0, .int .i64 0, .slice none 0 0, .int .i64 0]) := Lib.hid (by rw [hW2]; exact (R1.out.below hb R1.out.lt).alloc (.cells #[.int .i64 P, .slice As ns cs, .slice Ai ni ci, .int .i64 R, .int .i64 X, .int .i64 V, .int .i64 U, .int .i64 D, .slice Az nz cz, .int .i64 Q] 28))
  have S2 : Hid (Blk W2 gs 28 #[.int .i64 P, .slice As ns cs, .slice Ai ni ci, .int .i64 R, .int .i64 X, .int .i64 V, .int .i64 U, .int .i64 D, .slice Az nz cz, .int .i64 Q]) := Lib.hid (by rw [hW2, hgs]; exact Blk.new _ _ _)
  have HRR : Hid (Reads W2 W2.heap.size A xs) := Lib.hid ((hR.below B2.out (Nat.le_refl _)).more B2.out.size)
  clear hj hns hk1 hk2 hab ht ho ho1 hb B2a B1 R1 s1 HR
  go_upto_region 2 with fail
  rw [← hW2, ← hgs]
  clear hW2 hgs
  go_wp2_with fail
  refine (dnew _ _ _ _ hB hn HRR.out).mono ?_
  rintro e w6 ⟨⟨p, hp, rfl, hc⟩, hb⟩
  have hw1 : w.heap.size < w.heap.size + 1 := by omega
  have hgl : w.heap.size < W2.heap.size := R2.out.lt
  have hgs2 : gs < W2.heap.size := S2.out.lt
  have hp2 : ¬ (w.heap.size = p) := by omega
  have hsp : ¬ (gs = p) := by omega
  have hwp : w.heap.size ≤ p := by omega
  have HNP : Hid (NotAt p As ∧ NotAt p Ai ∧ NotAt p Az) := Lib.hid ⟨HO.out.s.notAt hp, HO.out.i.notAt hp, HO.out.z.notAt hp⟩
  have HO7 := Lib.hid (HO.out.on hb); have B7 := Lib.hid (B2.out.trans (hb.mono (by omega))); have R7 := Lib.hid (R2.out.below hb R2.out.lt); have S7 := Lib.hid (S2.out.below hb S2.out.lt); have K7 := Lib.hid hc
  clear hp hc HO B2 R2 S2
  obtain ⟨c0, c1, c2, c3, c4, c5, c6, c7, c8, c9⟩ := S7.out.ten
  have K5 : Hid (Cur w6.drew p A cap xs) := Lib.hid K7.out
  go_wp2_with fail
  go_region_law (first
    | (go_simp; go_at_call 38; refine (dbelow _ _ _ _ _ _ K5.out (by omega)).mono ?_; rintro e w5 ⟨⟨z, hz, rfl⟩, c5, u5'⟩; have hz1 := hz.1 (by omega); have u5 : Turn p w6 w5 := ((Turn.refl p w6).drew).trans u5'; have HO5 := Lib.hid (HO7.out.turn' u5 HNP.out.1 HNP.out.2.1 HNP.out.2.2); have B5 := Lib.hid (B7.out.trans ((u5.below K7.out.lt).mono (by omega))); have R5 := Lib.hid (u5.blk R7.out hp2); have S5 := Lib.hid (u5.blk S7.out hsp); obtain ⟨d0, d1, d2, d3, d4, d5, d6, d7, d8, d9⟩ := S5.out.ten; obtain ⟨r0, r1, r2, r3, r4, r5, r6, r7, r8, r9⟩ := R5.out.ten; have f0 := R5.out.frozen 0; have f1 := R5.out.frozen 1; have f2 := R5.out.frozen 2; have f3 := R5.out.frozen 3; have f4 := R5.out.frozen 4; have f5 := R5.out.frozen 5; have f6 := R5.out.frozen 6; have f7 := R5.out.frozen 7; have f8 := R5.out.frozen 8; have f9 := R5.out.frozen 9; clear hz c5 u5' u5))
  all_goals
    have ZF := Lib.hid ((((((((((R5.out.set_ 0 (.int .i64 P)).set_ 1 (.slice As ns cs)).set_ 2 (.slice Ai ni ci)).set_ 3 (.int .i64 R)).set_ 4 (.int .i64 X)).set_ 5 (.int .i64 V)).set_ 6 (.int .i64 U)).set_ 7 (.int .i64 D)).set_ 8 (.slice Az nz cz)).set_ 9 (.int .i64 Q))
    have OF := Lib.hid ((((((((((HO5.out.far (a := ⟨w.heap.size, 0, none⟩) hw1 (.int .i64 P)).far (a := ⟨w.heap.size, 1, none⟩) hw1 (.slice As ns cs)).far (a := ⟨w.heap.size, 2, none⟩) hw1 (.slice Ai ni ci)).far (a := ⟨w.heap.size, 3, none⟩) hw1 (.int .i64 R)).far (a := ⟨w.heap.size, 4, none⟩) hw1 (.int .i64 X)).far (a := ⟨w.heap.size, 5, none⟩) hw1 (.int .i64 V)).far (a := ⟨w.heap.size, 6, none⟩) hw1 (.int .i64 U)).far (a := ⟨w.heap.size, 7, none⟩) hw1 (.int .i64 D)).far (a := ⟨w.heap.size, 8, none⟩) hw1 (.slice Az nz cz)).far (a := ⟨w.heap.size, 9, none⟩) hw1 (.int .i64 Q))
    have BF := Lib.hid ((((((((((B5.out.setCell (p := ⟨w.heap.size, 0, none⟩) (Nat.le_refl _) (.int .i64 P)).setCell (p := ⟨w.heap.size, 1, none⟩) (Nat.le_refl _) (.slice As ns cs)).setCell (p := ⟨w.heap.size, 2, none⟩) (Nat.le_refl _) (.slice Ai ni ci)).setCell (p := ⟨w.heap.size, 3, none⟩) (Nat.le_refl _) (.int .i64 R)).setCell (p := ⟨w.heap.size, 4, none⟩) (Nat.le_refl _) (.int .i64 X)).setCell (p := ⟨w.heap.size, 5, none⟩) (Nat.le_refl _) (.int .i64 V)).setCell (p := ⟨w.heap.size, 6, none⟩) (Nat.le_refl _) (.int .i64 U)).setCell (p := ⟨w.heap.size, 7, none⟩) (Nat.le_refl _) (.int .i64 D)).setCell (p := ⟨w.heap.size, 8, none⟩) (Nat.le_refl _) (.slice Az nz cz)).setCell (p := ⟨w.heap.size, 9, none⟩) (Nat.le_refl _) (.int .i64 Q))
    clear HO5 B5 R5 S5 HO7 B7 R7 S7 K7 K5
    go_wp2
    have k0 := ZF.out.cell 0; have k1 := ZF.out.cell 1; have k2 := ZF.out.cell 2; have k3 := ZF.out.cell 3; have k4 := ZF.out.cell 4; have k5 := ZF.out.cell 5; have k6 := ZF.out.cell 6; have k7 := ZF.out.cell 7; have k8 := ZF.out.cell 8; have k9 := ZF.out.cell 9
    simp at k0 k1 k2 k3 k4 k5 k6 k7 k8 k9
    refine bodyPost_ret (v := .tuple #[.agg #[.int .i64 P, .slice As ns cs, .slice Ai ni ci, .int .i64 R, .int .i64 X, .int .i64 V, .int .i64 U, .int .i64 D, .slice Az nz cz, .int .i64 Q], .int .i64 a, .int .i64 z, .int .i64 f, .int .i64 t]) (by simp [results, Tryz.results28, go_sem, k0, k1, k2, k3, k4, k5, k6, k7, k8, k9]) rfl ?_
    exact ⟨⟨_, _, _, _, _, _, _, _, _, _, _, _, _, _, _, _, _, _, _, _, _, _, _, rfl, OF.out.fewer (Nat.le_of_lt hw1), HN.out, HJ.out, HK.out.1, HK.out.2, ⟨HAB.out.1, HAB.out.2, by omega, by omega⟩, HTT.out⟩, BF.out⟩
end Go.Proofs.YtlaigbhiligceaaGreatDoor
