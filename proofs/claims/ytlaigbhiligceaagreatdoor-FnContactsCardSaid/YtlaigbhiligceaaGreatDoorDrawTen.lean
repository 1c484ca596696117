/- Chapter 10's draws: l10Sky, DrawQuietSpans, DrawSpeakingSpans, DrawMayDisturb. -/
import Derived.Test.YtlaigbhiligceaaGreatDoorDrawSky2
import Derived.Test.YtlaigbhiligceaaGreatDoorDrawSpans
import Derived.Test.YtlaigbhiligceaaGreatDoorDrawArcs
import Derived.Deep.Cut
import Derived.Deep.DeepCutAuto
import Derived.Deep.CutRange
namespace Go.Proofs.YtlaigbhiligceaaGreatDoor
open Go.ChangeShapes Go.WideShapes Go.ChangeAt Go.RowKit
set_option linter.unusedVariables false
/-- other zones stored into the sky -/
theorem StA.set8 {w : World} {p : Nat} {A : Option Addr} {cap : Nat} {xs : List Value} {s : Nat} {P R X V U D Q : Int} {ns ni nz : Nat} {ls : List Sat4} {li lz : List Tri} {As : Option Addr} {cs : Nat} {Ai : Option Addr} {ci : Nat} {Az : Option Addr} {cz : Nat} {wr : World} {A2 : Option Addr} {n2 c2 : Nat} {l2 : List Tri} (h : StA w p A cap xs s P R X V U D Q ns ni nz ls li lz As cs Ai ci Az cz wr) (ho : Own wr (w.heap.size + 1) 118 3 A2 n2 c2 (fl c3 l2)) (hd : NotAt s A2) (ha : Apart As A2) (hb : Apart Ai A2) :
    StA w p A cap xs s P R X V U D Q ns ni n2 ls li l2 As cs Ai ci A2 c2 (wr.setCell ⟨s, 8, none⟩ (.slice A2 n2 c2)) := by
  have h2 := h.lt
  exact ⟨h.dr.set_ (by simp; omega) _, h.r.far (by simp; omega) _, by simpa using h.b.set_ 8 (.slice A2 n2 c2), ⟨h.o.s.ne_ h.ds _, h.o.i.ne_ h.di _, ho.ne_ hd _⟩, h.ds, h.di, hd, h.ks, h.ki, h.lt, h.ai, ha, hb⟩
/-- what l10Sky answers -/
def GotTen (w : World) (p : Nat) (A : Option Addr) (cap : Nat) (xs : List Value) (e : Ending) (w' : World) : Prop :=
  (∃ (P R X V U D Q : Int) (ns ni nz : Nat) (ls : List Sat4) (li lz : List Tri) (As : Option Addr) (cs : Nat) (Ai : Option Addr) (ci : Nat) (Az : Option Addr) (cz : Nat),
    e = .returned (.agg #[.int .i64 P, .slice As ns cs, .slice Ai ni ci, .int .i64 R, .int .i64 X, .int .i64 V, .int .i64 U, .int .i64 D, .slice Az nz cz, .int .i64 Q]) ∧ OwnSky w' w.heap.size As ns cs Ai ni ci Az nz cz ls li lz ∧ (ns ≤ 6 ∧ ni = 2 ∧ nz ≤ 2) ∧ (Apart As Ai ∧ Apart As Az ∧ Apart Ai Az) ∧ (J64 P ∧ J64 R ∧ J64 X ∧ J64 V ∧ J64 U ∧ J64 D ∧ J64 Q) ∧ (∀ x ∈ ls, Okz x) ∧ (∀ x ∈ li, Oky x)) ∧ Cur w' p A cap xs ∧ Turn p w w'
set_option maxRecDepth 100000 in
set_option maxHeartbeats 3000000 in
theorem dten (w : World) (p : Nat) (A : Option Addr) (cap : Nat) (xs : List Value) (hc : Cur w p A cap xs) :
    Calls Tryz.prog 37 #[.pointer (some ⟨p, 0, none⟩)] w (GotTen w p A cap xs) := by
  obtain ⟨i0, hi, hy0, hy1, hy2⟩ := info_parts zone_info
  have hp2 : ¬ (w.heap.size = p) := by have := hc.lt; omega
  have K1 := Lib.hid ((Dr.start hc).alloc (.cells #[.int .i64 0, .slice none 0 0, .slice none 0 0, .int .i64 0, .int .i64 0, .int .i64 0, .int .i64 0, .int .i64 0, .slice none 0 0, .int .i64 0] 28))
  have R1 : Hid (Blk (w.alloc (.cells #[.int .i64 0, .slice none 0 0, .slice none 0 0, .int .i64 0, .int .i64 0, .int .i64 0, .int .i64 0, .int .i64 0, .slice none 0 0, .int .i64 0] 28)) w.heap.size 28 #[.int .i64 0, .slice none 0 0, .slice none 0 0, .int .i64 0, .int .i64 0, .int .i64 0, .int .i64 0, .int .i64 0, .slice none 0 0, .int .i64 0]) := Lib.hid (Blk.new _ _ _)
  clear hc
  go_enter Tryz.func37, Tryz.ntmps37
  go_wp2_with fail
  refine (dsky _ _ _ _ _ K1.out.cur).mono ?_
  rintro e w1 ⟨⟨P, R, X, V, U, D, Q, ns, ni, nz, ls, li, lz, As, cs, Ai, ci, Az, cz, rfl, ho, ⟨hn1, hn2, rfl, hn4⟩, ⟨ha1, ha2, ha3⟩, hj, hk1, hk2⟩, c1, u1⟩
  have HJ := Lib.hid hj; have HK := Lib.hid (And.intro hk1 hk2)
  have R2 := u1.blk R1.out hp2
  have hlt1 : w.heap.size < w1.heap.size := R2.lt
  have hol : OwnSky w1 (w.heap.size + 1) As ns cs Ai 2 ci Az nz cz ls li lz := by simpa using ho
  obtain ⟨s, hs⟩ : ∃ s, s = w1.heap.size := ⟨_, rfl⟩
  obtain ⟨W1, hW1⟩ : ∃ W, W = w1.alloc (.cells #[.int .i64 P, .slice As ns cs, .slice Ai 2 ci, .int .i64 R, .int .i64 X, .int .i64 V, .int .i64 U, .int .i64 D, .slice (some ⟨w1.heap.size + 1, 0, none⟩) 0 0, .int .i64 Q] 28) := ⟨_, rfl⟩
  have hs1 : W1.heap.size = s + 1 := by rw [hW1, hs]; simp
  have O2 : Own (W1.alloc (.cells #[] 118)) (w.heap.size + 1) 118 3 (some ⟨s + 1, 0, none⟩) 0 0 (fl c3 []) := by
    rw [← hs1]
    exact ⟨World.ownsRow_made W1 #[] 0 (by omega) (by unfold maxLen; omega) rfl⟩
  have G2 : Hid (StA w p A cap xs s P R X V U D Q ns 2 0 ls li [] As cs Ai ci (some ⟨s + 1, 0, none⟩) 0 (W1.alloc (.cells #[] 118))) := Lib.hid (by
    have hd := (K1.out.call c1 u1).alloc (.cells #[.int .i64 P, .slice As ns cs, .slice Ai 2 ci, .int .i64 R, .int .i64 X, .int .i64 V, .int .i64 U, .int .i64 D, .slice (some ⟨w1.heap.size + 1, 0, none⟩) 0 0, .int .i64 Q] 28)
    have hr := R2.alloc (.cells #[.int .i64 P, .slice As ns cs, .slice Ai 2 ci, .int .i64 R, .int .i64 X, .int .i64 V, .int .i64 U, .int .i64 D, .slice (some ⟨w1.heap.size + 1, 0, none⟩) 0 0, .int .i64 Q] 28)
    have hb := Blk.new w1 28 #[.int .i64 P, .slice As ns cs, .slice Ai 2 ci, .int .i64 R, .int .i64 X, .int .i64 V, .int .i64 U, .int .i64 D, .slice (some ⟨w1.heap.size + 1, 0, none⟩) 0 0, .int .i64 Q]
    have ho2 := hol.alloc (.cells #[.int .i64 P, .slice As ns cs, .slice Ai 2 ci, .int .i64 R, .int .i64 X, .int .i64 V, .int .i64 U, .int .i64 D, .slice (some ⟨w1.heap.size + 1, 0, none⟩) 0 0, .int .i64 Q] 28)
    rw [← hW1] at hd hr hb ho2
    rw [← hs] at hb
    have hsn : NotAt (s + 1) As := by rw [← hs1]; exact ho2.s.notAt (Nat.le_refl _)
    have hin : NotAt (s + 1) Ai := by rw [← hs1]; exact ho2.i.notAt (Nat.le_refl _)
    exact ⟨hd.alloc _, hr.alloc _, hb.alloc _, ⟨(ho2.alloc _).s, (ho2.alloc _).i, O2⟩, by rw [hs]; exact hol.s.notAt (Nat.le_refl _), by rw [hs]; exact hol.i.notAt (Nat.le_refl _), fun a e => by injection e with e; subst e; simp, fun x hx => (hk1 x hx).1, fun x hx => (hk2 x hx).1, by rw [hs]; exact hlt1, ha1, hsn.apart, hin.apart⟩)
  clear ho hol hj hk1 hk2 c1 u1 R2 K1 R1 ha1 ha2 ha3 O2 hs1
  go_upto_region 3 with fail
  rw [← hW1, ← hs]
  clear hW1 hs
  go_wp2_with fail
  refine (dbelow _ _ _ _ _ _ G2.out.dr.cur (by omega)).mono ?_
  rintro e w2 ⟨⟨x, hx, rfl⟩, c1, u1⟩
  have hx1 := hx.1 (by omega)
  have G3 := Lib.hid (G2.out.call c1 u1)
  clear hx c1 u1 G2
  go_wp2_with fail
  go_loopw [4] (fun i wr => ∃ (j m : Nat) (l2 : List Tri) (A2 : Option Addr) (cd2 : Nat), j + m ≤ 2 ∧ i = .int .i64 j ∧ StA w p A cap xs s P R X V U D Q ns 2 m ls li l2 As cs Ai ci A2 cd2 wr) (fun i _ => (intOf i).toNat)
  case atStart => exact ⟨x, 0, _, _, _, by omega, rfl, G3.out⟩
  case round =>
    clear G3
    obtain ⟨j, m, l2, A2, cd2, hjm, rfl, hst⟩ := hrel
    have S0 := Lib.hid hst
    clear hst
    by_cases hlt : 0 < j
    case pos =>
      have d8 : wr.cell? ⟨s, 8, none⟩ = some (.slice A2 m cd2) := S0.out.b.cell 8
      have SD := Lib.hid (S0.out.below (Below.refl wr.heap.size wr).drew)
      go_wp2_with fail
      go_region_law (first
        | (go_simp; go_at_call 38; have hbefore := SB.out; refine (dbelow wB _ _ _ _ _ SB.out.dr.cur (by omega)).mono ?_; rintro e wC ⟨⟨tc, hxC, rfl⟩, cC, uC⟩; have htc := hxC.1 (by omega); have SC := Lib.hid (SB.out.call cC uC); have cC0 : wC.cell? ⟨s, 8, none⟩ = some (.slice A2 m cd2) := SC.out.b.cell 8; have g6 : IntKind.i64.wrap (10 * (tc : Int)) = 10 * (tc : Int) := wrap_in _ (by omega) (by omega); have SE := Lib.hid (SC.out.below ((Below.refl wC.heap.size wC).alloc (Nat.le_refl _) (.cells #[.int .i64 (ta : Int), .int .i64 (10 * (tb : Int)), .int .i64 (10 * (tc : Int))] 118))); have cE0 : (wC.alloc (.cells #[.int .i64 (ta : Int), .int .i64 (10 * (tb : Int)), .int .i64 (10 * (tc : Int))] 118)).cell? ⟨s, 8, none⟩ = some (.slice A2 m cd2) := SE.out.b.cell 8; have hsC := SC.out.r.lt; clear hxC cC uC hbefore)
        | (go_simp; go_at_call 38; have hbefore := SA.out; refine (dbelow wA _ _ _ _ _ SA.out.dr.cur (by omega)).mono ?_; rintro e wB ⟨⟨tb, hxB, rfl⟩, cB, uB⟩; have htb := hxB.1 (by omega); have SB := Lib.hid (SA.out.call cB uB); have cB0 : wB.cell? ⟨s, 8, none⟩ = some (.slice A2 m cd2) := SB.out.b.cell 8; have g5 : IntKind.i64.wrap (10 * (tb : Int)) = 10 * (tb : Int) := wrap_in _ (by omega) (by omega); clear hxB cB uB hbefore)
        | (go_simp; go_at_call 38; refine (dbelow wr.drew _ _ _ _ _ SD.out.dr.cur (by omega)).mono ?_; rintro e wA ⟨⟨ta, hxA, rfl⟩, cA, uA⟩; have hta := hxA.1 (by omega); have SA := Lib.hid (SD.out.call cA uA); have cA0 : wA.cell? ⟨s, 8, none⟩ = some (.slice A2 m cd2) := SA.out.b.cell 8; clear hxA cA uA)
        | (refine step_append_sl _ (by rfl) _ _ 26 (by rfl) (w.heap.size + 1) 118 i0 _ 3 24 Tryz.underlying26 hi hy0 hy1 hy2 rfl (by omega) A2 m cd2 _ (by rfl) SE.out.o.z (wC.heap.size + 1) _ 1 1 [.int .i64 (ta : Int), .int .i64 (10 * (tb : Int)), .int .i64 (10 * (tc : Int))] (by rfl) (Sl.one3 wC _ _ _ _) (by simp [Value.oneCell']) (by omega) (by omega) (Nat.le_trans hsC (by simp)) ?_; intro A3 cc3 w3 hown3 hg3 hat3; have SF := Lib.hid (SE.out.zone (x := ⟨ta, 10 * (tb : Int), 10 * (tc : Int)⟩) hown3 hg3 hat3); have BB := (SE.out.b.grown' SE.out.dz hg3); have d1 : w3.cell? ⟨s, 8, none⟩ = some (.slice A2 m cd2) := BB.cell 8; have f1 := BB.frozen 8; clear hown3 hg3 hat3 BB))
      all_goals
        obtain ⟨lz2, G9⟩ := SF.out
        have G9 := Lib.hid G9
        clear SD SA SB SC SE S0 SF
        go_wp2
        go_roundw
        case rel => exact ⟨j - 1, m + 1, lz2, A3, cc3, by omega, by rw [show ((j - 1 : Nat) : Int) = (j : Int) - 1 by omega], G9.out⟩
        case measure => simp [intOf]; omega
    case neg =>
      obtain rfl : j = 0 := by omega
      obtain ⟨hcs, hr, hf⟩ := S0.out.cells
      obtain ⟨c0, c1, c2, c3, c4, c5, c6, c7, c8, c9⟩ := hcs
      obtain ⟨r0, r1, r2, r3, r4, r5, r6, r7, r8, r9⟩ := hr
      obtain ⟨f0, f1, f2, f3, f4, f5, f6, f7, f8, f9⟩ := hf
      have KF := Lib.hid S0.out.fin
      have HP := Lib.hid (And.intro S0.out.ai (And.intro S0.out.az S0.out.iz))
      have hlt9 := S0.out.lt
      clear S0
      go_wp2
      obtain ⟨k0, k1, k2, k3, k4, k5, k6, k7, k8, k9⟩ := KF.out.1.ten
      refine bodyPost_ret (v := .agg #[.int .i64 P, .slice As ns cs, .slice Ai 2 ci, .int .i64 R, .int .i64 X, .int .i64 V, .int .i64 U, .int .i64 D, .slice A2 m cd2, .int .i64 Q]) (by simp [results, Tryz.results37, go_sem, k0, k1, k2, k3, k4, k5, k6, k7, k8, k9]) rfl ?_
      exact ⟨⟨_, _, _, _, _, _, _, _, _, _, _, _, _, _, _, _, _, _, _, rfl, KF.out.2.2.fewer (by omega), ⟨by omega, by omega, by omega⟩, HP.out, HJ.out, HK.out.1, HK.out.2⟩, KF.out.2.1.cur, KF.out.2.1.turn⟩
end Go.Proofs.YtlaigbhiligceaaGreatDoor
