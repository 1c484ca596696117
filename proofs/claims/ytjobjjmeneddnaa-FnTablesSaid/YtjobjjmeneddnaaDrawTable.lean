/- Chapter 15's draws: a table, right or spoilt. Chapter 15's draws: links for a table, a table with two numbers, a table with one. -/
import Derived.Test.YtjobjjmeneddnaaDrawGraph
import Derived.Test.YtjobjjmeneddnaaTableM
import Derived.Deep.RegionHeld3
import Derived.Deep.CutBlock
namespace Go.Proofs.Ytjobjjmeneddnaa
open Go.ChangeShapes Go.WideShapes Go.ChangeAt Go.RowKit
set_option linter.unusedVariables false
/-- a table in sight, small -/
structure SmallTab (w : World) (B : Nat) (S : Int) (Ad : Option Addr) (nd cd : Nat) (An : Option Addr) (nn cn : Nat) (ld ln : List Int) : Prop where
  t : InTab w B Ad nd cd An nn cn ld ln
  k : OkTab S ld ln
  d : nd ≤ 13
  n : nn ≤ 13
theorem Turn.setHigh {p g : Nat} {w w' : World} (h : Turn p w w') (hg : w.heap.size ≤ g) (i : Nat) (u : Value) : Turn p w (w'.setCell ⟨g, i, none⟩ u) :=
  ⟨h.os, h.tape, h.output, by rw [World.size_setCell]; exact h.size, fun k hk hne => (Below.heap_setCell w' ⟨g, i, none⟩ u k (by show k ≠ g; omega)).trans (h.block k hk hne)⟩
theorem Cur.setHigh {w : World} {p g : Nat} {A : Option Addr} {cap : Nat} {xs : List Value} (h : Cur w p A cap xs) (hg : p < g) (i : Nat) (u : Value) : Cur (w.setCell ⟨g, i, none⟩ u) p A cap xs :=
  h.turned fun k hk => Below.heap_setCell w ⟨g, i, none⟩ u k (by show k ≠ g; omega)
theorem tab_fin {p g : Nat} {w wx : World} {A : Option Addr} {cap : Nat} {xs : List Value} {S : Int} {Ad : Option Addr} {nd cd k : Nat} {An : Option Addr} {nn cn : Nat} {ld ln ld' : List Int} (o : OwnTab wx (g + 1) Ad nd cd An nn cn (iv ld) (iv ln))
    (hd : ∀ W', Own W' (g + 1) 3 1 Ad nd cd (iv ld) → Sl W' W'.heap.size 1 Ad k cd (iv ld')) (hk : OkTab S ld' ln) (h1 : k ≤ 13) (h2 : nn ≤ 13) (hc : Cur wx p A cap xs) (hu : Turn p w wx) (hg : w.heap.size ≤ g) (hp : p < g) (a b c : Value) :
    SmallTab (((wx.setCell ⟨g, 0, none⟩ a).setCell ⟨g, 1, none⟩ b).setCell ⟨g, 2, none⟩ c) (((wx.setCell ⟨g, 0, none⟩ a).setCell ⟨g, 1, none⟩ b).setCell ⟨g, 2, none⟩ c).heap.size S Ad k cd An nn cn ld' ln ∧
    Cur (((wx.setCell ⟨g, 0, none⟩ a).setCell ⟨g, 1, none⟩ b).setCell ⟨g, 2, none⟩ c) p A cap xs ∧ Turn p w (((wx.setCell ⟨g, 0, none⟩ a).setCell ⟨g, 1, none⟩ b).setCell ⟨g, 2, none⟩ c) ∧ ∀ q, q < w.heap.size → NotAt q Ad ∧ NotAt q An := by
  have na : NotAt g Ad := o.d.low (by omega)
  have nb : NotAt g An := o.n.low (by omega)
  refine ⟨⟨⟨hd _ (((o.d.ne_ (a := ⟨g, 0, none⟩) na _).ne_ (a := ⟨g, 1, none⟩) na _).ne_ (a := ⟨g, 2, none⟩) na _), (((o.n.ne_ (a := ⟨g, 0, none⟩) nb _).ne_ (a := ⟨g, 1, none⟩) nb _).ne_ (a := ⟨g, 2, none⟩) nb _).sl⟩, hk, h1, h2⟩, ((hc.setHigh hp _ _).setHigh hp _ _).setHigh hp _ _, ((hu.setHigh hg _ _).setHigh hg _ _).setHigh hg _ _, fun q hq => ⟨o.d.low (by omega), o.n.low (by omega)⟩⟩
set_option maxRecDepth 100000 in
set_option maxHeartbeats 1000000 in
theorem danytab (w : World) (p : Nat) (A : Option Addr) (cap : Nat) (xs : List Value) (hc : Cur w p A cap xs) :
    Calls Try.prog 43 #[.pointer (some ⟨p, 0, none⟩)] w fun e w' => (∃ S Ad nd cd An nn cn ld ln, e = .returned (.agg #[.int .i64 S, .slice Ad nd cd, .slice An nn cn]) ∧ SmallTab w' w'.heap.size S Ad nd cd An nn cn ld ln ∧ ∀ q, q < w.heap.size → NotAt q Ad ∧ NotAt q An) ∧ Cur w' p A cap xs ∧ Turn p w w' := by
  have HC := Lib.hid hc
  clear hc
  have hr1 := Lib.hid (i64_all (l := [-1, 0, 5, 6]) (by decide))
  have hr2 := Lib.hid (i64_all (l := [-2, -1, 0, 1, 5, 6]) (by decide))
  go_enter Try.func43, Try.ntmps43
  go_upto_region 1 with fail
  obtain ⟨W1, hW1⟩ : ∃ W, W = w.alloc (.cells #[.int .i64 0, .slice none 0 0, .slice none 0 0] 29) := ⟨_, rfl⟩
  obtain ⟨g, hg⟩ : ∃ g, g = w.heap.size := ⟨_, rfl⟩
  rw [← hW1, ← hg]
  have K1 : Hid (Cur W1 p A cap xs) := Lib.hid (by rw [hW1]; exact HC.out.alloc _)
  have U1 : Hid (Turn p w W1) := Lib.hid (by rw [hW1]; exact (Turn.refl p w).alloc _)
  have Y1 : Hid (Blk W1 g 29 #[.int .i64 0, .slice none 0 0, .slice none 0 0]) := Lib.hid (by rw [hW1, hg]; exact Blk.new _ _ _)
  have hpg : p < g := by rw [hg]; exact HC.out.lt
  have hgl : g < W1.heap.size := Y1.out.lt
  have HWG : Hid (w.heap.size ≤ g) := Lib.hid (by omega)
  clear hW1 hg
  go_wp2_with fail
  refine (dlinks _ _ _ _ _ K1.out 6 (by omega)).mono ?_
  rintro e w2 ⟨⟨A1, n1, c1, l, rfl, hn1, ho, hj⟩, k1, u1⟩
  have HO2 := Lib.hid ho; have K2 := Lib.hid k1; have U2 := Lib.hid u1
  clear ho k1 u1 hj
  go_wp2_with fail
  refine (dbelow _ _ _ _ _ _ K2.out (by omega)).mono ?_
  rintro e w3 ⟨⟨dst, hd, rfl⟩, k1, u1⟩
  have hd1 := hd.1 (by omega)
  have HO3 := Lib.hid (HO2.out.turn u1 (by omega)); have K3 := Lib.hid k1; have U3 := Lib.hid (U2.out.trans u1)
  clear hd k1 u1
  go_wp2_with fail
  refine (stable w3 _ A1 n1 c1 l HO3.out.sl (Nat.le_refl _) (by omega) 6 4 dst ⟨by unfold J64; omega, by unfold J64; omega, by unfold J64; omega⟩).mono ?_
  rintro e w4 ⟨Ad, nd, cd, An, nn, cn, rfl, o4, b4, hdist⟩
  have HDL : Hid ((distA l 6 4 dst).length = 6) := Lib.hid (hdist (decide_eq_true ⟨by omega, by omega, by omega⟩)).len
  clear hdist
  have HO4 := Lib.hid (o4.fewer (B' := g + 1) (by have := U3.out.size; have := U2.out.size; omega)); have K4 := Lib.hid (K3.out.below b4); have U4 := Lib.hid (U1.out.trans (U3.out.belowOn b4))
  have Y4 := Lib.hid ((U3.out.blk Y1.out (by omega)).below b4 (by have := U3.out.size; omega))
  clear o4 b4
  go_upto_region 2 with fail
  obtain ⟨W5, hW5⟩ : ∃ W, W = w4.alloc (.cells #[.int .i64 dst, .slice Ad nd cd, .slice An nn cn] 29) := ⟨_, rfl⟩
  obtain ⟨gt, hgt⟩ : ∃ g, g = w4.heap.size := ⟨_, rfl⟩
  rw [← hW5, ← hgt]
  obtain ⟨ld, hld⟩ : ∃ x, x = distA l 6 4 dst := ⟨_, rfl⟩
  obtain ⟨ln, hln⟩ : ∃ x, x = nextA l 6 4 dst := ⟨_, rfl⟩
  have HLN : Hid (ld.length = 6 ∧ ln.length = 6) := Lib.hid ⟨by rw [hld]; exact HDL.out, by rw [hln]; unfold nextA; rw [nextL_len]; exact HDL.out⟩
  have HOK : Hid (OkTab dst ld ln) := Lib.hid ⟨by unfold J64; omega, by rw [hld]; exact distA_rng l 6 4 dst, by rw [hln]; exact nextA_rng l 6 4 dst⟩
  rw [← hld, ← hln] at HO4
  have K5 : Hid (Cur W5 p A cap xs) := Lib.hid (by rw [hW5]; exact K4.out.alloc _)
  have hb5 : Below w4.heap.size w4 W5 := by rw [hW5]; exact (Below.refl _ _).alloc (Nat.le_refl _) _
  have U5 : Hid (Turn p w W5) := Lib.hid (U4.out.belowOn hb5)
  have HO5 := Lib.hid (HO4.out.on hb5)
  have Y5 : Hid (Blk W5 gt 29 #[.int .i64 dst, .slice Ad nd cd, .slice An nn cn]) := Lib.hid (by rw [hW5, hgt]; exact Blk.new _ _ _)
  obtain rfl : nd = 6 := by have h1 := HO4.out.d.len; rw [iv_len, HLN.out.1] at h1; omega
  obtain rfl : nn = 6 := by have h1 := HO4.out.n.len; rw [iv_len, HLN.out.2] at h1; omega
  have HA : Hid (NotAt gt Ad ∧ NotAt gt An) := Lib.hid (by
    obtain ⟨a1, _, e1, h1, _⟩ := Sl.int HO4.out.d.sl (k := 0) (by omega)
    obtain ⟨a2, _, e2, h2, _⟩ := Sl.int HO4.out.n.sl (k := 0) (by omega)
    exact ⟨fun a e => by rw [e1] at e; injection e with e; subst e; omega, fun a e => by rw [e2] at e; injection e with e; subst e; omega⟩)
  have hpgt : p < gt ∧ w.heap.size ≤ gt := by have := K4.out.lt; have := U4.out.size; omega
  have hggt : g < gt := by have := Y4.out.lt; omega
  have hwg : w.heap.size ≤ g := HWG.out
  have hcd := HO4.out.d.sl.cap; have hcdm := HO4.out.d.sl.capm; have hcn := HO4.out.n.sl.cap; have hcnm := HO4.out.n.sl.capm
  have G5 : Hid (Blk W5 g 29 #[.int .i64 0, .slice none 0 0, .slice none 0 0]) := Lib.hid (Y4.out.below hb5 Y4.out.lt)
  clear hW5 hgt hld hln HO4 K4 U4 Y4 hb5 HO2 HO3 K1 K2 K3 U1 U2 U3 Y1
  go_wp2_with fail
  refine (dbelow _ _ _ _ _ _ K5.out (by omega)).mono ?_
  rintro e w6 ⟨⟨v, hv, rfl⟩, k1, u1⟩
  have hv1 := hv.1 (by omega)
  have TX := Lib.hid (u1.blk Y5.out (by omega)); have GX := Lib.hid (u1.blk G5.out (by omega)); have KX := Lib.hid k1; have UX := Lib.hid (U5.out.trans u1)
  have OX : Hid (OwnTab w6 (g + 1) Ad 6 cd An 6 cn (iv ld) (iv ln)) := Lib.hid ⟨HO5.out.d.turn u1 (by omega), HO5.out.n.turn u1 (by omega), HO5.out.ap, HO5.out.ap'⟩
  clear hv k1 u1 K5 U5 HO5 Y5 G5
  rcases Nat.lt_or_ge 3 v with h3 | h3
  · have b0 : ((v : Int) == 0) = false := by simp; omega
    have b1 : ((v : Int) == 1) = false := by simp; omega
    have b2 : ((v : Int) == 2) = false := by simp; omega
    have b3 : ((v : Int) == 3) = false := by simp; omega
    have OKX := HOK
    clear h3 hv1
    have q0 := TX.out.cell 0; have q1 := TX.out.cell 1; have q2 := TX.out.cell 2
    obtain ⟨⟨e0, m0⟩, ⟨e1, m1⟩, ⟨e2, m2⟩, kk⟩ := three_out GX.out (.int .i64 dst) (.slice Ad 6 cd) (.slice An 6 cn)
    have n0 := kk.cell 0; have n1 := kk.cell 1; have n2 := kk.cell 2
    have HR := Lib.hid (tab_fin (k := 6) OX.out (fun _ h => h.sl) OKX.out (by omega) (by omega) KX.out UX.out hwg hpg (.int .i64 dst) (.slice Ad 6 cd) (.slice An 6 cn))
    clear kk
    go_wp2
    (try simp only [Exit.inBlock, Exit.then])
    refine bodyPost_ret (v := .agg #[.int .i64 dst, .slice Ad 6 cd, .slice An 6 cn]) (by simp [results, Try.results43, go_sem, n2, n1, n0]; try rfl) rfl ?_
    exact ⟨⟨_, _, _, _, _, _, _, _, _, rfl, HR.out.1, HR.out.2.2.2⟩, HR.out.2.1, HR.out.2.2.1⟩
  · obtain rfl | rfl | rfl | rfl : v = 0 ∨ v = 1 ∨ v = 2 ∨ v = 3 := by omega
    · have q0' : w6.cell? ⟨gt, 0, none⟩ = some (.int .i64 dst) := TX.out.cell 0
      clear h3 hv1
      go_wp2_with fail
      refine (dlist _ _ _ _ _ [-1, 0, 5, 6] _ _ _ rfl rfl KX.out (by decide) (by decide) hr1.out).mono ?_
      rintro e w7 ⟨⟨z, hf, rfl⟩, k1, u1⟩
      have hf1 : J64 z := hr1.out z hf
      have OKX : Hid (OkTab z ld ln) := Lib.hid ⟨hf1, HOK.out.d, HOK.out.n⟩
      have T7 := u1.blk TX.out (by omega)
      have q0 : w7.cell? ⟨gt, 0, none⟩ = some (.int .i64 dst) := T7.cell 0
      have f0 := T7.frozen 0
      have TY := Lib.hid (T7.set_ 0 (.int .i64 z))
      have GY := Lib.hid ((u1.blk GX.out (by omega)).far (p := ⟨gt, 0, none⟩) (show g ≠ gt by omega) (.int .i64 z))
      have KY := Lib.hid (k1.setHigh hpgt.1 0 (.int .i64 z)); have UY := Lib.hid ((UX.out.trans u1).setHigh hpgt.2 0 (.int .i64 z))
      have OY : Hid (OwnTab (w7.setCell ⟨gt, 0, none⟩ (.int .i64 z)) (g + 1) Ad 6 cd An 6 cn (iv ld) (iv ln)) := Lib.hid ⟨(OX.out.d.turn u1 (by omega)).ne_ (a := ⟨gt, 0, none⟩) HA.out.1 _, (OX.out.n.turn u1 (by omega)).ne_ (a := ⟨gt, 0, none⟩) HA.out.2 _, OX.out.ap, OX.out.ap'⟩
      clear TX GX KX UX OX hf hf1 T7 k1 u1 q0'
      go_upto_region 11 with fail
      have q0 := TY.out.cell 0; have q1 := TY.out.cell 1; have q2 := TY.out.cell 2
      obtain ⟨⟨e0, m0⟩, ⟨e1, m1⟩, ⟨e2, m2⟩, kk⟩ := three_out GY.out (.int .i64 z) (.slice Ad 6 cd) (.slice An 6 cn)
      have n0 := kk.cell 0; have n1 := kk.cell 1; have n2 := kk.cell 2
      have HR := Lib.hid (tab_fin (k := 6) OY.out (fun _ h => h.sl) OKX.out (by omega) (by omega) KY.out UY.out hwg hpg (.int .i64 z) (.slice Ad 6 cd) (.slice An 6 cn))
      clear kk
      go_wp2
      (try simp only [Exit.inBlock, Exit.then])
      refine bodyPost_ret (v := .agg #[.int .i64 z, .slice Ad 6 cd, .slice An 6 cn]) (by simp [results, Try.results43, go_sem, n2, n1, n0]; try rfl) rfl ?_
      exact ⟨⟨_, _, _, _, _, _, _, _, _, rfl, HR.out.1, HR.out.2.2.2⟩, HR.out.2.1, HR.out.2.2.1⟩
    · clear h3 hv1
      obtain ⟨ga, rfl, hga⟩ : ∃ ga, An = some ⟨ga, 0, none⟩ ∧ g + 1 ≤ ga := by
        rcases OX.out.n.form with ⟨h1, h2⟩ | ⟨ga, h1, h2, _⟩
        · exfalso; have h4 := OX.out.n.sl.rd (by omega); obtain ⟨a, e, _⟩ := h4; rw [h1] at e; cases e
        · exact ⟨ga, h1, h2⟩
      have hgat : ga ≠ gt := HA.out.2 _ rfl
      have K6 : Hid (Cur w6.drew p A cap xs) := Lib.hid (KX.out.turned fun _ _ => rfl)
      have T6 := Lib.hid TX.out.drew; have G6 := Lib.hid GX.out.drew; have U6 := Lib.hid UX.out.drew
      have b6 : Below w6.heap.size w6 w6.drew := (Below.refl _ _).drew
      have D6 := Lib.hid (OX.out.on b6).d; have N6 := Lib.hid (OX.out.on b6).n
      have t0 : w6.drew.cell? ⟨gt, 2, none⟩ = some (.slice (some ⟨ga, 0, none⟩) 6 cn) := T6.out.cell 2
      have hil' : ∀ i : Nat, (i : Int) < 6 → i < ln.length := fun i hi => by have := HLN.out.2; omega
      go_upto_region 6 with fail
      go_region_held3 (fun w' => w'.cell? ⟨gt, 2, none⟩ = some (.slice (some ⟨ga, 0, none⟩) 6 cn)) (first | exact t0 | exact j0 | exact j2 | go_keep) (first
        | (have hbefore := K7.out; go_at_call 45; refine (dbelow w7 p A cap xs 8 K7.out (by omega)).mono ?_; rintro e w8 ⟨⟨x, hx, rfl⟩, k8, u8⟩; have hx8 := hx.1 (by omega); have hw : IntKind.i64.wrap ((x : Int) - 1) = (x : Int) - 1 := IntWalk.i64_in _ (by omega); have K8 := Lib.hid k8; have U8 := Lib.hid (U7.out.trans u8); have G8 := Lib.hid (u8.blk G7.out (by omega)); have D8 := Lib.hid (D7.out.turn u8 (by omega)); have N8 := Lib.hid (N7.out.turn u8 (by omega)); obtain ⟨z0, z1⟩ := N8.out.cellI i hil; clear k8 hx; have T8 := Lib.hid (u8.blk T7.out (by omega)); have j2 : w8.cell? ⟨gt, 2, none⟩ = some (.slice (some ⟨ga, 0, none⟩) 6 cn) := T8.out.cell 2)
        | (go_at_call 45; refine (dbelow w6.drew p A cap xs 6 K6.out (by omega)).mono ?_; rintro e w7 ⟨⟨i, hi, rfl⟩, k7, u7⟩; have hi6 := hi.1 (by omega); have hi0 : (0 : Int) ≤ (i : Int) := (by omega); have hil : i < ln.length := hil' i hi6; have K7 := Lib.hid k7; have U7 := Lib.hid (U6.out.trans u7); have G7 := Lib.hid (u7.blk G6.out (by omega)); have D7 := Lib.hid (D6.out.turn u7 (by omega)); have N7 := Lib.hid (N6.out.turn u7 (by omega)); have T7 := Lib.hid (u7.blk T6.out (by omega)); have j0 : w7.cell? ⟨gt, 2, none⟩ = some (.slice (some ⟨ga, 0, none⟩) 6 cn) := T7.out.cell 2))
      have HNA : NotAt ga Ad := fun a e => by
        subst e
        rcases OX.out.ap with h | h
        · simp [Value.ownBlock] at h
        · intro e; apply h; simp [Value.ownBlock, e]
      have OKX : Hid (OkTab dst ld (ln.set i ((x : Int) - 1))) := Lib.hid ⟨HOK.out.s, HOK.out.d, fun z hz => by
        rcases List.mem_or_eq_of_mem_set hz with h | h
        · exact HOK.out.n z h
        · rw [h]; unfold J64; omega⟩
      have TY := Lib.hid (T8.out.far (p := ⟨ga, i, none⟩) (show gt ≠ ga by omega) (.int .i64 ((x : Int) - 1)))
      have GY := Lib.hid (G8.out.far (p := ⟨ga, i, none⟩) (show g ≠ ga by omega) (.int .i64 ((x : Int) - 1)))
      have KY := Lib.hid (K8.out.setHigh (show p < ga by omega) i (.int .i64 ((x : Int) - 1))); have UY := Lib.hid (U8.out.setHigh (show w.heap.size ≤ ga by omega) i (.int .i64 ((x : Int) - 1)))
      have OY : Hid (OwnTab (w8.setCell ⟨ga, i, none⟩ (.int .i64 ((x : Int) - 1))) (g + 1) Ad 6 cd (some ⟨ga, 0, none⟩) 6 cn (iv ld) (iv (ln.set i ((x : Int) - 1)))) := Lib.hid ⟨D8.out.ne_ (a := ⟨ga, i, none⟩) HNA _, (N8.out.storeI i _).1, OX.out.ap, OX.out.ap'⟩
      clear TX GX KX UX OX K6 T6 G6 U6 b6 D6 N6 t0 hi k7 u7 K7 U7 G7 D7 N7 T7 j0 hbefore u8 hw K8 U8 G8 D8 N8 z0 z1 T8 j2 HNA hil'
      have q0 := TY.out.cell 0; have q1 := TY.out.cell 1; have q2 := TY.out.cell 2
      obtain ⟨⟨e0, m0⟩, ⟨e1, m1⟩, ⟨e2, m2⟩, kk⟩ := three_out GY.out (.int .i64 dst) (.slice Ad 6 cd) (.slice (some ⟨ga, 0, none⟩) 6 cn)
      have n0 := kk.cell 0; have n1 := kk.cell 1; have n2 := kk.cell 2
      have HR := Lib.hid (tab_fin (k := 6) OY.out (fun _ h => h.sl) OKX.out (by omega) (by omega) KY.out UY.out hwg hpg (.int .i64 dst) (.slice Ad 6 cd) (.slice (some ⟨ga, 0, none⟩) 6 cn))
      clear kk
      go_wp2
      (try simp only [Exit.inBlock, Exit.then])
      refine bodyPost_ret (v := .agg #[.int .i64 dst, .slice Ad 6 cd, .slice (some ⟨ga, 0, none⟩) 6 cn]) (by simp [results, Try.results43, go_sem, n2, n1, n0]; try rfl) rfl ?_
      exact ⟨⟨_, _, _, _, _, _, _, _, _, rfl, HR.out.1, HR.out.2.2.2⟩, HR.out.2.1, HR.out.2.2.1⟩
    · clear h3 hv1
      obtain ⟨ga, rfl, hga⟩ : ∃ ga, Ad = some ⟨ga, 0, none⟩ ∧ g + 1 ≤ ga := by
        rcases OX.out.d.form with ⟨h1, h2⟩ | ⟨ga, h1, h2, _⟩
        · exfalso; have h4 := OX.out.d.sl.rd (by omega); obtain ⟨a, e, _⟩ := h4; rw [h1] at e; cases e
        · exact ⟨ga, h1, h2⟩
      have hgat : ga ≠ gt := HA.out.1 _ rfl
      have hil' : ∀ i : Nat, (i : Int) < 6 → i < ld.length := fun i hi => by have := HLN.out.1; omega
      have K6 : Hid (Cur w6.drew p A cap xs) := Lib.hid (KX.out.turned fun _ _ => rfl)
      have T6 := Lib.hid TX.out.drew; have G6 := Lib.hid GX.out.drew; have U6 := Lib.hid UX.out.drew
      have b6 : Below w6.heap.size w6 w6.drew := (Below.refl _ _).drew
      have D6 := Lib.hid (OX.out.on b6).d; have N6 := Lib.hid (OX.out.on b6).n
      have t0 : w6.drew.cell? ⟨gt, 1, none⟩ = some (.slice (some ⟨ga, 0, none⟩) 6 cd) := T6.out.cell 1
      -- the list may be made ahead of the first call
      obtain ⟨wl, hwl⟩ : ∃ W, W = (w6.alloc (.cells #[.int .i64 (-2), .int .i64 (-1), .int .i64 0, .int .i64 1, .int .i64 5, .int .i64 6] 3)).drew := ⟨_, rfl⟩
      obtain ⟨ql, hql⟩ : ∃ x, x = w6.heap.size := ⟨_, rfl⟩
      have bl : Below w6.heap.size w6 wl := by rw [hwl]; exact ((Below.refl _ _).alloc (Nat.le_refl _) _).drew
      have KL : Hid (Cur wl p A cap xs) := Lib.hid (KX.out.below bl)
      have UL : Hid (Turn p w wl) := Lib.hid (UX.out.belowOn bl)
      have GL := Lib.hid (GX.out.below bl GX.out.lt); have TL := Lib.hid (TX.out.below bl TX.out.lt)
      have DL := Lib.hid (OX.out.d.on bl); have NL := Lib.hid (OX.out.n.on bl)
      have LL : Hid (Blk wl ql 3 (([-2, -1, 0, 1, 5, 6] : List Int).map (Value.int .i64)).toArray) := Lib.hid (by rw [hwl, hql]; exact (Blk.new _ _ _).drew)
      have tl : wl.cell? ⟨gt, 1, none⟩ = some (.slice (some ⟨ga, 0, none⟩) 6 cd) := TL.out.cell 1
      have tl' : ((w6.alloc (.cells #[.int .i64 (-2), .int .i64 (-1), .int .i64 0, .int .i64 1, .int .i64 5, .int .i64 6] 3)).drew).cell? ⟨gt, 1, none⟩ = some (.slice (some ⟨ga, 0, none⟩) 6 cd) := by rw [← hwl]; exact tl
      have HQL : Hid (p < ql) := Lib.hid (by have := KX.out.lt; omega)
      have HWL := Lib.hid hwl; have HQE := Lib.hid hql
      clear bl hwl hql
      go_upto_region 8 with fail
      go_region_held3 (fun w' => w'.cell? ⟨gt, 1, none⟩ = some (.slice (some ⟨ga, 0, none⟩) 6 cd)) (first | exact t0 | exact tl | exact tl' | exact j0 | exact j1 _ | exact j2 | go_keep) (first
        | (have hbefore := HAA.out; go_at_call 44; refine (dlist w7 p A cap xs [-2, -1, 0, 1, 5, 6] _ _ _ rfl rfl K7.out (by decide) (by decide) hr2.out).mono ?_; rintro e w8 ⟨⟨z, hz, rfl⟩, k8, u8⟩; have K8 := Lib.hid k8; have U8 := Lib.hid (U7.out.trans u8); have G8 := Lib.hid (u8.blk G7.out (by omega)); have D8 := Lib.hid (D7.out.turn u8 (by omega)); have N8 := Lib.hid (N7.out.turn u8 (by omega)); have HZ : Hid (J64 z) := Lib.hid (hr2.out z hz); obtain ⟨z0, z1⟩ := D8.out.cellI i hil; clear k8 hz; have T8 := Lib.hid (u8.blk T7.out (by omega)); have j2 : w8.cell? ⟨gt, 1, none⟩ = some (.slice (some ⟨ga, 0, none⟩) 6 cd) := T8.out.cell 1)
        | (have hbefore := HBB.out; go_at_call 44; rw [← HQE.out]; refine (dint w7 p A cap xs ql 6 [-2, -1, 0, 1, 5, 6] K7.out (by have := HQL.out; omega) (by decide) (by decide) hr2.out L7.out.int_at).mono ?_; rintro e w8 ⟨⟨z, hz, rfl⟩, k8, u8⟩; have K8 := Lib.hid k8; have U8 := Lib.hid (U7.out.trans u8); have G8 := Lib.hid (u8.blk G7.out (by omega)); have D8 := Lib.hid (D7.out.turn u8 (by omega)); have N8 := Lib.hid (N7.out.turn u8 (by omega)); have HZ : Hid (J64 z) := Lib.hid (hr2.out z hz); obtain ⟨z0, z1⟩ := D8.out.cellI i hil; clear k8 hz; have T8 := Lib.hid (u8.blk T7.out (by omega)); have j2 : w8.cell? ⟨gt, 1, none⟩ = some (.slice (some ⟨ga, 0, none⟩) 6 cd) := T8.out.cell 1)
        | (go_at_call 45; (with_reducible show Calls _ _ _ w6.drew _); refine (dbelow w6.drew p A cap xs 6 K6.out (by omega)).mono ?_; rintro e w7 ⟨⟨i, hi, rfl⟩, k7, u7⟩; have hi6 := hi.1 (by omega); have hi0 : (0 : Int) ≤ (i : Int) := (by omega); have hil : i < ld.length := hil' i hi6; have K7 := Lib.hid k7; have U7 := Lib.hid (U6.out.trans u7); have G7 := Lib.hid (u7.blk G6.out (by omega)); have D7 := Lib.hid (Own.turn D6.out u7 (by omega)); have N7 := Lib.hid (Own.turn N6.out u7 (by omega)); have T7 := Lib.hid (u7.blk T6.out (by omega)); have j0 : w7.cell? ⟨gt, 1, none⟩ = some (.slice (some ⟨ga, 0, none⟩) 6 cd) := T7.out.cell 1; have j1 : ∀ o, (w7.alloc o).cell? ⟨gt, 1, none⟩ = some (.slice (some ⟨ga, 0, none⟩) 6 cd) := fun o => (T7.out.alloc o).cell 1; have HAA := Lib.hid True.intro)
        | (go_at_call 45; rw [← HWL.out]; refine (dbelow wl p A cap xs 6 KL.out (by omega)).mono ?_; rintro e w7 ⟨⟨i, hi, rfl⟩, k7, u7⟩; have hi6 := hi.1 (by omega); have hi0 : (0 : Int) ≤ (i : Int) := (by omega); have hil : i < ld.length := hil' i hi6; have K7 := Lib.hid k7; have U7 := Lib.hid (UL.out.trans u7); have G7 := Lib.hid (u7.blk GL.out (by omega)); have D7 := Lib.hid (Own.turn DL.out u7 (by omega)); have N7 := Lib.hid (Own.turn NL.out u7 (by omega)); have T7 := Lib.hid (u7.blk TL.out (by omega)); have j0 : w7.cell? ⟨gt, 1, none⟩ = some (.slice (some ⟨ga, 0, none⟩) 6 cd) := T7.out.cell 1; have j1 : ∀ o, (w7.alloc o).cell? ⟨gt, 1, none⟩ = some (.slice (some ⟨ga, 0, none⟩) 6 cd) := fun o => (T7.out.alloc o).cell 1; have L7 := Lib.hid (u7.blk LL.out (by have := HQL.out; omega)); have HBB := Lib.hid True.intro))
      all_goals
        have HNA : NotAt ga An := fun a e => by
          subst e
          rcases OX.out.ap' with h | h
          · simp [Value.ownBlock] at h
          · intro e; apply h; simp [Value.ownBlock, e]
        have OKX : Hid (OkTab dst (ld.set i z) ln) := Lib.hid ⟨HOK.out.s, fun z hz => by
          rcases List.mem_or_eq_of_mem_set hz with h | h
          · exact HOK.out.d z h
          · rw [h]; exact HZ.out, HOK.out.n⟩
        have TY := Lib.hid (T8.out.far (p := ⟨ga, i, none⟩) (show gt ≠ ga by omega) (.int .i64 z))
        have GY := Lib.hid (G8.out.far (p := ⟨ga, i, none⟩) (show g ≠ ga by omega) (.int .i64 z))
        have KY := Lib.hid (K8.out.setHigh (show p < ga by omega) i (.int .i64 z)); have UY := Lib.hid (U8.out.setHigh (show w.heap.size ≤ ga by omega) i (.int .i64 z))
        have OY : Hid (OwnTab (w8.setCell ⟨ga, i, none⟩ (.int .i64 z)) (g + 1) (some ⟨ga, 0, none⟩) 6 cd An 6 cn (iv (ld.set i z)) (iv ln)) := Lib.hid ⟨(D8.out.storeI i _).1, N8.out.ne_ (a := ⟨ga, i, none⟩) HNA _, OX.out.ap, OX.out.ap'⟩
        clear TX GX KX UX OX K6 T6 G6 U6 b6 D6 N6 t0 hi k7 u7 K7 U7 G7 D7 N7 T7 j0 u8 HZ K8 U8 G8 D8 N8 z0 z1 T8 j2 j1 HNA hil' tl tl'
        have q0 := TY.out.cell 0; have q1 := TY.out.cell 1; have q2 := TY.out.cell 2
        obtain ⟨⟨e0, m0⟩, ⟨e1, m1⟩, ⟨e2, m2⟩, kk⟩ := three_out GY.out (.int .i64 dst) (.slice (some ⟨ga, 0, none⟩) 6 cd) (.slice An 6 cn)
        have n0 := kk.cell 0; have n1 := kk.cell 1; have n2 := kk.cell 2
        have HR := Lib.hid (tab_fin (k := 6) OY.out (fun _ h => h.sl) OKX.out (by omega) (by omega) KY.out UY.out hwg hpg (.int .i64 dst) (.slice (some ⟨ga, 0, none⟩) 6 cd) (.slice An 6 cn))
        clear kk
        go_wp2
        (try simp only [Exit.inBlock, Exit.then])
        refine bodyPost_ret (v := .agg #[.int .i64 dst, .slice (some ⟨ga, 0, none⟩) 6 cd, .slice An 6 cn]) (by simp [results, Try.results43, go_sem, n2, n1, n0]; try rfl) rfl ?_
        exact ⟨⟨_, _, _, _, _, _, _, _, _, rfl, HR.out.1, HR.out.2.2.2⟩, HR.out.2.1, HR.out.2.2.1⟩
    · have OKX : Hid (OkTab dst (ld.take 5) ln) := Lib.hid ⟨HOK.out.s, fun z hz => HOK.out.d z (List.mem_of_mem_take hz), HOK.out.n⟩
      have q1' : w6.cell? ⟨gt, 1, none⟩ = some (.slice Ad 6 cd) := TX.out.cell 1
      have f1' := TX.out.frozen 1
      have TY := Lib.hid (TX.out.set_ 1 (.slice Ad 5 cd))
      have GY := Lib.hid (GX.out.far (p := ⟨gt, 1, none⟩) (show g ≠ gt by omega) (.slice Ad 5 cd))
      have KY := Lib.hid (KX.out.setHigh hpgt.1 1 (.slice Ad 5 cd)); have UY := Lib.hid (UX.out.setHigh hpgt.2 1 (.slice Ad 5 cd))
      have OY : Hid (OwnTab (w6.setCell ⟨gt, 1, none⟩ (.slice Ad 5 cd)) (g + 1) Ad 6 cd An 6 cn (iv ld) (iv ln)) := Lib.hid ⟨OX.out.d.ne_ (a := ⟨gt, 1, none⟩) HA.out.1 _, OX.out.n.ne_ (a := ⟨gt, 1, none⟩) HA.out.2 _, OX.out.ap, OX.out.ap'⟩
      clear TX GX KX UX OX h3 hv1
      have q0 := TY.out.cell 0; have q1 := TY.out.cell 1; have q2 := TY.out.cell 2
      obtain ⟨⟨e0, m0⟩, ⟨e1, m1⟩, ⟨e2, m2⟩, kk⟩ := three_out GY.out (.int .i64 dst) (.slice Ad 5 cd) (.slice An 6 cn)
      have n0 := kk.cell 0; have n1 := kk.cell 1; have n2 := kk.cell 2
      have HR := Lib.hid (tab_fin (k := 5) OY.out (fun _ h => h.sl.takeI (by omega)) OKX.out (by omega) (by omega) KY.out UY.out hwg hpg (.int .i64 dst) (.slice Ad 5 cd) (.slice An 6 cn))
      clear kk
      go_wp2
      (try simp only [Exit.inBlock, Exit.then])
      refine bodyPost_ret (v := .agg #[.int .i64 dst, .slice Ad 5 cd, .slice An 6 cn]) (by simp [results, Try.results43, go_sem, n2, n1, n0]; try rfl) rfl ?_
      exact ⟨⟨_, _, _, _, _, _, _, _, _, rfl, HR.out.1, HR.out.2.2.2⟩, HR.out.2.1, HR.out.2.2.1⟩
end Go.Proofs.Ytjobjjmeneddnaa
namespace Go.Proofs.Ytjobjjmeneddnaa
open Go.ChangeShapes Go.WideShapes Go.ChangeAt Go.RowKit
set_option linter.unusedVariables false
theorem drawtab (w : World) (A : Option Addr) (cap : Nat) (xs : List Value) (hB : Bytes xs) (hn : xs.length ≤ 1048576) (hR : Reads w w.heap.size A xs) :
    Calls Try.prog 11 #[.slice A xs.length cap] w fun e w' => OwnPath w.heap.size e w' ∧ Below w.heap.size w w' := by
  have HR := Lib.hid hR
  go_enter Try.func11, Try.ntmps11
  go_wp2_with fail
  refine (drawdist _ _ _ _ hB hn HR.out).mono ?_
  rintro e w1 ⟨⟨A1, n1, c1, l, N, f, d, rfl, hr⟩, hb⟩
  have HF : Hid (OwnPath w.heap.size (.returned (.tuple #[.slice A1 n1 c1, .int .i64 N, .int .i64 f, .int .i64 d])) w1 ∧ Below w.heap.size w w1) := Lib.hid ⟨⟨A1, n1, c1, l, N, f, d, rfl, hr⟩, hb⟩
  clear hr hb
  go_wp2_with fail
  refine bodyPost_ret (v := .tuple #[.slice A1 n1 c1, .int .i64 N, .int .i64 f, .int .i64 d]) (by simp [results, Try.results11, go_sem]; try rfl) rfl ?_
  exact HF.out
theorem SmallTab.on {w w' : World} {S : Int} {Ad : Option Addr} {nd cd : Nat} {An : Option Addr} {nn cn : Nat} {ld ln : List Int} (h : SmallTab w w.heap.size S Ad nd cd An nn cn ld ln) (hb : Below w.heap.size w w') : SmallTab w' w'.heap.size S Ad nd cd An nn cn ld ln :=
  ⟨⟨h.t.d.on hb, h.t.n.on hb⟩, h.k, h.d, h.n⟩
theorem SmallTab.turn {p : Nat} {w w' : World} {S : Int} {Ad : Option Addr} {nd cd : Nat} {An : Option Addr} {nn cn : Nat} {ld ln : List Int} (h : SmallTab w w.heap.size S Ad nd cd An nn cn ld ln) (ht : Turn p w w') (h1 : NotAt p Ad) (h2 : NotAt p An) : SmallTab w' w'.heap.size S Ad nd cd An nn cn ld ln := by
  have k : ∀ {A : Option Addr} {n c : Nat} {l : List Int}, Sl w w.heap.size 1 A n c (iv l) → NotAt p A → Sl w' w'.heap.size 1 A n c (iv l) := fun {A n c l} hs hA => by
    refine ⟨hs.len, fun hn => ?_, hs.cap, hs.capm, hs.nil⟩
    obtain ⟨ad, e, hb, hc⟩ := hs.rd hn
    refine ⟨ad, e, Nat.lt_of_lt_of_le hb ht.size, fun j u hu => ?_⟩
    rw [← hc j u hu]
    have hbl : (ad.add j).block = ad.block := block_of_add ad j
    have h3 := ht.block ad.block hb (fun e2 => hA ad e e2)
    simp only [World.cell?, hbl, h3]
  exact ⟨⟨k h.t.d h1, k h.t.n h2⟩, h.k, h.d, h.n⟩
theorem SmallTab.set {g : Nat} {w : World} {S : Int} {Ad : Option Addr} {nd cd : Nat} {An : Option Addr} {nn cn : Nat} {ld ln : List Int} (h : SmallTab w w.heap.size S Ad nd cd An nn cn ld ln) (h1 : NotAt g Ad) (h2 : NotAt g An) (i : Nat) (u : Value) : SmallTab (w.setCell ⟨g, i, none⟩ u) (w.setCell ⟨g, i, none⟩ u).heap.size S Ad nd cd An nn cn ld ln :=
  h.turn ((Turn.refl g w).set_ i u) h1 h2
set_option maxRecDepth 100000 in
set_option maxHeartbeats 1000000 in
theorem drawroute (w : World) (A : Option Addr) (cap : Nat) (xs : List Value) (hB : Bytes xs) (hn : xs.length ≤ 1048576) (hR : Reads w w.heap.size A xs) :
    Calls Try.prog 14 #[.slice A xs.length cap] w fun e w' => (∃ S Ad nd cd An nn cn ld ln a, e = .returned (.tuple #[.agg #[.int .i64 S, .slice Ad nd cd, .slice An nn cn], .int .i64 a]) ∧ SmallTab w' w'.heap.size S Ad nd cd An nn cn ld ln ∧ -1 ≤ a ∧ a ≤ 6) ∧ Below w.heap.size w w' := by
  obtain ⟨W1, hW1⟩ : ∃ W, W = w.alloc (.cells #[.int .i64 0, .slice none 0 0, .slice none 0 0] 29) := ⟨_, rfl⟩
  have Y1 : Hid (Blk W1 w.heap.size 29 #[.int .i64 0, .slice none 0 0, .slice none 0 0]) := Lib.hid (by rw [hW1]; exact Blk.new _ _ _)
  have B1 : Hid (Below w.heap.size w W1) := Lib.hid (by rw [hW1]; exact (Below.refl _ _).alloc (Nat.le_refl _) _)
  have HR : Hid (Reads W1 W1.heap.size A xs) := Lib.hid ((hR.below B1.out (Nat.le_refl _)).more B1.out.size)
  have HW1 := Lib.hid hW1
  clear hR hW1
  go_enter Try.func14, Try.ntmps14
  go_upto_region 1 with fail
  rw [← HW1.out]
  go_wp2_with fail
  refine (dnew W1 _ _ _ hB hn HR.out).mono ?_
  rintro e w2 ⟨⟨p, hp, rfl, hc⟩, hb⟩
  have hwp : w.heap.size < p := by have := Y1.out.lt; omega
  have B2 := Lib.hid (B1.out.trans (hb.mono B1.out.size)); have K2 := Lib.hid hc; have Y2 := Lib.hid (Y1.out.below hb Y1.out.lt)
  clear hb hc HW1 Y1 B1 HR
  go_wp2_with fail
  refine (danytab w2 p _ _ _ K2.out).mono ?_
  rintro e w3 ⟨⟨S, Ad, nd, cd, An, nn, cn, ld, ln, rfl, hs, nq⟩, k3, u3⟩
  have B3 := Lib.hid (B2.out.trans ((u3.below K2.out.lt).mono (by omega))); have Y3 := Lib.hid (u3.blk Y2.out (by omega))
  have HS3 := Lib.hid hs; have K3 := Lib.hid k3; have N1 := Lib.hid (nq p K2.out.lt).1; have N2 := Lib.hid (nq p K2.out.lt).2; have NG := Lib.hid (nq w.heap.size Y2.out.lt)
  clear hs k3 u3 nq K2 Y2 B2
  go_upto_region 3 with fail
  obtain ⟨W4, hW4⟩ : ∃ W, W = w3.alloc (.cells #[.int .i64 S, .slice Ad nd cd, .slice An nn cn] 29) := ⟨_, rfl⟩
  obtain ⟨gt, hgt⟩ : ∃ g, g = w3.heap.size := ⟨_, rfl⟩
  rw [← hW4, ← hgt]
  have b4 : Below w3.heap.size w3 W4 := by rw [hW4]; exact (Below.refl _ _).alloc (Nat.le_refl _) _
  have T4 : Hid (Blk W4 gt 29 #[.int .i64 S, .slice Ad nd cd, .slice An nn cn]) := Lib.hid (by rw [hW4, hgt]; exact Blk.new _ _ _)
  have hpgt : p < gt ∧ w.heap.size < gt := by have := K3.out.lt; omega
  have Y4 := Lib.hid (Y3.out.below b4 Y3.out.lt); have HS4 := Lib.hid (HS3.out.on b4); have K4 : Hid (Cur W4.drew p A cap xs) := Lib.hid ((K3.out.below b4).turned fun _ _ => rfl)
  have B4 : Hid (Below w.heap.size w W4) := Lib.hid (B3.out.trans (b4.mono B3.out.size))
  obtain ⟨t0, t1, t2⟩ := T4.out.three
  clear b4 hW4 hgt Y3 HS3 K3 B3
  go_region_held3 (fun w' => w'.cell? ⟨gt, 0, none⟩ = some (.int .i64 S) ∧ w'.cell? ⟨gt, 1, none⟩ = some (.slice Ad nd cd) ∧ w'.cell? ⟨gt, 2, none⟩ = some (.slice An nn cn)) (first | exact ⟨t0, t1, t2⟩ | exact hcA | exact hcB | go_keep) (first
    | (go_at_call 45; refine (dbelow W4.drew p A cap xs 8 K4.out (by omega)).mono ?_; rintro e w5 ⟨⟨x, hx, rfl⟩, k5, u5'⟩; have hx1 := hx.1 (by omega); have u5 : Turn p W4 w5 := ((Turn.refl p W4).drew).trans u5'; have T5 := Lib.hid (u5.blk T4.out (by omega)); have Y5 := Lib.hid (u5.blk Y4.out (by omega)); have HS5 := Lib.hid (HS4.out.turn u5 N1.out N2.out); have N5 := NG; have B5 := Lib.hid (B4.out.trans ((u5.below (Nat.lt_of_lt_of_le hpgt.1 (Nat.le_of_lt T4.out.lt))).mono (by omega))); have hcA := T5.out.three; obtain ⟨⟨e0, m0⟩, ⟨e1, m1⟩, ⟨e2, m2⟩, kk⟩ := three_out Y5.out (.int .i64 S) (.slice Ad nd cd) (.slice An nn cn); have KK := Lib.hid kk; have hcB := (((T5.out.far (p := ⟨w.heap.size, 0, none⟩) (show gt ≠ w.heap.size by omega) (.int .i64 S)).far (p := ⟨w.heap.size, 1, none⟩) (show gt ≠ w.heap.size by omega) (.slice Ad nd cd)).far (p := ⟨w.heap.size, 2, none⟩) (show gt ≠ w.heap.size by omega) (.slice An nn cn)).three; have hwx : IntKind.i64.wrap ((x : Int) - 1) = (x : Int) - 1 := wrap_in _ (by omega) (by omega); clear hx k5 u5 u5' kk))
  all_goals
    have HF : Hid (SmallTab (((w5.setCell ⟨w.heap.size, 0, none⟩ (.int .i64 S)).setCell ⟨w.heap.size, 1, none⟩ (.slice Ad nd cd)).setCell ⟨w.heap.size, 2, none⟩ (.slice An nn cn)) (((w5.setCell ⟨w.heap.size, 0, none⟩ (.int .i64 S)).setCell ⟨w.heap.size, 1, none⟩ (.slice Ad nd cd)).setCell ⟨w.heap.size, 2, none⟩ (.slice An nn cn)).heap.size S Ad nd cd An nn cn ld ln ∧ Below w.heap.size w (((w5.setCell ⟨w.heap.size, 0, none⟩ (.int .i64 S)).setCell ⟨w.heap.size, 1, none⟩ (.slice Ad nd cd)).setCell ⟨w.heap.size, 2, none⟩ (.slice An nn cn))) := Lib.hid
      ⟨((HS5.out.set N5.out.1 N5.out.2 0 _).set N5.out.1 N5.out.2 1 _).set N5.out.1 N5.out.2 2 _, ((B5.out.setCell (p := ⟨w.heap.size, 0, none⟩) (Nat.le_refl _) _).setCell (p := ⟨w.heap.size, 1, none⟩) (Nat.le_refl _) _).setCell (p := ⟨w.heap.size, 2, none⟩) (Nat.le_refl _) _⟩
    have k0 := KK.out.cell 0; have k1 := KK.out.cell 1; have k2 := KK.out.cell 2
    clear e0 e1 e2 m0 m1 m2 hcA hcB
    go_wp2
    (try simp only [Exit.inBlock, Exit.then])
    refine bodyPost_ret (v := .tuple #[.agg #[.int .i64 S, .slice Ad nd cd, .slice An nn cn], .int .i64 ((x : Int) - 1)]) (by simp [results, Try.results14, go_sem, k2, k1, k0]; try rfl) rfl ?_
    exact ⟨⟨_, _, _, _, _, _, _, _, _, _, rfl, HF.out.1, by omega, by omega⟩, HF.out.2⟩
set_option maxRecDepth 100000 in
set_option maxHeartbeats 1000000 in
theorem drawistab (w : World) (A : Option Addr) (cap : Nat) (xs : List Value) (hB : Bytes xs) (hn : xs.length ≤ 1048576) (hR : Reads w w.heap.size A xs) :
    Calls Try.prog 13 #[.slice A xs.length cap] w fun e w' => (∃ S Ad nd cd An nn cn ld ln N f, e = .returned (.tuple #[.agg #[.int .i64 S, .slice Ad nd cd, .slice An nn cn], .int .i64 N, .int .i64 f]) ∧ SmallTab w' w'.heap.size S Ad nd cd An nn cn ld ln ∧ (0 ≤ N ∧ N ≤ 6) ∧ 0 ≤ f ∧ f ≤ 6) ∧ Below w.heap.size w w' := by
  have hr1 := Lib.hid (i64_all (l := [6, 6, 6, 5, 0]) (by decide))
  have hr2 := Lib.hid (i64_all (l := [4, 4, 0, 6]) (by decide))
  obtain ⟨W1, hW1⟩ : ∃ W, W = w.alloc (.cells #[.int .i64 0, .slice none 0 0, .slice none 0 0] 29) := ⟨_, rfl⟩
  have Y1 : Hid (Blk W1 w.heap.size 29 #[.int .i64 0, .slice none 0 0, .slice none 0 0]) := Lib.hid (by rw [hW1]; exact Blk.new _ _ _)
  have B1 : Hid (Below w.heap.size w W1) := Lib.hid (by rw [hW1]; exact (Below.refl _ _).alloc (Nat.le_refl _) _)
  have HR : Hid (Reads W1 W1.heap.size A xs) := Lib.hid ((hR.below B1.out (Nat.le_refl _)).more B1.out.size)
  have HW1 := Lib.hid hW1
  clear hR hW1
  go_enter Try.func13, Try.ntmps13
  go_upto_region 1 with fail
  rw [← HW1.out]
  go_wp2_with fail
  refine (dnew W1 _ _ _ hB hn HR.out).mono ?_
  rintro e w2 ⟨⟨p, hp, rfl, hc⟩, hb⟩
  have hwp : w.heap.size < p := by have := Y1.out.lt; omega
  have B2 := Lib.hid (B1.out.trans (hb.mono B1.out.size)); have K2 := Lib.hid hc; have Y2 := Lib.hid (Y1.out.below hb Y1.out.lt)
  clear hb hc HW1 Y1 B1 HR
  go_wp2_with fail
  refine (danytab w2 p _ _ _ K2.out).mono ?_
  rintro e w3 ⟨⟨S, Ad, nd, cd, An, nn, cn, ld, ln, rfl, hs, nq⟩, k3, u3⟩
  have B3 := Lib.hid (B2.out.trans ((u3.below K2.out.lt).mono (by omega))); have Y3 := Lib.hid (u3.blk Y2.out (by omega))
  have HS3 := Lib.hid hs; have K3 := Lib.hid k3; have N1 := Lib.hid (nq p K2.out.lt).1; have N2 := Lib.hid (nq p K2.out.lt).2; have NG := Lib.hid (nq w.heap.size Y2.out.lt)
  clear hs k3 u3 nq K2 Y2 B2
  go_upto_region 3 with fail
  obtain ⟨W4, hW4⟩ : ∃ W, W = w3.alloc (.cells #[.int .i64 S, .slice Ad nd cd, .slice An nn cn] 29) := ⟨_, rfl⟩
  obtain ⟨gt, hgt⟩ : ∃ g, g = w3.heap.size := ⟨_, rfl⟩
  rw [← hW4, ← hgt]
  have b4 : Below w3.heap.size w3 W4 := by rw [hW4]; exact (Below.refl _ _).alloc (Nat.le_refl _) _
  have T4 : Hid (Blk W4 gt 29 #[.int .i64 S, .slice Ad nd cd, .slice An nn cn]) := Lib.hid (by rw [hW4, hgt]; exact Blk.new _ _ _)
  have hpgt : p < gt ∧ w.heap.size < gt := by have := K3.out.lt; omega
  have Y4 := Lib.hid (Y3.out.below b4 Y3.out.lt); have HS4 := Lib.hid (HS3.out.on b4); have K4 : Hid (Cur W4 p A cap xs) := Lib.hid (K3.out.below b4)
  have B4 : Hid (Below w.heap.size w W4) := Lib.hid (B3.out.trans (b4.mono B3.out.size))
  obtain ⟨t0, t1, t2⟩ := T4.out.three
  clear b4 hW4 hgt Y3 HS3 K3 B3
  -- what each world on the way has: the cursor, the table drawn, the block of the answer, the table's lists
  obtain ⟨PK, hPK⟩ : ∃ PK : World → Prop, PK = fun X => Cur X p A cap xs ∧ Blk X gt 29 #[.int .i64 S, .slice Ad nd cd, .slice An nn cn] ∧ Blk X w.heap.size 29 #[.int .i64 0, .slice none 0 0, .slice none 0 0] ∧ SmallTab X X.heap.size S Ad nd cd An nn cn ld ln ∧ Below w.heap.size w X := ⟨_, rfl⟩
  have HPK : Hid (∀ X, PK X → Cur X p A cap xs ∧ Blk X gt 29 #[.int .i64 S, .slice Ad nd cd, .slice An nn cn] ∧ Blk X w.heap.size 29 #[.int .i64 0, .slice none 0 0, .slice none 0 0] ∧ SmallTab X X.heap.size S Ad nd cd An nn cn ld ln ∧ Below w.heap.size w X) := Lib.hid fun X h => by rw [hPK] at h; exact h
  have HPK1 : Hid (∀ X, Below W4.heap.size W4 X → PK X) := Lib.hid fun X hb => by
    rw [hPK]
    exact ⟨K4.out.below hb, T4.out.below hb T4.out.lt, Y4.out.below hb Y4.out.lt, HS4.out.on hb, B4.out.trans (hb.mono B4.out.size)⟩
  have HPK2 : Hid (∀ X w', PK X → Turn p X w' → Cur w' p A cap xs → PK w') := Lib.hid fun X w' h hu hc => by
    rw [hPK] at h ⊢
    exact ⟨hc, hu.blk h.2.1 (by omega), hu.blk h.2.2.1 (by omega), h.2.2.2.1.turn hu N1.out N2.out, h.2.2.2.2.trans ((hu.below h.1.lt).mono (by omega))⟩
  have BA : Hid (Below W4.heap.size W4 (W4.alloc (.cells #[.int .i64 6, .int .i64 6, .int .i64 6, .int .i64 5, .int .i64 0] 3)).drew) := Lib.hid ((Below.refl _ _).alloc (Nat.le_refl _) _).drew
  have BB : Hid (Below W4.heap.size W4 ((W4.alloc (.cells #[.int .i64 6, .int .i64 6, .int .i64 6, .int .i64 5, .int .i64 0] 3)).alloc (.cells #[.int .i64 4, .int .i64 4, .int .i64 0, .int .i64 6] 3)).drew) := Lib.hid (((Below.refl _ _).alloc (Nat.le_refl _) _).alloc (by simp) _).drew
  have BC : Hid (Below W4.heap.size W4 ((W4.alloc (.cells #[.int .i64 4, .int .i64 4, .int .i64 0, .int .i64 6] 3)).alloc (.cells #[.int .i64 6, .int .i64 6, .int .i64 6, .int .i64 5, .int .i64 0] 3)).drew) := Lib.hid (((Below.refl _ _).alloc (Nat.le_refl _) _).alloc (by simp) _).drew
  have LA1 : Hid (Blk (W4.alloc (.cells #[.int .i64 6, .int .i64 6, .int .i64 6, .int .i64 5, .int .i64 0] 3)).drew W4.heap.size 3 (([6, 6, 6, 5, 0] : List Int).map (Value.int .i64)).toArray) := Lib.hid (Blk.new _ _ _).drew
  have LB1 : Hid (Blk ((W4.alloc (.cells #[.int .i64 6, .int .i64 6, .int .i64 6, .int .i64 5, .int .i64 0] 3)).alloc (.cells #[.int .i64 4, .int .i64 4, .int .i64 0, .int .i64 6] 3)).drew W4.heap.size 3 (([6, 6, 6, 5, 0] : List Int).map (Value.int .i64)).toArray) := Lib.hid ((Blk.new _ _ _).alloc _).drew
  have LB2 : Hid (Blk ((W4.alloc (.cells #[.int .i64 6, .int .i64 6, .int .i64 6, .int .i64 5, .int .i64 0] 3)).alloc (.cells #[.int .i64 4, .int .i64 4, .int .i64 0, .int .i64 6] 3)).drew (W4.heap.size + 1) 3 (([4, 4, 0, 6] : List Int).map (Value.int .i64)).toArray) := Lib.hid (by
    have h := Blk.new (W4.alloc (.cells #[.int .i64 6, .int .i64 6, .int .i64 6, .int .i64 5, .int .i64 0] 3)) 3 (([4, 4, 0, 6] : List Int).map (Value.int .i64)).toArray
    rw [World.size_alloc] at h; exact h.drew)
  have LC1 : Hid (Blk ((W4.alloc (.cells #[.int .i64 4, .int .i64 4, .int .i64 0, .int .i64 6] 3)).alloc (.cells #[.int .i64 6, .int .i64 6, .int .i64 6, .int .i64 5, .int .i64 0] 3)).drew (W4.heap.size + 1) 3 (([6, 6, 6, 5, 0] : List Int).map (Value.int .i64)).toArray) := Lib.hid (by
    have h := Blk.new (W4.alloc (.cells #[.int .i64 4, .int .i64 4, .int .i64 0, .int .i64 6] 3)) 3 (([6, 6, 6, 5, 0] : List Int).map (Value.int .i64)).toArray
    rw [World.size_alloc] at h; exact h.drew)
  have LC2 : Hid (Blk ((W4.alloc (.cells #[.int .i64 4, .int .i64 4, .int .i64 0, .int .i64 6] 3)).alloc (.cells #[.int .i64 6, .int .i64 6, .int .i64 6, .int .i64 5, .int .i64 0] 3)).drew W4.heap.size 3 (([4, 4, 0, 6] : List Int).map (Value.int .i64)).toArray) := Lib.hid ((Blk.new _ _ _).alloc _).drew
  have hpW : p < W4.heap.size := K4.out.lt
  have h4 := T4.out.drew.three
  clear hPK K4 T4 Y4 HS4 B4
  go_region_held3 (fun w' => w'.cell? ⟨gt, 0, none⟩ = some (.int .i64 S) ∧ w'.cell? ⟨gt, 1, none⟩ = some (.slice Ad nd cd) ∧ w'.cell? ⟨gt, 2, none⟩ = some (.slice An nn cn)) (first | exact ⟨t0, t1, t2⟩ | exact h4 | exact hc6 | exact hcB | exact hc5 | exact hc5a _ | exact (HPK.out _ (HPK1.out _ BA.out)).2.1.three | exact (HPK.out _ (HPK1.out _ BB.out)).2.1.three | exact (HPK.out _ (HPK1.out _ BC.out)).2.1.three | go_keep) (first
    | (go_at_call 44; (with_reducible show Calls _ _ #[_, .slice _ 5 5] _ _); refine (dint _ p A cap xs _ 5 [6, 6, 6, 5, 0] (by first | exact (HPK.out _ (HPK1.out _ BA.out)).1 | exact (HPK.out _ (HPK1.out _ BB.out)).1 | exact (HPK.out _ (HPK1.out _ BC.out)).1) (by omega) (by decide) (by decide) hr1.out (by first | exact LA1.out.int_at | exact LB1.out.int_at | exact LC1.out.int_at)).mono ?_; rintro e w5 ⟨⟨N, hN, rfl⟩, k5, u5⟩; have F5 := Lib.hid (HPK2.out _ w5 (by first | exact HPK1.out _ BA.out | exact HPK1.out _ BB.out | exact HPK1.out _ BC.out) u5 k5); have hN1 : 0 ≤ N ∧ N ≤ 6 := (by simp at hN; omega); have HN1 := Lib.hid hN1; have hp5 : p < w5.heap.size := k5.lt; have hc5 := (HPK.out _ F5.out).2.1.three; have hc5a : ∀ o, (w5.alloc o).cell? ⟨gt, 0, none⟩ = some (.int .i64 S) ∧ (w5.alloc o).cell? ⟨gt, 1, none⟩ = some (.slice Ad nd cd) ∧ (w5.alloc o).cell? ⟨gt, 2, none⟩ = some (.slice An nn cn) := (fun o => ((HPK.out _ F5.out).2.1.alloc o).three); (try have L25 := Lib.hid (u5.blk LB2.out (by omega))); (try have L25 := Lib.hid (u5.blk LC2.out (by omega))); clear hN hN1 u5 k5)
    | (go_at_call 44; (with_reducible show Calls _ _ #[_, .slice _ 4 4] _ _); refine (dint _ p A cap xs _ 4 [4, 4, 0, 6] (by first | exact (HPK.out _ F5.out).1 | exact (HPK.out _ F5.out).1.alloc _) (by omega) (by decide) (by decide) hr2.out (by first | exact L25.out.int_at | exact (Blk.new w5 3 (([4, 4, 0, 6] : List Int).map (Value.int .i64)).toArray).int_at)).mono ?_; rintro e w6 ⟨⟨f, hf, rfl⟩, k6, u6⟩; have u6' : Turn p w5 w6 := (by first | exact u6 | exact ((Turn.refl p w5).alloc _).trans u6); have F6 := HPK.out _ (HPK2.out w5 w6 F5.out u6' k6); have hf1 : 0 ≤ f ∧ f ≤ 6 := (by simp at hf; omega); have HF1 := Lib.hid hf1; have HF6 := Lib.hid F6; have hc6 := F6.2.1.three; have hcB := (((F6.2.1.far (p := ⟨w.heap.size, 0, none⟩) (show gt ≠ w.heap.size by omega) (.int .i64 S)).far (p := ⟨w.heap.size, 1, none⟩) (show gt ≠ w.heap.size by omega) (.slice Ad nd cd)).far (p := ⟨w.heap.size, 2, none⟩) (show gt ≠ w.heap.size by omega) (.slice An nn cn)).three; obtain ⟨⟨e0, m0⟩, ⟨e1, m1⟩, ⟨e2, m2⟩, kk⟩ := three_out F6.2.2.1 (.int .i64 S) (.slice Ad nd cd) (.slice An nn cn); have KK := Lib.hid kk; clear hf hf1 F6 k6 u6 u6' kk))
  all_goals
    have HF : Hid (SmallTab (((w6.setCell ⟨w.heap.size, 0, none⟩ (.int .i64 S)).setCell ⟨w.heap.size, 1, none⟩ (.slice Ad nd cd)).setCell ⟨w.heap.size, 2, none⟩ (.slice An nn cn)) (((w6.setCell ⟨w.heap.size, 0, none⟩ (.int .i64 S)).setCell ⟨w.heap.size, 1, none⟩ (.slice Ad nd cd)).setCell ⟨w.heap.size, 2, none⟩ (.slice An nn cn)).heap.size S Ad nd cd An nn cn ld ln ∧ Below w.heap.size w (((w6.setCell ⟨w.heap.size, 0, none⟩ (.int .i64 S)).setCell ⟨w.heap.size, 1, none⟩ (.slice Ad nd cd)).setCell ⟨w.heap.size, 2, none⟩ (.slice An nn cn))) := Lib.hid
      ⟨((HF6.out.2.2.2.1.set NG.out.1 NG.out.2 0 _).set NG.out.1 NG.out.2 1 _).set NG.out.1 NG.out.2 2 _, ((HF6.out.2.2.2.2.setCell (p := ⟨w.heap.size, 0, none⟩) (Nat.le_refl _) _).setCell (p := ⟨w.heap.size, 1, none⟩) (Nat.le_refl _) _).setCell (p := ⟨w.heap.size, 2, none⟩) (Nat.le_refl _) _⟩
    have k0 := KK.out.cell 0; have k1 := KK.out.cell 1; have k2 := KK.out.cell 2
    clear e0 e1 e2 m0 m1 m2 hcB hc6 hc5 hc5a h4
    go_wp2
    (try simp only [Exit.inBlock, Exit.then])
    refine bodyPost_ret (v := .tuple #[.agg #[.int .i64 S, .slice Ad nd cd, .slice An nn cn], .int .i64 N, .int .i64 f]) (by simp [results, Try.results13, go_sem, k2, k1, k0]; try rfl) rfl ?_
    exact ⟨⟨_, _, _, _, _, _, _, _, _, _, _, rfl, HF.out.1, HN1.out, HF1.out⟩, HF.out.2⟩
end Go.Proofs.Ytjobjjmeneddnaa
