/- The program's spansOutside: what two lists in order leave of a span. -/
import Derived.Test.YtmmnnbgfomcihaaOutside
import Derived.Test.YtmmnnbgfomcihaaMid
namespace Go.Proofs.Ytmmnnbgfomcihaa
open Go.ChangeShapes Go.WideShapes Go.ChangeAt Go.RowKit
set_option linter.unusedVariables false
theorem imaxQ (a b : Int) (w : World) :
    Calls Try.prog 64 #[.int .i64 a, .int .i64 b] w fun e w' => e = .returned (.int .i64 (mxf a b)) ∧ Below w.heap.size w w' := by
  have hc : (w.alloc (Obj.cells #[.int .i64 b] 3)).cell? ⟨w.heap.size, 0, none⟩ = some (.int .i64 b) := by go_cell
  go_enter Try.func64, Try.ntmps64
  go_wp2_with (go_at_call 44; refine (lag _ _ _ _ hc).mono ?_; rintro e w' ⟨rfl, rfl⟩)
  go_ret
  exact ⟨rfl, (Below.refl _ _).alloc (Nat.le_refl _) _⟩
/-- what a round of the walk stands on: the span's block G, the closure's blocks from g on, the row of what is left -/
structure Rnd (w : World) (G D g : Nat) (A A' : Option Addr) (c c' : Nat) (a b : List (Int × Int)) (x : Int × Int) (i j : Nat) (A1 : Option Addr) (n1 c1 : Nat) (L : List (Int × Int)) (w0 : World) : Prop where
  nx : Nxt w D g A A' a.length b.length c c' a b i j
  bx : Blk w G 60 #[.int .i64 x.1, .int .i64 x.2]
  ow : Own w (G + 1) 60 2 A1 n1 c1 (sv L)
  off : Off g (g + 4) A1
  bl : Below G w0 w
section
variable {w w' w0 : World} {G D g : Nat} {A A' A1 A2 : Option Addr} {c c' n1 c1 n2 c2 : Nat} {a b L L2 : List (Int × Int)} {x : Int × Int} {i j i' j' k : Nat}
theorem Rnd.on (h : Rnd w G D g A A' c c' a b x i j A1 n1 c1 L w0) (hb : Below w.heap.size w w') : Rnd w' G D g A A' c c' a b x i j A1 n1 c1 L w0 :=
  ⟨h.nx.on hb, h.bx.below hb h.bx.lt, h.ow.on hb, h.off, h.bl.trans (hb.mono (Nat.le_of_lt h.bx.lt))⟩
theorem Rnd.next (h : Rnd w G D g A A' c c' a b x i j A1 n1 c1 L w0) (hG : G < g) (hk : k < 4) (hg : w.grownBy w' (some (g + k))) (hn : Nxt w' D g A A' a.length b.length c c' a b i' j') : Rnd w' G D g A A' c c' a b x i' j' A1 n1 c1 L w0 := by
  refine ⟨hn, h.bx.grownQ hg (fun e => by injection e with e; omega), h.ow.kept hg ?_, h.off, h.bl.grown hg (Nat.le_of_lt h.bx.lt) (fun r hr => by injection hr with hr; omega)⟩
  rcases A1 with _ | ad
  · exact .inl rfl
  · right
    intro e
    simp [Value.ownBlock] at e
    have := h.off ad rfl
    omega
theorem Rnd.put (h : Rnd w G D g A A' c c' a b x i j A1 n1 c1 L w0) (hD : D ≤ G) (ho : Own w' (G + 1) 60 2 A2 n2 c2 (sv L2)) (hg : w.grownBy w' (Value.slice A1 n1 c1).ownBlock) (hat : (Value.slice A2 n2 c2).ownBlock = (Value.slice A1 n1 c1).ownBlock ∨ (Value.slice A2 n2 c2).ownBlock = some w.heap.size) : Rnd w' G D g A A' c c' a b x i j A2 n2 c2 L2 w0 := by
  have hrow : ∀ r, (Value.slice A1 n1 c1).ownBlock = some r → G + 1 ≤ r ∧ (r < g ∨ g + 4 ≤ r) := fun r hr => by
    rcases h.ow.blk with e | ⟨q, e, h1, _⟩
    · rw [e] at hr; cases hr
    · rw [e] at hr
      injection hr with hr
      subst hr
      refine ⟨h1, ?_⟩
      rcases A1 with _ | ad
      · cases e
      · simp [Value.ownBlock] at e
        have := h.off ad rfl
        omega
  refine ⟨h.nx.kept hg fun r hr => ⟨by have := hrow r hr; omega, (hrow r hr).2⟩, h.bx.grown h.ow hg (by omega), ho, h.off.app hat (by have := h.nx.bj.lt; omega), h.bl.grown hg (Nat.le_of_lt h.bx.lt) fun r hr => by have := hrow r hr; omega⟩
end
set_option maxRecDepth 100000 in
set_option maxHeartbeats 2000000 in
theorem isout (w : World) (D : Nat) (A A' : Option Addr) (n n' c c' : Nat) (a b : List (Int × Int)) (x : Int × Int) (h : Sl w D 2 A n c (sv a)) (h' : Sl w D 2 A' n' c' (sv b)) (hD : D ≤ w.heap.size) (oa : InOrd a) (ob : InOrd b) (ha : a.length ≤ 1000000) (hb : b.length ≤ 1000000) (hx : 0 ≤ x.1 ∧ x.1 < x.2 ∧ x.2 ≤ 1000) :
    Calls Try.prog 38 #[.agg #[.int .i64 x.1, .int .i64 x.2], .slice A n c, .slice A' n' c'] w (GivesS w (runs (leftK a b x) 1000)) := by
  obtain ⟨i0, hi0, hy0, hy1, hy2⟩ := info_parts span_info
  have hna : n = a.length := by have h1 := h.len; rw [sv_len] at h1; omega
  have hnb : n' = b.length := by have h1 := h'.len; rw [sv_len] at h1; omega
  subst hna hnb
  obtain ⟨W1, hW1⟩ : ∃ W, W = (w.alloc (.cells #[.int .i64 x.1, .int .i64 x.2] 60)).alloc (.cells #[] 60) := ⟨_, rfl⟩
  obtain ⟨G, hG⟩ : ∃ g, g = w.heap.size := ⟨_, rfl⟩
  have s1 : W1.heap.size = G + 2 := by rw [hW1, hG]; simp
  have b1 : Below G w W1 := by rw [hW1, hG]; exact ((Below.refl _ _).alloc (Nat.le_refl _) _).alloc (by simp) _
  have HB1 := Lib.hid b1
  have HX1 : Hid (Blk W1 G 60 #[.int .i64 x.1, .int .i64 x.2]) := Lib.hid (by rw [hW1, hG]; exact (Blk.new _ _ _).alloc _)
  have HO1 : Hid (Own W1 (G + 1) 60 2 (some ⟨G + 1, 0, none⟩) 0 0 (sv [])) := Lib.hid (by
    have h1 := Own.made0 (w.alloc (.cells #[.int .i64 x.1, .int .i64 x.2] 60)) (G + 1) 60 (by rw [hG]; simp)
    rw [show (w.alloc (.cells #[.int .i64 x.1, .int .i64 x.2] 60)).heap.size = G + 1 by rw [hG]; simp] at h1
    rw [hW1]; exact h1)
  rw [← hG] at hD
  have HS := Lib.hid (h.below b1 hD); have HS' := Lib.hid (h'.below b1 hD)
  have HGS := Lib.hid hG; have HS1 := Lib.hid s1
  have HD := Lib.hid hD
  have HOA := Lib.hid oa; have HOB := Lib.hid ob; have HX := Lib.hid hx
  have HA := Lib.hid ha; have HBB := Lib.hid hb
  have HW : Hid (Along a b x 0 0 x.1 []) := Lib.hid (along_start hx)
  obtain ⟨xa, xb⟩ := x
  simp only at HX1 HX HW
  have c0 : W1.cell? ⟨G, 0, none⟩ = some (.int .i64 xa) := HX1.out.cell 0
  have c1 : W1.cell? ⟨G, 1, none⟩ = some (.int .i64 xb) := HX1.out.cell 1
  clear h h' hD oa ob hx ha hb b1
  go_enter Try.func38, Try.ntmps38
  go_wp2_with fail
  rw [← hW1, ← hG]
  clear hW1 hG
  refine (inextof W1 D A A' a.length b.length c c' a b HS.out HS'.out (by have := HS1.out; have := HD.out; omega)).mono ?_
  rintro e w2 ⟨⟨g, rfl, hg, nx⟩, b2⟩
  have hGg : G + 2 ≤ g := by have := HS1.out; omega
  have HR : Hid (Rnd w2 G D g A A' c c' a b (xa, xb) 0 0 (some ⟨G + 1, 0, none⟩) 0 0 [] w) := Lib.hid ⟨nx, HX1.out.below b2 HX1.out.lt, HO1.out.on b2, fun ad e => by injection e with e; subst e; left; simp; omega, HB1.out.trans (b2.mono (by have := HS1.out; omega))⟩
  clear s1 nx b2 c0 c1 HS HS' HB1 HX1 HO1 HS1 hg
  go_wp2_with fail
  go_loopw [7, 8] (fun v f wr => ∃ (i j : Nat) (fz : Int) (L : List (Int × Int)) (A1 : Option Addr) (n1 c1 : Nat), f = .int .i64 fz ∧ v = .slice A1 n1 c1 ∧ Along a b (xa, xb) i j fz L ∧ Rnd wr G D g A A' c c' a b (xa, xb) i j A1 n1 c1 L w) (fun _ _ wr => a.length + b.length - ((match wr.cell? ⟨g + 2, 0, none⟩ with | some v => (intOf v).toNat | none => 0) + (match wr.cell? ⟨g + 3, 0, none⟩ with | some v => (intOf v).toNat | none => 0)))
  case atStart => exact ⟨0, 0, xa, [], _, 0, 0, rfl, rfl, HW.out, HR.out⟩
  case round =>
    clear HW HR
    obtain ⟨i, j, fz, L, A1, n1, c1, rfl, rfl, hal, hrn⟩ := hrel
    have HAL := Lib.hid hal; have HR := Lib.hid hrn
    have hn1 : n1 = L.length := by have h2 := hrn.ow.len; rw [sv_len] at h2; omega
    have hLn : L.length ≤ 1000 := by rw [hal.left]; have := runs_len (leftK a b (xa, xb)) fz.toNat; have := hal.top; omega
    have hf0 : 0 ≤ fz := by have := hal.lo; have := HX.out; simp only at *; omega
    have hf1 : fz ≤ 1000 := hal.top
    have d0 : wr.cell? ⟨G, 0, none⟩ = some (.int .i64 xa) := hrn.bx.cell 0
    have d1 : wr.cell? ⟨G, 1, none⟩ = some (.int .i64 xb) := hrn.bx.cell 1
    have d2 : wr.cell? ⟨g + 2, 0, none⟩ = some (.int .i64 i) := hrn.nx.bi.cell 0
    have d3 : wr.cell? ⟨g + 3, 0, none⟩ = some (.int .i64 j) := hrn.nx.bj.cell 0
    have HM : Hid (i ≤ a.length ∧ j ≤ b.length) := Lib.hid ⟨hal.ia, hal.jb⟩
    subst hn1
    clear hal hrn
    by_cases hlt : fz < xb
    case neg =>
      have HF : Hid (GivesS w (runs (leftK a b (xa, xb)) 1000) (.returned (.slice A1 L.length c1)) wr) := Lib.hid (by
        have e := HAL.out.over HX.out.1 (by omega)
        have hb := HR.out.bl
        rw [HGS.out] at hb
        exact ⟨_, _, _, rfl, by rw [← e]; exact HR.out.ow.fewer (by have := HGS.out; omega), hb⟩)
      go_wp2_with fail
      go_ret
      exact HF.out
    case pos =>
      go_wp2_with fail
      refine (inext wr D g A A' a.length b.length c c' a b i j HR.out.nx HM.out.1 HM.out.2 HA.out HBB.out).mono ?_
      rintro e w3 ⟨p, ok, i', j', k, hst, rfl, nx3, hk4, hg3⟩
      have HR3 := Lib.hid (HR.out.next (by omega) hk4 hg3 nx3)
      have HST := Lib.hid hst
      have HSC := HR.out.ow.capm
      obtain ⟨px, py⟩ := p
      obtain ⟨W4, hW4⟩ : ∃ W, W = w3.alloc (.cells #[.int .i64 px, .int .i64 py] 60) := ⟨_, rfl⟩
      obtain ⟨T, hT⟩ : ∃ t, t = w3.heap.size := ⟨_, rfl⟩
      have b4 : Below w3.heap.size w3 W4 := by rw [hW4]; exact (Below.refl _ _).alloc (Nat.le_refl _) _
      have HR4 := Lib.hid (HR3.out.on b4)
      have ZT : Hid (Blk W4 T 60 #[.int .i64 px, .int .i64 py]) := Lib.hid (by rw [hW4, hT]; exact Blk.new _ _ _)
      have HGT : Hid (∀ o : Obj, G + 1 ≤ (W4.alloc o).heap.size) := Lib.hid (fun o => by have := HR4.out.bx.lt; simp; omega)
      have HGW : Hid (G = w.heap.size) := HGS
      have HNT : Hid (NotAt T A1) := Lib.hid (HR3.out.ow.notAt (by rw [hT]; exact Nat.le_refl _))
      have e2 := d2; have e3 := d3
      clear d0 d1 d2 d3 nx3 hg3 hst b4 HR hk4
      go_upto_region 6 with fail
      rw [← hW4, ← hT]
      clear hW4 hT
      have d0 : W4.cell? ⟨G, 0, none⟩ = some (.int .i64 xa) := HR4.out.bx.cell 0
      have d1 : W4.cell? ⟨G, 1, none⟩ = some (.int .i64 xb) := HR4.out.bx.cell 1
      have t0 : W4.cell? ⟨T, 0, none⟩ = some (.int .i64 px) := ZT.out.cell 0
      have t1 : W4.cell? ⟨T, 1, none⟩ = some (.int .i64 py) := ZT.out.cell 1
      have HRET : Hid (ok = true → xb ≤ px) ∨ Hid (ok = true ∧ px < xb) := by
        cases ok
        · exact .inl (Lib.hid fun e => by cases e)
        · by_cases h : xb ≤ px
          · exact .inl (Lib.hid fun _ => h)
          · exact .inr (Lib.hid ⟨rfl, by omega⟩)
      rcases HRET with HRET | HRET
      · have HEQ : Hid (L ++ [(fz, xb)] = runs (leftK a b (xa, xb)) 1000) := Lib.hid (HAL.out.rest HOA.out HOB.out ⟨HX.out.1, HX.out.2.2⟩ HST.out hlt HRET.out)
        have HR5 := Lib.hid (HR4.out.on ((Below.refl W4.heap.size W4).alloc (Nat.le_refl _) (.cells #[.int .i64 fz, .int .i64 xb] 60)))
        have hsz5 : G + 1 ≤ (W4.alloc (.cells #[.int .i64 fz, .int .i64 xb] 60)).heap.size := HGT.out _
        have hb16 : (L.length + 1) * 16 ≤ 140737488355328 := by omega
        have HFIN : Hid (∀ {A5 : Option Addr} {c5 : Nat} {w5 : World}, Rnd w5 G D g A A' c c' a b (xa, xb) i' j' A5 (L.length + 1) c5 (L ++ [(fz, xb)]) w → GivesS w (runs (leftK a b (xa, xb)) 1000) (.returned (.slice A5 (L.length + 1) c5)) w5) := Lib.hid fun h => ⟨_, _, _, rfl, by rw [← HEQ.out]; exact h.ow.fewer (by have := HGS.out; omega), by have := h.bl; rw [HGS.out] at this; exact this⟩
        have hok : ok = false ∨ (ok = true ∧ xb ≤ px) := by
          cases ok
          · exact .inl rfl
          · exact .inr ⟨rfl, HRET.out rfl⟩
        rcases hok with hok | ⟨hok, hge⟩
        all_goals
          subst hok
          go_wp2_with (at_builtin; go_loud (refine wpList_append_sl _ rfl (.tmp 36) (.tmp 41) 35 rfl (G + 1) 60 i0 _ 2 16 Try.underlying35 hi0 hy0 hy1 hy2 rfl (by omega) A1 L.length c1 (sv L) rfl HR5.out.ow (W4.heap.size + 1) _ 1 1 [.int .i64 fz, .int .i64 xb] rfl (Sl.one2 W4 _ _ _) (by simp [Value.oneCell']) (by omega) hb16 hsz5 ?_; intro A5 c5 w5 hown5 hg5 hat5; have HR6 := Lib.hid (HR5.out.put HD.out (L2 := L ++ [(fz, xb)]) (by rw [sv_app]; exact hown5) hg5 hat5); clear hown5 hg5 hat5))
          have HF := Lib.hid (HFIN.out HR6.out)
          go_ret
          exact HF.out
      · obtain ⟨hok, hge⟩ := HRET.out
        subst hok
        have HAN := Lib.hid (HAL.out.next HOA.out HOB.out ⟨HX.out.1, HX.out.2.2⟩ HST.out hlt hge)
        have HSM : Hid (i' + j' = i + j + 1) := Lib.hid HST.out.sum
        have HPV := HST.out.valid HOA.out HOB.out
        simp only at HPV HAN
        clear HRET HST
        by_cases hlo : fz < px
        · rw [if_pos hlo] at HAN
          have HR5 := Lib.hid (HR4.out.on ((Below.refl W4.heap.size W4).alloc (Nat.le_refl _) (.cells #[.int .i64 fz, .int .i64 px] 60)))
          have hsz5 : G + 1 ≤ (W4.alloc (.cells #[.int .i64 fz, .int .i64 px] 60)).heap.size := HGT.out _
          have hb16 : (L.length + 1) * 16 ≤ 140737488355328 := by omega
          go_wp2_with (at_builtin; go_loud (refine wpList_append_sl _ rfl (.tmp 47) (.tmp 52) 35 rfl (G + 1) 60 i0 _ 2 16 Try.underlying35 hi0 hy0 hy1 hy2 rfl (by omega) A1 L.length c1 (sv L) rfl HR5.out.ow (W4.heap.size + 1) _ 1 1 [.int .i64 fz, .int .i64 px] rfl (Sl.one2 W4 _ _ _) (by simp [Value.oneCell']) (by omega) hb16 hsz5 ?_; intro A5 c5 w5 hown5 hg5 hat5; have HR6 := Lib.hid (HR5.out.put HD.out (L2 := L ++ [(fz, px)]) (by rw [sv_app]; exact hown5) hg5 hat5); have t5 : w5.cell? ⟨T, 1, none⟩ = some (.int .i64 py) := ((ZT.out.alloc (.cells #[.int .i64 fz, .int .i64 px] 60)).grown' HNT.out hg5).cell 1; clear hown5 hg5 hat5))
          refine (imaxQ fz py _).mono ?_
          rintro e w6 ⟨rfl, b6⟩
          have HR7 := Lib.hid (HR6.out.on b6)
          have d2 : w6.cell? ⟨g + 2, 0, none⟩ = some (.int .i64 i') := HR7.out.nx.bi.cell 0
          have d3 : w6.cell? ⟨g + 3, 0, none⟩ = some (.int .i64 j') := HR7.out.nx.bj.cell 0
          clear b6
          go_wp2_with fail
          go_roundw
          case rel => exact ⟨i', j', mxf fz py, _, _, _, _, rfl, rfl, HAN.out, HR7.out⟩
          case measure => rw [d2, d3, e2, e3]; simp only [intOf, Int.toNat_natCast]; have := HSM.out; have := HAN.out.ia; have := HAN.out.jb; omega
        · rw [if_neg hlo] at HAN
          go_wp2_with fail
          refine (imaxQ fz py _).mono ?_
          rintro e w6 ⟨rfl, b6⟩
          have HR7 := Lib.hid (HR4.out.on b6)
          have d2 : w6.cell? ⟨g + 2, 0, none⟩ = some (.int .i64 i') := HR7.out.nx.bi.cell 0
          have d3 : w6.cell? ⟨g + 3, 0, none⟩ = some (.int .i64 j') := HR7.out.nx.bj.cell 0
          clear b6
          go_wp2_with fail
          go_roundw
          case rel => exact ⟨i', j', mxf fz py, _, _, _, _, rfl, rfl, HAN.out, HR7.out⟩
          case measure => rw [d2, d3, e2, e3]; simp only [intOf, Int.toNat_natCast]; have := HSM.out; have := HAN.out.ia; have := HAN.out.jb; omega
end Go.Proofs.Ytmmnnbgfomcihaa
