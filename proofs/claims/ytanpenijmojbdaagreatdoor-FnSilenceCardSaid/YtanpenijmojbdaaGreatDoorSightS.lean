/- The model's PlaceAt, in plain words: it takes the angle of the phase before it adds. The model's PlacesAt, NodeAt and SightAt, in plain words. The model's SightAt and IsSure, in plain words. -/
import Derived.Test.YtanpenijmojbdaaGreatDoorOrbit
import Derived.Deep.QuietTactic
import Derived.BigQuiet
import Derived.Deep.RegionHeld3
import Derived.Test.YtanpenijmojbdaaGreatDoorPlaces
import Derived.Test.YtanpenijmojbdaaGreatDoorSight
import Derived.Test.YtanpenijmojbdaaGreatDoorLimitS2
import Derived.Test.YtanpenijmojbdaaGreatDoorSightAt
namespace Go.Proofs.YtanpenijmojbdaaGreatDoor
open Go.ChangeShapes Go.WideShapes Go.ChangeAt Go.RowKit
set_option linter.unusedVariables false
def plS (ph v t : Int) : Int := ang (ang ph + spd v * tck t)
theorem plS_zero (v t : Int) : plS 0 v t = plc 0 v t := by
  have h := prod_bd (spd_lo v) (spd_hi v) (tck_lo t) (tck_hi t)
  unfold plS plc
  have e : wrap64 (0 + spd v * tck t) = 0 + spd v * tck t := by
    generalize spd v * tck t = z at h ⊢
    unfold wrap64; omega
  rw [e]; rfl
theorem splace (pl ph v er t z : Int) (w : World) (hz : plS ph v t = z) :
    Calls Tryz.prog 115 #[.agg #[.int .i64 pl, .int .i64 ph, .int .i64 v, .int .i64 er], .int .i64 t] w fun e w' => e = .returned (.int .i64 z) ∧ Below w.heap.size w w' := by
  have O1 := Lib.hid (orb_one w #[.int .i64 pl, .int .i64 ph, .int .i64 v, .int .i64 er] 125)
  obtain ⟨s, hs⟩ : ∃ s, spd v = s := ⟨_, rfl⟩
  obtain ⟨u, hu⟩ : ∃ u, tck t = u := ⟨_, rfl⟩
  have hp : ang (ang ph + s * u) = z := by rw [← hz]; unfold plS; rw [hs, hu]
  have HP := Lib.hid hp
  have l1 : -60 ≤ s := hs ▸ spd_lo v
  have l2 : s ≤ 60 := hs ▸ spd_hi v
  have l3 : 0 ≤ u := hu ▸ tck_lo t
  have l4 : u ≤ 1000 := hu ▸ tck_hi t
  have l5 := (prod_bd l1 l2 l3 l4).1
  have l6 := (prod_bd l1 l2 l3 l4).2
  have l7 := ang_lo ph; have l8 := ang_hi ph
  have q1 : IntKind.i64.wrap (s * u) = s * u := IntWalk.i64_in _ (by omega)
  have q2 : IntKind.i64.wrap (ang ph + s * u) = ang ph + s * u := IntWalk.i64_in _ (by omega)
  have HS : Hid (spd v = s) := Lib.hid hs
  by_cases ht : 0 ≤ t ∧ t ≤ 1000
  · obtain rfl : t = u := by rw [← hu]; exact (tck_in ht.1 ht.2).symm
    have HT := Lib.hid ht
    clear hp hs hu hz ht
    go_enter Tryz.func115, Tryz.ntmps115
    go_wp2_with fail
    refine (sinr_t _ _ _ _ HT.out.1 HT.out.2).mono ?_
    rintro e w1 ⟨rfl, rfl⟩
    go_wp2_with fail
    go_quiet (first
      | (go_at_call 131; refine orb_quiet (sspd _ s _ HS.out))
      | (go_at_call_of 111 (Value.int .i64 ph); refine orb_quiet (sang ph _))
      | (go_at_call 111; refine orb_quiet (sang _ _)))
    go_wp2
    go_ret
    exact ⟨ret_int HP.out, orb_drawn O1.out _⟩
  · obtain rfl : 0 = u := by rw [← hu]; unfold tck orz; rw [if_neg ht]
    have HT := Lib.hid ht
    clear hp hs hu hz ht
    go_enter Tryz.func115, Tryz.ntmps115
    go_wp2_with fail
    refine (sinr_f _ _ _ _ HT.out).mono ?_
    rintro e w1 ⟨rfl, rfl⟩
    go_wp2_with fail
    go_quiet (first
      | (go_at_call 131; refine orb_quiet (sspd _ s _ HS.out))
      | (go_at_call_of 111 (Value.int .i64 ph); refine orb_quiet (sang ph _))
      | (go_at_call 111; refine orb_quiet (sang _ _)))
    go_wp2
    go_ret
    exact ⟨ret_int (by have h := HP.out; rw [Int.mul_zero, Int.add_zero] at h; exact h), orb_drawn O1.out _⟩
end Go.Proofs.YtanpenijmojbdaaGreatDoor
namespace Go.Proofs.YtanpenijmojbdaaGreatDoor
open Go.ChangeShapes Go.WideShapes Go.ChangeAt Go.RowKit
set_option linter.unusedVariables false
/-- where a node may be, as the model reckons -/
def arcM (ls : List Sat4) (li : List Tri) (node t : Int) : Int :=
  if node < 0 then 0 else if node < ls.length then widS (plS (ls.getD node.toNat default).h (ls.getD node.toNat default).v t) 0 (ls.getD node.toNat default).e
  else if node < ls.length + li.length then plS (li.getD (node.toNat - ls.length) default).a (li.getD (node.toNat - ls.length) default).b t else 0
theorem arcM_sat (ls : List Sat4) (li : List Tri) (t : Int) {k : Nat} (hk : k < ls.length) : arcM ls li (k : Int) t = widS (plS ls[k].h ls[k].v t) 0 ls[k].e := by
  have e : ls.getD (k : Int).toNat default = ls[k] := by simp [List.getD, List.getElem?_eq_getElem hk]
  unfold arcM; rw [if_neg (by omega), if_pos (by omega), e]
theorem arcM_site (ls : List Sat4) (li : List Tri) (t : Int) {k : Nat} (hk : k < li.length) : arcM ls li ((ls.length : Int) + k) t = plS li[k].a li[k].b t := by
  have e0 : ((ls.length : Int) + (k : Int)).toNat - ls.length = k := by omega
  have e : li.getD (((ls.length : Int) + (k : Int)).toNat - ls.length) default = li[k] := by rw [e0]; simp [List.getD, List.getElem?_eq_getElem hk]
  unfold arcM; rw [if_neg (by omega), if_neg (by omega), if_pos (by omega), e]
theorem arcM_none (ls : List Sat4) (li : List Tri) (t : Int) {node : Int} (h : node < 0 ∨ (ls.length : Int) + li.length ≤ node) : arcM ls li node t = 0 := by
  unfold arcM
  by_cases h0 : node < 0
  · rw [if_pos h0]
  · rw [if_neg h0, if_neg (by omega), if_neg (by omega)]
/-- where nothing wraps both reckon alike -/
theorem plS_eq (ph v t : Int) (h0 : 0 ≤ ph) (h1 : ph < 360) : plS ph v t = plc ph v t := by
  have h := prod_bd (spd_lo v) (spd_hi v) (tck_lo t) (tck_hi t)
  unfold plS plc
  generalize spd v * tck t = z at h ⊢
  have e : wrap64 (ph + z) = ph + z := by unfold wrap64; omega
  rw [e]; unfold ang; omega
theorem arcM_eq (ls : List Sat4) (li : List Tri) (node t : Int) (h : ∀ x ∈ ls, 0 ≤ x.h ∧ x.h < 360) (h2 : ∀ x ∈ li, 0 ≤ x.a ∧ x.a < 360) : arcM ls li node t = arcS ls li node t := by
  rcases node_cases ls li node with ⟨k, hk, rfl, -, -, -⟩ | ⟨k, hk, rfl, -, -, -⟩ | ⟨hr, -, -, -⟩
  · have hx := h _ (List.getElem_mem hk)
    rw [arcM_sat ls li t hk, (arc_sat ls li t hk).1, plS_eq _ _ _ hx.1 hx.2]
  · have hx := h2 _ (List.getElem_mem hk)
    rw [arcM_site ls li t hk, (arc_site ls li t hk).1, plS_eq _ _ _ hx.1 hx.2]
    unfold widS plc ang
    split <;> omega
  · rw [arcM_none ls li t hr, (arc_none ls li t hr).1]
set_option maxRecDepth 100000 in
theorem splaces (w : World) (pl ph v er t x y : Int) (hx : widS (plS ph v t) 0 er = x) (hy : widW 0 er = y) :
    Calls Tryz.prog 113 #[.agg #[.int .i64 pl, .int .i64 ph, .int .i64 v, .int .i64 er], .int .i64 t] w (SaysP w x y) := by
  obtain ⟨W0, hW0⟩ : ∃ W, W = (w.alloc (.cells #[.int .i64 pl, .int .i64 ph, .int .i64 v, .int .i64 er] 125)).alloc (.cells #[.int .i64 0, .int .i64 0] 78) := ⟨_, rfl⟩
  have T0 : Hid (Below w.heap.size w W0) := Lib.hid (by rw [hW0]; exact ((Below.refl _ _).alloc (Nat.le_refl _) _).alloc (by simp) _)
  have Z0 : Hid (Blk W0 w.heap.size 125 #[.int .i64 pl, .int .i64 ph, .int .i64 v, .int .i64 er]) := Lib.hid (by rw [hW0]; exact (Blk.new _ _ _).alloc _)
  have Y0 : Hid (Blk W0 (w.heap.size + 1) 78 #[.int .i64 0, .int .i64 0]) := Lib.hid (by
    rw [hW0]
    have h := Blk.new (w.alloc (.cells #[.int .i64 pl, .int .i64 ph, .int .i64 v, .int .i64 er] 125)) 78 #[.int .i64 0, .int .i64 0]
    simpa using h)
  obtain ⟨q, hq⟩ : ∃ q, plS ph v t = q := ⟨_, rfl⟩
  rw [hq] at hx
  have HX := Lib.hid hx; have HY := Lib.hid hy; have HQ := Lib.hid hq
  clear hx hy hq
  have hc : W0.cell? ⟨w.heap.size, 0, none⟩ = some (.int .i64 pl) ∧ W0.cell? ⟨w.heap.size, 1, none⟩ = some (.int .i64 ph) ∧ W0.cell? ⟨w.heap.size, 2, none⟩ = some (.int .i64 v) ∧ W0.cell? ⟨w.heap.size, 3, none⟩ = some (.int .i64 er) := ⟨Z0.out.cell 0, Z0.out.cell 1, Z0.out.cell 2, Z0.out.cell 3⟩
  obtain ⟨c0, c1, c2, c3⟩ := hc
  go_enter Tryz.func113, Tryz.ntmps113
  go_wp2_with fail
  rw [← hW0]
  clear hW0
  go_region_held3 (fun w' => w'.cell? ⟨w.heap.size, 0, none⟩ = some (.int .i64 pl) ∧ w'.cell? ⟨w.heap.size, 1, none⟩ = some (.int .i64 ph) ∧ w'.cell? ⟨w.heap.size, 2, none⟩ = some (.int .i64 v) ∧ w'.cell? ⟨w.heap.size, 3, none⟩ = some (.int .i64 er)) (first | exact ⟨c0, c1, c2, c3⟩ | exact hcA | go_keep) (first
    | (go_at_call 115; refine (splace _ _ _ _ _ q _ HQ.out).mono ?_; rintro e wA ⟨rfl, bA⟩; have HBA : Hid (Below W0.heap.size W0 wA) := Lib.hid (by first | exact (Below.refl _ _).drew.trans bA | exact bA); have ZA := Lib.hid (Z0.out.below HBA.out Z0.out.lt); have hcA : wA.cell? ⟨w.heap.size, 0, none⟩ = some (.int .i64 pl) ∧ wA.cell? ⟨w.heap.size, 1, none⟩ = some (.int .i64 ph) ∧ wA.cell? ⟨w.heap.size, 2, none⟩ = some (.int .i64 v) ∧ wA.cell? ⟨w.heap.size, 3, none⟩ = some (.int .i64 er) := ⟨ZA.out.cell 0, ZA.out.cell 1, ZA.out.cell 2, ZA.out.cell 3⟩; clear bA)
    | (go_at_call 129; refine (swiden wA _ 0 er x y HX.out HY.out).mono ?_; rintro e wB ⟨rfl, bB⟩; have HBB : Hid (Below W0.heap.size W0 wB) := Lib.hid (HBA.out.trans (bB.mono HBA.out.size)); have YB := Lib.hid (Y0.out.below HBB.out Y0.out.lt); have ZB := Lib.hid (Z0.out.below HBB.out Z0.out.lt); have hcA : wB.cell? ⟨w.heap.size, 0, none⟩ = some (.int .i64 pl) ∧ wB.cell? ⟨w.heap.size, 1, none⟩ = some (.int .i64 ph) ∧ wB.cell? ⟨w.heap.size, 2, none⟩ = some (.int .i64 v) ∧ wB.cell? ⟨w.heap.size, 3, none⟩ = some (.int .i64 er) := ⟨ZB.out.cell 0, ZB.out.cell 1, ZB.out.cell 2, ZB.out.cell 3⟩; obtain ⟨e2, m0, e3, m1, n0, n1⟩ := pair_out YB.out x y; clear bB))
  have HO : Hid (Below w.heap.size w ((wB.setCell ⟨w.heap.size + 1, 0, none⟩ (.int .i64 x)).setCell ⟨w.heap.size + 1, 1, none⟩ (.int .i64 y))) := Lib.hid (((T0.out.trans (HBB.out.mono T0.out.size)).setCell (by simp) _).setCell (by simp) _)
  go_wp2
  (try simp only [Exit.inBlock, Exit.then])
  refine bodyPost_ret (v := .agg #[.int .i64 x, .int .i64 y]) (by simp [results, Tryz.results113, go_sem, n0, n1]; try rfl) rfl ⟨rfl, HO.out⟩
set_option maxHeartbeats 800000 in
set_option maxRecDepth 100000 in
theorem snodeat (w : World) (P R X V U D Q : Int) (ns ni nz : Nat) (ls : List Sat4) (li lz : List Tri) (As : Option Addr) (cs : Nat) (Ai : Option Addr) (ci : Nat) (Az : Option Addr) (cz : Nat) (D0 : Nat) (h : InSky w (D0) As ns cs Ai ni ci Az nz cz ls li lz) (hD : D0 ≤ w.heap.size) (hs : ns ≤ 16777216) (hi : ni ≤ 16777216) (node t : Int) (hn : J64 node) (x y : Int) (hx : arcM ls li node t = x) (hy : arcW ls li node = y) :
    Calls Tryz.prog 87 #[.agg #[.int .i64 P, .slice As ns cs, .slice Ai ni ci, .int .i64 R, .int .i64 X, .int .i64 V, .int .i64 U, .int .i64 D, .slice Az nz cz, .int .i64 Q], .int .i64 node, .int .i64 t] w (SaysP w x y) := by
  obtain rfl := h.ns_; obtain rfl := h.ni_
  have hc1 := h.s.cap; have hc2 := h.s.capm; have hc3 := h.i.cap; have hc4 := h.i.capm
  unfold J64 at hn
  rcases node_cases ls li node with ⟨k, hk, rfl, -, -, hsite⟩ | ⟨k, hk, rfl, -, -, hsite⟩ | ⟨hr, -, -, hsite⟩
  · rw [arcM_sat ls li t hk] at hx; rw [(arc_sat ls li t hk).2] at hy
    obtain ⟨ad, hxx, rfl, had, -⟩ := h.s.four hk
    obtain ⟨W0, hW0⟩ : ∃ W, W = (w.alloc (.cells #[.int .i64 P, .slice (some ad) ls.length cs, .slice Ai li.length ci, .int .i64 R, .int .i64 X, .int .i64 V, .int .i64 U, .int .i64 D, .slice Az nz cz, .int .i64 Q] 28)).alloc (.cells #[.int .i64 0, .int .i64 0] 78) := ⟨_, rfl⟩
    have T0 : Hid (Below w.heap.size w W0) := Lib.hid (by rw [hW0]; exact ((Below.refl _ _).alloc (Nat.le_refl _) _).alloc (by simp) _)
    have Z0 : Blk W0 w.heap.size 28 #[.int .i64 P, .slice (some ad) ls.length cs, .slice Ai li.length ci, .int .i64 R, .int .i64 X, .int .i64 V, .int .i64 U, .int .i64 D, .slice Az nz cz, .int .i64 Q] := by rw [hW0]; exact (Blk.new _ _ _).alloc _
    have Y0 : Hid (Blk W0 (w.heap.size + 1) 78 #[.int .i64 0, .int .i64 0]) := Lib.hid (by
      rw [hW0]
      have h := Blk.new (w.alloc (.cells #[.int .i64 P, .slice (some ad) ls.length cs, .slice Ai li.length ci, .int .i64 R, .int .i64 X, .int .i64 V, .int .i64 U, .int .i64 D, .slice Az nz cz, .int .i64 Q] 28)) 78 #[.int .i64 0, .int .i64 0]
      simpa using h)
    obtain ⟨ad', hx', e', had', q0, q1, q2, q3⟩ := (h.below T0.out hD).s.four hk
    injection e' with e'
    subst e'
    obtain ⟨e, he⟩ : ∃ e, e = ls[k] := ⟨_, rfl⟩
    rw [← he] at q0 q1 q2 q3 hx hy
    obtain ⟨p, ph, v, er⟩ := e
    simp only at q0 q1 q2 q3 hx hy
    have HX := Lib.hid hx; have HY := Lib.hid hy
    obtain ⟨c0, c1, c2, c3, c4, c5, c6, c7, c8, c9⟩ := Z0.ten
    clear h he hsite hx hy Z0
    go_enter Tryz.func87, Tryz.ntmps87
    go_wp2_with fail
    rw [← hW0]
    clear hW0
    refine (sinr_t _ _ _ _ (by omega) (by omega)).mono ?_
    rintro e w' ⟨rfl, rfl⟩
    go_wp2_with fail
    refine (splaces _ p ph v er t x y HX.out HY.out).mono ?_
    rintro e wB ⟨rfl, bB⟩
    have YB := Lib.hid (Y0.out.below bB Y0.out.lt)
    obtain ⟨e2, m0, e3, m1, n0, n1⟩ := pair_out YB.out x y
    have HO : Hid (Below w.heap.size w ((wB.setCell ⟨w.heap.size + 1, 0, none⟩ (.int .i64 x)).setCell ⟨w.heap.size + 1, 1, none⟩ (.int .i64 y))) := Lib.hid (((T0.out.trans (bB.mono T0.out.size)).setCell (by simp) _).setCell (by simp) _)
    clear bB c0 c1 c2 c3 c4 c5 c6 c7 c8 c9 q0 q1 q2 q3
    go_wp2
    (try simp only [Exit.inBlock, Exit.then])
    refine bodyPost_ret (v := .agg #[.int .i64 x, .int .i64 y]) (by simp [results, Tryz.results87, go_sem, n0, n1]; try rfl) rfl ⟨rfl, HO.out⟩
  · rw [arcM_site ls li t hk] at hx; rw [(arc_site ls li t hk).2] at hy
    subst hy
    obtain ⟨ad, hxx, rfl, had, -⟩ := h.i.tri hk
    obtain ⟨W0, hW0⟩ : ∃ W, W = (w.alloc (.cells #[.int .i64 P, .slice As ls.length cs, .slice (some ad) li.length ci, .int .i64 R, .int .i64 X, .int .i64 V, .int .i64 U, .int .i64 D, .slice Az nz cz, .int .i64 Q] 28)).alloc (.cells #[.int .i64 0, .int .i64 0] 78) := ⟨_, rfl⟩
    have T0 : Hid (Below w.heap.size w W0) := Lib.hid (by rw [hW0]; exact ((Below.refl _ _).alloc (Nat.le_refl _) _).alloc (by simp) _)
    have Z0 : Hid (Blk W0 w.heap.size 28 #[.int .i64 P, .slice As ls.length cs, .slice (some ad) li.length ci, .int .i64 R, .int .i64 X, .int .i64 V, .int .i64 U, .int .i64 D, .slice Az nz cz, .int .i64 Q]) := Lib.hid (by rw [hW0]; exact (Blk.new _ _ _).alloc _)
    have Y0 : Hid (Blk W0 (w.heap.size + 1) 78 #[.int .i64 0, .int .i64 0]) := Lib.hid (by
      rw [hW0]
      have h := Blk.new (w.alloc (.cells #[.int .i64 P, .slice As ls.length cs, .slice (some ad) li.length ci, .int .i64 R, .int .i64 X, .int .i64 V, .int .i64 U, .int .i64 D, .slice Az nz cz, .int .i64 Q] 28)) 78 #[.int .i64 0, .int .i64 0]
      simpa using h)
    have H := Lib.hid h
    obtain ⟨e, he⟩ : ∃ e, e = li[k] := ⟨_, rfl⟩
    rw [← he] at hx
    obtain ⟨p, an, v⟩ := e
    simp only at hx
    have HE := Lib.hid he; have HS := Lib.hid hsite; have HX := Lib.hid hx
    have hsz : w.heap.size + 1 < W0.heap.size := Y0.out.lt
    obtain ⟨c0, c1, c2, c3, c4, c5, c6, c7, c8, c9⟩ := Z0.out.ten
    clear h he hsite hx
    go_enter Tryz.func87, Tryz.ntmps87
    go_wp2_with fail
    rw [← hW0]
    clear hW0
    refine (sinr_f _ _ _ _ (by omega)).mono ?_
    rintro e w' ⟨rfl, rfl⟩
    go_wp2_with fail
    refine (sissite _ P R X V U D Q ls.length li.length nz ls li lz As cs (some ad) ci Az cz hs hi _).mono ?_
    rintro e w1 ⟨rfl, b1⟩
    rw [HS.out]
    obtain ⟨d0, d1, d2, d3, d4, d5, d6, d7, d8, d9⟩ := (Z0.out.below b1 Z0.out.lt).ten
    obtain ⟨ad', hx', e', had', q0, q1, q2⟩ := ((H.out.below T0.out hD).below b1 (by omega)).i.tri hk
    injection e' with e'
    subst e'
    rw [← HE.out] at q0 q1 q2
    simp only at q0 q1 q2
    obtain ⟨W2, hW2⟩ : ∃ W, W = w1.alloc (.cells #[.int .i64 p, .int .i64 an, .int .i64 v] 130) := ⟨_, rfl⟩
    have b2 : Below W0.heap.size W0 W2 := by rw [hW2]; exact b1.alloc b1.size _
    have T2 := Lib.hid (T0.out.trans (b2.mono T0.out.size))
    have Y2 := Lib.hid (Y0.out.below b2 Y0.out.lt)
    clear b1 b2 c0 c1 c2 c3 c4 c5 c6 c7 c8 c9 HE H
    go_wp2_with fail
    rw [← hW2]
    clear hW2
    refine (splace 0 an v 0 t x _ HX.out).mono ?_
    rintro e wB ⟨rfl, bB⟩
    have YB := Lib.hid (Y2.out.below bB Y2.out.lt)
    obtain ⟨e2, m0, e3, m1, n0, n1⟩ := pair_out YB.out x 0
    have HO : Hid (Below w.heap.size w ((wB.setCell ⟨w.heap.size + 1, 0, none⟩ (.int .i64 x)).setCell ⟨w.heap.size + 1, 1, none⟩ (.int .i64 0))) := Lib.hid (((T2.out.trans (bB.mono T2.out.size)).setCell (by simp) _).setCell (by simp) _)
    clear bB d0 d1 d2 d3 d4 d5 d6 d7 d8 d9 q0 q1 q2
    go_wp2
    (try simp only [Exit.inBlock, Exit.then])
    refine bodyPost_ret (v := .agg #[.int .i64 x, .int .i64 0]) (by simp [results, Tryz.results87, go_sem, n0, n1]; try rfl) rfl ⟨rfl, HO.out⟩
  · rw [arcM_none ls li t hr] at hx; rw [(arc_none ls li t hr).2] at hy
    subst hx hy
    obtain ⟨W0, hW0⟩ : ∃ W, W = (w.alloc (.cells #[.int .i64 P, .slice As ls.length cs, .slice Ai li.length ci, .int .i64 R, .int .i64 X, .int .i64 V, .int .i64 U, .int .i64 D, .slice Az nz cz, .int .i64 Q] 28)).alloc (.cells #[.int .i64 0, .int .i64 0] 78) := ⟨_, rfl⟩
    have T0 : Hid (Below w.heap.size w W0) := Lib.hid (by rw [hW0]; exact ((Below.refl _ _).alloc (Nat.le_refl _) _).alloc (by simp) _)
    have Z0 : Hid (Blk W0 w.heap.size 28 #[.int .i64 P, .slice As ls.length cs, .slice Ai li.length ci, .int .i64 R, .int .i64 X, .int .i64 V, .int .i64 U, .int .i64 D, .slice Az nz cz, .int .i64 Q]) := Lib.hid (by rw [hW0]; exact (Blk.new _ _ _).alloc _)
    have Y0 : Hid (Blk W0 (w.heap.size + 1) 78 #[.int .i64 0, .int .i64 0]) := Lib.hid (by
      rw [hW0]
      have h := Blk.new (w.alloc (.cells #[.int .i64 P, .slice As ls.length cs, .slice Ai li.length ci, .int .i64 R, .int .i64 X, .int .i64 V, .int .i64 U, .int .i64 D, .slice Az nz cz, .int .i64 Q] 28)) 78 #[.int .i64 0, .int .i64 0]
      simpa using h)
    have HS := Lib.hid hsite
    obtain ⟨c0, c1, c2, c3, c4, c5, c6, c7, c8, c9⟩ := Z0.out.ten
    clear h hsite
    go_enter Tryz.func87, Tryz.ntmps87
    go_wp2_with fail
    rw [← hW0]
    clear hW0
    refine (sinr_f _ _ _ _ (by omega)).mono ?_
    rintro e w' ⟨rfl, rfl⟩
    go_wp2_with fail
    refine (sissite _ P R X V U D Q ls.length li.length nz ls li lz As cs Ai ci Az cz hs hi _).mono ?_
    rintro e w1 ⟨rfl, b1⟩
    rw [HS.out]
    have YB := Lib.hid (Y0.out.below b1 Y0.out.lt)
    obtain ⟨e2, m0, e3, m1, n0, n1⟩ := pair_out YB.out 0 0
    have HO : Hid (Below w.heap.size w ((w1.setCell ⟨w.heap.size + 1, 0, none⟩ (.int .i64 0)).setCell ⟨w.heap.size + 1, 1, none⟩ (.int .i64 0))) := Lib.hid (((T0.out.trans (b1.mono T0.out.size)).setCell (by simp) _).setCell (by simp) _)
    clear b1 c0 c1 c2 c3 c4 c5 c6 c7 c8 c9
    go_wp2
    (try simp only [Exit.inBlock, Exit.then])
    refine bodyPost_ret (v := .agg #[.int .i64 0, .int .i64 0]) (by simp [results, Tryz.results87, go_sem, n0, n1]; try rfl) rfl ⟨rfl, HO.out⟩
end Go.Proofs.YtanpenijmojbdaaGreatDoor
namespace Go.Proofs.YtanpenijmojbdaaGreatDoor
open Go.ChangeShapes Go.WideShapes Go.ChangeAt Go.RowKit
set_option linter.unusedVariables false
def gapM (ls : List Sat4) (li : List Tri) (a b t : Int) : Int := gapf (midf (arcM ls li a t) (arcW ls li a)) (midf (arcM ls li b t) (arcW ls li b))
def sightM (P R X V : Int) (ns ni : Nat) (ls : List Sat4) (li : List Tri) (a b t : Int) : Int := sightI (limS P R X V ns ni ls li a b) (douOf ls li a b) (gapM ls li a b t)
theorem half_sum (x y : Int) (hx : 0 ≤ x) (hy : 0 ≤ y) : x.tdiv 2 + y.tdiv 2 + (x.tmod 2 + y.tmod 2).tdiv 2 = (x + y) / 2 := by
  rw [Int.tdiv_eq_ediv_of_nonneg hx, Int.tdiv_eq_ediv_of_nonneg hy, Int.tmod_eq_emod_of_nonneg hx, Int.tmod_eq_emod_of_nonneg hy, Int.tdiv_eq_ediv_of_nonneg (by omega)]
  omega
set_option maxHeartbeats 1600000 in
set_option maxRecDepth 100000 in
theorem ssight (w : World) (P R X V U D Q : Int) (ns ni nz : Nat) (ls : List Sat4) (li lz : List Tri) (As : Option Addr) (cs : Nat) (Ai : Option Addr) (ci : Nat) (Az : Option Addr) (cz : Nat) (D0 : Nat) (h : InSky w (D0) As ns cs Ai ni ci Az nz cz ls li lz) (hD : D0 ≤ w.heap.size) (hs : ns ≤ 16777216) (hi : ni ≤ 16777216) (hk1 : ∀ x ∈ ls, Ok4 x) (hk2 : ∀ x ∈ li, Ok3 x) (a b : Int) (ha : J64 a) (hb : J64 b) (t r : Int) (hr : sightM P R X V ns ni ls li a b t = r) :
    Calls Tryz.prog 101 #[.agg #[.int .i64 P, .slice As ns cs, .slice Ai ni ci, .int .i64 R, .int .i64 X, .int .i64 V, .int .i64 U, .int .i64 D, .slice Az nz cz, .int .i64 Q], .int .i64 a, .int .i64 b, .int .i64 t] w (Num w r) := by
  obtain ⟨W0, hW0⟩ : ∃ W, W = w.alloc (.cells #[.int .i64 P, .slice As ns cs, .slice Ai ni ci, .int .i64 R, .int .i64 X, .int .i64 V, .int .i64 U, .int .i64 D, .slice Az nz cz, .int .i64 Q] 28) := ⟨_, rfl⟩
  have T0 : Hid (Below w.heap.size w W0) := Lib.hid (by rw [hW0]; exact (Below.refl _ _).alloc (Nat.le_refl _) _)
  have H0 := Lib.hid (h.below T0.out hD)
  have HD : Hid (D0 ≤ W0.heap.size) := Lib.hid (Nat.le_trans hD T0.out.size)
  have Z0 : Hid (Blk W0 w.heap.size 28 #[.int .i64 P, .slice As ns cs, .slice Ai ni ci, .int .i64 R, .int .i64 X, .int .i64 V, .int .i64 U, .int .i64 D, .slice Az nz cz, .int .i64 Q]) := Lib.hid (by rw [hW0]; exact Blk.new _ _ _)
  obtain ⟨lim, hl⟩ : ∃ z, limS P R X V ns ni ls li a b = z := ⟨_, rfl⟩
  obtain ⟨xa, hxa⟩ : ∃ z, arcM ls li a t = z := ⟨_, rfl⟩
  obtain ⟨xb, hxb⟩ : ∃ z, arcM ls li b t = z := ⟨_, rfl⟩
  obtain ⟨wa, hwa⟩ : ∃ z, arcW ls li a = z := ⟨_, rfl⟩
  obtain ⟨wb, hwb⟩ : ∃ z, arcW ls li b = z := ⟨_, rfl⟩
  obtain ⟨ma, hma⟩ : ∃ z, midf xa wa = z := ⟨_, rfl⟩
  obtain ⟨mB, hmb⟩ : ∃ z, midf xb wb = z := ⟨_, rfl⟩
  obtain ⟨g, hg⟩ : ∃ z, gapf ma mB = z := ⟨_, rfl⟩
  have hgb := gapf_bd ma mB
  rw [hg] at hgb
  have q1 := arcW_bd ls li a; have q2 := arcW_bd ls li b
  rw [hwa] at q1; rw [hwb] at q2
  obtain ⟨e1, he1⟩ : ∃ z, wa.tdiv 2 = z := ⟨_, rfl⟩
  obtain ⟨e2, he2⟩ : ∃ z, wb.tdiv 2 = z := ⟨_, rfl⟩
  obtain ⟨f1, hf1⟩ : ∃ z, wa.tmod 2 = z := ⟨_, rfl⟩
  obtain ⟨f2, hf2⟩ : ∃ z, wb.tmod 2 = z := ⟨_, rfl⟩
  obtain ⟨f3, hf3⟩ : ∃ z, (f1 + f2).tdiv 2 = z := ⟨_, rfl⟩
  have b1 : 0 ≤ e1 ∧ e1 ≤ 179 := by rw [← he1, Int.tdiv_eq_ediv_of_nonneg q1.1]; omega
  have b2 : 0 ≤ e2 ∧ e2 ≤ 179 := by rw [← he2, Int.tdiv_eq_ediv_of_nonneg q2.1]; omega
  have b3 : 0 ≤ f1 ∧ f1 ≤ 1 := by rw [← hf1, Int.tmod_eq_emod_of_nonneg q1.1]; omega
  have b4 : 0 ≤ f2 ∧ f2 ≤ 1 := by rw [← hf2, Int.tmod_eq_emod_of_nonneg q2.1]; omega
  have b5 : 0 ≤ f3 ∧ f3 ≤ 1 := by rw [← hf3, Int.tdiv_eq_ediv_of_nonneg (by omega)]; omega
  have hdou : e1 + e2 + f3 = (wa + wb) / 2 := by rw [← he1, ← he2, ← hf3, ← hf1, ← hf2]; exact half_sum wa wb q1.1 q2.1
  have HR : Hid (sgt lim (g - (e1 + e2 + f3)) (g + (e1 + e2 + f3)) = r) := Lib.hid (by rw [hdou, ← hr, ← hl, ← hg, ← hma, ← hmb, ← hxa, ← hxb, ← hwa, ← hwb]; rfl)
  have HXA := Lib.hid hxa; have HXB := Lib.hid hxb; have HWA := Lib.hid hwa; have HWB := Lib.hid hwb; have HMA := Lib.hid hma; have HMB := Lib.hid hmb; have HG := Lib.hid hg; have HL := Lib.hid hl
  have HJA := Lib.hid ha; have HJB := Lib.hid hb; have HK := Lib.hid (And.intro hk1 hk2)
  have HE := Lib.hid (And.intro he1 (And.intro he2 (And.intro hf1 (And.intro hf2 hf3))))
  clear h hD hxa hxb hwa hwb ha hb hma hmb hg hl hr hk1 hk2 he1 he2 hf1 hf2 hf3 hdou
  obtain ⟨c0, c1, c2, c3, c4, c5, c6, c7, c8, c9⟩ := Z0.out.ten
  go_enter Tryz.func101, Tryz.ntmps101
  go_wp2_with fail
  rw [← hW0]
  clear hW0
  refine (slimit W0 P R X V U D Q ns ni nz ls li lz As cs Ai ci Az cz D0 H0.out HD.out hs hi HK.out.1 HK.out.2 a b HJA.out HJB.out lim HL.out).mono ?_
  rintro e w1 ⟨rfl, bb1⟩
  have B1 := Lib.hid bb1
  clear bb1 c0 c1 c2 c3 c4 c5 c6 c7 c8 c9
  by_cases hneg : lim < 0
  · obtain rfl : 0 = r := by rw [← HR.out]; unfold sgt; rw [if_pos (.inl hneg)]
    have HF := Lib.hid (T0.out.trans (B1.out.mono T0.out.size))
    go_wp2
    go_ret
    exact ⟨rfl, HF.out⟩
  obtain ⟨c0, c1, c2, c3, c4, c5, c6, c7, c8, c9⟩ := (Z0.out.below B1.out Z0.out.lt).ten
  go_wp2_with fail
  refine (snodeat w1 P R X V U D Q ns ni nz ls li lz As cs Ai ci Az cz D0 (H0.out.below B1.out HD.out) (Nat.le_trans HD.out B1.out.size) hs hi a t HJA.out xa wa HXA.out HWA.out).mono ?_
  rintro e w2 ⟨rfl, bb2⟩
  obtain ⟨gx, hgx⟩ : ∃ g, g = w2.heap.size := ⟨_, rfl⟩
  obtain ⟨Wx, hWx⟩ : ∃ W, W = w2.alloc (.cells #[.int .i64 xa, .int .i64 wa] 78) := ⟨_, rfl⟩
  have BX : Hid (Below W0.heap.size W0 Wx) := Lib.hid (by rw [hWx]; exact (B1.out.trans (bb2.mono B1.out.size)).alloc (Nat.le_trans B1.out.size bb2.size) _)
  have ZX : Hid (Blk Wx gx 78 #[.int .i64 xa, .int .i64 wa]) := Lib.hid (by rw [hWx, hgx]; exact Blk.new _ _ _)
  clear bb2 c0 c1 c2 c3 c4 c5 c6 c7 c8 c9 B1
  go_upto_region 5 with fail
  rw [← hWx, ← hgx]
  clear hWx hgx
  obtain ⟨c0, c1, c2, c3, c4, c5, c6, c7, c8, c9⟩ := (Z0.out.below BX.out Z0.out.lt).ten
  go_wp2_with fail
  refine (snodeat Wx P R X V U D Q ns ni nz ls li lz As cs Ai ci Az cz D0 (H0.out.below BX.out HD.out) (Nat.le_trans HD.out BX.out.size) hs hi b t HJB.out xb wb HXB.out HWB.out).mono ?_
  rintro e w3 ⟨rfl, bb3⟩
  obtain ⟨gy, hgy⟩ : ∃ g, g = w3.heap.size := ⟨_, rfl⟩
  obtain ⟨Wy, hWy⟩ : ∃ W, W = w3.alloc (.cells #[.int .i64 xb, .int .i64 wb] 78) := ⟨_, rfl⟩
  have BXY : Below Wx.heap.size Wx Wy := by rw [hWy]; exact bb3.alloc bb3.size _
  have BY : Hid (Below W0.heap.size W0 Wy) := Lib.hid (BX.out.trans (BXY.mono BX.out.size))
  have ZXY : Hid (Blk Wy gx 78 #[.int .i64 xa, .int .i64 wa]) := Lib.hid (ZX.out.below BXY ZX.out.lt)
  have ZY : Hid (Blk Wy gy 78 #[.int .i64 xb, .int .i64 wb]) := Lib.hid (by rw [hWy, hgy]; exact Blk.new _ _ _)
  clear bb3 BXY c0 c1 c2 c3 c4 c5 c6 c7 c8 c9 ZX BX
  go_upto_region 6 with fail
  rw [← hWy, ← hgy]
  clear hWy hgy
  have d0 : Wy.cell? ⟨gx, 0, none⟩ = some (.int .i64 xa) := ZXY.out.cell 0
  have d1 : Wy.cell? ⟨gx, 1, none⟩ = some (.int .i64 wa) := ZXY.out.cell 1
  have d2 : Wy.cell? ⟨gy, 0, none⟩ = some (.int .i64 xb) := ZY.out.cell 0
  have d3 : Wy.cell? ⟨gy, 1, none⟩ = some (.int .i64 wb) := ZY.out.cell 1
  go_region_held3 (fun w' => w'.cell? ⟨gx, 0, none⟩ = some (.int .i64 xa) ∧ w'.cell? ⟨gx, 1, none⟩ = some (.int .i64 wa) ∧ w'.cell? ⟨gy, 0, none⟩ = some (.int .i64 xb) ∧ w'.cell? ⟨gy, 1, none⟩ = some (.int .i64 wb)) (first | with_reducible exact ⟨d0, d1, d2, d3⟩ | with_reducible exact hcA | go_keep) (first
    | (go_at_call 121; have hbefore := HBD.out; refine (smiddle wD xb wb mB HMB.out).mono ?_; rintro e wE ⟨rfl, bE⟩; have HBE : Hid (Below Wy.heap.size Wy wE) := Lib.hid (HBD.out.trans (bE.mono HBD.out.size)); have hcA := And.intro ((ZXY.out.below HBE.out ZXY.out.lt).cell 0) (And.intro ((ZXY.out.below HBE.out ZXY.out.lt).cell 1) (And.intro ((ZY.out.below HBE.out ZY.out.lt).cell 0) ((ZY.out.below HBE.out ZY.out.lt).cell 1))); clear bE)
    | (go_at_call 121; refine (smiddle Wy.drew xa wa ma HMA.out).mono ?_; rintro e wD ⟨rfl, bD⟩; have HBD : Hid (Below Wy.heap.size Wy wD) := Lib.hid ((Below.refl _ _).drew.trans bD); have hcA := And.intro ((ZXY.out.below HBD.out ZXY.out.lt).cell 0) (And.intro ((ZXY.out.below HBD.out ZXY.out.lt).cell 1) (And.intro ((ZY.out.below HBD.out ZY.out.lt).cell 0) ((ZY.out.below HBD.out ZY.out.lt).cell 1))); clear bD)
    | (go_at_call 120; refine (sgapOf ma mB _).mono ?_; rintro e wF ⟨rfl, rfl⟩; rw [HG.out]))
  have k0 : wE.cell? ⟨gx, 0, none⟩ = some (.int .i64 xa) := (ZXY.out.below HBE.out ZXY.out.lt).cell 0
  have k1 : wE.cell? ⟨gx, 1, none⟩ = some (.int .i64 wa) := (ZXY.out.below HBE.out ZXY.out.lt).cell 1
  have k2 : wE.cell? ⟨gy, 0, none⟩ = some (.int .i64 xb) := (ZY.out.below HBE.out ZY.out.lt).cell 0
  have k3 : wE.cell? ⟨gy, 1, none⟩ = some (.int .i64 wb) := (ZY.out.below HBE.out ZY.out.lt).cell 1
  have HF := Lib.hid (T0.out.trans ((BY.out.trans (HBE.out.mono BY.out.size)).mono T0.out.size))
  obtain ⟨he1, he2, hf1, hf2, hf3⟩ := HE.out
  clear d0 d1 d2 d3
  by_cases h1 : lim < g - (e1 + e2 + f3)
  · obtain rfl : 0 = r := by rw [← HR.out]; unfold sgt; rw [if_pos (.inr h1)]
    go_wp2
    go_ret
    exact ⟨rfl, HF.out⟩
  by_cases h2 : g + (e1 + e2 + f3) ≤ lim
  · obtain rfl : 2 = r := by rw [← HR.out]; unfold sgt; rw [if_neg (by omega), if_pos h2]
    go_wp2
    go_ret
    exact ⟨rfl, HF.out⟩
  · obtain rfl : 1 = r := by rw [← HR.out]; unfold sgt; rw [if_neg (by omega), if_neg h2]
    go_wp2
    go_ret
    exact ⟨rfl, HF.out⟩
end Go.Proofs.YtanpenijmojbdaaGreatDoor
