/- The model's MayDisturb and IsSure; where nothing wraps they answer as the program's. The model's l8Ticks, SureWindows, QuietSpans and SpeakingSpans. -/
import Derived.Test.YtanpenijmojbdaaGreatDoorSilence
import Derived.Test.YtanpenijmojbdaaGreatDoorSightS
import Derived.Test.YtanpenijmojbdaaGreatDoorLimitS2
import Derived.Deep.QuietTactic
import Derived.BigQuiet
import Derived.Test.YtanpenijmojbdaaGreatDoorSpanPut
namespace Go.Proofs.YtanpenijmojbdaaGreatDoor
open Go.ChangeShapes Go.WideShapes Go.ChangeAt Go.RowKit
set_option linter.unusedVariables false
def mayM (ls : List Sat4) (li lz : List Tri) (node t : Int) : Bool := decide (0 ≤ node ∧ node < ls.length) && lz.any (zoneHit (planeOf ls li node) (arcM ls li node t) (arcW ls li node))
theorem may_eq (ls : List Sat4) (li lz : List Tri) (node t : Int) (h : ∀ x ∈ ls, 0 ≤ x.h ∧ x.h < 360) (h2 : ∀ x ∈ li, 0 ≤ x.a ∧ x.a < 360) : mayM ls li lz node t = mayAt ls li lz node t := by
  unfold mayM mayAt; rw [arcM_eq ls li node t h h2]
theorem sight_eq (P R X V : Int) (ls : List Sat4) (li : List Tri) (a b t : Int) (h : ∀ x ∈ ls, 0 ≤ x.h ∧ x.h < 360) (h2 : ∀ x ∈ li, 0 ≤ x.a ∧ x.a < 360) : sightM P R X V ls.length li.length ls li a b t = sightOf P R X V ls li a b t := by
  unfold sightM sightOf gapM gapAt
  rw [limS_eq P R X V ls li a b (near_eq _ _ _), arcM_eq ls li a t h h2, arcM_eq ls li b t h h2]
theorem any_taken (l : List Tri) (p : Tri → Bool) (k : Nat) (hk : k < l.length) (h : (l.take k).any p = false) : (l.take (k + 1)).any p = p l[k] := by
  rw [List.take_succ_eq_append_getElem hk, List.any_append, h]; simp
theorem any_at2 {l : List Tri} {p : Tri → Bool} {k : Nat} (hk : k < l.length) (h : p l[k] = true) : l.any p = true := List.any_eq_true.2 ⟨_, List.getElem_mem hk, h⟩
set_option maxRecDepth 100000 in
set_option maxHeartbeats 2000000 in
theorem smay (w : World) (P R X V U D Q : Int) (ns ni nz : Nat) (ls : List Sat4) (li lz : List Tri) (As : Option Addr) (cs : Nat) (Ai : Option Addr) (ci : Nat) (Az : Option Addr) (cz : Nat) (D0 : Nat) (h : InSky w (D0) As ns cs Ai ni ci Az nz cz ls li lz) (hD : D0 ≤ w.heap.size) (hs : ns ≤ 16777216) (hi : ni ≤ 16777216) (hz : nz ≤ 16777216) (node t : Int) (hn : J64 node) (b : Bool) (hb : mayM ls li lz node t = b) :
    Calls Tryz.prog 49 #[.agg #[.int .i64 P, .slice As ns cs, .slice Ai ni ci, .int .i64 R, .int .i64 X, .int .i64 V, .int .i64 U, .int .i64 D, .slice Az nz cz, .int .i64 Q], .int .i64 node, .int .i64 t] w (Tells w b) := by
  obtain ⟨W0, hW0⟩ : ∃ W, W = w.alloc (.cells #[.int .i64 P, .slice As ns cs, .slice Ai ni ci, .int .i64 R, .int .i64 X, .int .i64 V, .int .i64 U, .int .i64 D, .slice Az nz cz, .int .i64 Q] 28) := ⟨_, rfl⟩
  have T0 : Hid (Below w.heap.size w W0) := Lib.hid (by rw [hW0]; exact (Below.refl _ _).alloc (Nat.le_refl _) _)
  have S0 : Hid (Blk W0 w.heap.size 28 #[.int .i64 P, .slice As ns cs, .slice Ai ni ci, .int .i64 R, .int .i64 X, .int .i64 V, .int .i64 U, .int .i64 D, .slice Az nz cz, .int .i64 Q]) := Lib.hid (by rw [hW0]; exact Blk.new _ _ _)
  have H0 := Lib.hid (h.below T0.out hD)
  have HD : Hid (D0 ≤ W0.heap.size) := Lib.hid (Nat.le_trans hD T0.out.size)
  have HNS := Lib.hid h.ns_
  have HNZ := Lib.hid h.nz_
  have HN := Lib.hid hn
  clear h hn hD
  have e1 : IntKind.i64.wrap ((ns : Int) - 1) = (ns : Int) - 1 := wrap_in _ (by omega) (by omega)
  obtain ⟨c0, c1, c2, c3, c4, c5, c6, c7, c8, c9⟩ := S0.out.ten
  by_cases hnode : 0 ≤ node ∧ node < (ns : Int)
  case neg =>
    obtain rfl : false = b := by rw [← hb]; unfold mayM; rw [decide_eq_false (by rw [← HNS.out]; exact hnode)]; rfl
    clear hb
    go_enter Tryz.func49, Tryz.ntmps49
    go_wp2_with fail
    rw [← hW0]
    clear hW0
    refine (sinr_f _ _ _ _ (by omega)).mono ?_
    rintro e w' ⟨rfl, rfl⟩
    go_wp2_with fail
    go_ret
    exact ⟨rfl, T0.out⟩
  case pos =>
    obtain ⟨k, rfl⟩ : ∃ k : Nat, node = k := ⟨node.toNat, by omega⟩
    have hk : k < ns := by omega
    obtain ⟨x, hx⟩ : ∃ z, arcM ls li k t = z := ⟨_, rfl⟩
    obtain ⟨y, hy⟩ : ∃ z, arcW ls li k = z := ⟨_, rfl⟩
    obtain ⟨pl, hpl⟩ : ∃ z, planeOf ls li k = z := ⟨_, rfl⟩
    have HB : Hid (lz.any (zoneHit pl x y) = b) := Lib.hid (by rw [← hb]; unfold mayM; rw [decide_eq_true (by rw [← HNS.out]; exact hnode), hx, hy, hpl]; rfl)
    have HX := Lib.hid hx; have HY := Lib.hid hy
    have HP : Hid (∀ wr, Below W0.heap.size W0 wr → ∃ ad : Addr, As = some ad ∧ wr.cell? (ad.add (k * 4)) = some (.int .i64 pl)) := Lib.hid fun wr hb => by
      obtain ⟨ad, hxx, e, had, q0, -⟩ := (H0.out.below hb HD.out).s.four hk
      refine ⟨ad, e, ?_⟩
      rcases node_cases ls li k with ⟨k', hk', e2, -, hp, -⟩ | ⟨k', hk', e2, -, hp, -⟩ | ⟨hr, -, hp, -⟩
      · obtain rfl : k = k' := by omega
        rw [← hpl, hp]; exact q0
      · have := HNS.out; omega
      · have := HNS.out; omega
    obtain ⟨ads, rfl, -⟩ := HP.out W0 (Below.refl _ _)
    replace HP : Hid (∀ wr, Below W0.heap.size W0 wr → wr.cell? (ads.add (k * 4)) = some (.int .i64 pl)) := Lib.hid fun wr hb => by
      obtain ⟨ad, e, h⟩ := HP.out wr hb
      injection e with e; rw [e]; exact h
    clear hb hx hy hpl
    go_enter Tryz.func49, Tryz.ntmps49
    go_wp2_with fail
    rw [← hW0]
    clear hW0
    refine (sinr_t _ _ _ _ (by omega) (by omega)).mono ?_
    rintro e w' ⟨rfl, rfl⟩
    go_wp2_with fail
    go_loopw [7] (fun iv wr => ∃ j : Nat, j ≤ nz ∧ iv = .int .i64 j ∧ (lz.take j).any (zoneHit pl x y) = false ∧ Below W0.heap.size W0 wr) (fun iv _ => nz - (intOf iv).toNat)
    case atStart => exact ⟨0, Nat.zero_le _, rfl, rfl, Below.refl _ _⟩
    case round =>
      obtain ⟨j, hj, rfl, hno, hbw⟩ := hrel
      have HNO := Lib.hid hno; have HBW := Lib.hid hbw
      clear hno hbw
      by_cases hlt : j < nz
      case neg =>
        obtain rfl : j = nz := by omega
        obtain rfl : false = b := by
          have h1 := HNO.out
          rw [HNZ.out, List.take_length] at h1
          exact h1.symm.trans HB.out
        obtain ⟨d0, d1, d2, d3, d4, d5, d6, d7, d8, d9⟩ := (S0.out.below HBW.out S0.out.lt).ten
        clear c0 c1 c2 c3 c4 c5 c6 c7 c8 c9
        go_wp2_with fail
        go_ret
        exact ⟨rfl, T0.out.trans (HBW.out.mono T0.out.size)⟩
      case pos =>
        obtain ⟨adz, hxx, rfl, had, -⟩ := (H0.out.below HBW.out HD.out).z.tri hlt
        have HANY := Lib.hid (any_taken lz (zoneHit pl x y) j hxx HNO.out)
        have HAT := Lib.hid (fun h => any_at2 (p := zoneHit pl x y) hxx h)
        have HZC : Hid (∀ wx, Below wr.heap.size wr wx → wx.cell? (adz.add (j * 3)) = some (.int .i64 lz[j].p) ∧ wx.cell? ⟨(adz.add (j * 3)).block, (adz.add (j * 3)).off + 1, none⟩ = some (.int .i64 lz[j].a) ∧ wx.cell? ⟨(adz.add (j * 3)).block, (adz.add (j * 3)).off + 2, none⟩ = some (.int .i64 lz[j].b)) := Lib.hid fun wx hb => by
          obtain ⟨ad', hx', e, had', q⟩ := (H0.out.below (HBW.out.trans (hb.mono HBW.out.size)) HD.out).z.tri hlt
          injection e with e; rw [e]; exact q
        obtain ⟨z, hz⟩ : ∃ z, z = lz[j] := ⟨_, rfl⟩
        rw [← hz] at HANY HAT HZC
        obtain ⟨p, za, zb⟩ := z
        simp only at HZC
        have HC : Hid (∀ wx, Below wr.heap.size wr wx → (wx.cell? ⟨w.heap.size, 0, none⟩ = some (.int .i64 P) ∧ wx.cell? ⟨w.heap.size, 1, none⟩ = some (.slice (some ads) ns cs) ∧ wx.cell? ⟨w.heap.size, 2, none⟩ = some (.slice Ai ni ci) ∧ wx.cell? ⟨w.heap.size, 3, none⟩ = some (.int .i64 R) ∧ wx.cell? ⟨w.heap.size, 4, none⟩ = some (.int .i64 X) ∧ wx.cell? ⟨w.heap.size, 5, none⟩ = some (.int .i64 V) ∧ wx.cell? ⟨w.heap.size, 6, none⟩ = some (.int .i64 U) ∧ wx.cell? ⟨w.heap.size, 7, none⟩ = some (.int .i64 D) ∧ wx.cell? ⟨w.heap.size, 8, none⟩ = some (.slice (some adz) nz cz) ∧ wx.cell? ⟨w.heap.size, 9, none⟩ = some (.int .i64 Q)) ∧ (wx.cell? (adz.add (j * 3)) = some (.int .i64 p) ∧ wx.cell? ⟨(adz.add (j * 3)).block, (adz.add (j * 3)).off + 1, none⟩ = some (.int .i64 za) ∧ wx.cell? ⟨(adz.add (j * 3)).block, (adz.add (j * 3)).off + 2, none⟩ = some (.int .i64 zb)) ∧ wx.cell? (ads.add (k * 4)) = some (.int .i64 pl)) := Lib.hid fun wx hb => by
          have hb2 := HBW.out.trans (hb.mono HBW.out.size)
          exact ⟨(S0.out.below hb2 S0.out.lt).ten, HZC.out wx hb, HP.out wx hb2⟩
        clear hz had HZC c0 c1 c2 c3 c4 c5 c6 c7 c8 c9
        by_cases hp : p = pl
        case neg =>
          have hz : zoneHit pl x y ⟨p, za, zb⟩ = false := by unfold zoneHit; rw [decide_eq_false hp]; rfl
          have HF := Lib.hid (HANY.out.trans hz)
          have hpb : (p == pl) = false := by simp [hp]
          clear hz HANY HAT
          obtain ⟨⟨c0, c1, c2, c3, c4, c5, c6, c7, c8, c9⟩, ⟨q0, q1, q2⟩, s0⟩ := HC.out wr (Below.refl _ _)
          go_wp2_with fail
          go_quiet (first | fail)
          go_wp2_with fail
          go_roundw
          case rel => exact ⟨j + 1, by omega, by go_num, HF.out, below_drawn HBW.out _⟩
          case measure => simp [intOf]; omega
        case pos =>
          subst hp
          obtain ⟨v, hv⟩ : ∃ v, meetA x y za zb = v := ⟨_, rfl⟩
          have hz : zoneHit p x y ⟨p, za, zb⟩ = v := by unfold zoneHit; rw [decide_eq_true rfl, meetA_comm]; exact hv
          have HZ := Lib.hid hz; have HV := Lib.hid hv
          clear hz hv
          have hc0 := HC.out wr (Below.refl _ _)
          have hj0 : (0 : Int) ≤ (j : Int) := by omega
          have hk0 : (0 : Int) ≤ (k : Int) := by omega
          have hjj : (j : Int) < (nz : Int) := by omega
          have hkk : (k : Int) < (ns : Int) := by omega
          go_upto_region 6 with fail
          go_region_held3 (fun wx => (wx.cell? ⟨w.heap.size, 0, none⟩ = some (.int .i64 P) ∧ wx.cell? ⟨w.heap.size, 1, none⟩ = some (.slice (some ads) ns cs) ∧ wx.cell? ⟨w.heap.size, 2, none⟩ = some (.slice Ai ni ci) ∧ wx.cell? ⟨w.heap.size, 3, none⟩ = some (.int .i64 R) ∧ wx.cell? ⟨w.heap.size, 4, none⟩ = some (.int .i64 X) ∧ wx.cell? ⟨w.heap.size, 5, none⟩ = some (.int .i64 V) ∧ wx.cell? ⟨w.heap.size, 6, none⟩ = some (.int .i64 U) ∧ wx.cell? ⟨w.heap.size, 7, none⟩ = some (.int .i64 D) ∧ wx.cell? ⟨w.heap.size, 8, none⟩ = some (.slice (some adz) nz cz) ∧ wx.cell? ⟨w.heap.size, 9, none⟩ = some (.int .i64 Q)) ∧ (wx.cell? (adz.add (j * 3)) = some (.int .i64 p) ∧ wx.cell? ⟨(adz.add (j * 3)).block, (adz.add (j * 3)).off + 1, none⟩ = some (.int .i64 za) ∧ wx.cell? ⟨(adz.add (j * 3)).block, (adz.add (j * 3)).off + 2, none⟩ = some (.int .i64 zb)) ∧ wx.cell? (ads.add (k * 4)) = some (.int .i64 p)) (first | with_reducible exact hc0 | with_reducible exact hcA | go_keep) (first
            | (go_at_call 87; refine (snodeat wr.drew P R X V U D Q ns ni nz ls li lz (some ads) cs Ai ci (some adz) cz D0 (H0.out.below HBW.out.drew HD.out) (Nat.le_trans HD.out HBW.out.size) hs hi k t HN.out x y HX.out HY.out).mono ?_; rintro e wA ⟨rfl, bA⟩; have HBA : Hid (Below wr.heap.size wr wA) := Lib.hid ((Below.refl _ _).drew.trans bA); have hcA := HC.out _ HBA.out; clear bA)
            | (go_at_call 86; refine (sameet wA x y za zb v HV.out).mono ?_; rintro e wB ⟨rfl, bB⟩; have HBB : Hid (Below wr.heap.size wr wB) := Lib.hid (HBA.out.trans (bB.mono HBA.out.size)); have hcA := HC.out _ HBB.out; clear bB))
          have B7 := Lib.hid (HBW.out.trans (HBB.out.mono HBW.out.size))
          clear hc0 hcA
          cases v
          · have HF := Lib.hid (HANY.out.trans HZ.out)
            go_wp2_with fail
            go_roundw
            case rel => exact ⟨j + 1, by omega, by go_num, HF.out, B7.out⟩
            case measure => simp [intOf]; omega
          · obtain rfl : true = b := (HAT.out HZ.out).symm.trans HB.out
            go_wp2_with fail
            go_ret
            exact ⟨rfl, T0.out.trans (B7.out.mono T0.out.size)⟩
theorem two_eq {n : Int} : (n == 2) = decide (n = 2) := by by_cases h : n = 2 <;> simp [h]
set_option maxRecDepth 100000 in
theorem sissure (w : World) (P R X V U D Q : Int) (ns ni nz : Nat) (ls : List Sat4) (li lz : List Tri) (As : Option Addr) (cs : Nat) (Ai : Option Addr) (ci : Nat) (Az : Option Addr) (cz : Nat) (D0 : Nat) (h : InSky w (D0) As ns cs Ai ni ci Az nz cz ls li lz) (hD : D0 ≤ w.heap.size) (hs : ns ≤ 16777216) (hi : ni ≤ 16777216) (hk1 : ∀ x ∈ ls, Ok4 x) (hk2 : ∀ x ∈ li, Ok3 x) (a b : Int) (ha : J64 a) (hb : J64 b) (t : Int) (v : Bool) (hv : decide (sightM P R X V ns ni ls li a b t = 2) = v) :
    Calls Tryz.prog 66 #[.agg #[.int .i64 P, .slice As ns cs, .slice Ai ni ci, .int .i64 R, .int .i64 X, .int .i64 V, .int .i64 U, .int .i64 D, .slice Az nz cz, .int .i64 Q], .int .i64 a, .int .i64 b, .int .i64 t] w (Tells w v) := by
  obtain ⟨W0, hW0⟩ : ∃ W, W = w.alloc (.cells #[.int .i64 P, .slice As ns cs, .slice Ai ni ci, .int .i64 R, .int .i64 X, .int .i64 V, .int .i64 U, .int .i64 D, .slice Az nz cz, .int .i64 Q] 28) := ⟨_, rfl⟩
  have T0 : Hid (Below w.heap.size w W0) := Lib.hid (by rw [hW0]; exact (Below.refl _ _).alloc (Nat.le_refl _) _)
  have S0 : Hid (Blk W0 w.heap.size 28 #[.int .i64 P, .slice As ns cs, .slice Ai ni ci, .int .i64 R, .int .i64 X, .int .i64 V, .int .i64 U, .int .i64 D, .slice Az nz cz, .int .i64 Q]) := Lib.hid (by rw [hW0]; exact Blk.new _ _ _)
  have H0 := Lib.hid (h.below T0.out hD)
  have HD : Hid (D0 ≤ W0.heap.size) := Lib.hid (Nat.le_trans hD T0.out.size)
  have HN := Lib.hid (And.intro ha hb); have HK := Lib.hid (And.intro hk1 hk2)
  obtain ⟨r, hr⟩ : ∃ r, sightM P R X V ns ni ls li a b t = r := ⟨_, rfl⟩
  have hrv : (r == 2) = v := by rw [two_eq, ← hr]; exact hv
  have HR := Lib.hid hr
  clear h hD ha hb hk1 hk2 hv hr
  obtain ⟨c0, c1, c2, c3, c4, c5, c6, c7, c8, c9⟩ := S0.out.ten
  go_enter Tryz.func66, Tryz.ntmps66
  go_wp2_with fail
  rw [← hW0]
  clear hW0
  go_wp2_with fail
  refine (ssight W0 P R X V U D Q ns ni nz ls li lz As cs Ai ci Az cz D0 H0.out HD.out hs hi HK.out.1 HK.out.2 a b HN.out.1 HN.out.2 t r HR.out).mono ?_
  rintro e w1 ⟨rfl, b1⟩
  have HF := Lib.hid (T0.out.trans (b1.mono T0.out.size))
  clear b1 c0 c1 c2 c3 c4 c5 c6 c7 c8 c9
  cases v
  · have h2 : ¬ r = 2 := by simpa using hrv
    go_wp2_with fail
    go_ret
    exact ⟨rfl, HF.out⟩
  · obtain rfl : r = 2 := by simpa using hrv
    go_wp2_with fail
    go_ret
    exact ⟨rfl, HF.out⟩
end Go.Proofs.YtanpenijmojbdaaGreatDoor
namespace Go.Proofs.YtanpenijmojbdaaGreatDoor
open Go.ChangeShapes Go.WideShapes Go.ChangeAt Go.RowKit
set_option linter.unusedVariables false
theorem loM_bd (f : Int) : 0 ≤ loM f ∧ loM f ≤ 1000 := by unfold loM; repeat' split <;> omega
theorem hiM_bd (t : Int) : 0 ≤ hiM t ∧ hiM t ≤ 1000 := by unfold hiM; repeat' split <;> omega
theorem sticks (f t : Int) (w : World) :
    Calls Tryz.prog 48 #[.int .i64 f, .int .i64 t] w fun e w' => e = .returned (.tuple #[.int .i64 (loM f), .int .i64 (hiM t)]) ∧ w = w' := by
  have e1 : mnf 1000 (mxf 0 f) = loM f := by unfold mnf mxf loM; repeat' split <;> omega
  have e2 : mxf 0 (mnf 1000 t) = hiM t := by unfold mnf mxf hiM; repeat' split <;> omega
  go_enter Tryz.func48, Tryz.ntmps48
  go_wp2_with fail
  refine (smax 0 f _).mono ?_
  rintro e w' ⟨rfl, rfl⟩
  go_wp2_with fail
  refine (smin 1000 (mxf 0 f) _).mono ?_
  rintro e w' ⟨rfl, rfl⟩
  rw [e1]
  go_wp2_with fail
  refine (smin 1000 t _).mono ?_
  rintro e w' ⟨rfl, rfl⟩
  go_wp2_with fail
  refine (smax 0 (mnf 1000 t) _).mono ?_
  rintro e w' ⟨rfl, rfl⟩
  rw [e2]
  go_wp2
  refine bodyPost_ret (v := .tuple #[.int .i64 (loM f), .int .i64 (hiM t)]) (by simp [results, Tryz.results48, go_sem]; try rfl) rfl ⟨rfl, rfl⟩
set_option maxRecDepth 100000 in
set_option maxHeartbeats 1000000 in
theorem ssurewin (w : World) (P R X V U D Q : Int) (ns ni nz : Nat) (ls : List Sat4) (li lz : List Tri) (As : Option Addr) (cs : Nat) (Ai : Option Addr) (ci : Nat) (Az : Option Addr) (cz : Nat) (a b : Int) (H : Int → Bool) (hT : ∀ wr, Below w.heap.size w wr → ∀ t : Int, Calls Tryz.prog 66 #[.agg #[.int .i64 P, .slice As ns cs, .slice Ai ni ci, .int .i64 R, .int .i64 X, .int .i64 V, .int .i64 U, .int .i64 D, .slice Az nz cz, .int .i64 Q], .int .i64 a, .int .i64 b, .int .i64 t] wr (Tells wr (H t))) (from_ till : Int) :
    Calls Tryz.prog 32 #[.agg #[.int .i64 P, .slice As ns cs, .slice Ai ni ci, .int .i64 R, .int .i64 X, .int .i64 V, .int .i64 U, .int .i64 D, .slice Az nz cz, .int .i64 Q], .int .i64 a, .int .i64 b, .int .i64 from_, .int .i64 till] w (GivesS w (winS H (loM from_) (hiM till))) := by
  obtain ⟨W0, hW0⟩ : ∃ W, W = (w.alloc (.cells #[.int .i64 P, .slice As ns cs, .slice Ai ni ci, .int .i64 R, .int .i64 X, .int .i64 V, .int .i64 U, .int .i64 D, .slice Az nz cz, .int .i64 Q] 28)).alloc (.cells #[] 61) := ⟨_, rfl⟩
  obtain ⟨g1, hg1⟩ : ∃ g, g = w.heap.size + 1 := ⟨_, rfl⟩
  have T0 : Hid (Below w.heap.size w W0) := Lib.hid (by rw [hW0]; exact ((Below.refl _ _).alloc (Nat.le_refl _) _).alloc (by simp) _)
  have S0 : Hid (Blk W0 w.heap.size 28 #[.int .i64 P, .slice As ns cs, .slice Ai ni ci, .int .i64 R, .int .i64 X, .int .i64 V, .int .i64 U, .int .i64 D, .slice Az nz cz, .int .i64 Q]) := Lib.hid (by rw [hW0]; exact (Blk.new _ _ _).alloc _)
  obtain ⟨l0, hl0⟩ : ∃ z : Nat, (z : Int) = loM from_ := ⟨(loM from_).toNat, by have := loM_bd from_; omega⟩
  obtain ⟨hi', hhi⟩ : ∃ z, hiM till = z := ⟨_, rfl⟩
  have hb1 := loM_bd from_; have hb2 := hiM_bd till
  rw [← hl0] at hb1; rw [hhi] at hb2
  have O0 : Hid (Own W0 g1 61 2 (some ⟨g1, 0, none⟩) 0 0 (sv (runs (setT H l0) l0))) := Lib.hid (by
    rw [runs_low H l0 l0 (Int.le_refl _), hW0, hg1]
    have h := Own.made0 (w.alloc (.cells #[.int .i64 P, .slice As ns cs, .slice Ai ni ci, .int .i64 R, .int .i64 X, .int .i64 V, .int .i64 U, .int .i64 D, .slice Az nz cz, .int .i64 Q] 28)) (w.heap.size + 1) 61 (by simp)
    simpa [sv] using h)
  have HT := Lib.hid hT; have HL := Lib.hid hl0; have HH := Lib.hid hhi
  have HB1 := Lib.hid hb1
  clear hT hl0 hhi
  obtain ⟨c0, c1, c2, c3, c4, c5, c6, c7, c8, c9⟩ := S0.out.ten
  go_enter Tryz.func32, Tryz.ntmps32
  go_wp2_with fail
  rw [← hW0, ← hg1]
  have hgw : w.heap.size < g1 := by omega
  have hgW : g1 < W0.heap.size := by rw [hW0, hg1]; simp
  clear hW0 hg1
  refine (sticks from_ till _).mono ?_
  rintro e w' ⟨rfl, rfl⟩
  rw [HH.out, ← HL.out]
  go_wp2_with fail
  go_loopw [11, 14] (fun v i wr => ∃ (t : Nat) (A1 : Option Addr) (n1 c1 : Nat), l0 ≤ t ∧ ((t : Int) ≤ hi' ∨ t = l0) ∧ i = .int .i64 t ∧ v = .slice A1 n1 c1 ∧ Own wr g1 61 2 A1 n1 c1 (sv (runs (setT H l0) t)) ∧ Below g1 W0 wr) (fun _ i _ => (hi' - intOf i).toNat)
  case atStart => exact ⟨l0, _, _, _, Nat.le_refl _, .inr rfl, rfl, rfl, O0.out, Below.refl _ _⟩
  case round =>
    clear O0 c0 c1 c2 c3 c4 c5 c6 c7 c8 c9
    obtain ⟨t, A1, n1, c1', hlt, hth, rfl, rfl, ho, hb⟩ := hrel
    have HO := Lib.hid ho; have HB := Lib.hid hb
    have BW := Lib.hid (T0.out.trans (hb.mono (Nat.le_of_lt hgw)))
    have hgr : g1 ≤ wr.heap.size := Nat.le_trans (Nat.le_of_lt hgW) hb.size
    clear ho hb
    obtain ⟨c0, c1, c2, c3, c4, c5, c6, c7, c8, c9⟩ := (S0.out.below HB.out hgw).ten
    by_cases hlh : (t : Int) < hi'
    case pos =>
      obtain ⟨v, hv⟩ : ∃ v, H (t : Int) = v := ⟨_, rfl⟩
      have HV := Lib.hid hv
      have HR := Lib.hid (runs_step H l0 t (by omega))
      have hn1 : n1 ≤ 1000 := by have h2 := HO.out.len; rw [sv_len] at h2; have := runs_len (setT H l0) t; omega
      clear hv
      go_wp2_with fail
      refine (HT.out wr BW.out t).mono ?_
      rw [HV.out]
      rintro e w2 ⟨rfl, b2⟩
      have O2 := Lib.hid (HO.out.on b2)
      have B2 := Lib.hid (HB.out.trans (b2.mono hgr))
      have hg2 : g1 ≤ w2.heap.size := Nat.le_trans hgr b2.size
      have BW2 := Lib.hid (BW.out.trans (b2.mono BW.out.size))
      clear b2 HO HB BW c0 c1 c2 c3 c4 c5 c6 c7 c8 c9
      cases v
      · have HF : Hid (Own w2 g1 61 2 A1 n1 c1' (sv (runs (setT H l0) (t + 1)))) := Lib.hid (by rw [HR.out, HV.out]; exact O2.out)
        go_wp2_with fail
        go_roundw
        case rel => exact ⟨t + 1, A1, n1, c1', by omega, .inl (by omega), by go_num, rfl, HF.out, B2.out⟩
        case measure => simp [intOf]; omega
      · go_wp2_with fail
        refine (sput w2 W0 g1 A1 n1 c1' _ O2.out hg2 B2.out (by omega) t (by omega) (by omega)).mono ?_
        rintro e w3 ⟨A3, n3, c3', rfl, o3, b3⟩
        have HF : Hid (Own w3 g1 61 2 A3 n3 c3' (sv (runs (setT H l0) (t + 1)))) := Lib.hid (by rw [HR.out, HV.out]; exact o3)
        have HB3 := Lib.hid b3
        clear o3 b3
        go_wp2
        go_roundw
        case rel => exact ⟨t + 1, A3, n3, c3', by omega, .inl (by omega), by go_num, rfl, HF.out, HB3.out⟩
        case measure => simp [intOf]; omega
    case neg =>
      have HF : Hid (GivesS w (winS H (loM from_) (hiM till)) (.returned (.slice A1 n1 c1')) wr) := Lib.hid ⟨_, _, _, rfl, by
        have e : runs (setT H l0) t = winS H (loM from_) (hiM till) := by
          rw [← HL.out, HH.out]
          unfold winS
          rcases hth with h | rfl
          · rw [show hi'.toNat = t by omega]
          · rw [runs_low H _ _ (Int.le_refl _), runs_low H _ _ (by omega)]
        rw [← e]; exact HO.out.fewer (Nat.le_of_lt hgw), BW.out⟩
      go_wp2
      go_ret
      exact HF.out
set_option maxRecDepth 100000 in
set_option maxHeartbeats 1000000 in
theorem squiet (w : World) (P R X V U D Q : Int) (ns ni nz : Nat) (ls : List Sat4) (li lz : List Tri) (As : Option Addr) (cs : Nat) (Ai : Option Addr) (ci : Nat) (Az : Option Addr) (cz : Nat) (a : Int) (H : Int → Bool) (hT : ∀ wr, Below w.heap.size w wr → ∀ t : Int, Calls Tryz.prog 49 #[.agg #[.int .i64 P, .slice As ns cs, .slice Ai ni ci, .int .i64 R, .int .i64 X, .int .i64 V, .int .i64 U, .int .i64 D, .slice Az nz cz, .int .i64 Q], .int .i64 a, .int .i64 t] wr (Tells wr (H t))) (from_ till : Int) :
    Calls Tryz.prog 18 #[.agg #[.int .i64 P, .slice As ns cs, .slice Ai ni ci, .int .i64 R, .int .i64 X, .int .i64 V, .int .i64 U, .int .i64 D, .slice Az nz cz, .int .i64 Q], .int .i64 a, .int .i64 from_, .int .i64 till] w (GivesS w (winS H (loM from_) (hiM till))) := by
  obtain ⟨W0, hW0⟩ : ∃ W, W = (w.alloc (.cells #[.int .i64 P, .slice As ns cs, .slice Ai ni ci, .int .i64 R, .int .i64 X, .int .i64 V, .int .i64 U, .int .i64 D, .slice Az nz cz, .int .i64 Q] 28)).alloc (.cells #[] 61) := ⟨_, rfl⟩
  obtain ⟨g1, hg1⟩ : ∃ g, g = w.heap.size + 1 := ⟨_, rfl⟩
  have T0 : Hid (Below w.heap.size w W0) := Lib.hid (by rw [hW0]; exact ((Below.refl _ _).alloc (Nat.le_refl _) _).alloc (by simp) _)
  have S0 : Hid (Blk W0 w.heap.size 28 #[.int .i64 P, .slice As ns cs, .slice Ai ni ci, .int .i64 R, .int .i64 X, .int .i64 V, .int .i64 U, .int .i64 D, .slice Az nz cz, .int .i64 Q]) := Lib.hid (by rw [hW0]; exact (Blk.new _ _ _).alloc _)
  obtain ⟨l0, hl0⟩ : ∃ z : Nat, (z : Int) = loM from_ := ⟨(loM from_).toNat, by have := loM_bd from_; omega⟩
  obtain ⟨hi', hhi⟩ : ∃ z, hiM till = z := ⟨_, rfl⟩
  have hb1 := loM_bd from_; have hb2 := hiM_bd till
  rw [← hl0] at hb1; rw [hhi] at hb2
  have O0 : Hid (Own W0 g1 61 2 (some ⟨g1, 0, none⟩) 0 0 (sv (runs (setT H l0) l0))) := Lib.hid (by
    rw [runs_low H l0 l0 (Int.le_refl _), hW0, hg1]
    have h := Own.made0 (w.alloc (.cells #[.int .i64 P, .slice As ns cs, .slice Ai ni ci, .int .i64 R, .int .i64 X, .int .i64 V, .int .i64 U, .int .i64 D, .slice Az nz cz, .int .i64 Q] 28)) (w.heap.size + 1) 61 (by simp)
    simpa [sv] using h)
  have HT := Lib.hid hT; have HL := Lib.hid hl0; have HH := Lib.hid hhi
  have HB1 := Lib.hid hb1
  clear hT hl0 hhi
  obtain ⟨c0, c1, c2, c3, c4, c5, c6, c7, c8, c9⟩ := S0.out.ten
  go_enter Tryz.func18, Tryz.ntmps18
  go_wp2_with fail
  rw [← hW0, ← hg1]
  have hgw : w.heap.size < g1 := by omega
  have hgW : g1 < W0.heap.size := by rw [hW0, hg1]; simp
  clear hW0 hg1
  refine (sticks from_ till _).mono ?_
  rintro e w' ⟨rfl, rfl⟩
  rw [HH.out, ← HL.out]
  go_wp2_with fail
  go_loopw [9, 12] (fun v i wr => ∃ (t : Nat) (A1 : Option Addr) (n1 c1 : Nat), l0 ≤ t ∧ ((t : Int) ≤ hi' ∨ t = l0) ∧ i = .int .i64 t ∧ v = .slice A1 n1 c1 ∧ Own wr g1 61 2 A1 n1 c1 (sv (runs (setT H l0) t)) ∧ Below g1 W0 wr) (fun _ i _ => (hi' - intOf i).toNat)
  case atStart => exact ⟨l0, _, _, _, Nat.le_refl _, .inr rfl, rfl, rfl, O0.out, Below.refl _ _⟩
  case round =>
    clear O0 c0 c1 c2 c3 c4 c5 c6 c7 c8 c9
    obtain ⟨t, A1, n1, c1', hlt, hth, rfl, rfl, ho, hb⟩ := hrel
    have HO := Lib.hid ho; have HB := Lib.hid hb
    have BW := Lib.hid (T0.out.trans (hb.mono (Nat.le_of_lt hgw)))
    have hgr : g1 ≤ wr.heap.size := Nat.le_trans (Nat.le_of_lt hgW) hb.size
    clear ho hb
    obtain ⟨c0, c1, c2, c3, c4, c5, c6, c7, c8, c9⟩ := (S0.out.below HB.out hgw).ten
    by_cases hlh : (t : Int) < hi'
    case pos =>
      obtain ⟨v, hv⟩ : ∃ v, H (t : Int) = v := ⟨_, rfl⟩
      have HV := Lib.hid hv
      have HR := Lib.hid (runs_step H l0 t (by omega))
      have hn1 : n1 ≤ 1000 := by have h2 := HO.out.len; rw [sv_len] at h2; have := runs_len (setT H l0) t; omega
      clear hv
      go_wp2_with fail
      refine (HT.out wr BW.out t).mono ?_
      rw [HV.out]
      rintro e w2 ⟨rfl, b2⟩
      have O2 := Lib.hid (HO.out.on b2)
      have B2 := Lib.hid (HB.out.trans (b2.mono hgr))
      have hg2 : g1 ≤ w2.heap.size := Nat.le_trans hgr b2.size
      have BW2 := Lib.hid (BW.out.trans (b2.mono BW.out.size))
      clear b2 HO HB BW c0 c1 c2 c3 c4 c5 c6 c7 c8 c9
      cases v
      · have HF : Hid (Own w2 g1 61 2 A1 n1 c1' (sv (runs (setT H l0) (t + 1)))) := Lib.hid (by rw [HR.out, HV.out]; exact O2.out)
        go_wp2_with fail
        go_roundw
        case rel => exact ⟨t + 1, A1, n1, c1', by omega, .inl (by omega), by go_num, rfl, HF.out, B2.out⟩
        case measure => simp [intOf]; omega
      · go_wp2_with fail
        refine (sput w2 W0 g1 A1 n1 c1' _ O2.out hg2 B2.out (by omega) t (by omega) (by omega)).mono ?_
        rintro e w3 ⟨A3, n3, c3', rfl, o3, b3⟩
        have HF : Hid (Own w3 g1 61 2 A3 n3 c3' (sv (runs (setT H l0) (t + 1)))) := Lib.hid (by rw [HR.out, HV.out]; exact o3)
        have HB3 := Lib.hid b3
        clear o3 b3
        go_wp2
        go_roundw
        case rel => exact ⟨t + 1, A3, n3, c3', by omega, .inl (by omega), by go_num, rfl, HF.out, HB3.out⟩
        case measure => simp [intOf]; omega
    case neg =>
      have HF : Hid (GivesS w (winS H (loM from_) (hiM till)) (.returned (.slice A1 n1 c1')) wr) := Lib.hid ⟨_, _, _, rfl, by
        have e : runs (setT H l0) t = winS H (loM from_) (hiM till) := by
          rw [← HL.out, HH.out]
          unfold winS
          rcases hth with h | rfl
          · rw [show hi'.toNat = t by omega]
          · rw [runs_low H _ _ (Int.le_refl _), runs_low H _ _ (by omega)]
        rw [← e]; exact HO.out.fewer (Nat.le_of_lt hgw), BW.out⟩
      go_wp2
      go_ret
      exact HF.out
set_option maxRecDepth 100000 in
set_option maxHeartbeats 2000000 in
theorem sspeaking (w : World) (P R X V U D Q : Int) (ns ni nz : Nat) (ls : List Sat4) (li lz : List Tri) (As : Option Addr) (cs : Nat) (Ai : Option Addr) (ci : Nat) (Az : Option Addr) (cz : Nat) (D0 : Nat) (h : InSky w (D0) As ns cs Ai ni ci Az nz cz ls li lz) (hD : D0 ≤ w.heap.size) (hs : ns ≤ 16777216) (hi : ni ≤ 16777216) (hz : nz ≤ 16777216) (hk1 : ∀ x ∈ ls, Ok4 x) (hk2 : ∀ x ∈ li, Ok3 x) (a b : Int) (ha : J64 a) (hb : J64 b)
    (from_ till : Int) (H Qa Qb : Int → Bool) (hH : ∀ t, decide (sightM P R X V ns ni ls li a b t = 2) = H t) (hQa : ∀ t, mayM ls li lz a t = Qa t) (hQb : ∀ t, mayM ls li lz b t = Qb t) :
    Calls Tryz.prog 9 #[.agg #[.int .i64 P, .slice As ns cs, .slice Ai ni ci, .int .i64 R, .int .i64 X, .int .i64 V, .int .i64 U, .int .i64 D, .slice Az nz cz, .int .i64 Q], .int .i64 a, .int .i64 b, .int .i64 from_, .int .i64 till] w (GivesS w (spkS H Qa Qb from_ till)) := by
  obtain ⟨W0, hW0⟩ : ∃ W, W = w.alloc (.cells #[.int .i64 P, .slice As ns cs, .slice Ai ni ci, .int .i64 R, .int .i64 X, .int .i64 V, .int .i64 U, .int .i64 D, .slice Az nz cz, .int .i64 Q] 28) := ⟨_, rfl⟩
  have T0 : Hid (Below w.heap.size w W0) := Lib.hid (by rw [hW0]; exact (Below.refl _ _).alloc (Nat.le_refl _) _)
  have S0 : Hid (Blk W0 w.heap.size 28 #[.int .i64 P, .slice As ns cs, .slice Ai ni ci, .int .i64 R, .int .i64 X, .int .i64 V, .int .i64 U, .int .i64 D, .slice Az nz cz, .int .i64 Q]) := Lib.hid (by rw [hW0]; exact Blk.new _ _ _)
  have H0 := Lib.hid (h.below T0.out hD)
  have HD : Hid (D0 ≤ W0.heap.size) := Lib.hid (Nat.le_trans hD T0.out.size)
  have HN := Lib.hid (And.intro ha hb)
  have HC : Hid (∀ wr, Below W0.heap.size W0 wr → (wr.cell? ⟨w.heap.size, 0, none⟩ = some (.int .i64 P) ∧ wr.cell? ⟨w.heap.size, 1, none⟩ = some (.slice As ns cs) ∧ wr.cell? ⟨w.heap.size, 2, none⟩ = some (.slice Ai ni ci) ∧ wr.cell? ⟨w.heap.size, 3, none⟩ = some (.int .i64 R) ∧ wr.cell? ⟨w.heap.size, 4, none⟩ = some (.int .i64 X) ∧ wr.cell? ⟨w.heap.size, 5, none⟩ = some (.int .i64 V) ∧ wr.cell? ⟨w.heap.size, 6, none⟩ = some (.int .i64 U) ∧ wr.cell? ⟨w.heap.size, 7, none⟩ = some (.int .i64 D) ∧ wr.cell? ⟨w.heap.size, 8, none⟩ = some (.slice Az nz cz) ∧ wr.cell? ⟨w.heap.size, 9, none⟩ = some (.int .i64 Q))) := Lib.hid fun wr hb => (S0.out.below hb S0.out.lt).ten
  have HSW : Hid (∀ wr, Below W0.heap.size W0 wr → Calls Tryz.prog 32 #[.agg #[.int .i64 P, .slice As ns cs, .slice Ai ni ci, .int .i64 R, .int .i64 X, .int .i64 V, .int .i64 U, .int .i64 D, .slice Az nz cz, .int .i64 Q], .int .i64 a, .int .i64 b, .int .i64 from_, .int .i64 till] wr (GivesS wr (winS H (loM from_) (hiM till)))) := Lib.hid fun wr hb =>
    ssurewin wr P R X V U D Q ns ni nz ls li lz As cs Ai ci Az cz a b H (fun wx hx t => by
      have hb2 := hb.trans (hx.mono hb.size)
      exact sissure wx P R X V U D Q ns ni nz ls li lz As cs Ai ci Az cz D0 (H0.out.below hb2 HD.out) (Nat.le_trans HD.out hb2.size) hs hi hk1 hk2 a b HN.out.1 HN.out.2 t _ (hH t)) from_ till
  have HQ : Hid (∀ (c : Int) (Q' : Int → Bool), J64 c → (∀ t, mayM ls li lz c t = Q' t) → ∀ wr, Below W0.heap.size W0 wr → Calls Tryz.prog 18 #[.agg #[.int .i64 P, .slice As ns cs, .slice Ai ni ci, .int .i64 R, .int .i64 X, .int .i64 V, .int .i64 U, .int .i64 D, .slice Az nz cz, .int .i64 Q], .int .i64 c, .int .i64 from_, .int .i64 till] wr (GivesS wr (winS Q' (loM from_) (hiM till)))) := Lib.hid fun c Q' hc hq wr hb =>
    squiet wr P R X V U D Q ns ni nz ls li lz As cs Ai ci Az cz c Q' (fun wx hx t => by
      have hb2 := hb.trans (hx.mono hb.size)
      exact smay wx P R X V U D Q ns ni nz ls li lz As cs Ai ci Az cz D0 (H0.out.below hb2 HD.out) (Nat.le_trans HD.out hb2.size) hs hi hz c t hc _ (hq t)) from_ till
  have HQQ := Lib.hid (And.intro hQa hQb)
  clear h ha hb hH hQa hQb hD hk1 hk2
  have hc0 := HC.out W0 (Below.refl _ _)
  go_enter Tryz.func9, Tryz.ntmps9
  go_wp2_with fail
  rw [← hW0]
  clear hW0
  go_region_held3 (fun wr => (wr.cell? ⟨w.heap.size, 0, none⟩ = some (.int .i64 P) ∧ wr.cell? ⟨w.heap.size, 1, none⟩ = some (.slice As ns cs) ∧ wr.cell? ⟨w.heap.size, 2, none⟩ = some (.slice Ai ni ci) ∧ wr.cell? ⟨w.heap.size, 3, none⟩ = some (.int .i64 R) ∧ wr.cell? ⟨w.heap.size, 4, none⟩ = some (.int .i64 X) ∧ wr.cell? ⟨w.heap.size, 5, none⟩ = some (.int .i64 V) ∧ wr.cell? ⟨w.heap.size, 6, none⟩ = some (.int .i64 U) ∧ wr.cell? ⟨w.heap.size, 7, none⟩ = some (.int .i64 D) ∧ wr.cell? ⟨w.heap.size, 8, none⟩ = some (.slice Az nz cz) ∧ wr.cell? ⟨w.heap.size, 9, none⟩ = some (.int .i64 Q))) (first | with_reducible exact hc0 | with_reducible exact hcA | go_keep) (first
    | (go_at_call 32; refine (HSW.out W0.drew (Below.refl _ _).drew).mono ?_; rintro e wA ⟨A1, n1, c1, rfl, oA, bA⟩; have HBA : Hid (Below W0.heap.size W0 wA) := Lib.hid ((Below.refl _ _).drew.trans bA); have hcA := HC.out _ HBA.out; have SA := Lib.hid oA.sl; clear oA bA)
    | (go_at_call 18; refine (HQ.out a Qa HN.out.1 HQQ.out.1 wA HBA.out).mono ?_; rintro e wB ⟨A2, n2, c2, rfl, oB, bB⟩; have HBB : Hid (Below W0.heap.size W0 wB) := Lib.hid (HBA.out.trans (bB.mono HBA.out.size)); have hcA := HC.out _ HBB.out; have SA2 := Lib.hid (SA.out.below bB (Nat.le_refl _)); have SB := Lib.hid oB.sl; have HAB : Hid (wA.heap.size ≤ wB.heap.size) := Lib.hid bB.size; clear oB bB)
    | (go_at_call 31; refine (scut wB wA.heap.size wB.heap.size A1 A2 n1 n2 c1 c2 (winS H (loM from_) (hiM till)) (winS Qa (loM from_) (hiM till)) SA2.out SB.out HAB.out (Nat.le_refl _)).mono ?_; rintro e wC ⟨A3, n3, c3, rfl, oC, bC⟩; have HBC : Hid (Below W0.heap.size W0 wC) := Lib.hid (HBB.out.trans (bC.mono HBB.out.size)); have hcA := HC.out _ HBC.out; have SC := Lib.hid oC.sl; clear oC bC))
  have B3 := Lib.hid HBC.out
  clear hc0 hcA
  obtain ⟨d0, d1, d2, d3, d4, d5, d6, d7, d8, d9⟩ := HC.out _ HBC.out
  go_wp2_with fail
  refine (HQ.out b Qb HN.out.2 HQQ.out.2 wC B3.out).mono ?_
  rintro e w4 ⟨A4, n4, c4, rfl, o4, b4⟩
  have S4 := Lib.hid o4.sl
  have SC4 := Lib.hid (SC.out.below b4 (Nat.le_refl _))
  have B4 := Lib.hid (B3.out.trans (b4.mono B3.out.size))
  have HS4 : Hid (wC.heap.size ≤ w4.heap.size) := Lib.hid b4.size
  clear o4 b4 d0 d1 d2 d3 d4 d5 d6 d7 d8 d9
  go_wp2_with fail
  refine (scut w4 wC.heap.size w4.heap.size A3 A4 n3 n4 c3 c4 (cutOf (winS H (loM from_) (hiM till)) (winS Qa (loM from_) (hiM till))) (winS Qb (loM from_) (hiM till)) SC4.out S4.out HS4.out (Nat.le_refl _)).mono ?_
  rintro e w5 ⟨A5, n5, c5, rfl, o5, b5⟩
  have HG : Hid (GivesS w (spkS H Qa Qb from_ till) (.returned (.slice A5 n5 c5)) w5) := Lib.hid ⟨_, _, _, rfl, o5.fewer (Nat.le_trans T0.out.size B4.out.size), T0.out.trans ((B4.out.trans (b5.mono B4.out.size)).mono T0.out.size)⟩
  clear o5 b5
  go_wp2
  go_ret
  exact HG.out
end Go.Proofs.YtanpenijmojbdaaGreatDoor
