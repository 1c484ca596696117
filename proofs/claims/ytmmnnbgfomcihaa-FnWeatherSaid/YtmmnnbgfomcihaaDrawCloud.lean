/- The draws of clouds and of a plan with clouds. -/
import Derived.Test.YtmmnnbgfomcihaaDrawCon
import Derived.Test.YtmmnnbgfomcihaaDrawSpans
import Derived.Test.YtmmnnbgfomcihaaApart
import Derived.Test.YtmmnnbgfomcihaaCloudFacts
import Derived.Deep.RegionHeld3
namespace Go.Proofs.Ytmmnnbgfomcihaa
open Go.ChangeShapes Go.WideShapes Go.ChangeAt Go.RowKit
set_option linter.unusedVariables false
theorem cld_info : (Try.prog.info? 67).map (fun i => (i.zero, i.size, i.bytes)) = some (some (.agg #[.int .i64 0, .int .i64 0, .int .i64 0]), 3, 24) := by kernel_rfl
theorem Own.made3 (w : World) (B : Nat) (E : TypeId) (hB : B ≤ w.heap.size) : Own (w.alloc (.cells #[] E)) B E 3 (some ⟨w.heap.size, 0, none⟩) 0 0 [] := ⟨World.ownsRow_made w #[] 0 hB (by unfold maxLen; omega) rfl⟩
/-- clouds of one's own, as a value -/
def OwnClouds (B : Nat) (e : Ending) (w' : World) : Prop := ∃ (A' : Option Addr) (n' c' : Nat) (l : List Tri), e = .returned (.slice A' n' c') ∧ n' ≤ 4 ∧ Own w' B 67 3 A' n' c' (fl c3 l)
set_option maxRecDepth 100000 in
set_option maxHeartbeats 1600000 in
theorem dclouds (w : World) (p : Nat) (A : Option Addr) (cap : Nat) (xs : List Value) (hc : Cur w p A cap xs) :
    Calls Try.prog 34 #[.pointer (some ⟨p, 0, none⟩)] w fun e w' => OwnClouds w.heap.size e w' ∧ Cur w' p A cap xs ∧ Turn p w w' := by
  obtain ⟨i0, hi, hy0, hy1, hy2⟩ := info_parts cld_info
  have hp := hc.lt
  have H0 : Hid (Own (w.alloc (.cells #[] 67)) w.heap.size 67 3 (some ⟨w.heap.size, 0, none⟩) 0 0 (fl c3 [])) := Lib.hid (Own.made3 w w.heap.size _ (Nat.le_refl _))
  have HC0 := Lib.hid (hc.alloc (.cells #[] 67))
  have HT0 := Lib.hid ((Turn.refl p w).alloc (.cells #[] 67))
  clear hc
  go_enter Try.func34, Try.ntmps34
  go_wp2_with fail
  refine (dbelow _ _ _ _ _ _ HC0.out (by omega)).mono ?_
  rintro e w1 ⟨⟨x, hx, rfl⟩, hc1, ht1⟩
  have hx5 := hx.1 (by omega); clear hx
  have H1 := Lib.hid (H0.out.turn ht1 hp); have HC1 := Lib.hid hc1; have HT1 := Lib.hid (HT0.out.trans ht1)
  clear hc1 ht1 H0 HC0 HT0
  go_wp2_with fail
  go_loopw [3, 4] (fun v i wr => ∃ (k j : Nat) (A1 : Option Addr) (c1 : Nat) (l : List Tri), k + j = x ∧ i = .int .i64 j ∧ v = .slice A1 k c1 ∧ Own wr w.heap.size 67 3 A1 k c1 (fl c3 l) ∧ Cur wr p A cap xs ∧ Turn p w wr) (fun _ i _ => (intOf i).toNat)
  case atStart => exact ⟨0, x, _, _, [], by omega, rfl, rfl, H1.out, HC1.out, HT1.out⟩
  case round =>
    clear H1 HC1 HT1
    obtain ⟨k, j, A1, c1, l, hkj, rfl, rfl, ho, hc, ht⟩ := hrel
    have HO := Lib.hid ho; have HC := Lib.hid hc; have HT := Lib.hid ht
    clear ho hc ht
    by_cases hlt : 0 < j
    case neg =>
      obtain rfl : j = 0 := by omega
      have HF : Hid (OwnClouds w.heap.size (.returned (.slice A1 k c1)) wr) := Lib.hid ⟨A1, k, c1, l, rfl, by omega, HO.out⟩
      clear HO
      go_wp2
      go_ret
      exact ⟨HF.out, HC.out, HT.out⟩
    case pos =>
      obtain ⟨j, rfl⟩ : ∃ j', j = j' + 1 := ⟨j - 1, by omega⟩
      go_wp2_with fail
      refine (dany _ _ _ _ _ HC.out).mono ?_
      rintro e w4 ⟨⟨a, b, rfl⟩, hc4, ht4⟩
      obtain ⟨W5, hW5⟩ : ∃ W, W = w4.alloc (.cells #[.int .i64 a, .int .i64 b] 60) := ⟨_, rfl⟩
      obtain ⟨g, hg⟩ : ∃ g, g = w4.heap.size := ⟨_, rfl⟩
      have b5 : Below w4.heap.size w4 W5 := by rw [hW5]; exact (Below.refl w4.heap.size w4).alloc (Nat.le_refl _) _
      have HO5 := Lib.hid ((HO.out.turn ht4 hp).on b5)
      have HC5 : Hid (Cur W5.drew p A cap xs) := Lib.hid (by rw [hW5]; exact hc4.alloc _)
      have HT5 : Hid (Turn p w W5) := Lib.hid (by rw [hW5]; exact (HT.out.trans ht4).alloc _)
      have Z5 : Hid (Blk W5 g 60 #[.int .i64 a, .int .i64 b]) := Lib.hid (by rw [hW5, hg]; exact Blk.new _ _ _)
      have hgp : Hid (g ≠ p ∧ w.heap.size ≤ g ∧ g < W5.heap.size) := Lib.hid ⟨by have := hc4.lt; omega, by rw [hg]; exact (HT.out.trans ht4).size, Z5.out.lt⟩
      have HNA : Hid (NotAt g A1) := Lib.hid ((HO.out.turn ht4 hp).notAt (by rw [hg]; exact Nat.le_refl _))
      have c0 : W5.cell? ⟨g, 0, none⟩ = some (.int .i64 a) := Z5.out.cell 0
      have c1' : W5.cell? ⟨g, 1, none⟩ = some (.int .i64 b) := Z5.out.cell 1
      go_wp2_with fail
      rw [← hW5, ← hg]
      clear hW5 hg b5 hc4 ht4 HO HC HT
      go_region_held3 (fun w' => w'.cell? ⟨g, 0, none⟩ = some (.int .i64 a) ∧ w'.cell? ⟨g, 1, none⟩ = some (.int .i64 b)) (first | exact ⟨c0, c1'⟩ | exact hcA | exact hc6 | go_keep) (first
        | (go_at_call 58; refine (dbelow W5.drew _ _ _ _ _ HC5.out (by omega)).mono ?_; rintro e wA ⟨⟨z, hz, rfl⟩, kA, uA'⟩; have uA : Turn p W5 wA := ((Turn.refl p W5).drew).trans uA'; have hcA : wA.cell? ⟨g, 0, none⟩ = some (.int .i64 a) ∧ wA.cell? ⟨g, 1, none⟩ = some (.int .i64 b) := ⟨(uA.blk Z5.out hgp.out.1).cell 0, (uA.blk Z5.out hgp.out.1).cell 1⟩; have ZA := Lib.hid (uA.blk Z5.out hgp.out.1); have HOA := Lib.hid ((HO5.out.turn uA hp).on ((Below.refl wA.heap.size wA).alloc (Nat.le_refl _) (.cells #[.int .i64 (z : Int), .int .i64 a, .int .i64 b] 67))); have HCA := Lib.hid (kA.alloc (.cells #[.int .i64 (z : Int), .int .i64 a, .int .i64 b] 67)); have HTA := Lib.hid ((HT5.out.trans uA).alloc (.cells #[.int .i64 (z : Int), .int .i64 a, .int .i64 b] 67)); have hszA : w.heap.size ≤ wA.heap.size := (HT5.out.trans uA).size; clear hz kA uA uA')
        | (refine step_append_sl _ (by rfl) _ _ 25 (by rfl) w.heap.size 67 i0 _ 3 24 Try.underlying25 hi hy0 hy1 hy2 rfl (by omega) A1 k c1 (fl c3 l) (by rfl) HOA.out (wA.heap.size + 1) _ 1 1 [.int .i64 (z : Int), .int .i64 a, .int .i64 b] (by rfl) (Sl.one3 wA _ _ _ _) (by simp [Value.oneCell']) (by omega) (by omega) (by simp; omega) ?_; intro A3 c3' w6 hown3 hg3 hat3; have HF : Hid (Own w6 w.heap.size 67 3 A3 (k + 1) c3' (fl c3 (l ++ [⟨(z : Int), a, b⟩])) ∧ Cur w6 p A cap xs ∧ Turn p w w6) := Lib.hid ⟨(by rw [fl_app]; exact hown3), HCA.out.grown HOA.out hp hg3, HTA.out.grown HOA.out hg3⟩; have Z6 := (ZA.out.alloc (.cells #[.int .i64 (z : Int), .int .i64 a, .int .i64 b] 67)).grown' HNA.out hg3; have hc6 : w6.cell? ⟨g, 0, none⟩ = some (.int .i64 a) ∧ w6.cell? ⟨g, 1, none⟩ = some (.int .i64 b) := ⟨Z6.cell 0, Z6.cell 1⟩; clear hown3 hg3 hat3 Z6))
      go_wp2_with fail
      go_roundw
      case rel => exact ⟨k + 1, j, A3, c3', _, by omega, by go_num, rfl, HF.out⟩
      case measure => simp [intOf]
/-- a plan and clouds of one's own, as a pair -/
def OwnCut (B : Nat) (e : Ending) (w' : World) : Prop := ∃ (A1 : Option Addr) (n1 c1 : Nat) (l1 : List Sat4) (A2 : Option Addr) (n2 c2 : Nat) (l2 : List Tri),
  e = .returned (.tuple #[.slice A1 n1 c1, .slice A2 n2 c2]) ∧ n1 ≤ 801 ∧ n2 ≤ 4 ∧ Own w' B 57 4 A1 n1 c1 (fl c4 l1) ∧ Own w' B 67 3 A2 n2 c2 (fl c3 l2) ∧ ∀ x ∈ l1, J64 x.p ∧ J64 x.h
set_option maxRecDepth 100000 in
theorem drawcutc (w : World) (A : Option Addr) (cap : Nat) (xs : List Value) (hB : Bytes xs) (hn : xs.length ≤ 1048576) (hR : Reads w w.heap.size A xs) :
    Calls Try.prog 9 #[.slice A xs.length cap] w fun e w' => OwnCut w.heap.size e w' ∧ Below w.heap.size w w' := by
  have HR := Lib.hid hR
  go_enter Try.func9, Try.ntmps9
  go_wp2_with fail
  refine (dnew _ _ _ _ hB hn HR.out).mono ?_
  rintro e w1 ⟨⟨p, hp, rfl, hc⟩, hb⟩
  have B1 := Lib.hid hb; have K1 := Lib.hid hc
  have hp1 : p < w1.heap.size := hc.lt
  clear hb hc
  go_wp2_with fail
  refine (dany11 _ _ _ _ _ K1.out).mono ?_
  rintro e w2 ⟨⟨A1, n1, c1, l, rfl, hn1, ho, hj⟩, k1, u1⟩
  have HJ := Lib.hid hj; clear hj
  have HO2 := Lib.hid ho; have K2 := Lib.hid k1; have B2 := Lib.hid (B1.out.trans ((u1.below hp1).mono hp))
  have hs2 : w1.heap.size ≤ w2.heap.size := u1.size
  clear ho k1 u1 K1
  go_wp2_with fail
  refine (dclouds _ _ _ _ _ K2.out).mono ?_
  rintro e w3 ⟨⟨A2, n2, c2, l2, rfl, hn2, ho⟩, k1, u1⟩
  have HO3 := Lib.hid (HO2.out.turn u1 hp1); have HP3 := Lib.hid ho; have B3 := Lib.hid (B2.out.trans ((u1.below K2.out.lt).mono hp))
  clear ho k1 u1 K2 HO2
  go_wp2
  go_ret2
  exact ⟨⟨A1, n1, c1, l, A2, n2, c2, l2, rfl, hn1, hn2, HO3.out.fewer (by have := B1.out.size; omega), HP3.out.fewer (by have := B1.out.size; omega), HJ.out⟩, B3.out⟩
end Go.Proofs.Ytmmnnbgfomcihaa
