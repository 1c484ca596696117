/- The program's windows of a list of spans, contactsBetween, ContactsOf and PlanOf. -/
import Derived.Test.YtlaigbhiligceaaGreatDoorContact
import Derived.Test.YtlaigbhiligceaaGreatDoorErrAs
import Derived.Test.YtlaigbhiligceaaGreatDoorSpeak
import Derived.Test.YtlaigbhiligceaaGreatDoorIsSky2
import Derived.Test.YtlaigbhiligceaaGreatDoorShorten
import Derived.Test.YtlaigbhiligceaaGreatDoorApart
import Derived.Deep.RegionHeld3
namespace Go.Proofs.YtlaigbhiligceaaGreatDoor
open Go.ChangeShapes Go.WideShapes Go.ChangeAt Go.RowKit
set_option linter.unusedVariables false
theorem iwin (w : World) (g1 g2 : Nat) (m M : Int) (T1 T2 : TypeId) (h1 : Blk w g1 T1 #[.int .i64 m]) (h2 : Blk w g2 T2 #[.int .i64 M]) (f t : Int) :
    Calls Tryz.prog 74 #[.agg #[.int .i64 f, .int .i64 t], .pointer (some ⟨g1, 0, none⟩), .pointer (some ⟨g2, 0, none⟩)] w fun e w' => e = .returned (.agg #[.int .i64 m, .int .i64 M, .int .i64 f, .int .i64 t]) ∧ Below w.heap.size w w' := by
  have b0 : Below w.heap.size w ((w.alloc (.cells #[.int .i64 f, .int .i64 t] 83)).alloc (.cells #[.int .i64 0, .int .i64 0, .int .i64 0, .int .i64 0] 34)) := ((Below.refl _ _).alloc (Nat.le_refl _) _).alloc (by simp) _
  have c1 : ((w.alloc (.cells #[.int .i64 f, .int .i64 t] 83)).alloc (.cells #[.int .i64 0, .int .i64 0, .int .i64 0, .int .i64 0] 34)).cell? ⟨g1, 0, none⟩ = some (.int .i64 m) := (h1.below b0 h1.lt).cell 0
  have c2 : ((w.alloc (.cells #[.int .i64 f, .int .i64 t] 83)).alloc (.cells #[.int .i64 0, .int .i64 0, .int .i64 0, .int .i64 0] 34)).cell? ⟨g2, 0, none⟩ = some (.int .i64 M) := (h2.below b0 h2.lt).cell 0
  clear h1 h2 b0
  go_enter Tryz.func74, Tryz.ntmps74
  go_wp2
  (try simp only [Exit.inBlock, Exit.then])
  refine bodyPost_ret (v := .agg #[.int .i64 m, .int .i64 M, .int .i64 f, .int .i64 t]) (by simp [results, Tryz.results74, go_sem]; try rfl) rfl ⟨rfl, ?_⟩
  exact ((Below.refl _ _).alloc (Nat.le_refl _) _).alloc (by simp) _
/-- a contact of two nodes at a span -/
def conAt (m M : Int) (p : Int × Int) : Sat4 := ⟨m, M, p.1, p.2⟩
theorem conAt_take (m M : Int) (l : List (Int × Int)) (k : Nat) (hk : k < l.length) : fl c4 ((l.take (k + 1)).map (conAt m M)) = fl c4 ((l.take k).map (conAt m M)) ++ [.int .i64 m, .int .i64 M, .int .i64 l[k].1, .int .i64 l[k].2] := by
  rw [List.take_succ_eq_append_getElem hk, List.map_append, fl_app]; rfl
set_option maxRecDepth 100000 in
set_option maxHeartbeats 1000000 in
theorem iwindows (w : World) (D : Nat) (A : Option Addr) (n c : Nat) (l : List (Int × Int)) (h : Sl w D 2 A n c (sv l)) (hD : D ≤ w.heap.size) (hn : n ≤ 100000) (g1 g2 : Nat) (m M : Int) (T1 T2 : TypeId) (h1 : Blk w g1 T1 #[.int .i64 m]) (h2 : Blk w g2 T2 #[.int .i64 M]) :
    Calls Tryz.prog 73 #[.slice A n c, .func (.func 74) #[] #[.pointer (some ⟨g1, 0, none⟩), .pointer (some ⟨g2, 0, none⟩)]] w (GivesC w (l.map (conAt m M))) := by
  obtain ⟨i0, hi, hz0, hz1, hz2⟩ := info_parts contact_info
  have hlen := h.len
  rw [sv_len] at hlen
  obtain rfl : n = l.length := by omega
  clear hlen
  have hcap := h.cap; have hcapm := h.capm
  have HS := Lib.hid h; have H1 := Lib.hid h1; have H2 := Lib.hid h2
  clear h h1 h2
  go_enter Tryz.func73, Tryz.ntmps73
  go_wp2_with (at_make; refine wpList_make_own _ rfl _ _ 31 rfl w.heap.size 34 i0 (.agg #[.int .i64 0, .int .i64 0, .int .i64 0, .int .i64 0]) 4 Tryz.underlying31 hi hz0 hz1 .i64 .i64 _ l.length rfl rfl rfl (by rw [hz2]; omega) (by unfold maxLen; omega) (Nat.le_refl _) ?_; intro w1 hown hgrow)
  have hfirst : Hid (Own w1 w.heap.size 34 4 (some ⟨w.heap.size, 0, none⟩) 0 l.length (fl c4 ((l.take 0).map (conAt m M))) ∧ Below w.heap.size w w1) := Lib.hid ⟨⟨hown⟩, (Below.refl _ _).grown hgrow (Nat.le_refl _) (fun k hk => by cases hk)⟩
  clear hown hgrow
  go_loopw [5, 13] (fun v i wr => ∃ (k : Nat) (A1 : Option Addr) (c1 : Nat), k ≤ l.length ∧ i = .int .i64 k ∧ v = .slice A1 k c1 ∧ Own wr w.heap.size 34 4 A1 k c1 (fl c4 ((l.take k).map (conAt m M))) ∧ Below w.heap.size w wr) (fun _ i _ => l.length - (intOf i).toNat)
  case atStart => exact ⟨0, _, _, Nat.zero_le _, rfl, rfl, hfirst.out⟩
  case round =>
    clear hfirst
    obtain ⟨k, A1, c1, hk, rfl, rfl, ho, hb⟩ := hrel
    have HO := Lib.hid ho; have HB := Lib.hid hb
    have hcm := ho.capm
    clear ho hb
    by_cases hlt : k < l.length
    case neg =>
      obtain rfl : k = l.length := by omega
      have HF : Hid (GivesC w (l.map (conAt m M)) (.returned (.slice A1 l.length c1)) wr) := Lib.hid ⟨_, _, _, rfl, by have h := HO.out; rw [List.take_length] at h; exact h, HB.out⟩
      clear hi hz0 hz1 hz2
      go_wp2
      go_ret
      exact HF.out
    case pos =>
      obtain ⟨ad, hx, rfl, had, c0, c1'⟩ := (HS.out.below HB.out hD).two hlt
      have HT := Lib.hid (conAt_take m M l k hlt)
      obtain ⟨f, hf⟩ : ∃ f, f = l[k].1 := ⟨_, rfl⟩
      obtain ⟨t, ht⟩ : ∃ t, t = l[k].2 := ⟨_, rfl⟩
      rw [← hf] at c0 HT; rw [← ht] at c1' HT
      clear hf ht
      have hk0 : (0 : Int) ≤ (k : Int) := by omega
      have hkl : (k : Int) < (l.length : Int) := by omega
      have bb : Below wr.heap.size wr (wr.alloc (.cells #[.int .i64 f, .int .i64 t] 83)) := (Below.refl _ _).alloc (Nat.le_refl _) _
      have HB2 := Lib.hid (HB.out.trans (bb.mono HB.out.size))
      have HO2 := Lib.hid (HO.out.on bb)
      have J1 := Lib.hid (H1.out.below HB2.out H1.out.lt); have J2 := Lib.hid (H2.out.below HB2.out H2.out.lt)
      clear bb
      go_wp2_with fail
      refine (iwin _ g1 g2 m M T1 T2 J1.out J2.out f t).mono ?_
      rintro _ w3 ⟨rfl, b3⟩
      have HB3 := Lib.hid (HB2.out.trans (b3.mono HB2.out.size))
      have HO3 := Lib.hid (HO2.out.on b3)
      clear b3 c0 c1'
      obtain ⟨W4, hW4⟩ : ∃ W, W = w3.alloc (.cells #[.int .i64 m, .int .i64 M, .int .i64 f, .int .i64 t] 34) := ⟨_, rfl⟩
      have b4 : Below w3.heap.size w3 W4 := by rw [hW4]; exact (Below.refl _ _).alloc (Nat.le_refl _) _
      have HB4 := Lib.hid (HB3.out.trans (b4.mono HB3.out.size))
      have HO4 := Lib.hid (HO3.out.on b4)
      have SL : Hid (Sl W4 (w3.heap.size + 1) 4 (some ⟨w3.heap.size, 0, none⟩) 1 1 [.int .i64 m, .int .i64 M, .int .i64 f, .int .i64 t]) := Lib.hid (by rw [hW4]; exact Sl.one4 w3 _ _ _ _ _)
      have hb32 : (k + 1) * 32 ≤ 140737488355328 := by omega
      have hsz : w.heap.size ≤ W4.heap.size := HB4.out.size
      clear b4
      go_wp2_with (at_builtin; go_loud (rw [← hW4]; refine wpList_append_sl _ rfl (.tmp 17) (.tmp 21) 31 rfl w.heap.size 34 i0 _ 4 32 Tryz.underlying31 hi hz0 hz1 hz2 rfl (by omega) A1 k c1 _ rfl HO4.out (w3.heap.size + 1) _ 1 1 [.int .i64 m, .int .i64 M, .int .i64 f, .int .i64 t] rfl SL.out (by simp [Value.oneCell']) (by omega) hb32 hsz ?_; intro A5 c5 w5 hown5 hg5 hat5; have HF : Hid (Own w5 w.heap.size 34 4 A5 (k + 1) c5 (fl c4 ((l.take (k + 1)).map (conAt m M))) ∧ Below w.heap.size w w5) := Lib.hid ⟨(by rw [HT.out]; exact hown5), HB4.out.grown hg5 HB4.out.size (fun j hj => (HO4.out.row.lt j hj).1)⟩; clear hown5 hg5 hat5))
      go_roundw
      case rel => exact ⟨k + 1, A5, c5, by omega, by go_num, rfl, HF.out⟩
      case measure => simp [intOf]; omega
set_option maxRecDepth 100000 in
theorem icb_same (w : World) (P R X V U D Q : Int) (ns ni nz : Nat) (ls : List Sat4) (li lz : List Tri) (As : Option Addr) (cs : Nat) (Ai : Option Addr) (ci : Nat) (Az : Option Addr) (cz : Nat) (a from_ till : Int) :
    Calls Tryz.prog 32 #[.agg #[.int .i64 P, .slice As ns cs, .slice Ai ni ci, .int .i64 R, .int .i64 X, .int .i64 V, .int .i64 U, .int .i64 D, .slice Az nz cz, .int .i64 Q], .int .i64 a, .int .i64 a, .int .i64 from_, .int .i64 till] w fun e w' => (∃ s : ByteArray, e = .returned (.tuple #[.slice none 0 0, .iface 120 (.agg #[.string s, .bool false])])) ∧ Below w.heap.size w w' := by
  have HB : Hid (Below w.heap.size w (w.alloc (.cells #[.int .i64 P, .slice As ns cs, .slice Ai ni ci, .int .i64 R, .int .i64 X, .int .i64 V, .int .i64 U, .int .i64 D, .slice Az nz cz, .int .i64 Q] 28))) := Lib.hid ((Below.refl _ _).alloc (Nat.le_refl _) _)
  go_enter Tryz.func32, Tryz.ntmps32
  go_wp2_with fail
  go_ret2
  exact ⟨⟨_, rfl⟩, HB.out⟩
set_option maxRecDepth 100000 in
theorem icb_bad (w : World) (P R X V U D Q : Int) (ns ni nz : Nat) (ls : List Sat4) (li lz : List Tri) (As : Option Addr) (cs : Nat) (Ai : Option Addr) (ci : Nat) (Az : Option Addr) (cz : Nat) (D0 : Nat) (h : InSky w (D0) As ns cs Ai ni ci Az nz cz ls li lz) (hD : D0 ≤ w.heap.size) (nA tW : Addr) (E : Errs w nA tW) (a b from_ till : Int) (hab : ¬ a = b) (hok : skyOk P R X V U D Q ls li lz = false) :
    Calls Tryz.prog 32 #[.agg #[.int .i64 P, .slice As ns cs, .slice Ai ni ci, .int .i64 R, .int .i64 X, .int .i64 V, .int .i64 U, .int .i64 D, .slice Az nz cz, .int .i64 Q], .int .i64 a, .int .i64 b, .int .i64 from_, .int .i64 till] w fun e w' => (∃ s : ByteArray, e = .returned (.tuple #[.slice none 0 0, .iface 120 (.agg #[.string s, .bool true])])) ∧ Below w.heap.size w w' := by
  obtain ⟨W0, hW0⟩ : ∃ W, W = w.alloc (.cells #[.int .i64 P, .slice As ns cs, .slice Ai ni ci, .int .i64 R, .int .i64 X, .int .i64 V, .int .i64 U, .int .i64 D, .slice Az nz cz, .int .i64 Q] 28) := ⟨_, rfl⟩
  have T0 : Hid (Below w.heap.size w W0) := Lib.hid (by rw [hW0]; exact (Below.refl _ _).alloc (Nat.le_refl _) _)
  have S0 : Hid (Blk W0 w.heap.size 28 #[.int .i64 P, .slice As ns cs, .slice Ai ni ci, .int .i64 R, .int .i64 X, .int .i64 V, .int .i64 U, .int .i64 D, .slice Az nz cz, .int .i64 Q]) := Lib.hid (by rw [hW0]; exact Blk.new _ _ _)
  have H0 := Lib.hid (h.below T0.out hD)
  have HD : Hid (D0 ≤ W0.heap.size) := Lib.hid (Nat.le_trans hD T0.out.size)
  have HE := Lib.hid (E.below T0.out); have HOK := Lib.hid hok
  have habb : (a == b) = false := by simp [hab]
  clear h E hok hD
  obtain ⟨c0, c1, c2, c3, c4, c5, c6, c7, c8, c9⟩ := S0.out.ten
  go_enter Tryz.func32, Tryz.ntmps32
  go_wp2_with fail
  rw [← hW0]
  clear hW0
  go_wp2_with fail
  refine (iissky W0 P R X V U D Q ns ni nz ls li lz As cs Ai ci Az cz D0 H0.out HD.out nA tW HE.out false HOK.out).mono ?_
  rintro e w1 ⟨rfl, b1⟩
  have HB := Lib.hid (T0.out.trans (b1.mono T0.out.size))
  clear b1 c0 c1 c2 c3 c4 c5 c6 c7 c8 c9
  go_wp2_with fail
  go_ret2
  exact ⟨⟨_, rfl⟩, HB.out⟩
theorem conL_ne {a b Q : Int} {L : List (Int × Int)} (h : ¬ a = b) : conL a b Q true L = (shortOf L Q 0).map (conAt (mnf a b) (mxf a b)) := by
  unfold conL
  rw [if_neg (by rintro (h1 | h1); exact h h1; cases h1)]
  rfl
theorem conL_len (a b Q : Int) (ok : Bool) (L : List (Int × Int)) : (conL a b Q ok L).length ≤ 1000 := by
  unfold conL
  split
  · simp
  · rw [List.length_map]; exact shortOf_len _ _ _
set_option maxRecDepth 100000 in
set_option maxHeartbeats 2000000 in
theorem icb_ok (w : World) (P R X V U D Q : Int) (ns ni nz : Nat) (ls : List Sat4) (li lz : List Tri) (As : Option Addr) (cs : Nat) (Ai : Option Addr) (ci : Nat) (Az : Option Addr) (cz : Nat) (D0 : Nat) (h : InSky w (D0) As ns cs Ai ni ci Az nz cz ls li lz) (hD : D0 ≤ w.heap.size) (hs : ns ≤ 16777216) (hi : ni ≤ 16777216) (hz : nz ≤ 16777216) (hP : J64 P) (hQ : J64 Q) (hk1 : ∀ x ∈ ls, Ok4 x) (hk2 : ∀ x ∈ li, Ok3 x) (nA tW : Addr) (E : Errs w nA tW) (a b : Int) (ha : J64 a) (hb : J64 b)
    (from_ till : Int) (hf : J64 from_) (ht : J64 till) (H Qa Qb : Int → Bool) (hH : ∀ t, decide (sightOf P R X V ls li a b t = 2) = H t) (hQa : ∀ t, mayAt ls li lz a t = Qa t) (hQb : ∀ t, mayAt ls li lz b t = Qb t) (hab : ¬ a = b) (hok : skyOk P R X V U D Q ls li lz = true) :
    Calls Tryz.prog 32 #[.agg #[.int .i64 P, .slice As ns cs, .slice Ai ni ci, .int .i64 R, .int .i64 X, .int .i64 V, .int .i64 U, .int .i64 D, .slice Az nz cz, .int .i64 Q], .int .i64 a, .int .i64 b, .int .i64 from_, .int .i64 till] w fun e w' => ∃ A n c, e = .returned (.tuple #[.slice A n c, .nilIface]) ∧ Own w' w.heap.size 34 4 A n c (fl c4 (conL a b Q true (spkI H Qa Qb from_ till))) ∧ Below w.heap.size w w' := by
  obtain ⟨W0, hW0⟩ : ∃ W, W = w.alloc (.cells #[.int .i64 P, .slice As ns cs, .slice Ai ni ci, .int .i64 R, .int .i64 X, .int .i64 V, .int .i64 U, .int .i64 D, .slice Az nz cz, .int .i64 Q] 28) := ⟨_, rfl⟩
  have T0 : Hid (Below w.heap.size w W0) := Lib.hid (by rw [hW0]; exact (Below.refl _ _).alloc (Nat.le_refl _) _)
  have S0 : Hid (Blk W0 w.heap.size 28 #[.int .i64 P, .slice As ns cs, .slice Ai ni ci, .int .i64 R, .int .i64 X, .int .i64 V, .int .i64 U, .int .i64 D, .slice Az nz cz, .int .i64 Q]) := Lib.hid (by rw [hW0]; exact Blk.new _ _ _)
  have H0 := Lib.hid (h.below T0.out hD)
  have HD : Hid (D0 ≤ W0.heap.size) := Lib.hid (Nat.le_trans hD T0.out.size)
  have HE := Lib.hid (E.below T0.out); have HOK := Lib.hid hok
  have habb : (a == b) = false := by simp [hab]
  have HN := Lib.hid (And.intro ha hb); have HF := Lib.hid (And.intro hf ht); have HH := Lib.hid (And.intro hH (And.intro hQa hQb)); have HK := Lib.hid (And.intro hP (And.intro hk1 hk2)); have HQ := Lib.hid hQ
  have HAB := Lib.hid hab
  clear h E hok hD hf ht ha hb hP hQ hk1 hk2 hH hQa hQb hab
  obtain ⟨c0, c1, c2, c3, c4, c5, c6, c7, c8, c9⟩ := S0.out.ten
  go_enter Tryz.func32, Tryz.ntmps32
  go_wp2_with fail
  rw [← hW0]
  clear hW0
  go_wp2_with fail
  refine (iissky W0 P R X V U D Q ns ni nz ls li lz As cs Ai ci Az cz D0 H0.out HD.out nA tW HE.out true HOK.out).mono ?_
  rintro e w1 ⟨rfl, b1⟩
  have HB1 := Lib.hid b1
  clear b1 c0 c1 c2 c3 c4 c5 c6 c7 c8 c9
  obtain ⟨W2, hW2⟩ : ∃ W, W = w1.alloc (.cells #[.int .i64 b] 3) := ⟨_, rfl⟩
  have HB2 : Hid (Below W0.heap.size W0 W2) := Lib.hid (by rw [hW2]; exact HB1.out.alloc HB1.out.size _)
  have hc : W2.cell? ⟨w1.heap.size, 0, none⟩ = some (.int .i64 b) := by rw [hW2]; go_cell
  go_wp2_with fail
  rw [← hW2]
  refine (lag a b W2 _ hc).mono ?_
  rintro e w' ⟨rfl, rfl⟩
  obtain ⟨m, hm⟩ : ∃ m, mnf a b = m := ⟨_, rfl⟩
  obtain ⟨M, hM⟩ : ∃ m, mxf a b = m := ⟨_, rfl⟩
  rw [hm, hM]
  have HM := Lib.hid (And.intro hm hM)
  clear hm hM hc hW2
  go_upto_region 6 with fail
  obtain ⟨W3, hW3⟩ : ∃ W, W = (W2.alloc (.cells #[.int .i64 m] 3)).alloc (.cells #[.int .i64 M] 3) := ⟨_, rfl⟩
  obtain ⟨g1, hg1⟩ : ∃ g, g = W2.heap.size := ⟨_, rfl⟩
  obtain ⟨g2, hg2⟩ : ∃ g, g = W2.heap.size + 1 := ⟨_, rfl⟩
  have b3 : Below W2.heap.size W2 W3 := by rw [hW3]; exact ((Below.refl _ _).alloc (Nat.le_refl _) _).alloc (by simp) _
  have HB3 : Hid (Below W0.heap.size W0 W3) := Lib.hid (HB2.out.trans (b3.mono HB2.out.size))
  have G1 : Hid (Blk W3 g1 3 #[.int .i64 m]) := Lib.hid (by rw [hW3, hg1]; exact (Blk.new _ _ _).alloc _)
  have G2 : Hid (Blk W3 g2 3 #[.int .i64 M]) := Lib.hid (by
    rw [hW3, hg2]
    have h := Blk.new (W2.alloc (.cells #[.int .i64 m] 3)) 3 #[.int .i64 M]
    simpa using h)
  rw [← hW3, ← hg2, ← hg1]
  clear hW3 hg1 hg2 b3
  have HC : Hid (∀ wr, Below W3.heap.size W3 wr → (wr.cell? ⟨w.heap.size, 0, none⟩ = some (.int .i64 P) ∧ wr.cell? ⟨w.heap.size, 1, none⟩ = some (.slice As ns cs) ∧ wr.cell? ⟨w.heap.size, 2, none⟩ = some (.slice Ai ni ci) ∧ wr.cell? ⟨w.heap.size, 3, none⟩ = some (.int .i64 R) ∧ wr.cell? ⟨w.heap.size, 4, none⟩ = some (.int .i64 X) ∧ wr.cell? ⟨w.heap.size, 5, none⟩ = some (.int .i64 V) ∧ wr.cell? ⟨w.heap.size, 6, none⟩ = some (.int .i64 U) ∧ wr.cell? ⟨w.heap.size, 7, none⟩ = some (.int .i64 D) ∧ wr.cell? ⟨w.heap.size, 8, none⟩ = some (.slice Az nz cz) ∧ wr.cell? ⟨w.heap.size, 9, none⟩ = some (.int .i64 Q))) := Lib.hid fun wr hb => (S0.out.below (HB3.out.trans (hb.mono HB3.out.size)) S0.out.lt).ten
  have hc0 := HC.out W3 (Below.refl _ _)
  have HS3 : Hid (D0 ≤ W3.heap.size) := Lib.hid (Nat.le_trans HD.out HB3.out.size)
  have H3 := Lib.hid (H0.out.below HB3.out HD.out)
  have E3 := Lib.hid (HE.out.below HB3.out)
  go_region_held3 (fun wr => (wr.cell? ⟨w.heap.size, 0, none⟩ = some (.int .i64 P) ∧ wr.cell? ⟨w.heap.size, 1, none⟩ = some (.slice As ns cs) ∧ wr.cell? ⟨w.heap.size, 2, none⟩ = some (.slice Ai ni ci) ∧ wr.cell? ⟨w.heap.size, 3, none⟩ = some (.int .i64 R) ∧ wr.cell? ⟨w.heap.size, 4, none⟩ = some (.int .i64 X) ∧ wr.cell? ⟨w.heap.size, 5, none⟩ = some (.int .i64 V) ∧ wr.cell? ⟨w.heap.size, 6, none⟩ = some (.int .i64 U) ∧ wr.cell? ⟨w.heap.size, 7, none⟩ = some (.int .i64 D) ∧ wr.cell? ⟨w.heap.size, 8, none⟩ = some (.slice Az nz cz) ∧ wr.cell? ⟨w.heap.size, 9, none⟩ = some (.int .i64 Q))) (first | with_reducible exact hc0 | with_reducible exact hcA | go_keep) (first
    | (go_at_call 71; have hbefore := HBA.out; refine (ishort wA wA.heap.size A1 n1 c1 (spkI H Qa Qb from_ till) SA.out (Nat.le_refl _) Q 0 HQ.out.1 HQ.out.2 (by omega) (by omega)).mono ?_; rintro e wB ⟨A2, n2, c2, rfl, oB, bB⟩; have HBB : Hid (Below W3.heap.size W3 wB) := Lib.hid (HBA.out.trans (bB.mono HBA.out.size)); have hcA := HC.out _ HBB.out; have SB := Lib.hid oB.sl; clear oB bB hbefore)
    | (go_at_call 72; refine (ispeaking W3.drew P R X V U D Q ns ni nz ls li lz As cs Ai ci Az cz D0 (H3.out.below (Below.refl W3.heap.size W3).drew HS3.out) HS3.out hs hi hz HK.out.1 HK.out.2.1 HK.out.2.2 nA tW E3.out.drew a b HN.out.1 HN.out.2 from_ till HF.out.1 HF.out.2 H Qa Qb HH.out.1 HH.out.2.1 HH.out.2.2).mono ?_; rintro e wA ⟨A1, n1, c1, rfl, oA, bA⟩; have HBA : Hid (Below W3.heap.size W3 wA) := Lib.hid ((Below.refl _ _).drew.trans bA); have hcA := HC.out _ HBA.out; have SA := Lib.hid oA.sl; clear oA bA))
  clear hc0 hcA
  have hn2 : n2 ≤ 100000 := by
    have h1 := SB.out.len
    rw [sv_len] at h1
    have h2 := shortOf_len (spkI H Qa Qb from_ till) Q 0
    omega
  have HB8 := Lib.hid (HB3.out.trans (HBB.out.mono HB3.out.size))
  have hmf : ∀ (fn : Fn) (first cap : Array Value) (w : World), (Instr.makeFunc fn first cap).run Tryz.prog w = .ok (.func fn first cap) w := fun _ _ _ _ => rfl
  go_wp2_with fail
  refine (iwindows wB wB.heap.size A2 n2 c2 (shortOf (spkI H Qa Qb from_ till) Q 0) SB.out (Nat.le_refl _) hn2 g1 g2 m M _ _ (G1.out.below HBB.out G1.out.lt) (G2.out.below HBB.out G2.out.lt)).mono ?_
  rintro e w8 ⟨A8, n8, c8, rfl, o8, b8⟩
  have HG : Hid (Own w8 w.heap.size 34 4 A8 n8 c8 (fl c4 (conL a b Q true (spkI H Qa Qb from_ till))) ∧ Below w.heap.size w w8) := Lib.hid ⟨by
    have e : conL a b Q true (spkI H Qa Qb from_ till) = (shortOf (spkI H Qa Qb from_ till) Q 0).map (conAt m M) := by
      rw [conL_ne HAB.out, HM.out.1, HM.out.2]
    rw [e]; exact o8.fewer (Nat.le_trans T0.out.size HB8.out.size), T0.out.trans ((HB8.out.trans (b8.mono HB8.out.size)).mono T0.out.size)⟩
  clear o8 b8
  go_wp2_with fail
  go_ret2
  exact ⟨_, _, _, rfl, HG.out⟩
theorem Own.made4 (w : World) (B : Nat) (E : TypeId) (hB : B ≤ w.heap.size) : Own (w.alloc (.cells #[] E)) B E 4 (some ⟨w.heap.size, 0, none⟩) 0 0 [] := ⟨World.ownsRow_made w #[] 0 hB (by unfold maxLen; omega) rfl⟩
set_option maxRecDepth 100000 in
set_option maxHeartbeats 2000000 in
theorem icontacts (w : World) (P R X V U D Q : Int) (ns ni nz : Nat) (ls : List Sat4) (li lz : List Tri) (As : Option Addr) (cs : Nat) (Ai : Option Addr) (ci : Nat) (Az : Option Addr) (cz : Nat) (D0 : Nat) (h : InSky w (D0) As ns cs Ai ni ci Az nz cz ls li lz) (hD : D0 ≤ w.heap.size) (hs : ns ≤ 16777216) (hi : ni ≤ 16777216) (hz : nz ≤ 16777216) (hP : J64 P) (hQ : J64 Q) (hk1 : ∀ x ∈ ls, Ok4 x) (hk2 : ∀ x ∈ li, Ok3 x) (nA tW : Addr) (E : Errs w nA tW) (a b : Int) (ha : J64 a) (hb : J64 b)
    (from_ till : Int) (hf : J64 from_) (ht : J64 till) (H Qa Qb : Int → Bool) (hH : ∀ t, decide (sightOf P R X V ls li a b t = 2) = H t) (hQa : ∀ t, mayAt ls li lz a t = Qa t) (hQb : ∀ t, mayAt ls li lz b t = Qb t) :
    Calls Tryz.prog 8 #[.agg #[.int .i64 P, .slice As ns cs, .slice Ai ni ci, .int .i64 R, .int .i64 X, .int .i64 V, .int .i64 U, .int .i64 D, .slice Az nz cz, .int .i64 Q], .int .i64 a, .int .i64 b, .int .i64 from_, .int .i64 till] w (GivesC w (conL a b Q (skyOk P R X V U D Q ls li lz) (spkI H Qa Qb from_ till))) := by
  obtain ⟨W0, hW0⟩ : ∃ W, W = w.alloc (.cells #[.int .i64 P, .slice As ns cs, .slice Ai ni ci, .int .i64 R, .int .i64 X, .int .i64 V, .int .i64 U, .int .i64 D, .slice Az nz cz, .int .i64 Q] 28) := ⟨_, rfl⟩
  have T0 : Hid (Below w.heap.size w W0) := Lib.hid (by rw [hW0]; exact (Below.refl _ _).alloc (Nat.le_refl _) _)
  have S0 : Hid (Blk W0 w.heap.size 28 #[.int .i64 P, .slice As ns cs, .slice Ai ni ci, .int .i64 R, .int .i64 X, .int .i64 V, .int .i64 U, .int .i64 D, .slice Az nz cz, .int .i64 Q]) := Lib.hid (by rw [hW0]; exact Blk.new _ _ _)
  have H0 := Lib.hid (h.below T0.out hD)
  have HD : Hid (D0 ≤ W0.heap.size) := Lib.hid (Nat.le_trans hD T0.out.size)
  have HE := Lib.hid (E.below T0.out)
  obtain ⟨ok, hok⟩ : ∃ v, skyOk P R X V U D Q ls li lz = v := ⟨_, rfl⟩
  have HOK := Lib.hid hok
  rw [hok]
  clear h E hD hok
  have HEMP : Hid (∀ wr, Below W0.heap.size W0 wr → conL a b Q ok (spkI H Qa Qb from_ till) = [] → GivesC w (conL a b Q ok (spkI H Qa Qb from_ till)) (.returned (.slice (some ⟨wr.heap.size, 0, none⟩) 0 0)) (wr.alloc (.cells #[] 34))) := Lib.hid fun wr hb e => by
    have hb2 := T0.out.trans (hb.mono T0.out.size)
    rw [e]
    exact ⟨_, _, _, rfl, Own.made4 wr w.heap.size _ hb2.size, hb2.alloc hb2.size _⟩
  have HPQ := Lib.hid (And.intro hP hQ); have HK := Lib.hid (And.intro hk1 hk2); have HJ := Lib.hid (And.intro (And.intro ha hb) (And.intro hf ht)); have HHH := Lib.hid (And.intro hH (And.intro hQa hQb))
  clear hP hQ hk1 hk2 ha hb hf ht hH hQa hQb
  obtain ⟨c0, c1, c2, c3, c4, c5, c6, c7, c8, c9⟩ := S0.out.ten
  by_cases hab : a = b
  · subst hab
    have HN : Hid (conL a a Q ok (spkI H Qa Qb from_ till) = []) := Lib.hid (if_pos (.inl rfl))
    go_enter Tryz.func8, Tryz.ntmps8
    go_wp2_with fail
    rw [← hW0]
    clear hW0
    go_wp2_with fail
    refine (icb_same W0 P R X V U D Q ns ni nz ls li lz As cs Ai ci Az cz a from_ till).mono ?_
    rintro e w1 ⟨⟨s, rfl⟩, b1⟩
    have HG := Lib.hid (HEMP.out _ b1 HN.out)
    clear b1 c0 c1 c2 c3 c4 c5 c6 c7 c8 c9
    go_wp2_with fail
    go_ret
    exact HG.out
  · cases ok
    · have HN : Hid (conL a b Q false (spkI H Qa Qb from_ till) = []) := Lib.hid (if_pos (.inr rfl))
      have HAB := Lib.hid hab
      go_enter Tryz.func8, Tryz.ntmps8
      go_wp2_with fail
      rw [← hW0]
      clear hW0
      go_wp2_with fail
      refine (icb_bad W0 P R X V U D Q ns ni nz ls li lz As cs Ai ci Az cz D0 H0.out HD.out nA tW HE.out a b from_ till HAB.out HOK.out).mono ?_
      rintro e w1 ⟨⟨s, rfl⟩, b1⟩
      have HG := Lib.hid (HEMP.out _ b1 HN.out)
      clear b1 c0 c1 c2 c3 c4 c5 c6 c7 c8 c9
      go_wp2_with fail
      go_ret
      exact HG.out
    · have HAB := Lib.hid hab
      clear hab
      go_enter Tryz.func8, Tryz.ntmps8
      go_wp2_with fail
      rw [← hW0]
      clear hW0
      go_wp2_with fail
      refine (icb_ok W0 P R X V U D Q ns ni nz ls li lz As cs Ai ci Az cz D0 H0.out HD.out hs hi hz HPQ.out.1 HPQ.out.2 HK.out.1 HK.out.2 nA tW HE.out a b HJ.out.1.1 HJ.out.1.2 from_ till HJ.out.2.1 HJ.out.2.2 H Qa Qb HHH.out.1 HHH.out.2.1 HHH.out.2.2 HAB.out HOK.out).mono ?_
      rintro e w1 ⟨A1, n1, k1, rfl, o1, b1⟩
      have HG : Hid (GivesC w (conL a b Q true (spkI H Qa Qb from_ till)) (.returned (.slice A1 n1 k1)) w1) := Lib.hid ⟨_, _, _, rfl, o1.fewer T0.out.size, T0.out.trans (b1.mono T0.out.size)⟩
      clear o1 b1 c0 c1 c2 c3 c4 c5 c6 c7 c8 c9
      go_wp2_with fail
      go_ret
      exact HG.out
/-- the contacts of the first pairs: of all whose lesser node is less than a -/
def planA (F : Nat → Nat → List Sat4) (N a : Nat) : List Sat4 := (List.range a).flatMap fun a => (List.range (N - (a + 1))).flatMap fun k => F a (a + 1 + k)
def planB (F : Nat → Nat → List Sat4) (a k : Nat) : List Sat4 := (List.range k).flatMap fun k => F a (a + 1 + k)
theorem planA_succ (F : Nat → Nat → List Sat4) (N a : Nat) : planA F N (a + 1) = planA F N a ++ planB F a (N - (a + 1)) := by
  unfold planA planB
  rw [List.range_succ, List.flatMap_append]; simp
theorem planB_succ (F : Nat → Nat → List Sat4) (a k : Nat) : planB F a (k + 1) = planB F a k ++ F a (a + 1 + k) := by
  unfold planB
  rw [List.range_succ, List.flatMap_append]; simp
theorem planB_len {F : Nat → Nat → List Sat4} (h : ∀ a b, (F a b).length ≤ 1000) (a k : Nat) : (planB F a k).length ≤ k * 1000 := by
  induction k with
  | zero => simp [planB]
  | succ k ih => rw [planB_succ, List.length_append]; have := h a (a + 1 + k); omega
theorem planA_len {F : Nat → Nat → List Sat4} (h : ∀ a b, (F a b).length ≤ 1000) (N : Nat) (hN : N ≤ 2000) (a : Nat) : (planA F N a).length ≤ a * 2000000 := by
  induction a with
  | zero => simp [planA]
  | succ a ih => rw [planA_succ, List.length_append]; have := planB_len h a (N - (a + 1)); omega
theorem planB_step (F : Nat → Nat → List Sat4) (a y : Nat) (h : a + 1 ≤ y) : planB F a (y + 1 - (a + 1)) = planB F a (y - (a + 1)) ++ F a y := by
  rw [show y + 1 - (a + 1) = (y - (a + 1)) + 1 by omega, planB_succ, show a + 1 + (y - (a + 1)) = y by omega]
theorem planB_nil {F : Nat → Nat → List Sat4} (h : ∀ a b, F a b = []) (a k : Nat) : planB F a k = [] := by
  unfold planB; exact List.flatMap_eq_nil_iff.2 fun x _ => h _ _
theorem planA_nil {F : Nat → Nat → List Sat4} (h : ∀ a b, F a b = []) (N a : Nat) : planA F N a = [] := by
  unfold planA; exact List.flatMap_eq_nil_iff.2 fun x _ => planB_nil h _ _
set_option maxRecDepth 100000 in
set_option maxHeartbeats 4000000 in
theorem iplanof (w : World) (P R X V U D Q : Int) (ns ni nz : Nat) (ls : List Sat4) (li lz : List Tri) (As : Option Addr) (cs : Nat) (Ai : Option Addr) (ci : Nat) (Az : Option Addr) (cz : Nat) (D0 : Nat) (h : InSky w (D0) As ns cs Ai ni ci Az nz cz ls li lz) (hD : D0 ≤ w.heap.size) (hs : ns ≤ 1000) (hi : ni ≤ 1000) (hz : nz ≤ 16777216) (hP : J64 P) (hQ : J64 Q) (hk1 : ∀ x ∈ ls, Ok4 x) (hk2 : ∀ x ∈ li, Ok3 x) (nA tW : Addr) (E : Errs w nA tW) (hh : Han w)
    (from_ till : Int) (hf : J64 from_) (ht : J64 till) :
    Calls Tryz.prog 14 #[.agg #[.int .i64 P, .slice As ns cs, .slice Ai ni ci, .int .i64 R, .int .i64 X, .int .i64 V, .int .i64 U, .int .i64 D, .slice Az nz cz, .int .i64 Q], .int .i64 from_, .int .i64 till] w (GivesC w (planL (ns + ni) fun a b => conL a b Q (skyOk P R X V U D Q ls li lz) (spkI (fun t => decide (sightOf P R X V ls li a b t = 2)) (fun t => mayAt ls li lz a t) (fun t => mayAt ls li lz b t) from_ till))) := by
  obtain ⟨i0, hi0, hz0, hz1, hz2⟩ := info_parts contact_info
  obtain ⟨W0, hW0⟩ : ∃ W, W = w.alloc (.cells #[.int .i64 P, .slice As ns cs, .slice Ai ni ci, .int .i64 R, .int .i64 X, .int .i64 V, .int .i64 U, .int .i64 D, .slice Az nz cz, .int .i64 Q] 28) := ⟨_, rfl⟩
  have T0 : Hid (Below w.heap.size w W0) := Lib.hid (by rw [hW0]; exact (Below.refl _ _).alloc (Nat.le_refl _) _)
  have S0 : Hid (Blk W0 w.heap.size 28 #[.int .i64 P, .slice As ns cs, .slice Ai ni ci, .int .i64 R, .int .i64 X, .int .i64 V, .int .i64 U, .int .i64 D, .slice Az nz cz, .int .i64 Q]) := Lib.hid (by rw [hW0]; exact Blk.new _ _ _)
  have HSZ : Hid (W0.heap.size = w.heap.size + 1) := Lib.hid (by rw [hW0]; simp)
  have H0 := Lib.hid (h.below T0.out hD)
  have HD : Hid (D0 ≤ W0.heap.size) := Lib.hid (Nat.le_trans hD T0.out.size)
  have HE := Lib.hid (E.below T0.out); have HA := Lib.hid (hh.below T0.out)
  obtain ⟨ok, hok⟩ : ∃ v, skyOk P R X V U D Q ls li lz = v := ⟨_, rfl⟩
  have HOK := Lib.hid hok
  rw [hok]
  obtain ⟨N, hN⟩ : ∃ N : Nat, N = ns + ni := ⟨_, rfl⟩
  have hNN : Hid ((ns : Int) + (ni : Int) = (N : Int)) := Lib.hid (by omega)
  have hN2 : N ≤ 2000 := by omega
  rw [← hN]
  obtain ⟨F, hF⟩ : ∃ F : Nat → Nat → List Sat4, F = fun (a b : Nat) => conL (a : Int) (b : Int) Q ok (spkI (fun t => decide (sightOf P R X V ls li (a : Int) (b : Int) t = 2)) (fun t => mayAt ls li lz (a : Int) t) (fun t => mayAt ls li lz (b : Int) t) from_ till) := ⟨_, rfl⟩
  have HFV : Hid (∀ a b, F a b = conL a b Q ok (spkI (fun t => decide (sightOf P R X V ls li a b t = 2)) (fun t => mayAt ls li lz a t) (fun t => mayAt ls li lz b t) from_ till)) := Lib.hid fun a b => by rw [hF]
  have HFL : Hid (∀ a b, (F a b).length ≤ 1000) := Lib.hid fun a b => by rw [HFV.out]; exact conL_len _ _ _ _ _
  have HFN : Hid (ok = false → ∀ a b, F a b = []) := Lib.hid fun e a b => by rw [HFV.out, e]; exact if_pos (.inr rfl)
  rw [show (planL N fun a b => conL a b Q ok (spkI (fun t => decide (sightOf P R X V ls li a b t = 2)) (fun t => mayAt ls li lz a t) (fun t => mayAt ls li lz b t) from_ till)) = planA F N N by rw [hF]; rfl]
  have hs2 : Hid (ns ≤ 16777216) := Lib.hid (by omega)
  have hi2 : Hid (ni ≤ 16777216) := Lib.hid (by omega)
  have hz2' := Lib.hid hz
  have HPQ := Lib.hid (And.intro hP hQ); have HK := Lib.hid (And.intro hk1 hk2); have HJ := Lib.hid (And.intro hf ht)
  clear h E hD hok hh hN hF hP hQ hk1 hk2 hf ht hs hi hz
  have HC : Hid (∀ wr, Below W0.heap.size W0 wr → (wr.cell? ⟨w.heap.size, 0, none⟩ = some (.int .i64 P) ∧ wr.cell? ⟨w.heap.size, 1, none⟩ = some (.slice As ns cs) ∧ wr.cell? ⟨w.heap.size, 2, none⟩ = some (.slice Ai ni ci) ∧ wr.cell? ⟨w.heap.size, 3, none⟩ = some (.int .i64 R) ∧ wr.cell? ⟨w.heap.size, 4, none⟩ = some (.int .i64 X) ∧ wr.cell? ⟨w.heap.size, 5, none⟩ = some (.int .i64 V) ∧ wr.cell? ⟨w.heap.size, 6, none⟩ = some (.int .i64 U) ∧ wr.cell? ⟨w.heap.size, 7, none⟩ = some (.int .i64 D) ∧ wr.cell? ⟨w.heap.size, 8, none⟩ = some (.slice Az nz cz) ∧ wr.cell? ⟨w.heap.size, 9, none⟩ = some (.int .i64 Q))) := Lib.hid fun wr hb => (S0.out.below hb S0.out.lt).ten
  go_enter Tryz.func14, Tryz.ntmps14
  go_wp2_with fail
  rw [← hW0]
  clear hW0
  have O1 : Hid (Own (W0.alloc (.cells #[] 34)) W0.heap.size 34 4 (some ⟨w.heap.size + 1, 0, none⟩) 0 0 (fl c4 (planA F N 0))) := Lib.hid (by
    have h := Own.made4 W0 W0.heap.size 34 (Nat.le_refl _)
    rw [← HSZ.out]; exact h)
  have B1 : Hid (Below W0.heap.size W0 (W0.alloc (.cells #[] 34))) := Lib.hid ((Below.refl _ _).alloc (Nat.le_refl _) _)
  obtain ⟨y0, y1, y2, y3, y4, y5, y6, y7, y8, y9⟩ := HC.out _ B1.out
  go_wp2_with fail
  refine (inodes _ P R X V U D Q ns ni nz ls li lz As cs Ai ci Az cz hs2.out hi2.out).mono ?_
  rintro e w2 ⟨rfl, b2⟩
  rw [hNN.out]
  have hfirst : Hid (Own w2 W0.heap.size 34 4 (some ⟨w.heap.size + 1, 0, none⟩) 0 0 (fl c4 (planA F N 0)) ∧ Below W0.heap.size W0 w2) := Lib.hid ⟨O1.out.on b2, B1.out.trans (b2.mono B1.out.size)⟩
  clear b2 O1 B1 y0 y1 y2 y3 y4 y5 y6 y7 y8 y9
  go_wp2_with fail
  go_loopw [7, 15] (fun v i wr => ∃ (x : Nat) (A : Option Addr) (n c : Nat), x ≤ N ∧ i = .int .i64 x ∧ v = .slice A n c ∧ Own wr W0.heap.size 34 4 A n c (fl c4 (planA F N x)) ∧ Below W0.heap.size W0 wr) (fun _ i _ => N - (intOf i).toNat)
  case atStart => exact ⟨0, _, _, _, Nat.zero_le _, rfl, rfl, hfirst.out⟩
  case round =>
    clear hfirst
    obtain ⟨x, A1, n1, c1, hx, rfl, rfl, ho, hb⟩ := hrel
    have HO := Lib.hid ho; have HB := Lib.hid hb
    clear ho hb
    by_cases hlt : x < N
    case neg =>
      obtain rfl : x = N := by omega
      have HF : Hid (GivesC w (planA F x x) (.returned (.slice A1 n1 c1)) wr) := Lib.hid ⟨_, _, _, rfl, HO.out.fewer T0.out.size, T0.out.trans (HB.out.mono T0.out.size)⟩
      clear hi0 hz0 hz1 hz2
      go_wp2_with fail
      go_ret
      exact HF.out
    case pos =>
      go_wp2_with fail
      go_loopw [7, 9] (fun v i wr => ∃ (y : Nat) (A : Option Addr) (n c : Nat), x + 1 ≤ y ∧ y ≤ N ∧ i = .int .i64 y ∧ v = .slice A n c ∧ Own wr W0.heap.size 34 4 A n c (fl c4 (planA F N x ++ planB F x (y - (x + 1)))) ∧ Below W0.heap.size W0 wr) (fun _ i _ => N - (intOf i).toNat)
      case atStart => exact ⟨x + 1, _, _, _, Nat.le_refl _, by omega, by go_num, rfl, by rw [show x + 1 - (x + 1) = 0 by omega, show planB F x 0 = [] from rfl, List.append_nil]; exact HO.out, HB.out⟩
      case round =>
        clear HO HB
        obtain ⟨y, A2, n2, c2, hy0, hy1, rfl, rfl, ho, hb⟩ := hrel
        have HO := Lib.hid ho; have HB := Lib.hid hb
        clear ho hb
        obtain ⟨y0, y1, y2, y3, y4, y5, y6, y7, y8, y9⟩ := HC.out _ HB.out
        go_wp2_with fail
        refine (inodes _ P R X V U D Q ns ni nz ls li lz As cs Ai ci Az cz hs2.out hi2.out).mono ?_
        rintro e w3 ⟨rfl, b3⟩
        rw [hNN.out]
        have HO3 := Lib.hid (HO.out.on b3)
        have HB3 := Lib.hid (HB.out.trans (b3.mono HB.out.size))
        clear b3 HO HB y0 y1 y2 y3 y4 y5 y6 y7 y8 y9
        by_cases hly : y < N
        case neg =>
          obtain rfl : y = N := by omega
          have HF : Hid (Own w3 W0.heap.size 34 4 A2 n2 c2 (fl c4 (planA F y (x + 1)))) := Lib.hid (by rw [planA_succ]; exact HO3.out)
          go_wp2_with fail
          go_roundw
          case rel => exact ⟨x + 1, A2, n2, c2, by omega, by go_num, rfl, HF.out, HB3.out⟩
          case measure => simp [intOf]; omega
        case pos =>
          have HXY : Hid (¬ (x : Int) = (y : Int)) := Lib.hid (by omega)
          have HJX : Hid (J64 (x : Int)) := Lib.hid (by unfold J64; omega)
          have HJY : Hid (J64 (y : Int)) := Lib.hid (by unfold J64; omega)
          obtain ⟨y0, y1, y2, y3, y4, y5, y6, y7, y8, y9⟩ := HC.out _ HB3.out
          cases ok
          case false =>
            have HNIL : Hid (planA F N x ++ planB F x (y - (x + 1)) = planA F N N) := Lib.hid (by rw [planA_nil (HFN.out rfl), planA_nil (HFN.out rfl), planB_nil (HFN.out rfl)]; rfl)
            go_wp2_with fail
            refine (icb_bad w3 P R X V U D Q ns ni nz ls li lz As cs Ai ci Az cz D0 (H0.out.below HB3.out HD.out) (Nat.le_trans HD.out HB3.out.size) nA tW (HE.out.below HB3.out) (x : Int) (y : Int) from_ till HXY.out HOK.out).mono ?_
            rintro e w4 ⟨⟨s, rfl⟩, b4⟩
            have HO4 := Lib.hid (HO3.out.on b4)
            have HB4 := Lib.hid (HB3.out.trans (b4.mono HB3.out.size))
            clear b4 HO3 y0 y1 y2 y3 y4 y5 y6 y7 y8 y9
            go_wp2_with fail
            refine (iofsky w4 (HA.out.below HB4.out) s true).mono ?_
            rintro e w5 ⟨rfl, b5⟩
            have HF : Hid (GivesC w (planA F N N) (.returned (.slice A2 n2 c2)) w5) := Lib.hid ⟨_, _, _, rfl, by rw [← HNIL.out]; exact (HO4.out.on b5).fewer T0.out.size, T0.out.trans ((HB4.out.trans (b5.mono HB4.out.size)).mono T0.out.size)⟩
            clear b5 hi0 hz0 hz1 hz2
            go_wp2_with fail
            go_ret
            exact HF.out
          case true =>
            go_wp2_with fail
            refine (icb_ok w3 P R X V U D Q ns ni nz ls li lz As cs Ai ci Az cz D0 (H0.out.below HB3.out HD.out) (Nat.le_trans HD.out HB3.out.size) hs2.out hi2.out hz2'.out HPQ.out.1 HPQ.out.2 HK.out.1 HK.out.2 nA tW (HE.out.below HB3.out) (x : Int) (y : Int) HJX.out HJY.out from_ till HJ.out.1 HJ.out.2 (fun t => decide (sightOf P R X V ls li (x : Int) (y : Int) t = 2)) (fun t => mayAt ls li lz (x : Int) t) (fun t => mayAt ls li lz (y : Int) t) (fun _ => rfl) (fun _ => rfl) (fun _ => rfl) HXY.out HOK.out).mono ?_
            rintro e w4 ⟨A4, n4, k4, rfl, o4, b4⟩
            rw [← HFV.out x y] at o4
            have HO4 := Lib.hid (HO3.out.on b4)
            have HB4 := Lib.hid (HB3.out.trans (b4.mono HB3.out.size))
            have SL4 := Lib.hid o4.sl
            clear o4 b4 HO3 y0 y1 y2 y3 y4 y5 y6 y7 y8 y9
            go_wp2_with fail
            refine (iofsky_nil w4).mono ?_
            rintro e w5 ⟨rfl, b5⟩
            have HO5 := Lib.hid (HO4.out.on b5)
            have HB5 := Lib.hid (HB4.out.trans (b5.mono HB4.out.size))
            have SL5 := Lib.hid (SL4.out.below b5 (Nat.le_refl _))
            clear b5 HO4 SL4
            obtain ⟨L, hL⟩ : ∃ L, L = planA F N x ++ planB F x (y - (x + 1)) := ⟨_, rfl⟩
            have hLn : L.length ≤ 5000000000 := by
              rw [hL, List.length_append]
              have h1 := planA_len HFL.out N hN2 x
              have h2 := planB_len HFL.out x (y - (x + 1))
              omega
            have HLL : Hid (fl c4 (planA F N x ++ planB F x (y + 1 - (x + 1))) = fl c4 L ++ fl c4 (F x y)) := Lib.hid (by rw [planB_step F x y hy0, ← List.append_assoc, ← hL, fl_app])
            rw [← hL] at HO5
            have hn2 : n2 = L.length := HO5.out.sl.num c4_len (by omega)
            have hn4 : n4 ≤ 1000 := by
              have h1 := SL5.out.num c4_len (by omega)
              have h2 := HFL.out x y
              omega
            have hb32 : (n2 + n4) * 32 ≤ 140737488355328 := by omega
            have h63 : n2 + n4 ≤ 9223372036854775807 := by omega
            have hone := Lib.hid (fl_one c4_one (F x y))
            have hsz : W0.heap.size ≤ w5.heap.size := HB5.out.size
            have HL := Lib.hid hL
            have HN2 := Lib.hid hn2
            clear hL hn2
            go_wp2_with (at_builtin; go_loud (refine wpList_append_sl _ rfl (.tmp 38) (.tmp 39) 31 rfl W0.heap.size 34 i0 _ 4 32 Tryz.underlying31 hi0 hz0 hz1 hz2 rfl (by omega) A2 n2 c2 (fl c4 L) rfl HO5.out w4.heap.size A4 n4 k4 (fl c4 (F x y)) rfl SL5.out hone.out h63 hb32 hsz ?_; intro A6 c6 w6 hown6 hg6 hat6; have HF : Hid (Own w6 W0.heap.size 34 4 A6 (n2 + n4) c6 (fl c4 (planA F N x ++ planB F x (y + 1 - (x + 1)))) ∧ Below W0.heap.size W0 w6) := Lib.hid ⟨(by rw [HLL.out]; exact hown6), HB5.out.grown hg6 hsz (fun j hj => (HO5.out.row.lt j hj).1)⟩; clear hown6 hg6 hat6))
            go_roundw
            case rel => exact ⟨y + 1, A6, n2 + n4, c6, by omega, by omega, by go_num, rfl, HF.out⟩
            case measure => simp [intOf]; omega
end Go.Proofs.YtlaigbhiligceaaGreatDoor
