/- A whole struct stored into a block that is known whole: its run as one equation. No program. Sight: what two nodes see of each other, in plain words; the program's table of sights and its closure; watchOf. -/
import Derived.Test.YtlaigbhiligceaaGreatDoorWords
import Derived.Deep.MidRow
import Derived.Deep.RegionHeld3
import Derived.Test.YtlaigbhiligceaaGreatDoorPlaces
import Derived.Test.YtlaigbhiligceaaGreatDoorLimit3
import Derived.Maps.OwnOps
import Derived.Maps.Views
import Derived.Maps.OwnSet
namespace Go.Proofs.YtlaigbhiligceaaGreatDoor
open Go.RowKit
theorem Blk.grownR {w w' : World} {g : Nat} {t : TypeId} {cs : Array Value} {row : Option Nat} (h : Blk w g t cs) (hg : w.grownBy w' row) (hne : some g ≠ row) : Blk w' g t cs := (hg.block g h.lt hne).trans h
section
variable {P : Program}
/-- the store of all cells as a letter X, and its run as one equation, the world behind it a letter: a walk takes both before it lays the store open -/
theorem store_eq (w : World) (g : Nat) (t T : TypeId) (cs : Array Value) (l : List Value) (hb : Blk w g t cs) (hi : (P.info? T).map (·.size) = some l.length) (hsz : cs.size = l.length) (h1 : l.all (·.oneCell') = true) :
    ∃ (X : Sem Unit) (w' : World), storeCells ⟨g, 0, none⟩ l 0 = X ∧ X.run P w = .ok () w' ∧ Blk w' g t l.toArray ∧ w.grownBy w' (some g) := by
  have hv := run_storeVar_row (P := P) w g t T cs l.toArray hb (by simpa using hi) (by simpa using hsz) (by simpa using h1)
  refine ⟨_, _, rfl, ?_, setRow_heap w g cs l.toArray t _ hb, ⟨rfl, rfl, rfl, by simp, fun k _ hne => setRow_other w g k l.toArray (fun e => hne (by rw [e]))⟩⟩
  · cases hq : P.info? T with
    | none => simp [hq] at hi
    | some i =>
      have hs : l.length = i.size := by simp [hq] at hi; omega
      simpa [storeVar, sizeOf, typeInfo, hq, Value.cells, hs] using hv
end
end Go.Proofs.YtlaigbhiligceaaGreatDoor
namespace Go.Proofs.YtlaigbhiligceaaGreatDoor
open Go.ChangeShapes Go.WideShapes Go.ChangeAt Go.RowKit Go.Maps
set_option linter.unusedVariables false
/-- no sight, may see, sure sight -/
def sgt (limit least greatest : Int) : Int := if limit < 0 ∨ limit < least then 0 else if greatest ≤ limit then 2 else 1
def sightI (limit doubt gap : Int) : Int := sgt limit (gap - doubt) (gap + doubt)
theorem sightI_bd (limit doubt gap : Int) : 0 ≤ sightI limit doubt gap ∧ sightI limit doubt gap ≤ 2 := by unfold sightI sgt; split <;> (try split) <;> omega
theorem i64_wf {z : Int} (h0 : -9223372036854775808 ≤ z) (h1 : z ≤ 9223372036854775807) : (Lit.int .i64 z).wf = true := by
  simp [Lit.wf, IntKind.min, IntKind.max, IntKind.bits, IntKind.signed]; omega
theorem iwithin (limit least greatest r : Int) (w : World) (h : sgt limit least greatest = r) :
    Calls Tryz.prog 125 #[.int .i64 limit, .int .i64 least, .int .i64 greatest] w fun e w' => e = .returned (.int .i64 r) ∧ w = w' := by
  by_cases h1 : limit < 0
  · obtain rfl : (0 : Int) = r := by rw [← h]; unfold sgt; rw [if_pos (.inl h1)]
    clear h
    go_enter Tryz.func125, Tryz.ntmps125
    go_wp2
    go_ret
    exact ⟨rfl, rfl⟩
  by_cases h2 : limit < least
  · obtain rfl : (0 : Int) = r := by rw [← h]; unfold sgt; rw [if_pos (.inr h2)]
    clear h
    go_enter Tryz.func125, Tryz.ntmps125
    go_wp2
    go_ret
    exact ⟨rfl, rfl⟩
  by_cases h3 : greatest ≤ limit
  · obtain rfl : (2 : Int) = r := by rw [← h]; unfold sgt; rw [if_neg (by omega), if_pos h3]
    clear h
    go_enter Tryz.func125, Tryz.ntmps125
    go_wp2
    go_ret
    exact ⟨rfl, rfl⟩
  · obtain rfl : (1 : Int) = r := by rw [← h]; unfold sgt; rw [if_neg (by omega), if_neg h3]
    clear h
    go_enter Tryz.func125, Tryz.ntmps125
    go_wp2
    go_ret
    exact ⟨rfl, rfl⟩
theorem keyInt : Keyed Tryz.prog 3 := int_keyed Tryz.underlying3
theorem zeroInt (w : World) : (zeroValue 3).run Tryz.prog w = .ok (.int .i64 0) w := by kernel_rfl
/-- the map holds sights over gaps that are right -/
def TabOk (D : DataW Unit) (limit doubt : Int) : Prop := ∀ g : Int, has D (.int .i64 g) = true → D.atKey (.int .i64 g) (.lit (.int .i64 0)) = .lit (.int .i64 (sightI limit doubt g))
theorem TabOk_nil (limit doubt : Int) : TabOk (.map []) limit doubt := fun g h => by simp [has] at h
theorem TabOk_put {D : DataW Unit} {limit doubt : Int} (h : TabOk D limit doubt) (hm : IsMap D) (g : Int) : TabOk (D.put (.int .i64 g) (.lit (.int .i64 (sightI limit doubt g)))) limit doubt := by
  intro b hb
  by_cases e : g = b
  · subst e
    exact atKey_put_same hm (by trivial) _ _
  · have hne : (Lit.int .i64 b) ≠ Lit.int .i64 g := by intro e2; injection e2 with _ e3; omega
    rw [has_put_other hne] at hb
    rw [atKey_put_other hne]
    exact h b hb
/-- the table in block mb, its variable in tb, the limit in lb, the doubt in db -/
structure Tab (w : World) (mb tb lb db : Nat) (limit doubt : Int) (n : Nat) : Prop where
  m : ∃ D : DataW Unit, w.ownsMap Tryz.prog 3 (plainElem Tryz.prog 3) mb n D ∧ TabOk D limit doubt
  t : Blk w tb 166 #[.map (some mb)]
  l : Blk w lb 3 #[.int .i64 limit]
  d : Blk w db 3 #[.int .i64 doubt]
  nt : tb ≠ mb
  nl : lb ≠ mb
  nd : db ≠ mb
section
variable {w w' : World} {mb tb lb db n : Nat} {limit doubt : Int}
theorem Tab.lt (h : Tab w mb tb lb db limit doubt n) : mb < w.heap.size ∧ tb < w.heap.size ∧ lb < w.heap.size ∧ db < w.heap.size := by
  obtain ⟨D, hD, _⟩ := h.m
  exact ⟨hD.lt, h.t.lt, h.l.lt, h.d.lt⟩
theorem Tab.kept {row : Option Nat} (h : Tab w mb tb lb db limit doubt n) (hg : w.grownBy w' row) (hm : some mb ≠ row) (ht : some tb ≠ row) (hl : some lb ≠ row) (hd : some db ≠ row) : Tab w' mb tb lb db limit doubt n := by
  obtain ⟨D, hD, hok⟩ := h.m
  exact ⟨⟨D, hD.kept hg hm, hok⟩, h.t.grownR hg ht, h.l.grownR hg hl, h.d.grownR hg hd, h.nt, h.nl, h.nd⟩
theorem Tab.on (h : Tab w mb tb lb db limit doubt n) (hb : Below w.heap.size w w') : Tab w' mb tb lb db limit doubt n :=
  h.kept (grown_of_below hb none) (by simp) (by simp) (by simp) (by simp)
theorem Tab.drew (h : Tab w mb tb lb db limit doubt n) : Tab w.drew mb tb lb db limit doubt n := h.on (Below.refl _ _).drew
theorem Tab.more (h : Tab w mb tb lb db limit doubt n) {n' : Nat} (hn : n ≤ n') : Tab w mb tb lb db limit doubt n' := by
  obtain ⟨D, hD, hok⟩ := h.m
  exact ⟨⟨D, hD.mono hn, hok⟩, h.t, h.l, h.d, h.nt, h.nl, h.nd⟩
end
set_option maxRecDepth 100000 in
theorem isee (w : World) (mb tb lb db : Nat) (limit doubt : Int) (n : Nat) (h : Tab w mb tb lb db limit doubt n) (hn : n ≤ 1000000) (gap S : Int) (hg0 : 0 ≤ gap) (hg1 : gap ≤ 360) (hd0 : 0 ≤ doubt) (hd1 : doubt ≤ 360) (hS : sightI limit doubt gap = S) :
    Calls Tryz.prog 124 #[.int .i64 gap, .pointer (some ⟨tb, 0, none⟩), .pointer (some ⟨lb, 0, none⟩), .pointer (some ⟨db, 0, none⟩)] w fun e w' => e = .returned (.int .i64 S) ∧ Tab w' mb tb lb db limit doubt (n + 1) ∧ w.grownBy w' (some mb) := by
  have HT := Lib.hid h
  obtain ⟨⟨D, hown, hok⟩, ht, hl, hd, hnt, hnl, hnd⟩ := h
  have ct : w.cell? ⟨tb, 0, none⟩ = some (.map (some mb)) := ht.cell 0
  have cl : w.cell? ⟨lb, 0, none⟩ = some (.int .i64 limit) := hl.cell 0
  have cd : w.cell? ⟨db, 0, none⟩ = some (.int .i64 doubt) := hd.cell 0
  have hkey : keyOf Tryz.prog 3 (.int .i64 gap) = some (.int .i64 gap) := keyOf_int_mk Tryz.underlying3 (i64_wf (by omega) (by omega))
  have HS := Lib.hid hS
  have HW : Hid (sgt limit (gap - doubt) (gap + doubt) = S) := Lib.hid hS
  have hSb := sightI_bd limit doubt gap
  rw [hS] at hSb
  have HV : Hid ((Lit.int .i64 S).wf = true) := Lib.hid (i64_wf (by omega) (by omega))
  have HP : Hid (TabOk (D.put (.int .i64 gap) (.lit (.int .i64 S))) limit doubt) := Lib.hid (by rw [← hS]; exact TabOk_put hok hown.isMap gap)
  have HO := Lib.hid hok
  clear ht hl hd hnt hnl hnd hok hS
  cases hh : has D (.int .i64 gap)
  · go_enter Tryz.func124, Tryz.ntmps124
    go_wp2_with (at_lookup; refine wpList_lookup_own_ok_int _ rfl _ _ 166 rfl 3 3 .i64 keyInt Tryz.underlying166 Tryz.underlying3 (zeroInt _) mb n D rfl hown _ _ rfl hkey ?_; intro c hat hwc)
    refine (iwithin limit (gap - doubt) (gap + doubt) S _ HW.out).mono ?_
    rintro e w' ⟨rfl, rfl⟩
    go_wp2_with (at_mapUpdate; refine wpList_mapUpdate_own _ rfl _ _ _ 166 rfl 3 3 keyInt Tryz.underlying166 _ mb n D rfl hown (by unfold maxLen; omega) _ _ _ rfl rfl hkey _ [] (plainElem_int Tryz.underlying3 HV.out) ?_; intro w1 hown1 hgrow1)
    have HF : Hid (Tab w1 mb tb lb db limit doubt (n + 1) ∧ w.grownBy w1 (some mb)) := Lib.hid ⟨⟨⟨_, hown1, HP.out⟩, HT.out.t.grownR hgrow1 (fun e => HT.out.nt (by injection e)), HT.out.l.grownR hgrow1 (fun e => HT.out.nl (by injection e)), HT.out.d.grownR hgrow1 (fun e => HT.out.nd (by injection e)), HT.out.nt, HT.out.nl, HT.out.nd⟩, hgrow1⟩
    clear hown1 hgrow1
    go_wp2
    go_ret
    exact ⟨rfl, HF.out⟩
  · have HC : Hid (∀ c : Int, D.atKey (.int .i64 gap) (.lit (.int .i64 0)) = .lit (.int .i64 c) → S = c) := Lib.hid fun c hc => by
      have h1 := (HO.out gap hh).symm.trans hc
      rw [HS.out] at h1
      injection h1 with h1; injection h1
    go_enter Tryz.func124, Tryz.ntmps124
    go_wp2_with (at_lookup; refine wpList_lookup_own_ok_int _ rfl _ _ 166 rfl 3 3 .i64 keyInt Tryz.underlying166 Tryz.underlying3 (zeroInt _) mb n D rfl hown _ _ rfl hkey ?_; intro c hat hwc; have hsc := HC.out c hat; clear hat; subst hsc)
    go_ret
    exact ⟨rfl, HT.out.more (by omega), World.grownBy.refl _ _⟩
theorem itable (w : World) (limit doubt : Int) :
    Calls Tryz.prog 76 #[.int .i64 limit, .int .i64 doubt] w fun e w' => (∃ mb tb lb db, e = .returned (.func (.func 124) #[] #[.pointer (some ⟨tb, 0, none⟩), .pointer (some ⟨lb, 0, none⟩), .pointer (some ⟨db, 0, none⟩)]) ∧
      (w.heap.size ≤ mb ∧ w.heap.size ≤ tb ∧ w.heap.size ≤ lb ∧ w.heap.size ≤ db) ∧ Tab w' mb tb lb db limit doubt 0) ∧ Below w.heap.size w w' := by
  have hmf : ∀ (fn : Fn) (first cap : Array Value) (w : World), (Instr.makeFunc fn first cap).run Tryz.prog w = .ok (.func fn first cap) w := fun _ _ _ _ => rfl
  have hmm := @run_makeMap Tryz.prog
  obtain ⟨W1, hW1⟩ : ∃ W, W = (w.alloc (.cells #[.int .i64 limit] 3)).alloc (.cells #[.int .i64 doubt] 3) := ⟨_, rfl⟩
  have s1 : W1.heap.size = w.heap.size + 2 := by rw [hW1]; simp
  have l1 : Blk W1 w.heap.size 3 #[.int .i64 limit] := by rw [hW1]; exact (Blk.new _ _ _).alloc _
  have d1 : Blk W1 (w.heap.size + 1) 3 #[.int .i64 doubt] := by
    rw [hW1]
    have h := Blk.new (w.alloc (.cells #[.int .i64 limit] 3)) 3 #[.int .i64 doubt]
    simpa using h
  have b1 : Below w.heap.size w W1 := by rw [hW1]; exact ((Below.refl _ _).alloc (Nat.le_refl _) _).alloc (by simp) _
  have HF : Hid (Tab ((W1.alloc (.map #[] 0)).alloc (.cells #[.map (some (w.heap.size + 2))] 166)) (w.heap.size + 2) (w.heap.size + 3) w.heap.size (w.heap.size + 1) limit doubt 0 ∧
      Below w.heap.size w ((W1.alloc (.map #[] 0)).alloc (.cells #[.map (some (w.heap.size + 2))] 166))) := Lib.hid (by
    have hm := World.ownsMap_made (H := Unit) W1 Tryz.prog 3 (plainElem Tryz.prog 3)
    rw [s1] at hm
    have ht := Blk.new (W1.alloc (.map #[] 0)) 166 #[.map (some (w.heap.size + 2))]
    rw [World.size_alloc, s1] at ht
    exact ⟨⟨⟨_, hm.alloc _, TabOk_nil _ _⟩, ht, (l1.alloc _).alloc _, (d1.alloc _).alloc _, by omega, by omega, by omega⟩, (b1.alloc (by omega) _).alloc (by simp; omega) _⟩)
  clear l1 d1 b1
  go_enter Tryz.func76, Tryz.ntmps76
  go_wp2
  subst hW1
  go_ret
  refine ⟨⟨w.heap.size + 2, w.heap.size + 3, w.heap.size, w.heap.size + 1, ?_, ⟨by omega, by omega, by omega, by omega⟩, ?_⟩, ?_⟩
  · simp
  · simpa using HF.out.1
  · simpa using HF.out.2
end Go.Proofs.YtlaigbhiligceaaGreatDoor
