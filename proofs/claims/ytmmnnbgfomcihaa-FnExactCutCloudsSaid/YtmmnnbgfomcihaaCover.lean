/- The program's covers of nodes, kept in a map behind a closure (coversOf). -/
import Derived.Test.YtmmnnbgfomcihaaCloudP
import Derived.Maps.OwnOps
import Derived.Maps.Views
import Derived.Maps.OwnSet
namespace Go.Proofs.Ytmmnnbgfomcihaa
open Go.ChangeShapes Go.WideShapes Go.ChangeAt Go.RowKit Go.Maps
set_option linter.unusedVariables false
/-- an element that is told by the value itself -/
def heldV (v : Value) : Option (DataW Value × List MemPlace) := some (.held v, [])
section
variable {P : Program} (w : World) {ops : Array Oper} {rest : List Oper} {o : Oper} {a : Act} {Q : Exit → Act → World → Prop}
/-- a look-up with 'ok' in a map of such elements: what it finds is known -/
theorem wpList_lookup_held (hg : o.guard = none) (m x : Operand) (t : TypeId) (hop : o.op = Op.lookup t m x true)
    (k e : TypeId) (K : Keyed P k) (ht : P.underlying t = some (.map k e)) (z : Value) (hz : (zeroValue e).run P w = .ok z w) (b n : Nat) (D : DataW Value)
    (hm : a.eval m = .map (some b)) (hown : w.ownsMap P k heldV b n D) (key : Value) (kl : Lit) (hx : a.eval x = key) (hkey : keyOf P k key = some kl) (u : Value) (v : Bool) (hh : Maps.has D kl = v) (hat : D.atKey kl (.held z) = .held u)
    (hK : wpList P ops Q rest (a.put o.dst (.tuple #[u, .bool v])) w) :
    wpList P ops Q (o :: rest) a w :=
  wpList_lookup_own_ok w hg m x t hop k e K ht heldV hz (.held z) [] rfl b n D hm hown key kl hx hkey (fun y ps hy => by
    unfold heldV at hy
    rw [hat] at hy
    simp only [Option.some.injEq, Prod.mk.injEq, DataW.held.injEq] at hy
    obtain ⟨rfl, _⟩ := hy
    rw [hh]; exact hK)
end
/-- a slice of spans that lies in a block of X -/
structure SlX (w : World) (X : Nat → Prop) (mb : Nat) (A : Option Addr) (n c : Nat) (xs : List Value) : Prop where
  sl : Sl w w.heap.size 2 A n c xs
  x : ∀ a, A = some a → X a.block ∧ a.block ≠ mb
theorem SlX.kept {w w' : World} {X X' : Nat → Prop} {mb n c : Nat} {A : Option Addr} {xs : List Value} {row : Option Nat} (h : SlX w X mb A n c xs) (hg : w.grownBy w' row) (hr : ∀ r, row = some r → r = mb ∨ ¬ X r) (hX : ∀ b, X b → X' b) : SlX w' X' mb A n c xs := by
  refine ⟨⟨h.sl.len, fun hn => ?_, h.sl.cap, h.sl.capm, h.sl.nil⟩, fun a e => ⟨hX _ (h.x a e).1, (h.x a e).2⟩⟩
  obtain ⟨ad, e, hb, hc⟩ := h.sl.rd hn
  refine ⟨ad, e, Nat.lt_of_lt_of_le hb hg.size, fun j u hu => ?_⟩
  rw [← hc j u hu]
  unfold World.cell?
  rw [block_of_add, hg.block ad.block hb fun er => ?_]
  have := h.x ad e
  rcases hr _ er.symm with h1 | h1
  · exact this.2 h1
  · exact h1 this.1
theorem SlX.on {w w' : World} {X : Nat → Prop} {mb n c : Nat} {A : Option Addr} {xs : List Value} (h : SlX w X mb A n c xs) (hb : Below w.heap.size w w') : SlX w' X mb A n c xs := h.kept (grown_of_below hb none) (fun r e => by cases e) fun _ h => h
theorem keyIntC : Keyed Try.prog 3 := int_keyed Try.underlying3
theorem zeroSpans (w : World) : (zeroValue 35).run Try.prog w = .ok (.slice none 0 0) w := by kernel_rfl
/-- the map in block mb, its variable in tb, the clouds' in lb; all blocks of it, and of what it holds, are in X -/
structure Cov (w : World) (X : Nat → Prop) (mb tb lb n D0 : Nat) (A' : Option Addr) (n' c' : Nat) (cl : List Tri) : Prop where
  bd : ∀ b, X b → b < w.heap.size ∧ D0 ≤ b
  xs : X mb ∧ X tb ∧ X lb
  m : ∃ D : DataW Value, w.ownsMap Try.prog 3 heldV mb n D ∧ ∀ g : Int, Maps.has D (.int .i64 g) = true → ∃ A k c, D.atKey (.int .i64 g) (.held (.slice none 0 0)) = .held (.slice A k c) ∧ SlX w X mb A k c (sv (cloudS cl g))
  t : Blk w tb 91 #[.map (some mb)]
  l : Blk w lb 25 #[.slice A' n' c']
  s : Sl w D0 3 A' n' c' (fl c3 cl)
  ne : tb ≠ mb ∧ lb ≠ mb
section
variable {w w' : World} {X X' : Nat → Prop} {mb tb lb n D0 n' c' : Nat} {A' : Option Addr} {cl : List Tri}
theorem Cov.kept {row : Option Nat} (h : Cov w X mb tb lb n D0 A' n' c' cl) (hg : w.grownBy w' row) (hr : ∀ r, row = some r → ¬ X r ∧ D0 ≤ r) : Cov w' X mb tb lb n D0 A' n' c' cl := by
  have hne : ∀ b, X b → some b ≠ row := fun b hb e => (hr b e.symm).1 hb
  obtain ⟨D, hD, hh⟩ := h.m
  refine ⟨fun b hb => ⟨Nat.lt_of_lt_of_le (h.bd b hb).1 hg.size, (h.bd b hb).2⟩, h.xs, ⟨D, hD.kept hg (hne _ h.xs.1), fun g hgg => ?_⟩, (hg.block tb h.t.lt (hne _ h.xs.2.1)).trans h.t, (hg.block lb h.l.lt (hne _ h.xs.2.2)).trans h.l, h.s.keep fun q hq => ?_, h.ne⟩
  · obtain ⟨A, k, c, e, hs⟩ := hh g hgg
    exact ⟨A, k, c, e, hs.kept hg (fun r er => .inr (hr r er).1) fun _ h => h⟩
  · unfold World.cell?
    rw [hg.block q.block ?_ fun er => ?_]
    · have := h.bd mb h.xs.1; omega
    · have := hr _ er.symm; omega
theorem Cov.on (h : Cov w X mb tb lb n D0 A' n' c' cl) (hb : Below w.heap.size w w') : Cov w' X mb tb lb n D0 A' n' c' cl := h.kept (grown_of_below hb none) fun r e => by cases e
end
set_option maxRecDepth 100000 in
set_option maxHeartbeats 1000000 in
theorem icover (w : World) (X : Nat → Prop) (mb tb lb n D0 : Nat) (A' : Option Addr) (n' c' : Nat) (cl : List Tri) (h : Cov w X mb tb lb n D0 A' n' c' cl) (hn : n ≤ 100000000) (hn' : n' ≤ 16777216) (v : Int) (hv : J64 v) :
    Calls Try.prog 62 #[.int .i64 v, .pointer (some ⟨tb, 0, none⟩), .pointer (some ⟨lb, 0, none⟩)] w fun e w' => ∃ A k c X', e = .returned (.slice A k c) ∧ Cov w' X' mb tb lb (n + 1) D0 A' n' c' cl ∧ SlX w' X' mb A k c (sv (cloudS cl v)) ∧ (∀ b, X b → X' b) ∧ (∀ b, X' b → X b ∨ w.heap.size ≤ b) ∧ w.grownBy w' (some mb) := by
  have HT := Lib.hid h
  obtain ⟨D, hown, hh⟩ := h.m
  have ct : w.cell? ⟨tb, 0, none⟩ = some (.map (some mb)) := h.t.cell 0
  have cl' : w.cell? ⟨lb, 0, none⟩ = some (.slice A' n' c') := h.l.cell 0
  have hkey : keyOf Try.prog 3 (.int .i64 v) = some (.int .i64 v) := keyOf_int_mk Try.underlying3 (by simp [Lit.wf, IntKind.min, IntKind.max, IntKind.bits, IntKind.signed]; unfold J64 at hv; omega)
  have HH := Lib.hid hh
  clear h hh
  cases hb : Maps.has D (.int .i64 v)
  · have hat := atKey_of_not_has hb (.held (.slice none 0 0))
    have HHAT := Lib.hid hat; have HHB := Lib.hid hb
    have HOWN := Lib.hid hown
    clear hat hb
    go_enter Try.func62, Try.ntmps62
    go_wp2_with (at_lookup; refine wpList_lookup_held _ rfl _ _ 91 rfl 3 35 keyIntC Try.underlying91 _ (zeroSpans _) mb n D rfl HOWN.out _ _ rfl hkey (.slice none 0 0) false HHB.out HHAT.out ?_)
    refine (icloud w D0 A' n' c' cl HT.out.s (by have := HT.out.bd mb HT.out.xs.1; omega) hn' v).mono ?_
    rintro e w1 ⟨A, k, c, rfl, o1, b1⟩
    have HO1 := Lib.hid o1; have HB1 := Lib.hid b1
    have HM1 := Lib.hid (hown.kept (grown_of_below b1 none) (by simp))
    have HC1 := Lib.hid (HT.out.on b1)
    have ct1 : w1.cell? ⟨tb, 0, none⟩ = some (.map (some mb)) := HC1.out.t.cell 0
    clear o1 b1 ct cl' hown
    go_wp2_with (at_mapUpdate; go_loud (refine wpList_mapUpdate_own _ rfl _ _ _ 91 rfl 3 35 keyIntC Try.underlying91 heldV mb n D rfl HM1.out (by unfold maxLen; omega) _ _ _ rfl rfl hkey (.held (.slice A k c)) [] rfl ?_; intro w2 hown2 hgrow2; have HM2 := Lib.hid hown2; have HG2 := Lib.hid hgrow2; clear hown2 hgrow2))
    go_ret
    have hsz := HG2.out.size
    have hsz1 := HB1.out.size
    have hform := HO1.out.form
    have hmb := HT.out.bd mb HT.out.xs.1
    have hS : SlX w1 (fun b => X b ∨ (w.heap.size ≤ b ∧ b < w1.heap.size)) mb A k c (sv (cloudS cl v)) := ⟨HO1.out.sl, fun a e => by
      rcases hform with ⟨e1, _⟩ | ⟨g, e1, h1, h2, _⟩
      · rw [e1] at e; cases e
      · rw [e1] at e; injection e with e; subst e
        exact ⟨.inr ⟨h1, h2⟩, by simp; omega⟩⟩
    have hX : ∀ b, X b → X b ∨ (w.heap.size ≤ b ∧ b < w1.heap.size) := fun b hb => .inl hb
    have hS2 := hS.kept HG2.out (X' := fun b => X b ∨ (w.heap.size ≤ b ∧ b < w1.heap.size)) (fun r e => .inl (by injection e with e; exact e.symm)) fun _ h => h
    refine ⟨A, k, c, fun b => X b ∨ (w.heap.size ≤ b ∧ b < w1.heap.size), rfl, ?_, hS2, hX, fun b hb => hb.imp id fun h => h.1, ?_⟩
    · refine ⟨fun b hb => ?_, ⟨.inl HT.out.xs.1, .inl HT.out.xs.2.1, .inl HT.out.xs.2.2⟩, ⟨_, HM2.out, fun g hg => ?_⟩, (HG2.out.block tb HC1.out.t.lt (fun e => HT.out.ne.1 (by injection e))).trans HC1.out.t, (HG2.out.block lb HC1.out.l.lt (fun e => HT.out.ne.2 (by injection e))).trans HC1.out.l, HC1.out.s.keep fun q hq => ?_, HT.out.ne⟩
      · rcases hb with hb | hb
        · have := HT.out.bd b hb; omega
        · omega
      · by_cases e : g = v
        · subst e
          exact ⟨A, k, c, atKey_put_same HM1.out.isMap (by trivial) _ _, hS2⟩
        · have hne : (Lit.int .i64 g) ≠ Lit.int .i64 v := by intro e2; injection e2 with _ e3; exact e e3
          rw [has_put_other hne] at hg
          obtain ⟨A2, k2, c2, e2, s2⟩ := HH.out g hg
          exact ⟨A2, k2, c2, by rw [atKey_put_other hne]; exact e2, ((s2.on HB1.out).kept HG2.out (fun r e => .inl (by injection e with e; exact e.symm)) hX)⟩
      · unfold World.cell?
        rw [HG2.out.block q.block (by omega) fun er => ?_]
        injection er with er
        omega
    · exact (grown_of_below HB1.out (some mb)).trans HG2.out
  · obtain ⟨A, k, c, hat, hs⟩ := HH.out v hb
    have HHAT := Lib.hid hat; have HHB := Lib.hid hb
    have HS := Lib.hid hs
    clear hat hb hs
    go_enter Try.func62, Try.ntmps62
    go_wp2_with (at_lookup; refine wpList_lookup_held _ rfl _ _ 91 rfl 3 35 keyIntC Try.underlying91 _ (zeroSpans _) mb n D rfl hown _ _ rfl hkey (.slice A k c) true HHB.out HHAT.out ?_)
    go_ret
    obtain ⟨D2, hD2, h2⟩ := HT.out.m
    exact ⟨A, k, c, X, rfl, ⟨HT.out.bd, HT.out.xs, ⟨D2, hD2.mono (by omega), h2⟩, HT.out.t, HT.out.l, HT.out.s, HT.out.ne⟩, HS.out, fun _ h => h, fun _ h => .inl h, World.grownBy.refl _ _⟩
theorem icovers (w : World) (D0 : Nat) (A' : Option Addr) (n' c' : Nat) (cl : List Tri) (h : Sl w D0 3 A' n' c' (fl c3 cl)) (hD : D0 ≤ w.heap.size) :
    Calls Try.prog 35 #[.slice A' n' c'] w fun e w' => (∃ X mb tb lb, e = .returned (.func (.func 62) #[] #[.pointer (some ⟨tb, 0, none⟩), .pointer (some ⟨lb, 0, none⟩)]) ∧ Cov w' X mb tb lb 0 D0 A' n' c' cl ∧ ∀ b, X b → w.heap.size ≤ b) ∧ Below w.heap.size w w' := by
  have hmf : ∀ (fn : Fn) (first cap : Array Value) (w : World), (Instr.makeFunc fn first cap).run Try.prog w = .ok (.func fn first cap) w := fun _ _ _ _ => rfl
  have hmm := @run_makeMap Try.prog
  obtain ⟨W1, hW1⟩ : ∃ W, W = w.alloc (.cells #[.slice A' n' c'] 25) := ⟨_, rfl⟩
  have s1 : W1.heap.size = w.heap.size + 1 := by rw [hW1]; simp
  have l1 : Blk W1 w.heap.size 25 #[.slice A' n' c'] := by rw [hW1]; exact Blk.new _ _ _
  have b1 : Below w.heap.size w W1 := by rw [hW1]; exact (Below.refl _ _).alloc (Nat.le_refl _) _
  have HF : Hid (Cov ((W1.alloc (.map #[] 0)).alloc (.cells #[.map (some (w.heap.size + 1))] 91)) (fun b => w.heap.size ≤ b ∧ b < w.heap.size + 3) (w.heap.size + 1) (w.heap.size + 2) w.heap.size 0 D0 A' n' c' cl ∧
      Below w.heap.size w ((W1.alloc (.map #[] 0)).alloc (.cells #[.map (some (w.heap.size + 1))] 91))) := Lib.hid (by
    have hm := World.ownsMap_made (H := Value) W1 Try.prog 3 heldV
    rw [s1] at hm
    have ht := Blk.new (W1.alloc (.map #[] 0)) 91 #[.map (some (w.heap.size + 1))]
    rw [World.size_alloc, s1] at ht
    have hb : Below w.heap.size w ((W1.alloc (.map #[] 0)).alloc (.cells #[.map (some (w.heap.size + 1))] 91)) := (b1.alloc (by omega) _).alloc (by simp; omega) _
    refine ⟨⟨fun b hb => ⟨by simp [s1]; omega, by omega⟩, ⟨by omega, by omega, by omega⟩, ⟨_, hm.alloc _, fun g hg => ?_⟩, ht, (l1.alloc _).alloc _, h.below hb hD, by omega, by omega⟩, hb⟩
    simp [Maps.has] at hg)
  clear l1 b1
  go_enter Try.func35, Try.ntmps35
  go_wp2
  subst hW1
  go_ret
  refine ⟨⟨fun b => w.heap.size ≤ b ∧ b < w.heap.size + 3, w.heap.size + 1, w.heap.size + 2, w.heap.size, ?_, ?_, fun b hb => hb.1⟩, ?_⟩
  · simp
  · simpa using HF.out.1
  · simpa using HF.out.2
end Go.Proofs.Ytmmnnbgfomcihaa
