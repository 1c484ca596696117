/- The program's LinksAt: a map of the links that are listed already. -/
import Derived.Test.YtfnhfpahdgbfgaaGraphFacts
import Derived.Test.YtfnhfpahdgbfgaaSpanPut
import Derived.Test.YtfnhfpahdgbfgaaSpan
import Derived.Test.YtfnhfpahdgbfgaaApart
import Derived.Test.YtfnhfpahdgbfgaaMid
import Derived.Test.YtfnhfpahdgbfgaaContact
import Derived.DeepKeys4
import Derived.Maps.OwnOps
import Derived.Maps.Views
import Derived.Maps.OwnSet
import Derived.Deep.Cut
import Derived.Deep.DeepCutAuto
import Derived.Deep.CutRange
namespace Go.Proofs.Ytfnhfpahdgbfgaa
open Go.ChangeShapes Go.WideShapes Go.ChangeAt Go.RowKit Go.Maps
set_option linter.unusedVariables false
/-- what a function of the program that answers a list of links answers -/
def GivesL (w : World) (l : List (Int × Int)) (e : Ending) (w' : World) : Prop := ∃ A' n' c', e = .returned (.slice A' n' c') ∧ Own w' w.heap.size 59 2 A' n' c' (sv l) ∧ Below w.heap.size w w'
theorem linkL_info : (Try.prog.info? 59).map (fun i => (i.zero, i.size, i.bytes)) = some (some (.agg #[.int .i64 0, .int .i64 0]), 2, 16) := by kernel_rfl
/-- an element that is told by the value itself -/
def heldB (v : Value) : Option (DataW Value × List MemPlace) := some (.held v, [])
/-- a link as a key -/
def kv (r : Int × Int) : Value := .agg #[.int .i64 r.1, .int .i64 r.2]
theorem keyLinkL : WideMaps.KeyLaw Try.prog 59 := deep_law_laid (by kernel_rfl) (m := 2) (by omega) (of_decide_eq_true (by kernel_rfl)) (by kernel_rfl) (by kernel_rfl)
theorem keyLink : Keyed Try.prog 59 := Keyed.of_law keyLinkL
noncomputable def kl (r : Int × Int) : Lit := (keyOf Try.prog 59 (kv r)).getD (.bool false)
theorem kl_ty : Try.prog.keyType 59 = true := by kernel_rfl
theorem kl_cells : Try.prog.cellsOf 59 = 2 := by kernel_rfl
theorem kl_cellsI : Try.prog.cellsOf 3 = 1 := by kernel_rfl
theorem kl_some (r : Int × Int) (h1 : J64 r.1) (h2 : J64 r.2) : keyOf Try.prog 59 (kv r) = some (kl r) := by
  have e : ∃ l, keyOf Try.prog 59 (kv r) = some l := by
    have hw : ∀ z, J64 z → (Lit.int .i64 z).wf = true := fun z hz => by simp [Lit.wf, IntKind.min, IntKind.max, IntKind.bits, IntKind.signed]; unfold J64 at hz; omega
    have w1 := hw _ h1; have w2 := hw _ h2
    obtain ⟨m, hm⟩ : ∃ m, Try.prog.types.size = m + 1 := ⟨Try.prog.types.size - 1, by
      have : 0 < Try.prog.types.size := of_decide_eq_true (by kernel_rfl)
      omega⟩
    have hf : (kv r).formed Try.prog 59 = true := by
      simp only [kv, Value.formed, Try.underlying59, kl_cells]; rfl
    unfold keyOf
    simp only [Try.underlying59, kl_ty, hf, Bool.and_self, if_true, hm]
    simp [kv, Value.cells, Program.keyLits, Try.underlying59, Try.underlying3, kl_cells, kl_cellsI, w1, w2]
  obtain ⟨l, hl⟩ := e
  unfold kl; rw [hl]; rfl
theorem kl_inj {r s : Int × Int} (h1 : J64 r.1 ∧ J64 r.2) (h2 : J64 s.1 ∧ J64 s.2) (h : kl r = kl s) : r = s := by
  have a := kl_some r h1.1 h1.2; have b := kl_some s h2.1 h2.2
  rw [← h] at b
  have e := keyLink.inj a b
  obtain ⟨r1, r2⟩ := r; obtain ⟨s1, s2⟩ := s
  simpa [kv] using e
theorem kl_same {D : DataW Value} (hM : IsMap D) (r : Int × Int) (h : J64 r.1 ∧ J64 r.2) (d z : DataW Value) : (D.put (kl r) d).atKey (kl r) z = d := by
  have e := kl_some r h.1 h.2
  generalize kl r = l at e ⊢
  exact atKey_put_same hM (keyLink.key e) d z
theorem kl_other {D : DataW Value} {r s : Int × Int} (hr : J64 r.1 ∧ J64 r.2) (hs : J64 s.1 ∧ J64 s.2) (h : s ≠ r) (d z : DataW Value) : (D.put (kl r) d).atKey (kl s) z = D.atKey (kl s) z := by
  have hne : kl s ≠ kl r := fun e2 => h (kl_inj hs hr e2)
  generalize kl s = k at hne ⊢
  generalize kl r = k' at hne ⊢
  exact atKey_put_other hne d z
theorem zeroBool (w : World) : (zeroValue 4).run Try.prog w = .ok (.bool false) w := by kernel_rfl
/-- the map in block mb has just the links of L -/
structure Lm (w : World) (mb n : Nat) (L : List (Int × Int)) : Prop where
  m : ∃ D : DataW Value, w.ownsMap Try.prog 59 heldB mb n D ∧ ∀ r : Int × Int, J64 r.1 ∧ J64 r.2 → D.atKey (kl r) (.held (.bool false)) = .held (.bool (decide (r ∈ L)))
section
variable {w w' : World} {mb n : Nat} {L : List (Int × Int)}
theorem Lm.kept {row : Option Nat} (h : Lm w mb n L) (hg : w.grownBy w' row) (hne : some mb ≠ row) : Lm w' mb n L := by
  obtain ⟨D, hD, hh⟩ := h.m
  exact ⟨D, hD.kept hg hne, hh⟩
theorem Lm.on (h : Lm w mb n L) (hb : Below w.heap.size w w') : Lm w' mb n L := h.kept (grown_of_below hb none) (by simp)
theorem Lm.lt (h : Lm w mb n L) : mb < w.heap.size := by
  obtain ⟨D, hD, _⟩ := h.m
  exact hD.lt
theorem Lm.mono (h : Lm w mb n L) {m : Nat} (hm : n ≤ m) : Lm w mb m L := by
  obtain ⟨D, hD, hh⟩ := h.m
  exact ⟨D, hD.mono hm, hh⟩
theorem Lm.made (w : World) : Lm (w.alloc (.map #[] 0)) w.heap.size 0 [] :=
  ⟨.map [], World.ownsMap_made w _ _ _, fun r hr => by simp [DataW.atKey]⟩
theorem Lm.look (h : Lm w mb n L) (r : Int × Int) (hr : J64 r.1 ∧ J64 r.2) (b : Bool) (hb : decide (r ∈ L) = b) : (Instr.lookup 60 (.map (some mb)) (kv r) false).run Try.prog w = .ok (.bool b) w := by
  obtain ⟨D, hD, hh⟩ := h.m
  obtain ⟨v, ps, hrun, hv⟩ := hD.lookup keyLink Try.underlying60 (zeroBool w) (zd := .held (.bool false)) (zp := []) rfl (kl_some r hr.1 hr.2)
  rw [hh r hr, hb] at hv
  simp only [heldB, Option.some.injEq, Prod.mk.injEq, DataW.held.injEq] at hv
  rw [hrun, hv.1]
theorem Lm.put (h : Lm w mb n L) (hn : n < 100000000) (r : Int × Int) (hr : J64 r.1 ∧ J64 r.2) : ∃ w', (Instr.mapUpdate 60 (.map (some mb)) (kv r) (.bool true)).run Try.prog w = .ok () w' ∧ Lm w' mb (n + 1) (L ++ [r]) ∧ w.grownBy w' (some mb) := by
  obtain ⟨D, hD, hh⟩ := h.m
  obtain ⟨w', h1, h2, h3⟩ := hD.update keyLink Try.underlying60 (by unfold maxLen; omega) (kl_some r hr.1 hr.2) (val := .bool true) (d := .held (.bool true)) (ps := []) rfl
  have hM := hD.isMap
  refine ⟨w', h1, ⟨_, h2, ?_⟩, h3⟩
  intro s hs
  clear h1 h2 h3
  by_cases e : s = r
  · subst e
    rw [kl_same hM s hs]; simp
  · rw [kl_other hr hs e, hh s hs]; simp [e]
end
end Go.Proofs.Ytfnhfpahdgbfgaa
