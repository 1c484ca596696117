/- Maps with integers as keys and any element (map[int]T), made by the call itself: what each key holds, stores, look-ups, and a range over one in whatever order. -/
import Derived.Test.YtjobjjmeneddnaaPathFacts
import Derived.Test.YtjobjjmeneddnaaApart
import Derived.DeepKeys4
import Derived.Maps.OwnOps
import Derived.Maps.Views
import Derived.Maps.OwnSet
import Derived.Maps.RangeWalk
namespace Go.Proofs.Ytjobjjmeneddnaa
open Go.ChangeShapes Go.WideShapes Go.ChangeAt Go.RowKit Go.Maps
set_option linter.unusedVariables false
/-- an element that is told by the value itself -/
def heldI (v : Value) : Option (DataW Value × List MemPlace) := some (.held v, [])
theorem wf_keyI (z : Int) : (Lit.int .i64 z).wf = true ↔ J64 z := by
  unfold J64
  constructor
  · intro h
    simp [Lit.wf, IntKind.min, IntKind.max, IntKind.bits, IntKind.signed] at h
    omega
  · intro h
    simp [Lit.wf, IntKind.min, IntKind.max, IntKind.bits, IntKind.signed]
    omega
theorem keyIntM : Keyed Try.prog 3 := int_keyed Try.underlying3
theorem ki_some {z : Int} (h : J64 z) : keyOf Try.prog 3 (.int .i64 z) = some (.int .i64 z) := keyOf_int_mk Try.underlying3 ((wf_keyI z).2 h)
theorem ki_key (z : Int) : WideAt.IsKeyLit (.int .i64 z) := by simp [WideAt.IsKeyLit]
theorem ki_ne {x z : Int} (h : x ≠ z) : (Lit.int .i64 x) ≠ .int .i64 z := fun e => h (by injection e)
/-- a map as read holds just what g says, at every key -/
structure Holds (D : DataW Value) (g : Int → Option Value) : Prop where
  has : ∀ z, J64 z → has D (.int .i64 z) = (g z).isSome
  val : ∀ z v, J64 z → g z = some v → ∀ zd, D.atKey (.int .i64 z) zd = .held v
/-- the map in block mb holds just what g says -/
structure Mi (w : World) (mb n : Nat) (g : Int → Option Value) : Prop where
  m : ∃ D : DataW Value, w.ownsMap Try.prog 3 heldI mb n D ∧ Holds D g
/-- a range over the map in block mb is under way; left says which keys are still to come -/
structure Ri (w : World) (mb r n : Nat) (g : Int → Option Value) (left : Int → Bool) (cnt : Nat) : Prop where
  m : ∃ (D : DataW Value) (L : Lit → Bool), w.ranges Try.prog 3 heldI mb r n D L cnt ∧ Holds D g ∧ ∀ z, J64 z → L (.int .i64 z) = left z
section
variable {w w' : World} {mb n r cnt : Nat} {g : Int → Option Value} {left : Int → Bool}
theorem Mi.kept {row : Option Nat} (h : Mi w mb n g) (hg : w.grownBy w' row) (hne : some mb ≠ row) : Mi w' mb n g := by
  obtain ⟨D, hD, hh⟩ := h.m
  exact ⟨D, hD.kept hg hne, hh⟩
theorem Mi.on (h : Mi w mb n g) (hb : Below w.heap.size w w') : Mi w' mb n g := h.kept (grown_of_below hb none) (by simp)
theorem Mi.lt (h : Mi w mb n g) : mb < w.heap.size := by
  obtain ⟨D, hD, _⟩ := h.m
  exact hD.lt
theorem Mi.mono (h : Mi w mb n g) {m : Nat} (hm : n ≤ m) : Mi w mb m g := by
  obtain ⟨D, hD, hh⟩ := h.m
  exact ⟨D, hD.mono hm, hh⟩
theorem Mi.made (w : World) : Mi (w.alloc (.map #[] 0)) w.heap.size 0 (fun _ => none) :=
  ⟨.map [], World.ownsMap_made w _ _ _, ⟨fun z hz => rfl, fun z v hz h => by cases h⟩⟩
set_option maxRecDepth 100000 in
theorem Mi.look {t e : TypeId} (h : Mi w mb n g) (ht : Try.prog.underlying t = some (.map 3 e)) {z0 : Value} (hz : (zeroValue e).run Try.prog w = .ok z0 w) (z : Int) (hj : J64 z) :
    (Instr.lookup t (.map (some mb)) (.int .i64 z) false).run Try.prog w = .ok ((g z).getD z0) w := by
  obtain ⟨D, hD, hh⟩ := h.m
  obtain ⟨v, ps, hrun, hv⟩ := hD.lookup keyIntM ht hz (zd := .held z0) (zp := []) rfl (ki_some hj)
  rw [hrun]
  have e : DataW.held v = D.atKey (.int .i64 z) (.held z0) := by
    simp only [heldI, Option.some.injEq, Prod.mk.injEq] at hv
    exact hv.1
  cases hg : g z with
  | none =>
    have := hh.has z hj
    rw [hg] at this
    rw [atKey_of_not_has this] at e
    injection e with e
    rw [e]; rfl
  | some u =>
    rw [hh.val z u hj hg] at e
    injection e with e
    rw [e]; rfl
set_option maxRecDepth 100000 in
theorem Mi.look_ok {t e : TypeId} (h : Mi w mb n g) (ht : Try.prog.underlying t = some (.map 3 e)) {z0 : Value} (hz : (zeroValue e).run Try.prog w = .ok z0 w) (z : Int) (hj : J64 z) :
    (Instr.lookup t (.map (some mb)) (.int .i64 z) true).run Try.prog w = .ok (.tuple #[(g z).getD z0, .bool (g z).isSome]) w := by
  obtain ⟨D, hD, hh⟩ := h.m
  obtain ⟨v, ps, hrun, hv⟩ := hD.look_ok keyIntM ht hz (zd := .held z0) (zp := []) rfl (ki_some hj)
  rw [hrun, hh.has z hj]
  have e : DataW.held v = D.atKey (.int .i64 z) (.held z0) := by
    simp only [heldI, Option.some.injEq, Prod.mk.injEq] at hv
    exact hv.1
  cases hg : g z with
  | none =>
    have := hh.has z hj
    rw [hg] at this
    rw [atKey_of_not_has this] at e
    injection e with e
    rw [e]; rfl
  | some u =>
    rw [hh.val z u hj hg] at e
    injection e with e
    rw [e]; rfl
theorem Mi.put {t e : TypeId} (h : Mi w mb n g) (ht : Try.prog.underlying t = some (.map 3 e)) (hn : n < 100000000) (z : Int) (hj : J64 z) (v : Value) :
    ∃ w', (Instr.mapUpdate t (.map (some mb)) (.int .i64 z) v).run Try.prog w = .ok () w' ∧ Mi w' mb (n + 1) (fun x => if x = z then some v else g x) ∧ w.grownBy w' (some mb) := by
  obtain ⟨D, hD, hh⟩ := h.m
  obtain ⟨w', h1, h2, h3⟩ := hD.update keyIntM ht (by unfold maxLen; omega) (ki_some hj) (val := v) (d := .held v) (ps := []) rfl
  have hM := hD.isMap
  refine ⟨w', h1, ⟨_, h2, ⟨fun x hx => ?_, fun x u hx hu zd => ?_⟩⟩, h3⟩
  · by_cases e : x = z
    · subst e
      rw [has_put_same hM (ki_key _)]; simp
    · rw [has_put_other (ki_ne e), if_neg e, hh.has x hx]
  · by_cases e : x = z
    · subst e
      rw [if_pos rfl] at hu
      cases hu
      rw [atKey_put_same hM (ki_key _)]
    · rw [if_neg e] at hu
      rw [atKey_put_other (ki_ne e), hh.val x u hx hu]
/-- 'range m' -/
theorem Mi.range {t e : TypeId} (h : Mi w mb n g) (ht : Try.prog.underlying t = some (.map 3 e)) :
    ∃ w' cnt, (Instr.range t (.map (some mb))).run Try.prog w = .ok (.pointer (some ⟨w.heap.size, 0, none⟩)) w' ∧ Ri w' mb w.heap.size n g (fun z => (g z).isSome) cnt ∧ w.grownBy w' none ∧ w'.heap.size = w.heap.size + 1 := by
  obtain ⟨D, hD, hh⟩ := h.m
  obtain ⟨w', h1, h2, h3, h4⟩ := hD.range keyIntM ht
  exact ⟨w', _, h1, ⟨D, _, h2, hh, hh.has⟩, h3, h4⟩
theorem Ri.mi (h : Ri w mb r n g left cnt) : Mi w mb n g := by
  obtain ⟨D, L, hr, hh, _⟩ := h.m
  exact ⟨D, hr.owns, hh⟩
theorem Ri.left_eq (h : Ri w mb r n g left cnt) : w.rangeLeft mb r = cnt := by
  obtain ⟨D, L, hr, _⟩ := h.m
  exact hr.left_eq
theorem Ri.lt (h : Ri w mb r n g left cnt) : r < w.heap.size := by
  obtain ⟨D, L, hr, _⟩ := h.m
  exact hr.lt
theorem Ri.kept {row : Option Nat} (h : Ri w mb r n g left cnt) (hg : w.grownBy w' row) (hb : some mb ≠ row) (hr' : some r ≠ row) : Ri w' mb r n g left cnt := by
  obtain ⟨D, L, hr, hh, hl⟩ := h.m
  exact ⟨D, L, hr.kept hg hb hr', hh, hl⟩
theorem Ri.on (h : Ri w mb r n g left cnt) (hb : Below w.heap.size w w') : Ri w' mb r n g left cnt := h.kept (grown_of_below hb none) (by simp) (by simp)
set_option maxRecDepth 100000 in
/-- the step: nothing is left, or some key that is left comes out, with what it holds -/
theorem Ri.next (h : Ri w mb r n g left cnt) (ty : TypeId) :
    ((∀ z, J64 z → left z = false) ∧ (Instr.next (.pointer (some ⟨r, 0, none⟩)) false ty).run Try.prog w = .ok (.tuple #[.bool false]) w) ∨
    ∃ x v w' cnt', J64 x ∧ left x = true ∧ g x = some v ∧ (Instr.next (.pointer (some ⟨r, 0, none⟩)) false ty).run Try.prog w = .ok (.tuple #[.bool true, .int .i64 x, v]) w' ∧
      Ri w' mb r n g (fun z => left z && !decide (z = x)) cnt' ∧ cnt' < cnt ∧ w.grownBy w' (some r) ∧ w'.heap.size = w.heap.size ∧ (Instr.entry (.pointer (some ⟨r, 0, none⟩))).run Try.prog w' = .ok (.tuple #[.int .i64 x, v]) w' := by
  obtain ⟨D, L, hr, hh, hl⟩ := h.m
  rcases hr.next keyIntM ty with ⟨h0, hL, hrun⟩ | ⟨key, v, kl, y, w', cnt', hkey, hlk, hv, hat, hrun, hrg, hlt, hgr, hsz, hen⟩
  · exact .inl ⟨fun z hz => by rw [← hl z hz, hL], hrun⟩
  · obtain ⟨x, rfl, rfl, hw⟩ := keyOf_int_inv Try.underlying3 hkey
    have hx := (wf_keyI x).1 hw
    have hs : (g x).isSome = true := by rw [← hh.has x hx]; exact has_true_of_atKey hat
    obtain ⟨u, hu⟩ := Option.isSome_iff_exists.1 hs
    have e : v = u := by
      have h1 := hat .nil
      rw [hh.val x u hx hu] at h1
      have h2 : heldI v = some (.held v, []) := rfl
      rw [h2] at hv
      cases hv
      injection h1 with h1
      exact h1.symm
    subst e
    refine .inr ⟨x, v, w', cnt', hx, by rw [← hl x hx]; exact hlk, hu, hrun, ⟨D, _, hrg, hh, fun z hz => ?_⟩, hlt, hgr, hsz, hen⟩
    show (L (.int .i64 z) && !(Lit.int .i64 z).sameKey (.int .i64 x)) = _
    rw [hl z hz]
    congr 1
    by_cases e : z = x <;> simp [Lit.sameKey, e]
end
/-- how many keys of K that p tells have come out -/
def came (K : List Int) (p : Int → Bool) (left : Int → Bool) : Nat := K.countP (fun x => p x && !left x)
theorem came_le {K : List Int} (p left : Int → Bool) {k : Nat} (h : K.length ≤ k) : came K p left ≤ k := Nat.le_trans List.countP_le_length h
theorem came_start {K : List Int} {p left : Int → Bool} (h : ∀ x ∈ K, left x = true) : came K p left = 0 := by
  unfold came
  rw [List.countP_eq_zero]
  intro x hx
  simp [h x hx]
theorem came_end {K : List Int} {p left : Int → Bool} (h : ∀ x ∈ K, left x = false) : came K p left = K.countP p := by
  unfold came
  apply List.countP_congr
  intro x hx
  simp [h x hx]
theorem came_other {p left : Int → Bool} {x : Int} : ∀ (K : List Int), x ∉ K → came K p (fun z => left z && !decide (z = x)) = came K p left := by
  intro K hx
  unfold came
  apply List.countP_congr
  intro z hz
  have : z ≠ x := fun e => hx (e ▸ hz)
  simp [this]
theorem came_step {p left : Int → Bool} {x : Int} (hl : left x = true) : ∀ (K : List Int), K.Nodup → x ∈ K → came K p (fun z => left z && !decide (z = x)) = came K p left + if p x = true then 1 else 0 := by
  intro K
  induction K with
  | nil => intro _ h; cases h
  | cons y K ih =>
    intro hn hx
    obtain ⟨hy, hn'⟩ := List.nodup_cons.1 hn
    have e1 : ∀ l : Int → Bool, came (y :: K) p l = came K p l + if (p y && !l y) = true then 1 else 0 := fun l => by unfold came; rw [List.countP_cons]
    rw [e1, e1]
    by_cases e : y = x
    · subst e
      rw [came_other K hy]
      simp [hl]
    · have hx' : x ∈ K := by rcases List.mem_cons.1 hx with h | h; exact absurd h.symm e; exact h
      rw [ih hn' hx']
      simp [e]
      omega
section
variable (w : World) {ops : Array Oper} {rest : List Oper} {o : Oper} {a : Act} {Q : Exit → Act → World → Prop}
/-- 'm[z] = v': `(at_mapUpdate; refine wpList_put_mi _ rfl (.tmp i) (.tmp j) (.tmp k) T rfl E A.underlyingT mb n g rfl hM (by omega) z v rfl rfl hz ?_; intro w1 hM1 hg1)` -/
theorem wpList_put_mi (hg : o.guard = none) (m x v : Operand) (t : TypeId) (hop : o.op = Op.mapUpdate t m x v) (e : TypeId) (ht : Try.prog.underlying t = some (.map 3 e)) (mb n : Nat) (g : Int → Option Value)
    (hm : a.eval m = .map (some mb)) (h : Mi w mb n g) (hn : n < 100000000) (z : Int) (u : Value) (hx : a.eval x = .int .i64 z) (hv : a.eval v = u) (hz : J64 z)
    (hK : ∀ w', Mi w' mb (n + 1) (fun y => if y = z then some u else g y) → w.grownBy w' (some mb) → wpList Try.prog ops Q rest (a.put o.dst undef) w') : wpList Try.prog ops Q (o :: rest) a w := by
  refine wpList_plain hg fun K' hK' => ?_
  obtain ⟨w', hrun, r1, r2⟩ := h.put ht hn z hz u
  unfold Oper.wp
  simp [execOp, hop, hm, hx, hv, hrun, Result.andThen]
  exact hK' _ _ (hK w' r1 r2)
/-- 'range m': `(at_range; refine wpList_range_mi _ rfl (.tmp i) T rfl E A.underlyingT mb n g rfl hM ?_; intro w0 cnt0 hr0 hg0 hs0)`, then go_frame -/
theorem wpList_range_mi (hg : o.guard = none) (m : Operand) (t : TypeId) (hop : o.op = Op.range t m) (e : TypeId) (ht : Try.prog.underlying t = some (.map 3 e)) (mb n : Nat) (g : Int → Option Value)
    (hm : a.eval m = .map (some mb)) (h : Mi w mb n g)
    (hK : ∀ w' cnt, Ri w' mb w.heap.size n g (fun z => (g z).isSome) cnt → w.grownBy w' none → w'.heap.size = w.heap.size + 1 → wpList Try.prog ops Q rest (a.put o.dst (.pointer (some ⟨w.heap.size, 0, none⟩))) w') : wpList Try.prog ops Q (o :: rest) a w := by
  refine wpList_plain hg fun K' hK' => ?_
  obtain ⟨w', cnt, hrun, r1, r2, r3⟩ := h.range ht
  unfold Oper.wp
  simp [execOp, hop, hm, hrun, Result.andThen]
  exact hK' _ _ (hK w' cnt r1 r2 r3)
/-- the step; val tells how a value that the map holds is written (g x = some (mk c)): `(at_next; refine wpList_next_ri _ rfl (.tmp i) rfl mb r n g left cnt mk hval rfl hr ?_ ?_)`: two goals -/
theorem wpList_next_ri {β : Type} (hg : o.guard = none) (it : Operand) (hop : o.op = Op.next it false) (mb r n : Nat) (g : Int → Option Value) (left : Int → Bool) (cnt : Nat) (mk : β → Value) (hval : ∀ z v, J64 z → g z = some v → ∃ c, v = mk c)
    (hit : a.eval it = .pointer (some ⟨r, 0, none⟩)) (h : Ri w mb r n g left cnt)
    (hDone : (∀ z, J64 z → left z = false) → wpList Try.prog ops Q rest (a.put o.dst (.tuple #[.bool false])) w)
    (hMore : ∀ (x : Int) (c : β) (w' : World) (cnt' : Nat), J64 x → left x = true → g x = some (mk c) → Ri w' mb r n g (fun z => left z && !decide (z = x)) cnt' → cnt' < cnt → w.grownBy w' (some r) → w'.heap.size = w.heap.size →
      (Instr.entry (.pointer (some ⟨r, 0, none⟩))).run Try.prog w' = .ok (.tuple #[.int .i64 x, mk c]) w' → wpList Try.prog ops Q rest (a.put o.dst (.tuple #[.bool true, .int .i64 x, mk c])) w') : wpList Try.prog ops Q (o :: rest) a w := by
  refine wpList_plain hg fun K' hK' => ?_
  unfold Oper.wp
  rcases h.next o.type with ⟨hl, hrun⟩ | ⟨x, v, w', cnt', hx, hlx, hgx, hrun, hr, hlt, hgr, hsz, hen⟩
  · simp [execOp, hop, hit, hrun, Result.andThen]
    exact hK' _ _ (hDone hl)
  · obtain ⟨c, rfl⟩ := hval x v hx hgx
    simp [execOp, hop, hit, hrun, Result.andThen]
    exact hK' _ _ (hMore x c w' cnt' hx hlx hgx hr hlt hgr hsz hen)
end
end Go.Proofs.Ytjobjjmeneddnaa
