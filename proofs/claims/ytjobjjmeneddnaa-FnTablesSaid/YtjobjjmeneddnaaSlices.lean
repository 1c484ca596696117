/- Slices as values: what reads as a list of cells; what a call owns; append onto one's own. No program. -/
import Derived.Test.YtjobjjmeneddnaaWords
import Derived.Maps.AppendAt
import Derived.OwnWalk
import Derived.RegionTactic
import Derived.Deep.AppendLies
namespace Go.Proofs.Ytjobjjmeneddnaa
open Go.RowKit
theorem add_of_add (a : Addr) (i j : Nat) : (a.add i).add j = a.add (i + j) := by
  unfold Addr.add
  by_cases hi : i = 0 <;> by_cases hj : j = 0 <;> simp [hi, hj, Nat.add_assoc]
/-- the slice value at A, of n elements of s cells each and capacity c, holds the cells xs and lies below block B -/
structure Sl (w : World) (B s : Nat) (A : Option Addr) (n c : Nat) (xs : List Value) : Prop where
  len : xs.length = n * s
  rd : Reads w B A xs
  cap : n ≤ c
  capm : c ≤ 9223372036854775807
  nil : A = none → c = 0
/-- the slice value lies among the call's own blocks, from B on, and holds xs -/
structure Own (w : World) (B : Nat) (E : TypeId) (s : Nat) (A : Option Addr) (n c : Nat) (xs : List Value) : Prop where
  row : w.ownsRow B E s (.slice A n c) n xs
section
variable {w w' : World} {B B' s n c : Nat} {E : TypeId} {A : Option Addr} {xs : List Value}
theorem Sl.at_ (h : Sl w B 1 A n c xs) {k : Nat} (hk : k < n) : ∃ (ad : Addr) (hx : k < xs.length), A = some ad ∧ ad.block < B ∧ w.cell? (ad.add k) = some xs[k] := by
  have hx : k < xs.length := by have := h.len; omega
  obtain ⟨ad, e, hb, hc⟩ := h.rd.at_ hx
  exact ⟨ad, hx, e, hb, hc⟩
theorem Sl.keep (h : Sl w B s A n c xs) (hk : ∀ p : Addr, p.block < B → w'.cell? p = w.cell? p) : Sl w' B s A n c xs := ⟨h.len, h.rd.keep hk, h.cap, h.capm, h.nil⟩
theorem Sl.more (h : Sl w B s A n c xs) (hB : B ≤ B') : Sl w B' s A n c xs := ⟨h.len, h.rd.more hB, h.cap, h.capm, h.nil⟩
theorem Sl.below (h : Sl w B s A n c xs) (hb : Below B' w w') (hB : B ≤ B') : Sl w' B s A n c xs := ⟨h.len, h.rd.below hb hB, h.cap, h.capm, h.nil⟩
theorem Sl.on (h : Sl w w.heap.size s A n c xs) (hb : Below w.heap.size w w') : Sl w' w'.heap.size s A n c xs := (h.below hb (Nat.le_refl _)).more hb.size
theorem Sl.nil_ (w : World) (B s : Nat) : Sl w B s none 0 0 [] := ⟨by simp, fun h => by simp at h, Nat.le_refl _, by omega, fun _ => rfl⟩
theorem Reads.cut {xs : List Value} (h : Reads w B A xs) (k : Nat) (ao : Option Addr) (hao : k < xs.length → ∀ ad, A = some ad → ao = some (ad.add k)) : Reads w B ao (xs.drop k) := fun hn => by
  rw [List.length_drop] at hn
  obtain ⟨ad, e, hb, hc⟩ := h (by omega)
  refine ⟨ad.add k, hao (by omega) ad e, by rw [block_of_add]; exact hb, fun j u hu => ?_⟩
  rw [add_of_add]
  exact hc _ u (by rw [← hu, List.getElem?_drop])
theorem Reads.take {xs : List Value} (h : Reads w B A xs) (k : Nat) : Reads w B A (xs.take k) := fun hn => by
  rw [List.length_take] at hn
  obtain ⟨ad, e, hb, hc⟩ := h (by omega)
  refine ⟨ad, e, hb, fun j u hu => hc j u ?_⟩
  rw [List.getElem?_take] at hu
  by_cases hj : j < k
  · rwa [if_pos hj] at hu
  · rw [if_neg hj] at hu; cases hu
theorem Own.len (h : Own w B E s A n c xs) : xs.length = n * s := h.row.1
theorem Own.form (h : Own w B E s A n c xs) : (A = none ∧ n = 0 ∧ c = 0 ∧ xs = []) ∨ ∃ g, A = some ⟨g, 0, none⟩ ∧ B ≤ g ∧ g < w.heap.size ∧ n ≤ c ∧ c ≤ 9223372036854775807 := by
  rcases h.row.2 with ⟨hv, hn⟩ | ⟨g, cap, cur, hv, hb, hg, hnc, hcm, _⟩
  · simp at hv
    left
    exact ⟨hv.1, hn, hv.2.2, List.eq_nil_of_length_eq_zero (by rw [h.len, hn]; simp)⟩
  · simp at hv
    right
    refine ⟨g, hv.1, hb, (Array.getElem?_eq_some_iff.1 hg).1, by omega, by unfold maxLen at hcm; omega⟩
theorem Own.capm (h : Own w B E s A n c xs) : n ≤ c ∧ c ≤ 9223372036854775807 := by
  rcases h.form with ⟨_, h1, h2, _⟩ | ⟨g, _, _, _, h1, h2⟩ <;> omega
theorem Own.sl (h : Own w B E s A n c xs) : Sl w w.heap.size s A n c xs := by
  refine ⟨h.len, fun hn => ?_, h.capm.1, h.capm.2, fun e => ?_⟩
  · rcases h.form with ⟨_, _, _, h1⟩ | ⟨g, rfl, _, hg, _⟩
    · rw [h1] at hn; simp at hn
    · exact ⟨_, rfl, hg, h.row.cells (g := g) rfl⟩
  · rcases h.form with ⟨_, _, h1, _⟩ | ⟨g, h1, _⟩
    · exact h1
    · rw [h1] at e; cases e
theorem Own.kept {row : Option Nat} (h : Own w B E s A n c xs) (hg : w.grownBy w' row) (hne : (Value.slice A n c).ownBlock = none ∨ (Value.slice A n c).ownBlock ≠ row) : Own w' B E s A n c xs := ⟨h.row.kept hg hne⟩
theorem grown_of_below (h : Below w.heap.size w w') (row : Option Nat) : w.grownBy w' row := ⟨h.os, h.tape, h.output, h.size, fun i hi _ => h.block i hi⟩
theorem Own.on (h : Own w B E s A n c xs) (hb : Below w.heap.size w w') : Own w' B E s A n c xs := by
  refine ⟨h.row.kept (grown_of_below hb none) ?_⟩
  cases A <;> simp [Value.ownBlock]
theorem Own.fewer (h : Own w B E s A n c xs) (hB : B' ≤ B) : Own w B' E s A n c xs := by
  refine ⟨h.row.1, ?_⟩
  rcases h.row.2 with h1 | ⟨g, cap, cur, hv, hb, r⟩
  · exact .inl h1
  · exact .inr ⟨g, cap, cur, hv, by omega, r⟩
/-- the block of an own slice that is not nil -/
theorem Own.blk (h : Own w B E s A n c xs) : (Value.slice A n c).ownBlock = none ∨ ∃ g, (Value.slice A n c).ownBlock = some g ∧ B ≤ g ∧ g < w.heap.size := by
  rcases h.form with ⟨h1, _⟩ | ⟨g, h1, h2, h3, _⟩
  · left; rw [h1]; rfl
  · right; rw [h1]; exact ⟨g, rfl, h2, h3⟩
/-- two slices of one's own, the second made behind the first -/
theorem Own.apart {w1 : World} {B1 s1 n1 c1 : Nat} {E1 : TypeId} {A1 : Option Addr} {xs1 : List Value} (h : Own w B E s A n c xs) (h1 : Own w1 B1 E1 s1 A1 n1 c1 xs1) (hB : w.heap.size ≤ B1) :
    (Value.slice A n c).ownBlock = none ∨ (Value.slice A n c).ownBlock ≠ (Value.slice A1 n1 c1).ownBlock := by
  rcases h.blk with h | ⟨g, h, _, hg⟩
  · exact .inl h
  · right
    rcases h1.blk with h1 | ⟨g1, h1, hg1, _⟩
    · rw [h, h1]; simp
    · rw [h, h1]; simp; omega
theorem Own.apart' {w1 : World} {B1 s1 n1 c1 : Nat} {E1 : TypeId} {A1 : Option Addr} {xs1 : List Value} (h : Own w B E s A n c xs) (h1 : Own w1 B1 E1 s1 A1 n1 c1 xs1) (hB : w.heap.size ≤ B1) :
    (Value.slice A1 n1 c1).ownBlock = none ∨ (Value.slice A1 n1 c1).ownBlock ≠ (Value.slice A n c).ownBlock := by
  rcases h1.blk with h1 | ⟨g1, h1, hg1, _⟩
  · exact .inl h1
  · right
    rcases h.blk with h | ⟨g, h, _, hg⟩
    · rw [h, h1]; simp
    · rw [h, h1]; simp; omega
theorem Own.empty (w : World) (B : Nat) (E : TypeId) (s : Nat) : Own w B E s none 0 0 [] := ⟨World.ownsRow_nil w B E s⟩
/-- a new block of cells, whole -/
theorem Own.lit (w : World) (B : Nat) (E : TypeId) (cs : Array Value) (n : Nat) (hB : B ≤ w.heap.size) (hm : n ≤ 9223372036854775807) (hs : cs.size = n) : Own (w.alloc (.cells cs E)) B E 1 (some ⟨w.heap.size, 0, none⟩) n n cs.toList :=
  ⟨World.ownsRow_lit w cs n hB (by unfold maxLen; omega) (by omega)⟩
theorem Below.grownBy {a : World} {row : Option Nat} (h : Below B a w) (hg : w.grownBy w' row) (hB : B ≤ w.heap.size) (hr : ∀ k, row = some k → B ≤ k) : Below B a w' := h.grown hg hB hr
/-- what a store, an append or a mark into one's own leaves -/
theorem Own.below {a : World} (h : Own w B E s A n c xs) (hb : Below B a w) (hB : B ≤ w.heap.size) (hg : w.grownBy w' (Value.slice A n c).ownBlock) : Below B a w' := by
  refine hb.grown hg hB fun k hk => ?_
  rcases h.blk with h1 | ⟨g, h1, h2, _⟩
  · rw [h1] at hk; cases hk
  · rw [h1] at hk; cases hk; exact h2
end
section
variable {P : Program} (w : World)
theorem run_append_sl (B : Nat) (t ty e : TypeId) (i : TypeInfo) (z : Value) (s bytes : Nat) (ht : P.underlying t = some (.slice e)) (hi : P.info? e = some i) (hz : i.zero = some z)
    (hsize : i.size = s) (hby : i.bytes = bytes) (hzs : z.cells.size = s) (hs : 0 < s)
    (A : Option Addr) (n c : Nat) (xs : List Value) (hown : Own w B e s A n c xs)
    (D : Nat) (A' : Option Addr) (m c' : Nat) (news : List Value) (hr : Sl w D s A' m c' news) (h1 : ∀ u ∈ news, u.oneCell' = true)
    (h63 : n + m ≤ 9223372036854775807) (hbytes : (n + m) * bytes ≤ 140737488355328) (hB : B ≤ w.heap.size) :
    ∃ A2 c2 w', (Builtin.append_ #[t, t] ty #[.slice A n c, .slice A' m c']).run P w = .ok (.slice A2 (n + m) c2) w' ∧ Own w' B e s A2 (n + m) c2 (xs ++ news) ∧
      w.grownBy w' (Value.slice A n c).ownBlock ∧ ((Value.slice A2 (n + m) c2).ownBlock = (Value.slice A n c).ownBlock ∨ (Value.slice A2 (n + m) c2).ownBlock = some w.heap.size) := by
  have hshape : ∀ {v' : Value} {w' : World} {k : Nat} {ys : List Value}, w'.ownsRow B e s v' k ys → ∃ A2 c2, v' = .slice A2 k c2 := by
    intro v' w' k ys h
    rcases h.2 with ⟨rfl, rfl⟩ | ⟨g, cap, cur, rfl, _⟩
    · exact ⟨_, _, rfl⟩
    · exact ⟨_, _, rfl⟩
  rcases A' with _ | ad
  · have hc := hr.nil rfl
    have hm : m = 0 := by have := hr.cap; omega
    subst hc hm
    have hn : news = [] := List.eq_nil_of_length_eq_zero (by have := hr.len; simpa using this)
    subst hn
    exact ⟨A, c, w, run_append_owned_none (P := P) w B t ty e i s ht hi _ n xs hown.row, by simpa using hown, World.grownBy.refl w _, .inl rfl⟩
  · have hcells : ∀ j u, news[j]? = some u → w.cell? (ad.add j) = some u := by
      intro j u hu
      obtain ⟨ad', e', _, hc⟩ := hr.rd (by have := (List.getElem?_eq_some_iff.1 hu).1; omega)
      injection e' with e'
      subst e'
      exact hc j u hu
    obtain ⟨v', w', hrun, h2, h3, _, h5⟩ := run_append_own_at (P := P) w B t ty e i z s bytes ht hi hz hsize hby hzs hs _ n xs hown.row ad m c' news hr.len hcells h1 (by unfold maxLen; omega) hbytes hB
    obtain ⟨A2, c2, rfl⟩ := hshape h2
    exact ⟨A2, c2, w', hrun, ⟨h2⟩, h3, h5⟩
theorem wp_append_sl {o : Oper} {a : Act} {K : Act → World → Prop} {Q : Exit → Act → World → Prop} (sx x : Operand) (t : TypeId)
    (ho : o.op = .call { callee := .builtin .append, args := #[sx, x], argTypes := #[t, t] })
    (B : Nat) (e : TypeId) (i : TypeInfo) (z : Value) (s bytes : Nat) (ht : P.underlying t = some (.slice e)) (hi : P.info? e = some i) (hz : i.zero = some z)
    (hsize : i.size = s) (hby : i.bytes = bytes) (hzs : z.cells.size = s) (hs : 0 < s)
    (A : Option Addr) (n c : Nat) (xs : List Value) (hv : a.eval sx = .slice A n c) (hown : Own w B e s A n c xs)
    (D : Nat) (A' : Option Addr) (m c' : Nat) (news : List Value) (hx : a.eval x = .slice A' m c') (hr : Sl w D s A' m c' news) (h1 : ∀ u ∈ news, u.oneCell' = true)
    (h63 : n + m ≤ 9223372036854775807) (hbytes : (n + m) * bytes ≤ 140737488355328) (hB : B ≤ w.heap.size)
    (h : ∀ A2 c2 w', Own w' B e s A2 (n + m) c2 (xs ++ news) → w.grownBy w' (Value.slice A n c).ownBlock → ((Value.slice A2 (n + m) c2).ownBlock = (Value.slice A n c).ownBlock ∨ (Value.slice A2 (n + m) c2).ownBlock = some w.heap.size) → K (a.put o.dst (.slice A2 (n + m) c2)) w') : o.wp P a w K Q := by
  obtain ⟨A2, c2, w', hrun, h2, h3, h4⟩ := run_append_sl (P := P) w B t o.type e i z s bytes ht hi hz hsize hby hzs hs A n c xs hown D A' m c' news hr h1 h63 hbytes hB
  unfold Oper.wp execOp
  simp only [ho, resolve, invoke, builtin, Sem.run_bind, Sem.run_pure, Result.andThen_ok, List.map_toArray, List.map_cons, List.map_nil, hv, hx, hrun]
  exact h A2 c2 w' h2 h3 h4
/-- append onto one's own, whatever is appended: for the walk -/
theorem wpList_append_sl {ops : Array Oper} {rest : List Oper} {o : Oper} {a : Act} {Q : Exit → Act → World → Prop} (hgd : o.guard = none) (sx x : Operand) (t : TypeId)
    (ho : o.op = .call { callee := .builtin .append, args := #[sx, x], argTypes := #[t, t] })
    (B : Nat) (e : TypeId) (i : TypeInfo) (z : Value) (s bytes : Nat) (ht : P.underlying t = some (.slice e)) (hi : P.info? e = some i) (hz : i.zero = some z)
    (hsize : i.size = s) (hby : i.bytes = bytes) (hzs : z.cells.size = s) (hs : 0 < s)
    (A : Option Addr) (n c : Nat) (xs : List Value) (hv : a.eval sx = .slice A n c) (hown : Own w B e s A n c xs)
    (D : Nat) (A' : Option Addr) (m c' : Nat) (news : List Value) (hx : a.eval x = .slice A' m c') (hr : Sl w D s A' m c' news) (h1 : ∀ u ∈ news, u.oneCell' = true)
    (h63 : n + m ≤ 9223372036854775807) (hbytes : (n + m) * bytes ≤ 140737488355328) (hB : B ≤ w.heap.size)
    (h : ∀ A2 c2 w', Own w' B e s A2 (n + m) c2 (xs ++ news) → w.grownBy w' (Value.slice A n c).ownBlock → ((Value.slice A2 (n + m) c2).ownBlock = (Value.slice A n c).ownBlock ∨ (Value.slice A2 (n + m) c2).ownBlock = some w.heap.size) → wpList P ops Q rest (a.put o.dst (.slice A2 (n + m) c2)) w') : wpList P ops Q (o :: rest) a w :=
  wpList_plain hgd fun _ hK => wp_append_sl w sx x t ho B e i z s bytes ht hi hz hsize hby hzs hs A n c xs hv hown D A' m c' news hx hr h1 h63 hbytes hB fun A2 c2 w' h2 h3 h4 => hK _ _ (h A2 c2 w' h2 h3 h4)
/-- append onto one's own, at a guarded operation that is wanted -/
theorem wpList_append_slg {ops : Array Oper} {rest : List Oper} {o : Oper} {a : Act} {Q : Exit → Act → World → Prop} (hw : Region.wanted o (yielded ops a.tmps) = true) (sx x : Operand) (t : TypeId)
    (ho : o.op = .call { callee := .builtin .append, args := #[sx, x], argTypes := #[t, t] })
    (B : Nat) (e : TypeId) (i : TypeInfo) (z : Value) (s bytes : Nat) (ht : P.underlying t = some (.slice e)) (hi : P.info? e = some i) (hz : i.zero = some z)
    (hsize : i.size = s) (hby : i.bytes = bytes) (hzs : z.cells.size = s) (hs : 0 < s)
    (A : Option Addr) (n c : Nat) (xs : List Value) (hv : a.eval sx = .slice A n c) (hown : Own w B e s A n c xs)
    (D : Nat) (A' : Option Addr) (m c' : Nat) (news : List Value) (hx : a.eval x = .slice A' m c') (hr : Sl w D s A' m c' news) (h1 : ∀ u ∈ news, u.oneCell' = true)
    (h63 : n + m ≤ 9223372036854775807) (hbytes : (n + m) * bytes ≤ 140737488355328) (hB : B ≤ w.heap.size)
    (h : ∀ A2 c2 w', Own w' B e s A2 (n + m) c2 (xs ++ news) → w.grownBy w' (Value.slice A n c).ownBlock → ((Value.slice A2 (n + m) c2).ownBlock = (Value.slice A n c).ownBlock ∨ (Value.slice A2 (n + m) c2).ownBlock = some w.heap.size) → wpList P ops Q rest (a.put o.dst (.slice A2 (n + m) c2)) w') : wpList P ops Q (o :: rest) a w :=
  wpList_step fun K hK => by
    rw [if_pos hw]
    exact wp_append_sl w sx x t ho B e i z s bytes ht hi hz hsize hby hzs hs A n c xs hv hown D A' m c' news hx hr h1 h63 hbytes hB fun A2 c2 w' h2 h3 h4 => hK _ _ (h A2 c2 w' h2 h3 h4)
/-- append onto one's own at a step of a region that draws its order -/
theorem step_append_sl {ops : Array Oper} {o : Oper} {a : Act} {K : Act → World → Prop} {Q : Exit → Act → World → Prop} {R : Prop} (hgd : o.guard = none) (sx x : Operand) (t : TypeId)
    (ho : o.op = .call { callee := .builtin .append, args := #[sx, x], argTypes := #[t, t] })
    (B : Nat) (e : TypeId) (i : TypeInfo) (z : Value) (s bytes : Nat) (ht : P.underlying t = some (.slice e)) (hi : P.info? e = some i) (hz : i.zero = some z)
    (hsize : i.size = s) (hby : i.bytes = bytes) (hzs : z.cells.size = s) (hs : 0 < s)
    (A : Option Addr) (n c : Nat) (xs : List Value) (hv : a.eval sx = .slice A n c) (hown : Own w B e s A n c xs)
    (D : Nat) (A' : Option Addr) (m c' : Nat) (news : List Value) (hx : a.eval x = .slice A' m c') (hr : Sl w D s A' m c' news) (h1 : ∀ u ∈ news, u.oneCell' = true)
    (h63 : n + m ≤ 9223372036854775807) (hbytes : (n + m) * bytes ≤ 140737488355328) (hB : B ≤ w.heap.size)
    (h : ∀ A2 c2 w', Own w' B e s A2 (n + m) c2 (xs ++ news) → w.grownBy w' (Value.slice A n c).ownBlock → ((Value.slice A2 (n + m) c2).ownBlock = (Value.slice A n c).ownBlock ∨ (Value.slice A2 (n + m) c2).ownBlock = some w.heap.size) → K (a.put o.dst (.slice A2 (n + m) c2)) w') :
    if Region.wanted o (yielded ops a.tmps) = true then Oper.wp P o a w K Q else R := by
  have hw : Region.wanted o (yielded ops a.tmps) = true := by simp [Region.wanted, hgd]
  rw [if_pos hw]
  exact wp_append_sl w sx x t ho B e i z s bytes ht hi hz hsize hby hzs hs A n c xs hv hown D A' m c' news hx hr h1 h63 hbytes hB h
end
/-- one element laid into a block of its own -/
theorem Sl.one (w : World) (u : Value) (t : TypeId) : Sl (w.alloc (.cells #[u] t)) (w.heap.size + 1) 1 (some ⟨w.heap.size, 0, none⟩) 1 1 [u] :=
  ⟨rfl, fun _ => ⟨_, rfl, by simp, cell_one_new w u t⟩, Nat.le_refl _, by omega, fun h => by cases h⟩
/-- bytes and integers as cells -/
def bv (l : List Nat) : List Value := l.map fun b : Nat => Value.int .u8 (b : Int)
def iv (l : List Int) : List Value := l.map (.int .i64)
theorem bv_len (l : List Nat) : (bv l).length = l.length := by simp [bv]
theorem iv_len (l : List Int) : (iv l).length = l.length := by simp [iv]
theorem bv_get (l : List Nat) (k : Nat) (h : k < (bv l).length) : (bv l)[k] = .int .u8 ((l[k]'(by simpa [bv] using h) : Nat) : Int) := by simp [bv]
theorem iv_get (l : List Int) (k : Nat) (h : k < (iv l).length) : (iv l)[k] = .int .i64 (l[k]'(by simpa [iv] using h)) := by simp [iv]
theorem bv_one (l : List Nat) : ∀ u ∈ bv l, u.oneCell' = true := by
  intro u hu; obtain ⟨b, _, rfl⟩ := List.mem_map.1 hu; rfl
theorem iv_one (l : List Int) : ∀ u ∈ iv l, u.oneCell' = true := by
  intro u hu; obtain ⟨b, _, rfl⟩ := List.mem_map.1 hu; rfl
theorem bv_app (l m : List Nat) : bv (l ++ m) = bv l ++ bv m := by simp [bv]
theorem iv_app (l m : List Int) : iv (l ++ m) = iv l ++ iv m := by simp [iv]
theorem bv_bytes (l : List Nat) (h : ∀ b ∈ l, b < 256) : Bytes (bv l) := by
  intro x hx; obtain ⟨b, hb, rfl⟩ := List.mem_map.1 hx
  exact ⟨UInt8.ofNat b, by rw [UInt8.toNat_ofNat']; congr 1; have := h b hb; omega⟩
/-- the bytes of an argument -/
theorem bytes_bv {zs : List Int} (h : ∀ z ∈ zs, (Lit.int .u8 z).wf = true) : ∃ bs : List Nat, zs.map (Value.int .u8) = bv bs ∧ bs.length = zs.length ∧ ∀ b ∈ bs, b < 256 := by
  refine ⟨zs.map Int.toNat, ?_, by simp, ?_⟩
  · unfold bv
    rw [List.map_map]
    refine List.map_congr_left fun z hz => ?_
    have hb := h z hz
    simp [Lit.wf, IntKind.min, IntKind.max, IntKind.bits, IntKind.signed] at hb
    simp only [Function.comp]
    rw [Int.toNat_of_nonneg hb.1]
  · intro b hb
    obtain ⟨z, hz, rfl⟩ := List.mem_map.1 hb
    have hb := h z hz
    simp [Lit.wf, IntKind.min, IntKind.max, IntKind.bits, IntKind.signed] at hb
    omega
theorem i64_of_wf {zs : List Int} (h : ∀ z ∈ zs, (Lit.int .i64 z).wf = true) : ∀ z ∈ zs, -9223372036854775808 ≤ z ∧ z ≤ 9223372036854775807 := by
  intro z hz
  have hb := h z hz
  simp [Lit.wf, IntKind.min, IntKind.max, IntKind.bits, IntKind.signed] at hb
  omega
/-- all elements are integers of kind k, in range -/
def Kind (k : IntKind) (xs : List Value) : Prop := ∀ x ∈ xs, ∃ z : Int, x = .int k z ∧ (-9223372036854775808 ≤ z ∧ z ≤ 9223372036854775807)
theorem bv_kind (l : List Nat) (h : ∀ b ∈ l, b < 256) : Kind .u8 (bv l) := by
  intro x hx; obtain ⟨b, hb, rfl⟩ := List.mem_map.1 hx
  exact ⟨b, rfl, by have := h b hb; omega⟩
theorem iv_kind (l : List Int) (h : ∀ z ∈ l, -9223372036854775808 ≤ z ∧ z ≤ 9223372036854775807) : Kind .i64 (iv l) := by
  intro x hx; obtain ⟨b, hb, rfl⟩ := List.mem_map.1 hx
  exact ⟨b, rfl, h b hb⟩
end Go.Proofs.Ytjobjjmeneddnaa
