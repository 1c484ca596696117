/- Rows of several cells as values; a satellite, a site, a zone, a sky in plain words; an argument that is a slice of structs, opened. No program. -/
import Derived.Test.YtjobjjmeneddnaaSlices
import Derived.Test.YtjobjjmeneddnaaCopies
import Derived.Deep.Slices
import Derived.Deep.Strs
import Derived.Lib.SmallJoins
import Derived.ChangeSame
import Derived.Lib.Hide
namespace Go.Proofs.Ytjobjjmeneddnaa
open Go.ChangeShapes Go.WideShapes Go.ChangeAt Go.RowKit Go.Joins Go.Deep
/-- elements of several cells, laid one behind the other -/
def fl {α : Type} (f : α → List Value) (l : List α) : List Value := l.flatMap f
section
variable {α : Type} {f : α → List Value} {s : Nat}
theorem fl_nil : fl f [] = [] := rfl
theorem fl_cons (x : α) (l : List α) : fl f (x :: l) = f x ++ fl f l := by simp [fl]
theorem fl_app (l m : List α) : fl f (l ++ m) = fl f l ++ fl f m := by simp [fl]
theorem fl_len (hf : ∀ x, (f x).length = s) (l : List α) : (fl f l).length = l.length * s := by
  induction l with
  | nil => simp [fl]
  | cons x l ih => rw [fl_cons, List.length_append, hf, ih, List.length_cons, Nat.succ_mul]; omega
theorem fl_get (hf : ∀ x, (f x).length = s) (l : List α) (k : Nat) (h : k < l.length) (i : Nat) (hi : i < s) : (fl f l)[k * s + i]? = (f l[k])[i]? := by
  induction l generalizing k with
  | nil => simp at h
  | cons p l ih =>
    rcases k with _ | k
    · rw [fl_cons, Nat.zero_mul, Nat.zero_add, List.getElem?_append_left (by rw [hf]; exact hi)]; rfl
    · rw [fl_cons, List.getElem?_append_right (by rw [hf, Nat.succ_mul]; omega), hf, show (k + 1) * s + i - s = k * s + i by rw [Nat.succ_mul]; omega, ih k (by simpa using h)]; rfl
theorem fl_one (h1 : ∀ x, ∀ u ∈ f x, u.oneCell' = true) (l : List α) : ∀ u ∈ fl f l, u.oneCell' = true := by
  intro u hu
  obtain ⟨p, _, hp⟩ := List.mem_flatMap.1 hu
  exact h1 p u hp
/-- the cells of an element -/
theorem Sl.els {w : World} {B n c : Nat} {A : Option Addr} {l : List α} (hf : ∀ x, (f x).length = s) (hs : 0 < s) (h : Sl w B s A n c (fl f l)) {k : Nat} (hk : k < n) :
    ∃ (ad : Addr) (hx : k < l.length), A = some ad ∧ ad.block < B ∧ ∀ i, i < s → w.cell? (ad.add (k * s + i)) = (f l[k])[i]? := by
  have hl := h.len
  rw [fl_len hf] at hl
  have hx : k < l.length := by rw [Nat.eq_of_mul_eq_mul_right hs hl]; exact hk
  have hpos : 0 < (fl f l).length := by rw [fl_len hf]; exact Nat.mul_pos (by omega) hs
  obtain ⟨ad, e, hb, hc⟩ := h.rd hpos
  refine ⟨ad, hx, e, hb, fun i hi => ?_⟩
  have hg := fl_get hf l k hx i hi
  have hi' : i < (f l[k]).length := by rw [hf]; exact hi
  rw [List.getElem?_eq_getElem hi'] at hg ⊢
  exact hc _ _ hg
theorem Sl.num {w : World} {B n c : Nat} {A : Option Addr} {l : List α} (hf : ∀ x, (f x).length = s) (hs : 0 < s) (h : Sl w B s A n c (fl f l)) : n = l.length := by
  have hl := h.len
  rw [fl_len hf] at hl
  exact (Nat.eq_of_mul_eq_mul_right hs hl).symm
end
/-- a satellite (plane, phase, speed, error), a site (plane, angle, speed) or a zone (plane, start, width) -/
structure Sat4 where
  p : Int
  h : Int
  v : Int
  e : Int
structure Tri where
  p : Int
  a : Int
  b : Int
instance : Inhabited Sat4 := ⟨⟨0, 0, 0, 0⟩⟩
instance : Inhabited Tri := ⟨⟨0, 0, 0⟩⟩
def c4 (x : Sat4) : List Value := [.int .i64 x.p, .int .i64 x.h, .int .i64 x.v, .int .i64 x.e]
def c3 (x : Tri) : List Value := [.int .i64 x.p, .int .i64 x.a, .int .i64 x.b]
theorem c4_len (x : Sat4) : (c4 x).length = 4 := rfl
theorem c3_len (x : Tri) : (c3 x).length = 3 := rfl
theorem c4_one (x : Sat4) : ∀ u ∈ c4 x, u.oneCell' = true := by intro u hu; simp [c4] at hu; rcases hu with rfl | rfl | rfl | rfl <;> rfl
theorem c3_one (x : Tri) : ∀ u ∈ c3 x, u.oneCell' = true := by intro u hu; simp [c3] at hu; rcases hu with rfl | rfl | rfl <;> rfl
theorem wrap_in (z : Int) (h0 : -9223372036854775808 ≤ z) (h1 : z ≤ 9223372036854775807) : IntKind.i64.wrap z = z := by
  simp [IntKind.wrap, IntKind.bits, IntKind.signed]; omega
/-- an integer of 64 bits -/
def J64 (z : Int) : Prop := -9223372036854775808 ≤ z ∧ z ≤ 9223372036854775807
def Ok4 (x : Sat4) : Prop := J64 x.p ∧ J64 x.h ∧ J64 x.v ∧ J64 x.e
def Ok3 (x : Tri) : Prop := J64 x.p ∧ J64 x.a ∧ J64 x.b
theorem wf_j64 {z : Int} (h : (Lit.int .i64 z).wf = true) : J64 z := by
  simp [Lit.wf, IntKind.min, IntKind.max, IntKind.bits, IntKind.signed] at h
  unfold J64; omega
/-- the cells of element k of a slice of satellites -/
theorem Sl.four {w : World} {B n c : Nat} {A : Option Addr} {l : List Sat4} (h : Sl w B 4 A n c (fl c4 l)) {k : Nat} (hk : k < n) :
    ∃ (ad : Addr) (hx : k < l.length), A = some ad ∧ ad.block < B ∧ w.cell? (ad.add (k * 4)) = some (.int .i64 l[k].p) ∧ w.cell? ⟨(ad.add (k * 4)).block, (ad.add (k * 4)).off + 1, none⟩ = some (.int .i64 l[k].h) ∧
      w.cell? ⟨(ad.add (k * 4)).block, (ad.add (k * 4)).off + 2, none⟩ = some (.int .i64 l[k].v) ∧ w.cell? ⟨(ad.add (k * 4)).block, (ad.add (k * 4)).off + 3, none⟩ = some (.int .i64 l[k].e) := by
  obtain ⟨ad, hx, e, hb, hc⟩ := h.els c4_len (by omega) hk
  have q : ∀ i, 0 < i → (⟨(ad.add (k * 4)).block, (ad.add (k * 4)).off + i, none⟩ : Addr) = ad.add (k * 4 + i) := fun i hi => by
    rw [← add_of_add]
    obtain ⟨j, rfl⟩ : ∃ j, i = j + 1 := ⟨i - 1, by omega⟩
    rfl
  exact ⟨ad, hx, e, hb, hc 0 (by omega), by rw [q 1 (by omega)]; exact hc 1 (by omega), by rw [q 2 (by omega)]; exact hc 2 (by omega), by rw [q 3 (by omega)]; exact hc 3 (by omega)⟩
/-- the cells of element k of a slice of sites or zones -/
theorem Sl.tri {w : World} {B n c : Nat} {A : Option Addr} {l : List Tri} (h : Sl w B 3 A n c (fl c3 l)) {k : Nat} (hk : k < n) :
    ∃ (ad : Addr) (hx : k < l.length), A = some ad ∧ ad.block < B ∧ w.cell? (ad.add (k * 3)) = some (.int .i64 l[k].p) ∧ w.cell? ⟨(ad.add (k * 3)).block, (ad.add (k * 3)).off + 1, none⟩ = some (.int .i64 l[k].a) ∧
      w.cell? ⟨(ad.add (k * 3)).block, (ad.add (k * 3)).off + 2, none⟩ = some (.int .i64 l[k].b) := by
  obtain ⟨ad, hx, e, hb, hc⟩ := h.els c3_len (by omega) hk
  have q : ∀ i, 0 < i → (⟨(ad.add (k * 3)).block, (ad.add (k * 3)).off + i, none⟩ : Addr) = ad.add (k * 3 + i) := fun i hi => by
    rw [← add_of_add]
    obtain ⟨j, rfl⟩ : ∃ j, i = j + 1 := ⟨i - 1, by omega⟩
    rfl
  exact ⟨ad, hx, e, hb, hc 0 (by omega), by rw [q 1 (by omega)]; exact hc 1 (by omega), by rw [q 2 (by omega)]; exact hc 2 (by omega)⟩
/-- a store of the next element of three or four cells into one's own -/
theorem Own.fill3 {w : World} {B : Nat} {E : TypeId} {g n c : Nat} {M xs : List Value} {k : Nat} {u v z : Value} (h : Own w B E 3 (some ⟨g, 0, none⟩) n c (M.take (k * 3) ++ xs.drop (k * 3))) (hl : xs.length = M.length) (hk : k * 3 + 2 < M.length)
    (hu : M[k * 3]? = some u) (hv : M[k * 3 + 1]? = some v) (hz : M[k * 3 + 2]? = some z) :
    Own (((w.setCell ⟨g, k * 3, none⟩ u).setCell ⟨g, k * 3 + 1, none⟩ v).setCell ⟨g, k * 3 + 2, none⟩ z) B E 3 (some ⟨g, 0, none⟩) n c (M.take ((k + 1) * 3) ++ xs.drop ((k + 1) * 3)) ∧
      w.grownBy (((w.setCell ⟨g, k * 3, none⟩ u).setCell ⟨g, k * 3 + 1, none⟩ v).setCell ⟨g, k * 3 + 2, none⟩ z) (some g) := by
  have eu : u = M[k * 3] := by rw [List.getElem?_eq_getElem (by omega)] at hu; exact (Option.some.inj hu).symm
  have ev : v = M[k * 3 + 1] := by rw [List.getElem?_eq_getElem (by omega)] at hv; exact (Option.some.inj hv).symm
  have hz' : M[k * 3 + 1 + 1]? = some z := hz
  have hk' : k * 3 + 1 + 1 < M.length := hk
  have ez : z = M[k * 3 + 1 + 1] := by rw [List.getElem?_eq_getElem hk'] at hz'; exact (Option.some.inj hz').symm
  have h1 := h.row.stored (k * 3) u
  rw [eu, fill_set M xs (k * 3) hl (by omega), ← eu] at h1
  have h2 := h1.1.stored (k * 3 + 1) v
  rw [ev, fill_set M xs (k * 3 + 1) hl (by omega), ← ev] at h2
  have h3 := h2.1.stored (k * 3 + 1 + 1) z
  rw [ez, fill_set M xs (k * 3 + 1 + 1) hl hk', ← ez] at h3
  refine ⟨⟨?_⟩, (h1.2.trans h2.2).trans h3.2⟩
  rw [show (k + 1) * 3 = k * 3 + 1 + 1 + 1 by omega]; exact h3.1
theorem Own.fill4 {w : World} {B : Nat} {E : TypeId} {g n c : Nat} {M xs : List Value} {k : Nat} {u v z y : Value} (h : Own w B E 4 (some ⟨g, 0, none⟩) n c (M.take (k * 4) ++ xs.drop (k * 4))) (hl : xs.length = M.length) (hk : k * 4 + 3 < M.length)
    (hu : M[k * 4]? = some u) (hv : M[k * 4 + 1]? = some v) (hz : M[k * 4 + 2]? = some z) (hy : M[k * 4 + 3]? = some y) :
    Own ((((w.setCell ⟨g, k * 4, none⟩ u).setCell ⟨g, k * 4 + 1, none⟩ v).setCell ⟨g, k * 4 + 2, none⟩ z).setCell ⟨g, k * 4 + 3, none⟩ y) B E 4 (some ⟨g, 0, none⟩) n c (M.take ((k + 1) * 4) ++ xs.drop ((k + 1) * 4)) ∧
      w.grownBy ((((w.setCell ⟨g, k * 4, none⟩ u).setCell ⟨g, k * 4 + 1, none⟩ v).setCell ⟨g, k * 4 + 2, none⟩ z).setCell ⟨g, k * 4 + 3, none⟩ y) (some g) := by
  have eu : u = M[k * 4] := by rw [List.getElem?_eq_getElem (by omega)] at hu; exact (Option.some.inj hu).symm
  have ev : v = M[k * 4 + 1] := by rw [List.getElem?_eq_getElem (by omega)] at hv; exact (Option.some.inj hv).symm
  have hz' : M[k * 4 + 1 + 1]? = some z := hz
  have hy' : M[k * 4 + 1 + 1 + 1]? = some y := hy
  have hk' : k * 4 + 1 + 1 + 1 < M.length := hk
  have ez : z = M[k * 4 + 1 + 1] := by rw [List.getElem?_eq_getElem (by omega)] at hz'; exact (Option.some.inj hz').symm
  have ey : y = M[k * 4 + 1 + 1 + 1] := by rw [List.getElem?_eq_getElem hk'] at hy'; exact (Option.some.inj hy').symm
  have h1 := h.row.stored (k * 4) u
  rw [eu, fill_set M xs (k * 4) hl (by omega), ← eu] at h1
  have h2 := h1.1.stored (k * 4 + 1) v
  rw [ev, fill_set M xs (k * 4 + 1) hl (by omega), ← ev] at h2
  have h3 := h2.1.stored (k * 4 + 1 + 1) z
  rw [ez, fill_set M xs (k * 4 + 1 + 1) hl (by omega), ← ez] at h3
  have h4 := h3.1.stored (k * 4 + 1 + 1 + 1) y
  rw [ey, fill_set M xs (k * 4 + 1 + 1 + 1) hl hk', ← ey] at h4
  refine ⟨⟨?_⟩, ((h1.2.trans h2.2).trans h3.2).trans h4.2⟩
  rw [show (k + 1) * 4 = k * 4 + 1 + 1 + 1 + 1 by omega]; exact h4.1
theorem Own.cellS {w : World} {B : Nat} {E : TypeId} {g n c s : Nat} {xs : List Value} (h : Own w B E s (some ⟨g, 0, none⟩) n c xs) (j : Nat) (hj : j < n * s) : ∃ u, w.cell? ⟨g, j, none⟩ = some u := by
  have := h.row.cellAt j hj
  rw [this]
  exact ⟨xs[j]'(by have := h.len; omega), List.getElem?_eq_getElem _⟩
/-- the cells of a block of ten -/
theorem Blk.ten {w : World} {g : Nat} {t : TypeId} {v0 v1 v2 v3 v4 v5 v6 v7 v8 v9 : Value} (h : Blk w g t #[v0, v1, v2, v3, v4, v5, v6, v7, v8, v9]) :
    w.cell? ⟨g, 0, none⟩ = some v0 ∧ w.cell? ⟨g, 1, none⟩ = some v1 ∧ w.cell? ⟨g, 2, none⟩ = some v2 ∧ w.cell? ⟨g, 3, none⟩ = some v3 ∧ w.cell? ⟨g, 4, none⟩ = some v4 ∧
    w.cell? ⟨g, 5, none⟩ = some v5 ∧ w.cell? ⟨g, 6, none⟩ = some v6 ∧ w.cell? ⟨g, 7, none⟩ = some v7 ∧ w.cell? ⟨g, 8, none⟩ = some v8 ∧ w.cell? ⟨g, 9, none⟩ = some v9 :=
  ⟨h.cell 0, h.cell 1, h.cell 2, h.cell 3, h.cell 4, h.cell 5, h.cell 6, h.cell 7, h.cell 8, h.cell 9⟩
/-- the three slices of a sky: satellites, sites, zones -/
structure InSky (w : World) (D : Nat) (As : Option Addr) (ns cs : Nat) (Ai : Option Addr) (ni ci : Nat) (Az : Option Addr) (nz cz : Nat) (ls : List Sat4) (li lz : List Tri) : Prop where
  s : Sl w D 4 As ns cs (fl c4 ls)
  i : Sl w D 3 Ai ni ci (fl c3 li)
  z : Sl w D 3 Az nz cz (fl c3 lz)
section
variable {w w' : World} {D D' : Nat} {As : Option Addr} {ns cs : Nat} {Ai : Option Addr} {ni ci : Nat} {Az : Option Addr} {nz cz : Nat} {ls : List Sat4} {li lz : List Tri}
theorem InSky.below {B : Nat} (h : InSky w D As ns cs Ai ni ci Az nz cz ls li lz) (hb : Below B w w') (hB : D ≤ B) : InSky w' D As ns cs Ai ni ci Az nz cz ls li lz := ⟨h.s.below hb hB, h.i.below hb hB, h.z.below hb hB⟩
theorem InSky.more (h : InSky w D As ns cs Ai ni ci Az nz cz ls li lz) (hB : D ≤ D') : InSky w D' As ns cs Ai ni ci Az nz cz ls li lz := ⟨h.s.more hB, h.i.more hB, h.z.more hB⟩
theorem InSky.on (h : InSky w w.heap.size As ns cs Ai ni ci Az nz cz ls li lz) (hb : Below w.heap.size w w') : InSky w' w'.heap.size As ns cs Ai ni ci Az nz cz ls li lz := (h.below hb (Nat.le_refl _)).more hb.size
theorem InSky.ns_ (h : InSky w D As ns cs Ai ni ci Az nz cz ls li lz) : ns = ls.length := h.s.num c4_len (by omega)
theorem InSky.ni_ (h : InSky w D As ns cs Ai ni ci Az nz cz ls li lz) : ni = li.length := h.i.num c3_len (by omega)
theorem InSky.nz_ (h : InSky w D As ns cs Ai ni ci Az nz cz ls li lz) : nz = lz.length := h.z.num c3_len (by omega)
end
section
variable {H : Type} {enc : TypeId × Value → H} {P : Program} {w : World} {base : Nat}
/-- an argument's cell that is a slice of elements, each of which reads as f of something -/
theorem open_rows {α : Type} [Inhabited α] {T E : TypeId} {s n : Nat} {u : Value} {y : DataW H × List MemPlace} (f : α → List Value) (hf : ∀ x, (f x).length = s) (Q : α → Prop) (hT : P.underlying T = some (.slice E)) (hC : P.cellsOf E = s) (hs : 0 < s)
    (hE : ∀ n cs y, DataW.trod enc P w 0 (fun _ => true) true n E cs = some y → ∃ x, cs = f x ∧ Q x) (h : DataW.trod enc P w 0 (fun _ => true) true n T [u] = some y) :
    ∃ (A : Option Addr) (l : List α) (cap : Nat), u = .slice A l.length cap ∧ (∀ x ∈ l, Q x) ∧ Sl w w.heap.size s A l.length cap (fl f l) := by
  rcases open_slice hT h with ⟨hcs, _⟩ | ⟨a, len, cap, m, n, D, Pl, hcs, _, hl, hm, hmm, _, hi⟩
  · simp only [List.cons.injEq, and_true] at hcs
    exact ⟨none, [], 0, hcs, (fun x hx => by cases hx), by simp [fl], (fun hn => by simp [fl] at hn), Nat.le_refl _, by omega, fun _ => rfl⟩
  · simp only [List.cons.injEq, and_true] at hcs
    simp only [if_true] at hmm
    unfold maxLen at hm
    have key : ∀ i : Nat, ∃ x : α, i < len → (∀ j, j < s → w.cell? (a.add (i * s + j)) = (f x)[j]?) ∧ Q x := by
      intro i
      by_cases hlt : i < len
      · obtain ⟨cs', hc, ht⟩ := hi i (by omega)
        rw [hC] at hc
        obtain ⟨_, hcl, hat⟩ := World.cells?_some hc
        obtain ⟨x, rfl, hq⟩ := hE _ _ _ ht
        exact ⟨x, fun _ => ⟨fun j hj => by have := hat j hj; rwa [add_of_add] at this, hq⟩⟩
      · exact ⟨default, fun h => absurd h hlt⟩
    obtain ⟨g, hg⟩ := Classical.axiomOfChoice key
    have hlen : ((List.range len).map g).length = len := by simp
    have hrow : (fl f ((List.range len).map g)).length = len * s := by rw [fl_len hf, hlen]
    refine ⟨some a, (List.range len).map g, cap, by rw [hlen]; exact hcs, ?_, by rw [hrow, hlen], fun hn => ?_, by rw [hlen]; exact hl, by omega, fun e => by cases e⟩
    · intro p hp
      obtain ⟨i, hi2, rfl⟩ := List.mem_map.1 hp
      exact (hg i (List.mem_range.1 hi2)).2
    · rw [hrow] at hn
      have h0 : 0 < len := Nat.pos_of_mul_pos_right hn
      refine ⟨a, rfl, ?_, fun j v hv => ?_⟩
      · have h5 := (hg 0 h0).1 0 hs
        rw [List.getElem?_eq_getElem (by rw [hf]; exact hs)] at h5
        rcases Nat.lt_or_ge a.block w.heap.size with h | h
        · exact h
        · simp [World.cell?, Array.getElem?_eq_none h, Addr.add] at h5
      · have hj : j < len * s := by have := (List.getElem?_eq_some_iff.1 hv).1; rw [hrow] at this; exact this
        have hk : j / s < len := Nat.div_lt_of_lt_mul (by rw [Nat.mul_comm]; exact hj)
        have e : j = j / s * s + j % s := by rw [Nat.mul_comm]; exact (Nat.div_add_mod j s).symm
        have h6 := fl_get hf ((List.range len).map g) (j / s) (by rw [hlen]; exact hk) (j % s) (Nat.mod_lt _ hs)
        rw [← e, hv] at h6
        have h7 := (hg (j / s) hk).1 (j % s) (Nat.mod_lt _ hs)
        rw [← e] at h7
        rw [h7, h6]
        simp
theorem el_four {T : TypeId} {f0 f1 f2 f3 : Field} {n : Nat} {cs : List Value} {y : DataW H × List MemPlace} (hT : P.underlying T = some (.struct #[f0, f1, f2, f3])) (hone : oneCellFields P #[f0, f1, f2, f3] = true) (hC : P.cellsOf T = 4)
    (h0 : P.underlying f0.type = some (.int .i64)) (h1 : P.underlying f1.type = some (.int .i64)) (h2 : P.underlying f2.type = some (.int .i64)) (h3 : P.underlying f3.type = some (.int .i64))
    (h : DataW.trod enc P w 0 (fun _ => true) true n T cs = some y) : ∃ x : Sat4, cs = c4 x ∧ Ok4 x := by
  obtain ⟨y0, y1, y2, y3, n, hx, hl, t0, t1, t2, t3⟩ := trod_struct4 hT h
  rw [hC] at hl
  obtain ⟨o0, k0⟩ := hone_of hone 0 f0 rfl
  obtain ⟨o1, k1⟩ := hone_of hone 1 f1 rfl
  obtain ⟨o2, k2⟩ := hone_of hone 2 f2 rfl
  obtain ⟨o3, k3⟩ := hone_of hone 3 f3 rfl
  rw [o0, k0] at t0; rw [o1, k1] at t1; rw [o2, k2] at t2; rw [o3, k3] at t3
  obtain ⟨x, e0, _, w0⟩ := DataW.trod_int h0 t0
  obtain ⟨y, e1, _, w1⟩ := DataW.trod_int h1 t1
  obtain ⟨z, e2, _, w2⟩ := DataW.trod_int h2 t2
  obtain ⟨u, e3, _, w3⟩ := DataW.trod_int h3 t3
  match cs, hl with
  | [v0, v1, v2, v3], _ =>
    simp at e0 e1 e2 e3
    exact ⟨⟨x, y, z, u⟩, by rw [e0, e1, e2, e3]; rfl, wf_j64 w0, wf_j64 w1, wf_j64 w2, wf_j64 w3⟩
theorem el_tri {T : TypeId} {f0 f1 f2 : Field} {n : Nat} {cs : List Value} {y : DataW H × List MemPlace} (hT : P.underlying T = some (.struct #[f0, f1, f2])) (hone : oneCellFields P #[f0, f1, f2] = true) (hC : P.cellsOf T = 3)
    (h0 : P.underlying f0.type = some (.int .i64)) (h1 : P.underlying f1.type = some (.int .i64)) (h2 : P.underlying f2.type = some (.int .i64))
    (h : DataW.trod enc P w 0 (fun _ => true) true n T cs = some y) : ∃ x : Tri, cs = c3 x ∧ Ok3 x := by
  obtain ⟨y0, y1, y2, n, hx, hl, t0, t1, t2⟩ := trod_struct3 hT h
  rw [hC] at hl
  obtain ⟨o0, k0⟩ := hone_of hone 0 f0 rfl
  obtain ⟨o1, k1⟩ := hone_of hone 1 f1 rfl
  obtain ⟨o2, k2⟩ := hone_of hone 2 f2 rfl
  rw [o0, k0] at t0; rw [o1, k1] at t1; rw [o2, k2] at t2
  obtain ⟨x, e0, _, w0⟩ := DataW.trod_int h0 t0
  obtain ⟨y, e1, _, w1⟩ := DataW.trod_int h1 t1
  obtain ⟨z, e2, _, w2⟩ := DataW.trod_int h2 t2
  match cs, hl with
  | [v0, v1, v2], _ =>
    simp at e0 e1 e2
    exact ⟨⟨x, y, z⟩, by rw [e0, e1, e2]; rfl, wf_j64 w0, wf_j64 w1, wf_j64 w2⟩
/-- an integer and a struct of two integers -/
theorem el_one_two {T : TypeId} {f0 f1 g0 g1 : Field} {n : Nat} {cs : List Value} {y : DataW H × List MemPlace} (hT : P.underlying T = some (.struct #[f0, f1])) (hC : P.cellsOf T = 3) (hk : (f0.offset, P.cellsOf f0.type, f1.offset, P.cellsOf f1.type) = (0, 1, 1, 2))
    (h0 : P.underlying f0.type = some (.int .i64)) (hT1 : P.underlying f1.type = some (.struct #[g0, g1])) (hone : oneCellFields P #[g0, g1] = true) (h1 : P.underlying g0.type = some (.int .i64)) (h2 : P.underlying g1.type = some (.int .i64))
    (h : DataW.trod enc P w 0 (fun _ => true) true n T cs = some y) : ∃ x : Tri, cs = c3 x ∧ Ok3 x := by
  obtain ⟨y0, y1, n, hx, hl, t0, t1⟩ := trod_struct2 hT h
  rw [hC] at hl
  simp only [Prod.mk.injEq] at hk
  obtain ⟨k0, k1, k2, k3⟩ := hk
  rw [k0, k1] at t0; rw [k2, k3] at t1
  obtain ⟨z0, z1, n, hx, hl1, s0, s1⟩ := trod_struct2 hT1 t1
  obtain ⟨o0, q0⟩ := hone_of hone 0 g0 rfl
  obtain ⟨o1, q1⟩ := hone_of hone 1 g1 rfl
  rw [o0, q0] at s0; rw [o1, q1] at s1
  obtain ⟨x, e0, _, w0⟩ := DataW.trod_int h0 t0
  obtain ⟨y, e1, _, w1⟩ := DataW.trod_int h1 s0
  obtain ⟨z, e2, _, w2⟩ := DataW.trod_int h2 s1
  match cs, hl with
  | [v0, v1, v2], _ =>
    simp at e0 e1 e2
    exact ⟨⟨x, y, z⟩, by rw [e0, e1, e2]; rfl, wf_j64 w0, wf_j64 w1, wf_j64 w2⟩
end
end Go.Proofs.Ytjobjjmeneddnaa
