/- The contract of chapter 7's draw l7Sky: a sky of two planes. -/
import Derived.Test.YtpaedbmdcbmpiaaDoorDrawSats
import Derived.Test.YtpaedbmdcbmpiaaDoorSkyCopies
import Derived.Test.YtpaedbmdcbmpiaaDoorAngle
import Derived.Deep.RegionLaw
import Derived.Deep.AppendLies
namespace Go.Proofs.YtpaedbmdcbmpiaaDoor
open Go.ChangeShapes Go.WideShapes Go.ChangeAt Go.RowKit
set_option linter.unusedVariables false
/-- the three slices of a sky, one's own -/
structure OwnSky (w : World) (B : Nat) (As : Option Addr) (ns cs : Nat) (Ai : Option Addr) (ni ci : Nat) (Az : Option Addr) (nz cz : Nat) (ls : List Sat4) (li lz : List Tri) : Prop where
  s : Own w B 76 4 As ns cs (fl c4 ls)
  i : Own w B 102 3 Ai ni ci (fl c3 li)
  z : Own w B 117 3 Az nz cz (fl c3 lz)
section
variable {w w' : World} {B B' p : Nat} {As : Option Addr} {ns cs : Nat} {Ai : Option Addr} {ni ci : Nat} {Az : Option Addr} {nz cz : Nat} {ls : List Sat4} {li lz : List Tri}
theorem OwnSky.turn (h : OwnSky w B As ns cs Ai ni ci Az nz cz ls li lz) (ht : Turn p w w') (hp : p < B) : OwnSky w' B As ns cs Ai ni ci Az nz cz ls li lz := ⟨h.s.turn ht hp, h.i.turn ht hp, h.z.turn ht hp⟩
theorem OwnSky.far (h : OwnSky w B As ns cs Ai ni ci Az nz cz ls li lz) {a : Addr} (ha : a.block < B) (u : Value) : OwnSky (w.setCell a u) B As ns cs Ai ni ci Az nz cz ls li lz := ⟨h.s.far ha u, h.i.far ha u, h.z.far ha u⟩
theorem OwnSky.on (h : OwnSky w B As ns cs Ai ni ci Az nz cz ls li lz) (hb : Below w.heap.size w w') : OwnSky w' B As ns cs Ai ni ci Az nz cz ls li lz := ⟨h.s.on hb, h.i.on hb, h.z.on hb⟩
theorem OwnSky.alloc (h : OwnSky w B As ns cs Ai ni ci Az nz cz ls li lz) (o : Obj) : OwnSky (w.alloc o) B As ns cs Ai ni ci Az nz cz ls li lz := h.on ((Below.refl _ _).alloc (Nat.le_refl _) o)
theorem OwnSky.fewer (h : OwnSky w B As ns cs Ai ni ci Az nz cz ls li lz) (hB : B' ≤ B) : OwnSky w B' As ns cs Ai ni ci Az nz cz ls li lz := ⟨h.s.fewer hB, h.i.fewer hB, h.z.fewer hB⟩
theorem OwnSky.inSky (h : OwnSky w B As ns cs Ai ni ci Az nz cz ls li lz) : InSky w w.heap.size As ns cs Ai ni ci Az nz cz ls li lz := ⟨h.s.sl, h.i.sl, h.z.sl⟩
end
theorem Dr.drew {w0 w : World} {p : Nat} {A : Option Addr} {cap : Nat} {xs : List Value} (h : Dr w0 p A cap xs w) : Dr w0 p A cap xs w.drew := ⟨h.lt, h.cur, h.turn.drew⟩
theorem mul_small (j t : Nat) (hj : j < 2) (ht : t < 2) : 0 ≤ 4 * (j : Int) * (t : Int) ∧ 4 * (j : Int) * (t : Int) ≤ 4 := by
  have : j = 0 ∨ j = 1 := by omega
  have : t = 0 ∨ t = 1 := by omega
  rcases ‹j = 0 ∨ j = 1› with rfl | rfl <;> rcases ‹t = 0 ∨ t = 1› with rfl | rfl <;> omega
/-- a block that stands below one's own stays, when that grows -/
theorem Blk.grown {w w' : World} {g B : Nat} {t : TypeId} {cs : Array Value} {E : TypeId} {s n c : Nat} {A' : Option Addr} {ys : List Value} (h : Blk w g t cs) (ho : Own w B E s A' n c ys) (hg : w.grownBy w' (Value.slice A' n c).ownBlock) (hB : g < B) : Blk w' g t cs := by
  refine (hg.block g h.lt fun e => ?_).trans h
  rcases ho.blk with e2 | ⟨g2, e2, hg2, _⟩
  · rw [e2] at e; cases e
  · rw [e2] at e; injection e with e; omega
theorem Sl.one4 (w : World) (u v z y : Value) (t : TypeId) : Sl (w.alloc (.cells #[u, v, z, y] t)) (w.heap.size + 1) 4 (some ⟨w.heap.size, 0, none⟩) 1 1 [u, v, z, y] :=
  ⟨rfl, fun _ => ⟨_, rfl, by simp, fun j x hx => by
    have e : (⟨w.heap.size, 0, none⟩ : Addr).add j = ⟨w.heap.size, j, none⟩ := by unfold Addr.add; split <;> simp_all
    rw [e, cell_of_row _ _ _ _ _ _ (heap_alloc_new w _), ← hx]
    simp⟩, Nat.le_refl _, by omega, fun h => by cases h⟩
/-- a slice that does not lie in block s; two slices that lie in different blocks -/
def NotAt (s : Nat) (A : Option Addr) : Prop := ∀ a, A = some a → a.block ≠ s
def Apart (A A' : Option Addr) : Prop := ∀ a b, A = some a → A' = some b → a.block ≠ b.block
theorem Apart.none_ (A : Option Addr) : Apart A none := fun a b _ h => by cases h
theorem NotAt.apart {g : Nat} {A : Option Addr} (h : NotAt g A) : Apart A (some ⟨g, 0, none⟩) := fun a b h1 h2 => by injection h2 with h2; subst h2; exact h a h1
theorem NotAt.none_ (s : Nat) : NotAt s none := fun a h => by cases h
theorem Own.notAt {w : World} {B s n c t : Nat} {E : TypeId} {A : Option Addr} {xs : List Value} (h : Own w B E s A n c xs) (ht : w.heap.size ≤ t) : NotAt t A := by
  intro a e
  rcases h.form with ⟨h1, _⟩ | ⟨g, h1, _, h2, _⟩
  · rw [h1] at e; cases e
  · rw [h1] at e; injection e with e; subst e; simp; omega
/-- what l7Sky answers -/
def GotSky (w : World) (p : Nat) (A : Option Addr) (cap : Nat) (xs : List Value) (e : Ending) (w' : World) : Prop :=
  (∃ (P R X V U D Q : Int) (ns ni nz : Nat) (ls : List Sat4) (li lz : List Tri) (As : Option Addr) (cs : Nat) (Ai : Option Addr) (ci : Nat) (Az : Option Addr) (cz : Nat),
    e = .returned (.agg #[.int .i64 P, .slice As ns cs, .slice Ai ni ci, .int .i64 R, .int .i64 X, .int .i64 V, .int .i64 U, .int .i64 D, .slice Az nz cz, .int .i64 Q]) ∧ OwnSky w' w.heap.size As ns cs Ai ni ci Az nz cz ls li lz ∧ (4 ≤ ns ∧ ns ≤ 6 ∧ ni = 2 ∧ nz ≤ 1) ∧ (Apart As Ai ∧ Apart As Az ∧ Apart Ai Az) ∧ (J64 P ∧ J64 R ∧ J64 X ∧ J64 V ∧ J64 U ∧ J64 D ∧ J64 Q) ∧ (∀ x ∈ ls, Oke x) ∧ (∀ x ∈ li, Ok3 x)) ∧ Cur w' p A cap xs ∧ Turn p w w'
/-- the state of l7Sky's loops: n0 the result's block, s the sky's -/
structure StSky (w : World) (p : Nat) (A : Option Addr) (cap : Nat) (xs : List Value) (s : Nat) (R X V U Q : Int) (As : Option Addr) (ns cs : Nat) (ls : List Sat4) (wr : World) : Prop where
  dr : Dr w p A cap xs wr
  r : Blk wr w.heap.size 28 #[.int .i64 0, .slice none 0 0, .slice none 0 0, .int .i64 0, .int .i64 0, .int .i64 0, .int .i64 0, .int .i64 0, .slice none 0 0, .int .i64 0]
  b : Blk wr s 28 #[.int .i64 2, .slice As ns cs, .slice none 0 0, .int .i64 R, .int .i64 X, .int .i64 V, .int .i64 U, .int .i64 60, .slice none 0 0, .int .i64 Q]
  o : Own wr (s + 1) 76 4 As ns cs (fl c4 ls)
  k : ∀ x ∈ ls, Oke x
  lt : w.heap.size < s
theorem StSky.call {w : World} {p : Nat} {A : Option Addr} {cap : Nat} {xs : List Value} {s : Nat} {R X V U Q : Int} {As : Option Addr} {ns cs : Nat} {ls : List Sat4} {wr w' : World} (h : StSky w p A cap xs s R X V U Q As ns cs ls wr) (c : Cur w' p A cap xs) (u : Turn p wr w') : StSky w p A cap xs s R X V U Q As ns cs ls w' := by
  have h1 := h.dr.lt; have h2 := h.lt
  exact ⟨h.dr.call c u, u.blk h.r (by omega), u.blk h.b (by omega), h.o.turn u (by omega), h.k, h.lt⟩
theorem StSky.below {w : World} {p : Nat} {A : Option Addr} {cap : Nat} {xs : List Value} {s : Nat} {R X V U Q : Int} {As : Option Addr} {ns cs : Nat} {ls : List Sat4} {wr w' : World} (h : StSky w p A cap xs s R X V U Q As ns cs ls wr) (hb : Below wr.heap.size wr w') : StSky w p A cap xs s R X V U Q As ns cs ls w' :=
  ⟨h.dr.below hb, h.r.below hb h.r.lt, h.b.below hb h.b.lt, h.o.on hb, h.k, h.lt⟩
/-- a satellite appended, and the slice stored into the sky -/
theorem StSky.more {w : World} {p : Nat} {A : Option Addr} {cap : Nat} {xs : List Value} {s : Nat} {R X V U Q : Int} {As A2 : Option Addr} {ns cs c2 : Nat} {ls : List Sat4} {wr w' : World} {x : Sat4} (h : StSky w p A cap xs s R X V U Q As ns cs ls wr) (ho : Own w' (s + 1) 76 4 A2 (ns + 1) c2 (fl c4 ls ++ c4 x)) (hg : wr.grownBy w' (Value.slice As ns cs).ownBlock) (hx : Oke x) :
    StSky w p A cap xs s R X V U Q A2 (ns + 1) c2 (ls ++ [x]) (w'.setCell ⟨s, 1, none⟩ (.slice A2 (ns + 1) c2)) := by
  have h1 := h.dr.lt; have h2 := h.lt
  refine ⟨(h.dr.grown (h.o.fewer (by omega)) hg).set_ (by simp; omega) _, (h.r.grown h.o hg (by omega)).far (by simp; omega) _, ?_, ?_, ?_, h.lt⟩
  · have := (h.b.grown h.o hg (by omega)).set_ 1 (.slice A2 (ns + 1) c2)
    simpa using this
  · have := ho.far (p := ⟨s, 1, none⟩) (by simp) (.slice A2 (ns + 1) c2)
    rw [fl_app]
    simpa [fl] using this
  · intro y hy
    rcases List.mem_append.1 hy with hy | hy
    · exact h.k y hy
    · rw [List.mem_singleton.1 hy]; exact hx
/-- the state of a draw that makes a sky in block s, its result's block being the first -/
structure StG (w : World) (p : Nat) (A : Option Addr) (cap : Nat) (xs : List Value) (s : Nat) (P R X V U D Q : Int) (ns ni nz : Nat) (ls : List Sat4) (li lz : List Tri) (As : Option Addr) (cs : Nat) (Ai : Option Addr) (ci : Nat) (Az : Option Addr) (cz : Nat) (wr : World) : Prop where
  dr : Dr w p A cap xs wr
  r : Blk wr w.heap.size 28 #[.int .i64 0, .slice none 0 0, .slice none 0 0, .int .i64 0, .int .i64 0, .int .i64 0, .int .i64 0, .int .i64 0, .slice none 0 0, .int .i64 0]
  b : Blk wr s 28 #[.int .i64 P, .slice As ns cs, .slice Ai ni ci, .int .i64 R, .int .i64 X, .int .i64 V, .int .i64 U, .int .i64 D, .slice Az nz cz, .int .i64 Q]
  o : OwnSky wr (s + 1) As ns cs Ai ni ci Az nz cz ls li lz
  ks : ∀ x ∈ ls, Oke x
  ki : ∀ x ∈ li, Ok3 x
  lt : w.heap.size < s
theorem StSky.g {w : World} {p : Nat} {A : Option Addr} {cap : Nat} {xs : List Value} {s : Nat} {R X V U Q : Int} {As : Option Addr} {ns cs : Nat} {ls : List Sat4} {wr : World} (h : StSky w p A cap xs s R X V U Q As ns cs ls wr) :
    StG w p A cap xs s 2 R X V U 60 Q ns 0 0 ls [] [] As cs none 0 none 0 wr := ⟨h.dr, h.r, h.b, ⟨h.o, Own.empty _ _ _ _, Own.empty _ _ _ _⟩, h.k, by simp, h.lt⟩
theorem StG.call {w : World} {p : Nat} {A : Option Addr} {cap : Nat} {xs : List Value} {s : Nat} {P R X V U D Q : Int} {ns ni nz : Nat} {ls : List Sat4} {li lz : List Tri} {As : Option Addr} {cs : Nat} {Ai : Option Addr} {ci : Nat} {Az : Option Addr} {cz : Nat} {wr w' : World} (h : StG w p A cap xs s P R X V U D Q ns ni nz ls li lz As cs Ai ci Az cz wr) (c : Cur w' p A cap xs) (u : Turn p wr w') : StG w p A cap xs s P R X V U D Q ns ni nz ls li lz As cs Ai ci Az cz w' := by
  have h1 := h.dr.lt; have h2 := h.lt
  exact ⟨h.dr.call c u, u.blk h.r (by omega), u.blk h.b (by omega), h.o.turn u (by omega), h.ks, h.ki, h.lt⟩
theorem StG.below {w : World} {p : Nat} {A : Option Addr} {cap : Nat} {xs : List Value} {s : Nat} {P R X V U D Q : Int} {ns ni nz : Nat} {ls : List Sat4} {li lz : List Tri} {As : Option Addr} {cs : Nat} {Ai : Option Addr} {ci : Nat} {Az : Option Addr} {cz : Nat} {wr w' : World} (h : StG w p A cap xs s P R X V U D Q ns ni nz ls li lz As cs Ai ci Az cz wr) (hb : Below wr.heap.size wr w') : StG w p A cap xs s P R X V U D Q ns ni nz ls li lz As cs Ai ci Az cz w' :=
  ⟨h.dr.below hb, h.r.below hb h.r.lt, h.b.below hb h.b.lt, h.o.on hb, h.ks, h.ki, h.lt⟩
theorem StG.alloc {w : World} {p : Nat} {A : Option Addr} {cap : Nat} {xs : List Value} {s : Nat} {P R X V U D Q : Int} {ns ni nz : Nat} {ls : List Sat4} {li lz : List Tri} {As : Option Addr} {cs : Nat} {Ai : Option Addr} {ci : Nat} {Az : Option Addr} {cz : Nat} {wr : World} (h : StG w p A cap xs s P R X V U D Q ns ni nz ls li lz As cs Ai ci Az cz wr) (o : Obj) : StG w p A cap xs s P R X V U D Q ns ni nz ls li lz As cs Ai ci Az cz (wr.alloc o) := h.below ((Below.refl _ _).alloc (Nat.le_refl _) o)
theorem StG.set0 {w : World} {p : Nat} {A : Option Addr} {cap : Nat} {xs : List Value} {s : Nat} {P R X V U D Q : Int} {ns ni nz : Nat} {ls : List Sat4} {li lz : List Tri} {As : Option Addr} {cs : Nat} {Ai : Option Addr} {ci : Nat} {Az : Option Addr} {cz : Nat} {wr : World} (h : StG w p A cap xs s P R X V U D Q ns ni nz ls li lz As cs Ai ci Az cz wr) (z : Int) : StG w p A cap xs s z R X V U D Q ns ni nz ls li lz As cs Ai ci Az cz (wr.setCell ⟨s, 0, none⟩ (.int .i64 z)) := by
  have h2 := h.lt
  exact ⟨h.dr.set_ (by simp; omega) _, h.r.far (by simp; omega) _, by simpa using h.b.set_ 0 (.int .i64 z), h.o.far (by simp) _, h.ks, h.ki, h.lt⟩
theorem StG.set3 {w : World} {p : Nat} {A : Option Addr} {cap : Nat} {xs : List Value} {s : Nat} {P R X V U D Q : Int} {ns ni nz : Nat} {ls : List Sat4} {li lz : List Tri} {As : Option Addr} {cs : Nat} {Ai : Option Addr} {ci : Nat} {Az : Option Addr} {cz : Nat} {wr : World} (h : StG w p A cap xs s P R X V U D Q ns ni nz ls li lz As cs Ai ci Az cz wr) (z : Int) : StG w p A cap xs s P z X V U D Q ns ni nz ls li lz As cs Ai ci Az cz (wr.setCell ⟨s, 3, none⟩ (.int .i64 z)) := by
  have h2 := h.lt
  exact ⟨h.dr.set_ (by simp; omega) _, h.r.far (by simp; omega) _, by simpa using h.b.set_ 3 (.int .i64 z), h.o.far (by simp) _, h.ks, h.ki, h.lt⟩
theorem StG.set6 {w : World} {p : Nat} {A : Option Addr} {cap : Nat} {xs : List Value} {s : Nat} {P R X V U D Q : Int} {ns ni nz : Nat} {ls : List Sat4} {li lz : List Tri} {As : Option Addr} {cs : Nat} {Ai : Option Addr} {ci : Nat} {Az : Option Addr} {cz : Nat} {wr : World} (h : StG w p A cap xs s P R X V U D Q ns ni nz ls li lz As cs Ai ci Az cz wr) (z : Int) : StG w p A cap xs s P R X V z D Q ns ni nz ls li lz As cs Ai ci Az cz (wr.setCell ⟨s, 6, none⟩ (.int .i64 z)) := by
  have h2 := h.lt
  exact ⟨h.dr.set_ (by simp; omega) _, h.r.far (by simp; omega) _, by simpa using h.b.set_ 6 (.int .i64 z), h.o.far (by simp) _, h.ks, h.ki, h.lt⟩
theorem StG.set9 {w : World} {p : Nat} {A : Option Addr} {cap : Nat} {xs : List Value} {s : Nat} {P R X V U D Q : Int} {ns ni nz : Nat} {ls : List Sat4} {li lz : List Tri} {As : Option Addr} {cs : Nat} {Ai : Option Addr} {ci : Nat} {Az : Option Addr} {cz : Nat} {wr : World} (h : StG w p A cap xs s P R X V U D Q ns ni nz ls li lz As cs Ai ci Az cz wr) (z : Int) : StG w p A cap xs s P R X V U D z ns ni nz ls li lz As cs Ai ci Az cz (wr.setCell ⟨s, 9, none⟩ (.int .i64 z)) := by
  have h2 := h.lt
  exact ⟨h.dr.set_ (by simp; omega) _, h.r.far (by simp; omega) _, by simpa using h.b.set_ 9 (.int .i64 z), h.o.far (by simp) _, h.ks, h.ki, h.lt⟩
theorem StG.set1 {w : World} {p : Nat} {A : Option Addr} {cap : Nat} {xs : List Value} {s : Nat} {P R X V U D Q : Int} {ns ni nz : Nat} {ls : List Sat4} {li lz : List Tri} {As : Option Addr} {cs : Nat} {Ai : Option Addr} {ci : Nat} {Az : Option Addr} {cz : Nat} {wr : World} (h : StG w p A cap xs s P R X V U D Q ns ni nz ls li lz As cs Ai ci Az cz wr) : StG w p A cap xs s P R X V U D Q 0 ni nz [] li lz none 0 Ai ci Az cz (wr.setCell ⟨s, 1, none⟩ (.slice none 0 0)) := by
  have h2 := h.lt
  exact ⟨h.dr.set_ (by simp; omega) _, h.r.far (by simp; omega) _, by simpa using h.b.set_ 1 (.slice none 0 0), ⟨Own.empty _ _ _ _, h.o.i.far (by simp) _, h.o.z.far (by simp) _⟩, by simp, h.ki, h.lt⟩
theorem StG.set2 {w : World} {p : Nat} {A : Option Addr} {cap : Nat} {xs : List Value} {s : Nat} {P R X V U D Q : Int} {ns ni nz : Nat} {ls : List Sat4} {li lz : List Tri} {As : Option Addr} {cs : Nat} {Ai : Option Addr} {ci : Nat} {Az : Option Addr} {cz : Nat} {wr : World} {A2 : Option Addr} {n2 c2 : Nat} {l2 : List Tri} (h : StG w p A cap xs s P R X V U D Q ns ni nz ls li lz As cs Ai ci Az cz wr) (ho : Own wr (s + 1) 102 3 A2 n2 c2 (fl c3 l2)) (hk : ∀ x ∈ l2, Ok3 x) : StG w p A cap xs s P R X V U D Q ns n2 nz ls l2 lz As cs A2 c2 Az cz (wr.setCell ⟨s, 2, none⟩ (.slice A2 n2 c2)) := by
  have h2 := h.lt
  exact ⟨h.dr.set_ (by simp; omega) _, h.r.far (by simp; omega) _, by simpa using h.b.set_ 2 (.slice A2 n2 c2), ⟨h.o.s.far (by simp) _, ho.far (by simp) _, h.o.z.far (by simp) _⟩, h.ks, hk, h.lt⟩
theorem StG.set8 {w : World} {p : Nat} {A : Option Addr} {cap : Nat} {xs : List Value} {s : Nat} {P R X V U D Q : Int} {ns ni nz : Nat} {ls : List Sat4} {li lz : List Tri} {As : Option Addr} {cs : Nat} {Ai : Option Addr} {ci : Nat} {Az : Option Addr} {cz : Nat} {wr : World} {A2 : Option Addr} {n2 c2 : Nat} {l2 : List Tri} (h : StG w p A cap xs s P R X V U D Q ns ni nz ls li lz As cs Ai ci Az cz wr) (ho : Own wr (s + 1) 117 3 A2 n2 c2 (fl c3 l2)) : StG w p A cap xs s P R X V U D Q ns ni n2 ls li l2 As cs Ai ci A2 c2 (wr.setCell ⟨s, 8, none⟩ (.slice A2 n2 c2)) := by
  have h2 := h.lt
  exact ⟨h.dr.set_ (by simp; omega) _, h.r.far (by simp; omega) _, by simpa using h.b.set_ 8 (.slice A2 n2 c2), ⟨h.o.s.far (by simp) _, h.o.i.far (by simp) _, ho.far (by simp) _⟩, h.ks, h.ki, h.lt⟩
/-- the sky loaded and stored into the result -/
theorem StG.fin {w : World} {p : Nat} {A : Option Addr} {cap : Nat} {xs : List Value} {s : Nat} {P R X V U D Q : Int} {ns ni nz : Nat} {ls : List Sat4} {li lz : List Tri} {As : Option Addr} {cs : Nat} {Ai : Option Addr} {ci : Nat} {Az : Option Addr} {cz : Nat} {wr : World} (h : StG w p A cap xs s P R X V U D Q ns ni nz ls li lz As cs Ai ci Az cz wr) : Blk ((((((((((wr.setCell ⟨w.heap.size, 0, none⟩ (.int .i64 P)).setCell ⟨w.heap.size, 1, none⟩ (.slice As ns cs)).setCell ⟨w.heap.size, 2, none⟩ (.slice Ai ni ci)).setCell ⟨w.heap.size, 3, none⟩ (.int .i64 R)).setCell ⟨w.heap.size, 4, none⟩ (.int .i64 X)).setCell ⟨w.heap.size, 5, none⟩ (.int .i64 V)).setCell ⟨w.heap.size, 6, none⟩ (.int .i64 U)).setCell ⟨w.heap.size, 7, none⟩ (.int .i64 D)).setCell ⟨w.heap.size, 8, none⟩ (.slice Az nz cz)).setCell ⟨w.heap.size, 9, none⟩ (.int .i64 Q)) w.heap.size 28 #[.int .i64 P, .slice As ns cs, .slice Ai ni ci, .int .i64 R, .int .i64 X, .int .i64 V, .int .i64 U, .int .i64 D, .slice Az nz cz, .int .i64 Q] ∧ Dr w p A cap xs ((((((((((wr.setCell ⟨w.heap.size, 0, none⟩ (.int .i64 P)).setCell ⟨w.heap.size, 1, none⟩ (.slice As ns cs)).setCell ⟨w.heap.size, 2, none⟩ (.slice Ai ni ci)).setCell ⟨w.heap.size, 3, none⟩ (.int .i64 R)).setCell ⟨w.heap.size, 4, none⟩ (.int .i64 X)).setCell ⟨w.heap.size, 5, none⟩ (.int .i64 V)).setCell ⟨w.heap.size, 6, none⟩ (.int .i64 U)).setCell ⟨w.heap.size, 7, none⟩ (.int .i64 D)).setCell ⟨w.heap.size, 8, none⟩ (.slice Az nz cz)).setCell ⟨w.heap.size, 9, none⟩ (.int .i64 Q)) ∧ OwnSky ((((((((((wr.setCell ⟨w.heap.size, 0, none⟩ (.int .i64 P)).setCell ⟨w.heap.size, 1, none⟩ (.slice As ns cs)).setCell ⟨w.heap.size, 2, none⟩ (.slice Ai ni ci)).setCell ⟨w.heap.size, 3, none⟩ (.int .i64 R)).setCell ⟨w.heap.size, 4, none⟩ (.int .i64 X)).setCell ⟨w.heap.size, 5, none⟩ (.int .i64 V)).setCell ⟨w.heap.size, 6, none⟩ (.int .i64 U)).setCell ⟨w.heap.size, 7, none⟩ (.int .i64 D)).setCell ⟨w.heap.size, 8, none⟩ (.slice Az nz cz)).setCell ⟨w.heap.size, 9, none⟩ (.int .i64 Q)) (s + 1) As ns cs Ai ni ci Az nz cz ls li lz := by
  have h2 := h.lt
  exact ⟨by simpa using ((((((((((h.r.set_ 0 (.int .i64 P)).set_ 1 (.slice As ns cs)).set_ 2 (.slice Ai ni ci)).set_ 3 (.int .i64 R)).set_ 4 (.int .i64 X)).set_ 5 (.int .i64 V)).set_ 6 (.int .i64 U)).set_ 7 (.int .i64 D)).set_ 8 (.slice Az nz cz)).set_ 9 (.int .i64 Q)), ((((((((((h.dr.set_ (a := ⟨w.heap.size, 0, none⟩) (by simp) (.int .i64 P)).set_ (a := ⟨w.heap.size, 1, none⟩) (by simp) (.slice As ns cs)).set_ (a := ⟨w.heap.size, 2, none⟩) (by simp) (.slice Ai ni ci)).set_ (a := ⟨w.heap.size, 3, none⟩) (by simp) (.int .i64 R)).set_ (a := ⟨w.heap.size, 4, none⟩) (by simp) (.int .i64 X)).set_ (a := ⟨w.heap.size, 5, none⟩) (by simp) (.int .i64 V)).set_ (a := ⟨w.heap.size, 6, none⟩) (by simp) (.int .i64 U)).set_ (a := ⟨w.heap.size, 7, none⟩) (by simp) (.int .i64 D)).set_ (a := ⟨w.heap.size, 8, none⟩) (by simp) (.slice Az nz cz)).set_ (a := ⟨w.heap.size, 9, none⟩) (by simp) (.int .i64 Q)), ((((((((((h.o.far (a := ⟨w.heap.size, 0, none⟩) (by simp; omega) (.int .i64 P)).far (a := ⟨w.heap.size, 1, none⟩) (by simp; omega) (.slice As ns cs)).far (a := ⟨w.heap.size, 2, none⟩) (by simp; omega) (.slice Ai ni ci)).far (a := ⟨w.heap.size, 3, none⟩) (by simp; omega) (.int .i64 R)).far (a := ⟨w.heap.size, 4, none⟩) (by simp; omega) (.int .i64 X)).far (a := ⟨w.heap.size, 5, none⟩) (by simp; omega) (.int .i64 V)).far (a := ⟨w.heap.size, 6, none⟩) (by simp; omega) (.int .i64 U)).far (a := ⟨w.heap.size, 7, none⟩) (by simp; omega) (.int .i64 D)).far (a := ⟨w.heap.size, 8, none⟩) (by simp; omega) (.slice Az nz cz)).far (a := ⟨w.heap.size, 9, none⟩) (by simp; omega) (.int .i64 Q))⟩
/-- the cells of both blocks, and that they may be written -/
theorem StG.cells {w : World} {p : Nat} {A : Option Addr} {cap : Nat} {xs : List Value} {s : Nat} {P R X V U D Q : Int} {ns ni nz : Nat} {ls : List Sat4} {li lz : List Tri} {As : Option Addr} {cs : Nat} {Ai : Option Addr} {ci : Nat} {Az : Option Addr} {cz : Nat} {wr : World} (h : StG w p A cap xs s P R X V U D Q ns ni nz ls li lz As cs Ai ci Az cz wr) : (wr.cell? ⟨s, 0, none⟩ = some (.int .i64 P) ∧ wr.cell? ⟨s, 1, none⟩ = some (.slice As ns cs) ∧ wr.cell? ⟨s, 2, none⟩ = some (.slice Ai ni ci) ∧ wr.cell? ⟨s, 3, none⟩ = some (.int .i64 R) ∧ wr.cell? ⟨s, 4, none⟩ = some (.int .i64 X) ∧ wr.cell? ⟨s, 5, none⟩ = some (.int .i64 V) ∧ wr.cell? ⟨s, 6, none⟩ = some (.int .i64 U) ∧ wr.cell? ⟨s, 7, none⟩ = some (.int .i64 D) ∧ wr.cell? ⟨s, 8, none⟩ = some (.slice Az nz cz) ∧ wr.cell? ⟨s, 9, none⟩ = some (.int .i64 Q)) ∧ (∀ i, wr.frozen? ⟨s, i, none⟩ = false) ∧ (wr.cell? ⟨w.heap.size, 0, none⟩ = some (.int .i64 0) ∧ wr.cell? ⟨w.heap.size, 1, none⟩ = some (.slice none 0 0) ∧ wr.cell? ⟨w.heap.size, 2, none⟩ = some (.slice none 0 0) ∧ wr.cell? ⟨w.heap.size, 3, none⟩ = some (.int .i64 0) ∧ wr.cell? ⟨w.heap.size, 4, none⟩ = some (.int .i64 0) ∧
    wr.cell? ⟨w.heap.size, 5, none⟩ = some (.int .i64 0) ∧ wr.cell? ⟨w.heap.size, 6, none⟩ = some (.int .i64 0) ∧ wr.cell? ⟨w.heap.size, 7, none⟩ = some (.int .i64 0) ∧ wr.cell? ⟨w.heap.size, 8, none⟩ = some (.slice none 0 0) ∧ wr.cell? ⟨w.heap.size, 9, none⟩ = some (.int .i64 0)) ∧
    (wr.frozen? ⟨w.heap.size, 0, none⟩ = false ∧ wr.frozen? ⟨w.heap.size, 1, none⟩ = false ∧ wr.frozen? ⟨w.heap.size, 2, none⟩ = false ∧ wr.frozen? ⟨w.heap.size, 3, none⟩ = false ∧ wr.frozen? ⟨w.heap.size, 4, none⟩ = false ∧ wr.frozen? ⟨w.heap.size, 5, none⟩ = false ∧ wr.frozen? ⟨w.heap.size, 6, none⟩ = false ∧ wr.frozen? ⟨w.heap.size, 7, none⟩ = false ∧ wr.frozen? ⟨w.heap.size, 8, none⟩ = false ∧ wr.frozen? ⟨w.heap.size, 9, none⟩ = false) :=
  ⟨⟨h.b.cell 0, h.b.cell 1, h.b.cell 2, h.b.cell 3, h.b.cell 4, h.b.cell 5, h.b.cell 6, h.b.cell 7, h.b.cell 8, h.b.cell 9⟩, fun i => h.b.frozen i,
    ⟨h.r.cell 0, h.r.cell 1, h.r.cell 2, h.r.cell 3, h.r.cell 4, h.r.cell 5, h.r.cell 6, h.r.cell 7, h.r.cell 8, h.r.cell 9⟩, h.r.frozen 0, h.r.frozen 1, h.r.frozen 2, h.r.frozen 3, h.r.frozen 4, h.r.frozen 5, h.r.frozen 6, h.r.frozen 7, h.r.frozen 8, h.r.frozen 9⟩
end Go.Proofs.YtpaedbmdcbmpiaaDoor
