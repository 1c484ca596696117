/- The contract of chapter 7's draw l7Sky: a sky of two planes. The contract of chapter 7's draw l7Sky: the walk. The contract of chapter 7's draw l7Any: the state. -/
import Derived.Test.YtlaigbhiligceaaGreatDoorDrawSats
import Derived.Test.YtlaigbhiligceaaGreatDoorApart
import Derived.Test.YtlaigbhiligceaaGreatDoorSkyCopies
import Derived.Test.YtlaigbhiligceaaGreatDoorAngle
import Derived.Deep.RegionLaw
import Derived.Deep.AppendLies
import Derived.Deep.Cut
namespace Go.Proofs.YtlaigbhiligceaaGreatDoor
open Go.ChangeShapes Go.WideShapes Go.ChangeAt Go.RowKit
set_option linter.unusedVariables false
/-- what l7Sky draws: a satellite and a site at an angle -/
def Okz (x : Sat4) : Prop := Oke x ∧ 0 ≤ x.h ∧ x.h < 360
def Oky (x : Tri) : Prop := Ok3 x ∧ 0 ≤ x.a ∧ x.a < 360
/-- the three slices of a sky, one's own -/
structure OwnSky (w : World) (B : Nat) (As : Option Addr) (ns cs : Nat) (Ai : Option Addr) (ni ci : Nat) (Az : Option Addr) (nz cz : Nat) (ls : List Sat4) (li lz : List Tri) : Prop where
  s : Own w B 109 4 As ns cs (fl c4 ls)
  i : Own w B 113 3 Ai ni ci (fl c3 li)
  z : Own w B 118 3 Az nz cz (fl c3 lz)
section
variable {w w' : World} {B B' p : Nat} {As : Option Addr} {ns cs : Nat} {Ai : Option Addr} {ni ci : Nat} {Az : Option Addr} {nz cz : Nat} {ls : List Sat4} {li lz : List Tri}
theorem OwnSky.turn (h : OwnSky w B As ns cs Ai ni ci Az nz cz ls li lz) (ht : Turn p w w') (hp : p < B) : OwnSky w' B As ns cs Ai ni ci Az nz cz ls li lz := ⟨h.s.turn ht hp, h.i.turn ht hp, h.z.turn ht hp⟩
theorem OwnSky.far (h : OwnSky w B As ns cs Ai ni ci Az nz cz ls li lz) {a : Addr} (ha : a.block < B) (u : Value) : OwnSky (w.setCell a u) B As ns cs Ai ni ci Az nz cz ls li lz := ⟨h.s.far ha u, h.i.far ha u, h.z.far ha u⟩
theorem OwnSky.on (h : OwnSky w B As ns cs Ai ni ci Az nz cz ls li lz) (hb : Below w.heap.size w w') : OwnSky w' B As ns cs Ai ni ci Az nz cz ls li lz := ⟨h.s.on hb, h.i.on hb, h.z.on hb⟩
theorem OwnSky.alloc (h : OwnSky w B As ns cs Ai ni ci Az nz cz ls li lz) (o : Obj) : OwnSky (w.alloc o) B As ns cs Ai ni ci Az nz cz ls li lz := h.on ((Below.refl _ _).alloc (Nat.le_refl _) o)
theorem OwnSky.fewer (h : OwnSky w B As ns cs Ai ni ci Az nz cz ls li lz) (hB : B' ≤ B) : OwnSky w B' As ns cs Ai ni ci Az nz cz ls li lz := ⟨h.s.fewer hB, h.i.fewer hB, h.z.fewer hB⟩
theorem OwnSky.inSky (h : OwnSky w B As ns cs Ai ni ci Az nz cz ls li lz) : InSky w w.heap.size As ns cs Ai ni ci Az nz cz ls li lz := ⟨h.s.sl, h.i.sl, h.z.sl⟩
end
theorem Dr.drew {w0 w : World} {p : Nat} {A : Option Addr} {cap : Nat} {xs : List Value} (h : Dr w0 p A cap xs w) : Dr w0 p A cap xs w.drew := ⟨h.lt, h.cur, h.turn.drew⟩
theorem mul_small (j t : Nat) (hj : j < 2) (ht : t < 2) : 0 ≤ 4 * (j : Int) * (t : Int) ∧ 4 * (j : Int) * (t : Int) ≤ 4 := by
  have : j = 0 ∨ j = 1 := by omega
  have : t = 0 ∨ t = 1 := by omega
  rcases ‹j = 0 ∨ j = 1› with rfl | rfl <;> rcases ‹t = 0 ∨ t = 1› with rfl | rfl <;> omega
/-- what l7Sky answers -/
def GotSky (w : World) (p : Nat) (A : Option Addr) (cap : Nat) (xs : List Value) (e : Ending) (w' : World) : Prop :=
  (∃ (P R X V U D Q : Int) (ns ni nz : Nat) (ls : List Sat4) (li lz : List Tri) (As : Option Addr) (cs : Nat) (Ai : Option Addr) (ci : Nat) (Az : Option Addr) (cz : Nat),
    e = .returned (.agg #[.int .i64 P, .slice As ns cs, .slice Ai ni ci, .int .i64 R, .int .i64 X, .int .i64 V, .int .i64 U, .int .i64 D, .slice Az nz cz, .int .i64 Q]) ∧ OwnSky w' w.heap.size As ns cs Ai ni ci Az nz cz ls li lz ∧ (4 ≤ ns ∧ ns ≤ 6 ∧ ni = 2 ∧ nz ≤ 1) ∧ (Apart As Ai ∧ Apart As Az ∧ Apart Ai Az) ∧ (J64 P ∧ J64 R ∧ J64 X ∧ J64 V ∧ J64 U ∧ J64 D ∧ J64 Q) ∧ (∀ x ∈ ls, Okz x) ∧ (∀ x ∈ li, Oky x)) ∧ Cur w' p A cap xs ∧ Turn p w w'
/-- the state of l7Sky's loops: n0 the result's block, s the sky's -/
structure StSky (w : World) (p : Nat) (A : Option Addr) (cap : Nat) (xs : List Value) (s : Nat) (R X V U Q : Int) (As : Option Addr) (ns cs : Nat) (ls : List Sat4) (wr : World) : Prop where
  dr : Dr w p A cap xs wr
  r : Blk wr w.heap.size 28 #[.int .i64 0, .slice none 0 0, .slice none 0 0, .int .i64 0, .int .i64 0, .int .i64 0, .int .i64 0, .int .i64 0, .slice none 0 0, .int .i64 0]
  b : Blk wr s 28 #[.int .i64 2, .slice As ns cs, .slice none 0 0, .int .i64 R, .int .i64 X, .int .i64 V, .int .i64 U, .int .i64 60, .slice none 0 0, .int .i64 Q]
  o : Own wr (s + 1) 109 4 As ns cs (fl c4 ls)
  k : ∀ x ∈ ls, Okz x
  lt : w.heap.size < s
theorem StSky.call {w : World} {p : Nat} {A : Option Addr} {cap : Nat} {xs : List Value} {s : Nat} {R X V U Q : Int} {As : Option Addr} {ns cs : Nat} {ls : List Sat4} {wr w' : World} (h : StSky w p A cap xs s R X V U Q As ns cs ls wr) (c : Cur w' p A cap xs) (u : Turn p wr w') : StSky w p A cap xs s R X V U Q As ns cs ls w' := by
  have h1 := h.dr.lt; have h2 := h.lt
  exact ⟨h.dr.call c u, u.blk h.r (by omega), u.blk h.b (by omega), h.o.turn u (by omega), h.k, h.lt⟩
theorem StSky.below {w : World} {p : Nat} {A : Option Addr} {cap : Nat} {xs : List Value} {s : Nat} {R X V U Q : Int} {As : Option Addr} {ns cs : Nat} {ls : List Sat4} {wr w' : World} (h : StSky w p A cap xs s R X V U Q As ns cs ls wr) (hb : Below wr.heap.size wr w') : StSky w p A cap xs s R X V U Q As ns cs ls w' :=
  ⟨h.dr.below hb, h.r.below hb h.r.lt, h.b.below hb h.b.lt, h.o.on hb, h.k, h.lt⟩
/-- a satellite appended, and the slice stored into the sky -/
theorem StSky.more {w : World} {p : Nat} {A : Option Addr} {cap : Nat} {xs : List Value} {s : Nat} {R X V U Q : Int} {As A2 : Option Addr} {ns cs c2 : Nat} {ls : List Sat4} {wr w' : World} {x : Sat4} (h : StSky w p A cap xs s R X V U Q As ns cs ls wr) (ho : Own w' (s + 1) 109 4 A2 (ns + 1) c2 (fl c4 ls ++ c4 x)) (hg : wr.grownBy w' (Value.slice As ns cs).ownBlock) (hx : Okz x) :
    StSky w p A cap xs s R X V U Q A2 (ns + 1) c2 (ls ++ [x]) (w'.setCell ⟨s, 1, none⟩ (.slice A2 (ns + 1) c2)) := by
  have h1 := h.dr.lt; have h2 := h.lt
  refine ⟨(h.dr.grown (h.o.fewer (by omega)) hg).set_ (by simp; omega) _, (h.r.grown h.o hg (by omega)).far (by simp; omega) _, ?_, ?_, ?_, h.lt⟩
  · have := (h.b.grown h.o hg (by omega)).set_ 1 (.slice A2 (ns + 1) c2)
    simpa using this
  · have := ho.far (p := ⟨s, 1, none⟩) (by simp) (.slice A2 (ns + 1) c2)
    rw [fl_app]
    simpa [fl] using this
  · intro y hy
    rcases List.mem_append.1 hy with hy | hy
    · exact h.k y hy
    · rw [List.mem_singleton.1 hy]; exact hx
/-- the state of a draw that makes a sky in block s, its result's block being the first -/
structure StG (w : World) (p : Nat) (A : Option Addr) (cap : Nat) (xs : List Value) (s : Nat) (P R X V U D Q : Int) (ns ni nz : Nat) (ls : List Sat4) (li lz : List Tri) (As : Option Addr) (cs : Nat) (Ai : Option Addr) (ci : Nat) (Az : Option Addr) (cz : Nat) (wr : World) : Prop where
  dr : Dr w p A cap xs wr
  r : Blk wr w.heap.size 28 #[.int .i64 0, .slice none 0 0, .slice none 0 0, .int .i64 0, .int .i64 0, .int .i64 0, .int .i64 0, .int .i64 0, .slice none 0 0, .int .i64 0]
  b : Blk wr s 28 #[.int .i64 P, .slice As ns cs, .slice Ai ni ci, .int .i64 R, .int .i64 X, .int .i64 V, .int .i64 U, .int .i64 D, .slice Az nz cz, .int .i64 Q]
  o : OwnSky wr (s + 1) As ns cs Ai ni ci Az nz cz ls li lz
  ks : ∀ x ∈ ls, Okz x
  ki : ∀ x ∈ li, Oky x
  lt : w.heap.size < s
theorem StSky.g {w : World} {p : Nat} {A : Option Addr} {cap : Nat} {xs : List Value} {s : Nat} {R X V U Q : Int} {As : Option Addr} {ns cs : Nat} {ls : List Sat4} {wr : World} (h : StSky w p A cap xs s R X V U Q As ns cs ls wr) :
    StG w p A cap xs s 2 R X V U 60 Q ns 0 0 ls [] [] As cs none 0 none 0 wr := ⟨h.dr, h.r, h.b, ⟨h.o, Own.empty _ _ _ _, Own.empty _ _ _ _⟩, h.k, by simp, h.lt⟩
theorem StG.call {w : World} {p : Nat} {A : Option Addr} {cap : Nat} {xs : List Value} {s : Nat} {P R X V U D Q : Int} {ns ni nz : Nat} {ls : List Sat4} {li lz : List Tri} {As : Option Addr} {cs : Nat} {Ai : Option Addr} {ci : Nat} {Az : Option Addr} {cz : Nat} {wr w' : World} (h : StG w p A cap xs s P R X V U D Q ns ni nz ls li lz As cs Ai ci Az cz wr) (c : Cur w' p A cap xs) (u : Turn p wr w') : StG w p A cap xs s P R X V U D Q ns ni nz ls li lz As cs Ai ci Az cz w' := by
  have h1 := h.dr.lt; have h2 := h.lt
  exact ⟨h.dr.call c u, u.blk h.r (by omega), u.blk h.b (by omega), h.o.turn u (by omega), h.ks, h.ki, h.lt⟩
theorem StG.below {w : World} {p : Nat} {A : Option Addr} {cap : Nat} {xs : List Value} {s : Nat} {P R X V U D Q : Int} {ns ni nz : Nat} {ls : List Sat4} {li lz : List Tri} {As : Option Addr} {cs : Nat} {Ai : Option Addr} {ci : Nat} {Az : Option Addr} {cz : Nat} {wr w' : World} (h : StG w p A cap xs s P R X V U D Q ns ni nz ls li lz As cs Ai ci Az cz wr) (hb : Below wr.heap.size wr w') : StG w p A cap xs s P R X V U D Q ns ni nz ls li lz As cs Ai ci Az cz w' :=
  ⟨h.dr.below hb, h.r.below hb h.r.lt, h.b.below hb h.b.lt, h.o.on hb, h.ks, h.ki, h.lt⟩
theorem StG.alloc {w : World} {p : Nat} {A : Option Addr} {cap : Nat} {xs : List Value} {s : Nat} {P R X V U D Q : Int} {ns ni nz : Nat} {ls : List Sat4} {li lz : List Tri} {As : Option Addr} {cs : Nat} {Ai : Option Addr} {ci : Nat} {Az : Option Addr} {cz : Nat} {wr : World} (h : StG w p A cap xs s P R X V U D Q ns ni nz ls li lz As cs Ai ci Az cz wr) (o : Obj) : StG w p A cap xs s P R X V U D Q ns ni nz ls li lz As cs Ai ci Az cz (wr.alloc o) := h.below ((Below.refl _ _).alloc (Nat.le_refl _) o)
theorem StG.set0 {w : World} {p : Nat} {A : Option Addr} {cap : Nat} {xs : List Value} {s : Nat} {P R X V U D Q : Int} {ns ni nz : Nat} {ls : List Sat4} {li lz : List Tri} {As : Option Addr} {cs : Nat} {Ai : Option Addr} {ci : Nat} {Az : Option Addr} {cz : Nat} {wr : World} (h : StG w p A cap xs s P R X V U D Q ns ni nz ls li lz As cs Ai ci Az cz wr) (z : Int) : StG w p A cap xs s z R X V U D Q ns ni nz ls li lz As cs Ai ci Az cz (wr.setCell ⟨s, 0, none⟩ (.int .i64 z)) := by
  have h2 := h.lt
  exact ⟨h.dr.set_ (by simp; omega) _, h.r.far (by simp; omega) _, by simpa using h.b.set_ 0 (.int .i64 z), h.o.far (by simp) _, h.ks, h.ki, h.lt⟩
theorem StG.set3 {w : World} {p : Nat} {A : Option Addr} {cap : Nat} {xs : List Value} {s : Nat} {P R X V U D Q : Int} {ns ni nz : Nat} {ls : List Sat4} {li lz : List Tri} {As : Option Addr} {cs : Nat} {Ai : Option Addr} {ci : Nat} {Az : Option Addr} {cz : Nat} {wr : World} (h : StG w p A cap xs s P R X V U D Q ns ni nz ls li lz As cs Ai ci Az cz wr) (z : Int) : StG w p A cap xs s P z X V U D Q ns ni nz ls li lz As cs Ai ci Az cz (wr.setCell ⟨s, 3, none⟩ (.int .i64 z)) := by
  have h2 := h.lt
  exact ⟨h.dr.set_ (by simp; omega) _, h.r.far (by simp; omega) _, by simpa using h.b.set_ 3 (.int .i64 z), h.o.far (by simp) _, h.ks, h.ki, h.lt⟩
theorem StG.set6 {w : World} {p : Nat} {A : Option Addr} {cap : Nat} {xs : List Value} {s : Nat} {P R X V U D Q : Int} {ns ni nz : Nat} {ls : List Sat4} {li lz : List Tri} {As : Option Addr} {cs : Nat} {Ai : Option Addr} {ci : Nat} {Az : Option Addr} {cz : Nat} {wr : World} (h : StG w p A cap xs s P R X V U D Q ns ni nz ls li lz As cs Ai ci Az cz wr) (z : Int) : StG w p A cap xs s P R X V z D Q ns ni nz ls li lz As cs Ai ci Az cz (wr.setCell ⟨s, 6, none⟩ (.int .i64 z)) := by
  have h2 := h.lt
  exact ⟨h.dr.set_ (by simp; omega) _, h.r.far (by simp; omega) _, by simpa using h.b.set_ 6 (.int .i64 z), h.o.far (by simp) _, h.ks, h.ki, h.lt⟩
theorem StG.set9 {w : World} {p : Nat} {A : Option Addr} {cap : Nat} {xs : List Value} {s : Nat} {P R X V U D Q : Int} {ns ni nz : Nat} {ls : List Sat4} {li lz : List Tri} {As : Option Addr} {cs : Nat} {Ai : Option Addr} {ci : Nat} {Az : Option Addr} {cz : Nat} {wr : World} (h : StG w p A cap xs s P R X V U D Q ns ni nz ls li lz As cs Ai ci Az cz wr) (z : Int) : StG w p A cap xs s P R X V U D z ns ni nz ls li lz As cs Ai ci Az cz (wr.setCell ⟨s, 9, none⟩ (.int .i64 z)) := by
  have h2 := h.lt
  exact ⟨h.dr.set_ (by simp; omega) _, h.r.far (by simp; omega) _, by simpa using h.b.set_ 9 (.int .i64 z), h.o.far (by simp) _, h.ks, h.ki, h.lt⟩
theorem StG.set1 {w : World} {p : Nat} {A : Option Addr} {cap : Nat} {xs : List Value} {s : Nat} {P R X V U D Q : Int} {ns ni nz : Nat} {ls : List Sat4} {li lz : List Tri} {As : Option Addr} {cs : Nat} {Ai : Option Addr} {ci : Nat} {Az : Option Addr} {cz : Nat} {wr : World} (h : StG w p A cap xs s P R X V U D Q ns ni nz ls li lz As cs Ai ci Az cz wr) : StG w p A cap xs s P R X V U D Q 0 ni nz [] li lz none 0 Ai ci Az cz (wr.setCell ⟨s, 1, none⟩ (.slice none 0 0)) := by
  have h2 := h.lt
  exact ⟨h.dr.set_ (by simp; omega) _, h.r.far (by simp; omega) _, by simpa using h.b.set_ 1 (.slice none 0 0), ⟨Own.empty _ _ _ _, h.o.i.far (by simp) _, h.o.z.far (by simp) _⟩, by simp, h.ki, h.lt⟩
theorem StG.set2 {w : World} {p : Nat} {A : Option Addr} {cap : Nat} {xs : List Value} {s : Nat} {P R X V U D Q : Int} {ns ni nz : Nat} {ls : List Sat4} {li lz : List Tri} {As : Option Addr} {cs : Nat} {Ai : Option Addr} {ci : Nat} {Az : Option Addr} {cz : Nat} {wr : World} {A2 : Option Addr} {n2 c2 : Nat} {l2 : List Tri} (h : StG w p A cap xs s P R X V U D Q ns ni nz ls li lz As cs Ai ci Az cz wr) (ho : Own wr (s + 1) 113 3 A2 n2 c2 (fl c3 l2)) (hk : ∀ x ∈ l2, Oky x) : StG w p A cap xs s P R X V U D Q ns n2 nz ls l2 lz As cs A2 c2 Az cz (wr.setCell ⟨s, 2, none⟩ (.slice A2 n2 c2)) := by
  have h2 := h.lt
  exact ⟨h.dr.set_ (by simp; omega) _, h.r.far (by simp; omega) _, by simpa using h.b.set_ 2 (.slice A2 n2 c2), ⟨h.o.s.far (by simp) _, ho.far (by simp) _, h.o.z.far (by simp) _⟩, h.ks, hk, h.lt⟩
theorem StG.set8 {w : World} {p : Nat} {A : Option Addr} {cap : Nat} {xs : List Value} {s : Nat} {P R X V U D Q : Int} {ns ni nz : Nat} {ls : List Sat4} {li lz : List Tri} {As : Option Addr} {cs : Nat} {Ai : Option Addr} {ci : Nat} {Az : Option Addr} {cz : Nat} {wr : World} {A2 : Option Addr} {n2 c2 : Nat} {l2 : List Tri} (h : StG w p A cap xs s P R X V U D Q ns ni nz ls li lz As cs Ai ci Az cz wr) (ho : Own wr (s + 1) 118 3 A2 n2 c2 (fl c3 l2)) : StG w p A cap xs s P R X V U D Q ns ni n2 ls li l2 As cs Ai ci A2 c2 (wr.setCell ⟨s, 8, none⟩ (.slice A2 n2 c2)) := by
  have h2 := h.lt
  exact ⟨h.dr.set_ (by simp; omega) _, h.r.far (by simp; omega) _, by simpa using h.b.set_ 8 (.slice A2 n2 c2), ⟨h.o.s.far (by simp) _, h.o.i.far (by simp) _, ho.far (by simp) _⟩, h.ks, h.ki, h.lt⟩
/-- the sky loaded and stored into the result -/
theorem StG.fin {w : World} {p : Nat} {A : Option Addr} {cap : Nat} {xs : List Value} {s : Nat} {P R X V U D Q : Int} {ns ni nz : Nat} {ls : List Sat4} {li lz : List Tri} {As : Option Addr} {cs : Nat} {Ai : Option Addr} {ci : Nat} {Az : Option Addr} {cz : Nat} {wr : World} (h : StG w p A cap xs s P R X V U D Q ns ni nz ls li lz As cs Ai ci Az cz wr) : Blk ((((((((((wr.setCell ⟨w.heap.size, 0, none⟩ (.int .i64 P)).setCell ⟨w.heap.size, 1, none⟩ (.slice As ns cs)).setCell ⟨w.heap.size, 2, none⟩ (.slice Ai ni ci)).setCell ⟨w.heap.size, 3, none⟩ (.int .i64 R)).setCell ⟨w.heap.size, 4, none⟩ (.int .i64 X)).setCell ⟨w.heap.size, 5, none⟩ (.int .i64 V)).setCell ⟨w.heap.size, 6, none⟩ (.int .i64 U)).setCell ⟨w.heap.size, 7, none⟩ (.int .i64 D)).setCell ⟨w.heap.size, 8, none⟩ (.slice Az nz cz)).setCell ⟨w.heap.size, 9, none⟩ (.int .i64 Q)) w.heap.size 28 #[.int .i64 P, .slice As ns cs, .slice Ai ni ci, .int .i64 R, .int .i64 X, .int .i64 V, .int .i64 U, .int .i64 D, .slice Az nz cz, .int .i64 Q] ∧ Dr w p A cap xs ((((((((((wr.setCell ⟨w.heap.size, 0, none⟩ (.int .i64 P)).setCell ⟨w.heap.size, 1, none⟩ (.slice As ns cs)).setCell ⟨w.heap.size, 2, none⟩ (.slice Ai ni ci)).setCell ⟨w.heap.size, 3, none⟩ (.int .i64 R)).setCell ⟨w.heap.size, 4, none⟩ (.int .i64 X)).setCell ⟨w.heap.size, 5, none⟩ (.int .i64 V)).setCell ⟨w.heap.size, 6, none⟩ (.int .i64 U)).setCell ⟨w.heap.size, 7, none⟩ (.int .i64 D)).setCell ⟨w.heap.size, 8, none⟩ (.slice Az nz cz)).setCell ⟨w.heap.size, 9, none⟩ (.int .i64 Q)) ∧ OwnSky ((((((((((wr.setCell ⟨w.heap.size, 0, none⟩ (.int .i64 P)).setCell ⟨w.heap.size, 1, none⟩ (.slice As ns cs)).setCell ⟨w.heap.size, 2, none⟩ (.slice Ai ni ci)).setCell ⟨w.heap.size, 3, none⟩ (.int .i64 R)).setCell ⟨w.heap.size, 4, none⟩ (.int .i64 X)).setCell ⟨w.heap.size, 5, none⟩ (.int .i64 V)).setCell ⟨w.heap.size, 6, none⟩ (.int .i64 U)).setCell ⟨w.heap.size, 7, none⟩ (.int .i64 D)).setCell ⟨w.heap.size, 8, none⟩ (.slice Az nz cz)).setCell ⟨w.heap.size, 9, none⟩ (.int .i64 Q)) (s + 1) As ns cs Ai ni ci Az nz cz ls li lz := by
  have h2 := h.lt
  exact ⟨by simpa using ((((((((((h.r.set_ 0 (.int .i64 P)).set_ 1 (.slice As ns cs)).set_ 2 (.slice Ai ni ci)).set_ 3 (.int .i64 R)).set_ 4 (.int .i64 X)).set_ 5 (.int .i64 V)).set_ 6 (.int .i64 U)).set_ 7 (.int .i64 D)).set_ 8 (.slice Az nz cz)).set_ 9 (.int .i64 Q)), ((((((((((h.dr.set_ (a := ⟨w.heap.size, 0, none⟩) (by simp) (.int .i64 P)).set_ (a := ⟨w.heap.size, 1, none⟩) (by simp) (.slice As ns cs)).set_ (a := ⟨w.heap.size, 2, none⟩) (by simp) (.slice Ai ni ci)).set_ (a := ⟨w.heap.size, 3, none⟩) (by simp) (.int .i64 R)).set_ (a := ⟨w.heap.size, 4, none⟩) (by simp) (.int .i64 X)).set_ (a := ⟨w.heap.size, 5, none⟩) (by simp) (.int .i64 V)).set_ (a := ⟨w.heap.size, 6, none⟩) (by simp) (.int .i64 U)).set_ (a := ⟨w.heap.size, 7, none⟩) (by simp) (.int .i64 D)).set_ (a := ⟨w.heap.size, 8, none⟩) (by simp) (.slice Az nz cz)).set_ (a := ⟨w.heap.size, 9, none⟩) (by simp) (.int .i64 Q)), ((((((((((h.o.far (a := ⟨w.heap.size, 0, none⟩) (by simp; omega) (.int .i64 P)).far (a := ⟨w.heap.size, 1, none⟩) (by simp; omega) (.slice As ns cs)).far (a := ⟨w.heap.size, 2, none⟩) (by simp; omega) (.slice Ai ni ci)).far (a := ⟨w.heap.size, 3, none⟩) (by simp; omega) (.int .i64 R)).far (a := ⟨w.heap.size, 4, none⟩) (by simp; omega) (.int .i64 X)).far (a := ⟨w.heap.size, 5, none⟩) (by simp; omega) (.int .i64 V)).far (a := ⟨w.heap.size, 6, none⟩) (by simp; omega) (.int .i64 U)).far (a := ⟨w.heap.size, 7, none⟩) (by simp; omega) (.int .i64 D)).far (a := ⟨w.heap.size, 8, none⟩) (by simp; omega) (.slice Az nz cz)).far (a := ⟨w.heap.size, 9, none⟩) (by simp; omega) (.int .i64 Q))⟩
/-- the cells of both blocks, and that they may be written -/
theorem StG.cells {w : World} {p : Nat} {A : Option Addr} {cap : Nat} {xs : List Value} {s : Nat} {P R X V U D Q : Int} {ns ni nz : Nat} {ls : List Sat4} {li lz : List Tri} {As : Option Addr} {cs : Nat} {Ai : Option Addr} {ci : Nat} {Az : Option Addr} {cz : Nat} {wr : World} (h : StG w p A cap xs s P R X V U D Q ns ni nz ls li lz As cs Ai ci Az cz wr) : (wr.cell? ⟨s, 0, none⟩ = some (.int .i64 P) ∧ wr.cell? ⟨s, 1, none⟩ = some (.slice As ns cs) ∧ wr.cell? ⟨s, 2, none⟩ = some (.slice Ai ni ci) ∧ wr.cell? ⟨s, 3, none⟩ = some (.int .i64 R) ∧ wr.cell? ⟨s, 4, none⟩ = some (.int .i64 X) ∧ wr.cell? ⟨s, 5, none⟩ = some (.int .i64 V) ∧ wr.cell? ⟨s, 6, none⟩ = some (.int .i64 U) ∧ wr.cell? ⟨s, 7, none⟩ = some (.int .i64 D) ∧ wr.cell? ⟨s, 8, none⟩ = some (.slice Az nz cz) ∧ wr.cell? ⟨s, 9, none⟩ = some (.int .i64 Q)) ∧ (∀ i, wr.frozen? ⟨s, i, none⟩ = false) ∧ (wr.cell? ⟨w.heap.size, 0, none⟩ = some (.int .i64 0) ∧ wr.cell? ⟨w.heap.size, 1, none⟩ = some (.slice none 0 0) ∧ wr.cell? ⟨w.heap.size, 2, none⟩ = some (.slice none 0 0) ∧ wr.cell? ⟨w.heap.size, 3, none⟩ = some (.int .i64 0) ∧ wr.cell? ⟨w.heap.size, 4, none⟩ = some (.int .i64 0) ∧
    wr.cell? ⟨w.heap.size, 5, none⟩ = some (.int .i64 0) ∧ wr.cell? ⟨w.heap.size, 6, none⟩ = some (.int .i64 0) ∧ wr.cell? ⟨w.heap.size, 7, none⟩ = some (.int .i64 0) ∧ wr.cell? ⟨w.heap.size, 8, none⟩ = some (.slice none 0 0) ∧ wr.cell? ⟨w.heap.size, 9, none⟩ = some (.int .i64 0)) ∧
    (wr.frozen? ⟨w.heap.size, 0, none⟩ = false ∧ wr.frozen? ⟨w.heap.size, 1, none⟩ = false ∧ wr.frozen? ⟨w.heap.size, 2, none⟩ = false ∧ wr.frozen? ⟨w.heap.size, 3, none⟩ = false ∧ wr.frozen? ⟨w.heap.size, 4, none⟩ = false ∧ wr.frozen? ⟨w.heap.size, 5, none⟩ = false ∧ wr.frozen? ⟨w.heap.size, 6, none⟩ = false ∧ wr.frozen? ⟨w.heap.size, 7, none⟩ = false ∧ wr.frozen? ⟨w.heap.size, 8, none⟩ = false ∧ wr.frozen? ⟨w.heap.size, 9, none⟩ = false) :=
  ⟨⟨h.b.cell 0, h.b.cell 1, h.b.cell 2, h.b.cell 3, h.b.cell 4, h.b.cell 5, h.b.cell 6, h.b.cell 7, h.b.cell 8, h.b.cell 9⟩, fun i => h.b.frozen i,
    ⟨h.r.cell 0, h.r.cell 1, h.r.cell 2, h.r.cell 3, h.r.cell 4, h.r.cell 5, h.r.cell 6, h.r.cell 7, h.r.cell 8, h.r.cell 9⟩, h.r.frozen 0, h.r.frozen 1, h.r.frozen 2, h.r.frozen 3, h.r.frozen 4, h.r.frozen 5, h.r.frozen 6, h.r.frozen 7, h.r.frozen 8, h.r.frozen 9⟩
end Go.Proofs.YtlaigbhiligceaaGreatDoor
namespace Go.Proofs.YtlaigbhiligceaaGreatDoor
open Go.ChangeShapes Go.WideShapes Go.ChangeAt Go.RowKit
set_option linter.unusedVariables false
set_option maxRecDepth 100000 in
set_option maxHeartbeats 3000000 in
theorem dsky (w : World) (p : Nat) (A : Option Addr) (cap : Nat) (xs : List Value) (hc : Cur w p A cap xs) :
    Calls Tryz.prog 65 #[.pointer (some ⟨p, 0, none⟩)] w (GotSky w p A cap xs) := by
  obtain ⟨i0, hi, hy0, hy1, hy2⟩ := info_parts sat_info
  have hp2 : ¬ (w.heap.size = p) := by have := hc.lt; omega
  have K1 := Lib.hid ((Dr.start hc).alloc (.cells #[.int .i64 0, .slice none 0 0, .slice none 0 0, .int .i64 0, .int .i64 0, .int .i64 0, .int .i64 0, .int .i64 0, .slice none 0 0, .int .i64 0] 28))
  have R1 : Hid (Blk (w.alloc (.cells #[.int .i64 0, .slice none 0 0, .slice none 0 0, .int .i64 0, .int .i64 0, .int .i64 0, .int .i64 0, .int .i64 0, .slice none 0 0, .int .i64 0] 28)) w.heap.size 28 #[.int .i64 0, .slice none 0 0, .slice none 0 0, .int .i64 0, .int .i64 0, .int .i64 0, .int .i64 0, .int .i64 0, .slice none 0 0, .int .i64 0]) := Lib.hid (Blk.new _ _ _)
  clear hc
  go_enter Tryz.func65, Tryz.ntmps65
  go_wp2_with fail
  refine (dbelow _ _ _ _ _ _ K1.out.cur (by omega)).mono ?_
  rintro e w1 ⟨⟨x1, hx, rfl⟩, c1, u1⟩
  have hx1 := hx.1 (by omega)
  have hq1 : w.heap.size < w1.heap.size := by have := u1.size; simp at this; omega
  have K2 := Lib.hid (K1.out.call c1 u1); have R2 := Lib.hid (u1.blk R1.out hp2)
  clear hx c1 u1 K1 R1
  go_wp2_with fail
  refine (dbelow _ _ _ _ _ _ K2.out.cur (by omega)).mono ?_
  rintro e w2 ⟨⟨x2, hx, rfl⟩, c1, u1⟩
  have hx2 := hx.1 (by omega)
  have K3 := Lib.hid (K2.out.call c1 u1); have R3 := Lib.hid (u1.blk R2.out hp2)
  clear hx c1 u1 K2 R2
  go_wp2_with fail
  refine (dbelow _ _ _ _ _ _ K3.out.cur (by omega)).mono ?_
  rintro e w3 ⟨⟨x3, hx, rfl⟩, c1, u1⟩
  have hx3 := hx.1 (by omega)
  have K4 := Lib.hid (K3.out.call c1 u1); have R4 := Lib.hid (u1.blk R3.out hp2)
  clear hx c1 u1 K3 R3
  go_wp2_with fail
  refine (dbelow _ _ _ _ _ _ K4.out.cur (by omega)).mono ?_
  rintro e w4 ⟨⟨x4, hx, rfl⟩, c1, u1⟩
  have hx4 := hx.1 (by omega)
  have K5 := Lib.hid (K4.out.call c1 u1); have R5 := Lib.hid (u1.blk R4.out hp2)
  clear hx c1 u1 K4 R4
  go_wp2_with fail
  refine (dbelow _ _ _ _ _ _ K5.out.cur (by omega)).mono ?_
  rintro e w5 ⟨⟨x5, hx, rfl⟩, c1, u1⟩
  have hx5 := hx.1 (by omega)
  have K6 := Lib.hid (K5.out.call c1 u1); have R6 := Lib.hid (u1.blk R5.out hp2)
  clear hx c1 u1 K5 R5 hq1
  obtain ⟨s, hs⟩ : ∃ s, s = w5.heap.size := ⟨_, rfl⟩
  have hlt : w.heap.size < s := by rw [hs]; exact R6.out.lt
  have ST : Hid (StSky w p A cap xs s (120 + 10 * (x1 : Int)) (30 + 10 * (x2 : Int)) (50 + 10 * (x3 : Int)) x4 x5 none 0 0 [] (w5.alloc (.cells #[.int .i64 2, .slice none 0 0, .slice none 0 0, .int .i64 (120 + 10 * (x1 : Int)), .int .i64 (30 + 10 * (x2 : Int)), .int .i64 (50 + 10 * (x3 : Int)), .int .i64 x4, .int .i64 60, .slice none 0 0, .int .i64 x5] 28))) :=
    Lib.hid ⟨K6.out.alloc _, R6.out.alloc _, by rw [hs]; exact Blk.new _ _ _, Own.empty _ _ _ _, by simp, hlt⟩
  have HJ : Hid (J64 2 ∧ J64 (120 + 10 * (x1 : Int)) ∧ J64 (30 + 10 * (x2 : Int)) ∧ J64 (50 + 10 * (x3 : Int)) ∧ J64 x4 ∧ J64 60 ∧ J64 x5) :=
    Lib.hid ⟨j64 (by omega) (by omega), j64 (by omega) (by omega), j64 (by omega) (by omega), j64 (by omega) (by omega), j64 (by omega) (by omega), j64 (by omega) (by omega), j64 (by omega) (by omega)⟩
  clear K6 R6
  go_wp2
  rw [← hs]
  clear hs
  go_loopw [4] (fun i wr => ∃ (j : Nat) (As : Option Addr) (ns cs : Nat) (ls : List Sat4), j ≤ 2 ∧ i = .int .i64 j ∧ 2 * j ≤ ns ∧ ns ≤ 3 * j ∧ StSky w p A cap xs s (120 + 10 * (x1 : Int)) (30 + 10 * (x2 : Int)) (50 + 10 * (x3 : Int)) x4 x5 As ns cs ls wr)
    (fun i _ => 2 - (intOf i).toNat)
  case atStart => exact ⟨0, none, 0, 0, [], by omega, rfl, by omega, by omega, ST.out⟩
  case round =>
    clear ST
    obtain ⟨j, As, ns, cs, ls, hj, rfl, hn1, hn2, hst⟩ := hrel
    by_cases hlt2 : j < 2
    · have S0 := Lib.hid hst; clear hst
      go_wp2_with fail
      refine (dbelow _ _ _ _ _ _ S0.out.dr.cur (by omega)).mono ?_
      rintro e wa ⟨⟨t, hx, rfl⟩, c1, u1⟩
      have ht1 := hx.1 (by omega)
      have S1 := Lib.hid (S0.out.call c1 u1)
      clear hx c1 u1 S0
      go_wp2
      go_loopw [6] (fun i wr => ∃ (k : Nat) (A2 : Option Addr) (c2 : Nat) (l2 : List Sat4), k ≤ 2 + t ∧ i = .int .i64 k ∧ StSky w p A cap xs s (120 + 10 * (x1 : Int)) (30 + 10 * (x2 : Int)) (50 + 10 * (x3 : Int)) x4 x5 A2 (ns + k) c2 l2 wr)
        (fun i _ => 2 + t - (intOf i).toNat)
      case atStart => exact ⟨0, As, cs, ls, by omega, rfl, S1.out⟩
      case round =>
        clear S1
        obtain ⟨k, A2, c2, l2, hk, rfl, hst⟩ := hrel
        by_cases hk2 : k < 2 + t
        · have S0 := Lib.hid hst; clear hst
          have c0 : wr.cell? ⟨s, 1, none⟩ = some (.slice A2 (ns + k) c2) := S0.out.b.cell 1
          have SD := Lib.hid (S0.out.below (Below.refl wr.heap.size wr).drew)
          have g1 : IntKind.i64.wrap (120 * (k : Int)) = 120 * (k : Int) := wrap_in _ (by omega) (by omega)
          have g2 : IntKind.i64.wrap (20 * (j : Int)) = 20 * (j : Int) := wrap_in _ (by omega) (by omega)
          have g3 : IntKind.i64.wrap (120 * (k : Int) + 20 * (j : Int)) = 120 * (k : Int) + 20 * (j : Int) := wrap_in _ (by omega) (by omega)
          have g4 : IntKind.i64.wrap (4 * (j : Int)) = 4 * (j : Int) := wrap_in _ (by omega) (by omega)
          go_wp2_with fail
          go_region_law (first
            | (refine step_append_sl _ (by rfl) _ _ 24 (by rfl) (s + 1) 109 i0 _ 4 32 Tryz.underlying24 hi hy0 hy1 hy2 rfl (by omega) A2 (ns + k) c2 _ (by rfl) SC.out.o (wB.heap.size + 1) _ 1 1 [.int .i64 (j : Int), .int .i64 (ang (120 * (k : Int) + 20 * (j : Int))), .int .i64 (10 - 4 * (j : Int) * (ta : Int)), .int .i64 (tb : Int)] (by rfl) (Sl.one4 wB _ _ _ _ _) (by simp [Value.oneCell']) (by omega) (by omega) (by simp; omega) ?_; intro A3 c3 w3 hown3 hg3 hat3; have SF := Lib.hid (SC.out.more hown3 hg3 HX.out); have d1 : w3.cell? ⟨s, 1, none⟩ = some (.slice A2 (ns + k) c2) := (SC.out.b.grown SC.out.o hg3 (by omega)).cell 1; have f1 := (SC.out.b.grown SC.out.o hg3 (by omega)).frozen 1; clear hown3 hg3 hat3)
            | (go_simp; go_at_call 105; refine (sang _ _).mono ?_; rintro e w' ⟨rfl, rfl⟩)
            | (go_simp; go_at_call 38; refine (dbelow _ _ _ _ _ _ SD.out.dr.cur (by omega)).mono ?_; rintro e wA ⟨⟨ta, hxA, rfl⟩, cA, uA⟩; have hta := hxA.1 (by omega); have SA := Lib.hid (SD.out.call cA uA); have cA0 : wA.cell? ⟨s, 1, none⟩ = some (.slice A2 (ns + k) c2) := SA.out.b.cell 1; have g5 : IntKind.i64.wrap (4 * (j : Int) * (ta : Int)) = 4 * (j : Int) * (ta : Int) := wrap_in _ (by have := mul_small j ta hlt2 (by omega); omega) (by have := mul_small j ta hlt2 (by omega); omega); have g6 : IntKind.i64.wrap (10 - 4 * (j : Int) * (ta : Int)) = 10 - 4 * (j : Int) * (ta : Int) := wrap_in _ (by have := mul_small j ta hlt2 (by omega); omega) (by have := mul_small j ta hlt2 (by omega); omega); clear hxA cA uA)
            | (go_simp; go_at_call 38; refine (dbelow _ _ _ _ _ _ SA.out.dr.cur (by omega)).mono ?_; rintro e wB ⟨⟨tb, hxB, rfl⟩, cB, uB⟩; have htb := hxB.1 (by omega); have SB := Lib.hid (SA.out.call cB uB); have cB0 : wB.cell? ⟨s, 1, none⟩ = some (.slice A2 (ns + k) c2) := SB.out.b.cell 1; have SC := Lib.hid (SB.out.below ((Below.refl wB.heap.size wB).alloc (Nat.le_refl _) (.cells #[.int .i64 (j : Int), .int .i64 (ang (120 * (k : Int) + 20 * (j : Int))), .int .i64 (10 - 4 * (j : Int) * (ta : Int)), .int .i64 (tb : Int)] 109))); have HX : Hid (Okz ⟨j, ang (120 * (k : Int) + 20 * (j : Int)), 10 - 4 * (j : Int) * (ta : Int), tb⟩) := Lib.hid ⟨oke (j64 (by omega) (by omega)) (j64 (by have := ang_lo (120 * (k : Int) + 20 * (j : Int)); omega) (by have := ang_hi (120 * (k : Int) + 20 * (j : Int)); omega)) (j64 (by have := mul_small j ta hlt2 (by omega); omega) (by have := mul_small j ta hlt2 (by omega); omega)) (j64 (by omega) (by omega)) (by omega), ang_lo _, ang_hi _⟩; have hsB := SB.out.b.lt; clear hxB cB uB))
          all_goals
            clear S0 SD SC
            go_wp2
            go_roundw
            case rel => exact ⟨k + 1, A3, c3, _, by omega, by go_num, SF.out⟩
            case measure => simp [intOf]; omega
        · have S2 := Lib.hid hst; clear hst
          go_wp2
          go_roundw
          case rel => exact ⟨j + 1, A2, ns + k, c2, l2, by omega, by go_num, by omega, by omega, S2.out⟩
          case measure => simp [intOf]; omega
    · have S2 := Lib.hid hst; clear hst
      obtain rfl : j = 2 := by omega
      have G0 := Lib.hid S2.out.g
      clear S2 hj
      go_wp2_with fail
      refine (dbelow _ _ _ _ _ _ G0.out.dr.cur (by omega)).mono ?_
      rintro e wa ⟨⟨y1, hx, rfl⟩, c1, u1⟩
      have hy1' := hx.1 (by omega)
      have G1 := Lib.hid (G0.out.call c1 u1)
      clear hx c1 u1 G0
      go_wp2_with fail
      refine (dbelow _ _ _ _ _ _ G1.out.dr.cur (by omega)).mono ?_
      rintro e wb ⟨⟨y2, hx, rfl⟩, c1, u1⟩
      have hy2' := hx.1 (by omega)
      have G2 := Lib.hid (G1.out.call c1 u1)
      clear hx c1 u1 G1
      go_wp2_with fail
      refine (dbelow _ _ _ _ _ _ G2.out.dr.cur (by omega)).mono ?_
      rintro e wc ⟨⟨y3, hx, rfl⟩, c1, u1⟩
      have hy3' := hx.1 (by omega)
      have G3 := Lib.hid (G2.out.call c1 u1)
      clear hx c1 u1 G2
      have G4 := Lib.hid (G3.out.alloc (.cells #[.int .i64 0, .int .i64 (10 * (y1 : Int)), .int .i64 y2, .int .i64 1, .int .i64 (180 + 10 * (y3 : Int)), .int .i64 0] 113))
      have O4 : Hid (Own (wc.alloc (.cells #[.int .i64 0, .int .i64 (10 * (y1 : Int)), .int .i64 y2, .int .i64 1, .int .i64 (180 + 10 * (y3 : Int)), .int .i64 0] 113)) (s + 1) 113 3 (some ⟨wc.heap.size, 0, none⟩) 2 2 (fl c3 [⟨0, 10 * (y1 : Int), y2⟩, ⟨1, 180 + 10 * (y3 : Int), 0⟩])) :=
        Lib.hid ⟨World.ownsRow_lit wc (#[.int .i64 0, .int .i64 (10 * (y1 : Int)), .int .i64 y2, .int .i64 1, .int .i64 (180 + 10 * (y3 : Int)), .int .i64 0]) 2 (by have := G3.out.b.lt; omega) (by unfold maxLen; omega) rfl⟩
      have g5 := (G4.out.set2 O4.out (by
        intro x hx
        simp at hx
        rcases hx with rfl | rfl
        · exact ⟨⟨j64 (by simp) (by simp), j64 (by simp only; omega) (by simp only; omega), j64 (by simp only; omega) (by simp only; omega)⟩, by simp only; omega, by simp only; omega⟩
        · exact ⟨⟨j64 (by simp) (by simp), j64 (by simp only; omega) (by simp only; omega), j64 (by simp) (by simp)⟩, by simp only; omega, by simp only; omega⟩))
      have hls := G3.out.b.lt
      rw [World.setCell_alloc_past _ _ _ _ hls] at g5
      have G5 := Lib.hid g5
      have d2 : wc.cell? ⟨s, 2, none⟩ = some (.slice none 0 0) := G3.out.b.cell 2
      have e2 := G3.out.b.frozen 2
      have HP1 := Lib.hid (G3.out.o.s.notAt (Nat.le_refl _))
      clear G3 G4 O4 g5
      go_wp2_with fail
      refine (donce _ _ _ _ _ _ G5.out.dr.cur (by omega)).mono ?_
      rintro e wd ⟨⟨b, rfl⟩, c1, u1⟩
      have G6 := Lib.hid (G5.out.call c1 u1)
      clear c1 u1 G5 d2 e2 hls
      cases b
      · have G9 := G6
        clear G6
        obtain ⟨hcs, -, hr, hf⟩ := G9.out.cells
        obtain ⟨c0, c1, c2, c3, c4, c5, c6, c7, c8, c9⟩ := hcs
        obtain ⟨r0, r1, r2, r3, r4, r5, r6, r7, r8, r9⟩ := hr
        obtain ⟨f0, f1, f2, f3, f4, f5, f6, f7, f8, f9⟩ := hf
        have KF := Lib.hid G9.out.fin
        have HK := Lib.hid (And.intro G9.out.ks G9.out.ki)
        have hlt9 := G9.out.lt
        clear G9
        go_wp2
        obtain ⟨k0, k1, k2, k3, k4, k5, k6, k7, k8, k9⟩ := KF.out.1.ten
        refine bodyPost_ret (v := .agg #[.int .i64 2, .slice As ns cs, .slice (some ⟨wc.heap.size, 0, none⟩) 2 2, .int .i64 (120 + 10 * (x1 : Int)), .int .i64 (30 + 10 * (x2 : Int)), .int .i64 (50 + 10 * (x3 : Int)), .int .i64 x4, .int .i64 60, .slice none 0 0, .int .i64 x5]) (by simp [results, Tryz.results65, go_sem, k0, k1, k2, k3, k4, k5, k6, k7, k8, k9]) rfl ?_
        exact ⟨⟨_, _, _, _, _, _, _, _, _, _, _, _, _, _, _, _, _, _, _, rfl, KF.out.2.2.fewer (by omega), ⟨by omega, by omega, rfl, by omega⟩, ⟨HP1.out.apart, Apart.none_ _, Apart.none_ _⟩, HJ.out, HK.out.1, HK.out.2⟩, KF.out.2.1.cur, KF.out.2.1.turn⟩
      · go_wp2_with fail
        refine (dbelow _ _ _ _ _ _ G6.out.dr.cur (by omega)).mono ?_
        rintro e we ⟨⟨z1, hx, rfl⟩, c1, u1⟩
        have hz1' := hx.1 (by omega)
        have G7 := Lib.hid (G6.out.call c1 u1)
        clear hx c1 u1 G6
        go_wp2_with fail
        refine (dbelow _ _ _ _ _ _ G7.out.dr.cur (by omega)).mono ?_
        rintro e wf ⟨⟨z2, hx, rfl⟩, c1, u1⟩
        have hz2' := hx.1 (by omega)
        have G8 := Lib.hid (G7.out.call c1 u1)
        clear hx c1 u1 G7
        go_wp2_with fail
        refine (dbelow _ _ _ _ _ _ G8.out.dr.cur (by omega)).mono ?_
        rintro e wg ⟨⟨z3, hx, rfl⟩, c1, u1⟩
        have hz3' := hx.1 (by omega)
        have Ga := Lib.hid (G8.out.call c1 u1)
        clear hx c1 u1 G8
        have Gb := Lib.hid (Ga.out.alloc (.cells #[.int .i64 z1, .int .i64 (10 * (z2 : Int)), .int .i64 (10 * (z3 : Int))] 118))
        have Ob : Hid (Own (wg.alloc (.cells #[.int .i64 z1, .int .i64 (10 * (z2 : Int)), .int .i64 (10 * (z3 : Int))] 118)) (s + 1) 118 3 (some ⟨wg.heap.size, 0, none⟩) 1 1 (fl c3 [⟨z1, 10 * (z2 : Int), 10 * (z3 : Int)⟩])) :=
          Lib.hid ⟨World.ownsRow_lit wg (#[.int .i64 z1, .int .i64 (10 * (z2 : Int)), .int .i64 (10 * (z3 : Int))]) 1 (by have := Ga.out.b.lt; omega) (by unfold maxLen; omega) rfl⟩
        have g9 := Gb.out.set8 Ob.out
        have hls := Ga.out.b.lt
        rw [World.setCell_alloc_past _ _ _ _ hls] at g9
        have d8 : wg.cell? ⟨s, 8, none⟩ = some (.slice none 0 0) := Ga.out.b.cell 8
        have e8 := Ga.out.b.frozen 8
        have G9 := Lib.hid g9
        have HP2 := Lib.hid (Ga.out.o.s.notAt (Nat.le_refl _))
        have HP3 := Lib.hid (Ga.out.o.i.notAt (Nat.le_refl _))
        clear Ga Gb Ob g9
        go_upto_region 13 with fail
        obtain ⟨W9, hW9⟩ : ∃ W, W = (wg.setCell ⟨s, 8, none⟩ (.slice (some ⟨wg.heap.size, 0, none⟩) 1 1)).alloc (.cells #[.int .i64 z1, .int .i64 (10 * (z2 : Int)), .int .i64 (10 * (z3 : Int))] 118) := ⟨_, rfl⟩
        rw [← hW9] at G9
        rw [← hW9]
        clear hW9 d8 e8 hls
        obtain ⟨hcs, -, hr, hf⟩ := G9.out.cells
        obtain ⟨c0, c1, c2, c3, c4, c5, c6, c7, c8, c9⟩ := hcs
        obtain ⟨r0, r1, r2, r3, r4, r5, r6, r7, r8, r9⟩ := hr
        obtain ⟨f0, f1, f2, f3, f4, f5, f6, f7, f8, f9⟩ := hf
        have KF := Lib.hid G9.out.fin
        have HK := Lib.hid (And.intro G9.out.ks G9.out.ki)
        have hlt9 := G9.out.lt
        clear G9
        go_wp2
        obtain ⟨k0, k1, k2, k3, k4, k5, k6, k7, k8, k9⟩ := KF.out.1.ten
        refine bodyPost_ret (v := .agg #[.int .i64 2, .slice As ns cs, .slice (some ⟨wc.heap.size, 0, none⟩) 2 2, .int .i64 (120 + 10 * (x1 : Int)), .int .i64 (30 + 10 * (x2 : Int)), .int .i64 (50 + 10 * (x3 : Int)), .int .i64 x4, .int .i64 60, .slice (some ⟨wg.heap.size, 0, none⟩) 1 1, .int .i64 x5]) (by simp [results, Tryz.results65, go_sem, k0, k1, k2, k3, k4, k5, k6, k7, k8, k9]) rfl ?_
        exact ⟨⟨_, _, _, _, _, _, _, _, _, _, _, _, _, _, _, _, _, _, _, rfl, KF.out.2.2.fewer (by omega), ⟨by omega, by omega, rfl, by omega⟩, ⟨HP1.out.apart, HP2.out.apart, HP3.out.apart⟩, HJ.out, HK.out.1, HK.out.2⟩, KF.out.2.1.cur, KF.out.2.1.turn⟩
end Go.Proofs.YtlaigbhiligceaaGreatDoor
namespace Go.Proofs.YtlaigbhiligceaaGreatDoor
open Go.ChangeShapes Go.WideShapes Go.ChangeAt Go.RowKit
set_option linter.unusedVariables false
/-- the state of l7Any: the sky in block s, its rows elsewhere -/
structure StA (w : World) (p : Nat) (A : Option Addr) (cap : Nat) (xs : List Value) (s : Nat) (P R X V U D Q : Int) (ns ni nz : Nat) (ls : List Sat4) (li lz : List Tri) (As : Option Addr) (cs : Nat) (Ai : Option Addr) (ci : Nat) (Az : Option Addr) (cz : Nat) (wr : World) : Prop where
  dr : Dr w p A cap xs wr
  r : Blk wr w.heap.size 28 #[.int .i64 0, .slice none 0 0, .slice none 0 0, .int .i64 0, .int .i64 0, .int .i64 0, .int .i64 0, .int .i64 0, .slice none 0 0, .int .i64 0]
  b : Blk wr s 28 #[.int .i64 P, .slice As ns cs, .slice Ai ni ci, .int .i64 R, .int .i64 X, .int .i64 V, .int .i64 U, .int .i64 D, .slice Az nz cz, .int .i64 Q]
  o : OwnSky wr (w.heap.size + 1) As ns cs Ai ni ci Az nz cz ls li lz
  ds : NotAt s As
  di : NotAt s Ai
  dz : NotAt s Az
  ks : ∀ x ∈ ls, Oke x
  ki : ∀ x ∈ li, Ok3 x
  lt : w.heap.size < s
  ai : Apart As Ai
  az : Apart As Az
  iz : Apart Ai Az
theorem StA.call {w : World} {p : Nat} {A : Option Addr} {cap : Nat} {xs : List Value} {s : Nat} {P R X V U D Q : Int} {ns ni nz : Nat} {ls : List Sat4} {li lz : List Tri} {As : Option Addr} {cs : Nat} {Ai : Option Addr} {ci : Nat} {Az : Option Addr} {cz : Nat} {wr : World} {w' : World} (h : StA w p A cap xs s P R X V U D Q ns ni nz ls li lz As cs Ai ci Az cz wr) (c : Cur w' p A cap xs) (u : Turn p wr w') : StA w p A cap xs s P R X V U D Q ns ni nz ls li lz As cs Ai ci Az cz w' := by
  have h1 := h.dr.lt; have h2 := h.lt
  exact ⟨h.dr.call c u, u.blk h.r (by omega), u.blk h.b (by omega), h.o.turn u (by omega), h.ds, h.di, h.dz, h.ks, h.ki, h.lt, h.ai, h.az, h.iz⟩
theorem StA.below {w : World} {p : Nat} {A : Option Addr} {cap : Nat} {xs : List Value} {s : Nat} {P R X V U D Q : Int} {ns ni nz : Nat} {ls : List Sat4} {li lz : List Tri} {As : Option Addr} {cs : Nat} {Ai : Option Addr} {ci : Nat} {Az : Option Addr} {cz : Nat} {wr : World} {w' : World} (h : StA w p A cap xs s P R X V U D Q ns ni nz ls li lz As cs Ai ci Az cz wr) (hb : Below wr.heap.size wr w') : StA w p A cap xs s P R X V U D Q ns ni nz ls li lz As cs Ai ci Az cz w' :=
  ⟨h.dr.below hb, h.r.below hb h.r.lt, h.b.below hb h.b.lt, h.o.on hb, h.ds, h.di, h.dz, h.ks, h.ki, h.lt, h.ai, h.az, h.iz⟩
theorem StA.set0 {w : World} {p : Nat} {A : Option Addr} {cap : Nat} {xs : List Value} {s : Nat} {P R X V U D Q : Int} {ns ni nz : Nat} {ls : List Sat4} {li lz : List Tri} {As : Option Addr} {cs : Nat} {Ai : Option Addr} {ci : Nat} {Az : Option Addr} {cz : Nat} {wr : World} (h : StA w p A cap xs s P R X V U D Q ns ni nz ls li lz As cs Ai ci Az cz wr) (z : Int) : StA w p A cap xs s z R X V U D Q ns ni nz ls li lz As cs Ai ci Az cz (wr.setCell ⟨s, 0, none⟩ (.int .i64 z)) := by
  have h2 := h.lt
  exact ⟨h.dr.set_ (by simp; omega) _, h.r.far (by simp; omega) _, by simpa using h.b.set_ 0 (.int .i64 z), ⟨h.o.s.ne_ h.ds _, h.o.i.ne_ h.di _, h.o.z.ne_ h.dz _⟩, h.ds, h.di, h.dz, h.ks, h.ki, h.lt, h.ai, h.az, h.iz⟩
theorem StA.set3 {w : World} {p : Nat} {A : Option Addr} {cap : Nat} {xs : List Value} {s : Nat} {P R X V U D Q : Int} {ns ni nz : Nat} {ls : List Sat4} {li lz : List Tri} {As : Option Addr} {cs : Nat} {Ai : Option Addr} {ci : Nat} {Az : Option Addr} {cz : Nat} {wr : World} (h : StA w p A cap xs s P R X V U D Q ns ni nz ls li lz As cs Ai ci Az cz wr) (z : Int) : StA w p A cap xs s P z X V U D Q ns ni nz ls li lz As cs Ai ci Az cz (wr.setCell ⟨s, 3, none⟩ (.int .i64 z)) := by
  have h2 := h.lt
  exact ⟨h.dr.set_ (by simp; omega) _, h.r.far (by simp; omega) _, by simpa using h.b.set_ 3 (.int .i64 z), ⟨h.o.s.ne_ h.ds _, h.o.i.ne_ h.di _, h.o.z.ne_ h.dz _⟩, h.ds, h.di, h.dz, h.ks, h.ki, h.lt, h.ai, h.az, h.iz⟩
theorem StA.set6 {w : World} {p : Nat} {A : Option Addr} {cap : Nat} {xs : List Value} {s : Nat} {P R X V U D Q : Int} {ns ni nz : Nat} {ls : List Sat4} {li lz : List Tri} {As : Option Addr} {cs : Nat} {Ai : Option Addr} {ci : Nat} {Az : Option Addr} {cz : Nat} {wr : World} (h : StA w p A cap xs s P R X V U D Q ns ni nz ls li lz As cs Ai ci Az cz wr) (z : Int) : StA w p A cap xs s P R X V z D Q ns ni nz ls li lz As cs Ai ci Az cz (wr.setCell ⟨s, 6, none⟩ (.int .i64 z)) := by
  have h2 := h.lt
  exact ⟨h.dr.set_ (by simp; omega) _, h.r.far (by simp; omega) _, by simpa using h.b.set_ 6 (.int .i64 z), ⟨h.o.s.ne_ h.ds _, h.o.i.ne_ h.di _, h.o.z.ne_ h.dz _⟩, h.ds, h.di, h.dz, h.ks, h.ki, h.lt, h.ai, h.az, h.iz⟩
theorem StA.set9 {w : World} {p : Nat} {A : Option Addr} {cap : Nat} {xs : List Value} {s : Nat} {P R X V U D Q : Int} {ns ni nz : Nat} {ls : List Sat4} {li lz : List Tri} {As : Option Addr} {cs : Nat} {Ai : Option Addr} {ci : Nat} {Az : Option Addr} {cz : Nat} {wr : World} (h : StA w p A cap xs s P R X V U D Q ns ni nz ls li lz As cs Ai ci Az cz wr) (z : Int) : StA w p A cap xs s P R X V U D z ns ni nz ls li lz As cs Ai ci Az cz (wr.setCell ⟨s, 9, none⟩ (.int .i64 z)) := by
  have h2 := h.lt
  exact ⟨h.dr.set_ (by simp; omega) _, h.r.far (by simp; omega) _, by simpa using h.b.set_ 9 (.int .i64 z), ⟨h.o.s.ne_ h.ds _, h.o.i.ne_ h.di _, h.o.z.ne_ h.dz _⟩, h.ds, h.di, h.dz, h.ks, h.ki, h.lt, h.ai, h.az, h.iz⟩
theorem StA.set1 {w : World} {p : Nat} {A : Option Addr} {cap : Nat} {xs : List Value} {s : Nat} {P R X V U D Q : Int} {ns ni nz : Nat} {ls : List Sat4} {li lz : List Tri} {As : Option Addr} {cs : Nat} {Ai : Option Addr} {ci : Nat} {Az : Option Addr} {cz : Nat} {wr : World} (h : StA w p A cap xs s P R X V U D Q ns ni nz ls li lz As cs Ai ci Az cz wr) : StA w p A cap xs s P R X V U D Q 0 ni nz [] li lz none 0 Ai ci Az cz (wr.setCell ⟨s, 1, none⟩ (.slice none 0 0)) := by
  have h2 := h.lt
  exact ⟨h.dr.set_ (by simp; omega) _, h.r.far (by simp; omega) _, by simpa using h.b.set_ 1 (.slice none 0 0), ⟨Own.empty _ _ _ _, h.o.i.ne_ h.di _, h.o.z.ne_ h.dz _⟩, NotAt.none_ _, h.di, h.dz, by simp, h.ki, h.lt, Apart.none_l _, Apart.none_l _, h.iz⟩
/-- the first satellite is written anew -/
theorem StA.sat0 {w : World} {p : Nat} {A : Option Addr} {cap : Nat} {xs : List Value} {s g : Nat} {P R X V U D Q : Int} {ns ni nz : Nat} {ls : List Sat4} {li lz : List Tri} {cs : Nat} {Ai : Option Addr} {ci : Nat} {Az : Option Addr} {cz : Nat} {wr : World} (h : StA w p A cap xs s P R X V U D Q ns ni nz ls li lz (some ⟨g, 0, none⟩) cs Ai ci Az cz wr) (hn : 0 < ns) (x : Sat4) (hx : Oke x) : StA w p A cap xs s P R X V U D Q ns ni nz (x :: ls.tail) li lz (some ⟨g, 0, none⟩) cs Ai ci Az cz ((((wr.setCell ⟨g, 0, none⟩ (.int .i64 x.p)).setCell ⟨g, 1, none⟩ (.int .i64 x.h)).setCell ⟨g, 2, none⟩ (.int .i64 x.v)).setCell ⟨g, 3, none⟩ (.int .i64 x.e)) := by
  have h2 := h.lt
  have hg : w.heap.size < g := by rcases h.o.s.form with ⟨h1, _⟩ | ⟨g', h1, h2, _⟩ <;> simp_all <;> omega
  have hgs : g ≠ s := fun e => h.ds _ rfl e
  have hl : 0 < ls.length := by rw [← h.o.s.sl.num c4_len (by omega)]; exact hn
  have hi := h.ai.at_; have hz := h.az.at_
  have s1 := h.o.s.row.stored 0 (.int .i64 x.p)
  have s2 := s1.1.stored 1 (.int .i64 x.h)
  have s3 := s2.1.stored 2 (.int .i64 x.v)
  have s4 := s3.1.stored 3 (.int .i64 x.e)
  refine ⟨((((h.dr.set_ (a := ⟨g, 0, none⟩) (by simp; omega) (.int .i64 x.p)).set_ (a := ⟨g, 1, none⟩) (by simp; omega) (.int .i64 x.h)).set_ (a := ⟨g, 2, none⟩) (by simp; omega) (.int .i64 x.v)).set_ (a := ⟨g, 3, none⟩) (by simp; omega) (.int .i64 x.e)), ((((h.r.far (p := ⟨g, 0, none⟩) (by simp; omega) (.int .i64 x.p)).far (p := ⟨g, 1, none⟩) (by simp; omega) (.int .i64 x.h)).far (p := ⟨g, 2, none⟩) (by simp; omega) (.int .i64 x.v)).far (p := ⟨g, 3, none⟩) (by simp; omega) (.int .i64 x.e)), ((((h.b.far (p := ⟨g, 0, none⟩) (by simp; omega) (.int .i64 x.p)).far (p := ⟨g, 1, none⟩) (by simp; omega) (.int .i64 x.h)).far (p := ⟨g, 2, none⟩) (by simp; omega) (.int .i64 x.v)).far (p := ⟨g, 3, none⟩) (by simp; omega) (.int .i64 x.e)), ⟨⟨?_⟩, ((((h.o.i.ne_ (a := ⟨g, 0, none⟩) hi (.int .i64 x.p)).ne_ (a := ⟨g, 1, none⟩) hi (.int .i64 x.h)).ne_ (a := ⟨g, 2, none⟩) hi (.int .i64 x.v)).ne_ (a := ⟨g, 3, none⟩) hi (.int .i64 x.e)), ((((h.o.z.ne_ (a := ⟨g, 0, none⟩) hz (.int .i64 x.p)).ne_ (a := ⟨g, 1, none⟩) hz (.int .i64 x.h)).ne_ (a := ⟨g, 2, none⟩) hz (.int .i64 x.v)).ne_ (a := ⟨g, 3, none⟩) hz (.int .i64 x.e))⟩, h.ds, h.di, h.dz, ?_, h.ki, h.lt, h.ai, h.az, h.iz⟩
  · have e : ((((fl c4 ls).set 0 (.int .i64 x.p)).set 1 (.int .i64 x.h)).set 2 (.int .i64 x.v)).set 3 (.int .i64 x.e) = fl c4 (x :: ls.tail) := by
      cases ls with
      | nil => simp at hl
      | cons y t => simp [fl, c4]
    rw [← e]; exact s4.1
  · intro y hy
    rcases List.mem_cons.1 hy with rfl | hy
    · exact hx
    · exact h.ks y (List.mem_of_mem_tail hy)
/-- the first site's angle is written anew -/
theorem StA.site0 {w : World} {p : Nat} {A : Option Addr} {cap : Nat} {xs : List Value} {s g : Nat} {P R X V U D Q : Int} {ns ni nz : Nat} {ls : List Sat4} {li lz : List Tri} {As : Option Addr} {cs : Nat} {ci : Nat} {Az : Option Addr} {cz : Nat} {wr : World} (h : StA w p A cap xs s P R X V U D Q ns ni nz ls li lz As cs (some ⟨g, 0, none⟩) ci Az cz wr) (hn : 0 < ni) (z : Int) (hx : J64 z) : StA w p A cap xs s P R X V U D Q ns ni nz ls (⟨(li.headD default).p, z, (li.headD default).b⟩ :: li.tail) lz As cs (some ⟨g, 0, none⟩) ci Az cz (wr.setCell ⟨g, 1, none⟩ (.int .i64 z)) := by
  have h2 := h.lt
  have hg : w.heap.size < g := by rcases h.o.i.form with ⟨h1, _⟩ | ⟨g', h1, h2, _⟩ <;> simp_all <;> omega
  have hgs : g ≠ s := fun e => h.di _ rfl e
  have hl : 0 < li.length := by rw [← h.o.i.sl.num c3_len (by omega)]; exact hn
  have hi := h.ai.at'; have hz := h.iz.at_
  have s1 := h.o.i.row.stored 1 (.int .i64 z)
  refine ⟨h.dr.set_ (by simp; omega) _, h.r.far (by simp; omega) _, h.b.far (by simp; omega) _, ⟨h.o.s.ne_ hi _, ⟨?_⟩, h.o.z.ne_ hz _⟩, h.ds, h.di, h.dz, h.ks, ?_, h.lt, h.ai, h.az, h.iz⟩
  · have e : (fl c3 li).set 1 (.int .i64 z) = fl c3 (⟨(li.headD default).p, z, (li.headD default).b⟩ :: li.tail) := by
      cases li with
      | nil => simp at hl
      | cons y t => simp [fl, c3]
    rw [← e]; exact s1.1
  · intro y hy
    rcases List.mem_cons.1 hy with rfl | hy
    · cases li with
      | nil => simp at hl
      | cons y t => exact ⟨(h.ki y (by simp)).1, hx, (h.ki y (by simp)).2.2⟩
    · exact h.ki y (List.mem_of_mem_tail hy)
/-- a zone appended, and the slice stored into the sky -/
theorem StA.zone {w : World} {p : Nat} {A : Option Addr} {cap : Nat} {xs : List Value} {s : Nat} {P R X V U D Q : Int} {ns ni nz : Nat} {ls : List Sat4} {li lz : List Tri} {As : Option Addr} {cs : Nat} {Ai : Option Addr} {ci : Nat} {Az : Option Addr} {cz : Nat} {wr : World} {w' : World} {A2 : Option Addr} {c2 : Nat} {x : Tri} (h : StA w p A cap xs s P R X V U D Q ns ni nz ls li lz As cs Ai ci Az cz wr) (ho : Own w' (w.heap.size + 1) 118 3 A2 (nz + 1) c2 (fl c3 lz ++ c3 x)) (hg : wr.grownBy w' (Value.slice Az nz cz).ownBlock)
    (hat : (Value.slice A2 (nz + 1) c2).ownBlock = (Value.slice Az nz cz).ownBlock ∨ (Value.slice A2 (nz + 1) c2).ownBlock = some wr.heap.size) : ∃ lz2, StA w p A cap xs s P R X V U D Q ns ni (nz + 1) ls li lz2 As cs Ai ci A2 c2 (w'.setCell ⟨s, 8, none⟩ (.slice A2 (nz + 1) c2)) := by
  have h2 := h.lt
  have hb : Blk w' s 28 #[.int .i64 P, .slice As ns cs, .slice Ai ni ci, .int .i64 R, .int .i64 X, .int .i64 V, .int .i64 U, .int .i64 D, .slice Az nz cz, .int .i64 Q] := by
    refine (hg.block s h.b.lt fun e => ?_).trans h.b
    rcases Az with _ | a
    · simp [Value.ownBlock] at e
    · simp [Value.ownBlock] at e
      exact h.dz a rfl e.symm
  have key : ∀ a, A2 = some a → (∃ b, Az = some b ∧ b.block = a.block) ∨ a.block = wr.heap.size := by
    intro a ea
    subst ea
    rcases hat with e | e
    · rcases Az with _ | b
      · simp [Value.ownBlock] at e
      · simp [Value.ownBlock] at e
        exact .inl ⟨b, rfl, e.symm⟩
    · simp [Value.ownBlock] at e
      exact .inr e
  have hdz : NotAt s A2 := fun a ea => by
    rcases key a ea with ⟨b, hb1, hb2⟩ | e
    · rw [← hb2]; exact h.dz b hb1
    · rw [e]; have := h.b.lt; omega
  have haz : Apart As A2 := fun a b ha hb3 => by
    rcases key b hb3 with ⟨c, hc1, hc2⟩ | e
    · rw [← hc2]; exact h.az a c ha hc1
    · rw [e]; exact (h.o.s.notAt (Nat.le_refl _)) a ha
  have hiz : Apart Ai A2 := fun a b ha hb3 => by
    rcases key b hb3 with ⟨c, hc1, hc2⟩ | e
    · rw [← hc2]; exact h.iz a c ha hc1
    · rw [e]; exact (h.o.i.notAt (Nat.le_refl _)) a ha
  have hsk : Own w' (w.heap.size + 1) 109 4 As ns cs (fl c4 ls) := h.o.s.kept hg (by
    rcases As with _ | a
    · exact .inl rfl
    · right
      intro e
      rcases Az with _ | b
      · simp [Value.ownBlock] at e
      · simp [Value.ownBlock] at e
        exact h.az a b rfl rfl e)
  have hik : Own w' (w.heap.size + 1) 113 3 Ai ni ci (fl c3 li) := h.o.i.kept hg (by
    rcases Ai with _ | a
    · exact .inl rfl
    · right
      intro e
      rcases Az with _ | b
      · simp [Value.ownBlock] at e
      · simp [Value.ownBlock] at e
        exact h.iz a b rfl rfl e)
  refine ⟨lz ++ [x], (h.dr.grown (h.o.z.fewer (by omega)) hg).set_ (by simp; omega) _, (h.r.grown h.o.z hg (by omega)).far (by simp; omega) _, by simpa using hb.set_ 8 (.slice A2 (nz + 1) c2), ⟨hsk.ne_ h.ds _, hik.ne_ h.di _, ?_⟩, h.ds, h.di, hdz, h.ks, h.ki, h.lt, h.ai, haz, hiz⟩
  have := ho.ne_ (a := ⟨s, 8, none⟩) hdz (.slice A2 (nz + 1) c2)
  rw [fl_app]
  simpa [fl] using this
theorem StA.fin {w : World} {p : Nat} {A : Option Addr} {cap : Nat} {xs : List Value} {s : Nat} {P R X V U D Q : Int} {ns ni nz : Nat} {ls : List Sat4} {li lz : List Tri} {As : Option Addr} {cs : Nat} {Ai : Option Addr} {ci : Nat} {Az : Option Addr} {cz : Nat} {wr : World} (h : StA w p A cap xs s P R X V U D Q ns ni nz ls li lz As cs Ai ci Az cz wr) : Blk ((((((((((wr.setCell ⟨w.heap.size, 0, none⟩ (.int .i64 P)).setCell ⟨w.heap.size, 1, none⟩ (.slice As ns cs)).setCell ⟨w.heap.size, 2, none⟩ (.slice Ai ni ci)).setCell ⟨w.heap.size, 3, none⟩ (.int .i64 R)).setCell ⟨w.heap.size, 4, none⟩ (.int .i64 X)).setCell ⟨w.heap.size, 5, none⟩ (.int .i64 V)).setCell ⟨w.heap.size, 6, none⟩ (.int .i64 U)).setCell ⟨w.heap.size, 7, none⟩ (.int .i64 D)).setCell ⟨w.heap.size, 8, none⟩ (.slice Az nz cz)).setCell ⟨w.heap.size, 9, none⟩ (.int .i64 Q)) w.heap.size 28 #[.int .i64 P, .slice As ns cs, .slice Ai ni ci, .int .i64 R, .int .i64 X, .int .i64 V, .int .i64 U, .int .i64 D, .slice Az nz cz, .int .i64 Q] ∧ Dr w p A cap xs ((((((((((wr.setCell ⟨w.heap.size, 0, none⟩ (.int .i64 P)).setCell ⟨w.heap.size, 1, none⟩ (.slice As ns cs)).setCell ⟨w.heap.size, 2, none⟩ (.slice Ai ni ci)).setCell ⟨w.heap.size, 3, none⟩ (.int .i64 R)).setCell ⟨w.heap.size, 4, none⟩ (.int .i64 X)).setCell ⟨w.heap.size, 5, none⟩ (.int .i64 V)).setCell ⟨w.heap.size, 6, none⟩ (.int .i64 U)).setCell ⟨w.heap.size, 7, none⟩ (.int .i64 D)).setCell ⟨w.heap.size, 8, none⟩ (.slice Az nz cz)).setCell ⟨w.heap.size, 9, none⟩ (.int .i64 Q)) ∧ OwnSky ((((((((((wr.setCell ⟨w.heap.size, 0, none⟩ (.int .i64 P)).setCell ⟨w.heap.size, 1, none⟩ (.slice As ns cs)).setCell ⟨w.heap.size, 2, none⟩ (.slice Ai ni ci)).setCell ⟨w.heap.size, 3, none⟩ (.int .i64 R)).setCell ⟨w.heap.size, 4, none⟩ (.int .i64 X)).setCell ⟨w.heap.size, 5, none⟩ (.int .i64 V)).setCell ⟨w.heap.size, 6, none⟩ (.int .i64 U)).setCell ⟨w.heap.size, 7, none⟩ (.int .i64 D)).setCell ⟨w.heap.size, 8, none⟩ (.slice Az nz cz)).setCell ⟨w.heap.size, 9, none⟩ (.int .i64 Q)) (w.heap.size + 1) As ns cs Ai ni ci Az nz cz ls li lz := by
  have h2 := h.lt
  exact ⟨by simpa using ((((((((((h.r.set_ 0 (.int .i64 P)).set_ 1 (.slice As ns cs)).set_ 2 (.slice Ai ni ci)).set_ 3 (.int .i64 R)).set_ 4 (.int .i64 X)).set_ 5 (.int .i64 V)).set_ 6 (.int .i64 U)).set_ 7 (.int .i64 D)).set_ 8 (.slice Az nz cz)).set_ 9 (.int .i64 Q)), ((((((((((h.dr.set_ (a := ⟨w.heap.size, 0, none⟩) (by simp) (.int .i64 P)).set_ (a := ⟨w.heap.size, 1, none⟩) (by simp) (.slice As ns cs)).set_ (a := ⟨w.heap.size, 2, none⟩) (by simp) (.slice Ai ni ci)).set_ (a := ⟨w.heap.size, 3, none⟩) (by simp) (.int .i64 R)).set_ (a := ⟨w.heap.size, 4, none⟩) (by simp) (.int .i64 X)).set_ (a := ⟨w.heap.size, 5, none⟩) (by simp) (.int .i64 V)).set_ (a := ⟨w.heap.size, 6, none⟩) (by simp) (.int .i64 U)).set_ (a := ⟨w.heap.size, 7, none⟩) (by simp) (.int .i64 D)).set_ (a := ⟨w.heap.size, 8, none⟩) (by simp) (.slice Az nz cz)).set_ (a := ⟨w.heap.size, 9, none⟩) (by simp) (.int .i64 Q)), ((((((((((h.o.far (a := ⟨w.heap.size, 0, none⟩) (by simp) (.int .i64 P)).far (a := ⟨w.heap.size, 1, none⟩) (by simp) (.slice As ns cs)).far (a := ⟨w.heap.size, 2, none⟩) (by simp) (.slice Ai ni ci)).far (a := ⟨w.heap.size, 3, none⟩) (by simp) (.int .i64 R)).far (a := ⟨w.heap.size, 4, none⟩) (by simp) (.int .i64 X)).far (a := ⟨w.heap.size, 5, none⟩) (by simp) (.int .i64 V)).far (a := ⟨w.heap.size, 6, none⟩) (by simp) (.int .i64 U)).far (a := ⟨w.heap.size, 7, none⟩) (by simp) (.int .i64 D)).far (a := ⟨w.heap.size, 8, none⟩) (by simp) (.slice Az nz cz)).far (a := ⟨w.heap.size, 9, none⟩) (by simp) (.int .i64 Q))⟩
theorem StA.cells {w : World} {p : Nat} {A : Option Addr} {cap : Nat} {xs : List Value} {s : Nat} {P R X V U D Q : Int} {ns ni nz : Nat} {ls : List Sat4} {li lz : List Tri} {As : Option Addr} {cs : Nat} {Ai : Option Addr} {ci : Nat} {Az : Option Addr} {cz : Nat} {wr : World} (h : StA w p A cap xs s P R X V U D Q ns ni nz ls li lz As cs Ai ci Az cz wr) : (wr.cell? ⟨s, 0, none⟩ = some (.int .i64 P) ∧ wr.cell? ⟨s, 1, none⟩ = some (.slice As ns cs) ∧ wr.cell? ⟨s, 2, none⟩ = some (.slice Ai ni ci) ∧ wr.cell? ⟨s, 3, none⟩ = some (.int .i64 R) ∧ wr.cell? ⟨s, 4, none⟩ = some (.int .i64 X) ∧ wr.cell? ⟨s, 5, none⟩ = some (.int .i64 V) ∧ wr.cell? ⟨s, 6, none⟩ = some (.int .i64 U) ∧ wr.cell? ⟨s, 7, none⟩ = some (.int .i64 D) ∧ wr.cell? ⟨s, 8, none⟩ = some (.slice Az nz cz) ∧ wr.cell? ⟨s, 9, none⟩ = some (.int .i64 Q)) ∧ (wr.cell? ⟨w.heap.size, 0, none⟩ = some (.int .i64 0) ∧ wr.cell? ⟨w.heap.size, 1, none⟩ = some (.slice none 0 0) ∧ wr.cell? ⟨w.heap.size, 2, none⟩ = some (.slice none 0 0) ∧ wr.cell? ⟨w.heap.size, 3, none⟩ = some (.int .i64 0) ∧ wr.cell? ⟨w.heap.size, 4, none⟩ = some (.int .i64 0) ∧
    wr.cell? ⟨w.heap.size, 5, none⟩ = some (.int .i64 0) ∧ wr.cell? ⟨w.heap.size, 6, none⟩ = some (.int .i64 0) ∧ wr.cell? ⟨w.heap.size, 7, none⟩ = some (.int .i64 0) ∧ wr.cell? ⟨w.heap.size, 8, none⟩ = some (.slice none 0 0) ∧ wr.cell? ⟨w.heap.size, 9, none⟩ = some (.int .i64 0)) ∧
    (wr.frozen? ⟨w.heap.size, 0, none⟩ = false ∧ wr.frozen? ⟨w.heap.size, 1, none⟩ = false ∧ wr.frozen? ⟨w.heap.size, 2, none⟩ = false ∧ wr.frozen? ⟨w.heap.size, 3, none⟩ = false ∧ wr.frozen? ⟨w.heap.size, 4, none⟩ = false ∧ wr.frozen? ⟨w.heap.size, 5, none⟩ = false ∧ wr.frozen? ⟨w.heap.size, 6, none⟩ = false ∧ wr.frozen? ⟨w.heap.size, 7, none⟩ = false ∧ wr.frozen? ⟨w.heap.size, 8, none⟩ = false ∧ wr.frozen? ⟨w.heap.size, 9, none⟩ = false) :=
  ⟨⟨h.b.cell 0, h.b.cell 1, h.b.cell 2, h.b.cell 3, h.b.cell 4, h.b.cell 5, h.b.cell 6, h.b.cell 7, h.b.cell 8, h.b.cell 9⟩,
    ⟨h.r.cell 0, h.r.cell 1, h.r.cell 2, h.r.cell 3, h.r.cell 4, h.r.cell 5, h.r.cell 6, h.r.cell 7, h.r.cell 8, h.r.cell 9⟩, h.r.frozen 0, h.r.frozen 1, h.r.frozen 2, h.r.frozen 3, h.r.frozen 4, h.r.frozen 5, h.r.frozen 6, h.r.frozen 7, h.r.frozen 8, h.r.frozen 9⟩
/-- what l7Any answers -/
def GotAny (w : World) (p : Nat) (A : Option Addr) (cap : Nat) (xs : List Value) (e : Ending) (w' : World) : Prop :=
  (∃ (P R X V U D Q : Int) (ns ni nz : Nat) (ls : List Sat4) (li lz : List Tri) (As : Option Addr) (cs : Nat) (Ai : Option Addr) (ci : Nat) (Az : Option Addr) (cz : Nat),
    e = .returned (.agg #[.int .i64 P, .slice As ns cs, .slice Ai ni ci, .int .i64 R, .int .i64 X, .int .i64 V, .int .i64 U, .int .i64 D, .slice Az nz cz, .int .i64 Q]) ∧ OwnSky w' w.heap.size As ns cs Ai ni ci Az nz cz ls li lz ∧ (ns ≤ 6 ∧ ni = 2 ∧ nz ≤ 2) ∧ (J64 P ∧ J64 R ∧ J64 X ∧ J64 V ∧ J64 U ∧ J64 D ∧ J64 Q) ∧ (∀ x ∈ ls, Oke x) ∧ (∀ x ∈ li, Ok3 x)) ∧ Cur w' p A cap xs ∧ Turn p w w'
end Go.Proofs.YtlaigbhiligceaaGreatDoor
