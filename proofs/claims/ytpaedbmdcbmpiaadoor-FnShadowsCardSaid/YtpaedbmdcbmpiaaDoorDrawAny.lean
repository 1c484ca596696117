/- The contract of chapter 7's draw l7Any: the state. -/
import Derived.Test.YtpaedbmdcbmpiaaDoorDrawSky2
namespace Go.Proofs.YtpaedbmdcbmpiaaDoor
open Go.ChangeShapes Go.WideShapes Go.ChangeAt Go.RowKit
set_option linter.unusedVariables false
theorem Apart.none_l (A : Option Addr) : Apart none A := fun a b h => by cases h
theorem Apart.at_ {g : Nat} {A : Option Addr} (h : Apart (some ⟨g, 0, none⟩) A) : NotAt g A := fun a e => fun e2 => h _ a rfl e e2.symm
theorem Apart.at' {g : Nat} {A : Option Addr} (h : Apart A (some ⟨g, 0, none⟩)) : NotAt g A := fun a e => h a _ e rfl
theorem grown_set (w : World) (a : Addr) (u : Value) : w.grownBy (w.setCell a u) (some a.block) := ⟨rfl, rfl, rfl, by simp, fun k hk hne => Below.heap_setCell w a u k (fun e => hne (by rw [e]))⟩
theorem Own.ne_ {w : World} {B s n c : Nat} {E : TypeId} {A : Option Addr} {xs : List Value} (h : Own w B E s A n c xs) {a : Addr} (ha : NotAt a.block A) (u : Value) : Own (w.setCell a u) B E s A n c xs := by
  refine h.kept (row := some a.block) (grown_set w a u) ?_
  rcases A with _ | b
  · exact .inl rfl
  · right
    intro e
    simp [Value.ownBlock] at e
    exact ha b rfl e
theorem Own.low {w : World} {B s n c t : Nat} {E : TypeId} {A : Option Addr} {xs : List Value} (h : Own w B E s A n c xs) (ht : t < B) : NotAt t A := by
  intro a e
  rcases h.form with ⟨h1, _⟩ | ⟨g, h1, h2, _⟩
  · rw [h1] at e; cases e
  · rw [h1] at e; injection e with e; subst e; simp; omega
/-- the state of l7Any: the sky in block s, its rows elsewhere -/
structure StA (w : World) (p : Nat) (A : Option Addr) (cap : Nat) (xs : List Value) (s : Nat) (P R X V U D Q : Int) (ns ni nz : Nat) (ls : List Sat4) (li lz : List Tri) (As : Option Addr) (cs : Nat) (Ai : Option Addr) (ci : Nat) (Az : Option Addr) (cz : Nat) (wr : World) : Prop where
  dr : Dr w p A cap xs wr
  r : Blk wr w.heap.size 28 #[.int .i64 0, .slice none 0 0, .slice none 0 0, .int .i64 0, .int .i64 0, .int .i64 0, .int .i64 0, .int .i64 0, .slice none 0 0, .int .i64 0]
  b : Blk wr s 28 #[.int .i64 P, .slice As ns cs, .slice Ai ni ci, .int .i64 R, .int .i64 X, .int .i64 V, .int .i64 U, .int .i64 D, .slice Az nz cz, .int .i64 Q]
  o : OwnSky wr (w.heap.size + 1) As ns cs Ai ni ci Az nz cz ls li lz
  ds : NotAt s As
  di : NotAt s Ai
  dz : NotAt s Az
  ks : ∀ x ∈ ls, Oke x
  ki : ∀ x ∈ li, Ok3 x
  lt : w.heap.size < s
  ai : Apart As Ai
  az : Apart As Az
  iz : Apart Ai Az
theorem StA.call {w : World} {p : Nat} {A : Option Addr} {cap : Nat} {xs : List Value} {s : Nat} {P R X V U D Q : Int} {ns ni nz : Nat} {ls : List Sat4} {li lz : List Tri} {As : Option Addr} {cs : Nat} {Ai : Option Addr} {ci : Nat} {Az : Option Addr} {cz : Nat} {wr : World} {w' : World} (h : StA w p A cap xs s P R X V U D Q ns ni nz ls li lz As cs Ai ci Az cz wr) (c : Cur w' p A cap xs) (u : Turn p wr w') : StA w p A cap xs s P R X V U D Q ns ni nz ls li lz As cs Ai ci Az cz w' := by
  have h1 := h.dr.lt; have h2 := h.lt
  exact ⟨h.dr.call c u, u.blk h.r (by omega), u.blk h.b (by omega), h.o.turn u (by omega), h.ds, h.di, h.dz, h.ks, h.ki, h.lt, h.ai, h.az, h.iz⟩
theorem StA.below {w : World} {p : Nat} {A : Option Addr} {cap : Nat} {xs : List Value} {s : Nat} {P R X V U D Q : Int} {ns ni nz : Nat} {ls : List Sat4} {li lz : List Tri} {As : Option Addr} {cs : Nat} {Ai : Option Addr} {ci : Nat} {Az : Option Addr} {cz : Nat} {wr : World} {w' : World} (h : StA w p A cap xs s P R X V U D Q ns ni nz ls li lz As cs Ai ci Az cz wr) (hb : Below wr.heap.size wr w') : StA w p A cap xs s P R X V U D Q ns ni nz ls li lz As cs Ai ci Az cz w' :=
  ⟨h.dr.below hb, h.r.below hb h.r.lt, h.b.below hb h.b.lt, h.o.on hb, h.ds, h.di, h.dz, h.ks, h.ki, h.lt, h.ai, h.az, h.iz⟩
theorem StA.set0 {w : World} {p : Nat} {A : Option Addr} {cap : Nat} {xs : List Value} {s : Nat} {P R X V U D Q : Int} {ns ni nz : Nat} {ls : List Sat4} {li lz : List Tri} {As : Option Addr} {cs : Nat} {Ai : Option Addr} {ci : Nat} {Az : Option Addr} {cz : Nat} {wr : World} (h : StA w p A cap xs s P R X V U D Q ns ni nz ls li lz As cs Ai ci Az cz wr) (z : Int) : StA w p A cap xs s z R X V U D Q ns ni nz ls li lz As cs Ai ci Az cz (wr.setCell ⟨s, 0, none⟩ (.int .i64 z)) := by
  have h2 := h.lt
  exact ⟨h.dr.set_ (by simp; omega) _, h.r.far (by simp; omega) _, by simpa using h.b.set_ 0 (.int .i64 z), ⟨h.o.s.ne_ h.ds _, h.o.i.ne_ h.di _, h.o.z.ne_ h.dz _⟩, h.ds, h.di, h.dz, h.ks, h.ki, h.lt, h.ai, h.az, h.iz⟩
theorem StA.set3 {w : World} {p : Nat} {A : Option Addr} {cap : Nat} {xs : List Value} {s : Nat} {P R X V U D Q : Int} {ns ni nz : Nat} {ls : List Sat4} {li lz : List Tri} {As : Option Addr} {cs : Nat} {Ai : Option Addr} {ci : Nat} {Az : Option Addr} {cz : Nat} {wr : World} (h : StA w p A cap xs s P R X V U D Q ns ni nz ls li lz As cs Ai ci Az cz wr) (z : Int) : StA w p A cap xs s P z X V U D Q ns ni nz ls li lz As cs Ai ci Az cz (wr.setCell ⟨s, 3, none⟩ (.int .i64 z)) := by
  have h2 := h.lt
  exact ⟨h.dr.set_ (by simp; omega) _, h.r.far (by simp; omega) _, by simpa using h.b.set_ 3 (.int .i64 z), ⟨h.o.s.ne_ h.ds _, h.o.i.ne_ h.di _, h.o.z.ne_ h.dz _⟩, h.ds, h.di, h.dz, h.ks, h.ki, h.lt, h.ai, h.az, h.iz⟩
theorem StA.set6 {w : World} {p : Nat} {A : Option Addr} {cap : Nat} {xs : List Value} {s : Nat} {P R X V U D Q : Int} {ns ni nz : Nat} {ls : List Sat4} {li lz : List Tri} {As : Option Addr} {cs : Nat} {Ai : Option Addr} {ci : Nat} {Az : Option Addr} {cz : Nat} {wr : World} (h : StA w p A cap xs s P R X V U D Q ns ni nz ls li lz As cs Ai ci Az cz wr) (z : Int) : StA w p A cap xs s P R X V z D Q ns ni nz ls li lz As cs Ai ci Az cz (wr.setCell ⟨s, 6, none⟩ (.int .i64 z)) := by
  have h2 := h.lt
  exact ⟨h.dr.set_ (by simp; omega) _, h.r.far (by simp; omega) _, by simpa using h.b.set_ 6 (.int .i64 z), ⟨h.o.s.ne_ h.ds _, h.o.i.ne_ h.di _, h.o.z.ne_ h.dz _⟩, h.ds, h.di, h.dz, h.ks, h.ki, h.lt, h.ai, h.az, h.iz⟩
theorem StA.set9 {w : World} {p : Nat} {A : Option Addr} {cap : Nat} {xs : List Value} {s : Nat} {P R X V U D Q : Int} {ns ni nz : Nat} {ls : List Sat4} {li lz : List Tri} {As : Option Addr} {cs : Nat} {Ai : Option Addr} {ci : Nat} {Az : Option Addr} {cz : Nat} {wr : World} (h : StA w p A cap xs s P R X V U D Q ns ni nz ls li lz As cs Ai ci Az cz wr) (z : Int) : StA w p A cap xs s P R X V U D z ns ni nz ls li lz As cs Ai ci Az cz (wr.setCell ⟨s, 9, none⟩ (.int .i64 z)) := by
  have h2 := h.lt
  exact ⟨h.dr.set_ (by simp; omega) _, h.r.far (by simp; omega) _, by simpa using h.b.set_ 9 (.int .i64 z), ⟨h.o.s.ne_ h.ds _, h.o.i.ne_ h.di _, h.o.z.ne_ h.dz _⟩, h.ds, h.di, h.dz, h.ks, h.ki, h.lt, h.ai, h.az, h.iz⟩
theorem StA.set1 {w : World} {p : Nat} {A : Option Addr} {cap : Nat} {xs : List Value} {s : Nat} {P R X V U D Q : Int} {ns ni nz : Nat} {ls : List Sat4} {li lz : List Tri} {As : Option Addr} {cs : Nat} {Ai : Option Addr} {ci : Nat} {Az : Option Addr} {cz : Nat} {wr : World} (h : StA w p A cap xs s P R X V U D Q ns ni nz ls li lz As cs Ai ci Az cz wr) : StA w p A cap xs s P R X V U D Q 0 ni nz [] li lz none 0 Ai ci Az cz (wr.setCell ⟨s, 1, none⟩ (.slice none 0 0)) := by
  have h2 := h.lt
  exact ⟨h.dr.set_ (by simp; omega) _, h.r.far (by simp; omega) _, by simpa using h.b.set_ 1 (.slice none 0 0), ⟨Own.empty _ _ _ _, h.o.i.ne_ h.di _, h.o.z.ne_ h.dz _⟩, NotAt.none_ _, h.di, h.dz, by simp, h.ki, h.lt, Apart.none_l _, Apart.none_l _, h.iz⟩
/-- the first satellite is written anew -/
theorem StA.sat0 {w : World} {p : Nat} {A : Option Addr} {cap : Nat} {xs : List Value} {s g : Nat} {P R X V U D Q : Int} {ns ni nz : Nat} {ls : List Sat4} {li lz : List Tri} {cs : Nat} {Ai : Option Addr} {ci : Nat} {Az : Option Addr} {cz : Nat} {wr : World} (h : StA w p A cap xs s P R X V U D Q ns ni nz ls li lz (some ⟨g, 0, none⟩) cs Ai ci Az cz wr) (hn : 0 < ns) (x : Sat4) (hx : Oke x) : StA w p A cap xs s P R X V U D Q ns ni nz (x :: ls.tail) li lz (some ⟨g, 0, none⟩) cs Ai ci Az cz ((((wr.setCell ⟨g, 0, none⟩ (.int .i64 x.p)).setCell ⟨g, 1, none⟩ (.int .i64 x.h)).setCell ⟨g, 2, none⟩ (.int .i64 x.v)).setCell ⟨g, 3, none⟩ (.int .i64 x.e)) := by
  have h2 := h.lt
  have hg : w.heap.size < g := by rcases h.o.s.form with ⟨h1, _⟩ | ⟨g', h1, h2, _⟩ <;> simp_all <;> omega
  have hgs : g ≠ s := fun e => h.ds _ rfl e
  have hl : 0 < ls.length := by rw [← h.o.s.sl.num c4_len (by omega)]; exact hn
  have hi := h.ai.at_; have hz := h.az.at_
  have s1 := h.o.s.row.stored 0 (.int .i64 x.p)
  have s2 := s1.1.stored 1 (.int .i64 x.h)
  have s3 := s2.1.stored 2 (.int .i64 x.v)
  have s4 := s3.1.stored 3 (.int .i64 x.e)
  refine ⟨((((h.dr.set_ (a := ⟨g, 0, none⟩) (by simp; omega) (.int .i64 x.p)).set_ (a := ⟨g, 1, none⟩) (by simp; omega) (.int .i64 x.h)).set_ (a := ⟨g, 2, none⟩) (by simp; omega) (.int .i64 x.v)).set_ (a := ⟨g, 3, none⟩) (by simp; omega) (.int .i64 x.e)), ((((h.r.far (p := ⟨g, 0, none⟩) (by simp; omega) (.int .i64 x.p)).far (p := ⟨g, 1, none⟩) (by simp; omega) (.int .i64 x.h)).far (p := ⟨g, 2, none⟩) (by simp; omega) (.int .i64 x.v)).far (p := ⟨g, 3, none⟩) (by simp; omega) (.int .i64 x.e)), ((((h.b.far (p := ⟨g, 0, none⟩) (by simp; omega) (.int .i64 x.p)).far (p := ⟨g, 1, none⟩) (by simp; omega) (.int .i64 x.h)).far (p := ⟨g, 2, none⟩) (by simp; omega) (.int .i64 x.v)).far (p := ⟨g, 3, none⟩) (by simp; omega) (.int .i64 x.e)), ⟨⟨?_⟩, ((((h.o.i.ne_ (a := ⟨g, 0, none⟩) hi (.int .i64 x.p)).ne_ (a := ⟨g, 1, none⟩) hi (.int .i64 x.h)).ne_ (a := ⟨g, 2, none⟩) hi (.int .i64 x.v)).ne_ (a := ⟨g, 3, none⟩) hi (.int .i64 x.e)), ((((h.o.z.ne_ (a := ⟨g, 0, none⟩) hz (.int .i64 x.p)).ne_ (a := ⟨g, 1, none⟩) hz (.int .i64 x.h)).ne_ (a := ⟨g, 2, none⟩) hz (.int .i64 x.v)).ne_ (a := ⟨g, 3, none⟩) hz (.int .i64 x.e))⟩, h.ds, h.di, h.dz, ?_, h.ki, h.lt, h.ai, h.az, h.iz⟩
  · have e : ((((fl c4 ls).set 0 (.int .i64 x.p)).set 1 (.int .i64 x.h)).set 2 (.int .i64 x.v)).set 3 (.int .i64 x.e) = fl c4 (x :: ls.tail) := by
      cases ls with
      | nil => simp at hl
      | cons y t => simp [fl, c4]
    rw [← e]; exact s4.1
  · intro y hy
    rcases List.mem_cons.1 hy with rfl | hy
    · exact hx
    · exact h.ks y (List.mem_of_mem_tail hy)
/-- the first site's angle is written anew -/
theorem StA.site0 {w : World} {p : Nat} {A : Option Addr} {cap : Nat} {xs : List Value} {s g : Nat} {P R X V U D Q : Int} {ns ni nz : Nat} {ls : List Sat4} {li lz : List Tri} {As : Option Addr} {cs : Nat} {ci : Nat} {Az : Option Addr} {cz : Nat} {wr : World} (h : StA w p A cap xs s P R X V U D Q ns ni nz ls li lz As cs (some ⟨g, 0, none⟩) ci Az cz wr) (hn : 0 < ni) (z : Int) (hx : J64 z) : StA w p A cap xs s P R X V U D Q ns ni nz ls (⟨(li.headD default).p, z, (li.headD default).b⟩ :: li.tail) lz As cs (some ⟨g, 0, none⟩) ci Az cz (wr.setCell ⟨g, 1, none⟩ (.int .i64 z)) := by
  have h2 := h.lt
  have hg : w.heap.size < g := by rcases h.o.i.form with ⟨h1, _⟩ | ⟨g', h1, h2, _⟩ <;> simp_all <;> omega
  have hgs : g ≠ s := fun e => h.di _ rfl e
  have hl : 0 < li.length := by rw [← h.o.i.sl.num c3_len (by omega)]; exact hn
  have hi := h.ai.at'; have hz := h.iz.at_
  have s1 := h.o.i.row.stored 1 (.int .i64 z)
  refine ⟨h.dr.set_ (by simp; omega) _, h.r.far (by simp; omega) _, h.b.far (by simp; omega) _, ⟨h.o.s.ne_ hi _, ⟨?_⟩, h.o.z.ne_ hz _⟩, h.ds, h.di, h.dz, h.ks, ?_, h.lt, h.ai, h.az, h.iz⟩
  · have e : (fl c3 li).set 1 (.int .i64 z) = fl c3 (⟨(li.headD default).p, z, (li.headD default).b⟩ :: li.tail) := by
      cases li with
      | nil => simp at hl
      | cons y t => simp [fl, c3]
    rw [← e]; exact s1.1
  · intro y hy
    rcases List.mem_cons.1 hy with rfl | hy
    · cases li with
      | nil => simp at hl
      | cons y t => exact ⟨(h.ki y (by simp)).1, hx, (h.ki y (by simp)).2.2⟩
    · exact h.ki y (List.mem_of_mem_tail hy)
/-- a zone appended, and the slice stored into the sky -/
theorem StA.zone {w : World} {p : Nat} {A : Option Addr} {cap : Nat} {xs : List Value} {s : Nat} {P R X V U D Q : Int} {ns ni nz : Nat} {ls : List Sat4} {li lz : List Tri} {As : Option Addr} {cs : Nat} {Ai : Option Addr} {ci : Nat} {Az : Option Addr} {cz : Nat} {wr : World} {w' : World} {A2 : Option Addr} {c2 : Nat} {x : Tri} (h : StA w p A cap xs s P R X V U D Q ns ni nz ls li lz As cs Ai ci Az cz wr) (ho : Own w' (w.heap.size + 1) 117 3 A2 (nz + 1) c2 (fl c3 lz ++ c3 x)) (hg : wr.grownBy w' (Value.slice Az nz cz).ownBlock)
    (hat : (Value.slice A2 (nz + 1) c2).ownBlock = (Value.slice Az nz cz).ownBlock ∨ (Value.slice A2 (nz + 1) c2).ownBlock = some wr.heap.size) : ∃ lz2, StA w p A cap xs s P R X V U D Q ns ni (nz + 1) ls li lz2 As cs Ai ci A2 c2 (w'.setCell ⟨s, 8, none⟩ (.slice A2 (nz + 1) c2)) := by
  have h2 := h.lt
  have hb : Blk w' s 28 #[.int .i64 P, .slice As ns cs, .slice Ai ni ci, .int .i64 R, .int .i64 X, .int .i64 V, .int .i64 U, .int .i64 D, .slice Az nz cz, .int .i64 Q] := by
    refine (hg.block s h.b.lt fun e => ?_).trans h.b
    rcases Az with _ | a
    · simp [Value.ownBlock] at e
    · simp [Value.ownBlock] at e
      exact h.dz a rfl e.symm
  have key : ∀ a, A2 = some a → (∃ b, Az = some b ∧ b.block = a.block) ∨ a.block = wr.heap.size := by
    intro a ea
    subst ea
    rcases hat with e | e
    · rcases Az with _ | b
      · simp [Value.ownBlock] at e
      · simp [Value.ownBlock] at e
        exact .inl ⟨b, rfl, e.symm⟩
    · simp [Value.ownBlock] at e
      exact .inr e
  have hdz : NotAt s A2 := fun a ea => by
    rcases key a ea with ⟨b, hb1, hb2⟩ | e
    · rw [← hb2]; exact h.dz b hb1
    · rw [e]; have := h.b.lt; omega
  have haz : Apart As A2 := fun a b ha hb3 => by
    rcases key b hb3 with ⟨c, hc1, hc2⟩ | e
    · rw [← hc2]; exact h.az a c ha hc1
    · rw [e]; exact (h.o.s.notAt (Nat.le_refl _)) a ha
  have hiz : Apart Ai A2 := fun a b ha hb3 => by
    rcases key b hb3 with ⟨c, hc1, hc2⟩ | e
    · rw [← hc2]; exact h.iz a c ha hc1
    · rw [e]; exact (h.o.i.notAt (Nat.le_refl _)) a ha
  have hsk : Own w' (w.heap.size + 1) 76 4 As ns cs (fl c4 ls) := h.o.s.kept hg (by
    rcases As with _ | a
    · exact .inl rfl
    · right
      intro e
      rcases Az with _ | b
      · simp [Value.ownBlock] at e
      · simp [Value.ownBlock] at e
        exact h.az a b rfl rfl e)
  have hik : Own w' (w.heap.size + 1) 102 3 Ai ni ci (fl c3 li) := h.o.i.kept hg (by
    rcases Ai with _ | a
    · exact .inl rfl
    · right
      intro e
      rcases Az with _ | b
      · simp [Value.ownBlock] at e
      · simp [Value.ownBlock] at e
        exact h.iz a b rfl rfl e)
  refine ⟨lz ++ [x], (h.dr.grown (h.o.z.fewer (by omega)) hg).set_ (by simp; omega) _, (h.r.grown h.o.z hg (by omega)).far (by simp; omega) _, by simpa using hb.set_ 8 (.slice A2 (nz + 1) c2), ⟨hsk.ne_ h.ds _, hik.ne_ h.di _, ?_⟩, h.ds, h.di, hdz, h.ks, h.ki, h.lt, h.ai, haz, hiz⟩
  have := ho.ne_ (a := ⟨s, 8, none⟩) hdz (.slice A2 (nz + 1) c2)
  rw [fl_app]
  simpa [fl] using this
theorem StA.fin {w : World} {p : Nat} {A : Option Addr} {cap : Nat} {xs : List Value} {s : Nat} {P R X V U D Q : Int} {ns ni nz : Nat} {ls : List Sat4} {li lz : List Tri} {As : Option Addr} {cs : Nat} {Ai : Option Addr} {ci : Nat} {Az : Option Addr} {cz : Nat} {wr : World} (h : StA w p A cap xs s P R X V U D Q ns ni nz ls li lz As cs Ai ci Az cz wr) : Blk ((((((((((wr.setCell ⟨w.heap.size, 0, none⟩ (.int .i64 P)).setCell ⟨w.heap.size, 1, none⟩ (.slice As ns cs)).setCell ⟨w.heap.size, 2, none⟩ (.slice Ai ni ci)).setCell ⟨w.heap.size, 3, none⟩ (.int .i64 R)).setCell ⟨w.heap.size, 4, none⟩ (.int .i64 X)).setCell ⟨w.heap.size, 5, none⟩ (.int .i64 V)).setCell ⟨w.heap.size, 6, none⟩ (.int .i64 U)).setCell ⟨w.heap.size, 7, none⟩ (.int .i64 D)).setCell ⟨w.heap.size, 8, none⟩ (.slice Az nz cz)).setCell ⟨w.heap.size, 9, none⟩ (.int .i64 Q)) w.heap.size 28 #[.int .i64 P, .slice As ns cs, .slice Ai ni ci, .int .i64 R, .int .i64 X, .int .i64 V, .int .i64 U, .int .i64 D, .slice Az nz cz, .int .i64 Q] ∧ Dr w p A cap xs ((((((((((wr.setCell ⟨w.heap.size, 0, none⟩ (.int .i64 P)).setCell ⟨w.heap.size, 1, none⟩ (.slice As ns cs)).setCell ⟨w.heap.size, 2, none⟩ (.slice Ai ni ci)).setCell ⟨w.heap.size, 3, none⟩ (.int .i64 R)).setCell ⟨w.heap.size, 4, none⟩ (.int .i64 X)).setCell ⟨w.heap.size, 5, none⟩ (.int .i64 V)).setCell ⟨w.heap.size, 6, none⟩ (.int .i64 U)).setCell ⟨w.heap.size, 7, none⟩ (.int .i64 D)).setCell ⟨w.heap.size, 8, none⟩ (.slice Az nz cz)).setCell ⟨w.heap.size, 9, none⟩ (.int .i64 Q)) ∧ OwnSky ((((((((((wr.setCell ⟨w.heap.size, 0, none⟩ (.int .i64 P)).setCell ⟨w.heap.size, 1, none⟩ (.slice As ns cs)).setCell ⟨w.heap.size, 2, none⟩ (.slice Ai ni ci)).setCell ⟨w.heap.size, 3, none⟩ (.int .i64 R)).setCell ⟨w.heap.size, 4, none⟩ (.int .i64 X)).setCell ⟨w.heap.size, 5, none⟩ (.int .i64 V)).setCell ⟨w.heap.size, 6, none⟩ (.int .i64 U)).setCell ⟨w.heap.size, 7, none⟩ (.int .i64 D)).setCell ⟨w.heap.size, 8, none⟩ (.slice Az nz cz)).setCell ⟨w.heap.size, 9, none⟩ (.int .i64 Q)) (w.heap.size + 1) As ns cs Ai ni ci Az nz cz ls li lz := by
  have h2 := h.lt
  exact ⟨by simpa using ((((((((((h.r.set_ 0 (.int .i64 P)).set_ 1 (.slice As ns cs)).set_ 2 (.slice Ai ni ci)).set_ 3 (.int .i64 R)).set_ 4 (.int .i64 X)).set_ 5 (.int .i64 V)).set_ 6 (.int .i64 U)).set_ 7 (.int .i64 D)).set_ 8 (.slice Az nz cz)).set_ 9 (.int .i64 Q)), ((((((((((h.dr.set_ (a := ⟨w.heap.size, 0, none⟩) (by simp) (.int .i64 P)).set_ (a := ⟨w.heap.size, 1, none⟩) (by simp) (.slice As ns cs)).set_ (a := ⟨w.heap.size, 2, none⟩) (by simp) (.slice Ai ni ci)).set_ (a := ⟨w.heap.size, 3, none⟩) (by simp) (.int .i64 R)).set_ (a := ⟨w.heap.size, 4, none⟩) (by simp) (.int .i64 X)).set_ (a := ⟨w.heap.size, 5, none⟩) (by simp) (.int .i64 V)).set_ (a := ⟨w.heap.size, 6, none⟩) (by simp) (.int .i64 U)).set_ (a := ⟨w.heap.size, 7, none⟩) (by simp) (.int .i64 D)).set_ (a := ⟨w.heap.size, 8, none⟩) (by simp) (.slice Az nz cz)).set_ (a := ⟨w.heap.size, 9, none⟩) (by simp) (.int .i64 Q)), ((((((((((h.o.far (a := ⟨w.heap.size, 0, none⟩) (by simp) (.int .i64 P)).far (a := ⟨w.heap.size, 1, none⟩) (by simp) (.slice As ns cs)).far (a := ⟨w.heap.size, 2, none⟩) (by simp) (.slice Ai ni ci)).far (a := ⟨w.heap.size, 3, none⟩) (by simp) (.int .i64 R)).far (a := ⟨w.heap.size, 4, none⟩) (by simp) (.int .i64 X)).far (a := ⟨w.heap.size, 5, none⟩) (by simp) (.int .i64 V)).far (a := ⟨w.heap.size, 6, none⟩) (by simp) (.int .i64 U)).far (a := ⟨w.heap.size, 7, none⟩) (by simp) (.int .i64 D)).far (a := ⟨w.heap.size, 8, none⟩) (by simp) (.slice Az nz cz)).far (a := ⟨w.heap.size, 9, none⟩) (by simp) (.int .i64 Q))⟩
theorem StA.cells {w : World} {p : Nat} {A : Option Addr} {cap : Nat} {xs : List Value} {s : Nat} {P R X V U D Q : Int} {ns ni nz : Nat} {ls : List Sat4} {li lz : List Tri} {As : Option Addr} {cs : Nat} {Ai : Option Addr} {ci : Nat} {Az : Option Addr} {cz : Nat} {wr : World} (h : StA w p A cap xs s P R X V U D Q ns ni nz ls li lz As cs Ai ci Az cz wr) : (wr.cell? ⟨s, 0, none⟩ = some (.int .i64 P) ∧ wr.cell? ⟨s, 1, none⟩ = some (.slice As ns cs) ∧ wr.cell? ⟨s, 2, none⟩ = some (.slice Ai ni ci) ∧ wr.cell? ⟨s, 3, none⟩ = some (.int .i64 R) ∧ wr.cell? ⟨s, 4, none⟩ = some (.int .i64 X) ∧ wr.cell? ⟨s, 5, none⟩ = some (.int .i64 V) ∧ wr.cell? ⟨s, 6, none⟩ = some (.int .i64 U) ∧ wr.cell? ⟨s, 7, none⟩ = some (.int .i64 D) ∧ wr.cell? ⟨s, 8, none⟩ = some (.slice Az nz cz) ∧ wr.cell? ⟨s, 9, none⟩ = some (.int .i64 Q)) ∧ (wr.cell? ⟨w.heap.size, 0, none⟩ = some (.int .i64 0) ∧ wr.cell? ⟨w.heap.size, 1, none⟩ = some (.slice none 0 0) ∧ wr.cell? ⟨w.heap.size, 2, none⟩ = some (.slice none 0 0) ∧ wr.cell? ⟨w.heap.size, 3, none⟩ = some (.int .i64 0) ∧ wr.cell? ⟨w.heap.size, 4, none⟩ = some (.int .i64 0) ∧
    wr.cell? ⟨w.heap.size, 5, none⟩ = some (.int .i64 0) ∧ wr.cell? ⟨w.heap.size, 6, none⟩ = some (.int .i64 0) ∧ wr.cell? ⟨w.heap.size, 7, none⟩ = some (.int .i64 0) ∧ wr.cell? ⟨w.heap.size, 8, none⟩ = some (.slice none 0 0) ∧ wr.cell? ⟨w.heap.size, 9, none⟩ = some (.int .i64 0)) ∧
    (wr.frozen? ⟨w.heap.size, 0, none⟩ = false ∧ wr.frozen? ⟨w.heap.size, 1, none⟩ = false ∧ wr.frozen? ⟨w.heap.size, 2, none⟩ = false ∧ wr.frozen? ⟨w.heap.size, 3, none⟩ = false ∧ wr.frozen? ⟨w.heap.size, 4, none⟩ = false ∧ wr.frozen? ⟨w.heap.size, 5, none⟩ = false ∧ wr.frozen? ⟨w.heap.size, 6, none⟩ = false ∧ wr.frozen? ⟨w.heap.size, 7, none⟩ = false ∧ wr.frozen? ⟨w.heap.size, 8, none⟩ = false ∧ wr.frozen? ⟨w.heap.size, 9, none⟩ = false) :=
  ⟨⟨h.b.cell 0, h.b.cell 1, h.b.cell 2, h.b.cell 3, h.b.cell 4, h.b.cell 5, h.b.cell 6, h.b.cell 7, h.b.cell 8, h.b.cell 9⟩,
    ⟨h.r.cell 0, h.r.cell 1, h.r.cell 2, h.r.cell 3, h.r.cell 4, h.r.cell 5, h.r.cell 6, h.r.cell 7, h.r.cell 8, h.r.cell 9⟩, h.r.frozen 0, h.r.frozen 1, h.r.frozen 2, h.r.frozen 3, h.r.frozen 4, h.r.frozen 5, h.r.frozen 6, h.r.frozen 7, h.r.frozen 8, h.r.frozen 9⟩
/-- what l7Any answers -/
def GotAny (w : World) (p : Nat) (A : Option Addr) (cap : Nat) (xs : List Value) (e : Ending) (w' : World) : Prop :=
  (∃ (P R X V U D Q : Int) (ns ni nz : Nat) (ls : List Sat4) (li lz : List Tri) (As : Option Addr) (cs : Nat) (Ai : Option Addr) (ci : Nat) (Az : Option Addr) (cz : Nat),
    e = .returned (.agg #[.int .i64 P, .slice As ns cs, .slice Ai ni ci, .int .i64 R, .int .i64 X, .int .i64 V, .int .i64 U, .int .i64 D, .slice Az nz cz, .int .i64 Q]) ∧ OwnSky w' w.heap.size As ns cs Ai ni ci Az nz cz ls li lz ∧ (ns ≤ 6 ∧ ni = 2 ∧ nz ≤ 2) ∧ (J64 P ∧ J64 R ∧ J64 X ∧ J64 V ∧ J64 U ∧ J64 D ∧ J64 Q) ∧ (∀ x ∈ ls, Oke x) ∧ (∀ x ∈ li, Ok3 x)) ∧ Cur w' p A cap xs ∧ Turn p w w'
end Go.Proofs.YtpaedbmdcbmpiaaDoor
