/- An argument that is a table (a number and two lists of integers): opened. The laws' helpers on tables: copies, comparison, marks, sizes. -/
import Derived.Test.YtjobjjmeneddnaaShell
import Derived.Test.YtjobjjmeneddnaaSky
import Derived.Test.YtjobjjmeneddnaaCopies
import Derived.Test.YtjobjjmeneddnaaSpan
import Derived.Test.YtjobjjmeneddnaaExact
import Derived.Test.YtjobjjmeneddnaaApart
import Derived.Deep.Cut
import Derived.Deep.DeepCutAuto
import Derived.Deep.CutRange
namespace Go.Proofs.Ytjobjjmeneddnaa
open Go.ChangeShapes Go.WideShapes Go.ChangeAt Go.RowKit Go.Joins Go.Deep
set_option linter.unusedVariables false
/-- a table's two lists, as slices below block B -/
structure InTab (w : World) (B : Nat) (Ad : Option Addr) (nd cd : Nat) (An : Option Addr) (nn cn : Nat) (ld ln : List Int) : Prop where
  d : Sl w B 1 Ad nd cd (iv ld)
  n : Sl w B 1 An nn cn (iv ln)
/-- every number of a table is an integer of 64 bits -/
structure OkTab (S : Int) (ld ln : List Int) : Prop where
  s : J64 S
  d : ∀ z ∈ ld, J64 z
  n : ∀ z ∈ ln, J64 z
theorem fl_ints (l : List Int) : fl (fun z : Int => [Value.int .i64 z]) l = iv l := by
  unfold fl iv
  induction l with
  | nil => rfl
  | cons x l ih => rw [List.flatMap_cons, ih]; rfl
section
variable {H : Type} {enc : TypeId × Value → H} {w : World} {base : Nat}
set_option maxRecDepth 100000 in
theorem open_table {v : Value} {d : DataW H} {ps : List MemPlace} (ho : Value.okWide Try.prog w .any base 47 v) (h : DataW.Trod enc Try.prog w 0 (fun _ => true) true 47 v d ps) :
    ∃ (S : Int) (Ad : Option Addr) (nd cd : Nat) (An : Option Addr) (nn cn : Nat) (ld ln : List Int), v = .agg #[.int .i64 S, .slice Ad nd cd, .slice An nn cn] ∧ InTab w w.heap.size Ad nd cd An nn cn ld ln ∧ OkTab S ld ln := by
  obtain ⟨cs, rfl, hsz⟩ := okWide_struct Try.underlying47 ho
  rw [show Try.prog.cellsOf 47 = 3 by kernel_rfl] at hsz
  obtain ⟨l, rfl⟩ : ∃ l, cs = List.toArray l := ⟨cs.toList, rfl⟩
  obtain ⟨fuel, hf⟩ := h
  obtain ⟨xs, n, _, _, _, hlen, hf⟩ := DataW.trod_struct Try.underlying47 hf
  match l, hsz, xs, hlen with
  | [v0, v1, v2], _, [y0, y1, y2], _ =>
    have g0 : DataW.trod enc Try.prog w 0 (fun _ => true) true n 3 [v0] = some y0 := by
      have h := hf 0 _ rfl
      rw [show Try.prog.cellsOf (Field.type _) = 1 by kernel_rfl] at h
      exact h
    have g1 : DataW.trod enc Try.prog w 0 (fun _ => true) true n 27 [v1] = some y1 := by
      have h := hf 1 _ rfl
      rw [show Try.prog.cellsOf (Field.type _) = 1 by kernel_rfl] at h
      exact h
    have g2 : DataW.trod enc Try.prog w 0 (fun _ => true) true n 27 [v2] = some y2 := by
      have h := hf 2 _ rfl
      rw [show Try.prog.cellsOf (Field.type _) = 1 by kernel_rfl] at h
      exact h
    obtain ⟨S, e0, _, w0⟩ := DataW.trod_int Try.underlying3 g0
    have el : ∀ n cs y, DataW.trod enc Try.prog w 0 (fun _ => true) true n 3 cs = some y → ∃ x : Int, cs = [Value.int .i64 x] ∧ J64 x := fun n cs y h => by
      obtain ⟨x, e, _, wx⟩ := DataW.trod_int Try.underlying3 h
      exact ⟨x, e, wf_j64 wx⟩
    obtain ⟨Ad, ld, cd, hd, od, sd⟩ := open_rows (s := 1) (fun z : Int => [Value.int .i64 z]) (fun _ => rfl) J64 Try.underlying27 (by kernel_rfl) (by omega) el g1
    obtain ⟨An, ln, cn, hn, on, sn⟩ := open_rows (s := 1) (fun z : Int => [Value.int .i64 z]) (fun _ => rfl) J64 Try.underlying27 (by kernel_rfl) (by omega) el g2
    rw [fl_ints] at sd sn
    refine ⟨S, Ad, _, cd, An, _, cn, ld, ln, ?_, ⟨sd, sn⟩, ⟨wf_j64 w0, od, on⟩⟩
    simp only [List.cons.injEq, and_true] at e0
    rw [e0, hd, hn]
end
end Go.Proofs.Ytjobjjmeneddnaa
namespace Go.Proofs.Ytjobjjmeneddnaa
open Go.ChangeShapes Go.WideShapes Go.ChangeAt Go.RowKit
set_option linter.unusedVariables false
/-- the two lists of a table of one's own: two rows apart -/
structure OwnTab (w : World) (B : Nat) (Ad : Option Addr) (nd cd : Nat) (An : Option Addr) (nn cn : Nat) (xs ys : List Value) : Prop where
  d : Own w B 3 1 Ad nd cd xs
  n : Own w B 3 1 An nn cn ys
  ap : (Value.slice Ad nd cd).ownBlock = none ∨ (Value.slice Ad nd cd).ownBlock ≠ (Value.slice An nn cn).ownBlock
  ap' : (Value.slice An nn cn).ownBlock = none ∨ (Value.slice An nn cn).ownBlock ≠ (Value.slice Ad nd cd).ownBlock
section
variable {w w' : World} {B B' nd cd nn cn : Nat} {Ad An : Option Addr} {xs ys : List Value}
theorem OwnTab.on (h : OwnTab w B Ad nd cd An nn cn xs ys) (hb : Below w.heap.size w w') : OwnTab w' B Ad nd cd An nn cn xs ys := ⟨h.d.on hb, h.n.on hb, h.ap, h.ap'⟩
theorem OwnTab.fewer (h : OwnTab w B Ad nd cd An nn cn xs ys) (hB : B' ≤ B) : OwnTab w B' Ad nd cd An nn cn xs ys := ⟨h.d.fewer hB, h.n.fewer hB, h.ap, h.ap'⟩
theorem OwnTab.sl {ld ln : List Int} (h : OwnTab w B Ad nd cd An nn cn (iv ld) (iv ln)) : InTab w w.heap.size Ad nd cd An nn cn ld ln := ⟨h.d.sl, h.n.sl⟩
theorem InTab.below {B' : Nat} {ld ln : List Int} (h : InTab w B Ad nd cd An nn cn ld ln) (hb : Below B' w w') (hB : B ≤ B') : InTab w' B Ad nd cd An nn cn ld ln := ⟨h.d.below hb hB, h.n.below hb hB⟩
end
theorem Blk.three {w : World} {g : Nat} {T : TypeId} {a b c : Value} (h : Blk w g T #[a, b, c]) : w.cell? ⟨g, 0, none⟩ = some a ∧ w.cell? ⟨g, 1, none⟩ = some b ∧ w.cell? ⟨g, 2, none⟩ = some c := ⟨h.cell 0, h.cell 1, h.cell 2⟩
/-- a block of three cells that is stored anew -/
theorem three_out {w : World} {g : Nat} {T : TypeId} {a b c : Value} (h : Blk w g T #[a, b, c]) (x y z : Value) :
    (w.cell? ⟨g, 0, none⟩ = some a ∧ w.frozen? ⟨g, 0, none⟩ = false) ∧ ((w.setCell ⟨g, 0, none⟩ x).cell? ⟨g, 1, none⟩ = some b ∧ (w.setCell ⟨g, 0, none⟩ x).frozen? ⟨g, 1, none⟩ = false) ∧
    (((w.setCell ⟨g, 0, none⟩ x).setCell ⟨g, 1, none⟩ y).cell? ⟨g, 2, none⟩ = some c ∧ ((w.setCell ⟨g, 0, none⟩ x).setCell ⟨g, 1, none⟩ y).frozen? ⟨g, 2, none⟩ = false) ∧
    Blk (((w.setCell ⟨g, 0, none⟩ x).setCell ⟨g, 1, none⟩ y).setCell ⟨g, 2, none⟩ z) g T #[x, y, z] :=
  ⟨⟨h.cell 0, h.frozen 0⟩, ⟨(h.set_ 0 _).cell 1, (h.set_ 0 _).frozen 1⟩, ⟨((h.set_ 0 _).set_ 1 _).cell 2, ((h.set_ 0 _).set_ 1 _).frozen 2⟩, ((h.set_ 0 x).set_ 1 y).set_ 2 z⟩
set_option maxRecDepth 100000 in
set_option maxHeartbeats 1000000 in
theorem totable (w : World) (D : Nat) (S : Int) (Ad : Option Addr) (nd cd : Nat) (An : Option Addr) (nn cn : Nat) (ld ln : List Int) (h : InTab w D Ad nd cd An nn cn ld ln) (hD : D ≤ w.heap.size) (hn1 : nd ≤ 16777216) (hn2 : nn ≤ 16777216) (hk : OkTab S ld ln) :
    Calls Try.prog 31 #[.agg #[.int .i64 S, .slice Ad nd cd, .slice An nn cn]] w fun e w' => (∃ Ad' cd' An' cn', e = .returned (.agg #[.int .i64 S, .slice Ad' nd cd', .slice An' nn cn']) ∧ OwnTab w' w.heap.size Ad' nd cd' An' nn cn' (iv ld) (iv ln)) ∧ Below w.heap.size w w' := by
  obtain ⟨W1, hW1⟩ : ∃ W, W = w.alloc (.cells #[.int .i64 S, .slice Ad nd cd, .slice An nn cn] 47) := ⟨_, rfl⟩
  obtain ⟨W2, hW2⟩ : ∃ W, W = W1.alloc (.cells #[.int .i64 0, .slice none 0 0, .slice none 0 0] 29) := ⟨_, rfl⟩
  obtain ⟨W3, hW3⟩ : ∃ W, W = W2.alloc (.cells #[.int .i64 0, .slice none 0 0, .slice none 0 0] 29) := ⟨_, rfl⟩
  have s1 : W1.heap.size = w.heap.size + 1 := by rw [hW1]; simp
  have s2 : W2.heap.size = w.heap.size + 2 := by rw [hW2]; simp [s1]
  have s3 : W3.heap.size = w.heap.size + 3 := by rw [hW3]; simp [s2]
  obtain ⟨g1, hg1⟩ : ∃ g, g = w.heap.size := ⟨_, rfl⟩
  obtain ⟨g2, hg2⟩ : ∃ g, g = w.heap.size + 1 := ⟨_, rfl⟩
  obtain ⟨g3, hg3⟩ : ∃ g, g = w.heap.size + 1 + 1 := ⟨_, rfl⟩
  have Z1 : Blk W1 g1 47 #[.int .i64 S, .slice Ad nd cd, .slice An nn cn] := by rw [hW1, hg1]; exact Blk.new _ _ _
  have Z2 : Blk W2 g2 29 #[.int .i64 0, .slice none 0 0, .slice none 0 0] := by
    have h := Blk.new W1 29 #[.int .i64 0, .slice none 0 0, .slice none 0 0]
    rw [s1, ← hg2, ← hW2] at h; exact h
  have Z3 : Blk W3 g3 29 #[.int .i64 0, .slice none 0 0, .slice none 0 0] := by
    have h := Blk.new W2 29 #[.int .i64 0, .slice none 0 0, .slice none 0 0]
    rw [s2, show w.heap.size + 2 = w.heap.size + 1 + 1 by omega, ← hg3, ← hW3] at h; exact h
  have B3 : Below w.heap.size w W3 := by
    rw [hW3, hW2, hW1]
    exact (((Below.refl _ _).alloc (Nat.le_refl _) _).alloc (by simp) _).alloc (by simp; omega) _
  have Y1 := Lib.hid ((Z1.alloc (.cells #[.int .i64 0, .slice none 0 0, .slice none 0 0] 29)).alloc (.cells #[.int .i64 0, .slice none 0 0, .slice none 0 0] 29))
  have Y2 := Lib.hid (Z2.alloc (.cells #[.int .i64 0, .slice none 0 0, .slice none 0 0] 29))
  rw [← hW2, ← hW3] at Y1; rw [← hW3] at Y2
  have Y3 := Lib.hid Z3
  have HW : Hid ((((w.alloc (.cells #[.int .i64 S, .slice Ad nd cd, .slice An nn cn] 47)).alloc (.cells #[.int .i64 0, .slice none 0 0, .slice none 0 0] 29)).alloc (.cells #[.int .i64 0, .slice none 0 0, .slice none 0 0] 29)) = W3) := Lib.hid (by rw [hW3, hW2, hW1])
  have HG : Hid (g1 = w.heap.size ∧ g2 = w.heap.size + 1 ∧ g3 = w.heap.size + 1 + 1 ∧ W3.heap.size = w.heap.size + 3) := Lib.hid ⟨hg1, hg2, hg3, s3⟩
  have HB3 := Lib.hid B3; have HH := Lib.hid h; have HK := Lib.hid hk
  have h12 : g1 ≠ g2 := by omega
  have h13 : g1 ≠ g3 := by omega
  have h23 : g2 ≠ g3 := by omega
  have H12 := Lib.hid h12; have H13 := Lib.hid h13; have H23 := Lib.hid h23
  clear h hk Z1 Z2 Z3 B3 hW1 hW2 hW3 s1 s2 s3 hg1 hg2 hg3 h12 h13 h23
  have c10 : W3.cell? ⟨g1, 0, none⟩ = some (.int .i64 S) := Y1.out.cell 0
  have c30 : W3.cell? ⟨g3, 0, none⟩ = some (.int .i64 0) := Y3.out.cell 0
  have f30 := Y3.out.frozen 0
  go_enter Try.func31, Try.ntmps31
  go_upto_region 2 with fail
  rw [HW.out, ← HG.out.2.2.1, ← HG.out.2.1, ← HG.out.1]
  obtain ⟨W4, hW4⟩ : ∃ W, W = W3.setCell ⟨g3, 0, none⟩ (.int .i64 S) := ⟨_, rfl⟩
  have HGB : Hid (w.heap.size ≤ g3 ∧ w.heap.size ≤ g2 ∧ g3 < W4.heap.size) := Lib.hid (by have := HG.out; rw [hW4]; simp; omega)
  have hb4 : Below w.heap.size w (W3.setCell ⟨g3, 0, none⟩ (.int .i64 S)) := HB3.out.setCell HGB.out.1 _
  have V1 := Lib.hid (Y1.out.far (p := ⟨g3, 0, none⟩) H13.out (.int .i64 S)); have V2 := Lib.hid (Y2.out.far (p := ⟨g3, 0, none⟩) H23.out (.int .i64 S)); have V3 := Lib.hid (Y3.out.set_ 0 (.int .i64 S))
  rw [← hW4] at V1 V2 V3 hb4
  have HB4 := Lib.hid hb4
  have hs4 : w.heap.size ≤ W4.heap.size := hb4.size
  clear Y1 Y2 Y3 HW hb4
  go_upto_region 3 with fail
  rw [← hW4]
  clear hW4 c10 c30 f30
  have c11 : W4.cell? ⟨g1, 1, none⟩ = some (.slice Ad nd cd) := V1.out.cell 1
  go_wp2_with fail
  refine (toints W4 D Ad nd cd ld (HH.out.d.below HB4.out hD) (Nat.le_trans hD hs4) hn1 HK.out.d).mono ?_
  rintro e w5 ⟨⟨Ad', cd', rfl, o5⟩, b5⟩
  have X1 := Lib.hid (V1.out.below b5 V1.out.lt); have X2 := Lib.hid (V2.out.below b5 V2.out.lt); have X3 := Lib.hid (V3.out.below b5 V3.out.lt)
  have hb5 := HB4.out.trans (b5.mono hs4)
  obtain ⟨W6, hW6⟩ : ∃ W, W = w5.setCell ⟨g3, 1, none⟩ (.slice Ad' nd cd') := ⟨_, rfl⟩
  have hb6 : Below w.heap.size w (w5.setCell ⟨g3, 1, none⟩ (.slice Ad' nd cd')) := hb5.setCell HGB.out.1 _
  have no3 : NotAt g3 Ad' := o5.low HGB.out.2.2
  have ho6 := o5.ne_ (a := ⟨g3, 1, none⟩) no3 (.slice Ad' nd cd')
  have U1 := Lib.hid (X1.out.far (p := ⟨g3, 1, none⟩) H13.out (.slice Ad' nd cd')); have U2 := Lib.hid (X2.out.far (p := ⟨g3, 1, none⟩) H23.out (.slice Ad' nd cd')); have U3 := Lib.hid (X3.out.set_ 1 (.slice Ad' nd cd'))
  have c31 : w5.cell? ⟨g3, 1, none⟩ = some (.slice none 0 0) := X3.out.cell 1
  have f31 := X3.out.frozen 1
  rw [← hW6] at U1 U2 U3 hb6 ho6
  have HB6 := Lib.hid hb6; have HO6 := Lib.hid ho6; have NO3 := Lib.hid no3
  have NO2 : Hid (NotAt g2 Ad') := Lib.hid (o5.low (by have := HG.out; have := HGB.out; omega))
  have hs6 : w.heap.size ≤ W6.heap.size := hb6.size
  have HG6 : Hid (g3 < W6.heap.size ∧ g2 < W6.heap.size) := Lib.hid ⟨U3.out.lt, U2.out.lt⟩
  clear V1 V2 V3 X1 X2 X3 hb5 hb6 ho6 no3 o5 b5 c11
  go_upto_region 4 with fail
  rw [← hW6]
  clear hW6 c31 f31
  have c12 : W6.cell? ⟨g1, 2, none⟩ = some (.slice An nn cn) := U1.out.cell 2
  go_wp2_with fail
  refine (toints W6 D An nn cn ln (HH.out.n.below HB6.out hD) (Nat.le_trans hD hs6) hn2 HK.out.n).mono ?_
  rintro e w7 ⟨⟨An', cn', rfl, o7⟩, b7⟩
  have X2 := Lib.hid (U2.out.below b7 U2.out.lt); have X3 := Lib.hid (U3.out.below b7 U3.out.lt)
  have hb7 := HB6.out.trans (b7.mono hs6)
  have hap := HO6.out.apart o7 (Nat.le_refl _); have hap' := HO6.out.apart' o7 (Nat.le_refl _)
  have ho7 := HO6.out.on b7
  obtain ⟨W8, hW8⟩ : ∃ W, W = w7.setCell ⟨g3, 2, none⟩ (.slice An' nn cn') := ⟨_, rfl⟩
  have hb8 : Below w.heap.size w (w7.setCell ⟨g3, 2, none⟩ (.slice An' nn cn')) := hb7.setCell HGB.out.1 _
  have no3 : NotAt g3 An' := o7.low HG6.out.1
  have no2 : NotAt g2 An' := o7.low HG6.out.2
  have ho8 := ho7.ne_ (a := ⟨g3, 2, none⟩) NO3.out (.slice An' nn cn')
  have hp8 := o7.ne_ (a := ⟨g3, 2, none⟩) no3 (.slice An' nn cn')
  have U2 := Lib.hid (X2.out.far (p := ⟨g3, 2, none⟩) H23.out (.slice An' nn cn')); have U3 := Lib.hid (X3.out.set_ 2 (.slice An' nn cn'))
  have c32 : w7.cell? ⟨g3, 2, none⟩ = some (.slice none 0 0) := X3.out.cell 2
  have f32 := X3.out.frozen 2
  rw [← hW8] at U2 U3 hb8 ho8 hp8
  obtain ⟨⟨e0, m0⟩, ⟨e1, m1⟩, ⟨e2, m2⟩, k⟩ := three_out U2.out (.int .i64 S) (.slice Ad' nd cd') (.slice An' nn cn')
  have n0 := k.cell 0; have n1 := k.cell 1; have n2 := k.cell 2
  have y0 : W8.cell? ⟨g3, 0, none⟩ = some (.int .i64 S) := U3.out.cell 0
  have y1 : W8.cell? ⟨g3, 1, none⟩ = some (.slice Ad' nd cd') := U3.out.cell 1
  have y2 : W8.cell? ⟨g3, 2, none⟩ = some (.slice An' nn cn') := U3.out.cell 2
  have HR : Hid (OwnTab (((W8.setCell ⟨g2, 0, none⟩ (.int .i64 S)).setCell ⟨g2, 1, none⟩ (.slice Ad' nd cd')).setCell ⟨g2, 2, none⟩ (.slice An' nn cn')) w.heap.size Ad' nd cd' An' nn cn' (iv ld) (iv ln) ∧ Below w.heap.size w (((W8.setCell ⟨g2, 0, none⟩ (.int .i64 S)).setCell ⟨g2, 1, none⟩ (.slice Ad' nd cd')).setCell ⟨g2, 2, none⟩ (.slice An' nn cn'))) := Lib.hid ⟨⟨(((ho8.ne_ (a := ⟨g2, 0, none⟩) NO2.out _).ne_ (a := ⟨g2, 1, none⟩) NO2.out _).ne_ (a := ⟨g2, 2, none⟩) NO2.out _).fewer hs4, (((hp8.ne_ (a := ⟨g2, 0, none⟩) no2 _).ne_ (a := ⟨g2, 1, none⟩) no2 _).ne_ (a := ⟨g2, 2, none⟩) no2 _).fewer hs6, hap, hap'⟩, ((hb8.setCell HGB.out.2.1 _).setCell HGB.out.2.1 _).setCell HGB.out.2.1 _⟩
  clear U1 U2 U3 X2 X3 hb7 hb8 ho7 ho8 hp8 no3 no2 hap hap' o7 b7 c12 k
  go_upto_region 5 with fail
  rw [← hW8]
  clear hW8 c32 f32
  go_wp2
  (try simp only [Exit.inBlock, Exit.then])
  refine bodyPost_ret (v := .agg #[.int .i64 S, .slice Ad' nd cd', .slice An' nn cn']) (by simp [results, Try.results31, go_sem, n2, n1, n0]; try rfl) rfl ?_
  exact ⟨⟨Ad', cd', An', cn', rfl, HR.out.1⟩, HR.out.2⟩
set_option maxRecDepth 100000 in
theorem eqtable (w : World) (D D' : Nat) (S : Int) (Ad : Option Addr) (nd cd : Nat) (An : Option Addr) (nn cn : Nat) (ld ln : List Int) (h : InTab w D Ad nd cd An nn cn ld ln) (hD : D ≤ w.heap.size)
    (S' : Int) (Ad' : Option Addr) (nd' cd' : Nat) (An' : Option Addr) (nn' cn' : Nat) (ld' ln' : List Int) (h' : InTab w D' Ad' nd' cd' An' nn' cn' ld' ln') (hD' : D' ≤ w.heap.size) (hS : S = S') (hd : ld = ld') (hn : ln = ln') (hk : OkTab S ld ln) :
    Calls Try.prog 24 #[.agg #[.int .i64 S, .slice Ad nd cd, .slice An nn cn], .agg #[.int .i64 S', .slice Ad' nd' cd', .slice An' nn' cn']] w (Says w true) := by
  subst hS hd hn
  obtain ⟨W2, hW2⟩ : ∃ W, W = (w.alloc (.cells #[.int .i64 S, .slice Ad nd cd, .slice An nn cn] 29)).alloc (.cells #[.int .i64 S, .slice Ad' nd' cd', .slice An' nn' cn'] 29) := ⟨_, rfl⟩
  obtain ⟨g2, hg2⟩ : ∃ g, g = w.heap.size + 1 := ⟨_, rfl⟩
  obtain ⟨g1, hg1⟩ : ∃ g, g = w.heap.size := ⟨_, rfl⟩
  have b2 : Below w.heap.size w W2 := by rw [hW2]; exact ((Below.refl _ _).alloc (Nat.le_refl _) _).alloc (by simp) _
  have Y1 : Hid (Blk W2 g1 29 #[.int .i64 S, .slice Ad nd cd, .slice An nn cn]) := Lib.hid (by rw [hW2, hg1]; exact (Blk.new _ _ _).alloc _)
  have Y2 : Hid (Blk W2 g2 29 #[.int .i64 S, .slice Ad' nd' cd', .slice An' nn' cn']) := Lib.hid (by
    have h := Blk.new (w.alloc (.cells #[.int .i64 S, .slice Ad nd cd, .slice An nn cn] 29)) 29 #[.int .i64 S, .slice Ad' nd' cd', .slice An' nn' cn']
    rw [World.size_alloc] at h
    rw [hW2, hg2]; exact h)
  have HB2 := Lib.hid b2; have H1 := Lib.hid (h.below b2 hD); have H2 := Lib.hid (h'.below b2 hD')
  have HKD : Hid (Kind .i64 (iv ld)) := Lib.hid (iv_kind _ hk.d); have HKN : Hid (Kind .i64 (iv ln)) := Lib.hid (iv_kind _ hk.n)
  have hs2 : w.heap.size ≤ W2.heap.size := b2.size
  have hD1 := Lib.hid (Nat.le_trans hD hs2); have hD2 := Lib.hid (Nat.le_trans hD' hs2)
  have q10 : W2.cell? ⟨g1, 0, none⟩ = some (.int .i64 S) := Y1.out.cell 0
  have q20 : W2.cell? ⟨g2, 0, none⟩ = some (.int .i64 S) := Y2.out.cell 0
  have q11 : W2.cell? ⟨g1, 1, none⟩ = some (.slice Ad nd cd) := Y1.out.cell 1
  have q21 : W2.cell? ⟨g2, 1, none⟩ = some (.slice Ad' nd' cd') := Y2.out.cell 1
  have HW2 := Lib.hid hW2; have HG := Lib.hid (And.intro hg1 hg2)
  clear h h' hk b2 hW2 hg1 hg2
  go_enter Try.func24, Try.ntmps24
  go_upto_region 1 with fail
  rw [← HW2.out, ← HG.out.2, ← HG.out.1]
  go_wp2_with fail
  refine (eqints W2 _ _ Ad Ad' nd nd' cd cd' _ (H1.out.d.more hD1.out) (H2.out.d.more hD2.out) HKD.out).mono ?_
  rintro e w3 ⟨rfl, b3⟩
  have B3 := Lib.hid (HB2.out.trans (b3.mono hs2))
  have q12 : w3.cell? ⟨g1, 2, none⟩ = some (.slice An nn cn) := (Y1.out.below b3 Y1.out.lt).cell 2
  have q22 : w3.cell? ⟨g2, 2, none⟩ = some (.slice An' nn' cn') := (Y2.out.below b3 Y2.out.lt).cell 2
  have H13 := Lib.hid (H1.out.below b3 hD1.out); have H23 := Lib.hid (H2.out.below b3 hD2.out)
  have hs3 : W2.heap.size ≤ w3.heap.size := b3.size
  clear b3 q10 q20 q11 q21
  go_wp2_with fail
  refine (eqints w3 _ _ An An' nn nn' cn cn' _ (H13.out.n.more (Nat.le_trans hD1.out hs3)) (H23.out.n.more (Nat.le_trans hD2.out hs3)) HKN.out).mono ?_
  rintro e w4 ⟨rfl, b4⟩
  have B4 := Lib.hid (B3.out.trans (b4.mono B3.out.size))
  clear b4
  go_wp2_with fail
  go_ret
  exact ⟨rfl, B4.out⟩
/-- two rows are turned, one behind the other -/
structure Turn2 (w w' : World) (r s : Option Nat) : Prop where
  m : ∃ u, w.grownBy u r ∧ u.grownBy w' s
set_option maxRecDepth 100000 in
theorem marktable (w : World) (B : Nat) (S : Int) (Ad : Option Addr) (nd cd : Nat) (An : Option Addr) (nn cn : Nat) (xs ys : List Value) (h : OwnTab w B Ad nd cd An nn cn xs ys) (a : Int) (ha0 : 0 ≤ a) (ha : a + nd + nn ≤ 1000000000000) :
    Calls Try.prog 27 #[.agg #[.int .i64 S, .slice Ad nd cd, .slice An nn cn], .int .i64 a] w fun e w' => e = .returned (.int .i64 (a + nd + nn)) ∧ OwnTab w' B Ad nd cd An nn cn (marks64 a nd) (marks64 (a + nd) nn) ∧ Turn2 w w' (Value.slice Ad nd cd).ownBlock (Value.slice An nn cn).ownBlock := by
  obtain ⟨W1, hW1⟩ : ∃ W, W = w.alloc (.cells #[.int .i64 S, .slice Ad nd cd, .slice An nn cn] 29) := ⟨_, rfl⟩
  obtain ⟨g, hg⟩ : ∃ g, g = w.heap.size := ⟨_, rfl⟩
  have b1 : Below w.heap.size w W1 := by rw [hW1]; exact (Below.refl _ _).alloc (Nat.le_refl _) _
  have Y1 : Hid (Blk W1 g 29 #[.int .i64 S, .slice Ad nd cd, .slice An nn cn]) := Lib.hid (by rw [hW1, hg]; exact Blk.new _ _ _)
  have NG : Hid (NotAt g Ad) := Lib.hid (h.d.notAt (by omega))
  have HH := Lib.hid (h.on b1); have HB1 := Lib.hid b1
  have q1 : W1.cell? ⟨g, 1, none⟩ = some (.slice Ad nd cd) := Y1.out.cell 1
  have HW1 := Lib.hid hW1; have HG := Lib.hid hg
  clear h b1 hW1 hg
  go_enter Try.func27, Try.ntmps27
  go_upto_region 1 with fail
  rw [← HW1.out, ← HG.out]
  go_wp2_with fail
  refine (markints W1 B Ad nd cd _ HH.out.d a ha0 (by omega)).mono ?_
  rintro e w2 ⟨rfl, o2, t2⟩
  have Y2 := Y1.out.grown' NG.out t2
  have q2 : w2.cell? ⟨g, 2, none⟩ = some (.slice An nn cn) := Y2.cell 2
  have HN2 := Lib.hid (HH.out.n.kept t2 HH.out.ap'); have HD2 := Lib.hid o2
  have HT : Hid (w.grownBy w2 (Value.slice Ad nd cd).ownBlock) := Lib.hid ((grown_of_below HB1.out _).trans t2)
  clear Y2 o2 t2 q1
  go_wp2_with fail
  refine (markints w2 B An nn cn _ HN2.out (a + nd) (by omega) (by omega)).mono ?_
  rintro e w3 ⟨rfl, o3, t3⟩
  have HR : Hid (OwnTab w3 B Ad nd cd An nn cn (marks64 a nd) (marks64 (a + nd) nn) ∧ Turn2 w w3 (Value.slice Ad nd cd).ownBlock (Value.slice An nn cn).ownBlock) := Lib.hid ⟨⟨HD2.out.kept t3 HH.out.ap, o3, HH.out.ap, HH.out.ap'⟩, ⟨w2, HT.out, t3⟩⟩
  clear o3 t3
  go_wp2_with fail
  go_ret
  exact ⟨rfl, HR.out⟩
set_option maxRecDepth 100000 in
theorem heldtable (w : World) (D : Nat) (S : Int) (Ad : Option Addr) (nd cd : Nat) (An : Option Addr) (nn cn : Nat) (a : Int) (h1 : Sl w D 1 Ad nd cd (marks64 a nd)) (h2 : Sl w D 1 An nn cn (marks64 (a + nd) nn)) (hD : D ≤ w.heap.size) (ha0 : 0 ≤ a) (ha : a + nd + nn ≤ 1000000000000) :
    Calls Try.prog 28 #[.agg #[.int .i64 S, .slice Ad nd cd, .slice An nn cn], .int .i64 a] w fun e w' => e = .returned (.int .i64 (a + nd + nn)) ∧ Below w.heap.size w w' := by
  obtain ⟨W1, hW1⟩ : ∃ W, W = w.alloc (.cells #[.int .i64 S, .slice Ad nd cd, .slice An nn cn] 29) := ⟨_, rfl⟩
  obtain ⟨g, hg⟩ : ∃ g, g = w.heap.size := ⟨_, rfl⟩
  have b1 : Below w.heap.size w W1 := by rw [hW1]; exact (Below.refl _ _).alloc (Nat.le_refl _) _
  have Y1 : Hid (Blk W1 g 29 #[.int .i64 S, .slice Ad nd cd, .slice An nn cn]) := Lib.hid (by rw [hW1, hg]; exact Blk.new _ _ _)
  have HH1 := Lib.hid (h1.below b1 hD); have HH2 := Lib.hid (h2.below b1 hD); have HB1 := Lib.hid b1
  have q1 : W1.cell? ⟨g, 1, none⟩ = some (.slice Ad nd cd) := Y1.out.cell 1
  have q2 : W1.cell? ⟨g, 2, none⟩ = some (.slice An nn cn) := Y1.out.cell 2
  have HW1 := Lib.hid hW1; have HG := Lib.hid hg
  have n1 : ¬ (a + (nd : Int) < 0) := by omega
  have n2 : ¬ (a + (nd : Int) + (nn : Int) < 0) := by omega
  clear h1 h2 b1 hW1 hg
  go_enter Try.func28, Try.ntmps28
  go_upto_region 1 with fail
  rw [← HW1.out, ← HG.out]
  go_wp2_with fail
  refine (heldints W1 D Ad nd cd a HH1.out ha0 (by omega)).mono ?_
  rintro e w2 ⟨rfl, rfl⟩
  go_wp2_with fail
  refine (heldints _ D An nn cn (a + nd) HH2.out (by omega) (by omega)).mono ?_
  rintro e w3 ⟨rfl, rfl⟩
  go_wp2_with fail
  go_ret
  exact ⟨rfl, HB1.out⟩
theorem szints (w : World) (A : Option Addr) (n c : Nat) (z : Int) (hz0 : 0 ≤ z) (hz : z ≤ 1048576) (hn : n ≤ 9223372036854775807) :
    Calls Try.prog 60 #[.slice A n c, .int .i64 z] w fun e w' => e = .returned (.int .i64 (if z < n then -1 else z - n)) ∧ w = w' := by
  by_cases h : z < (n : Int)
  · rw [if_pos h]
    have h' : z - (n : Int) < 0 := by omega
    go_enter Try.func60, Try.ntmps60
    go_wp2
    go_ret
    exact ⟨rfl, rfl⟩
  · rw [if_neg h]
    have h' : ¬ (z - (n : Int) < 0) := by omega
    go_enter Try.func60, Try.ntmps60
    go_wp2
    go_ret
    exact ⟨rfl, rfl⟩
theorem sztable (w : World) (S : Int) (Ad : Option Addr) (nd cd : Nat) (An : Option Addr) (nn cn : Nat) (z : Int) (hz0 : 0 ≤ z) (hz : z ≤ 1048576) (hn1 : nd ≤ 9223372036854775807) (hn2 : nn ≤ 9223372036854775807) (r : Int) (hr : (if z < (nd : Int) + nn then -1 else z - (nd : Int) - nn) = r) :
    Calls Try.prog 29 #[.agg #[.int .i64 S, .slice Ad nd cd, .slice An nn cn], .int .i64 z] w fun e w' => e = .returned (.int .i64 r) ∧ Below w.heap.size w w' := by
  have HR := Lib.hid hr
  clear hr
  have HB : Hid (Below w.heap.size w (w.alloc (.cells #[.int .i64 S, .slice Ad nd cd, .slice An nn cn] 47))) := Lib.hid ((Below.refl _ _).alloc (Nat.le_refl _) _)
  go_enter Try.func29, Try.ntmps29
  go_wp2_with fail
  refine (szints _ Ad nd cd z hz0 hz hn1).mono ?_
  rintro e w1 ⟨rfl, rfl⟩
  by_cases h1 : z < (nd : Int)
  · rw [if_pos h1]
    obtain rfl : r = -1 := by rw [← HR.out, if_pos (by omega)]
    go_wp2
    go_ret
    exact ⟨rfl, HB.out⟩
  · rw [if_neg h1]
    have g1 : ¬ (z - (nd : Int) < 0) := by omega
    go_wp2_with fail
    refine (szints _ An nn cn (z - nd) (by omega) (by omega) hn2).mono ?_
    rintro e w1 ⟨rfl, rfl⟩
    by_cases h2 : z - (nd : Int) < (nn : Int)
    · rw [if_pos h2]
      obtain rfl : r = -1 := by rw [← HR.out, if_pos (by omega)]
      go_wp2
      go_ret
      exact ⟨rfl, HB.out⟩
    · rw [if_neg h2]
      obtain rfl : r = z - (nd : Int) - nn := by rw [← HR.out, if_neg (by omega)]
      have g2 : ¬ (z - (nd : Int) - (nn : Int) < 0) := by omega
      go_wp2
      go_ret
      exact ⟨rfl, HB.out⟩
end Go.Proofs.Ytjobjjmeneddnaa
