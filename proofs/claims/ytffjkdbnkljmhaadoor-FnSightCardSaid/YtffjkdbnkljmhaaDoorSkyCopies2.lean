/- The contracts of the laws' own helpers on skies: sizes and comparisons. -/
import Derived.Test.YtffjkdbnkljmhaaDoorSkyCopies
import Derived.Deep.QuietTactic
import Derived.BigQuiet
namespace Go.Proofs.YtffjkdbnkljmhaaDoor
open Go.ChangeShapes Go.WideShapes Go.ChangeAt Go.RowKit
set_option linter.unusedVariables false
theorem szsats (w : World) (A : Option Addr) (n c : Nat) (z : Int) (hz0 : 0 ≤ z) (hz : z ≤ 1048576) (hn : n ≤ 9223372036854775807) :
    Calls Tryd.prog 61 #[.slice A n c, .int .i64 z] w fun e w' => (∃ r : Int, e = .returned (.int .i64 r) ∧ ((r = -1 ∧ z < n) ∨ (r = z - n ∧ (n : Int) ≤ z))) ∧ w = w' := by
  by_cases h : z < (n : Int)
  · have h' : z - (n : Int) < 0 := by omega
    go_enter Tryd.func61, Tryd.ntmps61
    go_wp2
    go_ret
    exact ⟨⟨-1, rfl, by omega⟩, rfl⟩
  · have h' : ¬ (z - (n : Int) < 0) := by omega
    go_enter Tryd.func61, Tryd.ntmps61
    go_wp2
    go_ret
    exact ⟨⟨z - n, rfl, by omega⟩, rfl⟩
theorem szsites (w : World) (A : Option Addr) (n c : Nat) (z : Int) (hz0 : 0 ≤ z) (hz : z ≤ 1048576) (hn : n ≤ 9223372036854775807) :
    Calls Tryd.prog 62 #[.slice A n c, .int .i64 z] w fun e w' => (∃ r : Int, e = .returned (.int .i64 r) ∧ ((r = -1 ∧ z < n) ∨ (r = z - n ∧ (n : Int) ≤ z))) ∧ w = w' := by
  by_cases h : z < (n : Int)
  · have h' : z - (n : Int) < 0 := by omega
    go_enter Tryd.func62, Tryd.ntmps62
    go_wp2
    go_ret
    exact ⟨⟨-1, rfl, by omega⟩, rfl⟩
  · have h' : ¬ (z - (n : Int) < 0) := by omega
    go_enter Tryd.func62, Tryd.ntmps62
    go_wp2
    go_ret
    exact ⟨⟨z - n, rfl, by omega⟩, rfl⟩
theorem szzones (w : World) (A : Option Addr) (n c : Nat) (z : Int) (hz0 : 0 ≤ z) (hz : z ≤ 1048576) (hn : n ≤ 9223372036854775807) :
    Calls Tryd.prog 63 #[.slice A n c, .int .i64 z] w fun e w' => (∃ r : Int, e = .returned (.int .i64 r) ∧ ((r = -1 ∧ z < n) ∨ (r = z - n ∧ (n : Int) ≤ z))) ∧ w = w' := by
  by_cases h : z < (n : Int)
  · have h' : z - (n : Int) < 0 := by omega
    go_enter Tryd.func63, Tryd.ntmps63
    go_wp2
    go_ret
    exact ⟨⟨-1, rfl, by omega⟩, rfl⟩
  · have h' : ¬ (z - (n : Int) < 0) := by omega
    go_enter Tryd.func63, Tryd.ntmps63
    go_wp2
    go_ret
    exact ⟨⟨z - n, rfl, by omega⟩, rfl⟩
theorem szsky (w : World) (P R X V U D Q : Int) (ns ni nz : Nat) (ls : List Sat4) (li lz : List Tri) (As : Option Addr) (cs : Nat) (Ai : Option Addr) (ci : Nat) (Az : Option Addr) (cz : Nat) (hs : ns ≤ 9223372036854775807) (hi : ni ≤ 9223372036854775807) (hz : nz ≤ 9223372036854775807) :
    Calls Tryd.prog 23 #[.agg #[.int .i64 P, .slice As ns cs, .slice Ai ni ci, .int .i64 R, .int .i64 X, .int .i64 V, .int .i64 U, .int .i64 D, .slice Az nz cz, .int .i64 Q], .int .i64 1048576] w fun e w' => (∃ r : Int, e = .returned (.int .i64 r) ∧ (r = -1 ∨ (0 ≤ r ∧ ns ≤ 1048576 ∧ ni ≤ 1048576 ∧ nz ≤ 1048576))) ∧ Below w.heap.size w w' := by
  go_enter Tryd.func23, Tryd.ntmps23
  go_wp2_with fail
  refine (szsats _ As ns cs 1048576 (by omega) (by omega) hs).mono ?_
  rintro e w1 ⟨⟨r, rfl, hr⟩, rfl⟩
  rcases hr with ⟨rfl, h1⟩ | ⟨rfl, h1⟩
  · go_wp2
    go_ret
    exact ⟨⟨-1, rfl, .inl rfl⟩, (Below.refl _ _).alloc (Nat.le_refl _) _⟩
  · have g1 : ¬ (1048576 - (ns : Int) < 0) := by omega
    go_wp2_with fail
    refine (szsites _ Ai ni ci (1048576 - ns) (by omega) (by omega) hi).mono ?_
    rintro e w1 ⟨⟨r, rfl, hr⟩, rfl⟩
    rcases hr with ⟨rfl, h2⟩ | ⟨rfl, h2⟩
    · go_wp2
      go_ret
      exact ⟨⟨-1, rfl, .inl rfl⟩, (Below.refl _ _).alloc (Nat.le_refl _) _⟩
    · have g2 : ¬ (1048576 - (ns : Int) - (ni : Int) < 0) := by omega
      go_wp2_with fail
      refine (szzones _ Az nz cz (1048576 - ns - ni) (by omega) (by omega) hz).mono ?_
      rintro e w1 ⟨⟨r, rfl, hr⟩, rfl⟩
      rcases hr with ⟨rfl, h3⟩ | ⟨rfl, h3⟩
      · go_wp2
        go_ret
        exact ⟨⟨-1, rfl, .inl rfl⟩, (Below.refl _ _).alloc (Nat.le_refl _) _⟩
      · have g3 : ¬ (1048576 - (ns : Int) - (ni : Int) - (nz : Int) < 0) := by omega
        go_wp2
        go_ret
        exact ⟨⟨1048576 - ns - ni - nz, rfl, .inr ⟨by omega, by omega, by omega, by omega⟩⟩, (Below.refl _ _).alloc (Nat.le_refl _) _⟩
theorem eqsat_same (w : World) (x y z u : Int) : Calls Tryd.prog 104 #[.agg #[.int .i64 x, .int .i64 y, .int .i64 z, .int .i64 u], .agg #[.int .i64 x, .int .i64 y, .int .i64 z, .int .i64 u]] w (SaysB w true) := by
  go_enter Tryd.func104, Tryd.ntmps104
  go_wp2
  go_ret
  exact ⟨rfl, ((Below.refl _ _).alloc (Nat.le_refl _) _).alloc (by simp) _⟩
theorem eqsite_same (w : World) (x y z : Int) : Calls Tryd.prog 105 #[.agg #[.int .i64 x, .int .i64 y, .int .i64 z], .agg #[.int .i64 x, .int .i64 y, .int .i64 z]] w (SaysB w true) := by
  go_enter Tryd.func105, Tryd.ntmps105
  go_wp2
  go_ret
  exact ⟨rfl, ((Below.refl _ _).alloc (Nat.le_refl _) _).alloc (by simp) _⟩
theorem eqarc_same (w : World) (x y : Int) : Calls Tryd.prog 119 #[.agg #[.int .i64 x, .int .i64 y], .agg #[.int .i64 x, .int .i64 y]] w (SaysB w true) := by
  go_enter Tryd.func119, Tryd.ntmps119
  go_wp2
  go_ret
  exact ⟨rfl, ((Below.refl _ _).alloc (Nat.le_refl _) _).alloc (by simp) _⟩
theorem below2 {w w1 : World} {t0 t1 : TypeId} {c0 c1 : Array Value} (b : Below ((w.alloc (.cells c0 t0)).alloc (.cells c1 t1)).heap.size ((w.alloc (.cells c0 t0)).alloc (.cells c1 t1)) w1) :
    Blk w1 w.heap.size t0 c0 ∧ Blk w1 (w.heap.size + 1) t1 c1 ∧ Below w.heap.size w w1 ∧ w.heap.size + 1 < w1.heap.size := by
  have h0 := ((Blk.new w t0 c0).alloc (.cells c1 t1)).below b (by simp; omega)
  have h1 : Blk w1 (w.alloc (.cells c0 t0)).heap.size t1 c1 := (Blk.new (w.alloc (.cells c0 t0)) t1 c1).below b (by simp)
  simp only [World.size_alloc] at h1
  refine ⟨h0, h1, (((Below.refl _ _).alloc (Nat.le_refl _) _).alloc (by simp) _).trans (b.mono (by simp; omega)), ?_⟩
  have := b.size
  simp at this
  omega
theorem eqzone_same (w : World) (x y z : Int) : Calls Tryd.prog 106 #[.agg #[.int .i64 x, .int .i64 y, .int .i64 z], .agg #[.int .i64 x, .int .i64 y, .int .i64 z]] w (SaysB w true) := by
  go_enter Tryd.func106, Tryd.ntmps106
  go_wp2_with fail
  refine (eqarc_same _ y z).mono ?_
  rintro e w1 ⟨rfl, b1⟩
  have HB := Lib.hid (below2 b1).2.2.1
  clear b1
  go_wp2
  go_ret
  exact ⟨rfl, HB.out⟩
set_option maxRecDepth 100000 in
theorem eqsats (w : World) (D D' : Nat) (A A' : Option Addr) (n c c' : Nat) (l : List Sat4) (h : Sl w D 4 A n c (fl c4 l)) (h' : Sl w D' 4 A' n c' (fl c4 l)) (hD : D ≤ w.heap.size) (hD' : D' ≤ w.heap.size) :
    Calls Tryd.prog 71 #[.slice A n c, .slice A' n c'] w fun e w' => e = .returned (.bool true) ∧ Below w.heap.size w w' := by
  obtain rfl : n = l.length := h.num c4_len (by omega)
  have hcap := h.cap; have hcapm := h.capm
  go_enter Tryd.func71, Tryd.ntmps71
  go_wp2
  go_loopw [5] (fun i wr => ∃ k : Nat, k ≤ l.length ∧ i = .int .i64 k ∧ Below w.heap.size w wr) (fun i _ => l.length - (intOf i).toNat)
  case atStart => exact ⟨0, Nat.zero_le _, rfl, Below.refl _ _⟩
  case round =>
    obtain ⟨k, hk2, rfl, hb⟩ := hrel
    by_cases hlt : k < l.length
    · have HC : Hid (∀ {w' : World}, Below w.heap.size w w' → _) := Lib.hid fun hb => And.intro ((h.below hb hD).four hlt) ((h'.below hb hD').four hlt)
      obtain ⟨ad, hx, rfl, had, -⟩ := h.four hlt
      obtain ⟨ad', hx', rfl, had', -⟩ := h'.four hlt
      obtain ⟨e, he⟩ : ∃ e, e = l[k] := ⟨_, rfl⟩
      have HC2 : Hid (∀ {w' : World}, Below w.heap.size w w' → (w'.cell? (ad.add (k * 4)) = some (.int .i64 e.p) ∧ w'.cell? ⟨(ad.add (k * 4)).block, (ad.add (k * 4)).off + 1, none⟩ = some (.int .i64 e.h) ∧ w'.cell? ⟨(ad.add (k * 4)).block, (ad.add (k * 4)).off + 2, none⟩ = some (.int .i64 e.v) ∧ w'.cell? ⟨(ad.add (k * 4)).block, (ad.add (k * 4)).off + 3, none⟩ = some (.int .i64 e.e)) ∧
          w'.cell? (ad'.add (k * 4)) = some (.int .i64 e.p) ∧ w'.cell? ⟨(ad'.add (k * 4)).block, (ad'.add (k * 4)).off + 1, none⟩ = some (.int .i64 e.h) ∧ w'.cell? ⟨(ad'.add (k * 4)).block, (ad'.add (k * 4)).off + 2, none⟩ = some (.int .i64 e.v) ∧ w'.cell? ⟨(ad'.add (k * 4)).block, (ad'.add (k * 4)).off + 3, none⟩ = some (.int .i64 e.e)) := Lib.hid fun hb => by
        obtain ⟨⟨a1, _, e1, _, q0, q1, q2, q3⟩, ⟨a2, _, e2, _, p0, p1, p2, p3⟩⟩ := HC.out hb
        injection e1 with e1; injection e2 with e2
        subst e1 e2
        rw [he]
        exact ⟨⟨q0, q1, q2, q3⟩, p0, p1, p2, p3⟩
      obtain ⟨x, y, z, u⟩ := e
      have HB := Lib.hid hb
      obtain ⟨⟨k0, k1, k2, k3⟩, k4, k5, k6, k7⟩ := HC2.out hb
      simp only at k0 k1 k2 k3 k4 k5 k6 k7
      have f1 : (0 : Int) ≤ (k : Int) := by omega
      have f2 : (k : Int) < (l.length : Int) := by omega
      clear he hb HC
      go_wp2_with fail
      go_region_held3 (fun w' => (w'.cell? (ad.add (k * 4)) = some (.int .i64 x) ∧ w'.cell? ⟨(ad.add (k * 4)).block, (ad.add (k * 4)).off + 1, none⟩ = some (.int .i64 y) ∧ w'.cell? ⟨(ad.add (k * 4)).block, (ad.add (k * 4)).off + 2, none⟩ = some (.int .i64 z) ∧ w'.cell? ⟨(ad.add (k * 4)).block, (ad.add (k * 4)).off + 3, none⟩ = some (.int .i64 u)) ∧
          w'.cell? (ad'.add (k * 4)) = some (.int .i64 x) ∧ w'.cell? ⟨(ad'.add (k * 4)).block, (ad'.add (k * 4)).off + 1, none⟩ = some (.int .i64 y) ∧ w'.cell? ⟨(ad'.add (k * 4)).block, (ad'.add (k * 4)).off + 2, none⟩ = some (.int .i64 z) ∧ w'.cell? ⟨(ad'.add (k * 4)).block, (ad'.add (k * 4)).off + 3, none⟩ = some (.int .i64 u)) (first | exact ⟨⟨k0, k1, k2, k3⟩, k4, k5, k6, k7⟩ | exact hcA | go_keep) (first
        | (go_at_call 104; refine (eqsat_same _ x y z u).mono ?_; rintro e wA ⟨rfl, bA⟩; have HBA : Hid (Below w.heap.size w wA) := Lib.hid (by first | exact HB.out.drew.trans (bA.mono HB.out.size) | exact HB.out.trans (bA.mono HB.out.size)); have hcA := HC2.out HBA.out; clear bA))
      go_wp2
      go_roundw
      case rel => exact ⟨k + 1, by omega, by go_num, HBA.out⟩
      case measure => simp [intOf]; omega
    · go_wp2
      go_ret
      exact ⟨rfl, hb⟩
set_option maxRecDepth 100000 in
theorem eqsites (w : World) (D D' : Nat) (A A' : Option Addr) (n c c' : Nat) (l : List Tri) (h : Sl w D 3 A n c (fl c3 l)) (h' : Sl w D' 3 A' n c' (fl c3 l)) (hD : D ≤ w.heap.size) (hD' : D' ≤ w.heap.size) :
    Calls Tryd.prog 72 #[.slice A n c, .slice A' n c'] w fun e w' => e = .returned (.bool true) ∧ Below w.heap.size w w' := by
  obtain rfl : n = l.length := h.num c3_len (by omega)
  have hcap := h.cap; have hcapm := h.capm
  go_enter Tryd.func72, Tryd.ntmps72
  go_wp2
  go_loopw [5] (fun i wr => ∃ k : Nat, k ≤ l.length ∧ i = .int .i64 k ∧ Below w.heap.size w wr) (fun i _ => l.length - (intOf i).toNat)
  case atStart => exact ⟨0, Nat.zero_le _, rfl, Below.refl _ _⟩
  case round =>
    obtain ⟨k, hk2, rfl, hb⟩ := hrel
    by_cases hlt : k < l.length
    · have HC : Hid (∀ {w' : World}, Below w.heap.size w w' → _) := Lib.hid fun hb => And.intro ((h.below hb hD).tri hlt) ((h'.below hb hD').tri hlt)
      obtain ⟨ad, hx, rfl, had, -⟩ := h.tri hlt
      obtain ⟨ad', hx', rfl, had', -⟩ := h'.tri hlt
      obtain ⟨e, he⟩ : ∃ e, e = l[k] := ⟨_, rfl⟩
      have HC2 : Hid (∀ {w' : World}, Below w.heap.size w w' → (w'.cell? (ad.add (k * 3)) = some (.int .i64 e.p) ∧ w'.cell? ⟨(ad.add (k * 3)).block, (ad.add (k * 3)).off + 1, none⟩ = some (.int .i64 e.a) ∧ w'.cell? ⟨(ad.add (k * 3)).block, (ad.add (k * 3)).off + 2, none⟩ = some (.int .i64 e.b)) ∧
          w'.cell? (ad'.add (k * 3)) = some (.int .i64 e.p) ∧ w'.cell? ⟨(ad'.add (k * 3)).block, (ad'.add (k * 3)).off + 1, none⟩ = some (.int .i64 e.a) ∧ w'.cell? ⟨(ad'.add (k * 3)).block, (ad'.add (k * 3)).off + 2, none⟩ = some (.int .i64 e.b)) := Lib.hid fun hb => by
        obtain ⟨⟨a1, _, e1, _, q0, q1, q2⟩, ⟨a2, _, e2, _, p0, p1, p2⟩⟩ := HC.out hb
        injection e1 with e1; injection e2 with e2
        subst e1 e2
        rw [he]
        exact ⟨⟨q0, q1, q2⟩, p0, p1, p2⟩
      obtain ⟨x, y, z⟩ := e
      have HB := Lib.hid hb
      obtain ⟨⟨k0, k1, k2⟩, k4, k5, k6⟩ := HC2.out hb
      simp only at k0 k1 k2 k4 k5 k6
      have f1 : (0 : Int) ≤ (k : Int) := by omega
      have f2 : (k : Int) < (l.length : Int) := by omega
      clear he hb HC
      go_wp2_with fail
      go_region_held3 (fun w' => (w'.cell? (ad.add (k * 3)) = some (.int .i64 x) ∧ w'.cell? ⟨(ad.add (k * 3)).block, (ad.add (k * 3)).off + 1, none⟩ = some (.int .i64 y) ∧ w'.cell? ⟨(ad.add (k * 3)).block, (ad.add (k * 3)).off + 2, none⟩ = some (.int .i64 z)) ∧
          w'.cell? (ad'.add (k * 3)) = some (.int .i64 x) ∧ w'.cell? ⟨(ad'.add (k * 3)).block, (ad'.add (k * 3)).off + 1, none⟩ = some (.int .i64 y) ∧ w'.cell? ⟨(ad'.add (k * 3)).block, (ad'.add (k * 3)).off + 2, none⟩ = some (.int .i64 z)) (first | exact ⟨⟨k0, k1, k2⟩, k4, k5, k6⟩ | exact hcA | go_keep) (first
        | (go_at_call 105; refine (eqsite_same _ x y z).mono ?_; rintro e wA ⟨rfl, bA⟩; have HBA : Hid (Below w.heap.size w wA) := Lib.hid (by first | exact HB.out.drew.trans (bA.mono HB.out.size) | exact HB.out.trans (bA.mono HB.out.size)); have hcA := HC2.out HBA.out; clear bA))
      go_wp2
      go_roundw
      case rel => exact ⟨k + 1, by omega, by go_num, HBA.out⟩
      case measure => simp [intOf]; omega
    · go_wp2
      go_ret
      exact ⟨rfl, hb⟩
set_option maxRecDepth 100000 in
theorem eqzones (w : World) (D D' : Nat) (A A' : Option Addr) (n c c' : Nat) (l : List Tri) (h : Sl w D 3 A n c (fl c3 l)) (h' : Sl w D' 3 A' n c' (fl c3 l)) (hD : D ≤ w.heap.size) (hD' : D' ≤ w.heap.size) :
    Calls Tryd.prog 73 #[.slice A n c, .slice A' n c'] w fun e w' => e = .returned (.bool true) ∧ Below w.heap.size w w' := by
  obtain rfl : n = l.length := h.num c3_len (by omega)
  have hcap := h.cap; have hcapm := h.capm
  go_enter Tryd.func73, Tryd.ntmps73
  go_wp2
  go_loopw [5] (fun i wr => ∃ k : Nat, k ≤ l.length ∧ i = .int .i64 k ∧ Below w.heap.size w wr) (fun i _ => l.length - (intOf i).toNat)
  case atStart => exact ⟨0, Nat.zero_le _, rfl, Below.refl _ _⟩
  case round =>
    obtain ⟨k, hk2, rfl, hb⟩ := hrel
    by_cases hlt : k < l.length
    · have HC : Hid (∀ {w' : World}, Below w.heap.size w w' → _) := Lib.hid fun hb => And.intro ((h.below hb hD).tri hlt) ((h'.below hb hD').tri hlt)
      obtain ⟨ad, hx, rfl, had, -⟩ := h.tri hlt
      obtain ⟨ad', hx', rfl, had', -⟩ := h'.tri hlt
      obtain ⟨e, he⟩ : ∃ e, e = l[k] := ⟨_, rfl⟩
      have HC2 : Hid (∀ {w' : World}, Below w.heap.size w w' → (w'.cell? (ad.add (k * 3)) = some (.int .i64 e.p) ∧ w'.cell? ⟨(ad.add (k * 3)).block, (ad.add (k * 3)).off + 1, none⟩ = some (.int .i64 e.a) ∧ w'.cell? ⟨(ad.add (k * 3)).block, (ad.add (k * 3)).off + 2, none⟩ = some (.int .i64 e.b)) ∧
          w'.cell? (ad'.add (k * 3)) = some (.int .i64 e.p) ∧ w'.cell? ⟨(ad'.add (k * 3)).block, (ad'.add (k * 3)).off + 1, none⟩ = some (.int .i64 e.a) ∧ w'.cell? ⟨(ad'.add (k * 3)).block, (ad'.add (k * 3)).off + 2, none⟩ = some (.int .i64 e.b)) := Lib.hid fun hb => by
        obtain ⟨⟨a1, _, e1, _, q0, q1, q2⟩, ⟨a2, _, e2, _, p0, p1, p2⟩⟩ := HC.out hb
        injection e1 with e1; injection e2 with e2
        subst e1 e2
        rw [he]
        exact ⟨⟨q0, q1, q2⟩, p0, p1, p2⟩
      obtain ⟨x, y, z⟩ := e
      have HB := Lib.hid hb
      obtain ⟨⟨k0, k1, k2⟩, k4, k5, k6⟩ := HC2.out hb
      simp only at k0 k1 k2 k4 k5 k6
      have f1 : (0 : Int) ≤ (k : Int) := by omega
      have f2 : (k : Int) < (l.length : Int) := by omega
      clear he hb HC
      go_wp2_with fail
      go_region_held3 (fun w' => (w'.cell? (ad.add (k * 3)) = some (.int .i64 x) ∧ w'.cell? ⟨(ad.add (k * 3)).block, (ad.add (k * 3)).off + 1, none⟩ = some (.int .i64 y) ∧ w'.cell? ⟨(ad.add (k * 3)).block, (ad.add (k * 3)).off + 2, none⟩ = some (.int .i64 z)) ∧
          w'.cell? (ad'.add (k * 3)) = some (.int .i64 x) ∧ w'.cell? ⟨(ad'.add (k * 3)).block, (ad'.add (k * 3)).off + 1, none⟩ = some (.int .i64 y) ∧ w'.cell? ⟨(ad'.add (k * 3)).block, (ad'.add (k * 3)).off + 2, none⟩ = some (.int .i64 z)) (first | exact ⟨⟨k0, k1, k2⟩, k4, k5, k6⟩ | exact hcA | go_keep) (first
        | (go_at_call 106; refine (eqzone_same _ x y z).mono ?_; rintro e wA ⟨rfl, bA⟩; have HBA : Hid (Below w.heap.size w wA) := Lib.hid (by first | exact HB.out.drew.trans (bA.mono HB.out.size) | exact HB.out.trans (bA.mono HB.out.size)); have hcA := HC2.out HBA.out; clear bA))
      go_wp2
      go_roundw
      case rel => exact ⟨k + 1, by omega, by go_num, HBA.out⟩
      case measure => simp [intOf]; omega
    · go_wp2
      go_ret
      exact ⟨rfl, hb⟩
theorem Own.far {w : World} {B : Nat} {E : TypeId} {s n c : Nat} {A : Option Addr} {xs : List Value} (h : Own w B E s A n c xs) {p : Addr} (hp : p.block < B) (u : Value) : Own (w.setCell p u) B E s A n c xs := ⟨ownsRow_setCell_below h.row hp u⟩
/-- what toSky answers: the same sky, in memory of the call's own -/
def GaveSky (w : World) (P R X V U D Q : Int) (ns ni nz : Nat) (ls : List Sat4) (li lz : List Tri) (e : Ending) (w' : World) : Prop := (∃ As' cs' Ai' ci' Az' cz', e = .returned (.agg #[.int .i64 P, .slice As' ns cs', .slice Ai' ni ci', .int .i64 R, .int .i64 X, .int .i64 V, .int .i64 U, .int .i64 D, .slice Az' nz cz', .int .i64 Q]) ∧ InSky w' (w'.heap.size) As' ns cs' Ai' ni ci' Az' nz cz' ls li lz) ∧ Below w.heap.size w w'
set_option maxRecDepth 100000 in
set_option maxHeartbeats 1000000 in
theorem tosky (w : World) (P R X V U D Q : Int) (ns ni nz : Nat) (ls : List Sat4) (li lz : List Tri) (As : Option Addr) (cs : Nat) (Ai : Option Addr) (ci : Nat) (Az : Option Addr) (cz : Nat) (D0 : Nat) (h : InSky w (D0) As ns cs Ai ni ci Az nz cz ls li lz) (hD : D0 ≤ w.heap.size) (hs : ns ≤ 16777216) (hi : ni ≤ 16777216) (hz : nz ≤ 16777216) :
    Calls Tryd.prog 25 #[.agg #[.int .i64 P, .slice As ns cs, .slice Ai ni ci, .int .i64 R, .int .i64 X, .int .i64 V, .int .i64 U, .int .i64 D, .slice Az nz cz, .int .i64 Q]] w (GaveSky w P R X V U D Q ns ni nz ls li lz) := by
  have HS := Lib.hid h.s; have HI := Lib.hid h.i; have HZ := Lib.hid h.z; clear h
  go_enter Tryd.func25, Tryd.ntmps25
  go_wp2_with fail
  refine (tosats _ D0 As ns cs ls (((HS.out.below ((Below.refl w.heap.size w).alloc (Nat.le_refl _) _) hD).below (Below.alloc (Below.refl w.heap.size _) (by simp) _) hD).below (Below.alloc (Below.refl w.heap.size _) (by simp; omega) _) hD) (by simp; omega) hs).mono ?_
  rintro e w1 ⟨⟨As1, cs1, rfl, own1⟩, b1⟩
  simp only [World.size_alloc] at own1
  obtain ⟨zA, zR, zO, bb, hsz⟩ := below3 b1
  have O1 := Lib.hid (own1.far (p := ⟨w.heap.size + 1 + 1, 1, none⟩) (by simp) (.slice As1 ns cs1))
  have B1 := Lib.hid (bb.setCell (p := ⟨w.heap.size + 1 + 1, 1, none⟩) (by simp; omega) (.slice As1 ns cs1))
  have ZA1 := Lib.hid (zA.far (p := ⟨w.heap.size + 1 + 1, 1, none⟩) (by simp; omega) (.slice As1 ns cs1))
  have ZR1 := Lib.hid (zR.far (p := ⟨w.heap.size + 1 + 1, 1, none⟩) (by simp) (.slice As1 ns cs1))
  have ZO1 := Lib.hid (zO.set_ 1 (.slice As1 ns cs1))
  have a2 := zA.cell 2; have o1 := zO.cell 1; have f1 := zO.frozen 1
  simp only [List.getElem?_toArray, List.getElem?_cons_zero, List.getElem?_cons_succ] at a2 o1
  have hsz1 : w.heap.size + 1 + 1 < w1.heap.size := hsz
  clear zA zR zO own1 b1 bb HS
  go_wp2_with fail
  refine (tosites _ D0 Ai ni ci li (HI.out.below B1.out hD) (by simp; omega) hi).mono ?_
  rintro e w2 ⟨⟨Ai1, ci1, rfl, own2⟩, b2⟩
  have zA := ZA1.out.below b2 ZA1.out.lt; have zR := ZR1.out.below b2 ZR1.out.lt; have zO := ZO1.out.below b2 ZO1.out.lt
  have bb := B1.out.trans (b2.mono B1.out.size)
  have own1 := O1.out.on b2
  have own2' := own2.fewer (B' := w.heap.size + 1 + 1 + 1) (by simp; omega)
  have hsz2 : w.heap.size + 1 + 1 < w2.heap.size := by have := b2.size; simp at this; omega
  have O1' := Lib.hid ((((((own1.far (p := ⟨w.heap.size + 1 + 1, 2, none⟩) (by simp) (.slice Ai1 ni ci1)).far (p := ⟨w.heap.size + 1 + 1, 3, none⟩) (by simp) (.int .i64 R)).far (p := ⟨w.heap.size + 1 + 1, 4, none⟩) (by simp) (.int .i64 X)).far (p := ⟨w.heap.size + 1 + 1, 5, none⟩) (by simp) (.int .i64 V)).far (p := ⟨w.heap.size + 1 + 1, 6, none⟩) (by simp) (.int .i64 U)).far (p := ⟨w.heap.size + 1 + 1, 7, none⟩) (by simp) (.int .i64 D))
  have O2' := Lib.hid ((((((own2'.far (p := ⟨w.heap.size + 1 + 1, 2, none⟩) (by simp) (.slice Ai1 ni ci1)).far (p := ⟨w.heap.size + 1 + 1, 3, none⟩) (by simp) (.int .i64 R)).far (p := ⟨w.heap.size + 1 + 1, 4, none⟩) (by simp) (.int .i64 X)).far (p := ⟨w.heap.size + 1 + 1, 5, none⟩) (by simp) (.int .i64 V)).far (p := ⟨w.heap.size + 1 + 1, 6, none⟩) (by simp) (.int .i64 U)).far (p := ⟨w.heap.size + 1 + 1, 7, none⟩) (by simp) (.int .i64 D))
  have B2 := Lib.hid ((((((bb.setCell (p := ⟨w.heap.size + 1 + 1, 2, none⟩) (by simp; omega) (.slice Ai1 ni ci1)).setCell (p := ⟨w.heap.size + 1 + 1, 3, none⟩) (by simp; omega) (.int .i64 R)).setCell (p := ⟨w.heap.size + 1 + 1, 4, none⟩) (by simp; omega) (.int .i64 X)).setCell (p := ⟨w.heap.size + 1 + 1, 5, none⟩) (by simp; omega) (.int .i64 V)).setCell (p := ⟨w.heap.size + 1 + 1, 6, none⟩) (by simp; omega) (.int .i64 U)).setCell (p := ⟨w.heap.size + 1 + 1, 7, none⟩) (by simp; omega) (.int .i64 D))
  have ZA2 := Lib.hid ((((((zA.far (p := ⟨w.heap.size + 1 + 1, 2, none⟩) (by simp; omega) (.slice Ai1 ni ci1)).far (p := ⟨w.heap.size + 1 + 1, 3, none⟩) (by simp; omega) (.int .i64 R)).far (p := ⟨w.heap.size + 1 + 1, 4, none⟩) (by simp; omega) (.int .i64 X)).far (p := ⟨w.heap.size + 1 + 1, 5, none⟩) (by simp; omega) (.int .i64 V)).far (p := ⟨w.heap.size + 1 + 1, 6, none⟩) (by simp; omega) (.int .i64 U)).far (p := ⟨w.heap.size + 1 + 1, 7, none⟩) (by simp; omega) (.int .i64 D))
  have ZR2 := Lib.hid ((((((zR.far (p := ⟨w.heap.size + 1 + 1, 2, none⟩) (by simp) (.slice Ai1 ni ci1)).far (p := ⟨w.heap.size + 1 + 1, 3, none⟩) (by simp) (.int .i64 R)).far (p := ⟨w.heap.size + 1 + 1, 4, none⟩) (by simp) (.int .i64 X)).far (p := ⟨w.heap.size + 1 + 1, 5, none⟩) (by simp) (.int .i64 V)).far (p := ⟨w.heap.size + 1 + 1, 6, none⟩) (by simp) (.int .i64 U)).far (p := ⟨w.heap.size + 1 + 1, 7, none⟩) (by simp) (.int .i64 D))
  have ZO2 := Lib.hid ((((((zO.set_ 2 (.slice Ai1 ni ci1)).set_ 3 (.int .i64 R)).set_ 4 (.int .i64 X)).set_ 5 (.int .i64 V)).set_ 6 (.int .i64 U)).set_ 7 (.int .i64 D))
  have a3 := zA.cell 3; have a4 := zA.cell 4; have a5 := zA.cell 5; have a6 := zA.cell 6; have a7 := zA.cell 7; have a8 := zA.cell 8
  have o2 := zO.cell 2; have f2 := zO.frozen 2; have o3 := zO.cell 3; have f3 := zO.frozen 3; have o4 := zO.cell 4; have f4 := zO.frozen 4; have o5 := zO.cell 5; have f5 := zO.frozen 5; have o6 := zO.cell 6; have f6 := zO.frozen 6; have o7 := zO.cell 7; have f7 := zO.frozen 7
  simp at a3 a4 a5 a6 a7 a8 o2 o3 o4 o5 o6 o7
  clear zA zR zO own1 own2 own2' b2 bb HI O1 B1 ZA1 ZR1 ZO1 a2 o1 f1
  go_wp2_with fail
  refine (tozones _ D0 Az nz cz lz (HZ.out.below B2.out hD) (by simp; omega) hz).mono ?_
  rintro e w3 ⟨⟨Az1, cz1, rfl, own3⟩, b3⟩
  have zA := ZA2.out.below b3 ZA2.out.lt; have zR := ZR2.out.below b3 ZR2.out.lt; have zO := ZO2.out.below b3 ZO2.out.lt
  have bb := B2.out.trans (b3.mono B2.out.size)
  have own1 := O1'.out.on b3
  have own2 := O2'.out.on b3
  have own3' := own3.fewer (B' := w.heap.size + 1 + 1 + 1) (by simp; omega)
  have O1 := Lib.hid ((((((((((((own1.far (p := ⟨w.heap.size + 1 + 1, 8, none⟩) (by simp) (.slice Az1 nz cz1)).far (p := ⟨w.heap.size + 1 + 1, 9, none⟩) (by simp) (.int .i64 Q)).far (p := ⟨w.heap.size + 1, 0, none⟩) (by simp <;> omega) (.int .i64 P)).far (p := ⟨w.heap.size + 1, 1, none⟩) (by simp <;> omega) (.slice As1 ns cs1)).far (p := ⟨w.heap.size + 1, 2, none⟩) (by simp <;> omega) (.slice Ai1 ni ci1)).far (p := ⟨w.heap.size + 1, 3, none⟩) (by simp <;> omega) (.int .i64 R)).far (p := ⟨w.heap.size + 1, 4, none⟩) (by simp <;> omega) (.int .i64 X)).far (p := ⟨w.heap.size + 1, 5, none⟩) (by simp <;> omega) (.int .i64 V)).far (p := ⟨w.heap.size + 1, 6, none⟩) (by simp <;> omega) (.int .i64 U)).far (p := ⟨w.heap.size + 1, 7, none⟩) (by simp <;> omega) (.int .i64 D)).far (p := ⟨w.heap.size + 1, 8, none⟩) (by simp <;> omega) (.slice Az1 nz cz1)).far (p := ⟨w.heap.size + 1, 9, none⟩) (by simp <;> omega) (.int .i64 Q))
  have O2 := Lib.hid ((((((((((((own2.far (p := ⟨w.heap.size + 1 + 1, 8, none⟩) (by simp) (.slice Az1 nz cz1)).far (p := ⟨w.heap.size + 1 + 1, 9, none⟩) (by simp) (.int .i64 Q)).far (p := ⟨w.heap.size + 1, 0, none⟩) (by simp <;> omega) (.int .i64 P)).far (p := ⟨w.heap.size + 1, 1, none⟩) (by simp <;> omega) (.slice As1 ns cs1)).far (p := ⟨w.heap.size + 1, 2, none⟩) (by simp <;> omega) (.slice Ai1 ni ci1)).far (p := ⟨w.heap.size + 1, 3, none⟩) (by simp <;> omega) (.int .i64 R)).far (p := ⟨w.heap.size + 1, 4, none⟩) (by simp <;> omega) (.int .i64 X)).far (p := ⟨w.heap.size + 1, 5, none⟩) (by simp <;> omega) (.int .i64 V)).far (p := ⟨w.heap.size + 1, 6, none⟩) (by simp <;> omega) (.int .i64 U)).far (p := ⟨w.heap.size + 1, 7, none⟩) (by simp <;> omega) (.int .i64 D)).far (p := ⟨w.heap.size + 1, 8, none⟩) (by simp <;> omega) (.slice Az1 nz cz1)).far (p := ⟨w.heap.size + 1, 9, none⟩) (by simp <;> omega) (.int .i64 Q))
  have O3 := Lib.hid ((((((((((((own3'.far (p := ⟨w.heap.size + 1 + 1, 8, none⟩) (by simp) (.slice Az1 nz cz1)).far (p := ⟨w.heap.size + 1 + 1, 9, none⟩) (by simp) (.int .i64 Q)).far (p := ⟨w.heap.size + 1, 0, none⟩) (by simp <;> omega) (.int .i64 P)).far (p := ⟨w.heap.size + 1, 1, none⟩) (by simp <;> omega) (.slice As1 ns cs1)).far (p := ⟨w.heap.size + 1, 2, none⟩) (by simp <;> omega) (.slice Ai1 ni ci1)).far (p := ⟨w.heap.size + 1, 3, none⟩) (by simp <;> omega) (.int .i64 R)).far (p := ⟨w.heap.size + 1, 4, none⟩) (by simp <;> omega) (.int .i64 X)).far (p := ⟨w.heap.size + 1, 5, none⟩) (by simp <;> omega) (.int .i64 V)).far (p := ⟨w.heap.size + 1, 6, none⟩) (by simp <;> omega) (.int .i64 U)).far (p := ⟨w.heap.size + 1, 7, none⟩) (by simp <;> omega) (.int .i64 D)).far (p := ⟨w.heap.size + 1, 8, none⟩) (by simp <;> omega) (.slice Az1 nz cz1)).far (p := ⟨w.heap.size + 1, 9, none⟩) (by simp <;> omega) (.int .i64 Q))
  have B3 := Lib.hid ((((((((((((bb.setCell (p := ⟨w.heap.size + 1 + 1, 8, none⟩) (by simp; omega) (.slice Az1 nz cz1)).setCell (p := ⟨w.heap.size + 1 + 1, 9, none⟩) (by simp; omega) (.int .i64 Q)).setCell (p := ⟨w.heap.size + 1, 0, none⟩) (by simp) (.int .i64 P)).setCell (p := ⟨w.heap.size + 1, 1, none⟩) (by simp) (.slice As1 ns cs1)).setCell (p := ⟨w.heap.size + 1, 2, none⟩) (by simp) (.slice Ai1 ni ci1)).setCell (p := ⟨w.heap.size + 1, 3, none⟩) (by simp) (.int .i64 R)).setCell (p := ⟨w.heap.size + 1, 4, none⟩) (by simp) (.int .i64 X)).setCell (p := ⟨w.heap.size + 1, 5, none⟩) (by simp) (.int .i64 V)).setCell (p := ⟨w.heap.size + 1, 6, none⟩) (by simp) (.int .i64 U)).setCell (p := ⟨w.heap.size + 1, 7, none⟩) (by simp) (.int .i64 D)).setCell (p := ⟨w.heap.size + 1, 8, none⟩) (by simp) (.slice Az1 nz cz1)).setCell (p := ⟨w.heap.size + 1, 9, none⟩) (by simp) (.int .i64 Q))
  have ZR3 := Lib.hid ((((((((((((zR.far (p := ⟨w.heap.size + 1 + 1, 8, none⟩) (by simp) (.slice Az1 nz cz1)).far (p := ⟨w.heap.size + 1 + 1, 9, none⟩) (by simp) (.int .i64 Q)).set_ 0 (.int .i64 P)).set_ 1 (.slice As1 ns cs1)).set_ 2 (.slice Ai1 ni ci1)).set_ 3 (.int .i64 R)).set_ 4 (.int .i64 X)).set_ 5 (.int .i64 V)).set_ 6 (.int .i64 U)).set_ 7 (.int .i64 D)).set_ 8 (.slice Az1 nz cz1)).set_ 9 (.int .i64 Q))
  have a9 := zA.cell 9
  have o0 := zO.cell 0; have o1 := zO.cell 1; have o2 := zO.cell 2; have o3 := zO.cell 3; have o4 := zO.cell 4; have o5 := zO.cell 5; have o6 := zO.cell 6; have o7 := zO.cell 7; have o8 := zO.cell 8; have o9 := zO.cell 9
  have f8 := zO.frozen 8; have f9 := zO.frozen 9
  have r0 := zR.cell 0; have g0 := zR.frozen 0; have r1 := zR.cell 1; have g1 := zR.frozen 1; have r2 := zR.cell 2; have g2 := zR.frozen 2; have r3 := zR.cell 3; have g3 := zR.frozen 3; have r4 := zR.cell 4; have g4 := zR.frozen 4; have r5 := zR.cell 5; have g5 := zR.frozen 5; have r6 := zR.cell 6; have g6 := zR.frozen 6; have r7 := zR.cell 7; have g7 := zR.frozen 7; have r8 := zR.cell 8; have g8 := zR.frozen 8; have r9 := zR.cell 9; have g9 := zR.frozen 9
  simp at a9 o0 r0 o1 r1 o2 r2 o3 r3 o4 r4 o5 r5 o6 r6 o7 r7 o8 r8 o9 r9
  clear zA zR zO own1 own2 own3 own3' b3 bb HZ O1' O2' B2 ZA2 ZR2 ZO2 a3 a4 a5 a6 a7 a8 f2 f3 f4 f5 f6 f7
  go_wp2
  have k0 := ZR3.out.cell 0; have k1 := ZR3.out.cell 1; have k2 := ZR3.out.cell 2; have k3 := ZR3.out.cell 3; have k4 := ZR3.out.cell 4; have k5 := ZR3.out.cell 5; have k6 := ZR3.out.cell 6; have k7 := ZR3.out.cell 7; have k8 := ZR3.out.cell 8; have k9 := ZR3.out.cell 9
  simp at k0 k1 k2 k3 k4 k5 k6 k7 k8 k9
  refine bodyPost_ret (v := .agg #[.int .i64 P, .slice As1 ns cs1, .slice Ai1 ni ci1, .int .i64 R, .int .i64 X, .int .i64 V, .int .i64 U, .int .i64 D, .slice Az1 nz cz1, .int .i64 Q]) (by simp [results, Tryd.results25, go_sem, k0, k1, k2, k3, k4, k5, k6, k7, k8, k9]) rfl ?_
  exact ⟨⟨As1, cs1, Ai1, ci1, Az1, cz1, rfl, ⟨O1.out.sl, O2.out.sl, O3.out.sl⟩⟩, B3.out⟩
set_option maxRecDepth 100000 in
set_option maxHeartbeats 1000000 in
theorem eqsky_same (w : World) (P R X V U D Q : Int) (ns ni nz : Nat) (ls : List Sat4) (li lz : List Tri) (As : Option Addr) (cs : Nat) (Ai : Option Addr) (ci : Nat) (Az : Option Addr) (cz : Nat) (As' : Option Addr) (cs' : Nat) (Ai' : Option Addr) (ci' : Nat) (Az' : Option Addr) (cz' : Nat) (D0 : Nat) (h : InSky w (D0) As ns cs Ai ni ci Az nz cz ls li lz) (h' : InSky w (D0) As' ns cs' Ai' ni ci' Az' nz cz' ls li lz) (hD : D0 ≤ w.heap.size) :
    Calls Tryd.prog 26 #[.agg #[.int .i64 P, .slice As ns cs, .slice Ai ni ci, .int .i64 R, .int .i64 X, .int .i64 V, .int .i64 U, .int .i64 D, .slice Az nz cz, .int .i64 Q], .agg #[.int .i64 P, .slice As' ns cs', .slice Ai' ni ci', .int .i64 R, .int .i64 X, .int .i64 V, .int .i64 U, .int .i64 D, .slice Az' nz cz', .int .i64 Q]] w (SaysB w true) := by
  have HS := Lib.hid h.s; have HI := Lib.hid h.i; have HZ := Lib.hid h.z
  have HS' := Lib.hid h'.s; have HI' := Lib.hid h'.i; have HZ' := Lib.hid h'.z
  clear h h'
  have T0 := Lib.hid (((Below.refl w.heap.size w).alloc (Nat.le_refl _) (.cells #[.int .i64 P, .slice As ns cs, .slice Ai ni ci, .int .i64 R, .int .i64 X, .int .i64 V, .int .i64 U, .int .i64 D, .slice Az nz cz, .int .i64 Q] 28)).alloc (by simp) (.cells #[.int .i64 P, .slice As' ns cs', .slice Ai' ni ci', .int .i64 R, .int .i64 X, .int .i64 V, .int .i64 U, .int .i64 D, .slice Az' nz cz', .int .i64 Q] 28))
  go_enter Tryd.func26, Tryd.ntmps26
  go_wp2_with fail
  refine (eqsats _ D0 D0 As As' ns cs cs' ls (HS.out.below T0.out hD) (HS'.out.below T0.out hD) (by simp; omega) (by simp; omega)).mono ?_
  rintro e w1 ⟨rfl, b1⟩
  obtain ⟨zA, zB, bb, hsz⟩ := below2 b1
  have ZA := Lib.hid zA; have ZB := Lib.hid zB; have B1 := Lib.hid bb
  have a2 := zA.cell 2; have p2 := zB.cell 2
  simp only [List.getElem?_toArray, List.getElem?_cons_zero, List.getElem?_cons_succ] at a2 p2
  clear zA zB bb b1 T0 HS HS'
  go_wp2_with fail
  refine (eqsites _ D0 D0 Ai Ai' ni ci ci' li (HI.out.below B1.out hD) (HI'.out.below B1.out hD) (by omega) (by omega)).mono ?_
  rintro e w2 ⟨rfl, b2⟩
  have zA := ZA.out.below b2 ZA.out.lt; have zB := ZB.out.below b2 ZB.out.lt
  have ZA2 := Lib.hid zA; have ZB2 := Lib.hid zB
  have B2 := Lib.hid (B1.out.trans (b2.mono B1.out.size))
  have hsz2 := b2.size
  have a3 := zA.cell 3; have a4 := zA.cell 4; have a5 := zA.cell 5; have a6 := zA.cell 6; have a7 := zA.cell 7; have a8 := zA.cell 8
  have p3 := zB.cell 3; have p4 := zB.cell 4; have p5 := zB.cell 5; have p6 := zB.cell 6; have p7 := zB.cell 7; have p8 := zB.cell 8
  simp only [List.getElem?_toArray, List.getElem?_cons_zero, List.getElem?_cons_succ] at a3 a4 a5 a6 a7 a8 p3 p4 p5 p6 p7 p8
  clear zA zB b2 ZA ZB B1 HI HI' a2 p2
  go_wp2_with fail
  refine (eqzones _ D0 D0 Az Az' nz cz cz' lz (HZ.out.below B2.out hD) (HZ'.out.below B2.out hD) (by omega) (by omega)).mono ?_
  rintro e w3 ⟨rfl, b3⟩
  have a9 := (ZA2.out.below b3 ZA2.out.lt).cell 9; have p9 := (ZB2.out.below b3 ZB2.out.lt).cell 9
  simp only [List.getElem?_toArray, List.getElem?_cons_zero, List.getElem?_cons_succ] at a9 p9
  have B3 := Lib.hid (B2.out.trans (b3.mono B2.out.size))
  clear b3 ZA2 ZB2 B2 HZ HZ' a3 a4 a5 a6 a7 a8 p3 p4 p5 p6 p7 p8
  go_wp2
  go_ret
  exact ⟨rfl, B3.out⟩
end Go.Proofs.YtffjkdbnkljmhaaDoor
