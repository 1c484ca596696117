/- The contracts of the program's mergeSpans, JoinSpans, MeetSpans, CutSpans, TicksOf. -/
import Derived.Test.YtffjkdbnkljmhaaDoorTicksIn
import Derived.Test.YtffjkdbnkljmhaaDoorSpansOf
import Derived.Deep.RegionHeld3
namespace Go.Proofs.YtffjkdbnkljmhaaDoor
open Go.ChangeShapes Go.WideShapes Go.ChangeAt Go.RowKit
set_option linter.unusedVariables false
set_option maxRecDepth 100000 in
theorem imerge0 (w : World) (D D' : Nat) (A A' : Option Addr) (n n' c c' : Nat) (l l' : List (Int × Int)) (h : Sl w D 2 A n c (sv l)) (h' : Sl w D' 2 A' n' c' (sv l')) (hD : D ≤ w.heap.size) (hD' : D' ≤ w.heap.size) :
    Calls Tryd.prog 114 #[.int .i64 0, .slice A n c, .slice A' n' c'] w (GivesS w (runs (fun k => tk l k ||tk l' k) 1000)) := by
  obtain ⟨S, hS⟩ : ∃ S, S = tk l := ⟨_, rfl⟩
  obtain ⟨T, hT⟩ : ∃ T, T = tk l' := ⟨_, rfl⟩
  rw [← hS, ← hT]
  obtain ⟨U, hU⟩ : ∃ U : Nat → Bool, U = fun k => S k ||T k := ⟨_, rfl⟩
  rw [← hU]
  have H : Hid (∀ {w' : World}, Below w.heap.size w w' → Calls Tryd.prog 123 #[.slice A n c] w' (Sets w' S)) := Lib.hid fun hb => by rw [hS]; exact iticks _ D A n c l (h.below hb hD) (Nat.le_trans hD hb.size)
  have H' : Hid (∀ {w' : World}, Below w.heap.size w w' → Calls Tryd.prog 123 #[.slice A' n' c'] w' (Sets w' T)) := Lib.hid fun hb => by rw [hT]; exact iticks _ D' A' n' c' l' (h'.below hb hD') (Nat.le_trans hD' hb.size)
  have HF : Hid (∀ w' : World, Calls Tryd.prog 120 #[.agg (wv S), .agg (wv T)] w' (Sets w' U)) := Lib.hid fun w' => by rw [hU]; exact ior w' S T
  clear hS hT hU h h'
  have HC : Hid (∀ {w' : World}, Below (w.heap.size + 1) (w.alloc (.cells #[.func (.func 120) #[] #[], .func (.func 121) #[] #[], .func (.func 122) #[] #[]] 156)) w' → w'.cell? ⟨w.heap.size, 0, none⟩ = some (.func (.func 120) #[] #[]) ∧ Below w.heap.size w w') :=
    Lib.hid fun hb => ⟨((Blk.new w _ _).below hb (by omega)).cell 0, ((Below.refl w.heap.size w).alloc (Nat.le_refl _) _).trans (hb.mono (by omega))⟩
  have HB0 : Hid (Below (w.heap.size + 1) (w.alloc (.cells #[.func (.func 120) #[] #[], .func (.func 121) #[] #[], .func (.func 122) #[] #[]] 156)) (w.alloc (.cells #[.func (.func 120) #[] #[], .func (.func 121) #[] #[], .func (.func 122) #[] #[]] 156))) := Lib.hid (Below.refl _ _)
  have HD0 := Lib.hid HB0.out.drew
  have k0 := (HC.out HB0.out).1
  have hs1 : w.heap.size + 1 ≤ w.heap.size + 1 := Nat.le_refl _
  go_enter Tryd.func114, Tryd.ntmps114
  go_wp2
  go_region_held3 (fun w' => w'.cell? ⟨w.heap.size, 0, none⟩ = some (.func (.func 120) #[] #[])) (first | assumption | go_keep) (first
    | (go_at_call_of 123 (Value.slice A n c); refine (H.out (HC.out HD0.out).2).mono ?_; rintro e wA ⟨rfl, bA⟩; have HA := Lib.hid (HD0.out.trans (bA.mono (by simp))); have kA := (HC.out HA.out).1; have sA := HA.out.size; clear bA)
    | (go_at_call_of 123 (Value.slice A' n' c'); refine (H'.out (HC.out HA.out).2).mono ?_; rintro e wB ⟨rfl, bB⟩; have HB := Lib.hid (HA.out.trans (bB.mono (by simpa using sA))); have kB := (HC.out HB.out).1; have sB := HB.out.size; clear bB)
    | (go_at_call 120; refine (HF.out _).mono ?_; rintro e wC ⟨rfl, bC⟩; have HCc := Lib.hid (HB.out.trans (bC.mono (by simpa using sB))); have kC := (HC.out HCc.out).1; have sC := HCc.out.size; clear bC)
    | (go_at_call 124; refine (ispans _ U).mono ?_; rintro e wD ⟨A2, n2, c2, rfl, oD, bD⟩; have HDd := Lib.hid (HCc.out.trans (bD.mono (by simpa using sC))); have kD := (HC.out HDd.out).1; have OD := Lib.hid (oD.fewer (show w.heap.size ≤ wC.heap.size by simp at sC; omega)); clear bD oD))
  go_wp2
  go_ret
  exact ⟨A2, n2, c2, rfl, OD.out, (HC.out HDd.out).2⟩
set_option maxRecDepth 100000 in
theorem imerge1 (w : World) (D D' : Nat) (A A' : Option Addr) (n n' c c' : Nat) (l l' : List (Int × Int)) (h : Sl w D 2 A n c (sv l)) (h' : Sl w D' 2 A' n' c' (sv l')) (hD : D ≤ w.heap.size) (hD' : D' ≤ w.heap.size) :
    Calls Tryd.prog 114 #[.int .i64 1, .slice A n c, .slice A' n' c'] w (GivesS w (runs (fun k => tk l k &&tk l' k) 1000)) := by
  obtain ⟨S, hS⟩ : ∃ S, S = tk l := ⟨_, rfl⟩
  obtain ⟨T, hT⟩ : ∃ T, T = tk l' := ⟨_, rfl⟩
  rw [← hS, ← hT]
  obtain ⟨U, hU⟩ : ∃ U : Nat → Bool, U = fun k => S k &&T k := ⟨_, rfl⟩
  rw [← hU]
  have H : Hid (∀ {w' : World}, Below w.heap.size w w' → Calls Tryd.prog 123 #[.slice A n c] w' (Sets w' S)) := Lib.hid fun hb => by rw [hS]; exact iticks _ D A n c l (h.below hb hD) (Nat.le_trans hD hb.size)
  have H' : Hid (∀ {w' : World}, Below w.heap.size w w' → Calls Tryd.prog 123 #[.slice A' n' c'] w' (Sets w' T)) := Lib.hid fun hb => by rw [hT]; exact iticks _ D' A' n' c' l' (h'.below hb hD') (Nat.le_trans hD' hb.size)
  have HF : Hid (∀ w' : World, Calls Tryd.prog 121 #[.agg (wv S), .agg (wv T)] w' (Sets w' U)) := Lib.hid fun w' => by rw [hU]; exact iand w' S T
  clear hS hT hU h h'
  have HC : Hid (∀ {w' : World}, Below (w.heap.size + 1) (w.alloc (.cells #[.func (.func 120) #[] #[], .func (.func 121) #[] #[], .func (.func 122) #[] #[]] 156)) w' → w'.cell? ⟨w.heap.size, 1, none⟩ = some (.func (.func 121) #[] #[]) ∧ Below w.heap.size w w') :=
    Lib.hid fun hb => ⟨((Blk.new w _ _).below hb (by omega)).cell 1, ((Below.refl w.heap.size w).alloc (Nat.le_refl _) _).trans (hb.mono (by omega))⟩
  have HB0 : Hid (Below (w.heap.size + 1) (w.alloc (.cells #[.func (.func 120) #[] #[], .func (.func 121) #[] #[], .func (.func 122) #[] #[]] 156)) (w.alloc (.cells #[.func (.func 120) #[] #[], .func (.func 121) #[] #[], .func (.func 122) #[] #[]] 156))) := Lib.hid (Below.refl _ _)
  have HD0 := Lib.hid HB0.out.drew
  have k0 := (HC.out HB0.out).1
  have hs1 : w.heap.size + 1 ≤ w.heap.size + 1 := Nat.le_refl _
  go_enter Tryd.func114, Tryd.ntmps114
  go_wp2
  go_region_held3 (fun w' => w'.cell? ⟨w.heap.size, 1, none⟩ = some (.func (.func 121) #[] #[])) (first | assumption | go_keep) (first
    | (go_at_call_of 123 (Value.slice A n c); refine (H.out (HC.out HD0.out).2).mono ?_; rintro e wA ⟨rfl, bA⟩; have HA := Lib.hid (HD0.out.trans (bA.mono (by simp))); have kA := (HC.out HA.out).1; have sA := HA.out.size; clear bA)
    | (go_at_call_of 123 (Value.slice A' n' c'); refine (H'.out (HC.out HA.out).2).mono ?_; rintro e wB ⟨rfl, bB⟩; have HB := Lib.hid (HA.out.trans (bB.mono (by simpa using sA))); have kB := (HC.out HB.out).1; have sB := HB.out.size; clear bB)
    | (go_at_call 121; refine (HF.out _).mono ?_; rintro e wC ⟨rfl, bC⟩; have HCc := Lib.hid (HB.out.trans (bC.mono (by simpa using sB))); have kC := (HC.out HCc.out).1; have sC := HCc.out.size; clear bC)
    | (go_at_call 124; refine (ispans _ U).mono ?_; rintro e wD ⟨A2, n2, c2, rfl, oD, bD⟩; have HDd := Lib.hid (HCc.out.trans (bD.mono (by simpa using sC))); have kD := (HC.out HDd.out).1; have OD := Lib.hid (oD.fewer (show w.heap.size ≤ wC.heap.size by simp at sC; omega)); clear bD oD))
  go_wp2
  go_ret
  exact ⟨A2, n2, c2, rfl, OD.out, (HC.out HDd.out).2⟩
set_option maxRecDepth 100000 in
theorem imerge2 (w : World) (D D' : Nat) (A A' : Option Addr) (n n' c c' : Nat) (l l' : List (Int × Int)) (h : Sl w D 2 A n c (sv l)) (h' : Sl w D' 2 A' n' c' (sv l')) (hD : D ≤ w.heap.size) (hD' : D' ≤ w.heap.size) :
    Calls Tryd.prog 114 #[.int .i64 2, .slice A n c, .slice A' n' c'] w (GivesS w (runs (fun k => tk l k &&!tk l' k) 1000)) := by
  obtain ⟨S, hS⟩ : ∃ S, S = tk l := ⟨_, rfl⟩
  obtain ⟨T, hT⟩ : ∃ T, T = tk l' := ⟨_, rfl⟩
  rw [← hS, ← hT]
  obtain ⟨U, hU⟩ : ∃ U : Nat → Bool, U = fun k => S k &&!T k := ⟨_, rfl⟩
  rw [← hU]
  have H : Hid (∀ {w' : World}, Below w.heap.size w w' → Calls Tryd.prog 123 #[.slice A n c] w' (Sets w' S)) := Lib.hid fun hb => by rw [hS]; exact iticks _ D A n c l (h.below hb hD) (Nat.le_trans hD hb.size)
  have H' : Hid (∀ {w' : World}, Below w.heap.size w w' → Calls Tryd.prog 123 #[.slice A' n' c'] w' (Sets w' T)) := Lib.hid fun hb => by rw [hT]; exact iticks _ D' A' n' c' l' (h'.below hb hD') (Nat.le_trans hD' hb.size)
  have HF : Hid (∀ w' : World, Calls Tryd.prog 122 #[.agg (wv S), .agg (wv T)] w' (Sets w' U)) := Lib.hid fun w' => by rw [hU]; exact iwithout w' S T
  clear hS hT hU h h'
  have HC : Hid (∀ {w' : World}, Below (w.heap.size + 1) (w.alloc (.cells #[.func (.func 120) #[] #[], .func (.func 121) #[] #[], .func (.func 122) #[] #[]] 156)) w' → w'.cell? ⟨w.heap.size, 2, none⟩ = some (.func (.func 122) #[] #[]) ∧ Below w.heap.size w w') :=
    Lib.hid fun hb => ⟨((Blk.new w _ _).below hb (by omega)).cell 2, ((Below.refl w.heap.size w).alloc (Nat.le_refl _) _).trans (hb.mono (by omega))⟩
  have HB0 : Hid (Below (w.heap.size + 1) (w.alloc (.cells #[.func (.func 120) #[] #[], .func (.func 121) #[] #[], .func (.func 122) #[] #[]] 156)) (w.alloc (.cells #[.func (.func 120) #[] #[], .func (.func 121) #[] #[], .func (.func 122) #[] #[]] 156))) := Lib.hid (Below.refl _ _)
  have HD0 := Lib.hid HB0.out.drew
  have k0 := (HC.out HB0.out).1
  have hs1 : w.heap.size + 1 ≤ w.heap.size + 1 := Nat.le_refl _
  go_enter Tryd.func114, Tryd.ntmps114
  go_wp2
  go_region_held3 (fun w' => w'.cell? ⟨w.heap.size, 2, none⟩ = some (.func (.func 122) #[] #[])) (first | assumption | go_keep) (first
    | (go_at_call_of 123 (Value.slice A n c); refine (H.out (HC.out HD0.out).2).mono ?_; rintro e wA ⟨rfl, bA⟩; have HA := Lib.hid (HD0.out.trans (bA.mono (by simp))); have kA := (HC.out HA.out).1; have sA := HA.out.size; clear bA)
    | (go_at_call_of 123 (Value.slice A' n' c'); refine (H'.out (HC.out HA.out).2).mono ?_; rintro e wB ⟨rfl, bB⟩; have HB := Lib.hid (HA.out.trans (bB.mono (by simpa using sA))); have kB := (HC.out HB.out).1; have sB := HB.out.size; clear bB)
    | (go_at_call 122; refine (HF.out _).mono ?_; rintro e wC ⟨rfl, bC⟩; have HCc := Lib.hid (HB.out.trans (bC.mono (by simpa using sB))); have kC := (HC.out HCc.out).1; have sC := HCc.out.size; clear bC)
    | (go_at_call 124; refine (ispans _ U).mono ?_; rintro e wD ⟨A2, n2, c2, rfl, oD, bD⟩; have HDd := Lib.hid (HCc.out.trans (bD.mono (by simpa using sC))); have kD := (HC.out HDd.out).1; have OD := Lib.hid (oD.fewer (show w.heap.size ≤ wC.heap.size by simp at sC; omega)); clear bD oD))
  go_wp2
  go_ret
  exact ⟨A2, n2, c2, rfl, OD.out, (HC.out HDd.out).2⟩
end Go.Proofs.YtffjkdbnkljmhaaDoor
