/- The program's ring buffer of nodes (put, take). -/
import Derived.Test.YtclillkneadplaaWords
import Derived.Test.YtclillkneadplaaSlices
import Derived.Test.YtclillkneadplaaChecked
import Derived.WalkKit
import Derived.ProofKit
import Derived.Lib.Hide
import Derived.BigQuiet
import Derived.Deep.CutBlock
namespace Go.Proofs.Ytclillkneadplaa
open Go.ChangeShapes Go.WideShapes Go.ChangeAt Go.RowKit
set_option linter.unusedVariables false
/-- block q is a ring: 11 places, the head, the count -/
structure Rg (w : World) (q : Nat) (ps : List Int) (h c : Nat) : Prop where
  len : ps.length = 11
  hh : h < 11
  blk : Blk w q 49 (iv ps ++ [Value.int .i64 (h : Nat), Value.int .i64 (c : Nat)]).toArray
section
variable {w w' : World} {q h c : Nat} {ps : List Int}
theorem Rg.at_ (hr : Rg w q ps h c) (i : Nat) (hi : i < ps.length) : w.cell? ⟨q, i, none⟩ = some (.int .i64 ps[i]) := by
  rw [hr.blk.cell]
  simp [iv, List.getElem?_append, hi]
theorem Rg.head (hr : Rg w q ps h c) : w.cell? ⟨q, 11, none⟩ = some (.int .i64 (h : Nat)) := by
  rw [hr.blk.cell]
  have := hr.len
  simp [iv, this]
theorem Rg.count (hr : Rg w q ps h c) : w.cell? ⟨q, 12, none⟩ = some (.int .i64 (c : Nat)) := by
  rw [hr.blk.cell]
  have := hr.len
  simp [iv, this]
theorem Rg.setP (hr : Rg w q ps h c) (i : Nat) (hi : i < 11) (x : Int) : Rg (w.setCell ⟨q, i, none⟩ (.int .i64 x)) q (ps.set i x) h c := by
  refine ⟨by rw [List.length_set]; exact hr.len, hr.hh, ?_⟩
  have h1 := hr.blk.set_ i (.int .i64 x)
  have e : ((iv ps ++ [Value.int .i64 (h : Nat), Value.int .i64 (c : Nat)]).toArray.setIfInBounds i (.int .i64 x)) = (iv (ps.set i x) ++ [Value.int .i64 (h : Nat), Value.int .i64 (c : Nat)]).toArray := by
    rw [List.setIfInBounds_toArray, List.set_append_left _ _ (by rw [iv_len, hr.len]; exact hi)]
    simp [iv, List.map_set]
  rw [e] at h1; exact h1
theorem Rg.setC (hr : Rg w q ps h c) (v : Int) (c' : Nat) (hv : v = c') : Rg (w.setCell ⟨q, 12, none⟩ (.int .i64 v)) q ps h c' := by
  refine ⟨hr.len, hr.hh, ?_⟩
  subst hv
  have h1 := hr.blk.set_ 12 (.int .i64 (c' : Nat))
  have e : ((iv ps ++ [Value.int .i64 (h : Nat), Value.int .i64 (c : Nat)]).toArray.setIfInBounds 12 (.int .i64 (c' : Nat))) = (iv ps ++ [Value.int .i64 (h : Nat), Value.int .i64 (c' : Nat)]).toArray := by
    rw [List.setIfInBounds_toArray, List.set_append_right _ _ (by rw [iv_len, hr.len]; omega), iv_len, hr.len]
    rfl
  rw [e] at h1; exact h1
theorem Rg.setH (hr : Rg w q ps h c) (v : Int) (h' : Nat) (hv : v = h') (hl : h' < 11) : Rg (w.setCell ⟨q, 11, none⟩ (.int .i64 v)) q ps h' c := by
  refine ⟨hr.len, hl, ?_⟩
  subst hv
  have h1 := hr.blk.set_ 11 (.int .i64 (h' : Nat))
  have e : ((iv ps ++ [Value.int .i64 (h : Nat), Value.int .i64 (c : Nat)]).toArray.setIfInBounds 11 (.int .i64 (h' : Nat))) = (iv ps ++ [Value.int .i64 (h' : Nat), Value.int .i64 (c : Nat)]).toArray := by
    rw [List.setIfInBounds_toArray, List.set_append_right _ _ (by rw [iv_len, hr.len]; omega), iv_len, hr.len]
    rfl
  rw [e] at h1; exact h1
theorem Rg.drew (hr : Rg w q ps h c) : Rg w.drew q ps h c := ⟨hr.len, hr.hh, hr.blk.drew⟩
theorem Rg.drewN (hr : Rg w q ps h c) (n : Nat) : Rg (w.drewN n) q ps h c := ⟨hr.len, hr.hh, hr.blk.drewN n⟩
end
set_option maxRecDepth 100000 in
set_option maxHeartbeats 1000000 in
theorem iput (w : World) (q h c : Nat) (ps : List Int) (x : Int) (hr : Rg w q ps h c) (hc : c < 11) :
    Calls Try.prog 33 #[.pointer (some ⟨q, 0, none⟩), .int .i64 x] w fun e w' => e = .returned (.tuple #[]) ∧ Rg w' q (ps.set ((h + c) % 11) x) h (c + 1) ∧ Turn q w w' := by
  have hil : (h + c) % 11 < 11 := by omega
  have hlen := hr.len; have hh := hr.hh
  have c0 := hr.at_ ((h + c) % 11) (by omega)
  have c1 := hr.head; have c2 := hr.count
  have f0 := hr.blk.frozen ((h + c) % 11)
  have r1 := (hr.setP ((h + c) % 11) hil x).drew
  have t1 := ((Turn.refl q w).set_ ((h + c) % 11) (.int .i64 x)).drew
  obtain ⟨W1, hW1⟩ : ∃ W, W = (w.setCell ⟨q, (h + c) % 11, none⟩ (.int .i64 x)).drew := ⟨_, rfl⟩
  rw [← hW1] at r1 t1
  have d2 := r1.count; have g2 := r1.blk.frozen 12
  have HR := Lib.hid r1; have HT := Lib.hid t1
  clear hr r1 t1
  go_enter Try.func33, Try.ntmps33
  go_wp2_with fail
  go_region
  go_upto_region 1 with fail
  rw [← hW1]
  clear hW1 c0 c1 c2 f0
  go_wp2_with fail
  go_end0
  exact ⟨rfl, HR.out.setC _ _ (by omega), HT.out.set_ _ _⟩
set_option maxRecDepth 100000 in
set_option maxHeartbeats 1000000 in
theorem itake (w : World) (q h c : Nat) (ps : List Int) (hr : Rg w q ps h (c + 1)) (hc : c < 100) :
    Calls Try.prog 35 #[.pointer (some ⟨q, 0, none⟩)] w fun e w' => (∃ (hl : h < ps.length), e = .returned (.int .i64 ps[h])) ∧ Rg w' q ps ((h + 1) % 11) c ∧ Turn q w w' := by
  have hlen := hr.len; have hh := hr.hh
  have hl : h < ps.length := by omega
  have c0 := hr.at_ h hl
  have c1 := hr.head; have c2 := hr.count
  obtain ⟨z, hz⟩ : ∃ z, z = ps[h] := ⟨_, rfl⟩
  rw [← hz] at c0
  have HZ : Hid (∃ (hl : h < ps.length), (Ending.returned (.int .i64 z)) = .returned (.int .i64 ps[h])) := Lib.hid ⟨hl, by rw [hz]⟩
  clear hz
  have HR := Lib.hid hr
  have f1 := hr.blk.frozen 11; have f2 := hr.blk.frozen 12
  clear hr
  go_enter Try.func35, Try.ntmps35
  go_wp2_with fail
  go_quiet (fail)
  go_wp2_with fail
  go_ret
  exact ⟨HZ.out, ((HR.out.drewN nq).setH _ ((h + 1) % 11) (by omega) (by omega)).setC _ c rfl, (((Turn.refl q w).drewN nq).set_ 11 _).set_ 12 _⟩
end Go.Proofs.Ytclillkneadplaa
