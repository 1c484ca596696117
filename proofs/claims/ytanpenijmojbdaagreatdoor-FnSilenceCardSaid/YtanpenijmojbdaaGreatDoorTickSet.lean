/- The contracts of the program's sets of ticks: the library's count of bits, has, or, and, without. The contract of the program's ticksIn: the set of the ticks of a list. -/
import Derived.Test.YtanpenijmojbdaaGreatDoorSpanPut
import Derived.Test.YtanpenijmojbdaaGreatDoorBits64
import Derived.IntWalk
import Derived.RegionTactic
import Derived.Deep.WholeRow
import Derived.StillTailTactics
import Derived.LoopTactic
import Derived.Laws.Bits128
namespace Go.Proofs.YtanpenijmojbdaaGreatDoor
open Go.ChangeShapes Go.WideShapes Go.ChangeAt Go.RowKit
set_option linter.unusedVariables false
theorem wrap_u64_of (n : Nat) (h : n < 18446744073709551616) : IntKind.u64.wrap (n : Int) = (n : Int) := by rw [IntKind.wrap_u64]; omega
theorem wdl_andNot64 (S T : Nat → Bool) (a n : Nat) (h : n = 64) : wdl S a n &&& (18446744073709551615 - wdl T a n) = wdl (fun k => S k && !T k) a n := by
  subst h; exact wdl_andNot S T a 64
/-- a whole row stored into a block from B on -/
theorem below_setRow {B g : Nat} {a w : World} {cs : Array Value} (h : Below B a w) (hg : B ≤ g) : Below B a (w.setRow g cs) :=
  ⟨h.os, h.tape, h.output, by simpa using h.size, fun k hk => (setRow_other w g k cs (by omega)).trans (h.block k hk)⟩
theorem zero_tick : (∀ w, (zeroValue 145).run Tryz.prog w = .ok (.agg (wv fun _ => false)) w) ∧ (Tryz.prog.info? 145).map (·.size) = some 16 := zero_of_info (by kernel_rfl)
/-- what a function that answers a set of ticks answers -/
def Sets (w : World) (S : Nat → Bool) (e : Ending) (w' : World) : Prop := e = .returned (.agg (wv S)) ∧ Below w.heap.size w w'
theorem ihas (w : World) (S : Nat → Bool) (t : Nat) (ht : t < 1024) (b : Bool) (hb : S t = b) :
    Calls Tryz.prog 118 #[.agg (wv S), .int .i64 t] w (Says w b) := by
  have HB : Hid (Blk (w.alloc (.cells (wv S) 145)) w.heap.size 145 (wv S)) := Lib.hid (Blk.new _ _ _)
  have hc : (w.alloc (.cells (wv S) 145)).cell? ⟨w.heap.size, t / 64, none⟩ = some (.int .u64 (wd S (t / 64) : Nat)) := by
    rw [HB.out.cell]; exact cells16_at _ _ (by omega)
  have hv : Hid ((bits BinOp.and IntKind.u64 ((wd S (t / 64) : Int) / 2 ^ (t % 64)) 1 == 1) = b) := by
    have h1 := wd_has S t
    have h2 := wd_lt S (t / 64)
    have h3 : wd S (t / 64) / 2 ^ (t % 64) < 18446744073709551616 := Nat.lt_of_le_of_lt (Nat.div_le_self _ _) h2
    have h4 := u64_and_nat (wd S (t / 64) / 2 ^ (t % 64)) 1 h3 (by omega)
    rw [Nat.and_one_is_mod, h1, hb] at h4
    have h5 : ((wd S (t / 64) : Int) / 2 ^ (t % 64)) = ((wd S (t / 64) / 2 ^ (t % 64) : Nat) : Int) := by rw [Int.natCast_ediv, Int.natCast_pow]; rfl
    refine Lib.hid ?_
    rw [h5]
    rw [show ((1 : Nat) : Int) = 1 from rfl] at h4
    rw [h4]
    cases b <;> rfl
  go_enter Tryz.func118, Tryz.ntmps118
  go_wp2
  go_ret
  exact ⟨ret_bool hv.out, (Below.refl _ _).alloc (Nat.le_refl _) _⟩
theorem mix_at (f h : Nat → Nat) (k i : Nat) (hi : i < 16) : (cells16 (fun j => if j < k then f j else h j))[i]? = some (.int .u64 ((if i < k then f i else h i : Nat) : Nat)) := cells16_at _ _ hi
theorem ior (w : World) (S T : Nat → Bool) :
    Calls Tryz.prog 94 #[.agg (wv S), .agg (wv T)] w (Sets w (fun k => S k ||T k)) := by
  obtain ⟨zc, hzc⟩ : ∃ zc : Array Value, zc = #[Value.int IntKind.u64 0, Value.int IntKind.u64 0, Value.int IntKind.u64 0, Value.int IntKind.u64 0,
          Value.int IntKind.u64 0, Value.int IntKind.u64 0, Value.int IntKind.u64 0, Value.int IntKind.u64 0,
          Value.int IntKind.u64 0, Value.int IntKind.u64 0, Value.int IntKind.u64 0, Value.int IntKind.u64 0,
          Value.int IntKind.u64 0, Value.int IntKind.u64 0, Value.int IntKind.u64 0, Value.int IntKind.u64 0] := ⟨_, rfl⟩
  obtain ⟨U, hU⟩ : ∃ U : Nat → Bool, U = fun k => S k ||T k := ⟨_, rfl⟩
  rw [← hU]
  have HU : Hid (∀ i, bits .or .u64 (wd S i : Int) (wd T i : Int) = (wd U i : Int)) := Lib.hid fun i => by rw [u64_or_nat _ _ (wd_lt S i) (wd_lt T i), hU]; exact congrArg (fun n : Nat => (n : Int)) (by first | exact wdl_or S T _ 64 | exact wdl_andNot64 S T _ 64 rfl)
  clear hU
  have h0 : Hid (Blk (((w.alloc (.cells (wv S) 145)).alloc (.cells (wv T) 145)).alloc (.cells zc 145)) w.heap.size 145 (cells16 (fun j => if j < 0 then wd U j else wd S j)) ∧
      Blk (((w.alloc (.cells (wv S) 145)).alloc (.cells (wv T) 145)).alloc (.cells zc 145)) (w.heap.size + 1) 145 (wv T) ∧
      Blk (((w.alloc (.cells (wv S) 145)).alloc (.cells (wv T) 145)).alloc (.cells zc 145)) (w.heap.size + 1 + 1) 145 zc ∧
      Below w.heap.size w (((w.alloc (.cells (wv S) 145)).alloc (.cells (wv T) 145)).alloc (.cells zc 145))) := by
    refine Lib.hid ⟨?_, ?_, ?_, ?_⟩
    · have h1 : cells16 (fun j => if j < 0 then wd U j else wd S j) = wv S := cells16_congr _ _ fun i _ => by rw [if_neg (by omega)]
      rw [h1]
      exact ((Blk.new w _ _).alloc _).alloc _
    · rw [show w.heap.size + 1 = (w.alloc (.cells (wv S) 145)).heap.size by simp]
      exact (Blk.new (w.alloc _) _ _).alloc _
    · rw [show w.heap.size + 1 + 1 = ((w.alloc (.cells (wv S) 145)).alloc (.cells (wv T) 145)).heap.size by simp]
      exact Blk.new _ _ _
    · exact (((Below.refl _ _).alloc (Nat.le_refl _) _).alloc (by simp) _).alloc (by simp; omega) _
  have HZ : Hid (zc.size = 16) := Lib.hid (by rw [hzc]; rfl)
  go_enter Tryz.func94, Tryz.ntmps94
  go_wp2
  rw [← hzc]
  clear hzc
  go_loopw [6] (fun i wr => ∃ k : Nat, k ≤ 16 ∧ i = .int .i64 k ∧ Blk wr w.heap.size 145 (cells16 (fun j => if j < k then wd U j else wd S j)) ∧ Blk wr (w.heap.size + 1) 145 (wv T) ∧ Blk wr (w.heap.size + 1 + 1) 145 zc ∧ Below w.heap.size w wr) (fun i _ => 16 - (intOf i).toNat)
  case atStart => exact ⟨0, by omega, rfl, h0.out⟩
  case round =>
    clear h0
    obtain ⟨k, hk, rfl, h1, h2, h3, hb⟩ := hrel
    by_cases hlt : k < 16
    · have hc1 : wr.cell? ⟨w.heap.size, k, none⟩ = some (.int .u64 (wd S k : Nat)) := by rw [h1.cell, mix_at _ _ _ _ hlt, if_neg (by omega)]
      have hc2 : wr.cell? ⟨w.heap.size + 1, k, none⟩ = some (.int .u64 (wd T k : Nat)) := by rw [h2.cell]; exact cells16_at _ _ hlt
      have hf := h1.frozen k
      have ho : bits .or .u64 (wd S k : Int) (wd T k : Int) = (wd U k : Int) := HU.out k
      have H1 : Hid (Blk (wr.setCell ⟨w.heap.size, k, none⟩ (.int .u64 (wd U k : Nat))) w.heap.size 145 (cells16 (fun j => if j < k + 1 then wd U j else wd S j))) := by
        refine Lib.hid ?_
        have h4 := h1.set_ k (.int .u64 (wd U k : Nat))
        rw [cells16_set _ _ _ hlt] at h4
        have h5 : cells16 (fun j => if j = k then wd U k else if j < k then wd U j else wd S j) = cells16 (fun j => if j < k + 1 then wd U j else wd S j) := cells16_congr _ _ fun i _ => by
          by_cases h6 : i = k
          · subst h6; rw [if_pos rfl, if_pos (by omega)]
          · rw [if_neg h6]
            by_cases h7 : i < k
            · rw [if_pos h7, if_pos (by omega)]
            · rw [if_neg h7, if_neg (by omega)]
        rw [h5] at h4; exact h4
      have H2 := Lib.hid (h2.far (p := ⟨w.heap.size, k, none⟩) (by simp) (.int .u64 (wd U k : Nat)))
      have H3 := Lib.hid (h3.far (p := ⟨w.heap.size, k, none⟩) (by simp; omega) (.int .u64 (wd U k : Nat)))
      have HB := Lib.hid (hb.setCell (p := ⟨w.heap.size, k, none⟩) (Nat.le_refl _) (.int .u64 (wd U k : Nat)))
      clear h1 h2 h3 hb
      go_wp2
      go_region
      go_wp2
      go_roundw
      case rel => exact ⟨k + 1, by omega, by go_num, H1.out, H2.out, H3.out, HB.out.drew⟩
      case measure => simp [intOf]; omega
    · obtain rfl : k = 16 := by omega
      have h4 : cells16 (fun j => if j < 16 then wd U j else wd S j) = wv U := cells16_congr _ _ fun i hi => if_pos hi
      rw [h4] at h1
      have H1 := Lib.hid h1; have H3 := Lib.hid h3
      have HW : Hid ((wr.setRow (w.heap.size + 1 + 1) (wv U)).heap[w.heap.size + 1 + 1]? = some (.cells (wv U) 145 (0, 0)) ∧ Below w.heap.size w (wr.setRow (w.heap.size + 1 + 1) (wv U))) :=
        Lib.hid ⟨setRow_heap _ _ _ _ _ _ h3, below_setRow hb (by omega)⟩
      clear h1 h2 h3 hb h4
      go_wp2_with (first
        | (refine wpList_load_row rfl 145 (.tmp 2) rfl w.heap.size rfl 145 (wv U) (0, 0) _ H1.out Tryz.underlying145 rfl (by rw [zero_tick.2, wv, cells16_size]) ?_)
        | (refine wpList_store_row rfl 145 (.tmp 4) (.tmp 18) rfl (w.heap.size + 1 + 1) (wv U) rfl rfl 145 zc H3.out (by rw [zero_tick.2, wv, cells16_size]) (by rw [HZ.out, wv, cells16_size]) (cells16_one _) ?_))
      exact bodyPost_ret (v := .agg (wv U)) (results_cell_row (p := 4) (ty := 145) rfl _ _ (w.heap.size + 1 + 1) 145 (wv U) (0, 0) _ rfl HW.out.1 Tryz.underlying145 rfl (by rw [zero_tick.2, wv, cells16_size])) rfl ⟨rfl, HW.out.2⟩
theorem iand (w : World) (S T : Nat → Bool) :
    Calls Tryz.prog 95 #[.agg (wv S), .agg (wv T)] w (Sets w (fun k => S k &&T k)) := by
  obtain ⟨zc, hzc⟩ : ∃ zc : Array Value, zc = #[Value.int IntKind.u64 0, Value.int IntKind.u64 0, Value.int IntKind.u64 0, Value.int IntKind.u64 0,
          Value.int IntKind.u64 0, Value.int IntKind.u64 0, Value.int IntKind.u64 0, Value.int IntKind.u64 0,
          Value.int IntKind.u64 0, Value.int IntKind.u64 0, Value.int IntKind.u64 0, Value.int IntKind.u64 0,
          Value.int IntKind.u64 0, Value.int IntKind.u64 0, Value.int IntKind.u64 0, Value.int IntKind.u64 0] := ⟨_, rfl⟩
  obtain ⟨U, hU⟩ : ∃ U : Nat → Bool, U = fun k => S k &&T k := ⟨_, rfl⟩
  rw [← hU]
  have HU : Hid (∀ i, bits .and .u64 (wd S i : Int) (wd T i : Int) = (wd U i : Int)) := Lib.hid fun i => by rw [u64_and_nat _ _ (wd_lt S i) (wd_lt T i), hU]; exact congrArg (fun n : Nat => (n : Int)) (by first | exact wdl_and S T _ 64 | exact wdl_andNot64 S T _ 64 rfl)
  clear hU
  have h0 : Hid (Blk (((w.alloc (.cells (wv S) 145)).alloc (.cells (wv T) 145)).alloc (.cells zc 145)) w.heap.size 145 (cells16 (fun j => if j < 0 then wd U j else wd S j)) ∧
      Blk (((w.alloc (.cells (wv S) 145)).alloc (.cells (wv T) 145)).alloc (.cells zc 145)) (w.heap.size + 1) 145 (wv T) ∧
      Blk (((w.alloc (.cells (wv S) 145)).alloc (.cells (wv T) 145)).alloc (.cells zc 145)) (w.heap.size + 1 + 1) 145 zc ∧
      Below w.heap.size w (((w.alloc (.cells (wv S) 145)).alloc (.cells (wv T) 145)).alloc (.cells zc 145))) := by
    refine Lib.hid ⟨?_, ?_, ?_, ?_⟩
    · have h1 : cells16 (fun j => if j < 0 then wd U j else wd S j) = wv S := cells16_congr _ _ fun i _ => by rw [if_neg (by omega)]
      rw [h1]
      exact ((Blk.new w _ _).alloc _).alloc _
    · rw [show w.heap.size + 1 = (w.alloc (.cells (wv S) 145)).heap.size by simp]
      exact (Blk.new (w.alloc _) _ _).alloc _
    · rw [show w.heap.size + 1 + 1 = ((w.alloc (.cells (wv S) 145)).alloc (.cells (wv T) 145)).heap.size by simp]
      exact Blk.new _ _ _
    · exact (((Below.refl _ _).alloc (Nat.le_refl _) _).alloc (by simp) _).alloc (by simp; omega) _
  have HZ : Hid (zc.size = 16) := Lib.hid (by rw [hzc]; rfl)
  go_enter Tryz.func95, Tryz.ntmps95
  go_wp2
  rw [← hzc]
  clear hzc
  go_loopw [6] (fun i wr => ∃ k : Nat, k ≤ 16 ∧ i = .int .i64 k ∧ Blk wr w.heap.size 145 (cells16 (fun j => if j < k then wd U j else wd S j)) ∧ Blk wr (w.heap.size + 1) 145 (wv T) ∧ Blk wr (w.heap.size + 1 + 1) 145 zc ∧ Below w.heap.size w wr) (fun i _ => 16 - (intOf i).toNat)
  case atStart => exact ⟨0, by omega, rfl, h0.out⟩
  case round =>
    clear h0
    obtain ⟨k, hk, rfl, h1, h2, h3, hb⟩ := hrel
    by_cases hlt : k < 16
    · have hc1 : wr.cell? ⟨w.heap.size, k, none⟩ = some (.int .u64 (wd S k : Nat)) := by rw [h1.cell, mix_at _ _ _ _ hlt, if_neg (by omega)]
      have hc2 : wr.cell? ⟨w.heap.size + 1, k, none⟩ = some (.int .u64 (wd T k : Nat)) := by rw [h2.cell]; exact cells16_at _ _ hlt
      have hf := h1.frozen k
      have ho : bits .and .u64 (wd S k : Int) (wd T k : Int) = (wd U k : Int) := HU.out k
      have H1 : Hid (Blk (wr.setCell ⟨w.heap.size, k, none⟩ (.int .u64 (wd U k : Nat))) w.heap.size 145 (cells16 (fun j => if j < k + 1 then wd U j else wd S j))) := by
        refine Lib.hid ?_
        have h4 := h1.set_ k (.int .u64 (wd U k : Nat))
        rw [cells16_set _ _ _ hlt] at h4
        have h5 : cells16 (fun j => if j = k then wd U k else if j < k then wd U j else wd S j) = cells16 (fun j => if j < k + 1 then wd U j else wd S j) := cells16_congr _ _ fun i _ => by
          by_cases h6 : i = k
          · subst h6; rw [if_pos rfl, if_pos (by omega)]
          · rw [if_neg h6]
            by_cases h7 : i < k
            · rw [if_pos h7, if_pos (by omega)]
            · rw [if_neg h7, if_neg (by omega)]
        rw [h5] at h4; exact h4
      have H2 := Lib.hid (h2.far (p := ⟨w.heap.size, k, none⟩) (by simp) (.int .u64 (wd U k : Nat)))
      have H3 := Lib.hid (h3.far (p := ⟨w.heap.size, k, none⟩) (by simp; omega) (.int .u64 (wd U k : Nat)))
      have HB := Lib.hid (hb.setCell (p := ⟨w.heap.size, k, none⟩) (Nat.le_refl _) (.int .u64 (wd U k : Nat)))
      clear h1 h2 h3 hb
      go_wp2
      go_region
      go_wp2
      go_roundw
      case rel => exact ⟨k + 1, by omega, by go_num, H1.out, H2.out, H3.out, HB.out.drew⟩
      case measure => simp [intOf]; omega
    · obtain rfl : k = 16 := by omega
      have h4 : cells16 (fun j => if j < 16 then wd U j else wd S j) = wv U := cells16_congr _ _ fun i hi => if_pos hi
      rw [h4] at h1
      have H1 := Lib.hid h1; have H3 := Lib.hid h3
      have HW : Hid ((wr.setRow (w.heap.size + 1 + 1) (wv U)).heap[w.heap.size + 1 + 1]? = some (.cells (wv U) 145 (0, 0)) ∧ Below w.heap.size w (wr.setRow (w.heap.size + 1 + 1) (wv U))) :=
        Lib.hid ⟨setRow_heap _ _ _ _ _ _ h3, below_setRow hb (by omega)⟩
      clear h1 h2 h3 hb h4
      go_wp2_with (first
        | (refine wpList_load_row rfl 145 (.tmp 2) rfl w.heap.size rfl 145 (wv U) (0, 0) _ H1.out Tryz.underlying145 rfl (by rw [zero_tick.2, wv, cells16_size]) ?_)
        | (refine wpList_store_row rfl 145 (.tmp 4) (.tmp 18) rfl (w.heap.size + 1 + 1) (wv U) rfl rfl 145 zc H3.out (by rw [zero_tick.2, wv, cells16_size]) (by rw [HZ.out, wv, cells16_size]) (cells16_one _) ?_))
      exact bodyPost_ret (v := .agg (wv U)) (results_cell_row (p := 4) (ty := 145) rfl _ _ (w.heap.size + 1 + 1) 145 (wv U) (0, 0) _ rfl HW.out.1 Tryz.underlying145 rfl (by rw [zero_tick.2, wv, cells16_size])) rfl ⟨rfl, HW.out.2⟩
theorem iwithout (w : World) (S T : Nat → Bool) :
    Calls Tryz.prog 96 #[.agg (wv S), .agg (wv T)] w (Sets w (fun k => S k &&!T k)) := by
  obtain ⟨zc, hzc⟩ : ∃ zc : Array Value, zc = #[Value.int IntKind.u64 0, Value.int IntKind.u64 0, Value.int IntKind.u64 0, Value.int IntKind.u64 0,
          Value.int IntKind.u64 0, Value.int IntKind.u64 0, Value.int IntKind.u64 0, Value.int IntKind.u64 0,
          Value.int IntKind.u64 0, Value.int IntKind.u64 0, Value.int IntKind.u64 0, Value.int IntKind.u64 0,
          Value.int IntKind.u64 0, Value.int IntKind.u64 0, Value.int IntKind.u64 0, Value.int IntKind.u64 0] := ⟨_, rfl⟩
  obtain ⟨U, hU⟩ : ∃ U : Nat → Bool, U = fun k => S k &&!T k := ⟨_, rfl⟩
  rw [← hU]
  have HU : Hid (∀ i, bits .andNot .u64 (wd S i : Int) (wd T i : Int) = (wd U i : Int)) := Lib.hid fun i => by rw [u64_andNot_nat _ _ (wd_lt S i) (wd_lt T i), hU]; exact congrArg (fun n : Nat => (n : Int)) (by first | exact wdl_andNot S T _ 64 | exact wdl_andNot64 S T _ 64 rfl)
  clear hU
  have h0 : Hid (Blk (((w.alloc (.cells (wv S) 145)).alloc (.cells (wv T) 145)).alloc (.cells zc 145)) w.heap.size 145 (cells16 (fun j => if j < 0 then wd U j else wd S j)) ∧
      Blk (((w.alloc (.cells (wv S) 145)).alloc (.cells (wv T) 145)).alloc (.cells zc 145)) (w.heap.size + 1) 145 (wv T) ∧
      Blk (((w.alloc (.cells (wv S) 145)).alloc (.cells (wv T) 145)).alloc (.cells zc 145)) (w.heap.size + 1 + 1) 145 zc ∧
      Below w.heap.size w (((w.alloc (.cells (wv S) 145)).alloc (.cells (wv T) 145)).alloc (.cells zc 145))) := by
    refine Lib.hid ⟨?_, ?_, ?_, ?_⟩
    · have h1 : cells16 (fun j => if j < 0 then wd U j else wd S j) = wv S := cells16_congr _ _ fun i _ => by rw [if_neg (by omega)]
      rw [h1]
      exact ((Blk.new w _ _).alloc _).alloc _
    · rw [show w.heap.size + 1 = (w.alloc (.cells (wv S) 145)).heap.size by simp]
      exact (Blk.new (w.alloc _) _ _).alloc _
    · rw [show w.heap.size + 1 + 1 = ((w.alloc (.cells (wv S) 145)).alloc (.cells (wv T) 145)).heap.size by simp]
      exact Blk.new _ _ _
    · exact (((Below.refl _ _).alloc (Nat.le_refl _) _).alloc (by simp) _).alloc (by simp; omega) _
  have HZ : Hid (zc.size = 16) := Lib.hid (by rw [hzc]; rfl)
  go_enter Tryz.func96, Tryz.ntmps96
  go_wp2
  rw [← hzc]
  clear hzc
  go_loopw [6] (fun i wr => ∃ k : Nat, k ≤ 16 ∧ i = .int .i64 k ∧ Blk wr w.heap.size 145 (cells16 (fun j => if j < k then wd U j else wd S j)) ∧ Blk wr (w.heap.size + 1) 145 (wv T) ∧ Blk wr (w.heap.size + 1 + 1) 145 zc ∧ Below w.heap.size w wr) (fun i _ => 16 - (intOf i).toNat)
  case atStart => exact ⟨0, by omega, rfl, h0.out⟩
  case round =>
    clear h0
    obtain ⟨k, hk, rfl, h1, h2, h3, hb⟩ := hrel
    by_cases hlt : k < 16
    · have hc1 : wr.cell? ⟨w.heap.size, k, none⟩ = some (.int .u64 (wd S k : Nat)) := by rw [h1.cell, mix_at _ _ _ _ hlt, if_neg (by omega)]
      have hc2 : wr.cell? ⟨w.heap.size + 1, k, none⟩ = some (.int .u64 (wd T k : Nat)) := by rw [h2.cell]; exact cells16_at _ _ hlt
      have hf := h1.frozen k
      have ho : bits .andNot .u64 (wd S k : Int) (wd T k : Int) = (wd U k : Int) := HU.out k
      have H1 : Hid (Blk (wr.setCell ⟨w.heap.size, k, none⟩ (.int .u64 (wd U k : Nat))) w.heap.size 145 (cells16 (fun j => if j < k + 1 then wd U j else wd S j))) := by
        refine Lib.hid ?_
        have h4 := h1.set_ k (.int .u64 (wd U k : Nat))
        rw [cells16_set _ _ _ hlt] at h4
        have h5 : cells16 (fun j => if j = k then wd U k else if j < k then wd U j else wd S j) = cells16 (fun j => if j < k + 1 then wd U j else wd S j) := cells16_congr _ _ fun i _ => by
          by_cases h6 : i = k
          · subst h6; rw [if_pos rfl, if_pos (by omega)]
          · rw [if_neg h6]
            by_cases h7 : i < k
            · rw [if_pos h7, if_pos (by omega)]
            · rw [if_neg h7, if_neg (by omega)]
        rw [h5] at h4; exact h4
      have H2 := Lib.hid (h2.far (p := ⟨w.heap.size, k, none⟩) (by simp) (.int .u64 (wd U k : Nat)))
      have H3 := Lib.hid (h3.far (p := ⟨w.heap.size, k, none⟩) (by simp; omega) (.int .u64 (wd U k : Nat)))
      have HB := Lib.hid (hb.setCell (p := ⟨w.heap.size, k, none⟩) (Nat.le_refl _) (.int .u64 (wd U k : Nat)))
      clear h1 h2 h3 hb
      go_wp2
      go_region
      go_wp2
      go_roundw
      case rel => exact ⟨k + 1, by omega, by go_num, H1.out, H2.out, H3.out, HB.out.drew⟩
      case measure => simp [intOf]; omega
    · obtain rfl : k = 16 := by omega
      have h4 : cells16 (fun j => if j < 16 then wd U j else wd S j) = wv U := cells16_congr _ _ fun i hi => if_pos hi
      rw [h4] at h1
      have H1 := Lib.hid h1; have H3 := Lib.hid h3
      have HW : Hid ((wr.setRow (w.heap.size + 1 + 1) (wv U)).heap[w.heap.size + 1 + 1]? = some (.cells (wv U) 145 (0, 0)) ∧ Below w.heap.size w (wr.setRow (w.heap.size + 1 + 1) (wv U))) :=
        Lib.hid ⟨setRow_heap _ _ _ _ _ _ h3, below_setRow hb (by omega)⟩
      clear h1 h2 h3 hb h4
      go_wp2_with (first
        | (refine wpList_load_row rfl 145 (.tmp 2) rfl w.heap.size rfl 145 (wv U) (0, 0) _ H1.out Tryz.underlying145 rfl (by rw [zero_tick.2, wv, cells16_size]) ?_)
        | (refine wpList_store_row rfl 145 (.tmp 4) (.tmp 18) rfl (w.heap.size + 1 + 1) (wv U) rfl rfl 145 zc H3.out (by rw [zero_tick.2, wv, cells16_size]) (by rw [HZ.out, wv, cells16_size]) (cells16_one _) ?_))
      exact bodyPost_ret (v := .agg (wv U)) (results_cell_row (p := 4) (ty := 145) rfl _ _ (w.heap.size + 1 + 1) 145 (wv U) (0, 0) _ rfl HW.out.1 Tryz.underlying145 rfl (by rw [zero_tick.2, wv, cells16_size])) rfl ⟨rfl, HW.out.2⟩
end Go.Proofs.YtanpenijmojbdaaGreatDoor
namespace Go.Proofs.YtanpenijmojbdaaGreatDoor
open Go.ChangeShapes Go.WideShapes Go.ChangeAt Go.RowKit
set_option linter.unusedVariables false
/-- the ticks from x up to t beside those of S -/
def upto (S : Nat → Bool) (x t : Nat) (j : Nat) : Bool := S j || decide (x ≤ j ∧ j < t)
theorem upto_start (S : Nat → Bool) (x : Nat) : wv (upto S x x) = wv S := wv_congr _ _ fun j => by
  unfold upto
  have : ¬ (x ≤ j ∧ j < x) := by omega
  simp [this]
theorem upto_next (S : Nat → Bool) (x t : Nat) (h : x ≤ t) : wv (with1 (upto S x t) t) = wv (upto S x (t + 1)) := wv_congr _ _ fun j => by
  unfold upto with1
  rw [Bool.or_assoc]
  congr 1
  rw [Bool.eq_iff_iff]; simp; omega
set_option maxRecDepth 100000 in
set_option maxHeartbeats 800000 in
theorem iticks (w : World) (D : Nat) (A : Option Addr) (n c : Nat) (l : List (Int × Int)) (h : Sl w D 2 A n c (sv l)) (hD : D ≤ w.heap.size) :
    Calls Tryz.prog 97 #[.slice A n c] w (Sets w (tk l)) := by
  have hlen := h.len
  rw [sv_len] at hlen
  obtain rfl : n = l.length := by omega
  clear hlen
  have hcap := h.cap; have hcapm := h.capm
  have H := Lib.hid h; clear h
  obtain ⟨zc, hzc⟩ : ∃ zc : Array Value, zc = #[Value.int IntKind.u64 0, Value.int IntKind.u64 0, Value.int IntKind.u64 0, Value.int IntKind.u64 0,
          Value.int IntKind.u64 0, Value.int IntKind.u64 0, Value.int IntKind.u64 0, Value.int IntKind.u64 0,
          Value.int IntKind.u64 0, Value.int IntKind.u64 0, Value.int IntKind.u64 0, Value.int IntKind.u64 0,
          Value.int IntKind.u64 0, Value.int IntKind.u64 0, Value.int IntKind.u64 0, Value.int IntKind.u64 0] := ⟨_, rfl⟩
  have hz : zc = wv (tk []) := by rw [hzc]; rfl
  have h0 : Hid (Blk ((w.alloc (.cells zc 145)).alloc (.cells zc 145)) w.heap.size 145 zc ∧ Blk ((w.alloc (.cells zc 145)).alloc (.cells zc 145)) (w.heap.size + 1) 145 (wv (tk (l.take 0))) ∧ Below w.heap.size w ((w.alloc (.cells zc 145)).alloc (.cells zc 145))) := by
    refine Lib.hid ⟨(Blk.new w _ _).alloc _, ?_, ((Below.refl _ _).alloc (Nat.le_refl _) _).alloc (by simp) _⟩
    rw [List.take_zero, ← hz, show w.heap.size + 1 = (w.alloc (.cells zc 145)).heap.size by simp]
    exact Blk.new _ _ _
  have HZ : Hid (zc.size = 16) := Lib.hid (by rw [hzc]; rfl)
  clear hz
  go_enter Tryz.func97, Tryz.ntmps97
  go_wp2
  rw [← hzc]
  clear hzc
  go_loopw [10] (fun i wr => ∃ k : Nat, k ≤ l.length ∧ i = .int .i64 k ∧ Blk wr w.heap.size 145 zc ∧ Blk wr (w.heap.size + 1) 145 (wv (tk (l.take k))) ∧ Below w.heap.size w wr) (fun i _ => l.length - (intOf i).toNat)
  case atStart => exact ⟨0, Nat.zero_le _, rfl, h0.out⟩
  case round =>
    clear h0
    obtain ⟨wo, rfl⟩ : ∃ wo : World, wo = wr := ⟨_, rfl⟩
    obtain ⟨k, hk, rfl, h1, h2, hb⟩ := hrel
    by_cases hlt : k < l.length
    · obtain ⟨ad, hx, rfl, had, hc0, hc1⟩ := (H.out.below hb hD).two hlt
      obtain ⟨x, hxx⟩ : ∃ x, x = l[k].1 := ⟨_, rfl⟩
      obtain ⟨y, hy⟩ : ∃ y, y = l[k].2 := ⟨_, rfl⟩
      have hp : l[k] = (x, y) := by rw [hxx, hy]
      have hsn : Hid (∀ j, tk (l.take (k + 1)) j = (tk (l.take k) j || inS (x, y) j)) := Lib.hid fun j => by unfold tk; rw [List.take_succ_eq_append_getElem hx, inL_snoc, hp]
      rw [← hxx] at hc0; rw [← hy] at hc1
      have HC2 := Lib.hid (Blk.lt h2)
      have HB1 := Lib.hid ((h1.alloc (.cells #[.int .i64 x, .int .i64 y] 61))); have HB2 := Lib.hid ((h2.alloc (.cells #[.int .i64 x, .int .i64 y] 61)))
      have HBs : Hid (Blk (wo.alloc (.cells #[.int .i64 x, .int .i64 y] 61)) wo.heap.size 61 #[.int .i64 x, .int .i64 y]) := Lib.hid (Blk.new _ _ _)
      have HB := Lib.hid (hb.alloc hb.size (.cells #[.int .i64 x, .int .i64 y] 61))
      have hsz : w.heap.size + 1 < wo.heap.size := HC2.out
      obtain ⟨v, hv⟩ : ∃ v, isS (x, y) = v := ⟨_, rfl⟩
      have HV := Lib.hid hv
      clear hxx hy hp h1 h2 hb hv HC2
      go_wp2_with fail
      refine (iisspan _ _ _ _ HV.out).mono ?_
      rintro e w2 ⟨rfl, b2⟩
      have q1 : Hid (Blk w2 w.heap.size 145 zc) := Lib.hid (HB1.out.below b2 (by simp; omega))
      have q2 : Hid (Blk w2 (w.heap.size + 1) 145 (wv (tk (l.take k)))) := Lib.hid (HB2.out.below b2 (by simp; omega))
      have q3 : Hid (Blk w2 wo.heap.size 61 #[.int .i64 x, .int .i64 y]) := Lib.hid (HBs.out.below b2 (by simp))
      have qb : Hid (Below w.heap.size w w2) := Lib.hid (HB.out.trans (b2.mono HB.out.size))
      have s0 : w2.cell? ⟨wo.heap.size, 0, none⟩ = some (.int .i64 x) := q3.out.cell 0
      have s1 : w2.cell? ⟨wo.heap.size, 1, none⟩ = some (.int .i64 y) := q3.out.cell 1
      clear b2 HB1 HB2 HBs HB
      cases v
      · have q4 : Hid (Blk w2 (w.heap.size + 1) 145 (wv (tk (l.take (k + 1))))) := by
          refine Lib.hid ?_
          rw [wv_congr (tk (l.take (k + 1))) (tk (l.take k)) fun j => ?_]
          · exact q2.out
          · rw [hsn.out]
            cases hi : inS (x, y) j
            · simp
            · have := (isS_iff (x, y)).2 ((inS_iff (x, y) j).1 hi).1; rw [HV.out] at this; cases this
        clear s0 s1 hsn
        go_wp2
        go_roundw
        case rel => exact ⟨k + 1, by omega, by go_num, q1.out, q4.out, qb.out⟩
        case measure => simp [intOf]; omega
      · have hvv := (isS_iff (x, y)).1 HV.out
        simp only at hvv
        obtain ⟨a, rfl⟩ := Int.eq_ofNat_of_zero_le hvv.1
        obtain ⟨b, rfl⟩ := Int.eq_ofNat_of_zero_le (show 0 ≤ y by omega)
        have hab : a < b ∧ b ≤ 1000 := by omega
        obtain ⟨hab1, hab2⟩ := hab
        obtain ⟨S, hS⟩ : ∃ S, S = tk (l.take k) := ⟨_, rfl⟩
        have hfin : Hid (wv (upto S a b) = wv (tk (l.take (k + 1)))) := Lib.hid (wv_congr _ _ fun j => by
          rw [hsn.out, hS]; unfold upto
          congr 1
          rw [Bool.eq_iff_iff, inS_iff]; simp; omega)
        rw [← hS, ← upto_start S a] at q2
        clear hS hsn hvv
        go_wp2
        go_loopw [6] (fun i w3 => ∃ t : Nat, a ≤ t ∧ t ≤ b ∧ i = .int .i64 t ∧ Blk w3 w.heap.size 145 zc ∧ Blk w3 (w.heap.size + 1) 145 (wv (upto S a t)) ∧ Blk w3 wo.heap.size 61 #[.int .i64 (a : Int), .int .i64 (b : Int)] ∧ Below w.heap.size w w3) (fun i _ => b - (intOf i).toNat)
        case atStart => exact ⟨a, Nat.le_refl _, by omega, rfl, q1.out, q2.out, q3.out, qb.out⟩
        case round =>
          clear q1 q2 q3 qb s0 s1
          obtain ⟨t, ht1, ht2, rfl, r1, r2, r3, rb⟩ := hrel
          have s1 : wr.cell? ⟨wo.heap.size, 1, none⟩ = some (.int .i64 (b : Int)) := r3.cell 1
          by_cases ht : t < b
          · have hd1 : wr.cell? ⟨w.heap.size + 1, t / 64, none⟩ = some (.int .u64 (wd (upto S a t) (t / 64) : Nat)) := by rw [r2.cell]; exact cells16_at _ _ (by omega)
            have hf := r2.frozen (t / 64)
            have hp64 : 2 ^ (t % 64) < 18446744073709551616 := by
              have h1 : 2 ^ (t % 64) < 2 ^ 64 := Nat.pow_lt_pow_right (by omega) (by omega)
              exact h1
            have hz : bits .or .u64 (wd (upto S a t) (t / 64) : Int) (IntKind.u64.wrap (2 ^ (t % 64))) = ((wd (upto S a t) (t / 64) ||| 2 ^ (t % 64) : Nat) : Int) := by
              rw [show ((2 : Int) ^ (t % 64)) = ((2 ^ (t % 64) : Nat) : Int) by rw [Int.natCast_pow]; rfl, wrap_u64_of _ hp64]
              exact u64_or_nat _ _ (wd_lt _ _) hp64
            have R2 : Hid (Blk (wr.setCell ⟨w.heap.size + 1, t / 64, none⟩ (.int .u64 (bits .or .u64 (wd (upto S a t) (t / 64) : Int) (IntKind.u64.wrap (2 ^ (t % 64)))))) (w.heap.size + 1) 145 (wv (upto S a (t + 1)))) := by
              refine Lib.hid ?_
              rw [hz, ← upto_next S a t ht1, ← wv_with _ _ (by omega)]
              exact r2.set_ _ _
            have R1 := Lib.hid (r1.far (p := ⟨w.heap.size + 1, t / 64, none⟩) (by simp) (.int .u64 (bits .or .u64 (wd (upto S a t) (t / 64) : Int) (IntKind.u64.wrap (2 ^ (t % 64))))))
            have R3 := Lib.hid (r3.far (p := ⟨w.heap.size + 1, t / 64, none⟩) (by simp; omega) (.int .u64 (bits .or .u64 (wd (upto S a t) (t / 64) : Int) (IntKind.u64.wrap (2 ^ (t % 64))))))
            have RB := Lib.hid (rb.setCell (p := ⟨w.heap.size + 1, t / 64, none⟩) (by simp) (.int .u64 (bits .or .u64 (wd (upto S a t) (t / 64) : Int) (IntKind.u64.wrap (2 ^ (t % 64))))))
            clear hp64 hz r1 r2 r3 rb
            go_wp2
            go_region
            go_wp2
            go_roundw
            case rel => exact ⟨t + 1, by omega, by omega, by go_num, R1.out, R2.out, R3.out, RB.out.drew⟩
            case measure => simp [intOf]; omega
          · obtain rfl : t = b := by omega
            rw [hfin.out] at r2
            have R1 := Lib.hid r1; have R2 := Lib.hid r2; have RB := Lib.hid rb
            clear r1 r2 r3 rb
            go_wp2
            go_roundw
            case rel => exact ⟨k + 1, by omega, by go_num, R1.out, R2.out, RB.out⟩
            case measure => simp [intOf]; omega
    · obtain rfl : k = l.length := by omega
      rw [List.take_length] at h2
      have H1 := Lib.hid h1; have H2 := Lib.hid h2
      have HW : Hid ((wo.setRow w.heap.size (wv (tk l))).heap[w.heap.size]? = some (.cells (wv (tk l)) 145 (0, 0)) ∧ Below w.heap.size w (wo.setRow w.heap.size (wv (tk l)))) :=
        Lib.hid ⟨setRow_heap _ _ _ _ _ _ h1, below_setRow hb (Nat.le_refl _)⟩
      clear h1 h2 hb
      go_wp2_with (first
        | (refine wpList_load_row rfl 145 (.tmp 3) rfl (w.heap.size + 1) rfl 145 (wv (tk l)) (0, 0) _ H2.out Tryz.underlying145 rfl (by rw [zero_tick.2, wv, cells16_size]) ?_)
        | (refine wpList_store_row rfl 145 (.tmp 2) (.tmp 35) rfl w.heap.size (wv (tk l)) rfl rfl 145 zc H1.out (by rw [zero_tick.2, wv, cells16_size]) (by rw [HZ.out, wv, cells16_size]) (cells16_one _) ?_))
      exact bodyPost_ret (v := .agg (wv (tk l))) (results_cell_row (p := 2) (ty := 145) rfl _ _ w.heap.size 145 (wv (tk l)) (0, 0) _ rfl HW.out.1 Tryz.underlying145 rfl (by rw [zero_tick.2, wv, cells16_size])) rfl ⟨rfl, HW.out.2⟩
end Go.Proofs.YtanpenijmojbdaaGreatDoor
