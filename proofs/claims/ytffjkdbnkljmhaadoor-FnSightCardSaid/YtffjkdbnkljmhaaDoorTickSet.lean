/- The contracts of the program's sets of ticks: the library's count of bits, has, or, and, without. -/
import Derived.Test.YtffjkdbnkljmhaaDoorSpanModel
import Derived.Test.YtffjkdbnkljmhaaDoorBits64
import Derived.IntWalk
import Derived.RegionTactic
import Derived.Deep.WholeRow
import Derived.StillTailTactics
import Derived.LoopTactic
import Derived.Laws.Bits128
namespace Go.Proofs.YtffjkdbnkljmhaaDoor
open Go.ChangeShapes Go.WideShapes Go.ChangeAt Go.RowKit
set_option linter.unusedVariables false
theorem wrap_u64_of (n : Nat) (h : n < 18446744073709551616) : IntKind.u64.wrap (n : Int) = (n : Int) := by rw [IntKind.wrap_u64]; omega
theorem wdl_andNot64 (S T : Nat → Bool) (a n : Nat) (h : n = 64) : wdl S a n &&& (18446744073709551615 - wdl T a n) = wdl (fun k => S k && !T k) a n := by
  subst h; exact wdl_andNot S T a 64
/-- a whole row stored into a block from B on -/
theorem below_setRow {B g : Nat} {a w : World} {cs : Array Value} (h : Below B a w) (hg : B ≤ g) : Below B a (w.setRow g cs) :=
  ⟨h.os, h.tape, h.output, by simpa using h.size, fun k hk => (setRow_other w g k cs (by omega)).trans (h.block k hk)⟩
theorem zero_tick : (∀ w, (zeroValue 160).run Tryd.prog w = .ok (.agg (wv fun _ => false)) w) ∧ (Tryd.prog.info? 160).map (·.size) = some 16 := zero_of_info (by kernel_rfl)
/-- what a function that answers a set of ticks answers -/
def Sets (w : World) (S : Nat → Bool) (e : Ending) (w' : World) : Prop := e = .returned (.agg (wv S)) ∧ Below w.heap.size w w'
theorem ihas (w : World) (S : Nat → Bool) (t : Nat) (ht : t < 1024) (b : Bool) (hb : S t = b) :
    Calls Tryd.prog 125 #[.agg (wv S), .int .i64 t] w (Says w b) := by
  have HB : Hid (Blk (w.alloc (.cells (wv S) 160)) w.heap.size 160 (wv S)) := Lib.hid (Blk.new _ _ _)
  have hc : (w.alloc (.cells (wv S) 160)).cell? ⟨w.heap.size, t / 64, none⟩ = some (.int .u64 (wd S (t / 64) : Nat)) := by
    rw [HB.out.cell]; exact cells16_at _ _ (by omega)
  have hv : Hid ((bits BinOp.and IntKind.u64 ((wd S (t / 64) : Int) / 2 ^ (t % 64)) 1 == 1) = b) := by
    have h1 := wd_has S t
    have h2 := wd_lt S (t / 64)
    have h3 : wd S (t / 64) / 2 ^ (t % 64) < 18446744073709551616 := Nat.lt_of_le_of_lt (Nat.div_le_self _ _) h2
    have h4 := u64_and_nat (wd S (t / 64) / 2 ^ (t % 64)) 1 h3 (by omega)
    rw [Nat.and_one_is_mod, h1, hb] at h4
    have h5 : ((wd S (t / 64) : Int) / 2 ^ (t % 64)) = ((wd S (t / 64) / 2 ^ (t % 64) : Nat) : Int) := by rw [Int.natCast_ediv, Int.natCast_pow]; rfl
    refine Lib.hid ?_
    rw [h5]
    rw [show ((1 : Nat) : Int) = 1 from rfl] at h4
    rw [h4]
    cases b <;> rfl
  go_enter Tryd.func125, Tryd.ntmps125
  go_wp2
  go_ret
  exact ⟨ret_bool hv.out, (Below.refl _ _).alloc (Nat.le_refl _) _⟩
theorem mix_at (f h : Nat → Nat) (k i : Nat) (hi : i < 16) : (cells16 (fun j => if j < k then f j else h j))[i]? = some (.int .u64 ((if i < k then f i else h i : Nat) : Nat)) := cells16_at _ _ hi
theorem ior (w : World) (S T : Nat → Bool) :
    Calls Tryd.prog 120 #[.agg (wv S), .agg (wv T)] w (Sets w (fun k => S k ||T k)) := by
  obtain ⟨zc, hzc⟩ : ∃ zc : Array Value, zc = #[Value.int IntKind.u64 0, Value.int IntKind.u64 0, Value.int IntKind.u64 0, Value.int IntKind.u64 0,
          Value.int IntKind.u64 0, Value.int IntKind.u64 0, Value.int IntKind.u64 0, Value.int IntKind.u64 0,
          Value.int IntKind.u64 0, Value.int IntKind.u64 0, Value.int IntKind.u64 0, Value.int IntKind.u64 0,
          Value.int IntKind.u64 0, Value.int IntKind.u64 0, Value.int IntKind.u64 0, Value.int IntKind.u64 0] := ⟨_, rfl⟩
  obtain ⟨U, hU⟩ : ∃ U : Nat → Bool, U = fun k => S k ||T k := ⟨_, rfl⟩
  rw [← hU]
  have HU : Hid (∀ i, bits .or .u64 (wd S i : Int) (wd T i : Int) = (wd U i : Int)) := Lib.hid fun i => by rw [u64_or_nat _ _ (wd_lt S i) (wd_lt T i), hU]; exact congrArg (fun n : Nat => (n : Int)) (by first | exact wdl_or S T _ 64 | exact wdl_andNot64 S T _ 64 rfl)
  clear hU
  have h0 : Hid (Blk (((w.alloc (.cells (wv S) 160)).alloc (.cells (wv T) 160)).alloc (.cells zc 160)) w.heap.size 160 (cells16 (fun j => if j < 0 then wd U j else wd S j)) ∧
      Blk (((w.alloc (.cells (wv S) 160)).alloc (.cells (wv T) 160)).alloc (.cells zc 160)) (w.heap.size + 1) 160 (wv T) ∧
      Blk (((w.alloc (.cells (wv S) 160)).alloc (.cells (wv T) 160)).alloc (.cells zc 160)) (w.heap.size + 1 + 1) 160 zc ∧
      Below w.heap.size w (((w.alloc (.cells (wv S) 160)).alloc (.cells (wv T) 160)).alloc (.cells zc 160))) := by
    refine Lib.hid ⟨?_, ?_, ?_, ?_⟩
    · have h1 : cells16 (fun j => if j < 0 then wd U j else wd S j) = wv S := cells16_congr _ _ fun i _ => by rw [if_neg (by omega)]
      rw [h1]
      exact ((Blk.new w _ _).alloc _).alloc _
    · rw [show w.heap.size + 1 = (w.alloc (.cells (wv S) 160)).heap.size by simp]
      exact (Blk.new (w.alloc _) _ _).alloc _
    · rw [show w.heap.size + 1 + 1 = ((w.alloc (.cells (wv S) 160)).alloc (.cells (wv T) 160)).heap.size by simp]
      exact Blk.new _ _ _
    · exact (((Below.refl _ _).alloc (Nat.le_refl _) _).alloc (by simp) _).alloc (by simp; omega) _
  have HZ : Hid (zc.size = 16) := Lib.hid (by rw [hzc]; rfl)
  go_enter Tryd.func120, Tryd.ntmps120
  go_wp2
  rw [← hzc]
  clear hzc
  go_loopw [6] (fun i wr => ∃ k : Nat, k ≤ 16 ∧ i = .int .i64 k ∧ Blk wr w.heap.size 160 (cells16 (fun j => if j < k then wd U j else wd S j)) ∧ Blk wr (w.heap.size + 1) 160 (wv T) ∧ Blk wr (w.heap.size + 1 + 1) 160 zc ∧ Below w.heap.size w wr) (fun i _ => 16 - (intOf i).toNat)
  case atStart => exact ⟨0, by omega, rfl, h0.out⟩
  case round =>
    clear h0
    obtain ⟨k, hk, rfl, h1, h2, h3, hb⟩ := hrel
    by_cases hlt : k < 16
    · have hc1 : wr.cell? ⟨w.heap.size, k, none⟩ = some (.int .u64 (wd S k : Nat)) := by rw [h1.cell, mix_at _ _ _ _ hlt, if_neg (by omega)]
      have hc2 : wr.cell? ⟨w.heap.size + 1, k, none⟩ = some (.int .u64 (wd T k : Nat)) := by rw [h2.cell]; exact cells16_at _ _ hlt
      have hf := h1.frozen k
      have ho : bits .or .u64 (wd S k : Int) (wd T k : Int) = (wd U k : Int) := HU.out k
      have H1 : Hid (Blk (wr.setCell ⟨w.heap.size, k, none⟩ (.int .u64 (wd U k : Nat))) w.heap.size 160 (cells16 (fun j => if j < k + 1 then wd U j else wd S j))) := by
        refine Lib.hid ?_
        have h4 := h1.set_ k (.int .u64 (wd U k : Nat))
        rw [cells16_set _ _ _ hlt] at h4
        have h5 : cells16 (fun j => if j = k then wd U k else if j < k then wd U j else wd S j) = cells16 (fun j => if j < k + 1 then wd U j else wd S j) := cells16_congr _ _ fun i _ => by
          by_cases h6 : i = k
          · subst h6; rw [if_pos rfl, if_pos (by omega)]
          · rw [if_neg h6]
            by_cases h7 : i < k
            · rw [if_pos h7, if_pos (by omega)]
            · rw [if_neg h7, if_neg (by omega)]
        rw [h5] at h4; exact h4
      have H2 := Lib.hid (h2.far (p := ⟨w.heap.size, k, none⟩) (by simp) (.int .u64 (wd U k : Nat)))
      have H3 := Lib.hid (h3.far (p := ⟨w.heap.size, k, none⟩) (by simp; omega) (.int .u64 (wd U k : Nat)))
      have HB := Lib.hid (hb.setCell (p := ⟨w.heap.size, k, none⟩) (Nat.le_refl _) (.int .u64 (wd U k : Nat)))
      clear h1 h2 h3 hb
      go_wp2
      go_region
      go_wp2
      go_roundw
      case rel => exact ⟨k + 1, by omega, by go_num, H1.out, H2.out, H3.out, HB.out.drew⟩
      case measure => simp [intOf]; omega
    · obtain rfl : k = 16 := by omega
      have h4 : cells16 (fun j => if j < 16 then wd U j else wd S j) = wv U := cells16_congr _ _ fun i hi => if_pos hi
      rw [h4] at h1
      have H1 := Lib.hid h1; have H3 := Lib.hid h3
      have HW : Hid ((wr.setRow (w.heap.size + 1 + 1) (wv U)).heap[w.heap.size + 1 + 1]? = some (.cells (wv U) 160 (0, 0)) ∧ Below w.heap.size w (wr.setRow (w.heap.size + 1 + 1) (wv U))) :=
        Lib.hid ⟨setRow_heap _ _ _ _ _ _ h3, below_setRow hb (by omega)⟩
      clear h1 h2 h3 hb h4
      go_wp2_with (first
        | (refine wpList_load_row rfl 160 (.tmp 2) rfl w.heap.size rfl 160 (wv U) (0, 0) _ H1.out Tryd.underlying160 rfl (by rw [zero_tick.2, wv, cells16_size]) ?_)
        | (refine wpList_store_row rfl 160 (.tmp 4) (.tmp 18) rfl (w.heap.size + 1 + 1) (wv U) rfl rfl 160 zc H3.out (by rw [zero_tick.2, wv, cells16_size]) (by rw [HZ.out, wv, cells16_size]) (cells16_one _) ?_))
      exact bodyPost_ret (v := .agg (wv U)) (results_cell_row (p := 4) (ty := 160) rfl _ _ (w.heap.size + 1 + 1) 160 (wv U) (0, 0) _ rfl HW.out.1 Tryd.underlying160 rfl (by rw [zero_tick.2, wv, cells16_size])) rfl ⟨rfl, HW.out.2⟩
theorem iand (w : World) (S T : Nat → Bool) :
    Calls Tryd.prog 121 #[.agg (wv S), .agg (wv T)] w (Sets w (fun k => S k &&T k)) := by
  obtain ⟨zc, hzc⟩ : ∃ zc : Array Value, zc = #[Value.int IntKind.u64 0, Value.int IntKind.u64 0, Value.int IntKind.u64 0, Value.int IntKind.u64 0,
          Value.int IntKind.u64 0, Value.int IntKind.u64 0, Value.int IntKind.u64 0, Value.int IntKind.u64 0,
          Value.int IntKind.u64 0, Value.int IntKind.u64 0, Value.int IntKind.u64 0, Value.int IntKind.u64 0,
          Value.int IntKind.u64 0, Value.int IntKind.u64 0, Value.int IntKind.u64 0, Value.int IntKind.u64 0] := ⟨_, rfl⟩
  obtain ⟨U, hU⟩ : ∃ U : Nat → Bool, U = fun k => S k &&T k := ⟨_, rfl⟩
  rw [← hU]
  have HU : Hid (∀ i, bits .and .u64 (wd S i : Int) (wd T i : Int) = (wd U i : Int)) := Lib.hid fun i => by rw [u64_and_nat _ _ (wd_lt S i) (wd_lt T i), hU]; exact congrArg (fun n : Nat => (n : Int)) (by first | exact wdl_and S T _ 64 | exact wdl_andNot64 S T _ 64 rfl)
  clear hU
  have h0 : Hid (Blk (((w.alloc (.cells (wv S) 160)).alloc (.cells (wv T) 160)).alloc (.cells zc 160)) w.heap.size 160 (cells16 (fun j => if j < 0 then wd U j else wd S j)) ∧
      Blk (((w.alloc (.cells (wv S) 160)).alloc (.cells (wv T) 160)).alloc (.cells zc 160)) (w.heap.size + 1) 160 (wv T) ∧
      Blk (((w.alloc (.cells (wv S) 160)).alloc (.cells (wv T) 160)).alloc (.cells zc 160)) (w.heap.size + 1 + 1) 160 zc ∧
      Below w.heap.size w (((w.alloc (.cells (wv S) 160)).alloc (.cells (wv T) 160)).alloc (.cells zc 160))) := by
    refine Lib.hid ⟨?_, ?_, ?_, ?_⟩
    · have h1 : cells16 (fun j => if j < 0 then wd U j else wd S j) = wv S := cells16_congr _ _ fun i _ => by rw [if_neg (by omega)]
      rw [h1]
      exact ((Blk.new w _ _).alloc _).alloc _
    · rw [show w.heap.size + 1 = (w.alloc (.cells (wv S) 160)).heap.size by simp]
      exact (Blk.new (w.alloc _) _ _).alloc _
    · rw [show w.heap.size + 1 + 1 = ((w.alloc (.cells (wv S) 160)).alloc (.cells (wv T) 160)).heap.size by simp]
      exact Blk.new _ _ _
    · exact (((Below.refl _ _).alloc (Nat.le_refl _) _).alloc (by simp) _).alloc (by simp; omega) _
  have HZ : Hid (zc.size = 16) := Lib.hid (by rw [hzc]; rfl)
  go_enter Tryd.func121, Tryd.ntmps121
  go_wp2
  rw [← hzc]
  clear hzc
  go_loopw [6] (fun i wr => ∃ k : Nat, k ≤ 16 ∧ i = .int .i64 k ∧ Blk wr w.heap.size 160 (cells16 (fun j => if j < k then wd U j else wd S j)) ∧ Blk wr (w.heap.size + 1) 160 (wv T) ∧ Blk wr (w.heap.size + 1 + 1) 160 zc ∧ Below w.heap.size w wr) (fun i _ => 16 - (intOf i).toNat)
  case atStart => exact ⟨0, by omega, rfl, h0.out⟩
  case round =>
    clear h0
    obtain ⟨k, hk, rfl, h1, h2, h3, hb⟩ := hrel
    by_cases hlt : k < 16
    · have hc1 : wr.cell? ⟨w.heap.size, k, none⟩ = some (.int .u64 (wd S k : Nat)) := by rw [h1.cell, mix_at _ _ _ _ hlt, if_neg (by omega)]
      have hc2 : wr.cell? ⟨w.heap.size + 1, k, none⟩ = some (.int .u64 (wd T k : Nat)) := by rw [h2.cell]; exact cells16_at _ _ hlt
      have hf := h1.frozen k
      have ho : bits .and .u64 (wd S k : Int) (wd T k : Int) = (wd U k : Int) := HU.out k
      have H1 : Hid (Blk (wr.setCell ⟨w.heap.size, k, none⟩ (.int .u64 (wd U k : Nat))) w.heap.size 160 (cells16 (fun j => if j < k + 1 then wd U j else wd S j))) := by
        refine Lib.hid ?_
        have h4 := h1.set_ k (.int .u64 (wd U k : Nat))
        rw [cells16_set _ _ _ hlt] at h4
        have h5 : cells16 (fun j => if j = k then wd U k else if j < k then wd U j else wd S j) = cells16 (fun j => if j < k + 1 then wd U j else wd S j) := cells16_congr _ _ fun i _ => by
          by_cases h6 : i = k
          · subst h6; rw [if_pos rfl, if_pos (by omega)]
          · rw [if_neg h6]
            by_cases h7 : i < k
            · rw [if_pos h7, if_pos (by omega)]
            · rw [if_neg h7, if_neg (by omega)]
        rw [h5] at h4; exact h4
      have H2 := Lib.hid (h2.far (p := ⟨w.heap.size, k, none⟩) (by simp) (.int .u64 (wd U k : Nat)))
      have H3 := Lib.hid (h3.far (p := ⟨w.heap.size, k, none⟩) (by simp; omega) (.int .u64 (wd U k : Nat)))
      have HB := Lib.hid (hb.setCell (p := ⟨w.heap.size, k, none⟩) (Nat.le_refl _) (.int .u64 (wd U k : Nat)))
      clear h1 h2 h3 hb
      go_wp2
      go_region
      go_wp2
      go_roundw
      case rel => exact ⟨k + 1, by omega, by go_num, H1.out, H2.out, H3.out, HB.out.drew⟩
      case measure => simp [intOf]; omega
    · obtain rfl : k = 16 := by omega
      have h4 : cells16 (fun j => if j < 16 then wd U j else wd S j) = wv U := cells16_congr _ _ fun i hi => if_pos hi
      rw [h4] at h1
      have H1 := Lib.hid h1; have H3 := Lib.hid h3
      have HW : Hid ((wr.setRow (w.heap.size + 1 + 1) (wv U)).heap[w.heap.size + 1 + 1]? = some (.cells (wv U) 160 (0, 0)) ∧ Below w.heap.size w (wr.setRow (w.heap.size + 1 + 1) (wv U))) :=
        Lib.hid ⟨setRow_heap _ _ _ _ _ _ h3, below_setRow hb (by omega)⟩
      clear h1 h2 h3 hb h4
      go_wp2_with (first
        | (refine wpList_load_row rfl 160 (.tmp 2) rfl w.heap.size rfl 160 (wv U) (0, 0) _ H1.out Tryd.underlying160 rfl (by rw [zero_tick.2, wv, cells16_size]) ?_)
        | (refine wpList_store_row rfl 160 (.tmp 4) (.tmp 18) rfl (w.heap.size + 1 + 1) (wv U) rfl rfl 160 zc H3.out (by rw [zero_tick.2, wv, cells16_size]) (by rw [HZ.out, wv, cells16_size]) (cells16_one _) ?_))
      exact bodyPost_ret (v := .agg (wv U)) (results_cell_row (p := 4) (ty := 160) rfl _ _ (w.heap.size + 1 + 1) 160 (wv U) (0, 0) _ rfl HW.out.1 Tryd.underlying160 rfl (by rw [zero_tick.2, wv, cells16_size])) rfl ⟨rfl, HW.out.2⟩
theorem iwithout (w : World) (S T : Nat → Bool) :
    Calls Tryd.prog 122 #[.agg (wv S), .agg (wv T)] w (Sets w (fun k => S k &&!T k)) := by
  obtain ⟨zc, hzc⟩ : ∃ zc : Array Value, zc = #[Value.int IntKind.u64 0, Value.int IntKind.u64 0, Value.int IntKind.u64 0, Value.int IntKind.u64 0,
          Value.int IntKind.u64 0, Value.int IntKind.u64 0, Value.int IntKind.u64 0, Value.int IntKind.u64 0,
          Value.int IntKind.u64 0, Value.int IntKind.u64 0, Value.int IntKind.u64 0, Value.int IntKind.u64 0,
          Value.int IntKind.u64 0, Value.int IntKind.u64 0, Value.int IntKind.u64 0, Value.int IntKind.u64 0] := ⟨_, rfl⟩
  obtain ⟨U, hU⟩ : ∃ U : Nat → Bool, U = fun k => S k &&!T k := ⟨_, rfl⟩
  rw [← hU]
  have HU : Hid (∀ i, bits .andNot .u64 (wd S i : Int) (wd T i : Int) = (wd U i : Int)) := Lib.hid fun i => by rw [u64_andNot_nat _ _ (wd_lt S i) (wd_lt T i), hU]; exact congrArg (fun n : Nat => (n : Int)) (by first | exact wdl_andNot S T _ 64 | exact wdl_andNot64 S T _ 64 rfl)
  clear hU
  have h0 : Hid (Blk (((w.alloc (.cells (wv S) 160)).alloc (.cells (wv T) 160)).alloc (.cells zc 160)) w.heap.size 160 (cells16 (fun j => if j < 0 then wd U j else wd S j)) ∧
      Blk (((w.alloc (.cells (wv S) 160)).alloc (.cells (wv T) 160)).alloc (.cells zc 160)) (w.heap.size + 1) 160 (wv T) ∧
      Blk (((w.alloc (.cells (wv S) 160)).alloc (.cells (wv T) 160)).alloc (.cells zc 160)) (w.heap.size + 1 + 1) 160 zc ∧
      Below w.heap.size w (((w.alloc (.cells (wv S) 160)).alloc (.cells (wv T) 160)).alloc (.cells zc 160))) := by
    refine Lib.hid ⟨?_, ?_, ?_, ?_⟩
    · have h1 : cells16 (fun j => if j < 0 then wd U j else wd S j) = wv S := cells16_congr _ _ fun i _ => by rw [if_neg (by omega)]
      rw [h1]
      exact ((Blk.new w _ _).alloc _).alloc _
    · rw [show w.heap.size + 1 = (w.alloc (.cells (wv S) 160)).heap.size by simp]
      exact (Blk.new (w.alloc _) _ _).alloc _
    · rw [show w.heap.size + 1 + 1 = ((w.alloc (.cells (wv S) 160)).alloc (.cells (wv T) 160)).heap.size by simp]
      exact Blk.new _ _ _
    · exact (((Below.refl _ _).alloc (Nat.le_refl _) _).alloc (by simp) _).alloc (by simp; omega) _
  have HZ : Hid (zc.size = 16) := Lib.hid (by rw [hzc]; rfl)
  go_enter Tryd.func122, Tryd.ntmps122
  go_wp2
  rw [← hzc]
  clear hzc
  go_loopw [6] (fun i wr => ∃ k : Nat, k ≤ 16 ∧ i = .int .i64 k ∧ Blk wr w.heap.size 160 (cells16 (fun j => if j < k then wd U j else wd S j)) ∧ Blk wr (w.heap.size + 1) 160 (wv T) ∧ Blk wr (w.heap.size + 1 + 1) 160 zc ∧ Below w.heap.size w wr) (fun i _ => 16 - (intOf i).toNat)
  case atStart => exact ⟨0, by omega, rfl, h0.out⟩
  case round =>
    clear h0
    obtain ⟨k, hk, rfl, h1, h2, h3, hb⟩ := hrel
    by_cases hlt : k < 16
    · have hc1 : wr.cell? ⟨w.heap.size, k, none⟩ = some (.int .u64 (wd S k : Nat)) := by rw [h1.cell, mix_at _ _ _ _ hlt, if_neg (by omega)]
      have hc2 : wr.cell? ⟨w.heap.size + 1, k, none⟩ = some (.int .u64 (wd T k : Nat)) := by rw [h2.cell]; exact cells16_at _ _ hlt
      have hf := h1.frozen k
      have ho : bits .andNot .u64 (wd S k : Int) (wd T k : Int) = (wd U k : Int) := HU.out k
      have H1 : Hid (Blk (wr.setCell ⟨w.heap.size, k, none⟩ (.int .u64 (wd U k : Nat))) w.heap.size 160 (cells16 (fun j => if j < k + 1 then wd U j else wd S j))) := by
        refine Lib.hid ?_
        have h4 := h1.set_ k (.int .u64 (wd U k : Nat))
        rw [cells16_set _ _ _ hlt] at h4
        have h5 : cells16 (fun j => if j = k then wd U k else if j < k then wd U j else wd S j) = cells16 (fun j => if j < k + 1 then wd U j else wd S j) := cells16_congr _ _ fun i _ => by
          by_cases h6 : i = k
          · subst h6; rw [if_pos rfl, if_pos (by omega)]
          · rw [if_neg h6]
            by_cases h7 : i < k
            · rw [if_pos h7, if_pos (by omega)]
            · rw [if_neg h7, if_neg (by omega)]
        rw [h5] at h4; exact h4
      have H2 := Lib.hid (h2.far (p := ⟨w.heap.size, k, none⟩) (by simp) (.int .u64 (wd U k : Nat)))
      have H3 := Lib.hid (h3.far (p := ⟨w.heap.size, k, none⟩) (by simp; omega) (.int .u64 (wd U k : Nat)))
      have HB := Lib.hid (hb.setCell (p := ⟨w.heap.size, k, none⟩) (Nat.le_refl _) (.int .u64 (wd U k : Nat)))
      clear h1 h2 h3 hb
      go_wp2
      go_region
      go_wp2
      go_roundw
      case rel => exact ⟨k + 1, by omega, by go_num, H1.out, H2.out, H3.out, HB.out.drew⟩
      case measure => simp [intOf]; omega
    · obtain rfl : k = 16 := by omega
      have h4 : cells16 (fun j => if j < 16 then wd U j else wd S j) = wv U := cells16_congr _ _ fun i hi => if_pos hi
      rw [h4] at h1
      have H1 := Lib.hid h1; have H3 := Lib.hid h3
      have HW : Hid ((wr.setRow (w.heap.size + 1 + 1) (wv U)).heap[w.heap.size + 1 + 1]? = some (.cells (wv U) 160 (0, 0)) ∧ Below w.heap.size w (wr.setRow (w.heap.size + 1 + 1) (wv U))) :=
        Lib.hid ⟨setRow_heap _ _ _ _ _ _ h3, below_setRow hb (by omega)⟩
      clear h1 h2 h3 hb h4
      go_wp2_with (first
        | (refine wpList_load_row rfl 160 (.tmp 2) rfl w.heap.size rfl 160 (wv U) (0, 0) _ H1.out Tryd.underlying160 rfl (by rw [zero_tick.2, wv, cells16_size]) ?_)
        | (refine wpList_store_row rfl 160 (.tmp 4) (.tmp 18) rfl (w.heap.size + 1 + 1) (wv U) rfl rfl 160 zc H3.out (by rw [zero_tick.2, wv, cells16_size]) (by rw [HZ.out, wv, cells16_size]) (cells16_one _) ?_))
      exact bodyPost_ret (v := .agg (wv U)) (results_cell_row (p := 4) (ty := 160) rfl _ _ (w.heap.size + 1 + 1) 160 (wv U) (0, 0) _ rfl HW.out.1 Tryd.underlying160 rfl (by rw [zero_tick.2, wv, cells16_size])) rfl ⟨rfl, HW.out.2⟩
end Go.Proofs.YtffjkdbnkljmhaaDoor
