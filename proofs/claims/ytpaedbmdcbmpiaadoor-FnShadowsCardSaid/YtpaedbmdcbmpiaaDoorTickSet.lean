/- The contracts of the program's sets of ticks: the library's count of bits, has, or, and, without. The contract of the program's ticksIn: the set of the ticks of a list. -/
import Derived.Test.YtpaedbmdcbmpiaaDoorSpanPut
import Derived.Test.YtpaedbmdcbmpiaaDoorBits64
import Derived.IntWalk
import Derived.RegionTactic
import Derived.Deep.WholeRow
import Derived.StillTailTactics
import Derived.LoopTactic
import Derived.Laws.Bits128
namespace Go.Proofs.YtpaedbmdcbmpiaaDoor
open Go.ChangeShapes Go.WideShapes Go.ChangeAt Go.RowKit
set_option linter.unusedVariables false
theorem wrap_u64_of (n : Nat) (h : n < 18446744073709551616) : IntKind.u64.wrap (n : Int) = (n : Int) := by rw [IntKind.wrap_u64]; omega
theorem wdl_andNot64 (S T : Nat → Bool) (a n : Nat) (h : n = 64) : wdl S a n &&& (18446744073709551615 - wdl T a n) = wdl (fun k => S k && !T k) a n := by
  subst h; exact wdl_andNot S T a 64
/-- a whole row stored into a block from B on -/
theorem below_setRow {B g : Nat} {a w : World} {cs : Array Value} (h : Below B a w) (hg : B ≤ g) : Below B a (w.setRow g cs) :=
  ⟨h.os, h.tape, h.output, by simpa using h.size, fun k hk => (setRow_other w g k cs (by omega)).trans (h.block k hk)⟩
theorem zero_tick : (∀ w, (zeroValue 80).run Tryd.prog w = .ok (.agg (wv fun _ => false)) w) ∧ (Tryd.prog.info? 80).map (·.size) = some 16 := zero_of_info (by kernel_rfl)
/-- what a function that answers a set of ticks answers -/
def Sets (w : World) (S : Nat → Bool) (e : Ending) (w' : World) : Prop := e = .returned (.agg (wv S)) ∧ Below w.heap.size w w'
theorem iones (w : World) (X : Nat) (hX : X < 18446744073709551616) :
    Calls Tryd.prog 35 #[.int .u64 X] w fun e w' => e = .returned (.int .i64 (pc 64 X)) ∧ w = w' := by
  obtain ⟨a, ha⟩ : ∃ a, a = ((X / 2) &&& 6148914691236517205) + (X &&& 6148914691236517205) := ⟨_, rfl⟩
  obtain ⟨b, hb⟩ : ∃ b, b = ((a / 4) &&& 3689348814741910323) + (a &&& 3689348814741910323) := ⟨_, rfl⟩
  obtain ⟨c, hc⟩ : ∃ c, c = (b / 16 + b) &&& 1085102592571150095 := ⟨_, rfl⟩
  obtain ⟨d, hd⟩ : ∃ d, d = c + c / 256 := ⟨_, rfl⟩
  obtain ⟨q, hq⟩ : ∃ q, q = d + d / 65536 := ⟨_, rfl⟩
  obtain ⟨f, hf⟩ : ∃ f, f = q + q / 4294967296 := ⟨_, rfl⟩
  obtain ⟨r0, r1, r2, r3, r4, r5, r6, r7⟩ := ones_ok X a b c d q f hX ha hb hc hd hq hf
  have e1 : IntKind.u64.wrap (bits .and .u64 ((X : Int) / 2) 6148914691236517205 + bits .and .u64 (X : Int) 6148914691236517205) = (a : Int) := by
    have h1 := u64_and_nat (X / 2) 6148914691236517205 (by omega) (by omega)
    have h2 := u64_and_nat X 6148914691236517205 hX (by omega)
    rw [show ((X : Int) / 2) = ((X / 2 : Nat) : Int) by omega]
    rw [show ((6148914691236517205 : Nat) : Int) = 6148914691236517205 from rfl] at h1 h2
    rw [h1, h2, ← Int.natCast_add, ← ha, wrap_u64_of a r1]
  have e2 : IntKind.u64.wrap (bits .and .u64 ((a : Int) / 4) 3689348814741910323 + bits .and .u64 (a : Int) 3689348814741910323) = (b : Int) := by
    have h1 := u64_and_nat (a / 4) 3689348814741910323 (by omega) (by omega)
    have h2 := u64_and_nat a 3689348814741910323 r1 (by omega)
    rw [show ((a : Int) / 4) = ((a / 4 : Nat) : Int) by omega]
    rw [show ((3689348814741910323 : Nat) : Int) = 3689348814741910323 from rfl] at h1 h2
    rw [h1, h2, ← Int.natCast_add, ← hb, wrap_u64_of b (by omega)]
  have e3 : bits .and .u64 (IntKind.u64.wrap ((b : Int) / 16 + (b : Int))) 1085102592571150095 = (c : Int) := by
    have h1 := u64_and_nat (b / 16 + b) 1085102592571150095 r3 (by omega)
    rw [show ((b : Int) / 16 + (b : Int)) = ((b / 16 + b : Nat) : Int) by omega, wrap_u64_of _ r3]
    rw [show ((1085102592571150095 : Nat) : Int) = 1085102592571150095 from rfl] at h1
    rw [h1, ← hc]
  have e4 : IntKind.u64.wrap ((c : Int) + (c : Int) / 256) = (d : Int) := by
    rw [show ((c : Int) + (c : Int) / 256) = ((c + c / 256 : Nat) : Int) by omega, ← hd, wrap_u64_of d (by omega)]
  have e5 : IntKind.u64.wrap ((d : Int) + (d : Int) / 65536) = (q : Int) := by
    rw [show ((d : Int) + (d : Int) / 65536) = ((d + d / 65536 : Nat) : Int) by omega, ← hq, wrap_u64_of q (by omega)]
  have e6 : IntKind.u64.wrap ((q : Int) + (q : Int) / 4294967296) = (f : Int) := by
    rw [show ((q : Int) + (q : Int) / 4294967296) = ((q + q / 4294967296 : Nat) : Int) by omega, ← hf, wrap_u64_of f (by omega)]
  have H0 := Lib.hid r0
  have hf2 : (f : Int) ≤ 9223372036854775807 := by omega
  clear ha hb hc hd hq hf r0 r1 r2 r3 r4 r5 r6 r7
  go_enter Tryd.func35, Tryd.ntmps35
  go_wp2
  go_ret
  exact ⟨ret_int (by rw [i64_and127]; have := H0.out; omega), rfl⟩
theorem mix_at (f h : Nat → Nat) (k i : Nat) (hi : i < 16) : (cells16 (fun j => if j < k then f j else h j))[i]? = some (.int .u64 ((if i < k then f i else h i : Nat) : Nat)) := cells16_at _ _ hi
end Go.Proofs.YtpaedbmdcbmpiaaDoor
namespace Go.Proofs.YtpaedbmdcbmpiaaDoor
open Go.ChangeShapes Go.WideShapes Go.ChangeAt Go.RowKit
set_option linter.unusedVariables false
/-- the ticks from x up to t beside those of S -/
def upto (S : Nat → Bool) (x t : Nat) (j : Nat) : Bool := S j || decide (x ≤ j ∧ j < t)
theorem upto_start (S : Nat → Bool) (x : Nat) : wv (upto S x x) = wv S := wv_congr _ _ fun j => by
  unfold upto
  have : ¬ (x ≤ j ∧ j < x) := by omega
  simp [this]
theorem upto_next (S : Nat → Bool) (x t : Nat) (h : x ≤ t) : wv (with1 (upto S x t) t) = wv (upto S x (t + 1)) := wv_congr _ _ fun j => by
  unfold upto with1
  rw [Bool.or_assoc]
  congr 1
  rw [Bool.eq_iff_iff]; simp; omega
set_option maxRecDepth 100000 in
set_option maxHeartbeats 800000 in
theorem iticks (w : World) (D : Nat) (A : Option Addr) (n c : Nat) (l : List (Int × Int)) (h : Sl w D 2 A n c (sv l)) (hD : D ≤ w.heap.size) :
    Calls Tryd.prog 34 #[.slice A n c] w (Sets w (tk l)) := by
  have hlen := h.len
  rw [sv_len] at hlen
  obtain rfl : n = l.length := by omega
  clear hlen
  have hcap := h.cap; have hcapm := h.capm
  have H := Lib.hid h; clear h
  obtain ⟨zc, hzc⟩ : ∃ zc : Array Value, zc = #[Value.int IntKind.u64 0, Value.int IntKind.u64 0, Value.int IntKind.u64 0, Value.int IntKind.u64 0,
          Value.int IntKind.u64 0, Value.int IntKind.u64 0, Value.int IntKind.u64 0, Value.int IntKind.u64 0,
          Value.int IntKind.u64 0, Value.int IntKind.u64 0, Value.int IntKind.u64 0, Value.int IntKind.u64 0,
          Value.int IntKind.u64 0, Value.int IntKind.u64 0, Value.int IntKind.u64 0, Value.int IntKind.u64 0] := ⟨_, rfl⟩
  have hz : zc = wv (tk []) := by rw [hzc]; rfl
  have h0 : Hid (Blk ((w.alloc (.cells zc 80)).alloc (.cells zc 80)) w.heap.size 80 zc ∧ Blk ((w.alloc (.cells zc 80)).alloc (.cells zc 80)) (w.heap.size + 1) 80 (wv (tk (l.take 0))) ∧ Below w.heap.size w ((w.alloc (.cells zc 80)).alloc (.cells zc 80))) := by
    refine Lib.hid ⟨(Blk.new w _ _).alloc _, ?_, ((Below.refl _ _).alloc (Nat.le_refl _) _).alloc (by simp) _⟩
    rw [List.take_zero, ← hz, show w.heap.size + 1 = (w.alloc (.cells zc 80)).heap.size by simp]
    exact Blk.new _ _ _
  have HZ : Hid (zc.size = 16) := Lib.hid (by rw [hzc]; rfl)
  clear hz
  go_enter Tryd.func34, Tryd.ntmps34
  go_wp2
  rw [← hzc]
  clear hzc
  go_loopw [10] (fun i wr => ∃ k : Nat, k ≤ l.length ∧ i = .int .i64 k ∧ Blk wr w.heap.size 80 zc ∧ Blk wr (w.heap.size + 1) 80 (wv (tk (l.take k))) ∧ Below w.heap.size w wr) (fun i _ => l.length - (intOf i).toNat)
  case atStart => exact ⟨0, Nat.zero_le _, rfl, h0.out⟩
  case round =>
    clear h0
    obtain ⟨wo, rfl⟩ : ∃ wo : World, wo = wr := ⟨_, rfl⟩
    obtain ⟨k, hk, rfl, h1, h2, hb⟩ := hrel
    by_cases hlt : k < l.length
    · obtain ⟨ad, hx, rfl, had, hc0, hc1⟩ := (H.out.below hb hD).two hlt
      obtain ⟨x, hxx⟩ : ∃ x, x = l[k].1 := ⟨_, rfl⟩
      obtain ⟨y, hy⟩ : ∃ y, y = l[k].2 := ⟨_, rfl⟩
      have hp : l[k] = (x, y) := by rw [hxx, hy]
      have hsn : Hid (∀ j, tk (l.take (k + 1)) j = (tk (l.take k) j || inS (x, y) j)) := Lib.hid fun j => by unfold tk; rw [List.take_succ_eq_append_getElem hx, inL_snoc, hp]
      rw [← hxx] at hc0; rw [← hy] at hc1
      have HC2 := Lib.hid (Blk.lt h2)
      have HB1 := Lib.hid ((h1.alloc (.cells #[.int .i64 x, .int .i64 y] 60))); have HB2 := Lib.hid ((h2.alloc (.cells #[.int .i64 x, .int .i64 y] 60)))
      have HBs : Hid (Blk (wo.alloc (.cells #[.int .i64 x, .int .i64 y] 60)) wo.heap.size 60 #[.int .i64 x, .int .i64 y]) := Lib.hid (Blk.new _ _ _)
      have HB := Lib.hid (hb.alloc hb.size (.cells #[.int .i64 x, .int .i64 y] 60))
      have hsz : w.heap.size + 1 < wo.heap.size := HC2.out
      obtain ⟨v, hv⟩ : ∃ v, isS (x, y) = v := ⟨_, rfl⟩
      have HV := Lib.hid hv
      clear hxx hy hp h1 h2 hb hv HC2
      go_wp2_with fail
      refine (iisspan _ _ _ _ HV.out).mono ?_
      rintro e w2 ⟨rfl, b2⟩
      have q1 : Hid (Blk w2 w.heap.size 80 zc) := Lib.hid (HB1.out.below b2 (by simp; omega))
      have q2 : Hid (Blk w2 (w.heap.size + 1) 80 (wv (tk (l.take k)))) := Lib.hid (HB2.out.below b2 (by simp; omega))
      have q3 : Hid (Blk w2 wo.heap.size 60 #[.int .i64 x, .int .i64 y]) := Lib.hid (HBs.out.below b2 (by simp))
      have qb : Hid (Below w.heap.size w w2) := Lib.hid (HB.out.trans (b2.mono HB.out.size))
      have s0 : w2.cell? ⟨wo.heap.size, 0, none⟩ = some (.int .i64 x) := q3.out.cell 0
      have s1 : w2.cell? ⟨wo.heap.size, 1, none⟩ = some (.int .i64 y) := q3.out.cell 1
      clear b2 HB1 HB2 HBs HB
      cases v
      · have q4 : Hid (Blk w2 (w.heap.size + 1) 80 (wv (tk (l.take (k + 1))))) := by
          refine Lib.hid ?_
          rw [wv_congr (tk (l.take (k + 1))) (tk (l.take k)) fun j => ?_]
          · exact q2.out
          · rw [hsn.out]
            cases hi : inS (x, y) j
            · simp
            · have := (isS_iff (x, y)).2 ((inS_iff (x, y) j).1 hi).1; rw [HV.out] at this; cases this
        clear s0 s1 hsn
        go_wp2
        go_roundw
        case rel => exact ⟨k + 1, by omega, by go_num, q1.out, q4.out, qb.out⟩
        case measure => simp [intOf]; omega
      · have hvv := (isS_iff (x, y)).1 HV.out
        simp only at hvv
        obtain ⟨a, rfl⟩ := Int.eq_ofNat_of_zero_le hvv.1
        obtain ⟨b, rfl⟩ := Int.eq_ofNat_of_zero_le (show 0 ≤ y by omega)
        have hab : a < b ∧ b ≤ 1000 := by omega
        obtain ⟨hab1, hab2⟩ := hab
        obtain ⟨S, hS⟩ : ∃ S, S = tk (l.take k) := ⟨_, rfl⟩
        have hfin : Hid (wv (upto S a b) = wv (tk (l.take (k + 1)))) := Lib.hid (wv_congr _ _ fun j => by
          rw [hsn.out, hS]; unfold upto
          congr 1
          rw [Bool.eq_iff_iff, inS_iff]; simp; omega)
        rw [← hS, ← upto_start S a] at q2
        clear hS hsn hvv
        go_wp2
        go_loopw [6] (fun i w3 => ∃ t : Nat, a ≤ t ∧ t ≤ b ∧ i = .int .i64 t ∧ Blk w3 w.heap.size 80 zc ∧ Blk w3 (w.heap.size + 1) 80 (wv (upto S a t)) ∧ Blk w3 wo.heap.size 60 #[.int .i64 (a : Int), .int .i64 (b : Int)] ∧ Below w.heap.size w w3) (fun i _ => b - (intOf i).toNat)
        case atStart => exact ⟨a, Nat.le_refl _, by omega, rfl, q1.out, q2.out, q3.out, qb.out⟩
        case round =>
          clear q1 q2 q3 qb s0 s1
          obtain ⟨t, ht1, ht2, rfl, r1, r2, r3, rb⟩ := hrel
          have s1 : wr.cell? ⟨wo.heap.size, 1, none⟩ = some (.int .i64 (b : Int)) := r3.cell 1
          by_cases ht : t < b
          · have hd1 : wr.cell? ⟨w.heap.size + 1, t / 64, none⟩ = some (.int .u64 (wd (upto S a t) (t / 64) : Nat)) := by rw [r2.cell]; exact cells16_at _ _ (by omega)
            have hf := r2.frozen (t / 64)
            have hp64 : 2 ^ (t % 64) < 18446744073709551616 := by
              have h1 : 2 ^ (t % 64) < 2 ^ 64 := Nat.pow_lt_pow_right (by omega) (by omega)
              exact h1
            have hz : bits .or .u64 (wd (upto S a t) (t / 64) : Int) (IntKind.u64.wrap (2 ^ (t % 64))) = ((wd (upto S a t) (t / 64) ||| 2 ^ (t % 64) : Nat) : Int) := by
              rw [show ((2 : Int) ^ (t % 64)) = ((2 ^ (t % 64) : Nat) : Int) by rw [Int.natCast_pow]; rfl, wrap_u64_of _ hp64]
              exact u64_or_nat _ _ (wd_lt _ _) hp64
            have R2 : Hid (Blk (wr.setCell ⟨w.heap.size + 1, t / 64, none⟩ (.int .u64 (bits .or .u64 (wd (upto S a t) (t / 64) : Int) (IntKind.u64.wrap (2 ^ (t % 64)))))) (w.heap.size + 1) 80 (wv (upto S a (t + 1)))) := by
              refine Lib.hid ?_
              rw [hz, ← upto_next S a t ht1, ← wv_with _ _ (by omega)]
              exact r2.set_ _ _
            have R1 := Lib.hid (r1.far (p := ⟨w.heap.size + 1, t / 64, none⟩) (by simp) (.int .u64 (bits .or .u64 (wd (upto S a t) (t / 64) : Int) (IntKind.u64.wrap (2 ^ (t % 64))))))
            have R3 := Lib.hid (r3.far (p := ⟨w.heap.size + 1, t / 64, none⟩) (by simp; omega) (.int .u64 (bits .or .u64 (wd (upto S a t) (t / 64) : Int) (IntKind.u64.wrap (2 ^ (t % 64))))))
            have RB := Lib.hid (rb.setCell (p := ⟨w.heap.size + 1, t / 64, none⟩) (by simp) (.int .u64 (bits .or .u64 (wd (upto S a t) (t / 64) : Int) (IntKind.u64.wrap (2 ^ (t % 64))))))
            clear hp64 hz r1 r2 r3 rb
            go_wp2
            go_region
            go_wp2
            go_roundw
            case rel => exact ⟨t + 1, by omega, by omega, by go_num, R1.out, R2.out, R3.out, RB.out.drew⟩
            case measure => simp [intOf]; omega
          · obtain rfl : t = b := by omega
            rw [hfin.out] at r2
            have R1 := Lib.hid r1; have R2 := Lib.hid r2; have RB := Lib.hid rb
            clear r1 r2 r3 rb
            go_wp2
            go_roundw
            case rel => exact ⟨k + 1, by omega, by go_num, R1.out, R2.out, RB.out⟩
            case measure => simp [intOf]; omega
    · obtain rfl : k = l.length := by omega
      rw [List.take_length] at h2
      have H1 := Lib.hid h1; have H2 := Lib.hid h2
      have HW : Hid ((wo.setRow w.heap.size (wv (tk l))).heap[w.heap.size]? = some (.cells (wv (tk l)) 80 (0, 0)) ∧ Below w.heap.size w (wo.setRow w.heap.size (wv (tk l)))) :=
        Lib.hid ⟨setRow_heap _ _ _ _ _ _ h1, below_setRow hb (Nat.le_refl _)⟩
      clear h1 h2 hb
      go_wp2_with (first
        | (refine wpList_load_row rfl 80 (.tmp 3) rfl (w.heap.size + 1) rfl 80 (wv (tk l)) (0, 0) _ H2.out Tryd.underlying80 rfl (by rw [zero_tick.2, wv, cells16_size]) ?_)
        | (refine wpList_store_row rfl 80 (.tmp 2) (.tmp 35) rfl w.heap.size (wv (tk l)) rfl rfl 80 zc H1.out (by rw [zero_tick.2, wv, cells16_size]) (by rw [HZ.out, wv, cells16_size]) (cells16_one _) ?_))
      exact bodyPost_ret (v := .agg (wv (tk l))) (results_cell_row (p := 2) (ty := 80) rfl _ _ w.heap.size 80 (wv (tk l)) (0, 0) _ rfl HW.out.1 Tryd.underlying80 rfl (by rw [zero_tick.2, wv, cells16_size])) rfl ⟨rfl, HW.out.2⟩
end Go.Proofs.YtpaedbmdcbmpiaaDoor
