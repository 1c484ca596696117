/- The program's table in an array (26 cells): what it holds, whole loads and stores; rowTableOf, isNode, isRowOf, IsTable. The program's rowTableOf and IsTable. The program's IsTable. -/
import Derived.Test.YtjobjjmeneddnaaTableM4
import Derived.Deep.WholeRow
import Derived.Test.YtjobjjmeneddnaaApart
import Derived.Laws.StructEq
import Derived.BigQuiet
import Derived.Deep.CutBlock
import Derived.Laws.ResultCell
namespace Go.Proofs.Ytjobjjmeneddnaa
open Go.ChangeShapes Go.WideShapes Go.ChangeAt Go.RowKit Go.BigFrame
set_option linter.unusedVariables false
/-- the 26 cells: the destination, twelve rows of which the first k are filled, the count -/
def rowT (S : Int) (ld ln : List Int) (N : Int) (k : Nat) : Array Value :=
  (Value.int .i64 S :: ((List.range 12).flatMap fun i : Nat => [Value.int .i64 (if i < k then atD ld i else 0), Value.int .i64 (if i < k then atD ln i else 0)]) ++ [Value.int .i64 N]).toArray
theorem rowT_size (S : Int) (ld ln : List Int) (N : Int) (k : Nat) : (rowT S ld ln N k).size = 26 := rfl
theorem rowT_one (S : Int) (ld ln : List Int) (N : Int) (k : Nat) : (rowT S ld ln N k).all (·.oneCell') = true := by simp [rowT, Value.oneCell']
theorem rowT_dst (S : Int) (ld ln : List Int) (N : Int) (k : Nat) : (rowT S ld ln N k)[0]? = some (.int .i64 S) := rfl
theorem rowT_count (S : Int) (ld ln : List Int) (N : Int) (k : Nat) : (rowT S ld ln N k)[25]? = some (.int .i64 N) := rfl
theorem lt12 {i : Nat} (h : i < 12) : i = 0 ∨ i = 1 ∨ i = 2 ∨ i = 3 ∨ i = 4 ∨ i = 5 ∨ i = 6 ∨ i = 7 ∨ i = 8 ∨ i = 9 ∨ i = 10 ∨ i = 11 := by omega
theorem rowT_d (S : Int) (ld ln : List Int) (N : Int) (k i : Nat) (hi : i < 12) : (rowT S ld ln N k)[1 + i * 2]? = some (.int .i64 (if i < k then atD ld i else 0)) := by
  rcases lt12 hi with e | e | e | e | e | e | e | e | e | e | e | e <;> subst e <;> rfl
theorem rowT_n (S : Int) (ld ln : List Int) (N : Int) (k i : Nat) (hi : i < 12) : (rowT S ld ln N k)[1 + i * 2 + 1]? = some (.int .i64 (if i < k then atD ln i else 0)) := by
  rcases lt12 hi with e | e | e | e | e | e | e | e | e | e | e | e <;> subst e <;> rfl
theorem rowT_put (S : Int) (ld ln : List Int) (N : Int) (k : Nat) (hk : k < 12) :
    ((rowT S ld ln N k).setIfInBounds (1 + k * 2) (.int .i64 (atD ld k))).setIfInBounds (1 + k * 2 + 1) (.int .i64 (atD ln k)) = rowT S ld ln N (k + 1) := by
  rcases lt12 hk with e | e | e | e | e | e | e | e | e | e | e | e <;> subst e <;> rfl
theorem rowT_none (S : Int) (ld ln ld' ln' : List Int) (N : Int) : rowT S ld ln N 0 = rowT S ld' ln' N 0 := rfl
section
variable {P : Program} {ops : Array Oper} {a : Act} {o : Oper} {rest : List Oper} {C : World → Prop}
/-- a whole struct loaded, in a quiet walk -/
theorem quiet_load_row {K : Act → Prop} (ty : TypeId) (x : Operand) (ho : o.op = .load ty x) (g : Nat) (hx : a.eval x = .pointer (some ⟨g, 0, none⟩)) (t : TypeId) (cs : Array Value) (d : TypeDesc) (hg : ∀ w, C w → Blk w g t cs)
    (hu : P.underlying ty = some d) (hd : (match d with | .struct _ | .array _ _ => true | _ => false) = true) (hi : (P.info? ty).map (·.size) = some cs.size) (hk : K (a.put o.dst (.agg cs))) : o.quiet P a C K :=
  ⟨_, fun w hw => by
    unfold Oper.quietAt execOp
    simp only [ho, hx, Instr.loadAt, Instr.sureAddr, Sem.run_bind, Sem.run_pure, Result.andThen_ok, run_loadVar_row w g t ty cs (0, 0) d (hg w hw) hu hd hi]
    exact ⟨rfl, rfl⟩, hk⟩
/-- a whole struct loaded, at a guarded operation that is wanted -/
theorem wpList_load_rowg {w : World} {Q : Exit → Act → World → Prop} (hw : Region.wanted o (yielded ops a.tmps) = true) (ty : TypeId) (x : Operand) (ho : o.op = .load ty x)
    (g : Nat) (hx : a.eval x = .pointer (some ⟨g, 0, none⟩)) (t : TypeId) (cs : Array Value) (d : TypeDesc) (hg : Blk w g t cs)
    (hu : P.underlying ty = some d) (hd : (match d with | .struct _ | .array _ _ => true | _ => false) = true) (hi : (P.info? ty).map (·.size) = some cs.size)
    (h : wpList P ops Q rest (a.put o.dst (.agg cs)) w) : wpList P ops Q (o :: rest) a w :=
  wpList_step fun K hK => by
    rw [if_pos hw]
    exact wp_load_row ty x ho g hx t cs (0, 0) d hg hu hd hi (hK _ _ h)
end
section
variable {w : World} {g : Nat} {t : TypeId} {cs cs' : Array Value}
theorem Blk.row (h : Blk w g t cs) : Blk (w.setRow g cs') g t cs' := setRow_heap w g cs cs' t (0, 0) h
theorem setRow_below {B : Nat} {a : World} (hb : Below B a w) (hB : B ≤ g) (h : Blk w g t cs) : Below B a (w.setRow g cs') := by
  refine hb.grown (row := some g) ⟨rfl, rfl, rfl, by simp [World.setRow], fun i hi hne => ?_⟩ (Nat.le_of_lt (Nat.lt_of_le_of_lt hB h.lt)) fun k e => by injection e with e; omega
  show (w.heap.modify g _)[i]? = _
  rw [Array.getElem?_modify, if_neg (fun e => hne (by rw [e]))]
end
theorem rowInfo : (Try.prog.info? 67).map (·.size) = some 26 := by kernel_rfl
set_option maxRecDepth 100000 in
set_option maxHeartbeats 1000000 in
theorem inode15 (w : World) (cs : Array Value) (N x : Int) (hsz : cs.size = 26) (hc : cs[25]? = some (.int .i64 N)) (hN : 0 ≤ N ∧ N ≤ 16777216) (b : Bool) (hb : inB x 0 (N - 1) = b) :
    Calls Try.prog 49 #[.agg cs, .int .i64 x] w (Says w b) := by
  obtain ⟨W1, hW1⟩ : ∃ W, W = w.alloc (.cells cs 67) := ⟨_, rfl⟩
  obtain ⟨g, hg⟩ : ∃ g, g = w.heap.size := ⟨_, rfl⟩
  have b1 : Below w.heap.size w W1 := by rw [hW1]; exact (Below.refl _ _).alloc (Nat.le_refl _) _
  have Y1 : Blk W1 g 67 cs := by rw [hW1, hg]; exact Blk.new _ _ _
  have q25 : W1.cell? ⟨g, 25, none⟩ = some (.int .i64 N) := by rw [Y1.cell]; exact hc
  have hw1 : wrap64 (N - 1) = N - 1 := by unfold wrap64; omega
  have HB1 := Lib.hid b1; have HW1 := Lib.hid hW1; have HG := Lib.hid hg; have HB := Lib.hid hb
  clear b1 hW1 hg Y1 hc hb
  go_enter Try.func49, Try.ntmps49
  go_upto_region 1 with fail
  rw [← HW1.out, ← HG.out]
  by_cases h : 0 ≤ x ∧ x ≤ N - 1
  case pos =>
    obtain rfl : b = true := by rw [← HB.out]; exact decide_eq_true h
    have HX := Lib.hid h
    clear h
    go_wp2_with fail
    refine (iinr_t x 0 (N - 1) _ HX.out.1 HX.out.2).mono ?_
    rintro e w2 ⟨rfl, rfl⟩
    go_wp2_with fail
    go_ret
    exact ⟨rfl, HB1.out⟩
  case neg =>
    obtain rfl : b = false := by rw [← HB.out]; exact decide_eq_false h
    have HX := Lib.hid h
    clear h
    go_wp2_with fail
    refine (iinr_f x 0 (N - 1) _ HX.out).mono ?_
    rintro e w2 ⟨rfl, rfl⟩
    go_wp2_with fail
    go_ret
    exact ⟨rfl, HB1.out⟩
/-- the cells of a table in an array, N rows of it filled -/
structure RowC (cs : Array Value) (S : Int) (ld ln : List Int) (N : Nat) : Prop where
  size : cs.size = 26
  one : cs.all (·.oneCell') = true
  dst : cs[0]? = some (.int .i64 S)
  count : cs[25]? = some (.int .i64 (N : Int))
  d : ∀ i, i < N → cs[1 + i * 2]? = some (.int .i64 (atD ld i))
  n : ∀ i, i < N → cs[1 + i * 2 + 1]? = some (.int .i64 (atD ln i))
theorem rowC_rowT (S : Int) (ld ln : List Int) (N : Nat) (hN : N ≤ 12) : RowC (rowT S ld ln N N) S ld ln N :=
  ⟨rfl, rowT_one _ _ _ _ _, rfl, rfl, fun i hi => by rw [rowT_d _ _ _ _ _ _ (by omega), if_pos hi], fun i hi => by rw [rowT_n _ _ _ _ _ _ (by omega), if_pos hi]⟩
theorem iinrB15 (n lo hi : Int) (w : World) (b : Bool) (h : inB n lo hi = b) : Calls Try.prog 69 #[.int .i64 n, .int .i64 lo, .int .i64 hi] w fun e w' => e = .returned (.bool b) ∧ w = w' := by
  subst h
  by_cases h : lo ≤ n ∧ n ≤ hi
  · rw [show inB n lo hi = true from decide_eq_true h]; exact iinr_t n lo hi w h.1 h.2
  · rw [show inB n lo hi = false from decide_eq_false h]; exact iinr_f n lo hi w h
set_option maxRecDepth 100000 in
set_option maxHeartbeats 2000000 in
theorem irow (w : World) (cs : Array Value) (S : Int) (ld ln : List Int) (N : Nat) (hc : RowC cs S ld ln N) (hN : N ≤ 12) (f : Int) (i : Nat) (hi : i < N) (b : Bool) (hb : nodeB S ld ln N f i = b) :
    Calls Try.prog 50 #[.agg cs, .int .i64 i, .int .i64 f] w (Says w b) := by
  obtain ⟨W1, hW1⟩ : ∃ W, W = w.alloc (.cells cs 67) := ⟨_, rfl⟩
  obtain ⟨g, hg⟩ : ∃ g, g = w.heap.size := ⟨_, rfl⟩
  have b1 : Below w.heap.size w W1 := by rw [hW1]; exact (Below.refl _ _).alloc (Nat.le_refl _) _
  have Y1 : Blk W1 g 67 cs := by rw [hW1, hg]; exact Blk.new _ _ _
  obtain ⟨v, hv⟩ : ∃ z, z = atD ld i := ⟨_, rfl⟩
  obtain ⟨n, hn⟩ : ∃ z, z = atD ln i := ⟨_, rfl⟩
  have qd : W1.cell? ⟨g, 1 + i * 2, none⟩ = some (.int .i64 v) := by rw [Y1.cell, hv]; exact hc.d i hi
  have qn : W1.cell? ⟨g, 1 + i * 2 + 1, none⟩ = some (.int .i64 n) := by rw [Y1.cell, hn]; exact hc.n i hi
  obtain ⟨W2, hW2⟩ : ∃ W, W = W1.alloc (.cells #[.int .i64 v, .int .i64 n] 64) := ⟨_, rfl⟩
  obtain ⟨q, hq⟩ : ∃ q, q = W1.heap.size := ⟨_, rfl⟩
  have b2 : Below w.heap.size w W2 := by rw [hW2]; exact b1.alloc b1.size _
  have Y2 : Blk W2 g 67 cs := by rw [hW2]; exact Y1.alloc _
  have Z2 : Blk W2 q 64 #[.int .i64 v, .int .i64 n] := by rw [hW2, hq]; exact Blk.new _ _ _
  have q0 : W2.cell? ⟨g, 0, none⟩ = some (.int .i64 S) := by rw [Y2.cell]; exact hc.dst
  have r0 : W2.cell? ⟨q, 0, none⟩ = some (.int .i64 v) := Z2.cell 0
  have r1 : W2.cell? ⟨q, 1, none⟩ = some (.int .i64 n) := Z2.cell 1
  have hi0 : (0 : Int) ≤ (i : Int) := by omega
  have hi12 : (i : Int) < 12 := by omega
  have HB : Hid ((if (i : Int) = S ∨ v = -1 then decide (n = -1 ∧ (v = 0 ↔ (i : Int) = S)) else decide ((1 ≤ v ∧ v ≤ (N : Int) - 1) ∧ (0 ≤ n ∧ n ≤ (N : Int) - 1) ∧ (n < f ∨ n = S) ∧ atD ld n = v - 1)) = b) := Lib.hid (by rw [hv, hn]; exact hb)
  have HB2 := Lib.hid b2; have HW1 := Lib.hid hW1; have HG := Lib.hid hg; have HW2 := Lib.hid hW2; have HQ := Lib.hid hq; have HY2 := Lib.hid Y2; have HZ2 := Lib.hid Z2; have HRC := Lib.hid hc
  clear b1 hW1 hg Y1 hc hb b2 hW2 hq Y2 Z2 hv hn
  by_cases hS : (i : Int) = S
  case pos =>
    have HX : Hid (b = decide (n = -1 ∧ v = 0)) := Lib.hid (by rw [← HB.out, if_pos (.inl hS), decide_eq_decide]; exact ⟨fun h => ⟨h.1, h.2.2 hS⟩, fun h => ⟨h.1, fun _ => hS, fun _ => h.2⟩⟩)
    clear HB
    subst hS
    by_cases h1 : v = 0
    case neg =>
      have hv0 : (v == 0) = false := by simpa using h1
      obtain rfl : b = false := by rw [HX.out]; exact decide_eq_false fun h => h1 h.2
      clear h1
      go_enter Try.func50, Try.ntmps50
      go_upto_region 1 with fail
      rw [← HW1.out, ← HG.out]
      go_upto_region 2 with fail
      rw [← HW2.out, ← HQ.out]
      go_wp2_with fail
      go_ret
      exact ⟨rfl, HB2.out⟩
    case pos =>
      subst h1
      by_cases h2 : n = -1
      case pos =>
        subst h2
        obtain rfl : b = true := by rw [HX.out]; rfl
        go_enter Try.func50, Try.ntmps50
        go_upto_region 1 with fail
        rw [← HW1.out, ← HG.out]
        go_upto_region 2 with fail
        rw [← HW2.out, ← HQ.out]
        go_wp2_with fail
        go_ret
        exact ⟨rfl, HB2.out⟩
      case neg =>
        have hn0 : (n == -1) = false := by simpa using h2
        obtain rfl : b = false := by rw [HX.out]; exact decide_eq_false fun h => h2 h.1
        clear h2
        go_enter Try.func50, Try.ntmps50
        go_upto_region 1 with fail
        rw [← HW1.out, ← HG.out]
        go_upto_region 2 with fail
        rw [← HW2.out, ← HQ.out]
        go_wp2_with fail
        go_ret
        exact ⟨rfl, HB2.out⟩
  case neg =>
    have hS0 : ((i : Int) == S) = false := by simpa using hS
    by_cases h1 : v = -1
    case pos =>
      subst h1
      have HX : Hid (decide (n = -1) = b) := Lib.hid (by rw [← HB.out, if_pos (.inr rfl), decide_eq_decide]; exact ⟨fun h => ⟨h, by omega, fun h => absurd h hS⟩, fun h => h.1⟩)
      have hb2 : (n == -1) = b := by rw [← HX.out]; by_cases h : n = -1 <;> simp [h]
      clear hS
      go_enter Try.func50, Try.ntmps50
      go_upto_region 1 with fail
      rw [← HW1.out, ← HG.out]
      go_upto_region 2 with fail
      rw [← HW2.out, ← HQ.out]
      go_wp2_with fail
      go_ret
      exact ⟨rfl, HB2.out⟩
    case neg =>
      have hv1 : (v == -1) = false := by simpa using h1
      have HX : Hid (b = decide ((1 ≤ v ∧ v ≤ (N : Int) - 1) ∧ (0 ≤ n ∧ n ≤ (N : Int) - 1) ∧ (n < f ∨ n = S) ∧ atD ld n = v - 1)) := Lib.hid (by rw [← HB.out, if_neg (fun h => by rcases h with h | h; exact hS h; exact h1 h)])
      clear hS h1 HB
      have hw1 : wrap64 ((N : Int) - 1) = (N : Int) - 1 := by unfold wrap64; omega
      have HNN : Hid ((0 : Int) ≤ (N : Int) ∧ (N : Int) ≤ 16777216) := Lib.hid ⟨by omega, by omega⟩
      have HINF : Hid ((Try.prog.info? 67).map (·.size) = some cs.size) := Lib.hid (by rw [HRC.out.size]; exact rowInfo)
      obtain ⟨QQ, hQQ⟩ : ∃ Q : World → Prop, ∀ w', Q w' ↔ Below W2.heap.size W2 w' := ⟨_, fun _ => Iff.rfl⟩
      have HQ0 : Hid (QQ W2) := Lib.hid ((hQQ _).2 (Below.refl _ _))
      have HQ1 : Hid (∀ a b, QQ a → Below a.heap.size a b → QQ b) := Lib.hid fun a b ha hb => (hQQ _).2 (((hQQ _).1 ha).trans (hb.mono ((hQQ _).1 ha).size))
      have HQ2 : Hid (∀ a, QQ a → Below w.heap.size w a) := Lib.hid fun a ha => HB2.out.trans (((hQQ _).1 ha).mono HB2.out.size)
      have HYQ : Hid (∀ a, QQ a → Blk a g 67 cs ∧ Blk a q 64 #[.int .i64 v, .int .i64 n]) := Lib.hid fun a ha => ⟨HY2.out.below ((hQQ _).1 ha) HY2.out.lt, HZ2.out.below ((hQQ _).1 ha) HZ2.out.lt⟩
      have HGQ : Hid (∀ a : World, (∃ x : Wld QQ, a = x.w) → Blk a g 67 cs) := Lib.hid fun a ⟨x, hx⟩ => by rw [hx]; exact (HYQ.out _ x.h).1
      clear hQQ
      have s0 : ∀ x : Wld QQ, x.w.cell? ⟨g, 0, none⟩ = some (.int .i64 S) := fun x => by rw [(HYQ.out _ x.h).1.cell]; exact HRC.out.dst
      have s25 : ∀ x : Wld QQ, x.w.cell? ⟨g, 25, none⟩ = some (.int .i64 (N : Int)) := fun x => by rw [(HYQ.out _ x.h).1.cell]; exact HRC.out.count
      have t0 : ∀ x : Wld QQ, x.w.cell? ⟨q, 0, none⟩ = some (.int .i64 v) := fun x => (HYQ.out _ x.h).2.cell 0
      have t1 : ∀ x : Wld QQ, x.w.cell? ⟨q, 1, none⟩ = some (.int .i64 n) := fun x => (HYQ.out _ x.h).2.cell 1
      have hne : Nonempty (Wld QQ) := ⟨⟨_, HQ0.out⟩⟩
      obtain ⟨c1, h1⟩ : ∃ c, inB v 1 ((N : Int) - 1) = c := ⟨_, rfl⟩
      obtain ⟨c2, h2⟩ : ∃ c, inB n 0 ((N : Int) - 1) = c := ⟨_, rfl⟩
      have H1 := Lib.hid h1; have H2 := Lib.hid h2
      clear h1 h2
      cases c1
      case false =>
        obtain rfl : b = false := by rw [HX.out]; exact decide_eq_false fun h => of_decide_eq_false H1.out h.1
        go_enter Try.func50, Try.ntmps50
        go_upto_region 1 with fail
        rw [← HW1.out, ← HG.out]
        go_upto_region 2 with fail
        rw [← HW2.out, ← HQ.out]
        go_upto_region 6 with fail
        refine wp_region_quiet_cls (C := fun w' => ∃ x : Wld QQ, w' = x.w) (by kernel_rfl) (by kernel_rfl) ⟨⟨_, HQ1.out _ _ HQ0.out (Below.refl _ _).drew⟩, rfl⟩ ?_
        repeat (first
          | (go_big_quiet_want; refine quiet_load_row 67 (.tmp 3) rfl g rfl 67 cs _ HGQ.out Try.underlying67 rfl HINF.out ?_; simp only [Act.put, List.setIfInBounds_toArray, List.set_cons_zero, List.set_cons_succ]; go_big_quiet_on)
          | go_big_quiet_step (first
            | (go_at_call 69; rename_i x; refine (iinrB15 v 1 ((N : Int) - 1) x.w _ H1.out).mono ?_; rintro e w' ⟨rfl, rfl⟩; exact ⟨rfl, ⟨x, rfl⟩⟩)
            | (go_at_call 49; rename_i x; refine (inode15 x.w cs N n HRC.out.size HRC.out.count HNN.out _ H2.out).mono ?_; rintro e w' ⟨rfl, hb⟩; exact ⟨rfl, ⟨⟨_, HQ1.out _ _ x.h hb⟩, rfl⟩⟩)))
        refine wpQuiet_nil ?_
        rintro _ ⟨⟨wq, hwq⟩, rfl⟩
        clear s0 s25 r0 r1 hne
        go_wp2_with fail
        go_ret
        exact ⟨rfl, HQ2.out _ hwq⟩
      case true =>
        cases c2
        case false =>
          obtain rfl : b = false := by rw [HX.out]; exact decide_eq_false fun h => of_decide_eq_false H2.out h.2.1
          go_enter Try.func50, Try.ntmps50
          go_upto_region 1 with fail
          rw [← HW1.out, ← HG.out]
          go_upto_region 2 with fail
          rw [← HW2.out, ← HQ.out]
          go_upto_region 6 with fail
          refine wp_region_quiet_cls (C := fun w' => ∃ x : Wld QQ, w' = x.w) (by kernel_rfl) (by kernel_rfl) ⟨⟨_, HQ1.out _ _ HQ0.out (Below.refl _ _).drew⟩, rfl⟩ ?_
          repeat (first
            | (go_big_quiet_want; refine quiet_load_row 67 (.tmp 3) rfl g rfl 67 cs _ HGQ.out Try.underlying67 rfl HINF.out ?_; simp only [Act.put, List.setIfInBounds_toArray, List.set_cons_zero, List.set_cons_succ]; go_big_quiet_on)
            | go_big_quiet_step (first
              | (go_at_call 69; rename_i x; refine (iinrB15 v 1 ((N : Int) - 1) x.w _ H1.out).mono ?_; rintro e w' ⟨rfl, rfl⟩; exact ⟨rfl, ⟨x, rfl⟩⟩)
              | (go_at_call 49; rename_i x; refine (inode15 x.w cs N n HRC.out.size HRC.out.count HNN.out _ H2.out).mono ?_; rintro e w' ⟨rfl, hb⟩; exact ⟨rfl, ⟨⟨_, HQ1.out _ _ x.h hb⟩, rfl⟩⟩)))
          refine wpQuiet_nil ?_
          rintro _ ⟨⟨wq, hwq⟩, rfl⟩
          clear s0 s25 r0 r1 hne
          go_wp2_with fail
          go_ret
          exact ⟨rfl, HQ2.out _ hwq⟩
        case true =>
          obtain ⟨hv1', hv2'⟩ := of_decide_eq_true H1.out
          obtain ⟨hn0', hn1'⟩ := of_decide_eq_true H2.out
          have hw2 : wrap64 (v - 1) = v - 1 := by unfold wrap64; omega
          obtain ⟨ni, rfl⟩ : ∃ k : Nat, (k : Int) = n := ⟨n.toNat, by omega⟩
          have hni : ni < N := by omega
          have hni12 : (ni : Int) < 12 := by omega
          obtain ⟨d2, hd2⟩ : ∃ z, z = atD ld ni := ⟨_, rfl⟩
          have HXX : Hid (b = decide (((ni : Int) < f ∨ (ni : Int) = S) ∧ d2 = v - 1)) := Lib.hid (by rw [HX.out, decide_eq_decide, hd2]; exact ⟨fun h => h.2.2, fun h => ⟨⟨hv1', hv2'⟩, ⟨hn0', hn1'⟩, h⟩⟩)
          have t2 : ∀ x : Wld QQ, x.w.cell? ⟨g, 1 + ni * 2, none⟩ = some (.int .i64 d2) := fun x => by rw [(HYQ.out _ x.h).1.cell, hd2]; exact HRC.out.d ni hni
          clear hd2 hv1' hv2' hn1' hni
          by_cases h3 : (ni : Int) < f ∨ (ni : Int) = S
          case neg =>
            obtain rfl : b = false := by rw [HXX.out]; exact decide_eq_false fun h => h3 h.1
            have h4 : decide ((ni : Int) < f) = false := decide_eq_false fun h => h3 (.inl h)
            have h5 : ((ni : Int) == S) = false := by simpa using fun h => h3 (.inr h)
            clear h3
            go_enter Try.func50, Try.ntmps50
            go_upto_region 1 with fail
            rw [← HW1.out, ← HG.out]
            go_upto_region 2 with fail
            rw [← HW2.out, ← HQ.out]
            go_upto_region 6 with fail
            refine wp_region_quiet_cls (C := fun w' => ∃ x : Wld QQ, w' = x.w) (by kernel_rfl) (by kernel_rfl) ⟨⟨_, HQ1.out _ _ HQ0.out (Below.refl _ _).drew⟩, rfl⟩ ?_
            repeat (first
              | (go_big_quiet_want; refine quiet_load_row 67 (.tmp 3) rfl g rfl 67 cs _ HGQ.out Try.underlying67 rfl HINF.out ?_; simp only [Act.put, List.setIfInBounds_toArray, List.set_cons_zero, List.set_cons_succ]; go_big_quiet_on)
              | go_big_quiet_step (first
                | (go_at_call 69; rename_i x; refine (iinrB15 v 1 ((N : Int) - 1) x.w _ H1.out).mono ?_; rintro e w' ⟨rfl, rfl⟩; exact ⟨rfl, ⟨x, rfl⟩⟩)
                | (go_at_call 49; rename_i x; refine (inode15 x.w cs N ni HRC.out.size HRC.out.count HNN.out _ H2.out).mono ?_; rintro e w' ⟨rfl, hb⟩; exact ⟨rfl, ⟨⟨_, HQ1.out _ _ x.h hb⟩, rfl⟩⟩)))
            refine wpQuiet_nil ?_
            rintro _ ⟨⟨wq, hwq⟩, rfl⟩
            clear s0 s25 r0 r1 hne
            go_wp2_with fail
            go_ret
            exact ⟨rfl, HQ2.out _ hwq⟩
          case pos =>
            have HBE : Hid (b = decide (d2 = v - 1)) := Lib.hid (by rw [HXX.out, decide_eq_decide]; exact ⟨fun h => h.2, fun h => ⟨h3, h⟩⟩)
            have hb6 : (d2 == v - 1) = b := by rw [HBE.out]; by_cases h : d2 = v - 1 <;> simp [h]
            by_cases h4 : (ni : Int) < f
            case pos =>
              have h4d : decide ((ni : Int) < f) = true := decide_eq_true h4
              clear h3 h4
              go_enter Try.func50, Try.ntmps50
              go_upto_region 1 with fail
              rw [← HW1.out, ← HG.out]
              go_upto_region 2 with fail
              rw [← HW2.out, ← HQ.out]
              go_upto_region 6 with fail
              refine wp_region_quiet_cls (C := fun w' => ∃ x : Wld QQ, w' = x.w) (by kernel_rfl) (by kernel_rfl) ⟨⟨_, HQ1.out _ _ HQ0.out (Below.refl _ _).drew⟩, rfl⟩ ?_
              repeat (first
                | (go_big_quiet_want; refine quiet_load_row 67 (.tmp 3) rfl g rfl 67 cs _ HGQ.out Try.underlying67 rfl HINF.out ?_; simp only [Act.put, List.setIfInBounds_toArray, List.set_cons_zero, List.set_cons_succ]; go_big_quiet_on)
                | go_big_quiet_step (first
                  | (go_at_call 69; rename_i x; refine (iinrB15 v 1 ((N : Int) - 1) x.w _ H1.out).mono ?_; rintro e w' ⟨rfl, rfl⟩; exact ⟨rfl, ⟨x, rfl⟩⟩)
                  | (go_at_call 49; rename_i x; refine (inode15 x.w cs N ni HRC.out.size HRC.out.count HNN.out _ H2.out).mono ?_; rintro e w' ⟨rfl, hb⟩; exact ⟨rfl, ⟨⟨_, HQ1.out _ _ x.h hb⟩, rfl⟩⟩)))
              refine wpQuiet_nil ?_
              rintro _ ⟨⟨wq, hwq⟩, rfl⟩
              clear s0 s25 r0 r1 hne
              go_wp2_with fail
              go_ret
              exact ⟨rfl, HQ2.out _ hwq⟩
            case neg =>
              have h4d : decide ((ni : Int) < f) = false := decide_eq_false h4
              have h5 : ((ni : Int) == S) = true := by rcases h3 with h | h; exact absurd h h4; simpa using h
              clear h3 h4
              go_enter Try.func50, Try.ntmps50
              go_upto_region 1 with fail
              rw [← HW1.out, ← HG.out]
              go_upto_region 2 with fail
              rw [← HW2.out, ← HQ.out]
              go_upto_region 6 with fail
              refine wp_region_quiet_cls (C := fun w' => ∃ x : Wld QQ, w' = x.w) (by kernel_rfl) (by kernel_rfl) ⟨⟨_, HQ1.out _ _ HQ0.out (Below.refl _ _).drew⟩, rfl⟩ ?_
              repeat (first
                | (go_big_quiet_want; refine quiet_load_row 67 (.tmp 3) rfl g rfl 67 cs _ HGQ.out Try.underlying67 rfl HINF.out ?_; simp only [Act.put, List.setIfInBounds_toArray, List.set_cons_zero, List.set_cons_succ]; go_big_quiet_on)
                | go_big_quiet_step (first
                  | (go_at_call 69; rename_i x; refine (iinrB15 v 1 ((N : Int) - 1) x.w _ H1.out).mono ?_; rintro e w' ⟨rfl, rfl⟩; exact ⟨rfl, ⟨x, rfl⟩⟩)
                  | (go_at_call 49; rename_i x; refine (inode15 x.w cs N ni HRC.out.size HRC.out.count HNN.out _ H2.out).mono ?_; rintro e w' ⟨rfl, hb⟩; exact ⟨rfl, ⟨⟨_, HQ1.out _ _ x.h hb⟩, rfl⟩⟩)))
              refine wpQuiet_nil ?_
              rintro _ ⟨⟨wq, hwq⟩, rfl⟩
              clear s0 s25 r0 r1 hne
              go_wp2_with fail
              go_ret
              exact ⟨rfl, HQ2.out _ hwq⟩
end Go.Proofs.Ytjobjjmeneddnaa
namespace Go.Proofs.Ytjobjjmeneddnaa
open Go.ChangeShapes Go.WideShapes Go.ChangeAt Go.RowKit Go.BigFrame
set_option linter.unusedVariables false
set_option maxRecDepth 100000 in
set_option maxHeartbeats 2000000 in
theorem irows (w : World) (D : Nat) (S : Int) (Ad : Option Addr) (nd cd : Nat) (An : Option Addr) (nn cn : Nat) (ld ln : List Int) (h : InTab w D Ad nd cd An nn cn ld ln) (hD : D ≤ w.heap.size) (hn1 : nd ≤ 16777216) (hn2 : nn ≤ 16777216) (b : Bool) (hb : decide (ld.length = ln.length ∧ ln.length ≤ 12) = b) :
    Calls Try.prog 48 #[.agg #[.int .i64 S, .slice Ad nd cd, .slice An nn cn]] w fun e w' => (∃ cs : Array Value, e = .returned (.tuple #[.agg cs, .bool b]) ∧ cs.size = 26 ∧ cs.all (·.oneCell') = true ∧ (b = true → RowC cs S ld ln ln.length)) ∧ Below w.heap.size w w' := by
  obtain rfl : nn = ln.length := by have h1 := h.n.len; rw [iv_len] at h1; omega
  obtain rfl : nd = ld.length := by have h1 := h.d.len; rw [iv_len] at h1; omega
  obtain ⟨W1, hW1⟩ : ∃ W, W = w.alloc (.cells #[.int .i64 S, .slice Ad ld.length cd, .slice An ln.length cn] 29) := ⟨_, rfl⟩
  obtain ⟨g, hg⟩ : ∃ g, g = w.heap.size := ⟨_, rfl⟩
  obtain ⟨W2, hW2⟩ : ∃ W, W = W1.alloc (.cells #[.int .i64 0, .int .i64 0, .int .i64 0, .int .i64 0, .int .i64 0, .int .i64 0, .int .i64 0, .int .i64 0, .int .i64 0, .int .i64 0, .int .i64 0, .int .i64 0, .int .i64 0, .int .i64 0, .int .i64 0, .int .i64 0, .int .i64 0, .int .i64 0, .int .i64 0, .int .i64 0, .int .i64 0, .int .i64 0, .int .i64 0, .int .i64 0, .int .i64 0, .int .i64 0] 67) := ⟨_, rfl⟩
  obtain ⟨g2, hg2⟩ : ∃ g, g = W1.heap.size := ⟨_, rfl⟩
  obtain ⟨W3, hW3⟩ : ∃ W, W = W2.alloc (.cells (rowT S ld ln ln.length 0) 67) := ⟨_, rfl⟩
  obtain ⟨g3, hg3⟩ : ∃ g, g = W2.heap.size := ⟨_, rfl⟩
  have b1 : Below w.heap.size w W1 := by rw [hW1]; exact (Below.refl _ _).alloc (Nat.le_refl _) _
  have b2 : Below w.heap.size w W2 := by rw [hW2]; exact b1.alloc b1.size _
  have b3 : Below w.heap.size w W3 := by rw [hW3]; exact b2.alloc b2.size _
  have Y1 : Blk W1 g 29 #[.int .i64 S, .slice Ad ld.length cd, .slice An ln.length cn] := by rw [hW1, hg]; exact Blk.new _ _ _
  have Y2 : Blk W2 g 29 #[.int .i64 S, .slice Ad ld.length cd, .slice An ln.length cn] := by rw [hW2]; exact Y1.alloc _
  have Y3 : Blk W3 g 29 #[.int .i64 S, .slice Ad ld.length cd, .slice An ln.length cn] := by rw [hW3]; exact Y2.alloc _
  have X2 : Blk W2 g2 67 #[.int .i64 0, .int .i64 0, .int .i64 0, .int .i64 0, .int .i64 0, .int .i64 0, .int .i64 0, .int .i64 0, .int .i64 0, .int .i64 0, .int .i64 0, .int .i64 0, .int .i64 0, .int .i64 0, .int .i64 0, .int .i64 0, .int .i64 0, .int .i64 0, .int .i64 0, .int .i64 0, .int .i64 0, .int .i64 0, .int .i64 0, .int .i64 0, .int .i64 0, .int .i64 0] := by rw [hW2, hg2]; exact Blk.new _ _ _
  have X3 : Blk W3 g2 67 #[.int .i64 0, .int .i64 0, .int .i64 0, .int .i64 0, .int .i64 0, .int .i64 0, .int .i64 0, .int .i64 0, .int .i64 0, .int .i64 0, .int .i64 0, .int .i64 0, .int .i64 0, .int .i64 0, .int .i64 0, .int .i64 0, .int .i64 0, .int .i64 0, .int .i64 0, .int .i64 0, .int .i64 0, .int .i64 0, .int .i64 0, .int .i64 0, .int .i64 0, .int .i64 0] := by rw [hW3]; exact X2.alloc _
  have T3 : Blk W3 g3 67 (rowT S ld ln ln.length 0) := by rw [hW3, hg3]; exact Blk.new _ _ _
  have hs3 : g < g3 ∧ g2 < g3 ∧ D ≤ g3 ∧ w.heap.size ≤ g2 := by
    have h1 := Y2.lt; have h2 := X2.lt; have h3 := b2.size; have h4 := b1.size
    refine ⟨by omega, by omega, by omega, by omega⟩
  have HT2 := Lib.hid (h.below b2 hD)
  have HC : Hid (∀ wr, Below g3 W3 wr → InTab wr D Ad ld.length cd An ln.length cn ld ln ∧ Below w.heap.size w wr ∧ Blk wr g2 67 #[.int .i64 0, .int .i64 0, .int .i64 0, .int .i64 0, .int .i64 0, .int .i64 0, .int .i64 0, .int .i64 0, .int .i64 0, .int .i64 0, .int .i64 0, .int .i64 0, .int .i64 0, .int .i64 0, .int .i64 0, .int .i64 0, .int .i64 0, .int .i64 0, .int .i64 0, .int .i64 0, .int .i64 0, .int .i64 0, .int .i64 0, .int .i64 0, .int .i64 0, .int .i64 0] ∧ (wr.cell? ⟨g, 1, none⟩ = some (.slice Ad ld.length cd) ∧ wr.cell? ⟨g, 2, none⟩ = some (.slice An ln.length cn))) := Lib.hid fun wr hb => by
    have Y := Y3.below hb hs3.1
    exact ⟨(h.below b3 hD).below hb hs3.2.2.1, b3.trans (hb.mono (by omega)), X3.below hb hs3.2.1, Y.cell 1, Y.cell 2⟩
  have q0 : W2.cell? ⟨g, 0, none⟩ = some (.int .i64 S) := Y2.cell 0
  have q2 : W2.cell? ⟨g, 2, none⟩ = some (.slice An ln.length cn) := Y2.cell 2
  have c25 : W3.cell? ⟨g3, 25, none⟩ = some (.int .i64 (ln.length : Int)) := by rw [T3.cell]; rfl
  have k1 : W3.cell? ⟨g, 1, none⟩ = some (.slice Ad ld.length cd) := Y3.cell 1
  have HP3 : Hid (Blk (W2.alloc (.cells #[.int .i64 0, .int .i64 0, .int .i64 0, .int .i64 0, .int .i64 0, .int .i64 0, .int .i64 0, .int .i64 0, .int .i64 0, .int .i64 0, .int .i64 0, .int .i64 0, .int .i64 0, .int .i64 0, .int .i64 0, .int .i64 0, .int .i64 0, .int .i64 0, .int .i64 0, .int .i64 0, .int .i64 0, .int .i64 0, .int .i64 0, .int .i64 0, .int .i64 0, .int .i64 0] 67)) W2.heap.size 67 #[.int .i64 0, .int .i64 0, .int .i64 0, .int .i64 0, .int .i64 0, .int .i64 0, .int .i64 0, .int .i64 0, .int .i64 0, .int .i64 0, .int .i64 0, .int .i64 0, .int .i64 0, .int .i64 0, .int .i64 0, .int .i64 0, .int .i64 0, .int .i64 0, .int .i64 0, .int .i64 0, .int .i64 0, .int .i64 0, .int .i64 0, .int .i64 0, .int .i64 0, .int .i64 0]) := Lib.hid (Blk.new _ _ _)
  have HSZ := Lib.hid hs3; have HT3 := Lib.hid T3; have HB := Lib.hid hb; have HX3 := Lib.hid X3
  have HW1 := Lib.hid (And.intro hW1 hg); have HW2 := Lib.hid (And.intro hW2 (show g2 = g + 1 by rw [hg2, hW1, hg]; simp)); have HW3 := Lib.hid (And.intro hW3 hg3)
  have hcn := h.n.cap; have hcm := h.n.capm; have hdn := h.d.cap; have hdm := h.d.capm
  clear h b1 b2 b3 Y1 Y2 Y3 X2 X3 T3 hs3 hW1 hW2 hW3 hg hg2 hg3 hb
  by_cases hl : ld.length = ln.length ∧ ln.length ≤ 12
  case neg =>
    obtain rfl : b = false := by rw [← HB.out]; exact decide_eq_false hl
    have HF : Hid (Below w.heap.size w (W3.setRow g2 #[.int .i64 0, .int .i64 0, .int .i64 0, .int .i64 0, .int .i64 0, .int .i64 0, .int .i64 0, .int .i64 0, .int .i64 0, .int .i64 0, .int .i64 0, .int .i64 0, .int .i64 0, .int .i64 0, .int .i64 0, .int .i64 0, .int .i64 0, .int .i64 0, .int .i64 0, .int .i64 0, .int .i64 0, .int .i64 0, .int .i64 0, .int .i64 0, .int .i64 0, .int .i64 0]) ∧ Blk (W3.setRow g2 #[.int .i64 0, .int .i64 0, .int .i64 0, .int .i64 0, .int .i64 0, .int .i64 0, .int .i64 0, .int .i64 0, .int .i64 0, .int .i64 0, .int .i64 0, .int .i64 0, .int .i64 0, .int .i64 0, .int .i64 0, .int .i64 0, .int .i64 0, .int .i64 0, .int .i64 0, .int .i64 0, .int .i64 0, .int .i64 0, .int .i64 0, .int .i64 0, .int .i64 0, .int .i64 0]) g2 67 #[.int .i64 0, .int .i64 0, .int .i64 0, .int .i64 0, .int .i64 0, .int .i64 0, .int .i64 0, .int .i64 0, .int .i64 0, .int .i64 0, .int .i64 0, .int .i64 0, .int .i64 0, .int .i64 0, .int .i64 0, .int .i64 0, .int .i64 0, .int .i64 0, .int .i64 0, .int .i64 0, .int .i64 0, .int .i64 0, .int .i64 0, .int .i64 0, .int .i64 0, .int .i64 0]) := Lib.hid ⟨setRow_below (HC.out _ (Below.refl _ _)).2.1 HSZ.out.2.2.2 HX3.out, HX3.out.row⟩
    have HZO : Hid ((#[.int .i64 0, .int .i64 0, .int .i64 0, .int .i64 0, .int .i64 0, .int .i64 0, .int .i64 0, .int .i64 0, .int .i64 0, .int .i64 0, .int .i64 0, .int .i64 0, .int .i64 0, .int .i64 0, .int .i64 0, .int .i64 0, .int .i64 0, .int .i64 0, .int .i64 0, .int .i64 0, .int .i64 0, .int .i64 0, .int .i64 0, .int .i64 0, .int .i64 0, .int .i64 0] : Array Value).all (·.oneCell') = true) := Lib.hid (by simp [Value.oneCell'])
    obtain ⟨Wf, hWf⟩ : ∃ W, W = W3.setRow g2 #[.int .i64 0, .int .i64 0, .int .i64 0, .int .i64 0, .int .i64 0, .int .i64 0, .int .i64 0, .int .i64 0, .int .i64 0, .int .i64 0, .int .i64 0, .int .i64 0, .int .i64 0, .int .i64 0, .int .i64 0, .int .i64 0, .int .i64 0, .int .i64 0, .int .i64 0, .int .i64 0, .int .i64 0, .int .i64 0, .int .i64 0, .int .i64 0, .int .i64 0, .int .i64 0] := ⟨_, rfl⟩
    rw [← hWf] at HF
    have HWF := Lib.hid hWf
    have hld : (loadVar 67 ⟨g2, 0, none⟩).run Try.prog Wf = .ok (.agg #[.int .i64 0, .int .i64 0, .int .i64 0, .int .i64 0, .int .i64 0, .int .i64 0, .int .i64 0, .int .i64 0, .int .i64 0, .int .i64 0, .int .i64 0, .int .i64 0, .int .i64 0, .int .i64 0, .int .i64 0, .int .i64 0, .int .i64 0, .int .i64 0, .int .i64 0, .int .i64 0, .int .i64 0, .int .i64 0, .int .i64 0, .int .i64 0, .int .i64 0, .int .i64 0]) Wf := run_loadVar_row Wf g2 67 67 _ (0, 0) _ HF.out.2 Try.underlying67 rfl rowInfo
    have HLD := Lib.hid hld
    clear hWf hld
    by_cases h1 : ld.length = ln.length
    case neg =>
      have e1 : ((ld.length : Int) != (ln.length : Int)) = true := by simp only [bne_iff_ne, ne_eq]; omega
      clear h1 hl
      go_enter Try.func48, Try.ntmps48
      go_upto_region 1 with fail
      rw [← HW1.out.1, ← HW1.out.2, ← HW2.out.1, ← HW2.out.2]
      go_upto_region 2 with (first | fail | (refine wpList_store_row rfl 67 (.tmp 4) (.tmp 11) rfl W2.heap.size (rowT S ld ln ln.length 0) rfl rfl 67 _ HP3.out rowInfo rfl (rowT_one _ _ _ _ _) ?_; rw [World.setRow_alloc_new, ← HW3.out.1, ← HW3.out.2]))
      simp only [Act.put]
      go_wp2_with (refine wpList_store_row rfl 67 (.tmp 2) (.tmp 23) rfl g2 #[.int .i64 0, .int .i64 0, .int .i64 0, .int .i64 0, .int .i64 0, .int .i64 0, .int .i64 0, .int .i64 0, .int .i64 0, .int .i64 0, .int .i64 0, .int .i64 0, .int .i64 0, .int .i64 0, .int .i64 0, .int .i64 0, .int .i64 0, .int .i64 0, .int .i64 0, .int .i64 0, .int .i64 0, .int .i64 0, .int .i64 0, .int .i64 0, .int .i64 0, .int .i64 0] rfl rfl 67 _ HX3.out rowInfo rfl HZO.out ?_; rw [← HWF.out])
      refine bodyPost_ret (v := .tuple #[.agg #[.int .i64 0, .int .i64 0, .int .i64 0, .int .i64 0, .int .i64 0, .int .i64 0, .int .i64 0, .int .i64 0, .int .i64 0, .int .i64 0, .int .i64 0, .int .i64 0, .int .i64 0, .int .i64 0, .int .i64 0, .int .i64 0, .int .i64 0, .int .i64 0, .int .i64 0, .int .i64 0, .int .i64 0, .int .i64 0, .int .i64 0, .int .i64 0, .int .i64 0, .int .i64 0], .bool false]) ?_ rfl ?_
      · rw [results_cell_tmp rfl]; simp [asAddr, Result.andThen, HLD.out]
      · exact ⟨⟨_, rfl, rfl, HZO.out, fun h => by cases h⟩, HF.out.1⟩
    case pos =>
      have e1 : ((ld.length : Int) != (ln.length : Int)) = false := by rw [h1]; simp
      have e2 : decide ((12 : Int) < (ln.length : Int)) = true := decide_eq_true (by have := fun h => hl ⟨h1, h⟩; omega)
      clear h1 hl
      go_enter Try.func48, Try.ntmps48
      go_upto_region 1 with fail
      rw [← HW1.out.1, ← HW1.out.2, ← HW2.out.1, ← HW2.out.2]
      go_upto_region 2 with (first | fail | (refine wpList_store_row rfl 67 (.tmp 4) (.tmp 11) rfl W2.heap.size (rowT S ld ln ln.length 0) rfl rfl 67 _ HP3.out rowInfo rfl (rowT_one _ _ _ _ _) ?_; rw [World.setRow_alloc_new, ← HW3.out.1, ← HW3.out.2]))
      simp only [Act.put]
      go_wp2_with (refine wpList_store_row rfl 67 (.tmp 2) (.tmp 23) rfl g2 #[.int .i64 0, .int .i64 0, .int .i64 0, .int .i64 0, .int .i64 0, .int .i64 0, .int .i64 0, .int .i64 0, .int .i64 0, .int .i64 0, .int .i64 0, .int .i64 0, .int .i64 0, .int .i64 0, .int .i64 0, .int .i64 0, .int .i64 0, .int .i64 0, .int .i64 0, .int .i64 0, .int .i64 0, .int .i64 0, .int .i64 0, .int .i64 0, .int .i64 0, .int .i64 0] rfl rfl 67 _ HX3.out rowInfo rfl HZO.out ?_; rw [← HWF.out])
      refine bodyPost_ret (v := .tuple #[.agg #[.int .i64 0, .int .i64 0, .int .i64 0, .int .i64 0, .int .i64 0, .int .i64 0, .int .i64 0, .int .i64 0, .int .i64 0, .int .i64 0, .int .i64 0, .int .i64 0, .int .i64 0, .int .i64 0, .int .i64 0, .int .i64 0, .int .i64 0, .int .i64 0, .int .i64 0, .int .i64 0, .int .i64 0, .int .i64 0, .int .i64 0, .int .i64 0, .int .i64 0, .int .i64 0], .bool false]) ?_ rfl ?_
      · rw [results_cell_tmp rfl]; simp [asAddr, Result.andThen, HLD.out]
      · exact ⟨⟨_, rfl, rfl, HZO.out, fun h => by cases h⟩, HF.out.1⟩
  case pos =>
    obtain ⟨hl1, hl2⟩ := hl
    obtain rfl : b = true := by rw [← HB.out]; exact decide_eq_true ⟨hl1, hl2⟩
    have e1 : ((ld.length : Int) != (ln.length : Int)) = false := by rw [hl1]; simp
    have e2 : decide ((12 : Int) < (ln.length : Int)) = false := decide_eq_false (by omega)
    have HL := Lib.hid (And.intro hl1 hl2)
    clear hl1 hl2
    go_enter Try.func48, Try.ntmps48
    go_upto_region 1 with fail
    rw [← HW1.out.1, ← HW1.out.2, ← HW2.out.1, ← HW2.out.2]
    go_upto_region 2 with (first | fail | (refine wpList_store_row rfl 67 (.tmp 4) (.tmp 11) rfl W2.heap.size (rowT S ld ln ln.length 0) rfl rfl 67 _ HP3.out rowInfo rfl (rowT_one _ _ _ _ _) ?_; rw [World.setRow_alloc_new, ← HW3.out.1, ← HW3.out.2]))
    simp only [Act.put]
    clear q0 q2
    go_wp2_with fail
    go_loopw [26] (fun iv_ wr => ∃ k : Nat, k ≤ ln.length ∧ iv_ = .int .i64 k ∧ Blk wr g3 67 (rowT S ld ln ln.length k) ∧ Below g3 W3 wr) (fun iv_ _ => ln.length - (intOf iv_).toNat)
    case atStart => exact ⟨0, Nat.zero_le _, rfl, HT3.out, Below.refl _ _⟩
    case round =>
      obtain ⟨k, hk, rfl, hT, hb⟩ := hrel
      have HT := Lib.hid hT; have HBB := Lib.hid hb
      clear hT hb c25 k1
      have hk0 : (0 : Int) ≤ (k : Int) := by omega
      obtain ⟨hIT, -, -, k1, k2⟩ := HC.out _ HBB.out
      have HIT := Lib.hid hIT
      clear hIT
      by_cases hlt : k < ln.length
      case neg =>
        obtain rfl : k = ln.length := by omega
        obtain ⟨CC, hCC⟩ : ∃ c, c = rowT S ld ln ln.length ln.length := ⟨_, rfl⟩
        have hCz : CC.size = 26 := by rw [hCC]; rfl
        have hC1 : CC.all (·.oneCell') = true := by rw [hCC]; exact rowT_one _ _ _ _ _
        have HRC : Hid (RowC CC S ld ln ln.length) := Lib.hid (by rw [hCC]; exact rowC_rowT _ _ _ _ HL.out.2)
        have HTC : Hid (Blk wr g3 67 CC) := Lib.hid (by rw [hCC]; exact HT.out)
        have HX := Lib.hid (HC.out _ HBB.out).2.2.1
        have HINF : Hid ((Try.prog.info? 67).map (·.size) = some CC.size) := Lib.hid (by rw [hCz]; exact rowInfo)
        obtain ⟨Wf, hWf⟩ : ∃ W, W = wr.setRow g2 CC := ⟨_, rfl⟩
        have HF : Hid (Below w.heap.size w Wf ∧ Blk Wf g2 67 CC) := Lib.hid (by rw [hWf]; exact ⟨setRow_below (HC.out _ HBB.out).2.1 HSZ.out.2.2.2 HX.out, HX.out.row⟩)
        have HWF := Lib.hid hWf
        have HLD : Hid ((loadVar 67 ⟨g2, 0, none⟩).run Try.prog Wf = .ok (.agg CC) Wf) := Lib.hid (run_loadVar_row Wf g2 67 67 _ (0, 0) _ HF.out.2 Try.underlying67 rfl HINF.out)
        have HCZ := Lib.hid hCz; have HC1 := Lib.hid hC1
        clear hCC hWf hCz hC1
        go_wp2_with (first
          | (refine wpList_load_row rfl 67 (.tmp 4) rfl g3 rfl 67 CC (0, 0) _ HTC.out Try.underlying67 rfl HINF.out ?_)
          | (refine wpList_store_row rfl 67 (.tmp 2) (.tmp 44) rfl g2 CC rfl rfl 67 _ HX.out HINF.out HCZ.out.symm HC1.out ?_; rw [← HWF.out]))
        refine bodyPost_ret (v := .tuple #[.agg CC, .bool true]) ?_ rfl ?_
        · rw [results_cell_tmp rfl]; simp [asAddr, Result.andThen, HLD.out]
        · exact ⟨⟨_, rfl, HCZ.out, HC1.out, fun _ => HRC.out⟩, HF.out.1⟩
      case pos =>
        have hkl : (k : Int) < (ln.length : Int) := by omega
        have hkd : k < ld.length := by rw [HL.out.1]; exact hlt
        have hkd' : (k : Int) < (ld.length : Int) := by omega
        have hk12 : (k : Int) < 12 := by have := HL.out.2; omega
        have hk12n : k < 12 := by omega
        obtain ⟨an, hx, rfl, had, c0⟩ := HIT.out.n.int hlt
        obtain ⟨ad, hy, rfl, hbd, d0⟩ := HIT.out.d.int hkd
        rw [← atD_nat ln k hlt] at c0
        rw [← atD_nat ld k hkd] at d0
        have HPUT := Lib.hid (rowT_put S ld ln ln.length k hk12n)
        obtain ⟨v, hv⟩ : ∃ v, v = atD ld k := ⟨_, rfl⟩
        obtain ⟨n, hn⟩ : ∃ v, v = atD ln k := ⟨_, rfl⟩
        rw [← hv] at d0 HPUT
        rw [← hn] at c0 HPUT
        have p0 : wr.cell? ⟨g3, 1 + k * 2, none⟩ = some (.int .i64 0) := by rw [HT.out.cell, rowT_d _ _ _ _ _ _ hk12n, if_neg (by omega)]
        have f0 := HT.out.frozen (1 + k * 2)
        have p1 : (wr.setCell ⟨g3, 1 + k * 2, none⟩ (.int .i64 v)).cell? ⟨g3, 1 + k * 2 + 1, none⟩ = some (.int .i64 0) := by
          rw [(HT.out.set_ (1 + k * 2) (.int .i64 v)).cell, Array.getElem?_setIfInBounds_ne (by omega), rowT_n _ _ _ _ _ _ hk12n, if_neg (by omega)]
        have f1 := (HT.out.set_ (1 + k * 2) (.int .i64 v)).frozen (1 + k * 2 + 1)
        have HR : Hid (Blk ((wr.setCell ⟨g3, 1 + k * 2, none⟩ (.int .i64 v)).setCell ⟨g3, 1 + k * 2 + 1, none⟩ (.int .i64 n)).drew g3 67 (rowT S ld ln ln.length (k + 1)) ∧ Below g3 W3 ((wr.setCell ⟨g3, 1 + k * 2, none⟩ (.int .i64 v)).setCell ⟨g3, 1 + k * 2 + 1, none⟩ (.int .i64 n)).drew) := Lib.hid ⟨by rw [← HPUT.out]; exact ((HT.out.set_ _ _).set_ _ _).drew, ((HBB.out.setCell (Nat.le_refl _) _).setCell (Nat.le_refl _) _).drew⟩
        clear hv hn hx hy had hbd
        go_wp2_with fail
        go_region
        obtain ⟨W9, hW9⟩ : ∃ W, W = ((wr.setCell ⟨g3, 1 + k * 2, none⟩ (.int .i64 v)).setCell ⟨g3, 1 + k * 2 + 1, none⟩ (.int .i64 n)).drew := ⟨_, rfl⟩
        rw [← hW9] at HR ⊢
        clear hW9 p0 p1 f0 f1 c0 d0 k1 k2
        go_wp2_with fail
        go_roundw
        case rel => exact ⟨k + 1, by omega, by go_num, HR.out.1, HR.out.2⟩
        case measure => simp [intOf]; omega
end Go.Proofs.Ytjobjjmeneddnaa
namespace Go.Proofs.Ytjobjjmeneddnaa
open Go.ChangeShapes Go.WideShapes Go.ChangeAt Go.RowKit Go.BigFrame
set_option linter.unusedVariables false
set_option maxRecDepth 100000 in
set_option maxHeartbeats 2000000 in
theorem istab (w : World) (D : Nat) (S : Int) (Ad : Option Addr) (nd cd : Nat) (An : Option Addr) (nn cn : Nat) (ld ln : List Int) (h : InTab w D Ad nd cd An nn cn ld ln) (hD : D ≤ w.heap.size) (hn1 : nd ≤ 16777216) (hn2 : nn ≤ 16777216) (nodes f : Int) (hk : OkTab S ld ln) (hj1 : J64 nodes) (hj2 : J64 f) (b : Bool) (hb : isTab S ld ln nodes f = b) :
    Calls Try.prog 17 #[.agg #[.int .i64 S, .slice Ad nd cd, .slice An nn cn], .int .i64 nodes, .int .i64 f] w (Says w b) := by
  obtain ⟨W1, hW1⟩ : ∃ W, W = w.alloc (.cells #[.int .i64 S, .slice Ad nd cd, .slice An nn cn] 29) := ⟨_, rfl⟩
  obtain ⟨g, hg⟩ : ∃ g, g = w.heap.size := ⟨_, rfl⟩
  have b1 : Below w.heap.size w W1 := by rw [hW1]; exact (Below.refl _ _).alloc (Nat.le_refl _) _
  have Y1 : Blk W1 g 29 #[.int .i64 S, .slice Ad nd cd, .slice An nn cn] := by rw [hW1, hg]; exact Blk.new _ _ _
  have hs1 : w.heap.size ≤ W1.heap.size := b1.size
  have HT1 := Lib.hid (h.below b1 hD)
  have q0 : W1.cell? ⟨g, 0, none⟩ = some (.int .i64 S) := Y1.cell 0
  have q1 : W1.cell? ⟨g, 1, none⟩ = some (.slice Ad nd cd) := Y1.cell 1
  have q2 : W1.cell? ⟨g, 2, none⟩ = some (.slice An nn cn) := Y1.cell 2
  have HB1 := Lib.hid b1; have HW1 := Lib.hid (And.intro hW1 hg); have HB := Lib.hid hb
  have hD1 : D ≤ W1.heap.size := Nat.le_trans hD hs1
  clear h b1 Y1 hW1 hg hb hk
  obtain ⟨ok, hok⟩ : ∃ v, decide (ld.length = ln.length ∧ ln.length ≤ 12) = v := ⟨_, rfl⟩
  have HOK := Lib.hid hok
  clear hok
  go_enter Try.func17, Try.ntmps17
  go_upto_region 1 with fail
  rw [← HW1.out.1, ← HW1.out.2]
  go_wp2_with fail
  refine (irows W1 D S Ad nd cd An nn cn ld ln HT1.out hD1 hn1 hn2 ok HOK.out).mono ?_
  rintro e w2 ⟨⟨cs, rfl, hcz, hc1, hrc⟩, b2⟩
  have HB2 := Lib.hid (HB1.out.trans (b2.mono hs1))
  have HCZ := Lib.hid hcz; have HC1 := Lib.hid hc1; have HRC := Lib.hid hrc
  have HINF : Hid ((Try.prog.info? 67).map (·.size) = some cs.size) := Lib.hid (by rw [hcz]; exact rowInfo)
  obtain ⟨W3, hW3⟩ : ∃ W, W = w2.alloc (.cells cs 67) := ⟨_, rfl⟩
  obtain ⟨g3, hg3⟩ : ∃ g, g = w2.heap.size := ⟨_, rfl⟩
  have b3 : Below w.heap.size w W3 := by rw [hW3]; exact HB2.out.alloc HB2.out.size _
  have T3 : Blk W3 g3 67 cs := by rw [hW3, hg3]; exact Blk.new _ _ _
  have HP3 : Hid (Blk (w2.alloc (.cells #[.int .i64 0, .int .i64 0, .int .i64 0, .int .i64 0, .int .i64 0, .int .i64 0, .int .i64 0, .int .i64 0, .int .i64 0, .int .i64 0, .int .i64 0, .int .i64 0, .int .i64 0, .int .i64 0, .int .i64 0, .int .i64 0, .int .i64 0, .int .i64 0, .int .i64 0, .int .i64 0, .int .i64 0, .int .i64 0, .int .i64 0, .int .i64 0, .int .i64 0, .int .i64 0] 67)) w2.heap.size 67 #[.int .i64 0, .int .i64 0, .int .i64 0, .int .i64 0, .int .i64 0, .int .i64 0, .int .i64 0, .int .i64 0, .int .i64 0, .int .i64 0, .int .i64 0, .int .i64 0, .int .i64 0, .int .i64 0, .int .i64 0, .int .i64 0, .int .i64 0, .int .i64 0, .int .i64 0, .int .i64 0, .int .i64 0, .int .i64 0, .int .i64 0, .int .i64 0, .int .i64 0, .int .i64 0]) := Lib.hid (Blk.new _ _ _)
  have HW3 := Lib.hid (And.intro hW3 hg3); have HB3 := Lib.hid b3; have HT3 := Lib.hid T3
  clear b2 hcz hc1 hrc hW3 hg3 b3 T3 q0 q1 q2
  go_upto_region 2 with (refine wpList_store_row rfl 67 (.tmp 7) (.tmp 13) rfl w2.heap.size cs rfl rfl 67 _ HP3.out HINF.out HCZ.out.symm HC1.out ?_; rw [World.setRow_alloc_new, ← HW3.out.1, ← HW3.out.2])
  cases ok
  case false =>
    obtain rfl : b = false := by
      rw [← HB.out]
      refine decide_eq_false fun h => of_decide_eq_false HOK.out ?_
      have h2 : (1 ≤ nodes ∧ nodes ≤ 12) ∧ 0 ≤ S ∧ S ≤ nodes - 1 := of_decide_eq_true h.1
      omega
    go_wp2_with fail
    go_ret
    exact ⟨rfl, HB3.out⟩
  case true =>
    obtain ⟨hl1, hl2⟩ := of_decide_eq_true HOK.out
    have hrc := HRC.out rfl
    have HR := Lib.hid hrc
    have c25 : W3.cell? ⟨g3, 25, none⟩ = some (.int .i64 (ln.length : Int)) := by rw [HT3.out.cell]; exact hrc.count
    have c0 : W3.cell? ⟨g3, 0, none⟩ = some (.int .i64 S) := by rw [HT3.out.cell]; exact hrc.dst
    have HL := Lib.hid hl1
    clear hl1 hrc HOK
    by_cases hN : (ln.length : Int) = nodes
    case neg =>
      obtain rfl : b = false := by rw [← HB.out]; exact decide_eq_false fun h => hN h.2.2.1
      have e1 : ((ln.length : Int) != nodes) = true := by simpa using hN
      clear hN
      go_wp2_with fail
      go_ret
      exact ⟨rfl, HB3.out⟩
    case pos =>
      subst hN
      obtain ⟨bs, hbs⟩ : ∃ v, inB S 0 ((ln.length : Int) - 1) = v := ⟨_, rfl⟩
      have HBS := Lib.hid hbs
      clear hbs
      have HNN : Hid ((0 : Int) ≤ (ln.length : Int) ∧ (ln.length : Int) ≤ 16777216) := Lib.hid ⟨by omega, by omega⟩
      go_wp2_with (refine wpList_load_rowg rfl 67 (.tmp 7) rfl g3 rfl 67 cs _ HT3.out Try.underlying67 rfl HINF.out ?_)
      refine (inode15 W3 cs (ln.length : Int) S HCZ.out HR.out.count HNN.out bs HBS.out).mono ?_
      rintro e w4 ⟨rfl, b4⟩
      have HB4 := Lib.hid b4
      clear b4 c25 c0
      cases bs
      case false =>
        obtain rfl : b = false := by
          rw [← HB.out]
          refine decide_eq_false fun h => of_decide_eq_false HBS.out ?_
          have h2 : (1 ≤ (ln.length : Int) ∧ (ln.length : Int) ≤ 12) ∧ 0 ≤ S ∧ S ≤ (ln.length : Int) - 1 := of_decide_eq_true h.1
          exact h2.2
        have HF := Lib.hid (HB3.out.trans (HB4.out.mono HB3.out.size))
        go_wp2_with fail
        go_ret
        exact ⟨rfl, HF.out⟩
      case true =>
        have hSin : 0 ≤ S ∧ S ≤ (ln.length : Int) - 1 := of_decide_eq_true HBS.out
        have HSN := Lib.hid hSin
        clear hSin
        have HC : Hid (∀ wr, Below W3.heap.size W3 wr → Blk wr g3 67 cs ∧ Below w.heap.size w wr) := Lib.hid fun wr hb => ⟨HT3.out.below hb HT3.out.lt, HB3.out.trans (hb.mono HB3.out.size)⟩
        go_wp2_with fail
        go_loopw [31] (fun iv_ wr => ∃ k : Nat, k ≤ ln.length ∧ iv_ = .int .i64 k ∧ Hid (∀ j, j < k → nodeB S ld ln ln.length f j = true) ∧ Below W3.heap.size W3 wr) (fun iv_ _ => ln.length - (intOf iv_).toNat)
        case atStart => exact ⟨0, Nat.zero_le _, rfl, Lib.hid fun j h => by omega, HB4.out⟩
        case round =>
          obtain ⟨k, hk, rfl, hgd, hb⟩ := hrel
          have HBR := Lib.hid hb
          clear hb
          have hk0 : (0 : Int) ≤ (k : Int) := by omega
          by_cases hlt : k < ln.length
          case neg =>
            obtain rfl : k = ln.length := by omega
            obtain rfl : b = true := by
              rw [← HB.out]
              refine decide_eq_true ⟨decide_eq_true ⟨⟨?_, ?_⟩, HSN.out⟩, by rw [HL.out], rfl, hgd.out⟩
              · have := HSN.out; omega
              · omega
            have HF := Lib.hid (HC.out _ HBR.out).2
            go_wp2_with fail
            go_ret
            exact ⟨rfl, HF.out⟩
          case pos =>
            have hkl : (k : Int) < (ln.length : Int) := by omega
            have HTR := Lib.hid (HC.out _ HBR.out).1
            obtain ⟨v, hv⟩ : ∃ v, nodeB S ld ln ln.length f k = v := ⟨_, rfl⟩
            have HV := Lib.hid hv
            clear hv
            go_wp2_with (refine wpList_load_row rfl 67 (.tmp 7) rfl g3 rfl 67 cs (0, 0) _ HTR.out Try.underlying67 rfl HINF.out ?_)
            refine (irow wr cs S ld ln ln.length HR.out hl2 f k hlt v HV.out).mono ?_
            rintro e w5 ⟨rfl, b5⟩
            have HB5 := Lib.hid (HBR.out.trans (b5.mono HBR.out.size))
            clear b5
            cases v
            case false =>
              obtain rfl : b = false := by
                rw [← HB.out]
                exact decide_eq_false fun h => by have := h.2.2.2 k hlt; rw [HV.out] at this; cases this
              have HF := Lib.hid (HC.out _ HB5.out).2
              go_wp2_with fail
              go_ret
              exact ⟨rfl, HF.out⟩
            case true =>
              have HG : Hid (∀ j, j < k + 1 → nodeB S ld ln ln.length f j = true) := Lib.hid fun j hj => by
                by_cases e : j = k
                · rw [e]; exact HV.out
                · exact hgd.out j (by omega)
              go_wp2_with fail
              go_roundw
              case rel => exact ⟨k + 1, by omega, by go_num, HG, HB5.out⟩
              case measure => simp [intOf]; omega
end Go.Proofs.Ytjobjjmeneddnaa
