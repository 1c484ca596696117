/- A loop over an iterator that need not end by itself: its body leaves it in time. No program. The program's walk: an iterator along next nodes, which need not end by itself. -/
import Derived.Test.YtjobjjmeneddnaaWords
import Derived.RangeFuncNested
import Derived.RangeFuncBound
import Derived.RangeFuncCalls
import Derived.RangeFuncLeaves
import Derived.Test.YtjobjjmeneddnaaRouteFacts
import Derived.Test.YtjobjjmeneddnaaInts
import Derived.Test.YtjobjjmeneddnaaSlices
import Derived.Test.YtjobjjmeneddnaaDistP
import Derived.Shelf.Abstract
import Derived.Shelf.RegionOpen
import Derived.OwnWalkIn
import Derived.TacticsInMore
import Derived.LoopNIn
import Derived.LoopIn
namespace Go.Proofs.Ytjobjjmeneddnaa
open Go.RowKit
set_option linter.unusedVariables false
/-- what an iterator gives to a loop whose invariant between two rounds implies I -/
def SeqUntil {α : Type} (F : Fence) (n : Nat) (P : Program) (gf : Nat) (lb : Array Value) (encs : α → Array Value) (Kp : World → World → Prop) (I : List α → World → Prop) (Px : α → Prop) (S Sp : List α → Prop) (w : World) : Prop :=
  ∀ (l : Nat) (J Jx : List α → World → Prop) (W : World), Below w.heap.size w W → AbidesFrom W.heap.size J → (∀ pre W1, J pre W1 → I pre W1) →
    (∀ pre x W1, Px x → J pre W1 → YieldAt F (n - 1) P l (encs x) W1 fun e W' => (e = .returned (.bool true) ∧ J (pre ++ [x]) W' ∧ Kp W1 W') ∨ (e = .returned (.bool false) ∧ Jx (pre ++ [x]) W')) →
    J [] W → CallsIn F n P gf (#[.func (.yield l) #[] #[]] ++ lb) W fun e W' => (∃ v, e = .returned v) ∧ ((∃ xs, S xs ∧ J xs W') ∨ (∃ pre, Sp pre ∧ Jx pre W'))
section
variable {F : Fence} {n : Nat} {P : Program}
theorem rec_put {β : Type} {B l : Nat} {I : β → World → Prop} {s : β} {W : World} {o : Obj} (h : OwnFrom B I) (hs : I s W) (hB : B ≤ l) (hl : W.heap[l]? = some o) (ho : o.isCells = false) (o' : Obj) : I s (W.putObj l o') := h.putObj o' hs hB hl ho
theorem range_until {α : Type} {g : Operand} {ps : Array Tmp} {assign body : Code} {Q : Exit → Act → World → Prop} {a : Act} {w : World} (hro : F.round = none) (h1 : 1 ≤ n) {gf : Nat} {lb : Array Value}
    (hg : a.eval g = .func (.func gf) #[] lb) (hF : F.fn gf) (he : ∀ args w, (callFunc gf args).run P w = .ok (.enter gf args) w) (encs : α → Array Value) (hps : ∀ x, (encs x).size = ps.size) (Kp : World → World → Prop) (hKt : ∀ {A B C : World}, Kp A B → Kp B C → Kp A C) (hKb : ∀ (W : World) (l : Nat) (o o' : Obj), w.heap.size ≤ l → W.heap[l]? = some o → o.isCells = false → o.isWalk = false → Kp W (W.putObj l o'))
    (I : List α → World → Prop) (Ix : Code → List α → World → Prop) (hI : OwnFrom w.heap.size I) (hIx : ∀ c, OwnFrom w.heap.size (Ix c)) (Px : α → Prop) (S Sp : List α → Prop) (hseq : SeqUntil F (n - 1) P gf lb encs Kp I Px S Sp w) (h0 : I [] w) (act : α → Act)
    (hassign : ∀ (l : Nat) (x : α) (W : World) (K : Act → World → Prop), K (act x) W → assign.wpIn (F.inRound l) (n - 1 - 1) P (Exit.then K (fun _ _ _ => False)) { tmps := (ps.zip (encs x)).foldl (fun t (p, v) => t.setIfInBounds p v) a.tmps, defers := [] } W)
    (hbody : ∀ (l : Nat) (pre : List α) (x : α) (W : World), Px x → I pre W → body.wpIn (F.inRound l) (n - 1 - 1) P (ownPostG w.heap.size Kp I Ix (pre ++ [x]) W) (act x) W)
    (hdone : ∀ (D : Nat) (xs : List α) (W : World), w.heap.size ≤ D → S xs → I xs W → W.heap[D]? = some (.deferred (some [])) → Q .normal { a with defers := { target := .collected D, args := #[] } :: a.defers } W)
    (hstop : ∀ (D : Nat) (c : Code) (pre : List α) (W : World), w.heap.size ≤ D → Sp pre → Ix c pre W → W.heap[D]? = some (.deferred (some [])) → c.wpIn F n P Q { a with defers := { target := .collected D, args := #[] } :: a.defers } W) :
    (Code.rangeFunc g ps assign body).wpIn F n P Q a w := by
  refine wpIn_rangeFunc fun fn hfn => ?_
  rw [hro]
  -- where the loop's record and the block for deferred calls lie, and what the record says
  obtain ⟨D, hD⟩ : ∃ D, D = w.heap.size := ⟨_, rfl⟩
  obtain ⟨R, hR⟩ : ∃ R : LoopState → Option Code → Obj, R = fun st pe => .loop { state := st, pending := pe, fn := fn, tmps := a.tmps, params := ps, assign := assign, body := body, defers := D } := ⟨_, rfl⟩
  obtain ⟨W1, hW1⟩ : ∃ W, W = (w.alloc (.deferred (some []))).alloc (R .ready none) := ⟨_, rfl⟩
  have hnc : ∀ st pe, (R st pe).isCells = false := fun st pe => by rw [hR]; rfl
  have hnw : ∀ st pe, (R st pe).isWalk = false := fun st pe => by rw [hR]; rfl
  have hl1 : W1.heap[D + 1]? = some (R .ready none) := by
    rw [hW1, hD]; have h := World.alloc_heap_new (w.alloc (.deferred (some []))) (R .ready none); rwa [World.size_alloc] at h
  have hd1 : W1.heap[D]? = some (.deferred (some [])) := by
    rw [hW1, hD]; exact (Below.heap_alloc _ _ _ (by simp)).trans (World.alloc_heap_new w _)
  have hb1 : Below w.heap.size w W1 := by rw [hW1]; exact ((Below.refl _ w).alloc (Nat.le_refl _) _).alloc (by simp) _
  have hs1 : D ≤ W1.heap.size := by rw [hW1, hD]; simp; omega
  have hi1 : I [] W1 := by rw [hW1]; exact hI.alloc _ (hI.alloc _ h0)
  -- a turn of the record leaves the block for deferred calls
  have hdk : ∀ (W : World) (o : Obj), W.heap[D]? = some (.deferred (some [])) → (W.putObj (D + 1) o).heap[D]? = some (.deferred (some [])) := fun W o h => (World.putObj_heap_other (by omega)).trans h
  have hput : ∀ (W : World) (st : LoopState) (pe : Option Code) (o' : Obj), W.heap[D + 1]? = some (R st pe) → Kp W (W.putObj (D + 1) o') := fun W st pe o' h => hKb W (D + 1) _ o' (by omega) h (hnc _ _) (hnw _ _)
  rw [← hD] at hI hIx hbody hdone hstop
  have hcall := hseq (D + 1) (fun pre W => I pre W ∧ W.heap[D + 1]? = some (R .ready none) ∧ W.heap[D]? = some (.deferred (some [])))
    (fun pre W => ∃ c, Ix c pre W ∧ W.heap[D + 1]? = some (R .done (some c)) ∧ W.heap[D]? = some (.deferred (some []))) W1 hb1
    (fun s A B row hs hgr hr => by
      have hr2 : ∀ r, row = some r → D ≤ r ∧ ∃ o : Obj, A.heap[r]? = some o ∧ o.isCells = false := fun r e => by
        obtain ⟨h1, o, h2, h3⟩ := hr r e
        exact ⟨by omega, o, h2, Obj.not_cells_of_walk h3⟩
      have hr3 : ∀ r, row = some r → ∃ o : Obj, A.heap[r]? = some o ∧ o.isWalk = true := fun r e => (hr r e).2
      exact ⟨hI s A B row hs.1 hgr hr2, (grownBy_keeps hgr hr3 hs.2.1 (hnw _ _)).trans hs.2.1, (grownBy_keeps hgr hr3 hs.2.2 rfl).trans hs.2.2⟩)
    (fun pre W1 h => h.1) ?round ⟨hi1, hl1, hd1⟩
  case round =>
    rintro pre x W hpx ⟨hi, hl, hd⟩
    have hsz : D + 1 < W.heap.size := (Array.getElem?_eq_some_iff.1 hl).1
    have hy : (Instr.yield (D + 1) (encs x)).run P W = .ok (.round (D + 1) fn ((ps.zip (encs x)).foldl (fun t (p, v) => t.setIfInBounds p v) a.tmps) assign body) W := by
      have h := hl
      rw [hR] at h
      exact run_yield h (hps x)
    refine ⟨fn, _, assign, body, hy, roundIn_of_wpIn hfn (hassign _ x W _ ⟨W.putObj (D + 1) (R .busy none), by
      have h := hl
      rw [hR] at h ⊢
      exact run_beginRound h rfl, ?_⟩)⟩
    have hl2 : (W.putObj (D + 1) (R .busy none)).heap[D + 1]? = some (R .busy none) := World.putObj_heap_same hsz
    have hd2 := hdk W (R .busy none) hd
    refine wpIn_mono (hbody _ pre x _ hpx (rec_put hI hi (by omega) hl (hnc _ _) _)) ?_
    -- the end of a round, whichever way
    have hend : ∀ (jump : Option Code) (W3 : World), KeepsFrom D (W.putObj (D + 1) (R .busy none)) W3 →
        (Instr.endRound (D + 1) jump).run P W3 = .ok (.bool jump.isNone) (W3.putObj (D + 1) (R (if jump.isNone then .ready else .done) jump)) ∧ W3.heap[D + 1]? = some (R .busy none) ∧
        (W3.putObj (D + 1) (R (if jump.isNone then .ready else .done) jump)).heap[D + 1]? = some (R (if jump.isNone then .ready else .done) jump) ∧ (W3.putObj (D + 1) (R (if jump.isNone then .ready else .done) jump)).heap[D]? = some (.deferred (some [])) := by
      intro jump W3 hk
      have h3 := hk.same (D + 1) _ (by omega) hl2 (hnc _ _)
      have h4 := hk.same D _ (Nat.le_refl _) hd2 rfl
      refine ⟨?_, h3, World.putObj_heap_same (Array.getElem?_eq_some_iff.1 h3).1, hdk W3 _ h4⟩
      have h := h3
      rw [hR] at h ⊢
      exact run_endRound jump h
    have hout : ∀ (c : Code) (W3 : World), KeepsFrom D (W.putObj (D + 1) (R .busy none)) W3 ∧ Ix c (pre ++ [x]) W3 → ∃ v w', (Instr.endRound (D + 1) (some c)).run P W3 = .ok v w' ∧
        (((Ending.returned v) = .returned (.bool true) ∧ (I (pre ++ [x]) w' ∧ w'.heap[D + 1]? = some (R .ready none) ∧ w'.heap[D]? = some (.deferred (some []))) ∧ Kp W w') ∨
         ((Ending.returned v) = .returned (.bool false) ∧ ∃ c, Ix c (pre ++ [x]) w' ∧ w'.heap[D + 1]? = some (R .done (some c)) ∧ w'.heap[D]? = some (.deferred (some [])))) := by
      rintro c W3 ⟨hk, hx⟩
      obtain ⟨e1, e2, e3, e4⟩ := hend (some c) W3 hk
      exact ⟨_, _, e1, .inr ⟨rfl, c, rec_put (hIx c) hx (by omega) e2 (hnc _ _) _, e3, e4⟩⟩
    rintro e a3 W3 hp
    match e, hp with
    | .normal, hp =>
      obtain ⟨hk, hb, hi3⟩ := hp
      obtain ⟨e1, e2, e3, e4⟩ := hend none W3 hk
      exact ⟨_, _, e1, .inl ⟨rfl, ⟨rec_put hI hi3 (by omega) e2 (hnc _ _) _, e3, e4⟩, hKt (hKt (hput W .ready none _ hl) hb) (hput W3 .busy none _ e2)⟩⟩
    | .ret, hp => exact hout .ret W3 hp
    | .exit id, hp => exact hout (.exit id) W3 hp
    | .goto t, hp => exact hout (.goto t) W3 hp
    | .panic ch, hp => exact hp.elim
    | .outgrown, hp => exact hp.elim
  refine ⟨D + 1, [{ target := .collected D, args := #[] }], W1, { target := .fn (.func gf) lb, args := #[.func (.yield (D + 1)) #[] #[]] }, W1, gf, #[.func (.yield (D + 1)) #[] #[]] ++ lb, W1, ?_, ?_, ?_, ?_, fun _ => h1, ?_⟩
  · rw [hW1, hR, hD]; exact run_enterLoop_outer _ _ _ _ _
  · simp only [resolve, hg]; simp [go_sem]
  · intro f' hf'; simp [Target.leads] at hf'; subst hf'; exact hF
  · simp [invoke, go_sem, he]
  · refine hcall.mono ?_
    rintro e W2 ⟨⟨v, rfl⟩, (⟨xs, hS, hi, hl, hd⟩ | ⟨pre, hSp, c, hi, hl, hd⟩)⟩
    · refine ⟨none, _, by have h := hl; rw [hR] at h; exact run_endLoop h (by simp), hdone D xs _ (Nat.le_refl _) hS (rec_put hI hi (by omega) hl (hnc _ _) _) (hdk _ _ hd)⟩
    · refine ⟨some c, _, by have h := hl; rw [hR] at h; exact run_endLoop h (by simp), hstop D c pre _ (Nat.le_refl _) hSp (rec_put (hIx c) hi (by omega) hl (hnc _ _) _) (hdk _ _ hd)⟩
end
end Go.Proofs.Ytjobjjmeneddnaa
namespace Go.Proofs.Ytjobjjmeneddnaa
open Go.ChangeShapes Go.WideShapes Go.ChangeAt Go.RowKit Go.Shelf
set_option linter.unusedVariables false
attribute [local go_sem] Oper.semAt_some
/-- the first k nodes of a walk -/
def wl (next : List Int) (a : Int) (k : Nat) : List Int := (List.range k).map fun j => itr next j a
theorem wl_len (next : List Int) (a : Int) (k : Nat) : (wl next a k).length = k := by simp [wl]
theorem wl_succ (next : List Int) (a : Int) (k : Nat) : wl next a (k + 1) = wl next a k ++ [itr next k a] := by simp [wl, List.range_succ]
def inN (next : List Int) (x : Int) : Prop := 0 ≤ x ∧ x ≤ (next.length : Int) - 1
instance (next : List Int) (x : Int) : Decidable (inN next x) := by unfold inN; infer_instance
/-- all has come that can -/
def allW (next : List Int) (a : Int) (xs : List Int) : Prop := ∃ k, xs = wl next a k ∧ (∀ j, j < k → inN next (itr next j a)) ∧ ¬ inN next (itr next k a)
/-- a part has come -/
def partW (next : List Int) (a : Int) (xs : List Int) : Prop := ∃ k, xs = wl next a (k + 1) ∧ ∀ j, j ≤ k → inN next (itr next j a)
abbrev ienc (x : Int) : Array Value := #[.int .i64 x]
theorem grown_belowW {w w' : World} (h : Below w.heap.size w w') (row : Option Nat) : w.grownBy w' row := ⟨h.os, h.tape, h.output, h.size, fun k hk _ => h.block k hk⟩
section
variable (F : Fence)
/-- what the iterator asks of the fence -/
structure WalkCalls : Prop where
  fw : F.fn 76
  hro : F.round = none
  inr_t : ∀ (m : Nat) (n lo hi : Int) (w : World), lo ≤ n → n ≤ hi → CallsIn F m Try.prog 69 #[.int .i64 n, .int .i64 lo, .int .i64 hi] w fun e w' => e = .returned (.bool true) ∧ w = w'
  inr_f : ∀ (m : Nat) (n lo hi : Int) (w : World), ¬ (lo ≤ n ∧ n ≤ hi) → CallsIn F m Try.prog 69 #[.int .i64 n, .int .i64 lo, .int .i64 hi] w fun e w' => e = .returned (.bool false) ∧ w = w'
/-- the boxes that the closure has captured, and the list behind them, below block D -/
structure WBox (W : World) (D bf bn : Nat) (A : Option Addr) (c : Nat) (next : List Int) (a : Int) : Prop where
  cf : W.cell? ⟨bf, 0, none⟩ = some (.int .i64 a)
  cn : W.cell? ⟨bn, 0, none⟩ = some (.slice A next.length c)
  sl : Sl W D 1 A next.length c (iv next)
theorem WBox.below {W W' : World} {B D bf bn c : Nat} {A : Option Addr} {next : List Int} {a : Int} (h : WBox W D bf bn A c next a) (hb : Below B W W') (hf : bf < B) (hn : bn < B) (hD : D ≤ B) : WBox W' D bf bn A c next a :=
  ⟨(hb.cell (p := ⟨bf, 0, none⟩) hf).trans h.cf, (hb.cell (p := ⟨bn, 0, none⟩) hn).trans h.cn, h.sl.below hb hD⟩
/-- where a walk stands: m rounds may follow at most -/
def WSt (J : List Int → World → Prop) (next : List Int) (a : Int) (T D bf bn c : Nat) (A : Option Addr) (i : Value) (wr : World) (m : Nat) : Prop :=
  ∃ k, m = T - k ∧ k ≤ T ∧ i = .int .i64 (itr next k a) ∧ (∀ j, j < k → inN next (itr next j a)) ∧ J (wl next a k) wr ∧ WBox wr D bf bn A c next a
set_option maxRecDepth 100000 in
set_option maxHeartbeats 1000000 in
theorem walk1 (n : Nat) (C : WalkCalls F) (hn : 1 ≤ n) (l D bf bn c T : Nat) (A : Option Addr) (next : List Int) (a : Int) (hN : next.length ≤ 16777216) (J Jx : List Int → World → Prop) (W : World) (Kp : World → World → Prop) (hK : ∀ X Y, Kp X Y → WBox X D bf bn A c next a → WBox Y D bf bn A c next a)
    (hJ : AbidesFrom W.heap.size J) (hT : ∀ k W1, J (wl next a k) W1 → k ≤ T)
    (hY : ∀ pre x W1, inN next x → J pre W1 → YieldAt F (n - 1) Try.prog l (ienc x) W1 fun e W' =>
      (e = .returned (.bool true) ∧ J (pre ++ [x]) W' ∧ Kp W1 W') ∨ (e = .returned (.bool false) ∧ Jx (pre ++ [x]) W'))
    (hB : WBox W D bf bn A c next a) (h0 : J [] W) :
    CallsIn F n Try.prog 76 #[.func (.yield l) #[] #[], .pointer (some ⟨bf, 0, none⟩), .pointer (some ⟨bn, 0, none⟩)] W fun e W' => (∃ v, e = .returned v) ∧
      ((∃ xs, allW next a xs ∧ J xs W') ∨ (∃ pre, partW next a pre ∧ Jx pre W')) := by
  have e1 := hB.cf
  have HB := Lib.hid hB; have HY := Lib.hid hY; have H0 := Lib.hid h0; have HT := Lib.hid hT; have HK := Lib.hid hK
  have hro := C.hro
  clear hJ hY h0 hB hT hK
  refine callsIn_of_wp Try.func76 rfl C.fw ?_ hro
  simp only [Try.ntmps76, List.size_toArray, List.length_cons, List.length_nil, Nat.reduceAdd, Nat.reduceSub, Array.replicate_succ, Array.replicate_zero, List.push_toArray, List.append_toArray, List.nil_append, List.cons_append]
  gi_wp2_with fail
  gi_loopw [4] (fun i wr => ∃ m, WSt J next a T D bf bn c A i wr m) (fun i wr => leastOf (WSt J next a T D bf bn c A i wr))
  case atStart => exact ⟨_, 0, rfl, Nat.zero_le _, rfl, fun j hj => by omega, H0.out, HB.out⟩
  case round =>
    obtain ⟨m0, hm0⟩ : ∃ m0, m0 = leastOf (WSt J next a T D bf bn c A u4 wr) := ⟨_, rfl⟩
    have hsp := leastOf_spec hrel
    rw [← hm0] at hsp
    have HM0 := Lib.hid hm0
    obtain ⟨k, hm, hk, rfl, hin, hj, hb⟩ := hsp
    have HM := Lib.hid hm; have HIN := Lib.hid hin; have HJK := Lib.hid hj; have HBK := Lib.hid hb
    have cn := hb.cn
    have hlen : next.length ≤ 16777216 := hN
    have hw : wrap64 ((next.length : Int) - 1) = (next.length : Int) - 1 := by unfold wrap64; omega
    clear hm0 hrel hm hin hj hb e1
    by_cases hx : inN next (itr next k a)
    case neg =>
      have HX := Lib.hid hx
      clear hx
      gi_wp2_with fail
      refine ⟨(C.inr_f 0 0 1 0 W (by omega)).1, (C.inr_f _ _ _ _ _ HX.out).mono ?_⟩
      rintro e w1 ⟨rfl, rfl⟩
      gi_wp2
      go_end0
      exact ⟨⟨_, rfl⟩, .inl ⟨_, ⟨k, rfl, HIN.out, HX.out⟩, HJK.out⟩⟩
    case pos =>
      have hx' := hx
      obtain ⟨hx0, hx1⟩ := hx'
      obtain ⟨xi, hxi⟩ : ∃ xi : Nat, (xi : Int) = itr next k a := ⟨(itr next k a).toNat, by omega⟩
      have HXI := Lib.hid hxi
      rw [← hxi] at hx hx0 hx1 HM0 ⊢
      have HX := Lib.hid hx
      have hxl : xi < next.length := by omega
      have HIT : Hid (itr next (k + 1) a = next[xi]) := Lib.hid (by
        show atD next (itr next k a) = _
        rw [← hxi, atD_nat next xi hxl])
      clear hx hxi
      gi_wp2_with fail
      refine ⟨(C.inr_t 0 0 0 0 W (by omega) (by omega)).1, (C.inr_t _ _ _ _ _ hx0 hx1).mono ?_⟩
      rintro e w1 ⟨rfl, rfl⟩
      obtain ⟨fn, tmps, assign, body, hy, hR⟩ := HY.out (wl next a k) (xi : Int) wr HX.out HJK.out
      dsimp only [ienc] at hy
      rw [HXI.out, ← wl_succ] at hR
      gi_wp2
      refine hR.mono ?_
      rintro e w5 (⟨rfl, hJ5, hk5⟩ | ⟨rfl, hJx5⟩)
      · have hT5 := HT.out (k + 1) w5 hJ5
        have hB5 := HK.out _ _ hk5 HBK.out
        have HB5 := Lib.hid hB5
        have cn5 := hB5.cn
        obtain ⟨ad, hx9, hA, had, q1⟩ := hB5.sl.int hxl
        rw [← HIT.out] at q1
        obtain ⟨z, hz⟩ : ∃ z, z = itr next (k + 1) a := ⟨_, rfl⟩
        rw [← hz] at q1
        subst hA
        have HS5 : Hid (WSt J next a T D bf bn c (some ad) (.int .i64 z) w5 (T - (k + 1))) := Lib.hid ⟨k + 1, rfl, hT5, by rw [hz], fun j hj => by
          by_cases e : j = k
          · subst e; rw [← HXI.out]; exact HX.out
          · exact HIN.out j (by omega), hJ5, HB5.out⟩
        clear hR hy hJ5 hk5 hB5 hz hx9 had cn
        gi_wp2
        go_roundw
        case rel => exact ⟨_, HS5.out⟩
        case measure =>
          have h1 := leastOf_le HS5.out
          have h2 := HM0.out; have h3 := HM.out
          simp
          omega
      · have HJ5 := Lib.hid hJx5
        have HIN2 : Hid (∀ j, j ≤ k → inN next (itr next j a)) := Lib.hid fun j hj => by
          by_cases e : j = k
          · subst e; rw [← HXI.out]; exact HX.out
          · exact HIN.out j (by omega)
        clear hR hy hJx5
        gi_wp2
        refine bodyPost_ret (results_none rfl _ _ _) rfl ?_
        exact ⟨⟨_, rfl⟩, .inr ⟨_, ⟨k, rfl, HIN2.out⟩, HJ5.out⟩⟩
/-- the iterator, for a loop that leaves it in time -/
theorem walk_until (n : Nat) (C : WalkCalls F) (hn : 1 ≤ n) (D bf bn c T : Nat) (A : Option Addr) (next : List Int) (a : Int) (hN : next.length ≤ 16777216) (I : List Int → World → Prop) (hT : ∀ k W1, I (wl next a k) W1 → k ≤ T) (w : World) (Kp : World → World → Prop)
    (hK : ∀ X Y, Kp X Y → WBox X D bf bn A c next a → WBox Y D bf bn A c next a) (hf : bf < w.heap.size) (hbn : bn < w.heap.size) (hD : D ≤ w.heap.size) (hB : WBox w D bf bn A c next a) :
    SeqUntil F n Try.prog 76 #[.pointer (some ⟨bf, 0, none⟩), .pointer (some ⟨bn, 0, none⟩)] ienc Kp I (inN next) (allW next a) (partW next a) w := fun l J Jx W hW hJ hI hY h0 =>
  walk1 F n C hn l D bf bn c T A next a hN J Jx W Kp hK hJ (fun k W1 h => hT k W1 (hI _ _ h)) hY (hB.below hW hf hbn hD) h0
end
/-- without a fence -/
theorem walk_wide : WalkCalls Fence.wide :=
  ⟨trivial, rfl, fun m n lo hi w h1 h2 => callsIn_wide.2 (iinr_t n lo hi w h1 h2), fun m n lo hi w h => callsIn_wide.2 (iinr_f n lo hi w h)⟩
/-- walk: two boxes, and the closure over them -/
theorem iwalk (w : World) (D : Nat) (A : Option Addr) (c : Nat) (next : List Int) (a : Int) (hS : Sl w D 1 A next.length c (iv next)) (hD : D ≤ w.heap.size) :
    Calls Try.prog 55 #[.slice A next.length c, .int .i64 a] w fun e w' =>
      e = .returned (.func (.func 76) #[] #[.pointer (some ⟨w.heap.size + 1, 0, none⟩), .pointer (some ⟨w.heap.size, 0, none⟩)]) ∧ WBox w' D (w.heap.size + 1) w.heap.size A c next a ∧ w'.heap.size = w.heap.size + 1 + 1 ∧ Below w.heap.size w w' := by
  obtain ⟨W1, hW⟩ : ∃ W1, (w.alloc (.cells #[.slice A next.length c] 27)).alloc (.cells #[.int .i64 a] 3) = W1 := ⟨_, rfl⟩
  have b0 : Blk W1 w.heap.size 27 #[.slice A next.length c] := by rw [← hW]; exact (Blk.new _ _ _).alloc _
  have b1 : Blk W1 (w.heap.size + 1) 3 #[.int .i64 a] := by
    rw [← hW]
    have h := Blk.new (w.alloc (.cells #[.slice A next.length c] 27)) 3 #[.int .i64 a]
    rwa [World.size_alloc] at h
  have hb : Below w.heap.size w W1 := by rw [← hW]; exact ((Below.refl _ _).alloc (Nat.le_refl _) _).alloc (by simp) _
  have hs : W1.heap.size = w.heap.size + 1 + 1 := by rw [← hW]; simp
  have HO : Hid (WBox W1 D (w.heap.size + 1) w.heap.size A c next a) := Lib.hid ⟨b1.cell 0, b0.cell 0, hS.below hb hD⟩
  have HB := Lib.hid hb; have HS := Lib.hid hs
  clear b0 b1 hb hs hS
  go_enter Try.func55, Try.ntmps55
  go_wp2
  go_ret
  exact ⟨rfl, HO.out, HS.out, HB.out⟩
end Go.Proofs.Ytjobjjmeneddnaa
