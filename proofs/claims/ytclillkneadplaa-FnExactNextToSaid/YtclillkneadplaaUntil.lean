/- A loop over an iterator that need not end by itself: its body leaves it in time. No program. -/
import Derived.Test.YtclillkneadplaaWords
import Derived.RangeFuncNested
import Derived.RangeFuncBound
import Derived.RangeFuncCalls
import Derived.RangeFuncLeaves
namespace Go.Proofs.Ytclillkneadplaa
open Go.RowKit
set_option linter.unusedVariables false
/-- what an iterator gives to a loop whose invariant between two rounds implies I -/
def SeqUntil {α : Type} (F : Fence) (n : Nat) (P : Program) (gf : Nat) (lb : Array Value) (encs : α → Array Value) (Kp : World → World → Prop) (I : List α → World → Prop) (Px : α → Prop) (S Sp : List α → Prop) (w : World) : Prop :=
  ∀ (l : Nat) (J Jx : List α → World → Prop) (W : World), Below w.heap.size w W → AbidesFrom W.heap.size J → (∀ pre W1, J pre W1 → I pre W1) →
    (∀ pre x W1, Px x → J pre W1 → YieldAt F (n - 1) P l (encs x) W1 fun e W' => (e = .returned (.bool true) ∧ J (pre ++ [x]) W' ∧ Kp W1 W') ∨ (e = .returned (.bool false) ∧ Jx (pre ++ [x]) W')) →
    J [] W → CallsIn F n P gf (#[.func (.yield l) #[] #[]] ++ lb) W fun e W' => (∃ v, e = .returned v) ∧ ((∃ xs, S xs ∧ J xs W') ∨ (∃ pre, Sp pre ∧ Jx pre W'))
section
variable {F : Fence} {n : Nat} {P : Program}
theorem rec_put {β : Type} {B l : Nat} {I : β → World → Prop} {s : β} {W : World} {o : Obj} (h : OwnFrom B I) (hs : I s W) (hB : B ≤ l) (hl : W.heap[l]? = some o) (ho : o.isCells = false) (o' : Obj) : I s (W.putObj l o') := h.putObj o' hs hB hl ho
theorem range_until {α : Type} {g : Operand} {ps : Array Tmp} {assign body : Code} {Q : Exit → Act → World → Prop} {a : Act} {w : World} (hro : F.round = none) (h1 : 1 ≤ n) {gf : Nat} {lb : Array Value}
    (hg : a.eval g = .func (.func gf) #[] lb) (hF : F.fn gf) (he : ∀ args w, (callFunc gf args).run P w = .ok (.enter gf args) w) (encs : α → Array Value) (hps : ∀ x, (encs x).size = ps.size) (Kp : World → World → Prop) (hKt : ∀ {A B C : World}, Kp A B → Kp B C → Kp A C) (hKb : ∀ (W : World) (l : Nat) (o o' : Obj), w.heap.size ≤ l → W.heap[l]? = some o → o.isCells = false → o.isWalk = false → Kp W (W.putObj l o'))
    (I : List α → World → Prop) (Ix : Code → List α → World → Prop) (hI : OwnFrom w.heap.size I) (hIx : ∀ c, OwnFrom w.heap.size (Ix c)) (Px : α → Prop) (S Sp : List α → Prop) (hseq : SeqUntil F (n - 1) P gf lb encs Kp I Px S Sp w) (h0 : I [] w) (act : α → Act)
    (hassign : ∀ (l : Nat) (x : α) (W : World) (K : Act → World → Prop), K (act x) W → assign.wpIn (F.inRound l) (n - 1 - 1) P (Exit.then K (fun _ _ _ => False)) { tmps := (ps.zip (encs x)).foldl (fun t (p, v) => t.setIfInBounds p v) a.tmps, defers := [] } W)
    (hbody : ∀ (l : Nat) (pre : List α) (x : α) (W : World), Px x → I pre W → body.wpIn (F.inRound l) (n - 1 - 1) P (ownPostG w.heap.size Kp I Ix (pre ++ [x]) W) (act x) W)
    (hdone : ∀ (D : Nat) (xs : List α) (W : World), w.heap.size ≤ D → S xs → I xs W → W.heap[D]? = some (.deferred (some [])) → Q .normal { a with defers := { target := .collected D, args := #[] } :: a.defers } W)
    (hstop : ∀ (D : Nat) (c : Code) (pre : List α) (W : World), w.heap.size ≤ D → Sp pre → Ix c pre W → W.heap[D]? = some (.deferred (some [])) → c.wpIn F n P Q { a with defers := { target := .collected D, args := #[] } :: a.defers } W) :
    (Code.rangeFunc g ps assign body).wpIn F n P Q a w := by
  refine wpIn_rangeFunc fun fn hfn => ?_
  rw [hro]
  -- where the loop's record and the block for deferred calls lie, and what the record says
  obtain ⟨D, hD⟩ : ∃ D, D = w.heap.size := ⟨_, rfl⟩
  obtain ⟨R, hR⟩ : ∃ R : LoopState → Option Code → Obj, R = fun st pe => .loop { state := st, pending := pe, fn := fn, tmps := a.tmps, params := ps, assign := assign, body := body, defers := D } := ⟨_, rfl⟩
  obtain ⟨W1, hW1⟩ : ∃ W, W = (w.alloc (.deferred (some []))).alloc (R .ready none) := ⟨_, rfl⟩
  have hnc : ∀ st pe, (R st pe).isCells = false := fun st pe => by rw [hR]; rfl
  have hnw : ∀ st pe, (R st pe).isWalk = false := fun st pe => by rw [hR]; rfl
  have hl1 : W1.heap[D + 1]? = some (R .ready none) := by
    rw [hW1, hD]; have h := World.alloc_heap_new (w.alloc (.deferred (some []))) (R .ready none); rwa [World.size_alloc] at h
  have hd1 : W1.heap[D]? = some (.deferred (some [])) := by
    rw [hW1, hD]; exact (Below.heap_alloc _ _ _ (by simp)).trans (World.alloc_heap_new w _)
  have hb1 : Below w.heap.size w W1 := by rw [hW1]; exact ((Below.refl _ w).alloc (Nat.le_refl _) _).alloc (by simp) _
  have hs1 : D ≤ W1.heap.size := by rw [hW1, hD]; simp; omega
  have hi1 : I [] W1 := by rw [hW1]; exact hI.alloc _ (hI.alloc _ h0)
  -- a turn of the record leaves the block for deferred calls
  have hdk : ∀ (W : World) (o : Obj), W.heap[D]? = some (.deferred (some [])) → (W.putObj (D + 1) o).heap[D]? = some (.deferred (some [])) := fun W o h => (World.putObj_heap_other (by omega)).trans h
  have hput : ∀ (W : World) (st : LoopState) (pe : Option Code) (o' : Obj), W.heap[D + 1]? = some (R st pe) → Kp W (W.putObj (D + 1) o') := fun W st pe o' h => hKb W (D + 1) _ o' (by omega) h (hnc _ _) (hnw _ _)
  rw [← hD] at hI hIx hbody hdone hstop
  have hcall := hseq (D + 1) (fun pre W => I pre W ∧ W.heap[D + 1]? = some (R .ready none) ∧ W.heap[D]? = some (.deferred (some [])))
    (fun pre W => ∃ c, Ix c pre W ∧ W.heap[D + 1]? = some (R .done (some c)) ∧ W.heap[D]? = some (.deferred (some []))) W1 hb1
    (fun s A B row hs hgr hr => by
      have hr2 : ∀ r, row = some r → D ≤ r ∧ ∃ o : Obj, A.heap[r]? = some o ∧ o.isCells = false := fun r e => by
        obtain ⟨h1, o, h2, h3⟩ := hr r e
        exact ⟨by omega, o, h2, Obj.not_cells_of_walk h3⟩
      have hr3 : ∀ r, row = some r → ∃ o : Obj, A.heap[r]? = some o ∧ o.isWalk = true := fun r e => (hr r e).2
      exact ⟨hI s A B row hs.1 hgr hr2, (grownBy_keeps hgr hr3 hs.2.1 (hnw _ _)).trans hs.2.1, (grownBy_keeps hgr hr3 hs.2.2 rfl).trans hs.2.2⟩)
    (fun pre W1 h => h.1) ?round ⟨hi1, hl1, hd1⟩
  case round =>
    rintro pre x W hpx ⟨hi, hl, hd⟩
    have hsz : D + 1 < W.heap.size := (Array.getElem?_eq_some_iff.1 hl).1
    have hy : (Instr.yield (D + 1) (encs x)).run P W = .ok (.round (D + 1) fn ((ps.zip (encs x)).foldl (fun t (p, v) => t.setIfInBounds p v) a.tmps) assign body) W := by
      have h := hl
      rw [hR] at h
      exact run_yield h (hps x)
    refine ⟨fn, _, assign, body, hy, roundIn_of_wpIn hfn (hassign _ x W _ ⟨W.putObj (D + 1) (R .busy none), by
      have h := hl
      rw [hR] at h ⊢
      exact run_beginRound h rfl, ?_⟩)⟩
    have hl2 : (W.putObj (D + 1) (R .busy none)).heap[D + 1]? = some (R .busy none) := World.putObj_heap_same hsz
    have hd2 := hdk W (R .busy none) hd
    refine wpIn_mono (hbody _ pre x _ hpx (rec_put hI hi (by omega) hl (hnc _ _) _)) ?_
    -- the end of a round, whichever way
    have hend : ∀ (jump : Option Code) (W3 : World), KeepsFrom D (W.putObj (D + 1) (R .busy none)) W3 →
        (Instr.endRound (D + 1) jump).run P W3 = .ok (.bool jump.isNone) (W3.putObj (D + 1) (R (if jump.isNone then .ready else .done) jump)) ∧ W3.heap[D + 1]? = some (R .busy none) ∧
        (W3.putObj (D + 1) (R (if jump.isNone then .ready else .done) jump)).heap[D + 1]? = some (R (if jump.isNone then .ready else .done) jump) ∧ (W3.putObj (D + 1) (R (if jump.isNone then .ready else .done) jump)).heap[D]? = some (.deferred (some [])) := by
      intro jump W3 hk
      have h3 := hk.same (D + 1) _ (by omega) hl2 (hnc _ _)
      have h4 := hk.same D _ (Nat.le_refl _) hd2 rfl
      refine ⟨?_, h3, World.putObj_heap_same (Array.getElem?_eq_some_iff.1 h3).1, hdk W3 _ h4⟩
      have h := h3
      rw [hR] at h ⊢
      exact run_endRound jump h
    have hout : ∀ (c : Code) (W3 : World), KeepsFrom D (W.putObj (D + 1) (R .busy none)) W3 ∧ Ix c (pre ++ [x]) W3 → ∃ v w', (Instr.endRound (D + 1) (some c)).run P W3 = .ok v w' ∧
        (((Ending.returned v) = .returned (.bool true) ∧ (I (pre ++ [x]) w' ∧ w'.heap[D + 1]? = some (R .ready none) ∧ w'.heap[D]? = some (.deferred (some []))) ∧ Kp W w') ∨
         ((Ending.returned v) = .returned (.bool false) ∧ ∃ c, Ix c (pre ++ [x]) w' ∧ w'.heap[D + 1]? = some (R .done (some c)) ∧ w'.heap[D]? = some (.deferred (some [])))) := by
      rintro c W3 ⟨hk, hx⟩
      obtain ⟨e1, e2, e3, e4⟩ := hend (some c) W3 hk
      exact ⟨_, _, e1, .inr ⟨rfl, c, rec_put (hIx c) hx (by omega) e2 (hnc _ _) _, e3, e4⟩⟩
    rintro e a3 W3 hp
    match e, hp with
    | .normal, hp =>
      obtain ⟨hk, hb, hi3⟩ := hp
      obtain ⟨e1, e2, e3, e4⟩ := hend none W3 hk
      exact ⟨_, _, e1, .inl ⟨rfl, ⟨rec_put hI hi3 (by omega) e2 (hnc _ _) _, e3, e4⟩, hKt (hKt (hput W .ready none _ hl) hb) (hput W3 .busy none _ e2)⟩⟩
    | .ret, hp => exact hout .ret W3 hp
    | .exit id, hp => exact hout (.exit id) W3 hp
    | .goto t, hp => exact hout (.goto t) W3 hp
    | .panic ch, hp => exact hp.elim
    | .outgrown, hp => exact hp.elim
  refine ⟨D + 1, [{ target := .collected D, args := #[] }], W1, { target := .fn (.func gf) lb, args := #[.func (.yield (D + 1)) #[] #[]] }, W1, gf, #[.func (.yield (D + 1)) #[] #[]] ++ lb, W1, ?_, ?_, ?_, ?_, fun _ => h1, ?_⟩
  · rw [hW1, hR, hD]; exact run_enterLoop_outer _ _ _ _ _
  · simp only [resolve, hg]; simp [go_sem]
  · intro f' hf'; simp [Target.leads] at hf'; subst hf'; exact hF
  · simp [invoke, go_sem, he]
  · refine hcall.mono ?_
    rintro e W2 ⟨⟨v, rfl⟩, (⟨xs, hS, hi, hl, hd⟩ | ⟨pre, hSp, c, hi, hl, hd⟩)⟩
    · refine ⟨none, _, by have h := hl; rw [hR] at h; exact run_endLoop h (by simp), hdone D xs _ (Nat.le_refl _) hS (rec_put hI hi (by omega) hl (hnc _ _) _) (hdk _ _ hd)⟩
    · refine ⟨some c, _, by have h := hl; rw [hR] at h; exact run_endLoop h (by simp), hstop D c pre _ (Nat.le_refl _) hSp (rec_put (hIx c) hi (by omega) hl (hnc _ _) _) (hdk _ _ hd)⟩
end
end Go.Proofs.Ytclillkneadplaa
