/- Loops of next nodes as the program finds them: each node remembers the walk that met it first. The program's HasLoop. -/
import Derived.Test.YtjobjjmeneddnaaWalk
namespace Go.Proofs.Ytjobjjmeneddnaa
open Go.ChangeShapes Go.WideShapes Go.ChangeAt Go.RowKit
set_option linter.unusedVariables false
/-- a walk from x comes to an end -/
def Out (next : List Int) (x : Int) : Prop := ∃ k, ¬ inN next (itr next k x)
theorem itr_add (next : List Int) (a : Int) (i j : Nat) : itr next (i + j) a = itr next i (itr next j a) := by
  induction i with
  | zero => simp [itr]
  | succ i ih => rw [show i + 1 + j = (i + j) + 1 by omega]; show atD next _ = atD next _; rw [ih]
theorem out_back {next : List Int} {a : Int} {j : Nat} (h : Out next (itr next j a)) : Out next a := by
  obtain ⟨k, hk⟩ := h
  exact ⟨k + j, by rw [itr_add]; exact hk⟩
theorem out_wl {next : List Int} {a : Int} {k : Nat} (h : Out next (itr next k a)) : ∀ y ∈ wl next a k, Out next y := by
  intro y hy
  obtain ⟨j, hj, rfl⟩ := List.mem_map.1 hy
  have hj := List.mem_range.1 hj
  refine out_back (j := k - j) ?_
  rw [← itr_add, show k - j + j = k by omega]; exact h
theorem out_stays {next : List Int} {a : Int} (h : ¬ inN next a) (m : Nat) : ¬ inN next (itr next m a) := by
  induction m with
  | zero => exact h
  | succ m ih =>
    show ¬ inN next (atD next (itr next m a))
    rw [atD_out]
    · unfold inN; omega
    · unfold inN at ih; omega
theorem round_not_out {next : List Int} {i : Int} {k : Nat} (h : itr next (k + 1) i = i) (hi : inN next i) : ¬ Out next i := by
  rintro ⟨m, hm⟩
  have h1 : ∀ t, itr next ((k + 1) * t) i = i := by
    intro t
    induction t with
    | zero => rfl
    | succ t ih => rw [show (k + 1) * (t + 1) = (k + 1) * t + (k + 1) by rw [Nat.mul_succ], itr_add, h]; exact ih
  have h2 := out_stays hm ((k + 1) * m - m)
  rw [← itr_add, Nat.sub_add_cancel (by rw [Nat.succ_mul]; omega), h1] at h2
  exact h2 hi
theorem loopB_no {next : List Int} (h : ∀ j : Nat, j < next.length → Out next j) : loopB next = false := by
  unfold loopB
  rw [List.any_eq_false]
  intro i hi
  have hi := List.mem_range.1 hi
  unfold loopAt
  rw [Bool.not_eq_true, List.any_eq_false]
  intro k _ e
  exact round_not_out (of_decide_eq_true e) (show inN next i by unfold inN; omega) (h i hi)
theorem loopB_yes {next : List Int} {y : Int} {d : Nat} (hy : inN next y) (hd : d < next.length) (h : itr next (d + 1) y = y) : loopB next = true := by
  unfold loopB
  obtain ⟨i, rfl⟩ : ∃ i : Nat, (i : Int) = y := ⟨y.toNat, by unfold inN at hy; omega⟩
  rw [List.any_eq_true]
  refine ⟨i, List.mem_range.2 (by unfold inN at hy; omega), ?_⟩
  unfold loopAt
  rw [List.any_eq_true]
  exact ⟨d, List.mem_range.2 hd, decide_eq_true h⟩
/-- what the nodes remember while the walk from s goes on and has met q -/
structure Met (next met : List Int) (s : Nat) (q : List Int) : Prop where
  len : met.length = next.length
  low : ∀ x, -1 ≤ atD met x
  top : ∀ x, atD met x ≤ s
  hit : ∀ x, atD met x = s ↔ x ∈ q
  old : ∀ x, 0 ≤ atD met x → x ∉ q → Out next x
  nd : q.Nodup
  rng : ∀ x ∈ q, inN next x
  vis : ∀ j : Nat, j < s → 0 ≤ atD met j
section
variable {next met q : List Int} {s : Nat}
theorem Met.start (next : List Int) : Met next (List.replicate next.length (-1)) 0 [] := by
  refine ⟨by simp, fun x => by rw [atD_rep]; omega, fun x => by rw [atD_rep]; omega, fun x => ?_, fun x hx => ?_, by simp, (fun x hx => by cases hx), fun j hj => by omega⟩
  · rw [atD_rep]; simp
  · rw [atD_rep] at hx; omega
theorem Met.few (h : Met next met s q) : q.length ≤ next.length := by
  have h1 := nodup_le (A := q) (B := (List.range next.length).map fun v : Nat => (v : Int)) h.nd fun x hx => by
    have h2 := h.rng x hx
    unfold inN at h2
    exact List.mem_map.2 ⟨x.toNat, List.mem_range.2 (by omega), by omega⟩
  rw [List.length_map, List.length_range] at h1
  exact h1
theorem Met.put (h : Met next met s q) {x : Nat} (hx : x < next.length) (hn : atD met x < 0) : Met next (met.set x s) s (q ++ [(x : Int)]) := by
  have hs : ∀ y, atD (met.set x s) y = if y = (x : Int) then (s : Int) else atD met y := fun y => by
    have h1 := atD_set met (x : Int) (s : Int) y (by omega) (by rw [h.len]; omega)
    rwa [show ((x : Int).toNat) = x by omega] at h1
  have hxq : (x : Int) ∉ q := fun hq => by have := (h.hit x).2 hq; omega
  refine ⟨by rw [List.length_set]; exact h.len, fun y => ?_, fun y => ?_, fun y => ?_, fun y hy hyq => ?_, ?_, fun y hy => ?_, fun j hj => ?_⟩
  · rw [hs]; split
    · omega
    · exact h.low y
  · rw [hs]; split
    · omega
    · exact h.top y
  · rw [hs, List.mem_append, List.mem_singleton]
    by_cases e : y = (x : Int)
    · rw [if_pos e]; simp [e]
    · rw [if_neg e, h.hit]; simp [e]
  · rw [List.mem_append, List.mem_singleton] at hyq
    rw [hs, if_neg (fun e => hyq (.inr e))] at hy
    exact h.old y hy fun hq => hyq (.inl hq)
  · rw [List.nodup_append]
    refine ⟨h.nd, by simp, fun y hy z hz e => ?_⟩
    rw [List.mem_singleton.1 hz] at e
    exact hxq (e ▸ hy)
  · rcases List.mem_append.1 hy with hy | hy
    · exact h.rng y hy
    · rw [List.mem_singleton.1 hy]; unfold inN; omega
  · rw [hs]; split
    · omega
    · exact h.vis j hj
theorem Met.after (h : Met next met s q) (ho : ∀ x ∈ q, Out next x) (hv : 0 ≤ atD met s) : Met next met (s + 1) [] := by
  refine ⟨h.len, h.low, fun x => by have := h.top x; omega, fun x => ?_, fun x hx _ => ?_, by simp, (fun x hx => by cases hx), fun j hj => ?_⟩
  · have := h.top x
    constructor
    · intro e; omega
    · intro e; cases e
  · by_cases hq : x ∈ q
    · exact ho x hq
    · exact h.old x hx hq
  · by_cases e : j = s
    · subst e; exact hv
    · exact h.vis j (by omega)
theorem Met.fin (h : Met next met next.length []) : loopB next = false :=
  loopB_no fun j hj => h.old j (h.vis j hj) (by simp)
end
/-- the marks that loops over iterators have left -/
def marks (ms : List Nat) : List Deferred := ms.map fun D => { target := .collected D, args := #[] }
/-- a function leaves over its marks -/
theorem leaves_marks {F : Fence} {n : Nat} {P : Program} {fn : Func} {tmps : Array Value} {R : Ending → World → Prop} (B : Nat) (ms : List Nat) : ∀ W : World, ms.Nodup → (∀ D ∈ ms, B ≤ D ∧ W.heap[D]? = some (.deferred (some []))) →
    (∀ W' : World, Below B W W' → (∀ p v, W.cell? p = some v → W'.cell? p = some v) → ∃ v, (results fn tmps).run P W' = .ok v W' ∧ R (.returned v) W') → LeavesInM F n P fn tmps R (marks ms) .returning W := by
  induction ms with
  | nil => intro W _ _ h; exact h W (Below.refl _ _) fun _ _ h => h
  | cons D ms ih =>
    intro W hnd hm h
    rw [List.nodup_cons] at hnd
    obtain ⟨hBD, hD⟩ := hm D List.mem_cons_self
    refine ⟨by simp, .inl ⟨_, _, rfl, run_takeDeferred hD, ih _ hnd.2 (fun E hE => ?_) fun W' hb hc => ?_⟩⟩
    · obtain ⟨h1, h2⟩ := hm E (List.mem_cons_of_mem _ hE)
      exact ⟨h1, (World.putObj_heap_other (fun e => hnd.1 (by rw [← e]; exact hE))).trans h2⟩
    · refine h W' (Below.trans ?_ hb) fun p v hp => hc p v ?_
      · exact (Below.refl B W).grown (grownBy_putObj' W D _) (by have := (Array.getElem?_eq_some_iff.1 hD).1; omega) (fun k e => by cases e; exact hBD)
      · exact cell_kept hp (grownBy_putObj' W D (.deferred none)) (fun r e => by cases e; exact ⟨_, hD, rfl⟩)
end Go.Proofs.Ytjobjjmeneddnaa
namespace Go.Proofs.Ytjobjjmeneddnaa
open Go.ChangeShapes Go.WideShapes Go.ChangeAt Go.RowKit Go.Shelf
set_option linter.unusedVariables false
attribute [local go_sem] Oper.semAt_some
/-- what the walks from the nodes before s have left -/
structure LSt (w wr : World) (g gr mb : Nat) (l met : List Int) (s : Nat) (ms : List Nat) : Prop where
  res : Boxed wr g 4 (.bool false)
  row : Own wr g 3 1 (some ⟨gr, 0, none⟩) l.length l.length (iv met)
  box : Boxed wr mb 27 (.slice (some ⟨gr, 0, none⟩) l.length l.length)
  met : Met l met s []
  nd : ms.Nodup
  mks : ∀ D ∈ ms, mb < D ∧ wr.heap[D]? = some (.deferred (some []))
  bel : Below g w wr
/-- one's own row, while blocks turn that are no cells -/
theorem Own.keptNC {W W' : World} {row : Option Nat} {B r n c s : Nat} {E : TypeId} {xs : List Value} (h : Own W B E s (some ⟨r, 0, none⟩) n c xs) (hg : W.grownBy W' row) (hr : ∀ k, row = some k → ∃ o : Obj, W.heap[k]? = some o ∧ o.isCells = false) : Own W' B E s (some ⟨r, 0, none⟩) n c xs := by
  refine h.kept hg (.inr fun e => ?_)
  simp only [Value.ownBlock] at e
  obtain ⟨o, h1, h2⟩ := hr r e.symm
  rcases h.row.2 with ⟨hv, _⟩ | ⟨g', cap, cur, hv, _, hc, _⟩
  · simp at hv
  · simp at hv
    rw [← hv.1] at hc
    rw [hc] at h1
    cases h1
    cases h2
theorem cell_sameW {X Y : World} {p : Addr} (h : Y.heap[p.block]? = X.heap[p.block]?) : Y.cell? p = X.cell? p := by simp only [World.cell?, h]
/-- what a walk from s has met, and what it stands on -/
structure Rd (w W : World) (g gr mb sb : Nat) (l : List Int) (s : Nat) (q met : List Int) : Prop where
  res : Boxed W g 4 (.bool false)
  box : Boxed W mb 27 (.slice (some ⟨gr, 0, none⟩) l.length l.length)
  st : Boxed W sb 3 (.int .i64 (s : Nat))
  row : Own W g 3 1 (some ⟨gr, 0, none⟩) l.length l.length (iv met)
  met : Met l met s q
theorem Rd.keptNC {w W W' : World} {row : Option Nat} {g gr mb sb s : Nat} {l q met : List Int} (h : Rd w W g gr mb sb l s q met) (hg : W.grownBy W' row) (hr : ∀ k, row = some k → ∃ o : Obj, W.heap[k]? = some o ∧ o.isCells = false) : Rd w W' g gr mb sb l s q met :=
  ⟨boxed_own g _ (fun _ => _) () _ _ _ h.res hg hr, boxed_own mb _ (fun _ => _) () _ _ _ h.box hg hr, boxed_own sb _ (fun _ => _) () _ _ _ h.st hg hr, h.row.keptNC hg hr, h.met⟩
set_option maxRecDepth 100000 in
set_option maxHeartbeats 2000000 in
theorem iloop (w : World) (D : Nat) (A : Option Addr) (n c : Nat) (l : List Int) (h : Sl w D 1 A n c (iv l)) (hD : D ≤ w.heap.size) (hn : n ≤ 16777216) (b : Bool) (hb : loopB l = b) :
    Calls Try.prog 19 #[.slice A n c] w (Says w b) := by
  obtain rfl : n = l.length := by have h1 := h.len; rw [iv_len] at h1; omega
  have HS := Lib.hid h; have HLB := Lib.hid hb
  have hro : Fence.wide.round = none := rfl
  clear h hb
  refine (callsIn_wide (n := 3)).1 ?_
  refine callsIn_of_wp_marks Try.func19 rfl trivial ?_ hro
  simp only [Try.ntmps19, List.size_toArray, List.length_cons, List.length_nil, Nat.reduceAdd, Nat.reduceSub, Array.replicate_succ, Array.replicate_zero, List.push_toArray, List.append_toArray, List.nil_append, List.cons_append]
  gi_wp2_with fail
  obtain ⟨g, hg⟩ : ∃ g, g = w.heap.size := ⟨_, rfl⟩
  obtain ⟨W2, hW2⟩ : ∃ W, W = (w.alloc (.cells #[.bool false] 4)).alloc (.cells #[.int .i64 (-1)] 3) := ⟨_, rfl⟩
  rw [← hg, ← hW2]
  have x0 : Boxed W2 g 4 (.bool false) := by rw [hW2, hg]; exact (Boxed.new _ _ _).alloc _
  have hb2 : Below g w W2 := by rw [hW2, hg]; exact ((Below.refl _ _).alloc (Nat.le_refl _) _).alloc (by simp) _
  have hs2 : W2.heap.size = g + 1 + 1 := by rw [hW2, hg]; simp
  have x1 : Sl W2 W2.heap.size 1 (some ⟨g + 1, 0, none⟩) 1 1 [.int .i64 (-1)] := by
    rw [hW2, hg]
    have h := Sl.one (w.alloc (.cells #[.bool false] 4)) (.int .i64 (-1)) 3
    have e : (w.alloc (.cells #[.bool false] 4)).heap.size = w.heap.size + 1 := by simp
    rw [e] at h
    exact h.more (by simp)
  clear hW2
  refine ⟨trivial, (callsIn_wide.2 (irep W2 W2.heap.size 1 l.length (some ⟨g + 1, 0, none⟩) (-1) x1 (Nat.le_refl _) hn)).mono ?_⟩
  rintro e W3 ⟨rfl, o3, b3⟩
  obtain ⟨gr, hgr⟩ : ∃ r, r = W2.heap.size := ⟨_, rfl⟩
  rw [← hgr] at o3 ⊢
  have x3 : Boxed W3 g 4 (.bool false) := (b3.block g x0.lt).trans x0
  have hb3 : Below g w W3 := hb2.trans (b3.mono (by omega))
  have hgrl : gr < W3.heap.size := by rcases o3.form with ⟨h1, _⟩ | ⟨g', h1, _, h2, _⟩; · cases h1
                                      · injection h1 with h1; cases h1; exact h2
  have HX3 := Lib.hid x3; have HB3 := Lib.hid hb3; have HO3 := Lib.hid (o3.fewer (show g ≤ gr by omega))
  have HGR : Hid (gr = g + 1 + 1 ∧ gr < W3.heap.size) := Lib.hid ⟨by omega, hgrl⟩
  have HG := Lib.hid hg
  clear x0 x1 x3 hb2 hb3 hs2 o3 b3 hgr hgrl hg
  gi_wp2_with fail
  obtain ⟨mb, hmb⟩ : ∃ m, m = W3.heap.size := ⟨_, rfl⟩
  obtain ⟨W4, hW4⟩ : ∃ W, W = W3.alloc (.cells #[.slice (some ⟨gr, 0, none⟩) l.length l.length] 27) := ⟨_, rfl⟩
  rw [← hW4, ← hmb]
  have HST : Hid (LSt w W4 g gr mb l (List.replicate l.length (-1)) 0 []) := Lib.hid (by
    rw [hW4, hmb]
    exact ⟨HX3.out.alloc _, HO3.out.on ((Below.refl _ _).alloc (Nat.le_refl _) _), Boxed.new _ _ _, Met.start l, by simp, by simp, HB3.out.alloc (by have := HX3.out.lt; omega) _⟩)
  have HMB : Hid (g < gr ∧ gr < mb) := Lib.hid (by have := HGR.out; omega)
  clear hW4 hmb HX3 HO3 HB3 HGR
  refine wpIn_loop (fun a' wr => ∃ (s : Nat) (met : List Int) (ms : List Nat) (u4 u13 u14 u15 u16 u17 u34 : Value), s ≤ l.length ∧ LSt w wr g gr mb l met s ms ∧ a' = { tmps := #[.slice A l.length c, undef, .pointer (some ⟨g, 0, none⟩), .pointer (some ⟨mb, 0, none⟩), u4, undef, .slice (some ⟨g + 1, 0, none⟩) 1 1, .slice A l.length c,
      .int .i64 (l.length : Nat), .slice (some ⟨gr, 0, none⟩) l.length l.length, .slice A l.length c, .int .i64 (l.length : Nat), .int .i64 (s : Nat), u13, u14, u15, u16, u17, undef, undef, undef, undef, undef, undef, undef, undef, undef, undef, undef, undef, undef, undef, undef, undef, u34], defers := marks ms })
    (fun a' _ => l.length - (intOf (a'.tmps.getD 12 undef)).toNat) ⟨0, _, [], _, _, _, _, _, _, _, Nat.zero_le _, HST.out, rfl⟩ ?_
  rintro a' wr ⟨s, met, ms, u4, u13, u14, u15, u16, u17, u34, hsl, hst, rfl⟩
  have HL := Lib.hid hst
  clear hst HST
  by_cases hlt : s < l.length
  case neg =>
    obtain rfl : s = l.length := by omega
    have c0 := HL.out.res.cell; have f0 := HL.out.res.frozen
    have HRB : Hid (b = false) := Lib.hid (by rw [← HLB.out]; exact HL.out.met.fin)
    gi_wp2
    refine leaves_marks g ms _ HL.out.nd (fun D hD => ⟨by have := HL.out.mks D hD; have := HMB.out; omega, (Below.heap_setCell wr _ _ D (by have := HL.out.mks D hD; have := HMB.out; simp; omega)).trans (HL.out.mks D hD).2⟩) fun W' hb hc => ⟨.bool false, ?_, by rw [HRB.out], ?_⟩
    · have h1 := hc ⟨g, 0, none⟩ (.bool false) (HL.out.res.set (.bool false)).cell
      simp [results, Try.f19, go_sem, h1]
    · rw [← HG.out]
      exact (HL.out.bel.setCell (p := ⟨g, 0, none⟩) (Nat.le_refl _) _).trans hb
  case pos =>
    have hltI : (s : Int) < (l.length : Int) := by omega
    gi_wp2_with fail
    obtain ⟨sb, hsb⟩ : ∃ x, x = wr.heap.size := ⟨_, rfl⟩
    obtain ⟨W6, hW6⟩ : ∃ W, W = wr.alloc (.cells #[.int .i64 (s : Nat)] 3) := ⟨_, rfl⟩
    rw [← hW6, ← hsb]
    have b6 : Below wr.heap.size wr W6 := by rw [hW6]; exact (Below.refl _ _).alloc (Nat.le_refl _) _
    have s6 : W6.heap.size = sb + 1 := by rw [hW6, hsb]; simp
    have x6 : Boxed W6 sb 3 (.int .i64 (s : Nat)) := by rw [hW6, hsb]; exact Boxed.new _ _ _
    have hwg : g ≤ wr.heap.size := by have := HL.out.res.lt; omega
    have HS6 : Hid (Sl W6 D 1 A l.length c (iv l)) := Lib.hid (HS.out.below (HL.out.bel.trans (b6.mono hwg)) (by have := HG.out; omega))
    refine ⟨trivial, (callsIn_wide.2 (iwalk W6 D A c l (s : Int) HS6.out (by have := HG.out; omega))).mono ?_⟩
    rintro e W7 ⟨rfl, hwb, s7, b7⟩
    obtain ⟨bn, hbn⟩ : ∃ x, x = W6.heap.size := ⟨_, rfl⟩
    rw [← hbn] at hwb s7 ⊢
    have hmbl := HL.out.box.lt
    have HNUM : Hid (bn = sb + 1 ∧ W7.heap.size = bn + 1 + 1 ∧ mb < sb ∧ sb = wr.heap.size) := Lib.hid (by omega)
    have b67 : Below wr.heap.size wr W7 := b6.trans (b7.mono (by omega))
    have HRD : Hid (Rd w W7 g gr mb sb l s [] met) := Lib.hid ⟨(b67.block g HL.out.res.lt).trans HL.out.res, (b67.block mb hmbl).trans HL.out.box, (b7.block sb (by omega)).trans x6, HL.out.row.on b67, HL.out.met⟩
    have HMK : Hid (∀ E ∈ ms, mb < E ∧ E < W7.heap.size ∧ W7.heap[E]? = some (.deferred (some []))) := Lib.hid fun E hE => by
      obtain ⟨h1, h2⟩ := HL.out.mks E hE
      have h3 := (Array.getElem?_eq_some_iff.1 h2).1
      exact ⟨h1, by have := b67.size; omega, (b67.block E h3).trans h2⟩
    have HB7 : Hid (Below g w W7) := Lib.hid (HL.out.bel.trans (b67.mono hwg))
    have HWB := Lib.hid hwb; have HND := Lib.hid HL.out.nd
    clear hW6 b6 s6 x6 hwb s7 b7 hbn b67 hsb hmbl HL HS6
    gi_wp2
    refine range_until hro (by omega) (gf := 76) (lb := #[.pointer (some ⟨bn + 1, 0, none⟩), .pointer (some ⟨bn, 0, none⟩)]) rfl trivial (enters_of Try.func76 (by kernel_rfl) rfl) ienc (fun _ => rfl)
      (fun X Y => Below g X Y ∧ Y.heap[bn]? = X.heap[bn]? ∧ Y.heap[bn + 1]? = X.heap[bn + 1]?) (fun h k => ⟨h.1.trans k.1, k.2.1.trans h.2.1, k.2.2.trans h.2.2⟩)
      (fun X k o o' hl ho h1 h2 => ⟨belowK_b (w := W7) (by have := HNUM.out; omega) X k o o' hl ho h1 h2, World.putObj_heap_other (by have := HNUM.out; omega), World.putObj_heap_other (by have := HNUM.out; omega)⟩)
      (fun pre W => (∃ met, Rd w W g gr mb sb l s pre met) ∧ (∀ E ∈ ms, W.heap[E]? = some (.deferred (some []))) ∧ Below g w W)
      (fun cd ps W => ((cd = .ret ∧ (∃ q x met, ps = q ++ [x] ∧ x ∈ q ∧ Met l met s q) ∧ Boxed W g 4 (.bool true)) ∨ (cd = .exit 2 ∧ ∃ q x met, ps = q ++ [x] ∧ Rd w W g gr mb sb l s q met ∧ 0 ≤ atD met x ∧ x ∉ q)) ∧ (∀ E ∈ ms, W.heap[E]? = some (.deferred (some []))) ∧ Below g w W)
      (OwnFrom.and (Own.from (fun q X Y row hs hgr hr => by obtain ⟨met, h⟩ := hs; exact ⟨met, h.keptNC hgr hr⟩) _) (OwnFrom.and (fun q X Y row hs hgr hr E hE => (hgr.block E (Array.getElem?_eq_some_iff.1 (hs E hE)).1 (fun e => by have := (hr E e.symm).1; have := (HMK.out E hE).2.1; omega)).trans (hs E hE)) (ownFrom_below (by rw [HG.out]; exact Nat.le_refl _) (by have := HNUM.out; have := HMB.out; omega))))
      (fun cd => OwnFrom.and (Own.from (fun ps X Y row hs hgr hr => by
        rcases hs with ⟨h1, h2, h3⟩ | ⟨h1, q, x, met, h2, h3, h4⟩
        · exact .inl ⟨h1, h2, boxed_own g _ (fun _ => _) () _ _ _ h3 hgr hr⟩
        · exact .inr ⟨h1, q, x, met, h2, h3.keptNC hgr hr, h4⟩) _) (OwnFrom.and (fun q X Y row hs hgr hr E hE => (hgr.block E (Array.getElem?_eq_some_iff.1 (hs E hE)).1 (fun e => by have := (hr E e.symm).1; have := (HMK.out E hE).2.1; omega)).trans (hs E hE)) (ownFrom_below (by rw [HG.out]; exact Nat.le_refl _) (by have := HNUM.out; have := HMB.out; omega))))
      (inN l) (allW l (s : Int)) (partW l (s : Int))
      (walk_until Fence.wide 2 walk_wide (by omega) D (bn + 1) bn c l.length A l (s : Int) hn _ (fun k W1 h => by obtain ⟨met, h1⟩ := h.1; have h2 := h1.met.few; rw [wl_len] at h2; exact h2) W7 _ (fun X Y h hw => ⟨(cell_sameW (p := ⟨bn + 1, 0, none⟩) h.2.2).trans hw.cf, (cell_sameW (p := ⟨bn, 0, none⟩) h.2.1).trans hw.cn, hw.sl.below h.1 (by have := HG.out; omega)⟩) (by have := HNUM.out; omega) (by have := HNUM.out; omega) (by have := HNUM.out; have := HMB.out; have := HG.out; omega) HWB.out)
      ⟨⟨met, HRD.out⟩, fun E hE => (HMK.out E hE).2.2, HB7.out⟩
      (fun x => { tmps := #[.slice A l.length c, undef, .pointer (some ⟨g, 0, none⟩), .pointer (some ⟨mb, 0, none⟩), .pointer (some ⟨sb, 0, none⟩), .int .i64 x, .slice (some ⟨g + 1, 0, none⟩) 1 1, .slice A l.length c, .int .i64 (l.length : Nat), .slice (some ⟨gr, 0, none⟩) l.length l.length, .slice A l.length c, .int .i64 (l.length : Nat), .int .i64 (s : Nat), .bool true, .int .i64 (s : Nat), .slice A l.length c, .int .i64 (s : Nat),
        .func (.func 76) #[] #[.pointer (some ⟨bn + 1, 0, none⟩), .pointer (some ⟨bn, 0, none⟩)], .int .i64 x, undef, undef, undef, undef, undef, undef, undef, undef, undef, undef, undef, undef, undef, undef, undef, u34], defers := [] }) ?assign ?body ?done ?stop
    case assign =>
      intro li x W K hK
      gi_wp2
      exact hK
    case body =>
      rintro li pre x W hx ⟨⟨met, hR⟩, hmk, hB⟩
      obtain ⟨xi, rfl⟩ : ∃ xi : Nat, (xi : Int) = x := ⟨x.toNat, by unfold inN at hx; omega⟩
      have hxl : xi < l.length := by unfold inN at hx; omega
      have hxI : (xi : Int) < (l.length : Int) := by omega
      have hxm : xi < met.length := by rw [hR.met.len]; exact hxl
      have cb := hR.box.cell; have cs := hR.st.cell; have c0 := hR.res.cell; have f0 := hR.res.frozen
      obtain ⟨q1, q2⟩ := hR.row.cellI xi hxm
      rw [← atD_nat met xi hxm] at q1
      obtain ⟨v, hv⟩ : ∃ v, v = atD met xi := ⟨_, rfl⟩
      rw [← hv] at q1
      have HR := Lib.hid hR; have HMK2 := Lib.hid hmk; have HB := Lib.hid hB; have HV := Lib.hid hv
      have hmix : Try.prog.follows .mixedOrders = true := by kernel_rfl
      clear hx hR hmk hB hv hxm
      by_cases h1 : v = (s : Int)
      case pos =>
        subst h1
        have HIN : Hid ((xi : Int) ∈ pre) := Lib.hid ((HR.out.met.hit _).1 HV.out.symm)
        have HF : Hid (Boxed (W.drew.setCell ⟨g, 0, none⟩ (.bool true)) g 4 (.bool true) ∧ (∀ E ∈ ms, (W.drew.setCell ⟨g, 0, none⟩ (.bool true)).heap[E]? = some (.deferred (some []))) ∧ Below g w (W.drew.setCell ⟨g, 0, none⟩ (.bool true)) ∧ KeepsOthers W (W.drew.setCell ⟨g, 0, none⟩ (.bool true))) := Lib.hid
          ⟨(show Boxed W.drew g 4 (.bool false) from HR.out.res).set _, fun E hE => (Below.heap_setCell W.drew _ _ E (by have := (HMK.out E hE).1; have := HMB.out; simp; omega)).trans (HMK2.out E hE), HB.out.drew.setCell (p := ⟨g, 0, none⟩) (Nat.le_refl _) _, (KeepsOthers.drew W).trans (KeepsOthers.setCell _ _ _)⟩
        gi_wp2_with fail
        gi_region_with_o (fail)
        all_goals
          gi_wp2
          exact ⟨HF.out.2.2.2.from _, .inl ⟨rfl, ⟨pre, _, met, rfl, HIN.out, HR.out.met⟩, HF.out.1⟩, HF.out.2.1, HF.out.2.2.1⟩
      case neg =>
        have h1b : (v == (s : Int)) = false := by simpa using h1
        have HRD2 : Hid (Rd w W.drew g gr mb sb l s pre met) := Lib.hid ⟨HR.out.res, HR.out.box, HR.out.st, HR.out.row.on ((Below.refl _ _).drew), HR.out.met⟩
        have HNI : Hid ((xi : Int) ∉ pre) := Lib.hid fun hp => h1 (HV.out.trans ((HR.out.met.hit _).2 hp))
        clear h1
        by_cases h2 : 0 ≤ v
        case pos =>
          have HV2 : Hid (0 ≤ atD met xi) := Lib.hid (by rw [← HV.out]; exact h2)
          have HK : Hid (KeepsOthers W W.drew ∧ Below g w W.drew) := Lib.hid ⟨KeepsOthers.drew W, HB.out.drew⟩
          gi_wp2_with fail
          gi_region_with_o (fail)
          all_goals
            gi_wp2
            exact ⟨HK.out.1.from _, .inr ⟨rfl, pre, _, met, rfl, HRD2.out, HV2.out, HNI.out⟩, HMK2.out, HK.out.2⟩
        case neg =>
          have hneg : atD met xi < 0 := by rw [← HV.out]; omega
          have h2d : decide (0 ≤ v) = false := decide_eq_false h2
          obtain ⟨o9, g9⟩ := HRD2.out.row.storeI xi (s : Int)
          have HF : Hid (Rd w (W.drew.setCell ⟨gr, xi, none⟩ (.int .i64 (s : Nat))) g gr mb sb l s (pre ++ [(xi : Int)]) (met.set xi (s : Nat)) ∧ (∀ E ∈ ms, (W.drew.setCell ⟨gr, xi, none⟩ (.int .i64 (s : Nat))).heap[E]? = some (.deferred (some []))) ∧ Below g w (W.drew.setCell ⟨gr, xi, none⟩ (.int .i64 (s : Nat))) ∧ KeepsOthers W (W.drew.setCell ⟨gr, xi, none⟩ (.int .i64 (s : Nat))) ∧
              Below g W (W.drew.setCell ⟨gr, xi, none⟩ (.int .i64 (s : Nat))) ∧ (W.drew.setCell ⟨gr, xi, none⟩ (.int .i64 (s : Nat))).heap[bn]? = W.heap[bn]? ∧ (W.drew.setCell ⟨gr, xi, none⟩ (.int .i64 (s : Nat))).heap[bn + 1]? = W.heap[bn + 1]?) := Lib.hid (by
            have hnum := HNUM.out; have hmbb := HMB.out
            have hk : ∀ j, j ≠ gr → (W.drew.setCell ⟨gr, xi, none⟩ (.int .i64 (s : Nat))).heap[j]? = W.heap[j]? := fun j hj => Below.heap_setCell W.drew _ _ j (by simpa using hj)
            exact ⟨⟨(hk g (by omega)).trans HR.out.res, (hk mb (by omega)).trans HR.out.box, (hk sb (by omega)).trans HR.out.st, o9, HR.out.met.put hxl hneg⟩, fun E hE => (hk E (by have := (HMK.out E hE).1; omega)).trans (HMK2.out E hE), HB.out.drew.setCell (p := ⟨gr, xi, none⟩) (by simp; omega) _,
              (KeepsOthers.drew W).trans (KeepsOthers.setCell _ _ _), (Below.refl g W).drew.setCell (p := ⟨gr, xi, none⟩) (by simp; omega) _, hk bn (by omega), hk (bn + 1) (by omega)⟩)
          clear o9 g9 hneg
          gi_wp2_with fail
          gi_region_with_o (fail)
          all_goals
            gi_wp2
            exact ⟨HF.out.2.2.2.1.from _, ⟨HF.out.2.2.2.2.1, HF.out.2.2.2.2.2⟩, ⟨_, HF.out.1⟩, HF.out.2.1, HF.out.2.2.1⟩
    case done =>
      rintro Dd ys W hDd ⟨k, rfl, hin, hout⟩ ⟨⟨met2, hR⟩, hmk, hB⟩ hK
      have HL2 : Hid (LSt w W g gr mb l met2 (s + 1) (Dd :: ms)) := Lib.hid (by
        have hk0 : k ≠ 0 := fun e => by subst e; exact hout (show inN l (s : Int) by unfold inN; omega)
        have hv : 0 ≤ atD met2 s := by
          have h1 := (hR.met.hit (s : Int)).2 (List.mem_map.2 ⟨0, List.mem_range.2 (by omega), rfl⟩)
          omega
        have hnum := HNUM.out
        refine ⟨hR.res, hR.row, hR.box, hR.met.after (out_wl ⟨0, hout⟩) hv, List.nodup_cons.2 ⟨fun h => by have := (HMK.out Dd h).2.1; omega, HND.out⟩, fun E hE => ?_, hB⟩
        rcases List.mem_cons.1 hE with rfl | hE
        · exact ⟨by omega, hK⟩
        · exact ⟨(HMK.out E hE).1, hmk E hE⟩)
      clear hin hout hR hmk hB hK hDd
      gi_wp2
      refine ⟨⟨s + 1, met2, Dd :: ms, .pointer (some ⟨sb, 0, none⟩), .bool true, .int .i64 (s : Nat), .slice A l.length c, .int .i64 (s : Nat), .func (.func 76) #[] #[.pointer (some ⟨bn + 1, 0, none⟩), .pointer (some ⟨bn, 0, none⟩)], .int .i64 ((s : Int) + 1), by omega, HL2.out, ?_⟩, ?_⟩
      · rw [show ((s + 1 : Nat) : Int) = (s : Int) + 1 by omega]; rfl
      · simp [intOf]; omega
    case stop =>
      rintro Dd cd ps W hDd ⟨k, rfl, hin⟩ ⟨⟨rfl, ⟨q, x, met2, hq, hxq, hM⟩, hres⟩ | ⟨rfl, q, x, met2, hq, hR, h0, hnq⟩, hmk, hB⟩ hK
      · have HRB : Hid (b = true) := Lib.hid (by
          rw [wl_succ] at hq
          have hq2 := List.append_inj hq (by have h := congrArg List.length hq; simpa using h)
          have hx : x = itr l k (s : Int) := by have h := hq2.2; injection h with h; exact h.symm
          have hkl : k ≤ l.length := by have h := hM.few; rw [← hq2.1, wl_len] at h; exact h
          have hy := hM.rng x hxq
          rw [← hq2.1] at hxq
          obtain ⟨j, hj, hjx⟩ := List.mem_map.1 hxq
          have hj := List.mem_range.1 hj
          rw [← HLB.out]
          refine loopB_yes (d := k - j - 1) hy (by omega) ?_
          rw [← hjx, ← itr_add, show k - j - 1 + 1 + j = k by omega, ← hx, hjx])
        have HRES := Lib.hid hres; have HB := Lib.hid hB; have HK := Lib.hid hK; have HMK3 := Lib.hid hmk
        have HDD := Lib.hid hDd
        clear hq hxq hM hres hmk hB hK hDd hin
        gi_wp2
        refine leaves_marks g (Dd :: ms) _ (List.nodup_cons.2 ⟨fun h => by have := (HMK.out Dd h).2.1; have := HDD.out; omega, HND.out⟩) (fun E hE => ?_) fun W' hb hc => ⟨.bool true, ?_, by rw [HRB.out], ?_⟩
        · have hnum := HNUM.out; have hmbb := HMB.out; have hdd := HDD.out
          rcases List.mem_cons.1 hE with rfl | hE
          · exact ⟨by omega, HK.out⟩
          · exact ⟨by have := (HMK.out E hE).1; omega, HMK3.out E hE⟩
        · have h1 := hc ⟨g, 0, none⟩ (.bool true) HRES.out.cell
          simp [results, Try.f19, go_sem, h1]
        · rw [← HG.out]
          exact HB.out.trans hb
      · have HL2 : Hid (LSt w W g gr mb l met2 (s + 1) (Dd :: ms)) := Lib.hid (by
          rw [wl_succ] at hq
          have hq2 := List.append_inj hq (by have h := congrArg List.length hq; simpa using h)
          have hx : itr l k (s : Int) = x := by have h := hq2.2; injection h
          have hox : Out l x := hR.met.old x h0 hnq
          have hv : 0 ≤ atD met2 s := by
            by_cases e : k = 0
            · subst e; rw [← hx] at h0; exact h0
            · have h1 := (hR.met.hit (s : Int)).2 (by rw [← hq2.1]; exact List.mem_map.2 ⟨0, List.mem_range.2 (by omega), rfl⟩)
              omega
          have hnum := HNUM.out
          refine ⟨hR.res, hR.row, hR.box, hR.met.after (by rw [← hq2.1]; exact out_wl (by rw [hx]; exact hox)) hv, List.nodup_cons.2 ⟨fun h => by have := (HMK.out Dd h).2.1; omega, HND.out⟩, fun E hE => ?_, hB⟩
          rcases List.mem_cons.1 hE with rfl | hE
          · exact ⟨by omega, hK⟩
          · exact ⟨(HMK.out E hE).1, hmk E hE⟩)
        clear hin hq hR h0 hnq hmk hB hK hDd
        gi_wp2
        refine ⟨⟨s + 1, met2, Dd :: ms, .pointer (some ⟨sb, 0, none⟩), .bool true, .int .i64 (s : Nat), .slice A l.length c, .int .i64 (s : Nat), .func (.func 76) #[] #[.pointer (some ⟨bn + 1, 0, none⟩), .pointer (some ⟨bn, 0, none⟩)], .int .i64 ((s : Int) + 1), by omega, HL2.out, ?_⟩, ?_⟩
        · rw [show ((s + 1 : Nat) : Int) = (s : Int) + 1 by omega]; rfl
        · simp [intOf]; omega
end Go.Proofs.Ytjobjjmeneddnaa
