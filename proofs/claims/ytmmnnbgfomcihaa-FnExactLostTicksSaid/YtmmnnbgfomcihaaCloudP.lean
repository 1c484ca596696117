/- The program's CloudSpans and IsCovered. -/
import Derived.Test.YtmmnnbgfomcihaaCloudM
import Derived.Test.YtmmnnbgfomcihaaSpansOf
import Derived.Test.YtmmnnbgfomcihaaContact
import Derived.Deep.RegionHeld3
namespace Go.Proofs.Ytmmnnbgfomcihaa
open Go.ChangeShapes Go.WideShapes Go.ChangeAt Go.RowKit
set_option linter.unusedVariables false
theorem icspan (w : World) (p f t : Int) :
    Calls Try.prog 43 #[.agg #[.int .i64 p, .int .i64 f, .int .i64 t]] w fun e w' => e = .returned (.agg #[.int .i64 f, .int .i64 t]) ∧ Below w.heap.size w w' := by
  go_enter Try.func43, Try.ntmps43
  go_wp2
  (try simp only [Exit.inBlock, Exit.then])
  refine bodyPost_ret (v := .agg #[.int .i64 f, .int .i64 t]) (by simp [results, Try.results43, go_sem]; try rfl) rfl ⟨rfl, ?_⟩
  exact ((Below.refl _ _).alloc (Nat.le_refl _) _).alloc (by simp) _
set_option maxRecDepth 100000 in
set_option maxHeartbeats 1000000 in
theorem icloud (w : World) (D : Nat) (A : Option Addr) (n c : Nat) (l : List Tri) (h : Sl w D 3 A n c (fl c3 l)) (hD : D ≤ w.heap.size) (hn : n ≤ 16777216) (v : Int) :
    Calls Try.prog 19 #[.slice A n c, .int .i64 v] w (GivesS w (cloudS l v)) := by
  obtain ⟨i0, hi0, hy0, hy1, hy2⟩ := info_parts span_info
  obtain rfl := h.num c3_len (by omega)
  have HS := Lib.hid h
  have hcap := h.cap; have hcapm := h.capm
  clear h
  have hfirst : Hid (Own (w.alloc (.cells #[] 60)) w.heap.size 60 2 (some ⟨w.heap.size, 0, none⟩) 0 0 (sv (cloudL (l.take 0) v)) ∧ Below w.heap.size w (w.alloc (.cells #[] 60))) := Lib.hid ⟨Own.madeS w w.heap.size 2 _ (Nat.le_refl _), (Below.refl _ _).alloc (Nat.le_refl _) _⟩
  go_enter Try.func19, Try.ntmps19
  go_wp2_with fail
  go_loopw [5, 11] (fun o i wr => ∃ (k : Nat) (A1 : Option Addr) (n1 c1 : Nat), k ≤ l.length ∧ i = .int .i64 k ∧ o = .slice A1 n1 c1 ∧ Own wr w.heap.size 60 2 A1 n1 c1 (sv (cloudL (l.take k) v)) ∧ Below w.heap.size w wr) (fun _ i _ => l.length - (intOf i).toNat)
  case atStart => exact ⟨0, _, _, _, Nat.zero_le _, rfl, rfl, hfirst.out⟩
  case round =>
    clear hfirst
    obtain ⟨k, A1, n1, c1, hk, rfl, rfl, ho, hb⟩ := hrel
    have HO := Lib.hid ho; have HB := Lib.hid hb
    clear ho hb
    by_cases hlt : k < l.length
    case neg =>
      obtain rfl : k = l.length := by omega
      rw [List.take_length] at HO
      go_wp2_with fail
      refine (ijoin wr wr.heap.size A1 n1 c1 (cloudL l v) HO.out.sl (Nat.le_refl _)).mono ?_
      rintro e w4 ⟨A4, n4, c4', rfl, o4, b4⟩
      have HF : Hid (GivesS w (cloudS l v) (.returned (.slice A4 n4 c4')) w4) := Lib.hid ⟨_, _, _, rfl, o4.fewer HB.out.size, HB.out.trans (b4.mono HB.out.size)⟩
      clear o4 b4
      go_wp2
      go_ret
      exact HF.out
    case pos =>
      obtain ⟨ad, hx, rfl, had, c0, c1', c2'⟩ := (HS.out.below HB.out hD).tri hlt
      have HT := Lib.hid (cloudL_snoc l k hlt v)
      obtain ⟨z, hz⟩ : ∃ z, z = l[k] := ⟨_, rfl⟩
      rw [← hz] at HT c0 c1' c2'
      clear hz
      obtain ⟨p, f, t⟩ := z
      simp only at HT c0 c1' c2'
      have hk0 : (0 : Int) ≤ (k : Int) := by omega
      have hkl : (k : Int) < (l.length : Int) := by omega
      obtain ⟨L, hL⟩ : ∃ L, L = cloudL (l.take k) v := ⟨_, rfl⟩
      have hLn : L.length ≤ 16777216 := by
        rw [hL]
        have h1 := cloudL_len (l.take k) v
        rw [List.length_take] at h1; omega
      rw [← hL] at HO HT
      clear hL
      obtain ⟨W1, hW1⟩ : ∃ W, W = wr.alloc (.cells #[.int .i64 p, .int .i64 f, .int .i64 t] 67) := ⟨_, rfl⟩
      obtain ⟨G, hG⟩ : ∃ g, g = wr.heap.size := ⟨_, rfl⟩
      have Z1 : Hid (Blk W1 G 67 #[.int .i64 p, .int .i64 f, .int .i64 t]) := Lib.hid (by rw [hW1, hG]; exact Blk.new _ _ _)
      have b1 : Below wr.heap.size wr W1 := by rw [hW1]; exact (Below.refl _ _).alloc (Nat.le_refl _) _
      have HO1 := Lib.hid (HO.out.on b1); have HB1 := Lib.hid (HB.out.trans (b1.mono HB.out.size))
      go_upto_region 5 with fail
      rw [← hW1, ← hG]
      clear hW1 hG b1 HO c0 c1' c2'
      have c0 : W1.cell? ⟨G, 0, none⟩ = some (.int .i64 p) := Z1.out.cell 0
      have c1' : W1.cell? ⟨G, 1, none⟩ = some (.int .i64 f) := Z1.out.cell 1
      have c2' : W1.cell? ⟨G, 2, none⟩ = some (.int .i64 t) := Z1.out.cell 2
      by_cases hp : p = v
      case neg =>
        have hpb : (p == v) = false := by simp [hp]
        rw [if_neg hp] at HT
        have HF : Hid (Own W1 w.heap.size 60 2 A1 n1 c1 (sv (cloudL (l.take (k + 1)) v))) := Lib.hid (by rw [HT.out]; exact HO1.out)
        go_wp2_with fail
        go_roundw
        case rel => exact ⟨k + 1, A1, n1, c1, by omega, by go_num, rfl, HF.out, HB1.out⟩
        case measure => simp [intOf]; omega
      case pos =>
        subst hp
        rw [if_pos rfl] at HT
        have hn1 : n1 = L.length := by have h2 := HO1.out.len; rw [sv_len] at h2; omega
        have hb16 : (n1 + 1) * 16 ≤ 140737488355328 := by omega
        have HAPP : Hid (sv (cloudL (l.take (k + 1)) p) = sv L ++ [.int .i64 f, .int .i64 t]) := Lib.hid (by rw [HT.out, sv_app]; rfl)
        clear hn1
        go_wp2_with fail
        refine (icspan W1 p f t).mono ?_
        rintro e w2 ⟨rfl, b2⟩
        have b3 : Below w2.heap.size w2 (w2.alloc (.cells #[.int .i64 f, .int .i64 t] 60)) := (Below.refl _ _).alloc (Nat.le_refl _) _
        have HO3 := Lib.hid ((HO1.out.on b2).on b3); have HB2 := HB1.out.trans (b2.mono HB1.out.size)
        have HB3 := Lib.hid (HB2.trans (b3.mono HB2.size))
        have hsz : w.heap.size ≤ (w2.alloc (.cells #[.int .i64 f, .int .i64 t] 60)).heap.size := HB3.out.size
        clear b2 b3 HB2 HO1 HB1
        go_wp2_with (at_builtin; go_loud (refine wpList_append_sl _ rfl (.tmp 19) (.tmp 22) 35 rfl w.heap.size 60 i0 _ 2 16 Try.underlying35 hi0 hy0 hy1 hy2 rfl (by omega) A1 n1 c1 (sv L) rfl HO3.out (w2.heap.size + 1) _ 1 1 [.int .i64 f, .int .i64 t] rfl (Sl.one2 w2 _ _ _) (by simp [Value.oneCell']) (by omega) hb16 hsz ?_; intro A5 c5 w5 hown5 hg5 hat5; have HF : Hid (Own w5 w.heap.size 60 2 A5 (n1 + 1) c5 (sv (cloudL (l.take (k + 1)) p)) ∧ Below w.heap.size w w5) := Lib.hid ⟨by rw [HAPP.out]; exact hown5, HB3.out.grown hg5 HB3.out.size (fun j hj => (HO3.out.row.lt j hj).1)⟩; clear hown5 hg5 hat5))
        go_roundw
        case rel => exact ⟨k + 1, A5, n1 + 1, c5, by omega, by go_num, rfl, HF.out⟩
        case measure => simp [intOf]; omega
theorem covI_any (l : List Tri) (v t : Int) : covI l v t = l.any fun x => decide (x.p = v) && inS (x.a, x.b) t := by
  have h1 : covI l v t = inL (cloudL l v) t := by
    unfold covI cloudS
    exact inL_all _ _ id rfl (fun k => tk_join _ k) t
  rw [h1]
  unfold inL cloudL
  rw [List.any_map, List.any_filter]
  rfl
set_option maxRecDepth 100000 in
set_option maxHeartbeats 1000000 in
theorem icovered (w : World) (D : Nat) (A : Option Addr) (n c : Nat) (l : List Tri) (h : Sl w D 3 A n c (fl c3 l)) (hD : D ≤ w.heap.size) (hn : n ≤ 16777216) (v t : Int) (b : Bool) (hb : covI l v t = b) :
    Calls Try.prog 12 #[.slice A n c, .int .i64 v, .int .i64 t] w (Says w b) := by
  rw [covI_any] at hb
  obtain rfl := h.num c3_len (by omega)
  have HS := Lib.hid h
  have HBB := Lib.hid hb
  have hcap := h.cap; have hcapm := h.capm
  clear h hb
  go_enter Try.func12, Try.ntmps12
  go_wp2_with fail
  go_loopw [11] (fun i wr => ∃ k : Nat, k ≤ l.length ∧ i = .int .i64 k ∧ Hid ((l.take k).any (fun x => decide (x.p = v) && inS (x.a, x.b) t) = false) ∧ Below w.heap.size w wr) (fun i _ => l.length - (intOf i).toNat)
  case atStart => exact ⟨0, Nat.zero_le _, rfl, Lib.hid rfl, Below.refl _ _⟩
  case round =>
    obtain ⟨k, hk, rfl, hi, hbw⟩ := hrel
    by_cases hlt : k < l.length
    case neg =>
      obtain rfl : b = false := by rw [← HBB.out, ← hi.out, List.take_of_length_le (by omega)]
      have HF := Lib.hid hbw
      clear hi hbw
      go_wp2_with fail
      go_ret
      exact ⟨rfl, HF.out⟩
    case pos =>
      obtain ⟨ad, hx, rfl, had, c0, c1', c2'⟩ := (HS.out.below hbw hD).tri hlt
      obtain ⟨u, hu⟩ : ∃ u, (decide (l[k].p = v) && inS (l[k].a, l[k].b) t) = u := ⟨_, rfl⟩
      have HU := Lib.hid hu
      have HST : Hid ((l.take (k + 1)).any (fun x => decide (x.p = v) && inS (x.a, x.b) t) = u) := Lib.hid (by rw [List.take_succ_eq_append_getElem hx, List.any_append, hi.out, ← hu]; simp)
      have HT : Hid (u = true → b = true) := Lib.hid fun e => by
        rw [← HBB.out]
        exact List.any_eq_true.2 ⟨l[k], List.getElem_mem hx, by rw [hu, e]⟩
      obtain ⟨z, hz⟩ : ∃ z, z = l[k] := ⟨_, rfl⟩
      rw [← hz] at HU c0 c1' c2'
      clear hz hu
      obtain ⟨p, f, s⟩ := z
      simp only at HU c0 c1' c2'
      have hk0 : (0 : Int) ≤ (k : Int) := by omega
      have hkl : (k : Int) < (l.length : Int) := by omega
      obtain ⟨W1, hW1⟩ : ∃ W, W = wr.alloc (.cells #[.int .i64 p, .int .i64 f, .int .i64 s] 67) := ⟨_, rfl⟩
      obtain ⟨G, hG⟩ : ∃ g, g = wr.heap.size := ⟨_, rfl⟩
      have Z1 : Hid (Blk W1 G 67 #[.int .i64 p, .int .i64 f, .int .i64 s]) := Lib.hid (by rw [hW1, hG]; exact Blk.new _ _ _)
      have HB1 : Hid (Below w.heap.size w W1) := Lib.hid (by rw [hW1]; exact hbw.alloc hbw.size _)
      go_upto_region 4 with fail
      rw [← hW1, ← hG]
      clear hW1 hG c0 c1' c2' hi hbw
      have c0 : W1.cell? ⟨G, 0, none⟩ = some (.int .i64 p) := Z1.out.cell 0
      have c1' : W1.cell? ⟨G, 1, none⟩ = some (.int .i64 f) := Z1.out.cell 1
      have c2' : W1.cell? ⟨G, 2, none⟩ = some (.int .i64 s) := Z1.out.cell 2
      by_cases hp : p = v
      case neg =>
        have hpb : (p == v) = false := by simp [hp]
        obtain rfl : u = false := by rw [← HU.out]; simp [hp]
        go_wp2_with fail
        go_roundw
        case rel => exact ⟨k + 1, by omega, by go_num, HST, HB1.out⟩
        case measure => simp [intOf]; omega
      case pos =>
        subst hp
        have HI : Hid (inS (f, s) t = u) := Lib.hid (by rw [← HU.out]; simp)
        go_wp2_with fail
        refine (icspan W1 p f s).mono ?_
        rintro e w2 ⟨rfl, b2⟩
        have HB2 := Lib.hid (HB1.out.trans (b2.mono HB1.out.size))
        clear b2 HU
        go_wp2_with fail
        refine (iinspan w2 f s t u HI.out).mono ?_
        rintro e w3 ⟨rfl, b3⟩
        have HB3 := Lib.hid (HB2.out.trans (b3.mono HB2.out.size))
        clear b3
        cases u
        · go_wp2_with fail
          go_roundw
          case rel => exact ⟨k + 1, by omega, by go_num, HST, HB3.out⟩
          case measure => simp [intOf]; omega
        · obtain rfl := HT.out rfl
          go_wp2_with fail
          go_ret
          exact ⟨rfl, HB3.out⟩
end Go.Proofs.Ytmmnnbgfomcihaa
