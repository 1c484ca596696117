/- The model's DistancesTo. -/
import Derived.Test.YtjobjjmeneddnaaGraphM3
import Derived.Test.YtjobjjmeneddnaaBfs
import Derived.Test.YtjobjjmeneddnaaApart
import Derived.Test.YtjobjjmeneddnaaInts
import Derived.Deep.CutBlock
namespace Go.Proofs.Ytjobjjmeneddnaa
open Go.ChangeShapes Go.WideShapes Go.ChangeAt Go.RowKit
set_option linter.unusedVariables false
theorem iv_set (l : List Int) (k : Nat) (v : Int) : (iv l).set k (.int .i64 v) = iv (l.set k v) := by simp [iv, List.map_set]
/-- a store into a slice of one's own -/
theorem Own.storeI {w : World} {B : Nat} {E : TypeId} {g n c : Nat} {l : List Int} (h : Own w B E 1 (some ⟨g, 0, none⟩) n c (iv l)) (k : Nat) (v : Int) :
    Own (w.setCell ⟨g, k, none⟩ (.int .i64 v)) B E 1 (some ⟨g, 0, none⟩) n c (iv (l.set k v)) ∧ w.grownBy (w.setCell ⟨g, k, none⟩ (.int .i64 v)) (some g) := by
  have hs := h.row.stored k (.int .i64 v)
  rw [iv_set] at hs
  exact ⟨⟨hs.1⟩, hs.2⟩
theorem Own.cellI {w : World} {B : Nat} {E : TypeId} {g n c : Nat} {l : List Int} (h : Own w B E 1 (some ⟨g, 0, none⟩) n c (iv l)) (k : Nat) (hk : k < l.length) : w.cell? ⟨g, k, none⟩ = some (.int .i64 l[k]) ∧ w.frozen? ⟨g, k, none⟩ = false := by
  refine ⟨?_, ?_⟩
  · have h1 := h.row.cells (g := g) rfl k (.int .i64 l[k]) (by simp [iv, hk])
    have e : (⟨g, 0, none⟩ : Addr).add k = ⟨g, k, none⟩ := by unfold Addr.add; split <;> simp_all
    rwa [e] at h1
  · rcases h.row.2 with ⟨hv, _⟩ | ⟨g', cap, cur, hv, hb, hg, _⟩
    · simp at hv
    · simp at hv
      obtain ⟨rfl, _⟩ := hv
      simp [World.frozen?, hg]
theorem NotAt.app2 {g n c n2 c2 : Nat} {w : World} {A A2 : Option Addr} (h : NotAt g A) (hat : (Value.slice A2 n2 c2).ownBlock = (Value.slice A n c).ownBlock ∨ (Value.slice A2 n2 c2).ownBlock = some w.heap.size) (hg : g < w.heap.size) : NotAt g A2 := by
  intro a e
  subst e
  rcases hat with e | e
  · cases A with
    | none => cases e
    | some a0 =>
      simp only [Value.ownBlock, Option.some.injEq] at e
      rw [e]; exact h a0 rfl
  · simp only [Value.ownBlock, Option.some.injEq] at e
    omega
/-- an append leaves two rows apart -/
theorem app_apart {w : World} {B E s n c n1 c1 n2 c2 : Nat} {A A1 A2 : Option Addr} {xs : List Value} (ho : Own w B E s A n c xs)
    (hat : (Value.slice A2 n2 c2).ownBlock = (Value.slice A1 n1 c1).ownBlock ∨ (Value.slice A2 n2 c2).ownBlock = some w.heap.size)
    (h : (Value.slice A1 n1 c1).ownBlock = none ∨ (Value.slice A1 n1 c1).ownBlock ≠ (Value.slice A n c).ownBlock) (h' : (Value.slice A n c).ownBlock = none ∨ (Value.slice A n c).ownBlock ≠ (Value.slice A1 n1 c1).ownBlock) :
    ((Value.slice A2 n2 c2).ownBlock = none ∨ (Value.slice A2 n2 c2).ownBlock ≠ (Value.slice A n c).ownBlock) ∧ ((Value.slice A n c).ownBlock = none ∨ (Value.slice A n c).ownBlock ≠ (Value.slice A2 n2 c2).ownBlock) := by
  rcases hat with e | e
  · rw [e]; exact ⟨h, h'⟩
  · rw [e]
    rcases ho.blk with e2 | ⟨g, e2, _, hg⟩
    · rw [e2]; exact ⟨.inr (by simp), .inl rfl⟩
    · rw [e2]; exact ⟨.inr (by simp; omega), .inr (by simp; omega)⟩
theorem NotAt.row' {g : Nat} {A : Option Addr} (h : NotAt g A) (n c n' c' : Nat) : (Value.slice (some ⟨g, 0, none⟩) n' c').ownBlock = none ∨ (Value.slice (some ⟨g, 0, none⟩) n' c').ownBlock ≠ (Value.slice A n c).ownBlock := by
  right
  cases A with
  | none => simp [Value.ownBlock]
  | some a => simp only [Value.ownBlock]; intro e; injection e with e; exact h a rfl e.symm
theorem NotAt.row {g : Nat} {A : Option Addr} (h : NotAt g A) (n c : Nat) : (Value.slice A n c).ownBlock = none ∨ (Value.slice A n c).ownBlock ≠ some g := by
  cases A with
  | none => exact .inl rfl
  | some a => exact .inr fun e => h a rfl (by simpa [Value.ownBlock] using e)
/-- a function on paths asks for nodes in 1 to 12 and a destination among them -/
def okP (nodes dst : Int) : Bool := decide ((1 ≤ nodes ∧ nodes ≤ 12) ∧ 0 ≤ dst ∧ dst ≤ nodes - 1)
noncomputable def distA (L : List (Int × Int)) (nodes f dst : Int) : List Int := if okP nodes dst = true then distL L nodes.toNat f dst else []
theorem sok (nodes dst : Int) (b : Bool) (hb : okP nodes dst = b) (w : World) :
    Calls Try.prog 61 #[.int .i64 nodes, .int .i64 dst] w fun e w' => e = .returned (.bool b) ∧ w = w' := by
  have HB := Lib.hid hb
  clear hb
  by_cases h1 : 1 ≤ nodes ∧ nodes ≤ 12
  case neg =>
    obtain rfl : b = false := by rw [← HB.out]; exact decide_eq_false fun h => h1 h.1
    go_enter Try.func61, Try.ntmps61
    go_wp2_with fail
    refine (sinr_f nodes 1 12 _ h1).mono ?_
    rintro e w1 ⟨rfl, rfl⟩
    clear h1
    go_wp2_with fail
    go_ret
    exact ⟨rfl, rfl⟩
  case pos =>
    obtain ⟨h2, h3⟩ := h1
    by_cases h4 : 0 ≤ dst ∧ dst ≤ nodes - 1
    case neg =>
      obtain rfl : b = false := by rw [← HB.out]; exact decide_eq_false fun h => h4 (by omega)
      have H4 := Lib.hid h4
      clear h4
      go_enter Try.func61, Try.ntmps61
      go_wp2_with fail
      refine (sinr_t nodes 1 12 _ h2 h3).mono ?_
      rintro e w1 ⟨rfl, rfl⟩
      go_wp2_with fail
      refine (sinr_f dst 0 (nodes - 1) _ H4.out).mono ?_
      rintro e w2 ⟨rfl, rfl⟩
      go_wp2_with fail
      go_ret
      exact ⟨rfl, rfl⟩
    case pos =>
      obtain rfl : b = true := by rw [← HB.out]; exact decide_eq_true ⟨⟨h2, h3⟩, h4⟩
      obtain ⟨h5, h6⟩ := h4
      go_enter Try.func61, Try.ntmps61
      go_wp2_with fail
      refine (sinr_t nodes 1 12 _ h2 h3).mono ?_
      rintro e w1 ⟨rfl, rfl⟩
      go_wp2_with fail
      refine (sinr_t dst 0 (nodes - 1) _ h5 h6).mono ?_
      rintro e w2 ⟨rfl, rfl⟩
      go_wp2_with fail
      go_ret
      exact ⟨rfl, rfl⟩
set_option maxRecDepth 100000 in
set_option maxHeartbeats 2000000 in
theorem sdistX (w : World) (D : Nat) (A : Option Addr) (n c : Nat) (l : List (Int × Int)) (h : Sl w D 2 A n c (sv l)) (hD : D ≤ w.heap.size) (hn : n ≤ 16777216) (nodes f dst : Int) (hj : J64 nodes ∧ J64 f ∧ J64 dst) :
    Calls Try.prog 56 #[.slice A n c, .int .i64 nodes, .int .i64 f, .int .i64 dst] w (fun e w' => GivesIM w (distA l nodes f dst) e w' ∧ (okP nodes dst = true → IsDist l nodes.toNat f dst (distA l nodes f dst))) := by
  obtain ⟨i0, hi0, hy0, hy1, hy2⟩ := info_parts intK_info
  have HS := Lib.hid h; have HJ := Lib.hid hj
  clear h hj
  obtain ⟨b, hb⟩ : ∃ b, okP nodes dst = b := ⟨_, rfl⟩
  have HB := Lib.hid hb
  clear hb
  go_enter Try.func56, Try.ntmps56
  go_wp2_with fail
  refine (sok nodes dst b HB.out w).mono ?_
  rintro e w1 ⟨rfl, rfl⟩
  cases b
  case false =>
    have HR : Hid (GivesIM w (distA l nodes f dst) (.returned (.slice (some ⟨w.heap.size, 0, none⟩) 0 0)) (w.alloc (.cells #[] 3))) := Lib.hid ⟨_, _, _, rfl, by
      unfold distA
      rw [if_neg (by rw [HB.out]; simp)]
      exact Own.made1 w w.heap.size _ (Nat.le_refl _), (Below.refl _ _).alloc (Nat.le_refl _) _⟩
    clear hi0 hy0 hy1 hy2
    go_wp2_with fail
    go_ret
    exact ⟨HR.out, fun h => by rw [HB.out] at h; cases h⟩
  case true =>
    have hok : (1 ≤ nodes ∧ nodes ≤ 12) ∧ 0 ≤ dst ∧ dst ≤ nodes - 1 := of_decide_eq_true HB.out
    obtain ⟨N, hN⟩ : ∃ N : Nat, (N : Int) = nodes := ⟨nodes.toNat, by omega⟩
    obtain ⟨s, hs⟩ : ∃ s : Nat, (s : Int) = dst := ⟨dst.toNat, by omega⟩
    subst hN hs
    have hN1 : 1 ≤ N ∧ N ≤ 12 := by omega
    have hs1 : s < N := by omega
    have HDA : Hid (distA l (N : Int) f (s : Int) = distL l N f s) := Lib.hid (by unfold distA; rw [if_pos HB.out]; simp)
    clear hok HB
    obtain ⟨W1, hW1⟩ : ∃ W, W = w.alloc (.cells #[] 3) := ⟨_, rfl⟩
    obtain ⟨g0, hg0⟩ : ∃ g, g = w.heap.size := ⟨_, rfl⟩
    have hfirst : Hid (Own W1 w.heap.size 3 1 (some ⟨g0, 0, none⟩) 0 0 (iv (List.replicate 0 (-1))) ∧ Below w.heap.size w W1) := Lib.hid (by rw [hW1, hg0]; exact ⟨Own.made1 w w.heap.size _ (Nat.le_refl _), (Below.refl _ _).alloc (Nat.le_refl _) _⟩)
    go_wp2_with fail
    rw [← hW1, ← hg0]
    clear hW1 hg0
    go_loopw [9, 10] (fun o i wr => ∃ (k : Nat) (A1 : Option Addr) (c1 : Nat), k ≤ N ∧ i = .int .i64 k ∧ o = .slice A1 k c1 ∧ Own wr w.heap.size 3 1 A1 k c1 (iv (List.replicate k (-1))) ∧ Below w.heap.size w wr) (fun _ i _ => N - (intOf i).toNat)
    case atStart => exact ⟨0, _, _, Nat.zero_le _, rfl, rfl, hfirst.out⟩
    case round =>
      clear hfirst
      obtain ⟨k, A1, c1, hk, rfl, rfl, ho, hb⟩ := hrel
      have HO := Lib.hid ho; have HB := Lib.hid hb
      clear ho hb
      have hk0 : (0 : Int) ≤ (k : Int) := by omega
      by_cases hlt : k < N
      case pos =>
        have hkl : (k : Int) < (N : Int) := by omega
        have HAPP : Hid (iv (List.replicate (k + 1) (-1)) = iv (List.replicate k (-1)) ++ [.int .i64 (-1)]) := Lib.hid (by rw [List.replicate_succ', iv_snoc])
        have b5 : Below wr.heap.size wr (wr.alloc (.cells #[.int .i64 (-1)] 3)) := (Below.refl _ _).alloc (Nat.le_refl _) _
        have HO5 := Lib.hid (HO.out.on b5); have HB5 := Lib.hid (HB.out.trans (b5.mono HB.out.size))
        have hsz : w.heap.size ≤ (wr.alloc (.cells #[.int .i64 (-1)] 3)).heap.size := HB5.out.size
        have hb8 : (k + 1) * 8 ≤ 140737488355328 := by omega
        clear b5 HO HB
        go_wp2_with (at_builtin; go_loud (refine wpList_append_sl _ rfl (.tmp 27) (.tmp 28) 27 rfl w.heap.size 3 i0 _ 1 8 Try.underlying27 hi0 hy0 hy1 hy2 rfl (by omega) A1 k c1 (iv (List.replicate k (-1))) rfl HO5.out (wr.heap.size + 1) _ 1 1 [.int .i64 (-1)] rfl (Sl.one wr _ _) (by simp [Value.oneCell']) (by omega) hb8 hsz ?_; intro A5 c5 w5 hown5 hg5 hat5; have HF : Hid (Own w5 w.heap.size 3 1 A5 (k + 1) c5 (iv (List.replicate (k + 1) (-1))) ∧ Below w.heap.size w w5) := Lib.hid ⟨by rw [HAPP.out]; exact hown5, HB5.out.grown hg5 HB5.out.size (fun j hj => (HO5.out.row.lt j hj).1)⟩; clear hown5 hg5 hat5))
        go_roundw
        case rel => exact ⟨k + 1, A5, c5, by omega, by go_num, rfl, HF.out⟩
        case measure => simp [intOf]; omega
      case neg =>
        obtain rfl : N = k := by omega
        rcases HO.out.form with ⟨_, e, _⟩ | ⟨gd, rfl, hgd0, hgd1, hgd2, hgd3⟩
        · omega
        have HGD : Hid (w.heap.size ≤ gd ∧ gd < wr.heap.size) := Lib.hid ⟨hgd0, hgd1⟩
        obtain ⟨x0, x1⟩ := HO.out.cellI s (by simpa using hs1)
        have hst := HO.out.storeI s 0
        obtain ⟨W2, hW2⟩ : ∃ W, W = wr.setCell ⟨gd, s, none⟩ (.int .i64 0) := ⟨_, rfl⟩
        have hsz2 : W2.heap.size = wr.heap.size := by rw [hW2]; simp
        rw [← hW2] at hst
        obtain ⟨d0, hd0⟩ : ∃ d, d = (List.replicate N (-1)).set s 0 := ⟨_, rfl⟩
        rw [← hd0] at hst
        have HBF : Hid (Bfs l N f s d0 [(s : Int)] 0) := Lib.hid (by rw [hd0]; exact Bfs.start (L := l) (n := N) (f := f) (dst := (s : Int)) ⟨by omega, by omega⟩)
        have HUP0 : Hid (∀ y, atD d0 y ≤ ((0 : Nat) : Int)) := Lib.hid fun y => by
          rw [hd0, show s = (s : Int).toNat by omega, atD_set _ _ _ _ (by omega) (by simp; omega), atD_rep]; split <;> omega
        have HO2 := Lib.hid hst.1
        have HB2 : Hid (Below w.heap.size w W2) := Lib.hid (HB.out.grown hst.2 HB.out.size (fun j hj => by injection hj with hj; rw [← hj]; exact hgd0))
        have hx0 : (0 : Int) ≤ (s : Int) := by omega
        have hxl : (s : Int) < (N : Int) := by omega
        clear hst hd0 HO HB hgd0 hgd1 hgd2 hgd3
        have HSZ := Lib.hid hsz2
        clear hsz2
        go_upto_region 9 with fail
        rw [← hW2]
        clear hW2
        obtain ⟨W3, hW3⟩ : ∃ W, W = W2.alloc (.cells #[.int .i64 (s : Int)] 3) := ⟨_, rfl⟩
        obtain ⟨g3, hg3⟩ : ∃ g, g = W2.heap.size := ⟨_, rfl⟩
        have b3 : Below W2.heap.size W2 W3 := by rw [hW3]; exact (Below.refl _ _).alloc (Nat.le_refl _) _
        have HF0 : Hid (Own W3 w.heap.size 3 1 (some ⟨gd, 0, none⟩) N c1 (iv d0) ∧ Own W3 w.heap.size 3 1 (some ⟨g3, 0, none⟩) [(s : Int)].length 1 (iv [(s : Int)]) ∧ NotAt gd (some ⟨g3, 0, none⟩) ∧ Below w.heap.size w W3) := Lib.hid ⟨HO2.out.on b3, by
          have h1 := Own.lit W2 w.heap.size 3 #[.int .i64 (s : Int)] 1 HB2.out.size (by omega) rfl
          rw [hW3, hg3]; exact h1, fun ad e => by injection e with e; subst e; have := HGD.out; have := HSZ.out; simp; omega, HB2.out.trans (b3.mono HB2.out.size)⟩
        have HGD3 : Hid (w.heap.size ≤ gd) := Lib.hid HGD.out.1
        clear b3 HO2 HB2 HGD HSZ x0 x1 hx0 hxl
        go_upto_region 10 with fail
        rw [← hW3, ← hg3]
        clear hW3 hg3
        go_wp2_with fail
        go_loopw [11, 12, 13, 14, 15] (fun td kv av nv iv_ wr => ∃ (k : Nat) (d todo : List Int) (At : Option Addr) (ct : Nat), k ≤ todo.length ∧ kv = .int .i64 k ∧ td = .slice At todo.length ct ∧ Own wr w.heap.size 3 1 (some ⟨gd, 0, none⟩) N c1 (iv d) ∧ Own wr w.heap.size 3 1 At todo.length ct (iv todo) ∧ NotAt gd At ∧ Bfs l N f s d todo k ∧ (∀ y, atD d y ≤ k) ∧ Below w.heap.size w wr) (fun _ kv _ _ _ _ => N - (intOf kv).toNat)
        case atStart => exact ⟨0, d0, [(s : Int)], _, _, Nat.zero_le _, rfl, rfl, HF0.out.1, HF0.out.2.1, HF0.out.2.2.1, HBF.out, HUP0.out, HF0.out.2.2.2⟩
        case round =>
          clear HF0 HBF HUP0
          obtain ⟨k, d, todo, At, ct, hk, rfl, rfl, hod, hot, hna, hbf, hup, hb⟩ := hrel
          have HOD := Lib.hid hod; have HOT := Lib.hid hot; have HNA := Lib.hid hna; have HBF := Lib.hid hbf; have HUP := Lib.hid hup; have HB := Lib.hid hb
          have hfew : todo.length ≤ N := hbf.few
          clear hod hot hna hbf hup hb
          obtain ⟨m, hm⟩ : ∃ m, m = todo.length := ⟨_, rfl⟩
          by_cases hlt : k < todo.length
          case neg =>
            have hkm : k = todo.length := by omega
            have HR : Hid (GivesIM w (distA l (N : Int) f (s : Int)) (.returned (.slice (some ⟨gd, 0, none⟩) N c1)) wr) := Lib.hid ⟨_, _, _, rfl, by
              have h1 := HBF.out
              rw [hkm] at h1
              rw [HDA.out, h1.fin.eq]; exact HOD.out, HB.out⟩
            have HDI : Hid (IsDist l (N : Int).toNat f (s : Int) (distA l (N : Int) f (s : Int))) := Lib.hid (by
              have h1 := HBF.out
              rw [hkm] at h1
              rw [HDA.out, h1.fin.eq]
              simpa using h1.fin)
            have hk2 : ¬ ((k : Int) < (todo.length : Int)) := by omega
            clear hkm hm
            clear hi0 hy0 hy1 hy2
            go_wp2_with fail
            go_ret
            exact ⟨HR.out, fun _ => HDI.out⟩
          case pos =>
            clear hm
            have hk0 : (0 : Int) ≤ (k : Int) := by omega
            have hkl : (k : Int) < (todo.length : Int) := by omega
            obtain ⟨ad, hx, rfl, had, q0⟩ := HOT.out.sl.int hlt
            have hin := HBF.out.lt (List.getElem_mem hlt)
            have hget : todo[k]? = some todo[k] := List.getElem?_eq_getElem hlt
            obtain ⟨ai, hai⟩ : ∃ ai : Nat, (ai : Int) = todo[k] := ⟨todo[k].toNat, by omega⟩
            rw [← hai] at q0 hin hget
            have HGET := Lib.hid hget
            have hain : ai < N := by omega
            clear hai hget hin
            obtain ⟨rb, hrb⟩ : ∃ rb, decide (Rel f s ai) = rb := ⟨_, rfl⟩
            have HRB := Lib.hid hrb
            clear hrb
            go_upto_region 14 with fail
            go_cut [52] from 45 to 52 (fun v wx => v = .bool (!rb) ∧ wx = wr)
            case first =>
              by_cases h1 : ai = s
              · subst h1
                obtain rfl : rb = true := by rw [← HRB.out]; exact decide_eq_true (.inr rfl)
                go_wp2_with fail
                go_meet
                exact ⟨rfl, rfl⟩
              · have h2 : ((ai : Int) != (s : Int)) = true := by simp; omega
                by_cases h3 : (ai : Int) < f
                · obtain rfl : rb = true := by rw [← HRB.out]; exact decide_eq_true (.inl h3)
                  have h4 : decide (f ≤ (ai : Int)) = false := by simp; omega
                  clear h1
                  go_wp2_with fail
                  go_meet
                  exact ⟨rfl, rfl⟩
                · obtain rfl : rb = false := by rw [← HRB.out]; exact decide_eq_false (fun h => by rcases h with h | h <;> omega)
                  have h4 : decide (f ≤ (ai : Int)) = true := by simp; omega
                  clear h1 h3
                  go_wp2_with fail
                  go_meet
                  exact ⟨rfl, rfl⟩
            case rest =>
              obtain ⟨rfl, rfl⟩ := hcut
              cases rb
              case false =>
                have HN : Hid (Bfs l N f s d todo (k + 1) ∧ ∀ y, atD d y ≤ ((k + 1 : Nat) : Int)) := Lib.hid ⟨HBF.out.next HGET.out (fun hr => absurd hr (of_decide_eq_false HRB.out)), fun y => by have := HUP.out y; omega⟩
                go_wp2_with fail
                go_roundw
                case rel => exact ⟨k + 1, d, todo, some ad, ct, by omega, by go_num, rfl, HOD.out, HOT.out, HNA.out, HN.out.1, HN.out.2, HB.out⟩
                case measure => simp [intOf]; omega
              case true =>
                go_wp2_with fail
                refine (snb wc D A n c l (HS.out.below HB.out hD) (Nat.le_trans hD HB.out.size) hn ai).mono ?_
                rintro e w2 ⟨An, nn, cn, rfl, on, bn⟩
                obtain ⟨NB, hNB⟩ : ∃ L, L = nbL l ai := ⟨_, rfl⟩
                rw [← hNB] at on
                have hnn : nn = NB.length := by have h1 := on.len; rw [iv_len] at h1; omega
                subst hnn
                have HNBE := Lib.hid hNB
                have hnbl : NB.length ≤ 16777216 := by rw [hNB]; have h1 := nbL_len l ai; have h2 := HS.out.len; rw [sv_len] at h2; omega
                have hcapn := on.capm
                have HREL : Hid (Rel f s ai) := Lib.hid (of_decide_eq_true HRB.out)
                have hgd : gd < wc.heap.size := (HOD.out.row.lt gd rfl).2
                have hap := HOT.out.apart on (Nat.le_refl _); have hap' := HOT.out.apart' on (Nat.le_refl _)
                have HI0 : Hid (Own w2 w.heap.size 3 1 (some ⟨gd, 0, none⟩) N c1 (iv d) ∧ Own w2 w.heap.size 3 1 (some ad) todo.length ct (iv todo) ∧ NotAt gd (some ad) ∧ Own w2 w.heap.size 3 1 An NB.length cn (iv NB) ∧ NotAt gd An ∧ ((Value.slice (some ad) todo.length ct).ownBlock = none ∨ (Value.slice (some ad) todo.length ct).ownBlock ≠ (Value.slice An NB.length cn).ownBlock) ∧ ((Value.slice An NB.length cn).ownBlock = none ∨ (Value.slice An NB.length cn).ownBlock ≠ (Value.slice (some ad) todo.length ct).ownBlock) ∧ Below w.heap.size w w2) := Lib.hid ⟨HOD.out.on bn, HOT.out.on bn, HNA.out, on.fewer HB.out.size, on.low hgd, hap, hap', HB.out.trans (bn.mono HB.out.size)⟩
                have HBF0 := HBF; have HUP0' := HUP; have HGET0 := HGET
                clear hNB on bn hap hap' hgd HOD HOT HNA HB HRB q0 hkl
                go_wp2_with fail
                go_loopw [11, 15] (fun td iv_ wx => ∃ (i : Nat) (d todo : List Int) (At : Option Addr) (ct : Nat), i ≤ NB.length ∧ iv_ = .int .i64 i ∧ td = .slice At todo.length ct ∧ Own wx w.heap.size 3 1 (some ⟨gd, 0, none⟩) N c1 (iv d) ∧ Own wx w.heap.size 3 1 At todo.length ct (iv todo) ∧ NotAt gd At ∧ Own wx w.heap.size 3 1 An NB.length cn (iv NB) ∧ NotAt gd An ∧ ((Value.slice At todo.length ct).ownBlock = none ∨ (Value.slice At todo.length ct).ownBlock ≠ (Value.slice An NB.length cn).ownBlock) ∧ ((Value.slice An NB.length cn).ownBlock = none ∨ (Value.slice An NB.length cn).ownBlock ≠ (Value.slice At todo.length ct).ownBlock) ∧ Bfs l N f s d todo k ∧ todo[k]? = some (ai : Int) ∧ (∀ y, atD d y ≤ k + 1) ∧ atD d ai ≤ k ∧ (∀ x ∈ NB.take i, 0 ≤ x → x < N → 0 ≤ atD d x) ∧ Below w.heap.size w wx) (fun _ iv_ _ => NB.length - (intOf iv_).toNat)
                case atStart => exact ⟨0, d, todo, some ad, ct, Nat.zero_le _, rfl, rfl, HI0.out.1, HI0.out.2.1, HI0.out.2.2.1, HI0.out.2.2.2.1, HI0.out.2.2.2.2.1, HI0.out.2.2.2.2.2.1, HI0.out.2.2.2.2.2.2.1, HBF.out, HGET.out, fun y => by have := HUP.out y; omega, HUP.out _, fun x hx => by simp at hx, HI0.out.2.2.2.2.2.2.2⟩
                case round =>
                  clear HI0 HBF0 HUP0' HGET0 HBF HUP HGET hfew hlt hx had
                  obtain ⟨i, d, todo, At, ct, hi, rfl, rfl, hod, hot, hna, hon, hnn, hap, hap', hbf, hget, hup, hak, hall, hb⟩ := hrel
                  have HOD := Lib.hid hod; have HOT := Lib.hid hot; have HNA := Lib.hid hna; have HON := Lib.hid hon; have HNN := Lib.hid hnn; have HAP := Lib.hid hap; have HAP' := Lib.hid hap'; have HBF := Lib.hid hbf; have HGET := Lib.hid hget; have HUP := Lib.hid hup; have HAK := Lib.hid hak; have HALL := Lib.hid hall; have HB := Lib.hid hb
                  have hfew : todo.length ≤ N := hbf.few
                  have hklt : k < todo.length := (List.getElem?_eq_some_iff.1 hget).1
                  clear hod hot hna hon hnn hap hap' hbf hget hup hak hall hb
                  have hi00 : (0 : Int) ≤ (i : Int) := by omega
                  by_cases hlt : i < NB.length
                  case neg =>
                    obtain rfl : i = NB.length := by omega
                    have HN : Hid (Bfs l N f s d todo (k + 1) ∧ ∀ y, atD d y ≤ ((k + 1 : Nat) : Int)) := Lib.hid ⟨HBF.out.next HGET.out (fun hr i h0 h1 hi => HALL.out i (by rw [List.take_length, HNBE.out]; exact hi) h0 h1), fun y => by have := HUP.out y; omega⟩
                    go_wp2_with fail
                    go_roundw
                    case rel => exact ⟨k + 1, d, todo, At, ct, by omega, by go_num, rfl, HOD.out, HOT.out, HNA.out, HN.out.1, HN.out.2, HB.out⟩
                    case measure => simp [intOf]; omega
                  case pos =>
                    obtain ⟨na, hx, rfl, had, q0⟩ := HON.out.sl.int hlt
                    have HTK : Hid (NB.take (i + 1) = NB.take i ++ [NB[i]]) := Lib.hid (List.take_succ_eq_append_getElem hlt)
                    have HXM : Hid (NB[i] ∈ nbL l ai) := Lib.hid (by rw [← HNBE.out]; exact List.getElem_mem hlt)
                    obtain ⟨x, hxx⟩ : ∃ x, x = NB[i] := ⟨_, rfl⟩
                    rw [← hxx] at q0 HTK HXM
                    have HXE : Hid (NB[i] = x) := Lib.hid hxx.symm
                    clear hxx
                    have hil : (i : Int) < (NB.length : Int) := by omega
                    by_cases hin : 0 ≤ x ∧ x ≤ (N : Int) - 1
                    case neg =>
                      have HALL2 : Hid (∀ y ∈ NB.take (i + 1), 0 ≤ y → y < N → 0 ≤ atD d y) := Lib.hid fun y hy h0 h1 => by
                        rw [HTK.out] at hy
                        rcases List.mem_append.1 hy with hy | hy
                        · exact HALL.out y hy h0 h1
                        · obtain rfl := List.mem_singleton.1 hy
                          exact absurd ⟨h0, by omega⟩ hin
                      have HIN := Lib.hid hin
                      clear hin
                      go_wp2_with fail
                      refine (sinr_f x 0 ((N : Int) - 1) _ HIN.out).mono ?_
                      rintro e w5 ⟨rfl, rfl⟩
                      go_wp2_with fail
                      go_roundw
                      case rel => exact ⟨i + 1, d, todo, At, ct, by omega, by go_num, rfl, HOD.out, HOT.out, HNA.out, HON.out, HNN.out, HAP.out, HAP'.out, HBF.out, HGET.out, HUP.out, HAK.out, HALL2.out, HB.out⟩
                      case measure => simp [intOf]; omega
                    case pos =>
                      obtain ⟨xi, rfl⟩ : ∃ xi : Nat, (xi : Int) = x := ⟨x.toNat, by omega⟩
                      have hxN : xi < N := by omega
                      have hdl : d.length = N := HBF.out.len
                      obtain ⟨p0, p1⟩ := HOD.out.cellI xi (by omega)
                      rw [← atD_nat d xi (by omega)] at p0
                      obtain ⟨v, hv⟩ : ∃ v, v = atD d xi := ⟨_, rfl⟩
                      rw [← hv] at p0
                      have HV := Lib.hid hv
                      clear hv hdl
                      obtain ⟨h0, h1⟩ := hin
                      have hxi : (xi : Int) < (N : Int) := by omega
                      by_cases hneg : v < 0
                      case neg =>
                        have HALL2 : Hid (∀ y ∈ NB.take (i + 1), 0 ≤ y → y < N → 0 ≤ atD d y) := Lib.hid fun y hy h0 h1 => by
                          rw [HTK.out] at hy
                          rcases List.mem_append.1 hy with hy | hy
                          · exact HALL.out y hy h0 h1
                          · obtain rfl := List.mem_singleton.1 hy
                            rw [← HV.out]; omega
                        have hd : decide (v < 0) = false := decide_eq_false hneg
                        clear hneg
                        go_wp2_with fail
                        refine (sinr_t (xi : Int) 0 ((N : Int) - 1) _ h0 h1).mono ?_
                        rintro e w5 ⟨rfl, rfl⟩
                        go_wp2_with fail
                        go_roundw
                        case rel => exact ⟨i + 1, d, todo, At, ct, by omega, by go_num, rfl, HOD.out, HOT.out, HNA.out, HON.out, HNN.out, HAP.out, HAP'.out, HBF.out, HGET.out, HUP.out, HAK.out, HALL2.out, HB.out⟩
                        case measure => simp [intOf]; omega
                      case pos =>
                        have hain2 := HBF.out.lt (List.mem_of_getElem? HGET.out)
                        have hdl : d.length = N := HBF.out.len
                        obtain ⟨r0, -⟩ := HOD.out.cellI ai (by omega)
                        rw [← atD_nat d ai (by omega)] at r0
                        obtain ⟨va, hva⟩ : ∃ v, v = atD d ai := ⟨_, rfl⟩
                        have hvb : 0 ≤ va ∧ va ≤ 12 := by
                          rw [hva]
                          have h2 := HAK.out
                          have h3 := (HBF.out.mem _).1 (List.mem_of_getElem? HGET.out)
                          omega
                        rw [← hva] at r0
                        have HVA := Lib.hid hva
                        have hva0 := hvb.1; have hva1 := hvb.2
                        have ha0 : (0 : Int) ≤ (ai : Int) := by omega
                        have hal : (ai : Int) < (N : Int) := by omega
                        clear hva hain2 hdl hvb
                        go_wp2_with fail
                        refine (sinr_t (xi : Int) 0 ((N : Int) - 1) _ h0 h1).mono ?_
                        rintro e w5 ⟨rfl, rfl⟩
                        obtain ⟨W6, hW6⟩ : ∃ W, W = (wr.setCell ⟨gd, xi, none⟩ (.int .i64 (va + 1))).drew := ⟨_, rfl⟩
                        have bd : Below (wr.setCell ⟨gd, xi, none⟩ (.int .i64 (va + 1))).heap.size (wr.setCell ⟨gd, xi, none⟩ (.int .i64 (va + 1))) W6 := by rw [hW6]; exact (Below.refl _ _).drew
                        have hst := HOD.out.storeI xi (va + 1)
                        have hs6 : W6.heap.size = wr.heap.size := by rw [hW6]; simp [World.drew]
                        have HOD6 := Lib.hid (hst.1.on bd); have HOT6 := Lib.hid ((HOT.out.ne_ (a := ⟨gd, xi, none⟩) HNA.out (.int .i64 (va + 1))).on bd); have HON6 := Lib.hid ((HON.out.ne_ (a := ⟨gd, xi, none⟩) HNN.out (.int .i64 (va + 1))).on bd)
                        have HB6 : Hid (Below w.heap.size w W6) := Lib.hid (by
                          have h1 : Below w.heap.size w (wr.setCell ⟨gd, xi, none⟩ (.int .i64 (va + 1))) := HB.out.setCell HGD3.out _
                          exact h1.trans (bd.mono h1.size))
                        obtain ⟨na', hx', ena, had', q6⟩ := HON6.out.sl.int hlt
                        injection ena with ena
                        subst ena
                        rw [HXE.out] at q6
                        have hdl : d.length = N := HBF.out.len
                        have hsd : ∀ y, atD (d.set (xi : Int).toNat (atD d ai + 1)) y = if y = (xi : Int) then atD d ai + 1 else atD d y := fun y => atD_set d _ _ y h0 (by omega)
                        have HBF2 : Hid (Bfs l N f s (d.set xi (va + 1)) (todo ++ [(xi : Int)]) k ∧ (todo ++ [(xi : Int)])[k]? = some (ai : Int) ∧ (∀ y, atD (d.set xi (va + 1)) y ≤ k + 1) ∧ atD (d.set xi (va + 1)) ai ≤ k ∧ ∀ y ∈ NB.take (i + 1), 0 ≤ y → y < N → 0 ≤ atD (d.set xi (va + 1)) y) := Lib.hid (by
                          have hva2 := HVA.out; have hv2 := HV.out; have hak := HAK.out
                          rw [show d.set xi (va + 1) = d.set (xi : Int).toNat (atD d ai + 1) by rw [hva2]; simp]
                          refine ⟨HBF.out.put HGET.out ⟨h0, hxi⟩ (by omega) HXM.out HREL.out, get_old HGET.out, fun y => ?_, ?_, fun y hy hy0 hy1 => ?_⟩
                          · rw [hsd]; split
                            · omega
                            · exact HUP.out y
                          · rw [hsd]; split
                            · rename_i e
                              have : atD d ai = atD d xi := by rw [e]
                              omega
                            · exact hak
                          · rw [hsd]; split
                            · omega
                            · rename_i hne
                              rw [HTK.out] at hy
                              rcases List.mem_append.1 hy with hy | hy
                              · exact HALL.out y hy hy0 hy1
                              · exact absurd (List.mem_singleton.1 hy) hne)
                        have hiv : Hid (iv (todo ++ [(xi : Int)]) = iv todo ++ [.int .i64 (xi : Int)]) := Lib.hid (iv_snoc _ _)
                        have b7 : Below W6.heap.size W6 (W6.alloc (.cells #[.int .i64 (xi : Int)] 3)) := (Below.refl _ _).alloc (Nat.le_refl _) _
                        have HOD7 := Lib.hid (HOD6.out.on b7); have HOT7 := Lib.hid (HOT6.out.on b7); have HON7 := Lib.hid (HON6.out.on b7); have HB7 := Lib.hid (HB6.out.trans (b7.mono HB6.out.size))
                        have hsz : w.heap.size ≤ (W6.alloc (.cells #[.int .i64 (xi : Int)] 3)).heap.size := HB7.out.size
                        have hb8 : (todo.length + 1) * 8 ≤ 140737488355328 := by omega
                        clear bd hst hs6 hsd hdl b7 HOD HOT HON HB HOD6 HOT6 HON6 HB6 had' hx'
                        go_upto_region 20 with fail
                        go_region
                        rw [← hW6]
                        clear hW6
                        clear p0 p1 r0 q0
                        go_wp2_with (at_builtin; go_loud (refine wpList_append_sl _ rfl (.tmp 90) (.tmp 95) 27 rfl w.heap.size 3 i0 _ 1 8 Try.underlying27 hi0 hy0 hy1 hy2 rfl (by omega) At todo.length ct (iv todo) rfl HOT7.out (W6.heap.size + 1) _ 1 1 [.int .i64 (xi : Int)] rfl (Sl.one W6 _ _) (by simp [Value.oneCell']) (by omega) hb8 hsz ?_; intro A5 c5 w8 hown8 hg8 hat8; have hp8 := app_apart HON7.out hat8 HAP.out HAP'.out; have HF : Hid (Own w8 w.heap.size 3 1 (some ⟨gd, 0, none⟩) N c1 (iv (d.set xi (va + 1))) ∧ Own w8 w.heap.size 3 1 A5 (todo ++ [(xi : Int)]).length c5 (iv (todo ++ [(xi : Int)])) ∧ NotAt gd A5 ∧ Own w8 w.heap.size 3 1 (some na) NB.length cn (iv NB) ∧ ((Value.slice A5 (todo ++ [(xi : Int)]).length c5).ownBlock = none ∨ (Value.slice A5 (todo ++ [(xi : Int)]).length c5).ownBlock ≠ (Value.slice (some na) NB.length cn).ownBlock) ∧ ((Value.slice (some na) NB.length cn).ownBlock = none ∨ (Value.slice (some na) NB.length cn).ownBlock ≠ (Value.slice A5 (todo ++ [(xi : Int)]).length c5).ownBlock) ∧ Below w.heap.size w w8) := Lib.hid ⟨HOD7.out.kept hg8 (HNA.out.row' _ _ _ _), by rw [hiv.out, List.length_append]; exact hown8, HNA.out.app2 hat8 (HOD7.out.row.lt gd rfl).2, HON7.out.kept hg8 HAP'.out, by rw [List.length_append]; exact hp8.1, by rw [List.length_append]; exact hp8.2, HB7.out.grown hg8 HB7.out.size (fun j hj => (HOT7.out.row.lt j hj).1)⟩; clear hown8 hg8 hat8 hp8))
                        go_roundw
                        case rel => exact ⟨i + 1, d.set xi (va + 1), todo ++ [(xi : Int)], A5, c5, by omega, by go_num, by rw [List.length_append]; rfl, HF.out.1, HF.out.2.1, HF.out.2.2.1, HF.out.2.2.2.1, HNN.out, HF.out.2.2.2.2.1, HF.out.2.2.2.2.2.1, HBF2.out.1, HBF2.out.2.1, HBF2.out.2.2.1, HBF2.out.2.2.2.1, HBF2.out.2.2.2.2, HF.out.2.2.2.2.2.2⟩
                        case measure => simp [intOf]; omega
theorem sdist (w : World) (D : Nat) (A : Option Addr) (n c : Nat) (l : List (Int × Int)) (h : Sl w D 2 A n c (sv l)) (hD : D ≤ w.heap.size) (hn : n ≤ 16777216) (nodes f dst : Int) (hj : J64 nodes ∧ J64 f ∧ J64 dst) :
    Calls Try.prog 56 #[.slice A n c, .int .i64 nodes, .int .i64 f, .int .i64 dst] w (GivesIM w (distA l nodes f dst)) :=
  (sdistX w D A n c l h hD hn nodes f dst hj).mono fun e w' h => h.1
end Go.Proofs.Ytjobjjmeneddnaa
