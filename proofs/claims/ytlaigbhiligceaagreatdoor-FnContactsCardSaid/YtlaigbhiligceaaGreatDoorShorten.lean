/- The contracts of the program's and of the model's ShortenSpans. -/
import Derived.Test.YtlaigbhiligceaaGreatDoorSpansOf
namespace Go.Proofs.YtlaigbhiligceaaGreatDoor
open Go.ChangeShapes Go.WideShapes Go.ChangeAt Go.RowKit
set_option linter.unusedVariables false
/-- a slice of one's own that lies apart from the block of another -/
def Away (A : Option Addr) (n c : Nat) (A' : Option Addr) (n' c' : Nat) : Prop := (Value.slice A n c).ownBlock = none ∨ (Value.slice A n c).ownBlock ≠ (Value.slice A' n' c').ownBlock
theorem Away.next {w : World} {B : Nat} {E : TypeId} {s : Nat} {A A' A2 : Option Addr} {n c n' c' n2 c2 : Nat} {xs : List Value} (h : Away A n c A' n' c') (ho : Own w B E s A n c xs)
    (hat : (Value.slice A2 n2 c2).ownBlock = (Value.slice A' n' c').ownBlock ∨ (Value.slice A2 n2 c2).ownBlock = some w.heap.size) : Away A n c A2 n2 c2 := by
  unfold Away at *
  rcases h with h | h
  · exact .inl h
  · rcases hat with e | e
    · right; rw [e]; exact h
    · rcases ho.blk with h1 | ⟨g, h1, _, hg⟩
      · exact .inl h1
      · right; rw [h1, e]; simp; omega
theorem shS_yes (a b x y : Int) (h1 : a < y - x) (h2 : b < y - x - a) : shS a b (x, y) = [(x + a, y - b)] := if_pos ⟨h1, h2⟩
theorem shS_no (a b x y : Int) (h : ¬ (a < y - x ∧ b < y - x - a)) : shS a b (x, y) = [] := if_neg h
set_option maxRecDepth 100000 in
set_option maxHeartbeats 800000 in
theorem ishort (w : World) (D : Nat) (A : Option Addr) (n c : Nat) (l : List (Int × Int)) (h : Sl w D 2 A n c (sv l)) (hD : D ≤ w.heap.size) (a b : Int) (pa : -9223372036854775808 ≤ a) (qa : a ≤ 9223372036854775807) (pb : -9223372036854775808 ≤ b) (qb : b ≤ 9223372036854775807) :
    Calls Tryz.prog 71 #[.slice A n c, .int .i64 a, .int .i64 b] w (GivesS w (shortOf l a b)) := by
  obtain ⟨i0, hi, hy0, hy1, hy2⟩ := info_parts span_info
  have h0 : Hid (Own (w.alloc (.cells #[] 83)) w.heap.size 83 2 (some ⟨w.heap.size, 0, none⟩) 0 0 [] ∧ Below w.heap.size w (w.alloc (.cells #[] 83))) :=
    Lib.hid ⟨Own.made0 w w.heap.size _ (Nat.le_refl _), (Below.refl _ _).alloc (Nat.le_refl _) _⟩
  by_cases hneg : a < 0 ∨ b < 0
  · have HF : Hid (GivesS w (shortOf l a b) (.returned (.slice (some ⟨w.heap.size, 0, none⟩) 0 0)) (w.alloc (.cells #[] 83))) := Lib.hid ⟨_, _, _, rfl, by unfold shortOf; rw [if_pos hneg]; exact h0.out.1, h0.out.2⟩
    by_cases ha : a < 0
    · clear hneg h
      go_enter Tryz.func71, Tryz.ntmps71
      go_wp2
      go_ret
      exact HF.out
    · have hb : b < 0 := by omega
      clear hneg h
      go_enter Tryz.func71, Tryz.ntmps71
      go_wp2
      go_ret
      exact HF.out
  · have ha : ¬ a < 0 := by omega
    have hb : ¬ b < 0 := by omega
    have hres : Hid (shortOf l a b = shorten a b (joinOf l)) := Lib.hid (if_neg hneg)
    clear hneg
    have HJ := Lib.hid (ijoin (w.alloc (.cells #[] 83)) D A n c l (h.below h0.out.2 hD) (by simp; omega))
    clear h
    obtain ⟨L, hL⟩ : ∃ L, L = joinOf l := ⟨_, rfl⟩
    have HV : Hid (∀ p ∈ L, 0 ≤ p.1 ∧ p.1 < p.2 ∧ p.2 ≤ 1000) := Lib.hid (by rw [hL]; exact runs_valid _ _ (Nat.le_refl _))
    have hLl : L.length ≤ 1000 := by rw [hL]; exact runs_len _ _
    rw [← hL] at HJ hres
    clear hL
    go_enter Tryz.func71, Tryz.ntmps71
    go_wp2_with fail
    refine HJ.out.mono ?_
    rintro e w1 ⟨A1, n1, c1, rfl, o, bj⟩
    obtain rfl : n1 = L.length := by have h2 := o.len; rw [sv_len] at h2; omega
    have hcap := o.capm
    have ob : Hid (w.heap.size + 1 ≤ (w.alloc (.cells #[] 83)).heap.size) := Lib.hid (by simp)
    have h1 : Hid (Own w1 (w.heap.size + 1) 83 2 A1 L.length c1 (sv L) ∧ Own w1 w.heap.size 83 2 (some ⟨w.heap.size, 0, none⟩) 0 0 (sv (shorten a b (L.take 0))) ∧ Away A1 L.length c1 (some ⟨w.heap.size, 0, none⟩) 0 0 ∧ Below w.heap.size w w1) := by
      refine Lib.hid ⟨o.fewer ob.out, h0.out.1.on bj, ?_, h0.out.2.trans (bj.mono (by simp))⟩
      have h2 := h0.out.1.apart' o (Nat.le_refl _)
      exact h2
    clear o bj h0 ob HJ
    go_wp2
    go_loopw [7, 22] (fun v i wr => ∃ (k : Nat) (Av : Option Addr) (nv cv : Nat), k ≤ L.length ∧ i = .int .i64 k ∧ v = .slice Av nv cv ∧ Own wr (w.heap.size + 1) 83 2 A1 L.length c1 (sv L) ∧ Own wr w.heap.size 83 2 Av nv cv (sv (shorten a b (L.take k))) ∧ Away A1 L.length c1 Av nv cv ∧ Below w.heap.size w wr) (fun _ i _ => L.length - (intOf i).toNat)
    case atStart => exact ⟨0, _, _, _, Nat.zero_le _, rfl, rfl, h1.out⟩
    case round =>
      clear h1
      obtain ⟨k, Av, nv, cv, hk, rfl, rfl, hl, ho, hw, hbw⟩ := hrel
      by_cases hlt : k < L.length
      · obtain ⟨ad, hx, rfl, had, hc0, hc1⟩ := hl.sl.two hlt
        have hpv := HV.out L[k] (List.getElem_mem hx)
        have hsn : Hid (shorten a b (L.take (k + 1)) = shorten a b (L.take k) ++ shS a b L[k]) := Lib.hid (by rw [List.take_succ_eq_append_getElem hx, shorten_snoc])
        obtain ⟨x, hxx⟩ : ∃ x, x = L[k].1 := ⟨_, rfl⟩
        obtain ⟨y, hy⟩ : ∃ y, y = L[k].2 := ⟨_, rfl⟩
        have hp : L[k] = (x, y) := by rw [hxx, hy]
        rw [hp] at hsn
        rw [← hxx] at hc0 hpv; rw [← hy] at hc1 hpv
        obtain ⟨hp0, hp1, hp2⟩ := hpv
        have hnv : nv ≤ 1000 := by
          have h2 := ho.len; rw [sv_len] at h2
          have h3 := shorten_len a b (L.take k)
          rw [List.length_take] at h3; omega
        obtain ⟨M, hM⟩ : ∃ M, M = shorten a b (L.take k) := ⟨_, rfl⟩
        rw [← hM] at hsn ho
        clear hxx hy hp hM
        have ba : Below wr.heap.size wr (wr.alloc (.cells #[.int .i64 x, .int .i64 y] 83)) := (Below.refl _ _).alloc (Nat.le_refl _) _
        by_cases hyes : a < y - x ∧ b < y - x - a
        · obtain ⟨hy1', hy2'⟩ := hyes
          have hfin : Hid (shorten a b (L.take (k + 1)) = M ++ [(x + a, y - b)]) := Lib.hid (by rw [hsn.out, shS_yes a b x y hy1' hy2'])
          have bb : Below wr.heap.size wr ((wr.alloc (.cells #[.int .i64 x, .int .i64 y] 83)).alloc (.cells #[.int .i64 (x + a), .int .i64 (y - b)] 83)) := ba.alloc (by simp) _
          have HO := Lib.hid (ho.on bb); have HL := Lib.hid (hl.on bb)
          have HB := Lib.hid (hbw.trans (bb.mono hbw.size))
          have hcapv := ho.capm
          have HS1 : Hid (Sl ((wr.alloc (.cells #[.int .i64 x, .int .i64 y] 83)).alloc (.cells #[.int .i64 (x + a), .int .i64 (y - b)] 83)) (wr.heap.size + 1 + 1) 2 (some ⟨wr.heap.size + 1, 0, none⟩) 1 1 [.int .i64 (x + a), .int .i64 (y - b)]) := by
            have h9 := Sl.one2 (wr.alloc (.cells #[.int .i64 x, .int .i64 y] 83)) (.int .i64 (x + a)) (.int .i64 (y - b)) 83
            rw [show (wr.alloc (.cells #[.int .i64 x, .int .i64 y] 83)).heap.size = wr.heap.size + 1 by simp] at h9
            exact Lib.hid h9
          have HW := Lib.hid hw
          have hsz := hbw.size
          clear hsn ho hl hw hbw ba bb HV
          go_wp2_with (at_builtin; refine wpList_append_sl _ rfl (.tmp 41) (.tmp 51) 89 rfl w.heap.size 83 i0 _ 2 16 Tryz.underlying89 hi hy0 hy1 hy2 rfl (by omega) Av nv cv (sv M) rfl HO.out (wr.heap.size + 1 + 1) (some ⟨wr.heap.size + 1, 0, none⟩) 1 1 [.int .i64 (x + a), .int .i64 (y - b)] rfl HS1.out (by simp [Value.oneCell']) (by omega) (by omega) (by simp; omega) ?_; intro A3 c3 w3 hown3 hg3 hat3; have HF : Hid (Own w3 (w.heap.size + 1) 83 2 (some ad) L.length c1 (sv L) ∧ Own w3 w.heap.size 83 2 A3 (nv + 1) c3 (sv (shorten a b (L.take (k + 1)))) ∧ Away (some ad) L.length c1 A3 (nv + 1) c3 ∧ Below w.heap.size w w3) := Lib.hid ⟨HL.out.kept hg3 HW.out, by rw [hfin.out, sv_app]; exact hown3, HW.out.next HL.out hat3, HO.out.below HB.out (by simp; omega) hg3⟩; clear hown3 hg3 hat3)
          go_roundw
          case rel => exact ⟨k + 1, A3, nv + 1, c3, by omega, by go_num, rfl, HF.out⟩
          case measure => simp [intOf]; omega
        · have hfin : Hid (shorten a b (L.take (k + 1)) = M) := Lib.hid (by rw [hsn.out, shS_no a b x y hyes, List.append_nil])
          have HF : Hid (Own (wr.alloc (.cells #[.int .i64 x, .int .i64 y] 83)) (w.heap.size + 1) 83 2 (some ad) L.length c1 (sv L) ∧ Own (wr.alloc (.cells #[.int .i64 x, .int .i64 y] 83)) w.heap.size 83 2 Av nv cv (sv (shorten a b (L.take (k + 1)))) ∧ Away (some ad) L.length c1 Av nv cv ∧ Below w.heap.size w (wr.alloc (.cells #[.int .i64 x, .int .i64 y] 83))) :=
            Lib.hid ⟨hl.on ba, by rw [hfin.out]; exact ho.on ba, hw, hbw.trans (ba.mono hbw.size)⟩
          clear hsn ho hl hw hbw ba HV
          by_cases hy1' : a < y - x
          all_goals
            first
              | have hy2' : ¬ (b < y - x - a) := by omega
              | skip
            clear hyes
            go_wp2
            go_roundw
            case rel => exact ⟨k + 1, Av, nv, cv, by omega, by go_num, rfl, HF.out⟩
            case measure => simp [intOf]; omega
      · have e1 : L.take k = L := List.take_of_length_le (by omega)
        rw [e1, ← hres.out] at ho
        have HF : Hid (GivesS w (shortOf l a b) (.returned (.slice Av nv cv)) wr) := Lib.hid ⟨_, _, _, rfl, ho, hbw⟩
        clear ho hl hw hbw e1 hres
        go_wp2
        go_ret
        exact HF.out
end Go.Proofs.YtlaigbhiligceaaGreatDoor
