/- The program's edgesOf, linkSetAt. -/
import Derived.Test.YtfnhfpahdgbfgaaNear
import Derived.Test.YtfnhfpahdgbfgaaLinks
import Derived.Test.YtfnhfpahdgbfgaaSameL
import Derived.Test.YtfnhfpahdgbfgaaCrypto
namespace Go.Proofs.Ytfnhfpahdgbfgaa
open Go.ChangeShapes Go.WideShapes Go.ChangeAt Go.RowKit
set_option linter.unusedVariables false
theorem Sl.pairI (w : World) (u v : Value) (t : TypeId) : Sl (w.alloc (.cells #[u, v] t)) (w.heap.size + 1) 1 (some ⟨w.heap.size, 0, none⟩) 2 2 [u, v] := by
  have h := Sl.one2 w u v t
  exact ⟨rfl, h.rd, Nat.le_refl _, by omega, fun e => by cases e⟩
/-- the begins and ends -/
def edgL (l : List Sat4) : List Int := l.flatMap fun x => [x.v, x.e]
theorem edgL_len (l : List Sat4) : (edgL l).length = 2 * l.length := by
  unfold edgL
  induction l with
  | nil => rfl
  | cons x l ih => rw [List.flatMap_cons, List.length_append, ih]; simp; omega
theorem edgL_snoc (l : List Sat4) (k : Nat) (hk : k < l.length) : edgL (l.take (k + 1)) = edgL (l.take k) ++ [l[k].v, l[k].e] := by
  unfold edgL
  rw [List.take_succ_eq_append_getElem hk, List.flatMap_append]; simp
theorem mem_edg (l : List Sat4) (t : Int) : t ∈ edgL l ↔ ∃ x ∈ l, t = x.v ∨ t = x.e := by
  unfold edgL
  rw [List.mem_flatMap]
  simp
set_option maxRecDepth 100000 in
set_option maxHeartbeats 1000000 in
theorem iedges (w : World) (D : Nat) (A : Option Addr) (n c : Nat) (l : List Sat4) (h : Sl w D 4 A n c (fl c4 l)) (hD : D ≤ w.heap.size) (hn : n ≤ 16777216) :
    Calls Try.prog 60 #[.slice A n c] w (GivesN w (ascOf (edgL l))) := by
  obtain ⟨i0, hi0, hy0, hy1, hy2⟩ := info_parts intN_info
  obtain rfl := h.num c4_len (by omega)
  have HS := Lib.hid h
  have hcap := h.cap; have hcapm := h.capm
  clear h
  have hcm : Hid ((2 * (l.length : Int)) = ((2 * l.length : Nat) : Int)) := Lib.hid (by omega)
  have hw2 : wrap64 (2 * (l.length : Int)) = 2 * (l.length : Int) := by unfold wrap64; omega
  go_enter Try.func60, Try.ntmps60
  go_wp2_with (at_make; refine wpList_make_own _ rfl _ _ 37 rfl w.heap.size 3 i0 (.int .i64 0) 1 Try.underlying37 hi0 hy0 hy1 .i64 .i64 _ (2 * l.length) rfl rfl hcm.out (by rw [hy2]; omega) (by unfold maxLen; omega) (Nat.le_refl _) ?_; intro w1 hown hgrow)
  have hfirst : Hid (Own w1 w.heap.size 3 1 (some ⟨w.heap.size, 0, none⟩) 0 (2 * l.length) (iv (edgL (l.take 0))) ∧ Below w.heap.size w w1) := Lib.hid ⟨⟨hown⟩, (Below.refl _ _).grown hgrow (Nat.le_refl _) (fun k hk => by cases hk)⟩
  clear hown hgrow hcm hw2
  go_loopw [3, 12] (fun o i wr => ∃ (k : Nat) (A1 : Option Addr) (c1 : Nat), k ≤ l.length ∧ i = .int .i64 k ∧ o = .slice A1 (2 * k) c1 ∧ Own wr w.heap.size 3 1 A1 (2 * k) c1 (iv (edgL (l.take k))) ∧ Below w.heap.size w wr) (fun _ i _ => l.length - (intOf i).toNat)
  case atStart => exact ⟨0, _, _, Nat.zero_le _, rfl, rfl, hfirst.out⟩
  case round =>
    clear hfirst
    obtain ⟨k, A1, c1, hk, rfl, rfl, ho, hb⟩ := hrel
    have HO := Lib.hid ho; have HB := Lib.hid hb
    clear ho hb
    by_cases hlt : k < l.length
    case neg =>
      obtain rfl : k = l.length := by omega
      rw [List.take_length] at HO
      obtain ⟨m, hm⟩ : ∃ m, m = 2 * l.length := ⟨_, rfl⟩
      rw [← hm] at HO ⊢
      have hm2 : m ≤ 1000000000 := by omega
      clear hi0 hy0 hy1 hy2 hm
      go_wp2_with fail
      refine (iasc wr w.heap.size A1 m c1 _ HO.out hm2).mono ?_
      rintro e w1 ⟨rfl, o1, g1⟩
      obtain ⟨E, hE⟩ : ∃ E, E = ascOf (edgL l) := ⟨_, rfl⟩
      rw [← hE] at o1 ⊢
      have HR : Hid (GivesN w E (.returned (.slice A1 E.length E.length)) w1) := Lib.hid ⟨_, _, _, rfl, o1.cut (Nat.le_refl _) o1.capm.1, HB.out.grown g1 HB.out.size (fun j hj => (HO.out.row.lt j hj).1)⟩
      have HE := Lib.hid hE
      clear o1 g1 HO HB hE
      go_wp2_with fail
      go_ret
      rw [← HE.out]; exact HR.out
    case pos =>
      obtain ⟨ad, hx, rfl, had, c0, c1', c2', c3'⟩ := (HS.out.below HB.out hD).four hlt
      have HT := Lib.hid (edgL_snoc l k hlt)
      obtain ⟨z, hz⟩ : ∃ z, z = l[k] := ⟨_, rfl⟩
      rw [← hz] at HT c0 c1' c2' c3'
      clear hz
      obtain ⟨p, q, f, s⟩ := z
      simp only at c0 c1' c2' c3' HT
      have hk0 : (0 : Int) ≤ (k : Int) := by omega
      have hkl : (k : Int) < (l.length : Int) := by omega
      have HAPP : Hid (iv (edgL (l.take (k + 1))) = iv (edgL (l.take k)) ++ [.int .i64 f, .int .i64 s]) := Lib.hid (by rw [HT.out, iv_app]; rfl)
      have b5 : Below wr.heap.size wr ((wr.alloc (.cells #[.int .i64 p, .int .i64 q, .int .i64 f, .int .i64 s] 62)).alloc (.cells #[.int .i64 f, .int .i64 s] 3)) := ((Below.refl _ _).alloc (Nat.le_refl _) _).alloc (by simp) _
      have HO5 := Lib.hid (HO.out.on b5); have HB5 := Lib.hid (HB.out.trans (b5.mono HB.out.size))
      have hsz : w.heap.size ≤ ((wr.alloc (.cells #[.int .i64 p, .int .i64 q, .int .i64 f, .int .i64 s] 62)).alloc (.cells #[.int .i64 f, .int .i64 s] 3)).heap.size := HB5.out.size
      have SL : Hid (Sl ((wr.alloc (.cells #[.int .i64 p, .int .i64 q, .int .i64 f, .int .i64 s] 62)).alloc (.cells #[.int .i64 f, .int .i64 s] 3)) (wr.heap.size + 1 + 1) 1 (some ⟨wr.heap.size + 1, 0, none⟩) 2 2 [.int .i64 f, .int .i64 s]) := Lib.hid (by
        have h := Sl.pairI (wr.alloc (.cells #[.int .i64 p, .int .i64 q, .int .i64 f, .int .i64 s] 62)) (.int .i64 f) (.int .i64 s) 3
        rw [World.size_alloc] at h; exact h)
      have hb8 : (2 * k + 2) * 8 ≤ 140737488355328 := by omega
      clear b5 HO HB HT
      go_wp2_with (at_builtin; go_loud (refine wpList_append_sl _ rfl (.tmp 16) (.tmp 21) 37 rfl w.heap.size 3 i0 _ 1 8 Try.underlying37 hi0 hy0 hy1 hy2 rfl (by omega) A1 (2 * k) c1 (iv (edgL (l.take k))) rfl HO5.out (wr.heap.size + 1 + 1) _ 2 2 [.int .i64 f, .int .i64 s] rfl SL.out (by simp [Value.oneCell']) (by omega) hb8 hsz ?_; intro A5 c5 w5 hown5 hg5 hat5; have HF : Hid (Own w5 w.heap.size 3 1 A5 (2 * k + 2) c5 (iv (edgL (l.take (k + 1)))) ∧ Below w.heap.size w w5) := Lib.hid ⟨by rw [HAPP.out]; exact hown5, HB5.out.grown hg5 HB5.out.size (fun j hj => (HO5.out.row.lt j hj).1)⟩; clear hown5 hg5 hat5))
      go_roundw
      case rel => exact ⟨k + 1, A5, c5, by omega, by go_num, rfl, HF.out⟩
      case measure => simp [intOf]; omega
end Go.Proofs.Ytfnhfpahdgbfgaa
