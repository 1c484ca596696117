/- The program's LinksAt. -/
import Derived.Test.YtfnhfpahdgbfgaaLinkMap
namespace Go.Proofs.Ytfnhfpahdgbfgaa
open Go.ChangeShapes Go.WideShapes Go.ChangeAt Go.RowKit Go.Maps
set_option linter.unusedVariables false
theorem Off.ne_ {mb : Nat} {A : Option Addr} (h : Off mb (mb + 1) A) (n c : Nat) : some mb ≠ (Value.slice A n c).ownBlock := fun e => by
  cases A with
  | none => cases e
  | some a =>
    simp only [Value.ownBlock, Option.some.injEq] at e
    rcases h a rfl with h | h <;> omega
set_option maxRecDepth 100000 in
set_option maxHeartbeats 2000000 in
theorem ilinks (w : World) (D : Nat) (A : Option Addr) (n c : Nat) (l : List Sat4) (h : Sl w D 4 A n c (fl c4 l)) (hD : D ≤ w.heap.size) (hn : n ≤ 16777216) (t : Int) (hk : ∀ x ∈ l, J64 x.p ∧ J64 x.h) :
    Calls Try.prog 12 #[.slice A n c, .int .i64 t] w (GivesL w (linksL l t)) := by
  obtain ⟨i0, hi0, hy0, hy1, hy2⟩ := info_parts linkL_info
  have hmm := @run_makeMap Try.prog
  obtain rfl := h.num c4_len (by omega)
  have HS := Lib.hid h; have HK := Lib.hid hk
  have hcap := h.cap; have hcapm := h.capm
  clear h hk
  obtain ⟨W2, hW2⟩ : ∃ W, W = (w.alloc (.cells #[] 59)).alloc (.map #[] 0) := ⟨_, rfl⟩
  obtain ⟨g, hg⟩ : ∃ g, g = w.heap.size := ⟨_, rfl⟩
  obtain ⟨mb, hmb⟩ : ∃ g, g = w.heap.size + 1 := ⟨_, rfl⟩
  have hfirst : Hid (Own W2 w.heap.size 59 2 (some ⟨g, 0, none⟩) 0 0 (sv (linksL (l.take 0) t)) ∧ Off mb (mb + 1) (some (⟨g, 0, none⟩ : Addr)) ∧ Lm W2 mb 0 (linksL (l.take 0) t) ∧ Below w.heap.size w W2) := Lib.hid (by
    rw [hW2, hg, hmb]
    refine ⟨(Own.made0 w w.heap.size _ (Nat.le_refl _)).on ((Below.refl _ _).alloc (Nat.le_refl _) _), fun ad e => by injection e with e; subst e; left; simp, ?_, ((Below.refl _ _).alloc (Nat.le_refl _) _).alloc (by simp) _⟩
    have h := Lm.made (w.alloc (.cells #[] 59))
    rw [World.size_alloc] at h
    exact h)
  have HMB : Hid (w.heap.size ≤ mb) := Lib.hid (by rw [hmb]; omega)
  go_enter Try.func12, Try.ntmps12
  go_wp2_with fail
  rw [← hW2, ← hmb, ← hg]
  clear hW2 hg hmb
  go_loopw [5, 14] (fun o i wr => ∃ (k : Nat) (A1 : Option Addr) (n1 c1 : Nat), k ≤ l.length ∧ i = .int .i64 k ∧ o = .slice A1 n1 c1 ∧ Own wr w.heap.size 59 2 A1 n1 c1 (sv (linksL (l.take k) t)) ∧ Off mb (mb + 1) A1 ∧ Lm wr mb k (linksL (l.take k) t) ∧ Below w.heap.size w wr) (fun _ i _ => l.length - (intOf i).toNat)
  case atStart => exact ⟨0, _, _, _, Nat.zero_le _, rfl, rfl, hfirst.out⟩
  case round =>
    clear hfirst
    obtain ⟨k, A1, n1, c1, hk, rfl, rfl, ho, hf, hm, hb⟩ := hrel
    have HO := Lib.hid ho; have HB := Lib.hid hb; have HF := Lib.hid hf; have HM := Lib.hid hm
    clear ho hb hf hm
    by_cases hlt : k < l.length
    case neg =>
      obtain rfl : k = l.length := by omega
      have HR : Hid (GivesL w (linksL l t) (.returned (.slice A1 n1 c1)) wr) := Lib.hid ⟨_, _, _, rfl, by have h := HO.out; rw [List.take_length] at h; exact h, HB.out⟩
      clear hi0 hy0 hy1 hy2 hmm
      go_wp2_with fail
      go_ret
      exact HR.out
    case pos =>
      obtain ⟨ad, hx, rfl, had, c0, c1', c2', c3'⟩ := (HS.out.below HB.out hD).four hlt
      have HT := Lib.hid (linksL_snoc l k hlt t)
      have HJ := Lib.hid (HK.out l[k] (List.getElem_mem hlt))
      obtain ⟨z, hz⟩ : ∃ z, z = l[k] := ⟨_, rfl⟩
      rw [← hz] at HT HJ c0 c1' c2' c3'
      clear hz
      obtain ⟨p, q, f, s⟩ := z
      simp only at c0 c1' c2' c3'
      have hk0 : (0 : Int) ≤ (k : Int) := by omega
      have hkl : (k : Int) < (l.length : Int) := by omega
      obtain ⟨L, hL⟩ : ∃ L, L = linksL (l.take k) t := ⟨_, rfl⟩
      have hLn : L.length ≤ 16777216 := by
        rw [hL]
        have h1 := linksL_len (l.take k) t
        rw [List.length_take] at h1; omega
      rw [← hL] at HO HT HM
      clear hL
      have hn1 : n1 = L.length := by have h2 := HO.out.len; rw [sv_len] at h2; omega
      subst hn1
      obtain ⟨W4, hW4⟩ : ∃ W, W = (wr.alloc (.cells #[.int .i64 p, .int .i64 q, .int .i64 f, .int .i64 s] 62)).alloc (.cells #[.int .i64 p, .int .i64 q] 59) := ⟨_, rfl⟩
      obtain ⟨T, hT⟩ : ∃ g, g = wr.heap.size + 1 := ⟨_, rfl⟩
      have b4 : Below wr.heap.size wr W4 := by rw [hW4]; exact ((Below.refl _ _).alloc (Nat.le_refl _) _).alloc (by simp) _
      have Z4 : Hid (Blk W4 T 59 #[.int .i64 p, .int .i64 q]) := Lib.hid (by
        rw [hW4, hT]
        have h := Blk.new (wr.alloc (.cells #[.int .i64 p, .int .i64 q, .int .i64 f, .int .i64 s] 62)) 59 #[.int .i64 p, .int .i64 q]
        rw [World.size_alloc] at h
        exact h)
      have HO4 := Lib.hid (HO.out.on b4); have HB4 := Lib.hid (HB.out.trans (b4.mono HB.out.size)); have HM4 := Lib.hid (HM.out.on b4)
      have HTA : Hid (NotAt T A1) := Lib.hid (HO.out.notAt (by rw [hT]; omega))
      clear b4 HO HB HM
      obtain ⟨u, hu⟩ : ∃ u, inS (f, s) t = u := ⟨_, rfl⟩
      have HU := Lib.hid hu
      clear hu
      go_wp2_with fail
      rw [← hW4, ← hT]
      clear hW4 hT
      refine (ispan W4 p q f s).mono ?_
      rintro _ w2 ⟨rfl, b2⟩
      have Z2 := Lib.hid (Z4.out.below b2 Z4.out.lt); have HO2 := Lib.hid (HO4.out.on b2); have HB2 := Lib.hid (HB4.out.trans (b2.mono HB4.out.size)); have HM2 := Lib.hid (HM4.out.on b2)
      clear b2 Z4 HO4 HB4 HM4
      go_wp2_with fail
      refine (iinspan w2 f s t u HU.out).mono ?_
      rintro _ w3 ⟨rfl, b3⟩
      have Z3 := Lib.hid (Z2.out.below b3 Z2.out.lt); have HO3 := Lib.hid (HO2.out.on b3); have HB3 := Lib.hid (HB2.out.trans (b3.mono HB2.out.size)); have HM3 := Lib.hid (HM2.out.on b3)
      clear b3 Z2 HO2 HB2 HM2
      cases u
      case false =>
        have HR : Hid (Own w3 w.heap.size 59 2 A1 L.length c1 (sv (linksL (l.take (k + 1)) t)) ∧ Off mb (mb + 1) A1 ∧ Lm w3 mb (k + 1) (linksL (l.take (k + 1)) t) ∧ Below w.heap.size w w3) := Lib.hid (by
          rw [HT.out]; unfold linkStep conS
          rw [if_neg (fun h => by rw [HU.out] at h; exact Bool.noConfusion h.1)]
          exact ⟨HO3.out, HF.out, HM3.out.mono (by omega), HB3.out⟩)
        clear HO3 HM3 HB3
        go_wp2_with fail
        go_roundw
        case rel => exact ⟨k + 1, A1, _, c1, by omega, by go_num, rfl, HR.out⟩
        case measure => simp [intOf]; omega
      case true =>
        obtain ⟨b, hb⟩ : ∃ b, decide ((p, q) ∈ L) = b := ⟨_, rfl⟩
        have t0 : w3.cell? ⟨T, 0, none⟩ = some (.int .i64 p) := Z3.out.cell 0
        have t1 : w3.cell? ⟨T, 1, none⟩ = some (.int .i64 q) := Z3.out.cell 1
        have hlook := HM3.out.look (p, q) HJ.out b hb
        simp only [kv] at hlook
        have HBB := Lib.hid hb
        clear hb
        cases b
        case true =>
          have HR : Hid (Own w3 w.heap.size 59 2 A1 L.length c1 (sv (linksL (l.take (k + 1)) t)) ∧ Off mb (mb + 1) A1 ∧ Lm w3 mb (k + 1) (linksL (l.take (k + 1)) t) ∧ Below w.heap.size w w3) := Lib.hid (by
            rw [HT.out]; unfold linkStep
            rw [if_neg (fun h => h.2 (of_decide_eq_true HBB.out))]
            exact ⟨HO3.out, HF.out, HM3.out.mono (by omega), HB3.out⟩)
          clear HO3 HM3 HB3
          go_wp2_with fail
          go_roundw
          case rel => exact ⟨k + 1, A1, _, c1, by omega, by go_num, rfl, HR.out⟩
          case measure => simp [intOf]; omega
        case false =>
          have HST : Hid (linksL (l.take (k + 1)) t = L ++ [(p, q)]) := Lib.hid (by
            rw [HT.out]; unfold linkStep
            rw [if_pos ⟨HU.out, of_decide_eq_false HBB.out⟩]; rfl)
          obtain ⟨W5, hW5⟩ : ∃ W, W = w3.alloc (.cells #[.int .i64 p, .int .i64 q] 59) := ⟨_, rfl⟩
          have b5 : Below w3.heap.size w3 W5 := by rw [hW5]; exact (Below.refl _ _).alloc (Nat.le_refl _) _
          have HO5 := Lib.hid (HO3.out.on b5); have HB5 := Lib.hid (HB3.out.trans (b5.mono HB3.out.size)); have HM5 := Lib.hid (HM3.out.on b5); have Z5 := Lib.hid (Z3.out.below b5 Z3.out.lt)
          have SL : Hid (Sl W5 (w3.heap.size + 1) 2 (some ⟨w3.heap.size, 0, none⟩) 1 1 [.int .i64 p, .int .i64 q]) := Lib.hid (by rw [hW5]; exact Sl.one2 w3 _ _ _)
          have hsz : w.heap.size ≤ W5.heap.size := HB5.out.size
          have hb16 : (L.length + 1) * 16 ≤ 140737488355328 := by omega
          clear b5 HO3 HB3 HM3
          go_wp2_with (at_builtin; go_loud (rw [← hW5]; refine wpList_append_sl _ rfl (.tmp 33) (.tmp 35) 32 rfl w.heap.size 59 i0 _ 2 16 Try.underlying32 hi0 hy0 hy1 hy2 rfl (by omega) A1 L.length c1 (sv L) rfl HO5.out (w3.heap.size + 1) _ 1 1 [.int .i64 p, .int .i64 q] rfl SL.out (by simp [Value.oneCell']) (by omega) hb16 hsz ?_; intro A6 c6 w6 hown6 hg6 hat6; have HM6 := HM5.out.kept hg6 (HF.out.ne_ _ _); have Z6 := Z5.out.grown' HTA.out hg6; have HF6 := HF.out.app hat6 HM5.out.lt; have HO6 : Own w6 w.heap.size 59 2 A6 (L.length + 1) c6 (sv (linksL (l.take (k + 1)) t)) := (by rw [HST.out, sv_app]; exact hown6); have HB6 : Below w.heap.size w w6 := HB5.out.grown hg6 HB5.out.size (fun j hj => (HO5.out.row.lt j hj).1); obtain ⟨w7, hput, hm7, hg7⟩ := HM6.put (by omega) (p, q) HJ.out; simp only [kv] at hput; have HR : Hid (Own w7 w.heap.size 59 2 A6 (L.length + 1) c6 (sv (linksL (l.take (k + 1)) t)) ∧ Off mb (mb + 1) A6 ∧ Lm w7 mb (k + 1) (linksL (l.take (k + 1)) t) ∧ Below w.heap.size w w7) := Lib.hid ⟨HO6.kept hg7 (.inr (fun e => HF6.ne_ _ _ e.symm)), HF6, by rw [HST.out]; exact hm7, HB6.grown hg7 HB6.size (fun j hj => by injection hj with hj; rw [← hj]; exact HMB.out)⟩; have t0 : w6.cell? ⟨T, 0, none⟩ = some (.int .i64 p) := Z6.cell 0; have t1 : w6.cell? ⟨T, 1, none⟩ = some (.int .i64 q) := Z6.cell 1; clear hown6 hg6 hat6 HM6 Z6 HF6 HO6 HB6 hm7 hg7))
          go_roundw
          case rel => exact ⟨k + 1, A6, _, c6, by omega, by go_num, rfl, HR.out⟩
          case measure => simp [intOf]; omega
end Go.Proofs.Ytfnhfpahdgbfgaa
