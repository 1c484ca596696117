/- Chapter 11's draws of contacts: l11Plan, l11Any, DrawCanSpeak. -/
import Derived.Test.YtfnhfpahdgbfgaaDrawSpans
import Derived.Test.YtfnhfpahdgbfgaaDrawSats
import Derived.Test.YtfnhfpahdgbfgaaApart
import Derived.Test.YtfnhfpahdgbfgaaSky
import Derived.Test.YtfnhfpahdgbfgaaInts
namespace Go.Proofs.Ytfnhfpahdgbfgaa
open Go.ChangeShapes Go.WideShapes Go.ChangeAt Go.RowKit
set_option linter.unusedVariables false
theorem con_info : (Try.prog.info? 62).map (fun i => (i.zero, i.size, i.bytes)) = some (some (.agg #[.int .i64 0, .int .i64 0, .int .i64 0, .int .i64 0]), 4, 32) := by kernel_rfl
/-- a plan of one's own, as a value -/
def OwnCons (B N : Nat) (e : Ending) (w' : World) : Prop := ∃ (A' : Option Addr) (n' c' : Nat) (l : List Sat4), e = .returned (.slice A' n' c') ∧ n' ≤ N ∧ Own w' B 62 4 A' n' c' (fl c4 l) ∧ ∀ x ∈ l, J64 x.p ∧ J64 x.h
set_option maxRecDepth 100000 in
set_option maxHeartbeats 2000000 in
theorem dplan11 (w : World) (p : Nat) (A : Option Addr) (cap : Nat) (xs : List Value) (hc : Cur w p A cap xs) (N : Nat) (last : Int) (hN : N ≤ 20) (hl0 : 0 ≤ last) (hl : last ≤ 1000000) :
    Calls Try.prog 67 #[.pointer (some ⟨p, 0, none⟩), .int .i64 N, .int .i64 last] w fun e w' => OwnCons w.heap.size 800 e w' ∧ Cur w' p A cap xs ∧ Turn p w w' := by
  obtain ⟨i0, hi, hy0, hy1, hy2⟩ := info_parts con_info
  have hp := hc.lt
  have H0 : Hid (Own (w.alloc (.cells #[] 62)) w.heap.size 62 4 (some ⟨w.heap.size, 0, none⟩) 0 0 (fl c4 [])) := Lib.hid ⟨World.ownsRow_made w #[] 0 (Nat.le_refl _) (by unfold maxLen; omega) rfl⟩
  have D0 := Lib.hid ((Dr.start hc).alloc (.cells #[] 62))
  clear hc
  go_enter Try.func67, Try.ntmps67
  go_wp2_with fail
  go_loopw [7, 8] (fun v i wr => ∃ (a n1 : Nat) (A1 : Option Addr) (c1 : Nat) (l : List Sat4), a ≤ N ∧ i = .int .i64 a ∧ v = .slice A1 n1 c1 ∧ n1 ≤ 40 * a ∧ Own wr w.heap.size 62 4 A1 n1 c1 (fl c4 l) ∧ (∀ x ∈ l, J64 x.p ∧ J64 x.h) ∧ Dr w p A cap xs wr) (fun _ i _ => N - (intOf i).toNat)
  case atStart => exact ⟨0, 0, _, _, [], Nat.zero_le _, rfl, rfl, by omega, H0.out, (fun x hx => by cases hx), D0.out⟩
  case round =>
    clear H0 D0
    obtain ⟨a, n1, A1, c1, l, ha, rfl, rfl, hn1, ho, hj, hd⟩ := hrel
    have HO := Lib.hid ho; have HD := Lib.hid hd; have HJ := Lib.hid hj
    clear ho hd hj
    by_cases hlt : a < N
    case neg =>
      have HF : Hid (OwnCons w.heap.size 800 (.returned (.slice A1 n1 c1)) wr) := Lib.hid ⟨A1, n1, c1, l, rfl, by omega, HO.out, HJ.out⟩
      clear HO
      go_wp2
      go_ret
      exact ⟨HF.out, HD.out.cur, HD.out.turn⟩
    case pos =>
      go_wp2_with fail
      go_loopw [7, 9] (fun v i wr => ∃ (b n2 : Nat) (A2 : Option Addr) (c2 : Nat) (l2 : List Sat4), b ≤ N ∧ a + 1 ≤ b ∧ i = .int .i64 b ∧ v = .slice A2 n2 c2 ∧ n2 ≤ 40 * a + 2 * b ∧ Own wr w.heap.size 62 4 A2 n2 c2 (fl c4 l2) ∧ (∀ x ∈ l2, J64 x.p ∧ J64 x.h) ∧ Dr w p A cap xs wr) (fun _ i _ => N - (intOf i).toNat)
      case atStart => exact ⟨a + 1, n1, A1, c1, l, by omega, Nat.le_refl _, by go_num, rfl, by omega, HO.out, HJ.out, HD.out⟩
      case round =>
        clear HO HD HJ
        obtain ⟨b, n2, A2, c2, l2, hb, hab, rfl, rfl, hn2, ho, hj, hd⟩ := hrel
        have HO := Lib.hid ho; have HD := Lib.hid hd; have HJ := Lib.hid hj
        clear ho hd hj
        by_cases hlb : b < N
        case neg =>
          go_wp2_with fail
          go_roundw
          case rel => exact ⟨a + 1, n2, A2, c2, l2, by omega, by go_num, rfl, by omega, HO.out, HJ.out, HD.out⟩
          case measure => simp [intOf]; omega
        case pos =>
          go_wp2_with fail
          refine (dbelow _ _ _ _ _ _ HD.out.cur (by omega)).mono ?_
          rintro e w1 ⟨⟨t0, ht, rfl⟩, k1, u1⟩
          have ht1 := ht.1 (by omega)
          have HO1 := Lib.hid (HO.out.turn u1 hp); have HD1 := Lib.hid (HD.out.call k1 u1)
          clear ht k1 u1 HO HD
          go_wp2_with fail
          refine (dbelow _ _ _ _ _ _ HD1.out.cur (by omega)).mono ?_
          rintro e w2 ⟨⟨k0, hk, rfl⟩, k1, u1⟩
          have hk1 := hk.1 (by omega)
          have HO2 := Lib.hid (HO1.out.turn u1 hp); have HD2 := Lib.hid (HD1.out.call k1 u1)
          clear hk k1 u1 HO1 HD1
          go_wp2_with fail
          go_loopw [7, 10, 11] (fun v tv kv wr => ∃ (k n3 : Nat) (A3 : Option Addr) (c3 : Nat) (l3 : List Sat4) (tt : Int), kv = .int .i64 k ∧ tv = .int .i64 tt ∧ (0 ≤ tt ∧ tt ≤ 1000010) ∧ v = .slice A3 n3 c3 ∧ n3 + k ≤ 40 * a + 2 * b + 2 ∧ Own wr w.heap.size 62 4 A3 n3 c3 (fl c4 l3) ∧ (∀ x ∈ l3, J64 x.p ∧ J64 x.h) ∧ Dr w p A cap xs wr) (fun _ _ kv _ => (intOf kv).toNat)
          case atStart => exact ⟨k0, n2, A2, c2, l2, t0, rfl, rfl, by omega, rfl, by omega, HO2.out, HJ.out, HD2.out⟩
          case round =>
            clear HO2 HD2 ht1 hk1 HJ
            obtain ⟨k, n3, A3, c3, l3, tt, rfl, rfl, htt, rfl, hn3, ho, hj, hd⟩ := hrel
            have HO := Lib.hid ho; have HD := Lib.hid hd; have HJ := Lib.hid hj
            clear ho hd hj
            by_cases hk : 0 < k
            case neg =>
              obtain rfl : k = 0 := by omega
              go_wp2_with fail
              go_roundw
              case rel => exact ⟨b + 1, n3, A3, c3, l3, by omega, by omega, by go_num, rfl, by omega, HO.out, HJ.out, HD.out⟩
              case measure => simp [intOf]; omega
            case pos =>
              by_cases htl : tt < last
              case neg =>
                go_wp2_with fail
                go_roundw
                case rel => exact ⟨b + 1, n3, A3, c3, l3, by omega, by omega, by go_num, rfl, by omega, HO.out, HJ.out, HD.out⟩
                case measure => simp [intOf]; omega
              case pos =>
                obtain ⟨j, rfl⟩ : ∃ j, k = j + 1 := ⟨k - 1, by omega⟩
                have s1 : IntKind.i64.wrap (tt + 2) = tt + 2 := wrap_in _ (by omega) (by omega)
                go_wp2_with fail
                refine (dbelow _ _ _ _ _ _ HD.out.cur (by omega)).mono ?_
                rintro e w3 ⟨⟨x, hx, rfl⟩, k1, u1⟩
                have hx1 := hx.1 (by omega)
                have HO3 := Lib.hid (HO.out.turn u1 hp); have HD3 := Lib.hid (HD.out.call k1 u1)
                clear hx k1 u1 HO HD
                have s2 : IntKind.i64.wrap (tt + 2 + (x : Int)) = tt + 2 + (x : Int) := wrap_in _ (by omega) (by omega)
                obtain ⟨ee, hee⟩ : ∃ z, mnf last (tt + 2 + (x : Int)) = z := ⟨_, rfl⟩
                have hb1 : 0 ≤ ee ∧ ee ≤ 1000000 := by rw [← hee]; unfold mnf; split <;> omega
                go_wp2_with fail
                refine (smin last (tt + 2 + (x : Int)) _).mono ?_
                rintro e w' ⟨rfl, rfl⟩
                rw [hee]
                have HO4 := Lib.hid (HO3.out.on ((Below.refl w3.heap.size w3).alloc (Nat.le_refl _) (.cells #[.int .i64 a, .int .i64 b, .int .i64 tt, .int .i64 ee] 62)))
                have HD4 := Lib.hid (HD3.out.alloc (.cells #[.int .i64 a, .int .i64 b, .int .i64 tt, .int .i64 ee] 62))
                have hsz : w.heap.size ≤ w3.heap.size := HD3.out.size
                have HJ6 : Hid (∀ x ∈ l3 ++ [(⟨a, b, tt, ee⟩ : Sat4)], J64 x.p ∧ J64 x.h) := Lib.hid fun x hx => by
                  rcases List.mem_append.1 hx with hx | hx
                  · exact HJ.out x hx
                  · obtain rfl := List.mem_singleton.1 hx
                    unfold J64; simp only; omega
                clear hee s1 s2 HO3 HD3
                go_wp2_with (at_builtin; refine wpList_append_sl _ rfl (.tmp 46) (.tmp 52) 24 rfl w.heap.size 62 i0 _ 4 32 Try.underlying24 hi hy0 hy1 hy2 rfl (by omega) A3 n3 c3 (fl c4 l3) rfl HO4.out (w3.heap.size + 1) _ 1 1 [.int .i64 a, .int .i64 b, .int .i64 tt, .int .i64 ee] rfl (Sl.one4 w3 _ _ _ _ _) (by simp [Value.oneCell']) (by omega) (by omega) (Nat.le_trans hsz (by simp)) ?_; intro A5 c5 w5 hown5 hg5 hat5; have HO5 : Hid (Own w5 w.heap.size 62 4 A5 (n3 + 1) c5 (fl c4 (l3 ++ [⟨a, b, tt, ee⟩]))) := Lib.hid (by rw [fl_app]; simpa [fl, c4] using hown5); have HD5 := Lib.hid (HD4.out.grown HO4.out hg5); clear hown5 hg5 hat5 HO4 HD4)
                have s3 : IntKind.i64.wrap (ee + 1) = ee + 1 := wrap_in _ (by omega) (by omega)
                refine (dbelow _ _ _ _ _ _ HD5.out.cur (by omega)).mono ?_
                rintro e w6 ⟨⟨y, hy, rfl⟩, k1, u1⟩
                have hy1 := hy.1 (by omega)
                have HO6 := Lib.hid (HO5.out.turn u1 hp); have HD6 := Lib.hid (HD5.out.call k1 u1)
                clear hy k1 u1 HO5 HD5
                have s4 : IntKind.i64.wrap (ee + 1 + (y : Int)) = ee + 1 + (y : Int) := wrap_in _ (by omega) (by omega)
                go_wp2_with fail
                go_roundw
                case rel => exact ⟨j, n3 + 1, A5, c5, _, ee + 1 + (y : Int), by go_num, rfl, by omega, rfl, by omega, HO6.out, HJ6.out, HD6.out⟩
                case measure => simp [intOf]
/-- one number of a contact of one's own is written anew -/
theorem Own.num4 {w : World} {B : Nat} {E : TypeId} {g n c : Nat} {l : List Sat4} (h : Own w B E 4 (some ⟨g, 0, none⟩) n c (fl c4 l)) (k i : Nat) (hk : k < n) (hi : i < 4) (z : Int) :
    ∃ l' : List Sat4, l'.length = l.length ∧ Own (w.setCell ⟨g, k * 4 + i, none⟩ (.int .i64 z)) B E 4 (some ⟨g, 0, none⟩) n c (fl c4 l') ∧ ((∀ x ∈ l, J64 x.p ∧ J64 x.h) → (i < 2 → J64 z) → ∀ x ∈ l', J64 x.p ∧ J64 x.h) := by
  have hl : k < l.length := by rw [← h.sl.num c4_len (by omega)]; exact hk
  have hs := h.row.stored (k * 4 + i) (.int .i64 z)
  have key : ∀ (l : List Sat4) (k : Nat), k < l.length → ∃ l' : List Sat4, l'.length = l.length ∧ (fl c4 l).set (k * 4 + i) (.int .i64 z) = fl c4 l' ∧ ((∀ x ∈ l, J64 x.p ∧ J64 x.h) → (i < 2 → J64 z) → ∀ x ∈ l', J64 x.p ∧ J64 x.h) := by
    intro l
    induction l with
    | nil => intro k hk; simp at hk
    | cons x l ih =>
      intro k hk
      rcases k with _ | k
      · have hi4 : i = 0 ∨ i = 1 ∨ i = 2 ∨ i = 3 := by omega
        rcases hi4 with rfl | rfl | rfl | rfl
        · exact ⟨⟨z, x.h, x.v, x.e⟩ :: l, by simp, by simp [fl, c4], fun h hz y hy => by
            have hx := h x List.mem_cons_self
            rcases List.mem_cons.1 hy with rfl | hy
            · first | exact ⟨hz (by omega), hx.2⟩ | exact ⟨hx.1, hz (by omega)⟩ | exact hx
            · exact h y (List.mem_cons_of_mem _ hy)⟩
        · exact ⟨⟨x.p, z, x.v, x.e⟩ :: l, by simp, by simp [fl, c4], fun h hz y hy => by
            have hx := h x List.mem_cons_self
            rcases List.mem_cons.1 hy with rfl | hy
            · first | exact ⟨hz (by omega), hx.2⟩ | exact ⟨hx.1, hz (by omega)⟩ | exact hx
            · exact h y (List.mem_cons_of_mem _ hy)⟩
        · exact ⟨⟨x.p, x.h, z, x.e⟩ :: l, by simp, by simp [fl, c4], fun h hz y hy => by
            have hx := h x List.mem_cons_self
            rcases List.mem_cons.1 hy with rfl | hy
            · first | exact ⟨hz (by omega), hx.2⟩ | exact ⟨hx.1, hz (by omega)⟩ | exact hx
            · exact h y (List.mem_cons_of_mem _ hy)⟩
        · exact ⟨⟨x.p, x.h, x.v, z⟩ :: l, by simp, by simp [fl, c4], fun h hz y hy => by
            have hx := h x List.mem_cons_self
            rcases List.mem_cons.1 hy with rfl | hy
            · first | exact ⟨hz (by omega), hx.2⟩ | exact ⟨hx.1, hz (by omega)⟩ | exact hx
            · exact h y (List.mem_cons_of_mem _ hy)⟩
      · obtain ⟨l', h1, h2, h3⟩ := ih k (by simpa using hk)
        refine ⟨x :: l', by simp [h1], ?_, fun h hz y hy => by
          rcases List.mem_cons.1 hy with rfl | hy
          · exact h _ List.mem_cons_self
          · exact h3 (fun z hz => h z (List.mem_cons_of_mem _ hz)) hz y hy⟩
        have e : (k + 1) * 4 + i = k * 4 + i + 4 := by omega
        rw [fl_cons, fl_cons, ← h2, e]
        simp [c4, List.set]
  obtain ⟨l', h1, h2, h3⟩ := key l k hl
  exact ⟨l', h1, ⟨by rw [← h2]; exact hs.1⟩, h3⟩
set_option maxRecDepth 100000 in
set_option maxHeartbeats 2000000 in
theorem dany11 (w : World) (p : Nat) (A : Option Addr) (cap : Nat) (xs : List Value) (hc : Cur w p A cap xs) :
    Calls Try.prog 54 #[.pointer (some ⟨p, 0, none⟩)] w fun e w' => OwnCons w.heap.size 801 e w' ∧ Cur w' p A cap xs ∧ Turn p w w' := by
  obtain ⟨i0, hi, hy0, hy1, hy2⟩ := info_parts con_info
  have hr3 := Lib.hid (i64_all (l := [-1, 4, 9223372036854775807]) (by decide))
  have hp := hc.lt
  have HC := Lib.hid hc
  clear hc
  go_enter Try.func54, Try.ntmps54
  go_wp2_with fail
  refine (dplan11 _ _ _ _ _ HC.out 4 20 (by omega) (by omega) (by omega)).mono ?_
  rintro e w1 ⟨⟨A1, n, c1, l, rfl, hn, ho, hj⟩, k1, u1⟩
  have HJ := Lib.hid hj; clear hj
  have HO := Lib.hid ho; have HD : Hid (Dr w p A cap xs w1) := Lib.hid ⟨hp, k1, u1⟩
  clear ho k1 u1 HC
  by_cases h0 : n = 0
  · subst h0
    have HF : Hid (OwnCons w.heap.size 801 (.returned (.slice A1 0 c1)) w1) := Lib.hid ⟨A1, 0, c1, l, rfl, by omega, HO.out, HJ.out⟩
    clear HO
    go_wp2_with fail
    go_ret
    exact ⟨HF.out, HD.out.cur, HD.out.turn⟩
  · have hnb : (n == 0) = false := by simp [h0]
    go_wp2_with fail
    rcases HO.out.form with ⟨_, hz, _⟩ | ⟨g, rfl, hBg, hgl, hcap, hcapm⟩
    · exact absurd hz h0
    refine (dbelow _ _ _ _ _ _ HD.out.cur (by omega)).mono ?_
    rintro e w2 ⟨⟨k, hk, rfl⟩, k1, u1⟩
    have hkn : k < n := by have := hk.1 (by omega); omega
    have HO2 := Lib.hid (HO.out.turn u1 hp); have HD2 := Lib.hid (HD.out.call k1 u1)
    clear hk k1 u1 HO HD
    go_wp2_with fail
    refine (dbelow _ _ _ _ _ _ HD2.out.cur (by omega)).mono ?_
    rintro e w3 ⟨⟨f, hf, rfl⟩, k1, u1⟩
    have hf1 := hf.1 (by omega)
    have HO3 := Lib.hid (HO2.out.turn u1 hp); have HD3 := Lib.hid (HD2.out.call k1 u1)
    clear hf k1 u1 HO2 HD2
    have hk0 : (0 : Int) ≤ (k : Int) := by omega
    have hkl : (k : Int) < (n : Int) := by omega
    by_cases q0 : f = 0
    · subst q0
      go_wp2_with fail
      refine (dbelow _ _ _ _ _ _ HD3.out.cur (by omega)).mono ?_
      rintro e w4 ⟨⟨x, hx, rfl⟩, k1, u1⟩
      have hx1 := hx.1 (by omega)
      have HO4 := Lib.hid (HO3.out.turn u1 hp); have HD4 := Lib.hid (HD3.out.call k1 u1)
      clear hx k1 u1 HO3 HD3
      have hw : IntKind.i64.wrap ((x : Int) - 1) = (x : Int) - 1 := wrap_in _ (by omega) (by omega)
      obtain ⟨l', hll, of, hj4⟩ := HO4.out.num4 k 0 hkn (by omega) ((x : Int) - 1)
      have HF : Hid (OwnCons w.heap.size 801 (.returned (.slice (some ⟨g, 0, none⟩) n c1)) (w4.setCell ⟨g, k * 4, none⟩ (.int .i64 ((x : Int) - 1)))) := Lib.hid ⟨_, n, c1, l', rfl, by omega, of, hj4 HJ.out (fun hi => by first | exact hr3.out z hz | (exfalso; omega) | (unfold J64; omega))⟩
      have HG := Lib.hid (HD4.out.set_ (a := ⟨g, k * 4, none⟩) hBg (.int .i64 ((x : Int) - 1)))
      obtain ⟨u0, hu0⟩ := HO4.out.cellS (k * 4) (by omega)
      have hf0 : w4.frozen? ⟨g, k * 4, none⟩ = false := HO4.out.row.frozenAt (k * 4)
      clear HO4 HD4 of
      go_wp2_with fail
      go_ret
      exact ⟨HF.out, HG.out.cur, HG.out.turn⟩
    have q0' : ((f : Int) == 0) = false := by simp; omega
    by_cases q1 : f = 1
    · subst q1
      go_wp2_with fail
      refine (draw4 _ _ _ _ _ HD3.out.cur).mono ?_
      rintro e w4 ⟨⟨z, hz, rfl⟩, k1, u1⟩
      have HO4 := Lib.hid (HO3.out.turn u1 hp); have HD4 := Lib.hid (HD3.out.call k1 u1)
      clear k1 u1 HO3 HD3
      obtain ⟨l', hll, of, hj4⟩ := HO4.out.num4 k 3 hkn (by omega) (z)
      have HF : Hid (OwnCons w.heap.size 801 (.returned (.slice (some ⟨g, 0, none⟩) n c1)) (w4.setCell ⟨g, k * 4 + 3, none⟩ (.int .i64 (z)))) := Lib.hid ⟨_, n, c1, l', rfl, by omega, of, hj4 HJ.out (fun hi => by first | exact hr3.out z hz | (exfalso; omega) | (unfold J64; omega))⟩
      have HG := Lib.hid (HD4.out.set_ (a := ⟨g, k * 4 + 3, none⟩) hBg (.int .i64 (z)))
      obtain ⟨u0, hu0⟩ := HO4.out.cellS (k * 4 + 3) (by omega)
      have hf0 : w4.frozen? ⟨g, k * 4 + 3, none⟩ = false := HO4.out.row.frozenAt (k * 4 + 3)
      clear HO4 HD4 of
      go_wp2_with fail
      go_ret
      exact ⟨HF.out, HG.out.cur, HG.out.turn⟩
    have q1' : ((f : Int) == 1) = false := by simp; omega
    by_cases q2 : f = 2
    · subst q2
      obtain ⟨ad, hx, e, had, y0, y1, y2, y3⟩ := HO3.out.sl.four hkn
      injection e with e
      subst e
      have ea : (⟨g, 0, none⟩ : Addr).add (k * 4) = ⟨g, k * 4, none⟩ := by unfold Addr.add; split <;> simp_all
      rw [ea] at y0 y1 y2 y3
      obtain ⟨x, hx2⟩ : ∃ x, x = l[k] := ⟨_, rfl⟩
      rw [← hx2] at y0 y1 y2 y3
      have HJ5 : Hid (∀ y ∈ l ++ [x], J64 y.p ∧ J64 y.h) := Lib.hid fun y hy => by
        rcases List.mem_append.1 hy with hy | hy
        · exact HJ.out y hy
        · obtain rfl := List.mem_singleton.1 hy
          rw [hx2]; exact HJ.out _ (List.getElem_mem hx)
      clear hx2 hx
      obtain ⟨xp, xh, xv, xe⟩ := x
      simp only at y0 y1 y2 y3
      have HO4 := Lib.hid (HO3.out.on ((Below.refl w3.heap.size w3).alloc (Nat.le_refl _) (.cells #[.int .i64 xp, .int .i64 xh, .int .i64 xv, .int .i64 xe] 62)))
      have HD4 := Lib.hid (HD3.out.alloc (.cells #[.int .i64 xp, .int .i64 xh, .int .i64 xv, .int .i64 xe] 62))
      have hsz : w.heap.size ≤ w3.heap.size := HD3.out.size
      clear HO3 HD3
      go_wp2_with (at_builtin; refine wpList_append_sl _ rfl (.tmp 36) (.tmp 41) 24 rfl w.heap.size 62 i0 _ 4 32 Try.underlying24 hi hy0 hy1 hy2 rfl (by omega) (some ⟨g, 0, none⟩) n c1 (fl c4 l) rfl HO4.out (w3.heap.size + 1) _ 1 1 [.int .i64 xp, .int .i64 xh, .int .i64 xv, .int .i64 xe] rfl (Sl.one4 w3 _ _ _ _ _) (by simp [Value.oneCell']) (by omega) (by omega) (Nat.le_trans hsz (by simp)) ?_; intro A5 c5 w5 hown5 hg5 hat5; have HF : Hid (OwnCons w.heap.size 801 (.returned (.slice A5 (n + 1) c5)) w5) := Lib.hid ⟨A5, n + 1, c5, l ++ [⟨xp, xh, xv, xe⟩], rfl, by omega, (by rw [fl_app]; simpa [fl, c4] using hown5), HJ5.out⟩; have HG := Lib.hid (HD4.out.grown HO4.out hg5); clear hown5 hg5 hat5 HO4 HD4)
      go_ret
      exact ⟨HF.out, HG.out.cur, HG.out.turn⟩
    have q2' : ((f : Int) == 2) = false := by simp; omega
    by_cases q3 : f = 3
    · subst q3
      go_wp2_with fail
      refine (dlist _ _ _ _ _ [-1, 4, 9223372036854775807] _ _ _ rfl rfl HD3.out.cur (by decide) (by decide) hr3.out).mono ?_
      rintro e w4 ⟨⟨z, hz, rfl⟩, k1, u1⟩
      have HO4 := Lib.hid (HO3.out.turn u1 hp); have HD4 := Lib.hid (HD3.out.call k1 u1)
      clear k1 u1 HO3 HD3
      obtain ⟨l', hll, of, hj4⟩ := HO4.out.num4 k 1 hkn (by omega) (z)
      have HF : Hid (OwnCons w.heap.size 801 (.returned (.slice (some ⟨g, 0, none⟩) n c1)) (w4.setCell ⟨g, k * 4 + 1, none⟩ (.int .i64 (z)))) := Lib.hid ⟨_, n, c1, l', rfl, by omega, of, hj4 HJ.out (fun hi => by first | exact hr3.out z hz | (exfalso; omega) | (unfold J64; omega))⟩
      have HG := Lib.hid (HD4.out.set_ (a := ⟨g, k * 4 + 1, none⟩) hBg (.int .i64 (z)))
      obtain ⟨u0, hu0⟩ := HO4.out.cellS (k * 4 + 1) (by omega)
      have hf0 : w4.frozen? ⟨g, k * 4 + 1, none⟩ = false := HO4.out.row.frozenAt (k * 4 + 1)
      clear HO4 HD4 of
      go_wp2_with fail
      go_ret
      exact ⟨HF.out, HG.out.cur, HG.out.turn⟩
    have q3' : ((f : Int) == 3) = false := by simp; omega
    have HF : Hid (OwnCons w.heap.size 801 (.returned (.slice (some ⟨g, 0, none⟩) n c1)) w3) := Lib.hid ⟨_, n, c1, l, rfl, by omega, HO3.out, HJ.out⟩
    clear HO3
    go_wp2_with fail
    go_ret
    exact ⟨HF.out, HD3.out.cur, HD3.out.turn⟩
end Go.Proofs.Ytfnhfpahdgbfgaa
