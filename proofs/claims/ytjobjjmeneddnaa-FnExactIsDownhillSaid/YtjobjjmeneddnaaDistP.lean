/- The program's DistancesTo. -/
import Derived.Test.YtjobjjmeneddnaaSpread
import Derived.Deep.WholeRow
import Derived.Deep.RegionHeld3
namespace Go.Proofs.Ytjobjjmeneddnaa
open Go.ChangeShapes Go.WideShapes Go.ChangeAt Go.RowKit
set_option linter.unusedVariables false
theorem least_ex {P : Nat → Prop} (n : Nat) : P n → ∃ m, P m ∧ ∀ j, P j → m ≤ j := by
  induction n using Nat.strongRecOn with
  | ind n ih =>
    intro h
    by_cases h1 : ∃ j, j < n ∧ P j
    · obtain ⟨j, hj, hp⟩ := h1
      exact ih j hj hp
    · exact ⟨n, h, fun j hp => Nat.le_of_not_lt fun hj => h1 ⟨j, hj, hp⟩⟩
open Classical in
/-- the least number with a property -/
noncomputable def leastOf (P : Nat → Prop) : Nat := if h : ∃ m, P m ∧ ∀ j, P j → m ≤ j then h.choose else 0
theorem leastOf_spec {P : Nat → Prop} (h : ∃ n, P n) : P (leastOf P) := by
  obtain ⟨n, hn⟩ := h
  have h1 := least_ex n hn
  unfold leastOf; rw [dif_pos h1]; exact h1.choose_spec.1
theorem leastOf_le {P : Nat → Prop} {n : Nat} (h : P n) : leastOf P ≤ n := by
  have h1 := least_ex n h
  unfold leastOf; rw [dif_pos h1]; exact h1.choose_spec.2 n h
theorem Blk.grownQ' {w w' : World} {p g : Nat} {t : TypeId} {cs : Array Value} (h : Blk w p t cs) (hg : w.grownBy w' (some g)) (hne : p ≠ g) : Blk w' p t cs := (hg.block p h.lt (fun e => hne (by injection e))).trans h
/-- what a round of the search begins with: m nodes are not done -/
def DSt (l : List (Int × Int)) (N : Nat) (f dst : Int) (B g q : Nat) (w0 wr : World) (m : Nat) : Prop :=
  ∃ d todo k, Own wr B 3 1 (some ⟨g, 0, none⟩) N N (iv d) ∧ RgW wr q (wq f dst todo k) ∧ Bfs l N f dst d todo k ∧ k ≤ todo.length ∧ (∀ y, atD d y < todo.length) ∧ Two g q w0 wr ∧ m = N - k
theorem zero_ring : (∀ w, (zeroValue 93).run Try.prog w = .ok (.agg (iv (List.replicate 11 0) ++ [Value.int .i64 (0 : Nat), Value.int .i64 (0 : Nat)]).toArray) w) ∧ (Try.prog.info? 93).map (·.size) = some 13 := zero_of_info (by kernel_rfl)
set_option maxRecDepth 100000 in
set_option maxHeartbeats 2000000 in
theorem idist (w : World) (D : Nat) (A : Option Addr) (n c : Nat) (l : List (Int × Int)) (h : Sl w D 2 A n c (sv l)) (hD : D ≤ w.heap.size) (hn : n ≤ 16777216) (nodes f dst : Int) (hj : J64 nodes ∧ J64 f ∧ J64 dst) :
    Calls Try.prog 40 #[.slice A n c, .int .i64 nodes, .int .i64 f, .int .i64 dst] w (GivesIM w (distA l nodes f dst)) := by
  have HS := Lib.hid h; have HJ := Lib.hid hj
  clear h hj
  have HNO : Hid (okP nodes dst = false → GivesIM w (distA l nodes f dst) (.returned (.slice (some ⟨w.heap.size, 0, none⟩) 0 0)) (w.alloc (.cells #[] 3))) := Lib.hid fun hb => ⟨_, _, _, rfl, by
    unfold distA
    rw [if_neg (by rw [hb]; simp)]
    exact Own.made1 w w.heap.size _ (Nat.le_refl _), (Below.refl _ _).alloc (Nat.le_refl _) _⟩
  by_cases h1 : 1 ≤ nodes ∧ nodes ≤ 12
  case neg =>
    have HR := Lib.hid (HNO.out (decide_eq_false fun h => h1 h.1))
    have H1 := Lib.hid h1
    clear HNO h1
    go_enter Try.func40, Try.ntmps40
    go_wp2_with fail
    refine (iinr_f nodes 1 12 _ H1.out).mono ?_
    rintro e w1 ⟨rfl, rfl⟩
    go_wp2_with fail
    go_ret
    exact HR.out
  case pos =>
    obtain ⟨h2, h3⟩ := h1
    have hwn : wrap64 (nodes - 1) = nodes - 1 := by unfold wrap64; omega
    by_cases h4 : 0 ≤ dst ∧ dst ≤ nodes - 1
    case neg =>
      have HR := Lib.hid (HNO.out (decide_eq_false fun h => h4 (by omega)))
      have H4 := Lib.hid h4
      clear HNO h4
      go_enter Try.func40, Try.ntmps40
      go_wp2_with fail
      refine (iinr_t nodes 1 12 _ h2 h3).mono ?_
      rintro e w1 ⟨rfl, rfl⟩
      go_wp2_with fail
      refine (iinr_f dst 0 (nodes - 1) _ H4.out).mono ?_
      rintro e w2 ⟨rfl, rfl⟩
      go_wp2_with fail
      go_ret
      exact HR.out
    case pos =>
      obtain ⟨h5, h6⟩ := h4
      clear HNO
      obtain ⟨N, hN⟩ : ∃ N : Nat, (N : Int) = nodes := ⟨nodes.toNat, by omega⟩
      obtain ⟨s, hs⟩ : ∃ s : Nat, (s : Int) = dst := ⟨dst.toNat, by omega⟩
      subst hN hs
      have hN1 : 1 ≤ N ∧ N ≤ 12 := by omega
      have hs1 : s < N := by omega
      have HDA : Hid (distA l (N : Int) f (s : Int) = distL l N f s) := Lib.hid (by unfold distA; rw [if_pos (show okP (N : Int) (s : Int) = true from decide_eq_true ⟨⟨h2, h3⟩, h5, h6⟩)]; simp)
      obtain ⟨W1, hW1⟩ : ∃ W, W = w.alloc (.cells #[.int .i64 (-1)] 3) := ⟨_, rfl⟩
      have HSL : Hid (Sl W1 W1.heap.size 1 (some ⟨w.heap.size, 0, none⟩) 1 1 [.int .i64 (-1)]) := Lib.hid (by rw [hW1]; exact (Sl.one w (.int .i64 (-1)) 3).more (by simp))
      have HB1 : Hid (Below w.heap.size w W1) := Lib.hid (by rw [hW1]; exact (Below.refl _ _).alloc (Nat.le_refl _) _)
      go_enter Try.func40, Try.ntmps40
      go_wp2_with fail
      refine (iinr_t (N : Int) 1 12 _ h2 h3).mono ?_
      rintro e w1 ⟨rfl, rfl⟩
      go_wp2_with fail
      refine (iinr_t (s : Int) 0 ((N : Int) - 1) _ h5 h6).mono ?_
      rintro e w2 ⟨rfl, rfl⟩
      go_wp2_with fail
      rw [← hW1]
      clear hW1
      refine (irep W1 W1.heap.size 1 N (some ⟨w.heap.size, 0, none⟩) (-1) HSL.out (Nat.le_refl _) (by omega)).mono ?_
      rintro e w3 ⟨rfl, o3, b3⟩
      obtain ⟨g, hg⟩ : ∃ g, g = W1.heap.size := ⟨_, rfl⟩
      rw [← hg] at o3
      have HO3 := Lib.hid o3; have HB3 := Lib.hid b3; have HG := Lib.hid hg
      rw [← hg]
      clear o3 b3 hg HSL
      go_upto_region 4 with fail
      obtain ⟨W4, hW4⟩ : ∃ W, W = w3.alloc (.cells #[.slice A n c, .int .i64 f, .int .i64 (s : Int), .slice (some ⟨g, 0, none⟩) N N] 90) := ⟨_, rfl⟩
      obtain ⟨pb, hpb⟩ : ∃ p, p = w3.heap.size := ⟨_, rfl⟩
      rw [← hW4, ← hpb]
      have b4 : Below w3.heap.size w3 W4 := by rw [hW4]; exact (Below.refl _ _).alloc (Nat.le_refl _) _
      have HP4 : Hid (Blk W4 pb 90 (pcells A n c f (s : Int) (some ⟨g, 0, none⟩) N N)) := Lib.hid (by rw [hW4, hpb]; exact Blk.new _ _ _)
      have o4 := HO3.out.on b4
      have hgl : g < w3.heap.size := by rcases HO3.out.form with ⟨h1, _⟩ | ⟨g', h1, _, h2, _⟩; · cases h1
                                        · injection h1 with h1; cases h1; exact h2
      have HGP : Hid (g < pb) := Lib.hid (by omega)
      have HB4 : Hid (Below w.heap.size w W4) := Lib.hid ((HB1.out.trans (HB3.out.mono HB1.out.size)).trans (b4.mono (by have := HB1.out.size; have := HB3.out.size; omega)))
      have HWG : Hid (w.heap.size ≤ g) := Lib.hid (by have := HB1.out.size; have := HG.out; omega)
      have hsl : s < (List.replicate N (-1 : Int)).length := by simpa using hs1
      obtain ⟨q1, q2⟩ := o4.cellI s hsl
      simp only [List.getElem_replicate] at q1
      have e3 : W4.cell? ⟨pb, 3, none⟩ = some (.slice (some ⟨g, 0, none⟩) N N) := HP4.out.cell 3
      obtain ⟨o5, g5⟩ := o4.storeI s 0
      have hsN : (s : Int) < (N : Int) := by omega
      obtain ⟨W5, hW5⟩ : ∃ W, W = W4.setCell ⟨g, s, none⟩ (.int .i64 0) := ⟨_, rfl⟩
      rw [← hW5] at o5 g5
      have HO5 := Lib.hid (o5.fewer HWG.out)
      have HP5 : Hid (Blk W5 pb 90 (pcells A n c f (s : Int) (some ⟨g, 0, none⟩) N N)) := Lib.hid (HP4.out.grownQ' g5 (by have := HGP.out; omega))
      have HB5 : Hid (Below w.heap.size w W5) := Lib.hid (HB4.out.grown g5 HB4.out.size (fun k e => by injection e with e; have := HWG.out; omega))
      have HPB := Lib.hid hpb
      clear b4 o4 o5 g5 hW4 hpb hgl hsl
      go_upto_region 5 with fail
      rw [← hW5]
      clear hW5 q1 q2 e3 HP4 HB4 HO3 HB3
      go_upto_region 6 with fail
      obtain ⟨W6, hW6⟩ : ∃ W, W = W5.alloc (.cells #[.int .i64 0, .int .i64 0, .int .i64 0, .int .i64 0, .int .i64 0, .int .i64 0, .int .i64 0, .int .i64 0, .int .i64 0, .int .i64 0, .int .i64 0, .int .i64 0, .int .i64 0] 93) := ⟨_, rfl⟩
      obtain ⟨q, hq⟩ : ∃ p, p = W5.heap.size := ⟨_, rfl⟩
      rw [← hW6, ← hq]
      have b6 : Below W5.heap.size W5 W6 := by rw [hW6]; exact (Below.refl _ _).alloc (Nat.le_refl _) _
      have HR6 : Hid (RgW W6 q []) := Lib.hid (by
        rw [hW6, hq]
        exact ⟨List.replicate 11 0, 0, ⟨by simp, by omega, Blk.new _ _ _⟩, fun j hj => by simp at hj⟩)
      have HO6 := Lib.hid (HO5.out.on b6)
      have HP6 := Lib.hid (HP5.out.below b6 HP5.out.lt)
      have HB6 : Hid (Below w.heap.size w W6) := Lib.hid (HB5.out.trans (b6.mono HB5.out.size))
      have HGQ : Hid (w.heap.size ≤ g ∧ w.heap.size ≤ q ∧ g ≠ q ∧ pb ≠ g ∧ pb ≠ q) := Lib.hid (by have h1 := HWG.out; have h2 := HP5.out.lt; have h3 := HGP.out; omega)
      clear b6 hW6 hq HO5 HP5 HB5 HGP HWG HPB HG HB1
      go_wp2_with fail
      refine (iputW W6 q [] (s : Int) HR6.out (by simp)).mono ?_
      rintro e w7 ⟨rfl, r7, t7⟩
      have HT67 : Hid (Two g q W6 w7) := Lib.hid (Two.of_turn t7)
      have HO7 : Hid (Own w7 w.heap.size 3 1 (some ⟨g, 0, none⟩) N N (iv ((List.replicate N (-1)).set s 0))) := Lib.hid (HO6.out.kept t7.grownBy (.inr (by have := HGQ.out; simp [Value.ownBlock]; omega)))
      have HP7 : Hid (Blk w7 pb 90 (pcells A n c f (s : Int) (some ⟨g, 0, none⟩) N N)) := Lib.hid (HT67.out.blk HP6.out HGQ.out.2.2.2.1 HGQ.out.2.2.2.2)
      have HB7 : Hid (Below w.heap.size w w7) := Lib.hid (HB6.out.trans (HT67.out.below HB6.out.size HGQ.out.1 HGQ.out.2.1))
      have HST : Hid (DSt l N f (s : Int) w.heap.size g q w7 w7 N) := Lib.hid ⟨(List.replicate N (-1)).set s 0, [(s : Int)], 0, HO7.out, by
          have e : wq f (s : Int) [(s : Int)] 0 = [] ++ [(s : Int)] := by unfold wq; simp [Rel]
          rw [e]; exact r7, by have h := Bfs.start (L := l) (n := N) (f := f) (dst := (s : Int)) ⟨by omega, by omega⟩; rwa [show ((s : Int).toNat) = s by omega] at h, by simp, fun y => by
          have h := atD_set (List.replicate N (-1)) (s : Int) 0 y (by omega) (by simp; omega)
          rw [show ((s : Int).toNat) = s by omega] at h
          rw [h, atD_rep]; split <;> simp, Two.refl _ _ _, rfl⟩
      clear HR6 HO6 HP6 HB6 HT67 HO7 r7 t7
      go_wp2_with fail
      go_loopw [] (fun wr => ∃ m, DSt l N f (s : Int) w.heap.size g q w7 wr m) (fun wr => leastOf (DSt l N f (s : Int) w.heap.size g q w7 wr))
      case atStart => exact ⟨N, HST.out⟩
      case round =>
        clear HST
        have hsp := leastOf_spec hrel
        obtain ⟨m0, hm0⟩ : ∃ m, m = leastOf (DSt l N f (s : Int) w.heap.size g q w7 wr) := ⟨_, rfl⟩
        rw [← hm0] at hsp
        obtain ⟨d, todo, k, ho, hr, hbf, hk, hu, ht, hm⟩ := hsp
        have HO := Lib.hid ho; have HR := Lib.hid hr; have HBF := Lib.hid hbf; have HK := Lib.hid hk; have HU := Lib.hid hu; have HT := Lib.hid ht
        have HM : Hid (leastOf (DSt l N f (s : Int) w.heap.size g q w7 wr) = N - k) := Lib.hid (by rw [← hm0, hm])
        have HPR : Hid (∀ wx, Two g q w7 wx → wx.cell? ⟨pb, 0, none⟩ = some (.slice A n c) ∧ wx.cell? ⟨pb, 1, none⟩ = some (.int .i64 f) ∧ wx.cell? ⟨pb, 2, none⟩ = some (.int .i64 (s : Int)) ∧ wx.cell? ⟨pb, 3, none⟩ = some (.slice (some ⟨g, 0, none⟩) N N)) := Lib.hid fun wx hx => by
          have h := hx.blk HP7.out HGQ.out.2.2.2.1 HGQ.out.2.2.2.2
          exact ⟨h.cell 0, h.cell 1, h.cell 2, h.cell 3⟩
        obtain ⟨e0, e1, e2, e3⟩ := HPR.out wr HT.out
        have hcnt := HR.out.count
        clear hrel hm0 hm ho hr hbf hk hu ht
        rcases hwq : wq f (s : Int) todo k with _ | ⟨a, rest⟩
        case nil =>
          have HF : Hid (GivesIM w (distA l (N : Int) f (s : Int)) (.returned (.slice (some ⟨g, 0, none⟩) N N)) wr) := Lib.hid ⟨_, _, _, rfl, by
            rw [HDA.out, (HBF.out.skip _ k rfl HK.out hwq).fin.eq]
            exact HO.out, HB7.out.trans (HT.out.below HB7.out.size HGQ.out.1 HGQ.out.2.1)⟩
          rw [hwq] at hcnt
          simp only [List.length_nil] at hcnt
          clear hwq HO HR HBF HK HU HT HM HPR
          go_wp2_with fail
          go_ret
          exact HF.out
        case cons =>
          obtain ⟨k', hkk, hk1, hbf', hk2, hrel, hw2⟩ := HBF.out.pop _ k rfl HK.out a rest hwq
          have HBF2 := Lib.hid hbf'; have HK2 := Lib.hid hk2; have HREL := Lib.hid hrel
          have HRL : Hid (rest.length < 100) := Lib.hid (by
            have h1 := wq_len f (s : Int) todo (k' + 1)
            rw [hw2] at h1
            have h2 := HBF.out.few
            omega)
          have HKK : Hid (k ≤ k' ∧ k' < N) := Lib.hid ⟨hkk, by have h2 := HBF.out.few; omega⟩
          have HR1 : Hid (RgW wr.drew q (a :: rest)) := Lib.hid (by rw [← hwq]; exact HR.out.same rfl)
          have HRW : Hid (rest = wq f (s : Int) todo (k' + 1)) := Lib.hid hw2.symm
          rw [hwq] at hcnt
          obtain ⟨cn, hcn⟩ : ∃ x, x = (a :: rest).length := ⟨_, rfl⟩
          rw [← hcn] at hcnt
          have hc0 : (0 : Int) < (cn : Int) := by rw [hcn]; simp
          have HTD : Hid (Two g q w7 wr.drew) := Lib.hid HT.out.drew
          obtain ⟨d0, d1, d2, d3⟩ := HPR.out wr.drew HTD.out
          have HOD : Hid (Own wr.drew w.heap.size 3 1 (some ⟨g, 0, none⟩) N N (iv d)) := Lib.hid (HO.out.on ((Below.refl _ _).drew))
          have hmf : ∀ (fn : Fn) (first cap : Array Value) (w : World), (Instr.makeFunc fn first cap).run Try.prog w = .ok (.func fn first cap) w := fun _ _ _ _ => rfl
          clear hcn hkk hk1 hbf' hk2 hrel hw2 hwq HBF HK HR HO HT
          go_wp2_with fail
          go_region_held3 (fun w' => w'.cell? ⟨pb, 0, none⟩ = some (.slice A n c) ∧ w'.cell? ⟨pb, 1, none⟩ = some (.int .i64 f) ∧ w'.cell? ⟨pb, 2, none⟩ = some (.int .i64 (s : Int)) ∧ w'.cell? ⟨pb, 3, none⟩ = some (.slice (some ⟨g, 0, none⟩) N N)) (first | exact ⟨d0, d1, d2, d3⟩ | exact HE8 | exact HE9 | go_keep) (first
            | (go_at_call 72; refine (itakeW wr.drew q a rest HR1.out HRL.out).mono ?_; rintro e w8 ⟨rfl, r8, t8⟩; have HR8 := Lib.hid r8; have HT8 : Hid (Two g q w7 w8) := Lib.hid (HTD.out.trans (Two.of_turn t8)); have HO8 : Hid (Own w8 w.heap.size 3 1 (some ⟨g, 0, none⟩) N N (iv d)) := Lib.hid (HOD.out.kept t8.grownBy (.inr (by have := HGQ.out; simp [Value.ownBlock]; omega))); have HE8 := HPR.out w8 HT8.out; clear r8 t8)
            | (go_at_call 71; refine (ispread w8 D w.heap.size g q N A n c l f (s : Int) a d todo k' (HS.out.below (HB7.out.trans (HT8.out.below HB7.out.size HGQ.out.1 HGQ.out.2.1)) hD) hD hn ⟨HGQ.out.1, HGQ.out.2.1, HGQ.out.2.2.1⟩ HO8.out (by rw [← HRW.out]; exact HR8.out) HBF2.out HK2.out HREL.out HU.out hN1.2).mono ?_; rintro e w9 ⟨rfl, d9, td9, o9, r9, bf9, k9, u9, t9⟩; have HE9 := HPR.out w9 (HT8.out.trans t9); have HD9 : Hid (DSt l N f (s : Int) w.heap.size g q w7 w9 (N - (k' + 1))) := Lib.hid ⟨d9, td9, k' + 1, o9, r9, bf9, k9, u9, HT8.out.trans t9, rfl⟩; clear o9 r9 bf9 k9 u9 t9 HR8 HT8 HO8))
          all_goals
            go_wp2_with fail
            go_roundw
            case rel => exact ⟨_, HD9.out⟩
            case measure =>
              have h1 := leastOf_le HD9.out
              have h2 := HM.out; have h3 := HKK.out
              omega
end Go.Proofs.Ytjobjjmeneddnaa
