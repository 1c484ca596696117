/- The contracts of chapter 2's ReadBytes and DecodeInts, of the program and of the model. -/
import Derived.Test.YtpfkijmicmampaaDecode2
namespace Go.Proofs.Ytpfkijmicmampaa
open Go.ChangeShapes Go.WideShapes Go.ChangeAt Go.RowKit
set_option linter.unusedVariables false
/-- what ReadBytes answers -/
def rbAt (l : List Nat) (off most : Int) : List Nat × Int × Bool :=
  if (rdAt l off).2.2 = true ∧ (rdAt l off).1 ≤ most ∧ (rdAt l off).1 ≤ l.length - (rdAt l off).2.1 then ((l.drop (rdAt l off).2.1.toNat).take (rdAt l off).1.toNat, (rdAt l off).2.1 + (rdAt l off).1, true) else ([], 0, false)
def GivesB (w : World) (r : List Nat × Int × Bool) (e : Ending) (w' : World) : Prop :=
  (∃ A' n' c' ys nx ok, r = (ys, nx, ok) ∧ e = .returned (.tuple #[.slice A' n' c', .int .i64 nx, .bool ok]) ∧ Own w' w.heap.size 5 1 A' n' c' (bv ys)) ∧ Below w.heap.size w w'
theorem rbAt_no (l : List Nat) (off most v nx : Int) (ok : Bool) (h : rdAt l off = (v, nx, ok)) (hn : ¬ (ok = true ∧ v ≤ most ∧ v ≤ l.length - nx)) : rbAt l off most = ([], 0, false) := by
  unfold rbAt; rw [h]; exact if_neg hn
theorem rbAt_yes (l : List Nat) (off most : Int) (v nx : Nat) (h : rdAt l off = ((v : Int), (nx : Int), true)) (h1 : (v : Int) ≤ most) (h2 : nx + v ≤ l.length) : rbAt l off most = ((l.drop nx).take v, ((nx + v : Nat) : Int), true) := by
  unfold rbAt; rw [h]
  rw [if_pos ⟨rfl, h1, by simp only; omega⟩]
  simp
theorem rbAt_byte (l : List Nat) (off most : Int) (hb : ∀ b ∈ l, b < 256) : ∀ b ∈ (rbAt l off most).1, b < 256 := by
  unfold rbAt; split
  · intro b h; exact hb b (List.mem_of_mem_drop (List.mem_of_mem_take h))
  · simp
theorem rbAt_len (l : List Nat) (off most : Int) : (rbAt l off most).1.length ≤ l.length := by
  unfold rbAt; split
  · simp only [List.length_take, List.length_drop]; omega
  · simp
theorem GivesB.eq {w w' : World} {r : List Nat × Int × Bool} {e : Ending} (h : GivesB w r e w') {ys : List Nat} {nx : Int} {ok : Bool} (hr : r = (ys, nx, ok)) :
    (∃ A' n' c', e = .returned (.tuple #[.slice A' n' c', .int .i64 nx, .bool ok]) ∧ Own w' w.heap.size 5 1 A' n' c' (bv ys)) ∧ Below w.heap.size w w' := by
  obtain ⟨⟨A', n', c', ys', nx', ok', hr', he, ho⟩, hb⟩ := h
  have hh := hr.symm.trans hr'
  injection hh with q1 q2; injection q2 with q2 q3
  subst q1 q2 q3
  exact ⟨⟨A', n', c', he, ho⟩, hb⟩
/-- nothing is read -/
theorem givesB_no {w w1 : World} {r : List Nat × Int × Bool} (hb : Below w.heap.size w w1) (h : r = ([], 0, false)) :
    GivesB w r (.returned (.tuple #[.slice (some ⟨w1.heap.size, 0, none⟩) 0 0, .int .i64 0, .bool false])) (w1.alloc (.cells #[] 5)) :=
  ⟨⟨_, 0, 0, [], 0, false, h, rfl, Own.lit w1 w.heap.size 5 #[] 0 hb.size (by omega) rfl⟩, hb.trans (((Below.refl w1.heap.size w1).alloc (Nat.le_refl _) _).mono hb.size)⟩
/-- a part of a slice of bytes, wherever its address lies if it is empty -/
theorem Sl.sub0 {w : World} {D n c : Nat} {ad : Addr} {l : List Nat} (h : Sl w D 1 (some ad) n c (bv l)) (ad' : Addr) (o m m' : Nat) (ho : o + m ≤ n) (hm : m ≤ m') (hm' : m' ≤ 9223372036854775807) (had : 0 < m → ad' = ad.add o) : Sl w D 1 (some ad') m m' (bv ((l.drop o).take m)) := by
  rcases Nat.eq_zero_or_pos m with rfl | hp
  · exact ⟨by simp [bv], fun hl => by simp [bv] at hl, hm, hm', fun e => by cases e⟩
  · rw [had hp]; exact h.sub o m m' ho hm hm'
set_option maxRecDepth 100000 in
theorem ireadB (w : World) (D : Nat) (A : Option Addr) (n c : Nat) (l : List Nat) (h : Sl w D 1 A n c (bv l)) (hD : D ≤ w.heap.size) (hn : n ≤ 1000000000) (hb : ∀ b ∈ l, b < 256) (off : Int) (h0 : -9223372036854775808 ≤ off) (h1 : off ≤ 9223372036854775807) (most : Int) (m0 : -9223372036854775808 ≤ most) (m1 : most ≤ 9223372036854775807) :
    Calls Try.prog 22 #[.slice A n c, .int .i64 off, .int .i64 most] w (GivesB w (rbAt l off most)) := by
  have hlen := h.len
  rw [bv_len, Nat.mul_one] at hlen
  have Hl := Lib.hid hlen; clear hlen
  have hcap := h.cap; have hcapm := h.capm
  go_enter Try.func22, Try.ntmps22
  go_wp2_with fail
  refine (iread w D A n c l h hD hn hb off h0 h1).mono ?_
  rintro e w1 ⟨⟨v, nx, ok, hr, rfl⟩, hb1⟩
  have HB1 := Lib.hid hb1
  have hs := h.below hb1 hD
  have hsz := hb1.size
  clear hb1
  have HN := Lib.hid (rbAt_no l off most v nx ok hr)
  rcases rdAt_cases l off hb hr with ⟨rfl, rfl, rfl⟩ | ⟨rfl, o, v', k, rfl, rfl, rfl, hk1, hk2, hk3, hv, -⟩
  · have HR := Lib.hid (HN.out (by simp))
    clear HN hr
    go_wp2
    go_ret3
    exact givesB_no HB1.out HR.out
  · have hkl : o + k ≤ n := by have := Hl.out; omega
    have HY := Lib.hid (rbAt_yes l o most v' (o + k) hr)
    clear hr
    obtain ⟨ad, hx, rfl, had, -⟩ := h.at_ (show o < n by omega)
    by_cases hm : (v' : Int) ≤ most
    · by_cases hf : o + k + v' ≤ n
      · have HR := Lib.hid (HY.out hm (by rw [Hl.out]; exact hf))
        clear HY HN
        rcases Nat.eq_zero_or_pos v' with rfl | hv0
        · go_wp2_with fail
          refine (icopy w1 D (some ad) 0 0 ((l.drop (o + k)).take 0) (hs.sub0 ad (o + k) 0 0 (by omega) (by omega) (by omega) (by omega)) (by omega) (by omega)).mono ?_
          rintro e w2 ⟨⟨A2, c2, rfl, ho2⟩, hb2⟩
          have HO2 := Lib.hid (ho2.fewer hsz); have HB2 := Lib.hid (HB1.out.trans (hb2.mono hsz))
          clear ho2 hb2
          go_wp2
          go_ret3
          exact ⟨⟨A2, 0, c2, _, _, true, HR.out, rfl, HO2.out⟩, HB2.out⟩
        · go_wp2_with fail
          refine (icopy w1 D (some (ad.add (o + k))) v' v' ((l.drop (o + k)).take v') (hs.sub (o + k) v' v' (by omega) (by omega) (by omega)) (by omega) (by omega)).mono ?_
          rintro e w2 ⟨⟨A2, c2, rfl, ho2⟩, hb2⟩
          have HO2 := Lib.hid (ho2.fewer hsz); have HB2 := Lib.hid (HB1.out.trans (hb2.mono hsz))
          clear ho2 hb2
          go_wp2
          go_ret3
          exact ⟨⟨A2, v', c2, _, _, true, HR.out, rfl, HO2.out⟩, HB2.out⟩
      · have HR := Lib.hid (HN.out (by rw [Hl.out]; omega))
        clear HN HY
        go_wp2
        go_ret3
        exact givesB_no HB1.out HR.out
    · have HR := Lib.hid (HN.out (by omega))
      clear HN HY
      go_wp2
      go_ret3
      exact givesB_no HB1.out HR.out
set_option maxRecDepth 100000 in
theorem sreadB (w : World) (D : Nat) (A : Option Addr) (n c : Nat) (l : List Nat) (h : Sl w D 1 A n c (bv l)) (hD : D ≤ w.heap.size) (hn : n ≤ 1000000000) (hb : ∀ b ∈ l, b < 256) (off : Int) (h0 : -9223372036854775808 ≤ off) (h1 : off ≤ 9223372036854775807) (most : Int) (m0 : -9223372036854775808 ≤ most) (m1 : most ≤ 9223372036854775807) :
    Calls Try.prog 33 #[.slice A n c, .int .i64 off, .int .i64 most] w (GivesB w (rbAt l off most)) := by
  obtain ⟨i0, hi, hy0, hy1, hy2⟩ := info_parts u8_info
  have hlen := h.len
  rw [bv_len, Nat.mul_one] at hlen
  have Hl := Lib.hid hlen; clear hlen
  have hcap := h.cap; have hcapm := h.capm
  go_enter Try.func33, Try.ntmps33
  go_wp2_with fail
  refine (sread w D A n c l h hn hb off h0 h1).mono ?_
  rintro e w1 ⟨⟨v, nx, ok, hr, rfl⟩, rfl⟩
  have HB1 := Lib.hid (Below.refl w.heap.size w)
  have HN := Lib.hid (rbAt_no l off most v nx ok hr)
  rcases rdAt_cases l off hb hr with ⟨rfl, rfl, rfl⟩ | ⟨rfl, o, v', k, rfl, rfl, rfl, hk1, hk2, hk3, hv, -⟩
  · have HR := Lib.hid (HN.out (by simp))
    clear HN hr
    go_wp2
    go_ret3
    exact givesB_no HB1.out HR.out
  · have hkl : o + k ≤ n := by have := Hl.out; omega
    have HY := Lib.hid (rbAt_yes l o most v' (o + k) hr)
    clear hr
    obtain ⟨ad, hx, rfl, had, -⟩ := h.at_ (show o < n by omega)
    by_cases hm : (v' : Int) ≤ most
    · by_cases hf : o + k + v' ≤ n
      · have HR := Lib.hid (HY.out hm (by rw [Hl.out]; exact hf))
        clear HY HN
        have H0 := Lib.hid (Own.lit w w.heap.size 5 #[] 0 (Nat.le_refl _) (by omega) rfl)
        have HB0 := Lib.hid ((Below.refl w.heap.size w).alloc (Nat.le_refl _) (.cells #[] 5))
        have Hs := Lib.hid (h.below HB0.out hD)
        by_cases hc : c = o + k
        · have hv0 : v' = 0 := by omega
          subst hv0 hc
          go_wp2_with (at_builtin; refine wpList_append_sl _ rfl (.tmp 35) (.tmp 41) 22 rfl w.heap.size 5 i0 _ 1 1 Try.underlying22 hi hy0 hy1 hy2 rfl (by omega) _ 0 0 [] rfl H0.out D (some ad) 0 _ (bv ((l.drop (o + k)).take 0)) rfl (Hs.out.sub0 ad (o + k) 0 _ (by omega) (by omega) (by omega) (by omega)) (bv_one _) (by omega) (by omega) (by simp) ?_; intro A2 c2 w2 hown hg hat)
          have HB2 := Lib.hid (H0.out.below HB0.out (by simp) hg)
          have HO2 := Lib.hid hown
          clear hown hg hat H0 HB0
          go_wp2
          go_ret3
          exact ⟨⟨A2, _, c2, _, _, true, HR.out, rfl, HO2.out⟩, HB2.out⟩
        · have hc' : o + k < c := by omega
          have Hs2 : Hid (Sl (w.alloc (.cells #[] 5)) D 1 (some (ad.add (o + k))) (o + k + v' - (o + k)) (c - (o + k)) (bv ((l.drop (o + k)).take v'))) :=
            Lib.hid (by rw [Nat.add_sub_cancel_left]; exact Hs.out.sub (o + k) v' (c - (o + k)) (by omega) (by omega) (by omega))
          go_wp2_with (at_builtin; refine wpList_append_sl _ rfl (.tmp 35) (.tmp 41) 22 rfl w.heap.size 5 i0 _ 1 1 Try.underlying22 hi hy0 hy1 hy2 rfl (by omega) _ 0 0 [] rfl H0.out D (some (ad.add (o + k))) (o + k + v' - (o + k)) (c - (o + k)) (bv ((l.drop (o + k)).take v')) rfl Hs2.out (bv_one _) (by omega) (by omega) (by simp) ?_; intro A2 c2 w2 hown hg hat)
          have HB2 := Lib.hid (H0.out.below HB0.out (by simp) hg)
          simp only [Nat.zero_add, List.nil_append, Nat.add_sub_cancel_left] at hown
          have HO2 := Lib.hid hown
          clear hown hg hat H0 HB0
          go_wp2
          go_ret3
          exact ⟨⟨A2, _, c2, _, _, true, HR.out, rfl, HO2.out⟩, HB2.out⟩
      · have HR := Lib.hid (HN.out (by rw [Hl.out]; omega))
        clear HN HY
        go_wp2
        go_ret3
        exact givesB_no HB1.out HR.out
    · have HR := Lib.hid (HN.out (by omega))
      clear HN HY
      go_wp2
      go_ret3
      exact givesB_no HB1.out HR.out
/-- n varints from an offset on -/
def dec (l : List Nat) : Nat → Int → Option (List Int × Int)
  | 0, off => some ([], off)
  | n + 1, off => if (rdAt l off).2.2 = true then (dec l n (rdAt l off).2.1).map (fun p => ((rdAt l off).1 :: p.1, p.2)) else none
/-- what DecodeInts answers -/
def diAt (l : List Nat) (off cnt : Int) : List Int × Int × Bool :=
  if 0 ≤ cnt ∧ cnt ≤ 100 ∧ 0 ≤ off ∧ off ≤ l.length then
    match dec l cnt.toNat off with
    | some p => (p.1, p.2, true)
    | none => ([], 0, false)
  else ([], 0, false)
/-- what is still to come, behind what has been read -/
def More (l : List Nat) (m : Nat) (cur : Int) (acc : List Int) (r : Option (List Int × Int)) : Prop := (dec l m cur).map (fun p => (acc ++ p.1, p.2)) = r
theorem More.start (l : List Nat) (n : Nat) (off : Int) : More l n off [] (dec l n off) := by
  unfold More; cases dec l n off <;> simp
theorem More.step {l : List Nat} {m : Nat} {cur : Int} {acc : List Int} {r : Option (List Int × Int)} (h : More l (m + 1) cur acc r) {v nx : Int} (hr : rdAt l cur = (v, nx, true)) : More l m nx (acc ++ [v]) r := by
  unfold More at h ⊢
  rw [dec, hr] at h
  simp only [if_true] at h
  rw [← h]
  cases dec l m nx <;> simp
theorem More.stop {l : List Nat} {m : Nat} {cur : Int} {acc : List Int} {r : Option (List Int × Int)} (h : More l (m + 1) cur acc r) {v nx : Int} (hr : rdAt l cur = (v, nx, false)) : r = none := by
  unfold More at h
  rw [dec, hr] at h
  simpa using h.symm
theorem More.done {l : List Nat} {cur : Int} {acc : List Int} {r : Option (List Int × Int)} (h : More l 0 cur acc r) : r = some (acc, cur) := by
  unfold More at h
  rw [← h]; simp [dec]
theorem diAt_out (l : List Nat) (off cnt : Int) (h : ¬ (0 ≤ cnt ∧ cnt ≤ 100 ∧ 0 ≤ off ∧ off ≤ l.length)) : diAt l off cnt = ([], 0, false) := by unfold diAt; rw [if_neg h]
theorem diAt_none (l : List Nat) (off cnt : Int) (h : dec l cnt.toNat off = none) : diAt l off cnt = ([], 0, false) := by
  unfold diAt; split
  · rw [h]
  · rfl
theorem diAt_some (l : List Nat) (off cnt : Int) (h0 : 0 ≤ cnt ∧ cnt ≤ 100 ∧ 0 ≤ off ∧ off ≤ l.length) (p : List Int × Int) (h : dec l cnt.toNat off = some p) : diAt l off cnt = (p.1, p.2, true) := by
  unfold diAt; rw [if_pos h0, h]
theorem dec_range (l : List Nat) (hb : ∀ b ∈ l, b < 256) (n : Nat) (off : Int) (p : List Int × Int) (h : dec l n off = some p) : ∀ z ∈ p.1, 0 ≤ z ∧ z ≤ 1000000000000 := by
  induction n generalizing off p with
  | zero => rw [dec] at h; injection h with h; subst h; simp
  | succ n ih =>
    rw [dec] at h
    by_cases hok : (rdAt l off).2.2 = true
    · rw [if_pos hok] at h
      cases hd : dec l n (rdAt l off).2.1 with
      | none => rw [hd] at h; cases h
      | some q =>
        rw [hd] at h; injection h with h; subst h
        intro z hz
        rcases List.mem_cons.1 hz with rfl | hz
        · rcases rdAt_cases l off hb (v := (rdAt l off).1) (nx := (rdAt l off).2.1) (ok := (rdAt l off).2.2) rfl with ⟨e, _⟩ | ⟨_, o, n', k, _, e, _, _, _, _, hn, _⟩
          · rw [e] at hok; cases hok
          · rw [e]; omega
        · exact ih _ q hd z hz
    · rw [if_neg hok] at h; cases h
theorem diAt_range (l : List Nat) (hb : ∀ b ∈ l, b < 256) (off cnt : Int) : ∀ z ∈ (diAt l off cnt).1, -9223372036854775808 ≤ z ∧ z ≤ 9223372036854775807 := by
  unfold diAt
  split
  · cases h : dec l cnt.toNat off with
    | none => simp
    | some p => intro z hz; have := dec_range l hb _ _ p h z hz; omega
  · simp
theorem dec_len (l : List Nat) (n : Nat) (off : Int) (p : List Int × Int) (h : dec l n off = some p) : p.1.length = n := by
  induction n generalizing off p with
  | zero => rw [dec] at h; injection h with h; subst h; rfl
  | succ n ih =>
    rw [dec] at h
    by_cases hok : (rdAt l off).2.2 = true
    · rw [if_pos hok] at h
      cases hd : dec l n (rdAt l off).2.1 with
      | none => rw [hd] at h; cases h
      | some q =>
        rw [hd] at h; injection h with h; subst h
        simp [ih _ q hd]
    · rw [if_neg hok] at h; cases h
theorem diAt_len (l : List Nat) (off cnt : Int) : (diAt l off cnt).1.length ≤ 100 := by
  unfold diAt
  split
  · cases h : dec l cnt.toNat off with
    | none => simp
    | some p => have := dec_len l _ _ p h; simp only; omega
  · simp
def GivesI (w : World) (r : List Int × Int × Bool) (e : Ending) (w' : World) : Prop :=
  (∃ A' n' c' ys nx ok, r = (ys, nx, ok) ∧ e = .returned (.tuple #[.slice A' n' c', .int .i64 nx, .bool ok]) ∧ Own w' w.heap.size 3 1 A' n' c' (iv ys)) ∧ Below w.heap.size w w'
theorem GivesI.eq {w w' : World} {r : List Int × Int × Bool} {e : Ending} (h : GivesI w r e w') {ys : List Int} {nx : Int} {ok : Bool} (hr : r = (ys, nx, ok)) :
    (∃ A' n' c', e = .returned (.tuple #[.slice A' n' c', .int .i64 nx, .bool ok]) ∧ Own w' w.heap.size 3 1 A' n' c' (iv ys)) ∧ Below w.heap.size w w' := by
  obtain ⟨⟨A', n', c', ys', nx', ok', hr', he, ho⟩, hb⟩ := h
  have hh := hr.symm.trans hr'
  injection hh with q1 q2; injection q2 with q2 q3
  subst q1 q2 q3
  exact ⟨⟨A', n', c', he, ho⟩, hb⟩
theorem givesI_no {w w1 : World} {r : List Int × Int × Bool} (hb : Below w.heap.size w w1) (h : r = ([], 0, false)) :
    GivesI w r (.returned (.tuple #[.slice (some ⟨w1.heap.size, 0, none⟩) 0 0, .int .i64 0, .bool false])) (w1.alloc (.cells #[] 3)) :=
  ⟨⟨_, 0, 0, [], 0, false, h, rfl, Own.lit w1 w.heap.size 3 #[] 0 hb.size (by omega) rfl⟩, hb.trans (((Below.refl w1.heap.size w1).alloc (Nat.le_refl _) _).mono hb.size)⟩
set_option maxHeartbeats 400000 in
set_option maxRecDepth 100000 in
theorem idecI (w : World) (D : Nat) (A : Option Addr) (n c : Nat) (l : List Nat) (h : Sl w D 1 A n c (bv l)) (hD : D ≤ w.heap.size) (hn : n ≤ 1000000000) (hb : ∀ b ∈ l, b < 256) (off : Int) (h0 : -9223372036854775808 ≤ off) (h1 : off ≤ 9223372036854775807) (cnt : Int) (m0 : -9223372036854775808 ≤ cnt) (m1 : cnt ≤ 9223372036854775807) :
    Calls Try.prog 25 #[.slice A n c, .int .i64 off, .int .i64 cnt] w (GivesI w (diAt l off cnt)) := by
  obtain ⟨i0, hi, hy0, hy1, hy2⟩ := info_parts i64_info
  have hlen := h.len
  rw [bv_len, Nat.mul_one] at hlen
  have Hl := Lib.hid hlen; clear hlen
  have hcap := h.cap; have hcapm := h.capm
  by_cases hc : 0 ≤ cnt ∧ cnt ≤ 100
  · obtain ⟨q, rfl⟩ := Int.eq_ofNat_of_zero_le hc.1
    have hq : q ≤ 100 := by omega
    by_cases hin : 0 ≤ off ∧ off ≤ n
    · have hin4 : Hid (0 ≤ (q : Int) ∧ (q : Int) ≤ 100 ∧ 0 ≤ off ∧ off ≤ l.length) := Lib.hid ⟨hc.1, hc.2, hin.1, by rw [Hl.out]; exact hin.2⟩
      obtain ⟨hin0, hin1⟩ := hin
      have HS : Hid (∀ p, dec l q off = some p → diAt l off q = (p.1, p.2, true)) := Lib.hid (diAt_some l off q hin4.out)
      have HN : Hid (dec l q off = none → diAt l off q = ([], 0, false)) := Lib.hid (diAt_none l off q)
      have HM := Lib.hid (More.start l q off)
      generalize dec l q off = r at HS HN HM
      have H0 : Hid (Own (w.alloc (.cells #[] 3)) w.heap.size 3 1 (some ⟨w.heap.size, 0, none⟩) 0 0 (iv []) ∧ Below w.heap.size w (w.alloc (.cells #[] 3))) :=
        Lib.hid ⟨Own.lit w w.heap.size 3 #[] 0 (Nat.le_refl _) (by omega) rfl, (Below.refl _ _).alloc (Nat.le_refl _) _⟩
      go_enter Try.func25, Try.ntmps25
      go_wp2_with fail
      refine (iinr_t _ _ _ _ (by omega) (by omega)).mono ?_
      rintro e w' ⟨rfl, rfl⟩
      go_wp2_with fail
      refine (iinr_t _ _ _ _ (by omega) (by omega)).mono ?_
      rintro e w' ⟨rfl, rfl⟩
      go_wp2_with fail
      go_loopw [1, 9, 26] (fun s v i wr => ∃ (cur : Int) (acc : List Int) (k m : Nat) (A1 : Option Addr) (n1 c1 : Nat), 0 ≤ cur ∧ cur ≤ n ∧ s = .int .i64 cur ∧ v = .slice A1 n1 c1 ∧ i = .int .i64 k ∧ k + m = q ∧ acc.length = k ∧ More l m cur acc r ∧ Own wr w.heap.size 3 1 A1 n1 c1 (iv acc) ∧ Below w.heap.size w wr) (fun _ _ i _ => q - (intOf i).toNat)
      case atStart => exact ⟨off, [], 0, q, _, _, _, hin0, hin1, rfl, rfl, rfl, by omega, rfl, HM.out, H0.out.1, H0.out.2⟩
      case round =>
        clear H0 HM
        obtain ⟨cur, acc, k, m, A1, n1, c1, hc0, hc1, rfl, rfl, rfl, hkm, hacc, hM, ho, hbw⟩ := hrel
        have hn1 : n1 = acc.length := by have := ho.len; rw [iv_len] at this; omega
        have hn1b : n1 ≤ 100 := by omega
        have Hacc := Lib.hid hacc; have Hn1 := Lib.hid hn1; have HM := Lib.hid hM; have HB := Lib.hid hbw; have HO := Lib.hid ho
        have hs := h.below hbw hD
        have hsz := hbw.size
        clear hacc hn1 hM hbw ho
        by_cases hlt : k < q
        · obtain ⟨m, rfl⟩ : ∃ m', m = m' + 1 := ⟨m - 1, by omega⟩
          go_wp2_with fail
          refine (iread wr D A n c l hs (by omega) hn hb cur (by omega) (by omega)).mono ?_
          rintro e w1 ⟨⟨v, nx, ok, hr, rfl⟩, hb1⟩
          have HB1 := Lib.hid (HB.out.trans (hb1.mono hsz))
          have HO1 := Lib.hid (HO.out.on hb1)
          have hsz1 := HB1.out.size
          clear hb1
          rcases rdAt_cases l cur hb hr with ⟨rfl, rfl, rfl⟩ | ⟨rfl, o, v', j, rfl, rfl, rfl, hk1, hk2, hk3, hv, -⟩
          · have HR := Lib.hid (HN.out (HM.out.stop hr))
            clear hr HM HN HS
            go_wp2
            go_ret3
            exact givesI_no HB1.out HR.out
          · have HM2 := Lib.hid (HM.out.step hr)
            clear hr HM
            have hjl : o + j ≤ n := by have := Hl.out; omega
            have HO2 := Lib.hid (HO1.out.on ((Below.refl w1.heap.size w1).alloc (Nat.le_refl _) (.cells #[.int .i64 (v' : Int)] 3)))
            have HB2 := Lib.hid (HB1.out.trans (((Below.refl w1.heap.size w1).alloc (Nat.le_refl _) (.cells #[.int .i64 (v' : Int)] 3)).mono hsz1))
            go_wp2_with (at_builtin; refine wpList_append_sl _ rfl (.tmp 38) (.tmp 40) 35 rfl w.heap.size 3 i0 _ 1 8 Try.underlying35 hi hy0 hy1 hy2 rfl (by omega) A1 n1 c1 _ rfl HO2.out (w1.heap.size + 1) _ 1 1 [.int .i64 (v' : Int)] rfl (Sl.one w1 _ _) (by simp [Value.oneCell']) (by omega) (by omega) (by simp; omega) ?_; intro A3 c3 w3 hown3 hg3 hat3)
            have HO3 : Hid (Own w3 w.heap.size 3 1 A3 (n1 + 1) c3 (iv (acc ++ [(v' : Int)]))) := Lib.hid (by rw [iv_app]; exact hown3)
            have HB3 := Lib.hid (HO2.out.below HB2.out (by simp; omega) hg3)
            clear hown3 hg3 hat3 HO HO1 HO2 HB HB1 HB2
            go_wp2
            go_roundw
            case rel => exact ⟨((o + j : Nat) : Int), _, k + 1, m, A3, n1 + 1, c3, by omega, by omega, by go_num, rfl, by go_num, by omega, by rw [List.length_append, Hacc.out]; rfl, HM2.out, HO3.out, HB3.out⟩
            case measure => simp [intOf]; omega
        · obtain rfl : m = 0 := by omega
          have HR := Lib.hid (HS.out _ HM.out.done)
          clear HM HS HN
          go_wp2
          go_ret3
          exact ⟨⟨A1, n1, c1, _, _, true, HR.out, rfl, HO.out⟩, HB.out⟩
    · have HR := Lib.hid (diAt_out l off q (fun e => hin ⟨e.2.2.1, by have := e.2.2.2; rw [Hl.out] at this; exact this⟩))
      have Hin := Lib.hid hin; clear hin
      go_enter Try.func25, Try.ntmps25
      go_wp2_with fail
      refine (iinr_t _ _ _ _ (by omega) (by omega)).mono ?_
      rintro e w' ⟨rfl, rfl⟩
      go_wp2_with fail
      refine (iinr_f _ _ _ _ Hin.out).mono ?_
      rintro e w' ⟨rfl, rfl⟩
      go_wp2_with fail
      go_ret3
      exact givesI_no (Below.refl _ _) HR.out
  · have HR := Lib.hid (diAt_out l off cnt (fun e => hc ⟨e.1, e.2.1⟩))
    have Hin := Lib.hid hc; clear hc
    go_enter Try.func25, Try.ntmps25
    go_wp2_with fail
    refine (iinr_f _ _ _ _ Hin.out).mono ?_
    rintro e w' ⟨rfl, rfl⟩
    go_wp2_with fail
    go_ret3
    exact givesI_no (Below.refl _ _) HR.out
end Go.Proofs.Ytpfkijmicmampaa
