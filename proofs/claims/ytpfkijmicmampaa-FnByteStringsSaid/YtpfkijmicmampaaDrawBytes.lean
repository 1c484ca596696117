/- The contracts of chapter 2's draws: bytes, and what is read and appended. -/
import Derived.Test.YtpfkijmicmampaaDrawInts
import Derived.Test.YtpfkijmicmampaaEncode2
namespace Go.Proofs.Ytpfkijmicmampaa
open Go.ChangeShapes Go.WideShapes Go.ChangeAt Go.RowKit
set_option linter.unusedVariables false
theorem Turn.grownBy {p : Nat} {w w' : World} (h : Turn p w w') : w.grownBy w' (some p) := ⟨h.os, h.tape, h.output, h.size, fun k hk hne => h.block k hk (fun e => hne (by rw [e]))⟩
/-- one's own, while the cursor is turned -/
theorem Own.turn {p : Nat} {w w' : World} {B s n c : Nat} {E : TypeId} {A : Option Addr} {xs : List Value} (h : Own w B E s A n c xs) (ht : Turn p w w') (hp : p < B) : Own w' B E s A n c xs := by
  refine h.kept ht.grownBy ?_
  rcases h.blk with e | ⟨g, e, hg, _⟩
  · exact .inl e
  · right; rw [e]; simp; omega
/-- the cursor, while one's own grows -/
theorem Cur.grown {w w' : World} {p : Nat} {A : Option Addr} {cap : Nat} {xs : List Value} {B s n c : Nat} {E : TypeId} {A' : Option Addr} {ys : List Value} (h : Cur w p A cap xs) (ho : Own w B E s A' n c ys) (hp : p < B) (hg : w.grownBy w' (Value.slice A' n c).ownBlock) : Cur w' p A cap xs := by
  refine h.turned fun k hk => hg.block k (by have := h.lt; omega) fun e => ?_
  rcases ho.blk with e2 | ⟨g, e2, hg2, _⟩
  · rw [e2] at e; cases e
  · rw [e2] at e; injection e with e; omega
theorem Turn.grown {p : Nat} {w w1 w' : World} {s n c : Nat} {E : TypeId} {A' : Option Addr} {ys : List Value} (h : Turn p w w1) (ho : Own w1 w.heap.size E s A' n c ys) (hg : w1.grownBy w' (Value.slice A' n c).ownBlock) : Turn p w w' := by
  refine ⟨hg.os.trans h.os, hg.tape.trans h.tape, hg.output.trans h.output, Nat.le_trans h.size hg.size, fun k hk hne => (hg.block k (by have := h.size; omega) fun e => ?_).trans (h.block k hk hne)⟩
  rcases ho.blk with e2 | ⟨g, e2, hg2, _⟩
  · rw [e2] at e; cases e
  · rw [e2] at e; injection e with e; omega
theorem Turn.belowOn {p : Nat} {w w1 w' : World} (h : Turn p w w1) (hb : Below w1.heap.size w1 w') : Turn p w w' := h.trans (Turn.of_below hb (Nat.le_refl _))
set_option maxRecDepth 100000 in
theorem dbytes (w : World) (p : Nat) (A : Option Addr) (cap : Nat) (xs : List Value) (m : Nat) (hm : m ≤ 1000) (hc : Cur w p A cap xs) :
    Calls Try.prog 45 #[.pointer (some ⟨p, 0, none⟩), .int .i64 m] w fun e w' => (∃ (A' : Option Addr) (c' : Nat) (bs : List Nat), e = .returned (.slice A' m c') ∧ (∀ b ∈ bs, b < 256) ∧ Own w' w.heap.size 5 1 A' m c' (bv bs)) ∧ Cur w' p A cap xs ∧ Turn p w w' := by
  obtain ⟨i0, hi, hy0, hy1, hy2⟩ := info_parts u8_info
  have hp := hc.lt
  have H0 := Lib.hid (Own.lit w w.heap.size 5 #[] 0 (Nat.le_refl _) (by omega) rfl)
  have HC0 := Lib.hid (hc.alloc (.cells #[] 5))
  have HT0 := Lib.hid ((Turn.refl p w).alloc (.cells #[] 5))
  clear hc
  go_enter Try.func45, Try.ntmps45
  go_wp2
  go_loopw [5, 6] (fun v i wr => ∃ (k : Nat) (A1 : Option Addr) (c1 : Nat) (bs : List Nat), k ≤ m ∧ i = .int .i64 k ∧ v = .slice A1 k c1 ∧ (∀ b ∈ bs, b < 256) ∧ Own wr w.heap.size 5 1 A1 k c1 (bv bs) ∧ Cur wr p A cap xs ∧ Turn p w wr) (fun _ i _ => m - (intOf i).toNat)
  case atStart => exact ⟨0, _, _, [], Nat.zero_le _, rfl, rfl, by simp, H0.out, HC0.out, HT0.out⟩
  case round =>
    clear H0 HC0 HT0
    obtain ⟨k, A1, c1, bs, hk, rfl, rfl, hb, ho, hc, ht⟩ := hrel
    have HB := Lib.hid hb; have HO := Lib.hid ho; have HC := Lib.hid hc; have HT := Lib.hid ht
    clear hb ho hc ht
    by_cases hlt : k < m
    · go_wp2_with fail
      refine (dbyte _ _ _ _ _ HC.out).mono ?_
      rintro e w1 ⟨⟨x, hx, rfl⟩, hc1, ht1⟩
      have HO1 := Lib.hid ((HO.out.turn ht1 hp).on ((Below.refl w1.heap.size w1).alloc (Nat.le_refl _) (.cells #[.int .u8 (x : Int)] 5)))
      have HC1 := Lib.hid (hc1.alloc (.cells #[.int .u8 (x : Int)] 5))
      have HT1 := Lib.hid ((HT.out.trans ht1).alloc (.cells #[.int .u8 (x : Int)] 5))
      have hsz : w.heap.size ≤ w1.heap.size := (HT.out.trans ht1).size
      clear hc1 ht1
      go_wp2_with (at_builtin; refine wpList_append_sl _ rfl (.tmp 13) (.tmp 17) 22 rfl w.heap.size 5 i0 _ 1 1 Try.underlying22 hi hy0 hy1 hy2 rfl (by omega) A1 k c1 _ rfl HO1.out (w1.heap.size + 1) _ 1 1 [.int .u8 (x : Int)] rfl (Sl.one w1 _ _) (by simp [Value.oneCell']) (by omega) (by omega) (by simp; omega) ?_; intro A3 c3 w3 hown3 hg3 hat3)
      have HB3 : Hid (∀ b ∈ bs ++ [x], b < 256) := Lib.hid (by
        intro b hb
        rcases List.mem_append.1 hb with hb | hb
        · exact HB.out b hb
        · simp at hb; omega)
      have HO3 : Hid (Own w3 w.heap.size 5 1 A3 (k + 1) c3 (bv (bs ++ [x]))) := Lib.hid (by rw [bv_app]; exact hown3)
      have HC3 := Lib.hid (HC1.out.grown HO1.out hp hg3)
      have HT3 := Lib.hid (HT1.out.grown HO1.out hg3)
      clear hown3 hg3 hat3 HO HO1 HC HC1 HT HT1 HB
      go_wp2
      go_roundw
      case rel => exact ⟨k + 1, A3, c3, _, by omega, by go_num, rfl, HB3.out, HO3.out, HC3.out, HT3.out⟩
      case measure => simp [intOf]; omega
    · obtain rfl : k = m := by omega
      go_wp2
      go_ret
      exact ⟨⟨A1, c1, bs, rfl, HB.out, HO.out⟩, HC.out, HT.out⟩
set_option maxRecDepth 100000 in
theorem drawAppendUvarint (w : World) (A : Option Addr) (cap : Nat) (xs : List Value) (hB : Bytes xs) (hn : xs.length ≤ 1048576) (hR : Reads w w.heap.size A xs) :
    Calls Try.prog 14 #[.slice A xs.length cap] w fun e w' => (∃ (A' : Option Addr) (m c' : Nat) (bs : List Nat) (z : Int), e = .returned (.tuple #[.slice A' m c', .int .i64 z]) ∧ m ≤ 1000 ∧ (∀ b ∈ bs, b < 256) ∧ (-9223372036854775808 ≤ z ∧ z ≤ 9223372036854775807) ∧ Own w' w.heap.size 5 1 A' m c' (bv bs)) ∧ Below w.heap.size w w' := by
  go_enter Try.func14, Try.ntmps14
  go_wp2_with fail
  refine (dnew _ _ _ _ hB hn hR).mono ?_
  rintro e w1 ⟨⟨p, hp, rfl, hc⟩, hb⟩
  have hp1 := hc.lt
  go_wp2_with fail
  refine (dbelow _ _ _ _ _ _ hc (by omega)).mono ?_
  rintro e w2 ⟨⟨x, hx, rfl⟩, hc2, ht2⟩
  have hx3 := hx.1 (by omega); clear hx
  go_wp2_with fail
  refine (dbytes _ _ _ _ _ x (by omega) hc2).mono ?_
  rintro e w3 ⟨⟨A1, c1, bs, rfl, hbs, ho⟩, hc3, ht3⟩
  have HBS := Lib.hid hbs; have HO := Lib.hid ho
  clear hbs ho
  go_wp2_with fail
  refine (done_ _ _ _ _ _ hc3).mono ?_
  rintro e w4 ⟨⟨z, hz, rfl⟩, hc4, ht4⟩
  have Hz := Lib.hid hz; clear hz
  have hp2 := hc2.lt
  have HO4 := Lib.hid ((HO.out.turn ht4 hp2).fewer (B' := w.heap.size) (by have := hb.size; have := ht2.size; omega))
  have hfin := Lib.hid (hb.trans ((((ht2.trans ht3).trans ht4).below hp1).mono hp))
  clear hb ht2 ht3 ht4 hc hc2 hc3 hc4
  go_wp2
  go_ret2
  exact ⟨⟨A1, x, c1, bs, z, rfl, by omega, HBS.out, Hz.out, HO4.out⟩, hfin.out⟩
set_option maxRecDepth 100000 in
theorem drawAppendBytes (w : World) (A : Option Addr) (cap : Nat) (xs : List Value) (hB : Bytes xs) (hn : xs.length ≤ 1048576) (hR : Reads w w.heap.size A xs) :
    Calls Try.prog 20 #[.slice A xs.length cap] w fun e w' => (∃ (A1 : Option Addr) (m1 c1 : Nat) (b1 : List Nat) (A2 : Option Addr) (m2 c2 : Nat) (b2 : List Nat), e = .returned (.tuple #[.slice A1 m1 c1, .slice A2 m2 c2]) ∧ m1 ≤ 1000 ∧ m2 ≤ 1000 ∧ (∀ b ∈ b1, b < 256) ∧ (∀ b ∈ b2, b < 256) ∧ Own w' w.heap.size 5 1 A1 m1 c1 (bv b1) ∧ Own w' w.heap.size 5 1 A2 m2 c2 (bv b2)) ∧ Below w.heap.size w w' := by
  go_enter Try.func20, Try.ntmps20
  go_wp2_with fail
  refine (dnew _ _ _ _ hB hn hR).mono ?_
  rintro e w1 ⟨⟨p, hp, rfl, hc⟩, hb⟩
  have hp1 := hc.lt
  go_wp2_with fail
  refine (dbelow _ _ _ _ _ _ hc (by omega)).mono ?_
  rintro e w2 ⟨⟨x, hx, rfl⟩, hc2, ht2⟩
  have hx3 := hx.1 (by omega); clear hx
  go_wp2_with fail
  refine (dbytes _ _ _ _ _ x (by omega) hc2).mono ?_
  rintro e w3 ⟨⟨A1, c1, b1, rfl, hb1, ho⟩, hc3, ht3⟩
  have HB1 := Lib.hid hb1; have HO := Lib.hid ho
  clear hb1 ho
  go_wp2_with fail
  refine (dbelow _ _ _ _ _ _ hc3 (by omega)).mono ?_
  rintro e w4 ⟨⟨y, hy, rfl⟩, hc4, ht4⟩
  have hy6 := hy.1 (by omega); clear hy
  have hp2 := hc2.lt
  have HO4 := Lib.hid (HO.out.turn ht4 hp2)
  go_wp2_with fail
  refine (dbytes _ _ _ _ _ y (by omega) hc4).mono ?_
  rintro e w5 ⟨⟨A2, c2, b2, rfl, hb2, ho2⟩, hc5, ht5⟩
  have HB2 := Lib.hid hb2
  have HO5 := Lib.hid ((HO4.out.turn ht5 hp2).fewer (B' := w.heap.size) (by have := hb.size; have := ht2.size; omega))
  have HO6 := Lib.hid (ho2.fewer (by have := hb.size; have := ht2.size; have := ht3.size; have := ht4.size; omega : w.heap.size ≤ w4.heap.size))
  have hfin := Lib.hid (hb.trans (((((ht2.trans ht3).trans ht4).trans ht5).below hp1).mono hp))
  clear hb ht2 ht3 ht4 ht5 hc hc2 hc3 hc4 hc5 hb2 ho2 HO HO4
  go_wp2
  go_ret2
  exact ⟨⟨A1, x, c1, b1, A2, y, c2, b2, rfl, by omega, by omega, HB1.out, HB2.out, HO5.out, HO6.out⟩, hfin.out⟩
set_option maxHeartbeats 400000 in
set_option maxRecDepth 100000 in
theorem drawReadUvarint (w : World) (A : Option Addr) (cap : Nat) (xs : List Value) (hB : Bytes xs) (hn : xs.length ≤ 1048576) (hR : Reads w w.heap.size A xs) :
    Calls Try.prog 18 #[.slice A xs.length cap] w fun e w' => (∃ (A' : Option Addr) (m c' : Nat) (bs : List Nat) (z : Int), e = .returned (.tuple #[.slice A' m c', .int .i64 z]) ∧ m ≤ 1000 ∧ (∀ b ∈ bs, b < 256) ∧ (-10 ≤ z ∧ z ≤ 10) ∧ Own w' w.heap.size 5 1 A' m c' (bv bs)) ∧ Below w.heap.size w w' := by
  obtain ⟨i0, hi, hy0, hy1, hy2⟩ := info_parts u8_info
  go_enter Try.func18, Try.ntmps18
  go_wp2_with fail
  refine (dnew _ _ _ _ hB hn hR).mono ?_
  rintro e w1 ⟨⟨p, hp, rfl, hc⟩, hb⟩
  have hp1 := hc.lt
  have hsz1 := hb.size
  go_wp2_with fail
  refine (donce _ _ _ _ _ _ hc (by omega)).mono ?_
  rintro e w2 ⟨⟨b, rfl⟩, hc2, ht2⟩
  have hsz2 := ht2.size
  cases b
  · have hp2 := hc2.lt
    go_wp2_with fail
    have HC0 := Lib.hid (hc2.alloc (.cells #[] 5))
    have HT0 := Lib.hid (ht2.alloc (.cells #[] 5))
    have HO0 := Lib.hid (Own.lit w2 w1.heap.size 5 #[] 0 hsz2 (by omega) rfl)
    have HB := Lib.hid hb
    clear hc hc2 ht2 hb
    refine (dbelow _ _ _ _ _ _ HC0.out (by omega)).mono ?_
    rintro e w3 ⟨⟨x, hx, rfl⟩, hc3, ht3⟩
    have hx8 := hx.1 (by omega); clear hx
    have HC3 := Lib.hid hc3
    have HT3 := Lib.hid (HT0.out.trans ht3)
    have HO3 := Lib.hid (HO0.out.turn ht3 hp1)
    clear hc3 ht3 HC0 HT0 HO0
    go_wp2_with fail
    go_loopw [5, 6] (fun v i wr => ∃ (k j : Nat) (A1 : Option Addr) (c1 : Nat) (bs : List Nat), k + j = x ∧ i = .int .i64 j ∧ v = .slice A1 k c1 ∧ (∀ b ∈ bs, b < 256) ∧ Own wr w1.heap.size 5 1 A1 k c1 (bv bs) ∧ Cur wr p A cap xs ∧ Turn p w1 wr) (fun _ i _ => (intOf i).toNat)
    case atStart => exact ⟨0, x, _, _, [], by omega, rfl, rfl, by simp, HO3.out, HC3.out, HT3.out⟩
    case round =>
      clear HO3 HC3 HT3
      obtain ⟨k, j, A1, c1, bs, hkj, rfl, rfl, hb, ho, hc, ht⟩ := hrel
      have HBS := Lib.hid hb; have HO := Lib.hid ho; have HC := Lib.hid hc; have HT := Lib.hid ht; have hszr := ht.size
      clear hb ho hc ht
      by_cases hlt : 0 < j
      · obtain ⟨j, rfl⟩ : ∃ j', j = j' + 1 := ⟨j - 1, by omega⟩
        go_wp2_with fail
        refine (dlist _ _ _ _ _ [128, 255, 0, 1, 127] _ _ _ rfl rfl HC.out (by decide) (by decide) (i64_all (by decide))).mono ?_
        rintro e w4 ⟨⟨z, hz, rfl⟩, hc4, ht4⟩
        have hzb : 0 ≤ z ∧ z ≤ 255 := by simp at hz; omega
        obtain ⟨y, rfl⟩ := Int.eq_ofNat_of_zero_le hzb.1
        have hyb : y < 256 := by omega
        have HO1 := Lib.hid ((HO.out.turn ht4 hp1).on ((Below.refl w4.heap.size w4).alloc (Nat.le_refl _) (.cells #[.int .u8 (y : Int)] 5)))
        have HC1 := Lib.hid (hc4.alloc (.cells #[.int .u8 (y : Int)] 5))
        have HT1 := Lib.hid ((HT.out.trans ht4).alloc (.cells #[.int .u8 (y : Int)] 5))
        have hsz4 : w1.heap.size ≤ w4.heap.size := (HT.out.trans ht4).size
        clear hc4 ht4 hz hzb
        go_wp2_with (at_builtin; refine wpList_append_sl _ rfl (.tmp 23) (.tmp 28) 22 rfl w1.heap.size 5 i0 _ 1 1 Try.underlying22 hi hy0 hy1 hy2 rfl (by omega) A1 k c1 _ rfl HO1.out (w4.heap.size + 1) _ 1 1 [.int .u8 (y : Int)] rfl (Sl.one w4 _ _) (by simp [Value.oneCell']) (by omega) (by omega) (by simp; omega) ?_; intro A3 c3 w5 hown3 hg3 hat3)
        have HB3 : Hid (∀ b ∈ bs ++ [y], b < 256) := Lib.hid (by
          intro b hb
          rcases List.mem_append.1 hb with hb | hb
          · exact HBS.out b hb
          · simp at hb; omega)
        have HO3 : Hid (Own w5 w1.heap.size 5 1 A3 (k + 1) c3 (bv (bs ++ [y]))) := Lib.hid (by rw [bv_app]; exact hown3)
        have HC3 := Lib.hid (HC1.out.grown HO1.out hp1 hg3)
        have HT3 := Lib.hid (HT1.out.grown HO1.out hg3)
        clear hown3 hg3 hat3 HO HO1 HC HC1 HT HT1 HBS
        go_wp2
        go_roundw
        case rel => exact ⟨k + 1, j, A3, c3, _, by omega, by go_num, rfl, HB3.out, HO3.out, HC3.out, HT3.out⟩
        case measure => simp [intOf]
      · obtain rfl : j = 0 := by omega
        go_wp2_with fail
        refine (dbelow _ _ _ _ _ _ HC.out (by omega)).mono ?_
        rintro e w4 ⟨⟨y, hy, rfl⟩, hc4, ht4⟩
        have hy4 := hy.1 (by omega); clear hy
        have HO4 := Lib.hid ((HO.out.turn ht4 hp1).fewer hsz1)
        have hfin := Lib.hid (HB.out.trans (((HT.out.trans ht4).below hp1).mono hp))
        clear hc4 ht4 HO HC HT
        go_wp2
        go_ret2
        exact ⟨⟨A1, k, c1, bs, _, rfl, by omega, HBS.out, by omega, HO4.out⟩, hfin.out⟩
  · go_wp2_with fail
    refine (dbytes _ _ _ _ _ 1 (by omega) hc2).mono ?_
    rintro e w3 ⟨⟨A1, c1, bs, rfl, hbs, ho⟩, hc3, ht3⟩
    have HBS := Lib.hid hbs; have HO := Lib.hid ho
    have hp2 := hc2.lt
    clear hbs ho
    go_wp2_with fail
    refine (dnum _ _ _ _ _ hc3).mono ?_
    rintro e w4 ⟨⟨y, hy, rfl⟩, hc4, ht4⟩
    have HO4 := Lib.hid (HO.out.turn ht4 hp2)
    have hb4 := hb.trans ((((ht2.trans ht3).trans ht4).below hp1).mono hp)
    have HB4 := Lib.hid hb4
    have hl4 := HO4.out.len
    clear hb ht2 ht3 ht4 hc hc2 hc3 hc4 hb4 HO
    go_wp2_with fail
    refine (sappend _ _ A1 1 c1 bs HO4.out.sl (Nat.le_refl _) (by omega) y (by omega) (by omega)).mono ?_
    rintro e w5 ⟨⟨A5, n5, c5, rfl, ho5⟩, hb5⟩
    have hn5 : n5 ≤ 1000 := by
      have h1 := ho5.len
      have h2 := enc1_len y
      rw [bv_len] at hl4
      rw [bv_len, List.length_append] at h1
      omega
    have HB5 : Hid (∀ b ∈ bs ++ enc1 y, b < 256) := Lib.hid (by
      intro b hb
      rcases List.mem_append.1 hb with hb | hb
      · exact HBS.out b hb
      · exact enc1_byte _ b hb)
    have HO5 := Lib.hid (ho5.fewer HB4.out.size)
    have hfin := Lib.hid (HB4.out.trans (hb5.mono HB4.out.size))
    clear ho5 hb5 hl4
    go_wp2
    go_ret2
    exact ⟨⟨A5, n5, c5, _, 1, rfl, hn5, HB5.out, by omega, HO5.out⟩, hfin.out⟩
end Go.Proofs.Ytpfkijmicmampaa
