/- The contracts of chapter 3's draws. -/
import Derived.Test.YtehmnipaiihndaaDrawBytes
import Derived.Test.YtehmnipaiihndaaCrypto
namespace Go.Proofs.Ytehmnipaiihndaa
open Go.ChangeShapes Go.WideShapes Go.ChangeAt Go.RowKit
set_option linter.unusedVariables false
set_option maxRecDepth 100000 in
theorem dword (w : World) (p : Nat) (A : Option Addr) (cap : Nat) (xs : List Value) (hc : Cur w p A cap xs) :
    Calls Try.prog 42 #[.pointer (some ⟨p, 0, none⟩)] w fun e w' => (∃ z : Int, (-1 ≤ z ∧ z ≤ 2147483648) ∧ e = .returned (.int .i64 z)) ∧ Cur w' p A cap xs ∧ Turn p w w' := by
  go_enter Try.func42, Try.ntmps42
  go_wp2_with fail
  refine (donce _ _ _ _ _ _ hc (by omega)).mono ?_
  rintro e w1 ⟨⟨b, rfl⟩, hc1, ht1⟩
  cases b
  · go_wp2_with fail
    refine (donce _ _ _ _ _ _ hc1 (by omega)).mono ?_
    rintro e w2 ⟨⟨b, rfl⟩, hc2, ht2⟩
    cases b
    · go_wp2_with fail
      refine (dbelow _ _ _ _ _ _ hc2 (by omega)).mono ?_
      rintro e w3 ⟨⟨y, hy, rfl⟩, hc3, ht3⟩
      have hy1 := hy.1 (by omega); clear hy
      go_wp2_with fail
      refine (dbelow _ _ _ _ _ _ hc3 (by omega)).mono ?_
      rintro e w4 ⟨⟨z, hz, rfl⟩, hc4, ht4⟩
      have hz1 := hz.1 (by omega); clear hz
      have hm : y * z ≤ 999999 * 1999 := Nat.mul_le_mul (by omega) (by omega)
      have hm0 : 0 ≤ (y : Int) * (z : Int) := by rw [← Int.natCast_mul]; omega
      have hm1 : (y : Int) * (z : Int) ≤ 1998998001 := by rw [← Int.natCast_mul]; omega
      go_wp2
      go_ret
      exact ⟨⟨_, ⟨by omega, by omega⟩, rfl⟩, hc4, ((ht1.trans ht2).trans ht3).trans ht4⟩
    · go_wp2_with fail
      refine (dlist _ _ _ _ _ [0, 1, 2147483646] _ _ _ rfl rfl hc2 (by decide) (by decide) (i64_all (by decide))).mono ?_
      rintro e w3 ⟨⟨z, hz, rfl⟩, hc3, ht3⟩
      have hb : -1 ≤ z ∧ z ≤ 2147483648 := by simp at hz; omega
      clear hz
      go_wp2
      go_ret
      exact ⟨⟨z, hb, rfl⟩, hc3, (ht1.trans ht2).trans ht3⟩
  · go_wp2_with fail
    refine (dlist _ _ _ _ _ [-1, 2147483647, 2147483648] _ _ _ rfl rfl hc1 (by decide) (by decide) (i64_all (by decide))).mono ?_
    rintro e w2 ⟨⟨z, hz, rfl⟩, hc2, ht2⟩
    have hb : -1 ≤ z ∧ z ≤ 2147483648 := by simp at hz; omega
    clear hz
    go_wp2
    go_ret
    exact ⟨⟨z, hb, rfl⟩, hc2, ht1.trans ht2⟩
set_option maxRecDepth 100000 in
theorem dwords (w : World) (p : Nat) (A : Option Addr) (cap : Nat) (xs : List Value) (hc : Cur w p A cap xs) :
    Calls Try.prog 48 #[.pointer (some ⟨p, 0, none⟩)] w fun e w' => (∃ (A' : Option Addr) (m c' : Nat) (zs : List Int), e = .returned (.slice A' m c') ∧ m ≤ 4 ∧ (∀ z ∈ zs, -1 ≤ z ∧ z ≤ 2147483648) ∧ Own w' w.heap.size 3 1 A' m c' (iv zs)) ∧ Cur w' p A cap xs ∧ Turn p w w' := by
  obtain ⟨i0, hi, hy0, hy1, hy2⟩ := info_parts i64_info
  have hp := hc.lt
  have H0 := Lib.hid (Own.lit w w.heap.size 3 #[] 0 (Nat.le_refl _) (by omega) rfl)
  have HC0 := Lib.hid (hc.alloc (.cells #[] 3))
  have HT0 := Lib.hid ((Turn.refl p w).alloc (.cells #[] 3))
  clear hc
  go_enter Try.func48, Try.ntmps48
  go_wp2_with fail
  refine (dbelow _ _ _ _ _ _ HC0.out (by omega)).mono ?_
  rintro e w1 ⟨⟨x, hx, rfl⟩, hc1, ht1⟩
  have hx5 := hx.1 (by omega); clear hx
  have HC1 := Lib.hid hc1; have HT1 := Lib.hid (HT0.out.trans ht1); have HO1 := Lib.hid (H0.out.turn ht1 hp)
  clear hc1 ht1 H0 HC0 HT0
  go_wp2_with fail
  go_loopw [3, 4] (fun v i wr => ∃ (k j : Nat) (A1 : Option Addr) (c1 : Nat) (zs : List Int), k + j = x ∧ i = .int .i64 j ∧ v = .slice A1 k c1 ∧ (∀ z ∈ zs, -1 ≤ z ∧ z ≤ 2147483648) ∧ Own wr w.heap.size 3 1 A1 k c1 (iv zs) ∧ Cur wr p A cap xs ∧ Turn p w wr) (fun _ i _ => (intOf i).toNat)
  case atStart => exact ⟨0, x, _, _, [], by omega, rfl, rfl, by simp, HO1.out, HC1.out, HT1.out⟩
  case round =>
    clear HO1 HC1 HT1
    obtain ⟨k, j, A1, c1, zs, hkj, rfl, rfl, hb, ho, hc, ht⟩ := hrel
    have HZ := Lib.hid hb; have HO := Lib.hid ho; have HC := Lib.hid hc; have HT := Lib.hid ht; have hszr := ht.size
    clear hb ho hc ht
    by_cases hlt : 0 < j
    · obtain ⟨j, rfl⟩ : ∃ j', j = j' + 1 := ⟨j - 1, by omega⟩
      go_wp2_with fail
      refine (dword _ _ _ _ _ HC.out).mono ?_
      rintro e w4 ⟨⟨z, hz, rfl⟩, hc4, ht4⟩
      have HO4 := Lib.hid ((HO.out.turn ht4 hp).on ((Below.refl w4.heap.size w4).alloc (Nat.le_refl _) (.cells #[.int .i64 z] 3)))
      have HC4 := Lib.hid (hc4.alloc (.cells #[.int .i64 z] 3))
      have HT4 := Lib.hid ((HT.out.trans ht4).alloc (.cells #[.int .i64 z] 3))
      have hsz4 : w.heap.size ≤ w4.heap.size := (HT.out.trans ht4).size
      have HZ3 : Hid (∀ y ∈ zs ++ [z], -1 ≤ y ∧ y ≤ 2147483648) := Lib.hid (by
        intro y hy
        rcases List.mem_append.1 hy with hy | hy
        · exact HZ.out y hy
        · rw [List.mem_singleton] at hy; subst hy; exact hz)
      clear hc4 ht4 hz
      go_wp2_with (at_builtin; refine wpList_append_sl _ rfl (.tmp 12) (.tmp 15) 28 rfl w.heap.size 3 i0 _ 1 8 Try.underlying28 hi hy0 hy1 hy2 rfl (by omega) A1 k c1 _ rfl HO4.out (w4.heap.size + 1) _ 1 1 [.int .i64 z] rfl (Sl.one w4 _ _) (by simp [Value.oneCell']) (by omega) (by omega) (by simp; omega) ?_; intro A3 c3 w5 hown3 hg3 hat3)
      have HO3 : Hid (Own w5 w.heap.size 3 1 A3 (k + 1) c3 (iv (zs ++ [z]))) := Lib.hid (by rw [iv_app]; exact hown3)
      have HC3 := Lib.hid (HC4.out.grown HO4.out hp hg3)
      have HT3 := Lib.hid (HT4.out.grown HO4.out hg3)
      clear hown3 hg3 hat3 HO HO4 HC HC4 HT HT4 HZ
      go_wp2
      go_roundw
      case rel => exact ⟨k + 1, j, A3, c3, _, by omega, by go_num, rfl, HZ3.out, HO3.out, HC3.out, HT3.out⟩
      case measure => simp [intOf]
    · obtain rfl : j = 0 := by omega
      go_wp2
      go_ret
      exact ⟨⟨A1, k, c1, zs, rfl, by omega, HZ.out, HO.out⟩, HC.out, HT.out⟩
set_option maxRecDepth 100000 in
theorem drawKeyedHash (w : World) (A : Option Addr) (cap : Nat) (xs : List Value) (hB : Bytes xs) (hn : xs.length ≤ 1048576) (hR : Reads w w.heap.size A xs) :
    Calls Try.prog 17 #[.slice A xs.length cap] w fun e w' => (∃ (z : Int) (A1 : Option Addr) (m c1 : Nat) (zs : List Int), e = .returned (.tuple #[.int .i64 z, .slice A1 m c1]) ∧ m ≤ 4 ∧ (∀ z ∈ zs, -1 ≤ z ∧ z ≤ 2147483648) ∧ Own w' w.heap.size 3 1 A1 m c1 (iv zs)) ∧ Below w.heap.size w w' := by
  go_enter Try.func17, Try.ntmps17
  go_wp2_with fail
  refine (dnew _ _ _ _ hB hn hR).mono ?_
  rintro e w1 ⟨⟨p, hp, rfl, hc⟩, hb⟩
  have hp1 := hc.lt
  go_wp2_with fail
  refine (dword _ _ _ _ _ hc).mono ?_
  rintro e w2 ⟨⟨z, hz, rfl⟩, hc2, ht2⟩
  clear hz
  go_wp2_with fail
  refine (dwords _ _ _ _ _ hc2).mono ?_
  rintro e w3 ⟨⟨A1, m, c1, zs, rfl, hm, hzs, ho⟩, hc3, ht3⟩
  have HZ := Lib.hid hzs
  have HO := Lib.hid (ho.fewer (B' := w.heap.size) (by have := hb.size; have := ht2.size; omega))
  have hfin := Lib.hid (hb.trans (((ht2.trans ht3).below hp1).mono hp))
  clear hb ht2 ht3 hc hc2 hc3 hzs ho
  go_wp2
  go_ret2
  exact ⟨⟨z, A1, m, c1, zs, rfl, hm, HZ.out, HO.out⟩, hfin.out⟩
set_option maxRecDepth 100000 in
theorem drawEncrypt (w : World) (A : Option Addr) (cap : Nat) (xs : List Value) (hB : Bytes xs) (hn : xs.length ≤ 1048576) (hR : Reads w w.heap.size A xs) :
    Calls Try.prog 13 #[.slice A xs.length cap] w fun e w' => (∃ (z : Int) (A1 : Option Addr) (m c1 : Nat) (bs : List Nat), e = .returned (.tuple #[.int .i64 z, .slice A1 m c1]) ∧ m ≤ 7 ∧ (∀ b ∈ bs, b < 256) ∧ Own w' w.heap.size 5 1 A1 m c1 (bv bs)) ∧ Below w.heap.size w w' := by
  go_enter Try.func13, Try.ntmps13
  go_wp2_with fail
  refine (dnew _ _ _ _ hB hn hR).mono ?_
  rintro e w1 ⟨⟨p, hp, rfl, hc⟩, hb⟩
  have hp1 := hc.lt
  go_wp2_with fail
  refine (dword _ _ _ _ _ hc).mono ?_
  rintro e w2 ⟨⟨z, hz, rfl⟩, hc2, ht2⟩
  clear hz
  go_wp2_with fail
  refine (dbelow _ _ _ _ _ _ hc2 (by omega)).mono ?_
  rintro e w3 ⟨⟨x, hx, rfl⟩, hc3, ht3⟩
  have hx8 := hx.1 (by omega); clear hx
  go_wp2_with fail
  refine (dbytes _ _ _ _ _ x (by omega) hc3).mono ?_
  rintro e w4 ⟨⟨A1, c1, bs, rfl, hbs, ho⟩, hc4, ht4⟩
  have HBS := Lib.hid hbs
  have HO := Lib.hid (ho.fewer (B' := w.heap.size) (by have := hb.size; have := ht2.size; have := ht3.size; omega))
  have hfin := Lib.hid (hb.trans ((((ht2.trans ht3).trans ht4).below hp1).mono hp))
  clear hb ht2 ht3 ht4 hc hc2 hc3 hc4 hbs ho
  go_wp2
  go_ret2
  exact ⟨⟨z, A1, x, c1, bs, rfl, by omega, HBS.out, HO.out⟩, hfin.out⟩
set_option maxRecDepth 100000 in
theorem drawDerive (w : World) (A : Option Addr) (cap : Nat) (xs : List Value) (hB : Bytes xs) (hn : xs.length ≤ 1048576) (hR : Reads w w.heap.size A xs) :
    Calls Try.prog 22 #[.slice A xs.length cap] w fun e w' => (∃ (z : Int) (s : ByteArray), e = .returned (.tuple #[.int .i64 z, .string s]) ∧ s.size ≤ 1000) ∧ Below w.heap.size w w' := by
  go_enter Try.func22, Try.ntmps22
  go_wp2_with fail
  refine (dnew _ _ _ _ hB hn hR).mono ?_
  rintro e w1 ⟨⟨p, hp, rfl, hc⟩, hb⟩
  have hp1 := hc.lt
  go_wp2_with fail
  refine (dword _ _ _ _ _ hc).mono ?_
  rintro e w2 ⟨⟨z, hz, rfl⟩, hc2, ht2⟩
  clear hz
  go_wp2_with fail
  refine (dstrs _ _ _ _ _ [⟨#[]⟩, ⟨#[97]⟩, ⟨#[98]⟩, ⟨#[97, 98]⟩, ⟨#[110, 101, 119, 115]⟩, ⟨#[120]⟩] _ _ _ rfl rfl hc2 (by decide) (by decide)).mono ?_
  rintro e w3 ⟨⟨s, hs, rfl⟩, hc3, ht3⟩
  have hsz : s.size ≤ 1000 := by
    have h : ∀ x ∈ ([⟨#[]⟩, ⟨#[97]⟩, ⟨#[98]⟩, ⟨#[97, 98]⟩, ⟨#[110, 101, 119, 115]⟩, ⟨#[120]⟩] : List ByteArray), x.size ≤ 1000 := by decide
    exact h s hs
  have Hs := Lib.hid hsz
  have hfin := Lib.hid (hb.trans (((ht2.trans ht3).below hp1).mono hp))
  clear hsz hs hb ht2 ht3 hc hc2 hc3
  go_wp2
  go_ret2
  exact ⟨⟨z, s, rfl, Hs.out⟩, hfin.out⟩
end Go.Proofs.Ytehmnipaiihndaa
