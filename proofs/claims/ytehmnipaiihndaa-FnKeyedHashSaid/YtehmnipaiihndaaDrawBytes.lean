/- The contracts of chapter 2's draws: bytes, and what is read and appended. -/
import Derived.Test.YtehmnipaiihndaaDrawInts
import Derived.Test.YtehmnipaiihndaaEncode2
namespace Go.Proofs.Ytehmnipaiihndaa
open Go.ChangeShapes Go.WideShapes Go.ChangeAt Go.RowKit
set_option linter.unusedVariables false
theorem Turn.grownBy {p : Nat} {w w' : World} (h : Turn p w w') : w.grownBy w' (some p) := ⟨h.os, h.tape, h.output, h.size, fun k hk hne => h.block k hk (fun e => hne (by rw [e]))⟩
/-- one's own, while the cursor is turned -/
theorem Own.turn {p : Nat} {w w' : World} {B s n c : Nat} {E : TypeId} {A : Option Addr} {xs : List Value} (h : Own w B E s A n c xs) (ht : Turn p w w') (hp : p < B) : Own w' B E s A n c xs := by
  refine h.kept ht.grownBy ?_
  rcases h.blk with e | ⟨g, e, hg, _⟩
  · exact .inl e
  · right; rw [e]; simp; omega
/-- the cursor, while one's own grows -/
theorem Cur.grown {w w' : World} {p : Nat} {A : Option Addr} {cap : Nat} {xs : List Value} {B s n c : Nat} {E : TypeId} {A' : Option Addr} {ys : List Value} (h : Cur w p A cap xs) (ho : Own w B E s A' n c ys) (hp : p < B) (hg : w.grownBy w' (Value.slice A' n c).ownBlock) : Cur w' p A cap xs := by
  refine h.turned fun k hk => hg.block k (by have := h.lt; omega) fun e => ?_
  rcases ho.blk with e2 | ⟨g, e2, hg2, _⟩
  · rw [e2] at e; cases e
  · rw [e2] at e; injection e with e; omega
theorem Turn.grown {p : Nat} {w w1 w' : World} {s n c : Nat} {E : TypeId} {A' : Option Addr} {ys : List Value} (h : Turn p w w1) (ho : Own w1 w.heap.size E s A' n c ys) (hg : w1.grownBy w' (Value.slice A' n c).ownBlock) : Turn p w w' := by
  refine ⟨hg.os.trans h.os, hg.tape.trans h.tape, hg.output.trans h.output, Nat.le_trans h.size hg.size, fun k hk hne => (hg.block k (by have := h.size; omega) fun e => ?_).trans (h.block k hk hne)⟩
  rcases ho.blk with e2 | ⟨g, e2, hg2, _⟩
  · rw [e2] at e; cases e
  · rw [e2] at e; injection e with e; omega
theorem Turn.belowOn {p : Nat} {w w1 w' : World} (h : Turn p w w1) (hb : Below w1.heap.size w1 w') : Turn p w w' := h.trans (Turn.of_below hb (Nat.le_refl _))
set_option maxRecDepth 100000 in
theorem dbytes (w : World) (p : Nat) (A : Option Addr) (cap : Nat) (xs : List Value) (m : Nat) (hm : m ≤ 1000) (hc : Cur w p A cap xs) :
    Calls Try.prog 43 #[.pointer (some ⟨p, 0, none⟩), .int .i64 m] w fun e w' => (∃ (A' : Option Addr) (c' : Nat) (bs : List Nat), e = .returned (.slice A' m c') ∧ (∀ b ∈ bs, b < 256) ∧ Own w' w.heap.size 5 1 A' m c' (bv bs)) ∧ Cur w' p A cap xs ∧ Turn p w w' := by
  obtain ⟨i0, hi, hy0, hy1, hy2⟩ := info_parts u8_info
  have hp := hc.lt
  have H0 := Lib.hid (Own.lit w w.heap.size 5 #[] 0 (Nat.le_refl _) (by omega) rfl)
  have HC0 := Lib.hid (hc.alloc (.cells #[] 5))
  have HT0 := Lib.hid ((Turn.refl p w).alloc (.cells #[] 5))
  clear hc
  go_enter Try.func43, Try.ntmps43
  go_wp2
  go_loopw [5, 6] (fun v i wr => ∃ (k : Nat) (A1 : Option Addr) (c1 : Nat) (bs : List Nat), k ≤ m ∧ i = .int .i64 k ∧ v = .slice A1 k c1 ∧ (∀ b ∈ bs, b < 256) ∧ Own wr w.heap.size 5 1 A1 k c1 (bv bs) ∧ Cur wr p A cap xs ∧ Turn p w wr) (fun _ i _ => m - (intOf i).toNat)
  case atStart => exact ⟨0, _, _, [], Nat.zero_le _, rfl, rfl, by simp, H0.out, HC0.out, HT0.out⟩
  case round =>
    clear H0 HC0 HT0
    obtain ⟨k, A1, c1, bs, hk, rfl, rfl, hb, ho, hc, ht⟩ := hrel
    have HB := Lib.hid hb; have HO := Lib.hid ho; have HC := Lib.hid hc; have HT := Lib.hid ht
    clear hb ho hc ht
    by_cases hlt : k < m
    · go_wp2_with fail
      refine (dbyte _ _ _ _ _ HC.out).mono ?_
      rintro e w1 ⟨⟨x, hx, rfl⟩, hc1, ht1⟩
      have HO1 := Lib.hid ((HO.out.turn ht1 hp).on ((Below.refl w1.heap.size w1).alloc (Nat.le_refl _) (.cells #[.int .u8 (x : Int)] 5)))
      have HC1 := Lib.hid (hc1.alloc (.cells #[.int .u8 (x : Int)] 5))
      have HT1 := Lib.hid ((HT.out.trans ht1).alloc (.cells #[.int .u8 (x : Int)] 5))
      have hsz : w.heap.size ≤ w1.heap.size := (HT.out.trans ht1).size
      clear hc1 ht1
      go_wp2_with (at_builtin; refine wpList_append_sl _ rfl (.tmp 13) (.tmp 17) 22 rfl w.heap.size 5 i0 _ 1 1 Try.underlying22 hi hy0 hy1 hy2 rfl (by omega) A1 k c1 _ rfl HO1.out (w1.heap.size + 1) _ 1 1 [.int .u8 (x : Int)] rfl (Sl.one w1 _ _) (by simp [Value.oneCell']) (by omega) (by omega) (by simp; omega) ?_; intro A3 c3 w3 hown3 hg3 hat3)
      have HB3 : Hid (∀ b ∈ bs ++ [x], b < 256) := Lib.hid (by
        intro b hb
        rcases List.mem_append.1 hb with hb | hb
        · exact HB.out b hb
        · simp at hb; omega)
      have HO3 : Hid (Own w3 w.heap.size 5 1 A3 (k + 1) c3 (bv (bs ++ [x]))) := Lib.hid (by rw [bv_app]; exact hown3)
      have HC3 := Lib.hid (HC1.out.grown HO1.out hp hg3)
      have HT3 := Lib.hid (HT1.out.grown HO1.out hg3)
      clear hown3 hg3 hat3 HO HO1 HC HC1 HT HT1 HB
      go_wp2
      go_roundw
      case rel => exact ⟨k + 1, A3, c3, _, by omega, by go_num, rfl, HB3.out, HO3.out, HC3.out, HT3.out⟩
      case measure => simp [intOf]; omega
    · obtain rfl : k = m := by omega
      go_wp2
      go_ret
      exact ⟨⟨A1, c1, bs, rfl, HB.out, HO.out⟩, HC.out, HT.out⟩
end Go.Proofs.Ytehmnipaiihndaa
