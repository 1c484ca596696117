/- The contracts of the model's draws: what a cursor over the code yields. -/
import Derived.Test.YtjobjjmeneddnaaProg
import Derived.Test.YtjobjjmeneddnaaWords
import Derived.WalkKit
import Derived.ProofKit
import Derived.OpenShut
import Derived.Lib.Hide
import Derived.Deep.QuietTactic
import Derived.BigQuiet
import Derived.Laws.BitsLemmas
namespace Go.Proofs.Ytjobjjmeneddnaa
open Go.ChangeShapes Go.WideShapes Go.ChangeAt Go.RowKit
set_option linter.unusedVariables false
theorem and255 (n : Int) : bits .and .i64 n 255 = n % 256 := by
  have h127 : (BitVec.ofInt 64 255).toNat = 2 ^ 8 - 1 := by decide
  have key : (BitVec.ofInt 64 n &&& BitVec.ofInt 64 255).toNat = (n % ((2 ^ 64 : Nat) : Int)).toNat % 2 ^ 8 := by
    rw [BitVec.toNat_and, BitVec.toNat_ofInt, h127, Nat.and_two_pow_sub_one_eq_mod]
  show IntKind.i64.wrap ((BitVec.ofInt 64 n &&& BitVec.ofInt 64 255).toNat : Nat) = n % 256
  rw [key, IntKind.wrap_i64]
  omega
theorem and30 (n : Int) : bits .and .i64 n 1073741823 = n % 1073741824 := by
  have h127 : (BitVec.ofInt 64 1073741823).toNat = 2 ^ 30 - 1 := by decide
  have key : (BitVec.ofInt 64 n &&& BitVec.ofInt 64 1073741823).toNat = (n % ((2 ^ 64 : Nat) : Int)).toNat % 2 ^ 30 := by
    rw [BitVec.toNat_and, BitVec.toNat_ofInt, h127, Nat.and_two_pow_sub_one_eq_mod]
  show IntKind.i64.wrap ((BitVec.ofInt 64 n &&& BitVec.ofInt 64 1073741823).toNat : Nat) = n % 1073741824
  rw [key, IntKind.wrap_i64]
  omega
/-- block p is a cursor over the code that the slice at A (n bytes, capacity cap) reads as, below block B -/
def Cur (w : World) (p : Nat) (A : Option Addr) (cap : Nat) (xs : List Value) : Prop :=
  Bytes xs ∧ xs.length ≤ 1048576 ∧ Reads w p A xs ∧ ∃ (i : Nat) (h : Int), i ≤ xs.length ∧ -9223372036854775808 ≤ h ∧ h ≤ 9223372036854775807 ∧ Blk w p 99 #[.slice A xs.length cap, .int .i64 i, .int .i64 h]
set_option maxRecDepth 100000 in
theorem dbyte (w : World) (p : Nat) (A : Option Addr) (cap : Nat) (xs : List Value) (hc : Cur w p A cap xs) :
    Calls Try.prog 74 #[.pointer (some ⟨p, 0, none⟩)] w fun e w' => (∃ x : Nat, x < 256 ∧ e = .returned (.int .i64 x)) ∧ Cur w' p A cap xs ∧ Turn p w w' := by
  obtain ⟨hB, hn, hR, i, h, hi, h1, h2, hblk⟩ := hc
  have c0 : w.cell? ⟨p, 0, none⟩ = some (.slice A xs.length cap) := hblk.cell 0
  have c1 : w.cell? ⟨p, 1, none⟩ = some (.int .i64 i) := hblk.cell 1
  have c2 : w.cell? ⟨p, 2, none⟩ = some (.int .i64 h) := hblk.cell 2
  have f0 := hblk.frozen 0
  have f1 := hblk.frozen 1
  have f2 := hblk.frozen 2
  have hfin : ∀ (w1 : World) (x : Nat) (i' : Nat) (h' : Int) , x < 256 → i' ≤ xs.length → -9223372036854775808 ≤ h' → h' ≤ 9223372036854775807 → Turn p w w1 → Blk w1 p 99 #[.slice A xs.length cap, .int .i64 i', .int .i64 h'] →
      (∃ y : Nat, y < 256 ∧ (.returned (.int .i64 (x : Int)) : Ending) = .returned (.int .i64 y)) ∧ Cur w1 p A cap xs ∧ Turn p w w1 := fun w1 x i' h' hx hi' a b ht hb' =>
    ⟨⟨x, hx, rfl⟩, ⟨hB, hn, hR.keep (fun q hq => World.cell?_of_block (w := w) (ht.block q.block (by have := hblk.lt; omega) (by omega))), i', h', hi', a, b, hb'⟩, ht⟩
  have HF := Lib.hid hfin; clear hfin
  have HB := Lib.hid hblk; clear hblk
  have hwb : ∀ z : Int, -9223372036854775808 ≤ wrap64 z ∧ wrap64 z ≤ 9223372036854775807 := fun z => by unfold wrap64; omega
  have HW := Lib.hid (hwb (wrap64 (h * 6364136223846793005) + 1442695040888963407)); clear hwb
  have hmod : ∀ z : Int, ∃ x : Nat, x < 256 ∧ z % 256 = (x : Int) := fun z => ⟨(z % 256).toNat, by omega, by omega⟩
  have HM := Lib.hid hmod; clear hmod
  by_cases hlt : i < xs.length
  · obtain ⟨ad, rfl, had, hcx⟩ := hR.at_ hlt
    obtain ⟨b, hb⟩ := hB xs[i] (List.getElem_mem hlt)
    rw [hb] at hcx
    have hbl : b.toNat ≤ 255 := by have := UInt8.toNat_lt b; omega
    have Had := Lib.hid (show (ad.add i).block ≠ p by rw [block_of_add]; omega)
    have Hcx := Lib.hid hcx
    clear hcx hb had
    go_enter Try.func74, Try.ntmps74
    go_wp2
    clear c2
    generalize wrap64 (wrap64 (h * 6364136223846793005) + 1442695040888963407) = H at HW ⊢
    have hb2 := Lib.hid (HB.out.set_ 2 (.int .i64 H))
    have ht2 := Lib.hid ((Turn.refl p w).set_ 2 (.int .i64 H))
    have c0' : (w.setCell ⟨p, 2, none⟩ (.int .i64 H)).cell? ⟨p, 0, none⟩ = some (.slice (some ad) xs.length cap) := hb2.out.cell 0
    have c1' : (w.setCell ⟨p, 2, none⟩ (.int .i64 H)).cell? ⟨p, 1, none⟩ = some (.int .i64 i) := hb2.out.cell 1
    have c2' : (w.setCell ⟨p, 2, none⟩ (.int .i64 H)).cell? ⟨p, 2, none⟩ = some (.int .i64 H) := hb2.out.cell 2
    have f1' := hb2.out.frozen 1
    have hcx' : (w.setCell ⟨p, 2, none⟩ (.int .i64 H)).cell? (ad.add i) = some (.int .u8 (b.toNat : Int)) :=
      (World.cell?_setCell_other w _ _ _ (fun e => Had.out (by rw [← e]))).trans Hcx.out
    clear c0 c1 f0 f1 f2
    generalize w.setCell ⟨p, 2, none⟩ (.int .i64 H) = w1 at hb2 ht2 c0' c1' c2' hcx' f1' ⊢
    go_quiet (fail)
    rw [and255]
    obtain ⟨x, hx, ex⟩ := HM.out (bits BinOp.xor IntKind.i64 (H / 8589934592) (H / 140737488355328))
    rw [ex]; clear ex
    go_wp2
    go_quiet (fail)
    go_wp2
    go_quiet (fail)
    go_wp2
    go_ret
    rw [and255]
    obtain ⟨y, hy, ey⟩ := HM.out ((x : Int) + (b.toNat : Int))
    rw [ey]
    have he : ((i : Int) + 1) = ((i + 1 : Nat) : Int) := by omega
    rw [he]
    exact HF.out _ y (i + 1) H hy (by omega) HW.out.1 HW.out.2 ((ht2.out.drewN _).set_ 1 _) ((hb2.out.drewN _).set_ 1 _)
  · go_enter Try.func74, Try.ntmps74
    go_wp2
    clear c2
    generalize wrap64 (wrap64 (h * 6364136223846793005) + 1442695040888963407) = H at HW ⊢
    have hb2 := Lib.hid (HB.out.set_ 2 (.int .i64 H))
    have ht2 := Lib.hid ((Turn.refl p w).set_ 2 (.int .i64 H))
    have c0' : (w.setCell ⟨p, 2, none⟩ (.int .i64 H)).cell? ⟨p, 0, none⟩ = some (.slice A xs.length cap) := hb2.out.cell 0
    have c1' : (w.setCell ⟨p, 2, none⟩ (.int .i64 H)).cell? ⟨p, 1, none⟩ = some (.int .i64 i) := hb2.out.cell 1
    have c2' : (w.setCell ⟨p, 2, none⟩ (.int .i64 H)).cell? ⟨p, 2, none⟩ = some (.int .i64 H) := hb2.out.cell 2
    clear c0 c1 f0 f1 f2
    generalize w.setCell ⟨p, 2, none⟩ (.int .i64 H) = w1 at hb2 ht2 c0' c1' c2' ⊢
    go_quiet (fail)
    rw [and255]
    obtain ⟨x, hx, ex⟩ := HM.out (bits BinOp.xor IntKind.i64 (H / 8589934592) (H / 140737488355328))
    rw [ex]; clear ex
    go_wp2
    go_quiet (fail)
    go_wp2
    go_ret
    exact HF.out _ x i H hx hi HW.out.1 HW.out.2 ((ht2.out.drewN _).drewN _) ((hb2.out.drewN _).drewN _)
/-- what a draw below n yields -/
def Under (n : Int) (x : Nat) : Prop := (0 < n → (x : Int) < n) ∧ (n ≤ 0 → x = 0)
set_option maxRecDepth 100000 in
theorem dbelow (w : World) (p : Nat) (A : Option Addr) (cap : Nat) (xs : List Value) (n : Int) (hc : Cur w p A cap xs) (hn : n ≤ 9223372036854775807) :
    Calls Try.prog 45 #[.pointer (some ⟨p, 0, none⟩), .int .i64 n] w fun e w' => (∃ x : Nat, Under n x ∧ e = .returned (.int .i64 x)) ∧ Cur w' p A cap xs ∧ Turn p w w' := by
  by_cases h0 : n ≤ 0
  · go_enter Try.func45, Try.ntmps45
    go_wp2
    go_ret
    exact ⟨⟨0, ⟨by omega, fun _ => rfl⟩, rfl⟩, hc, Turn.refl _ _⟩
  · by_cases h1 : n ≤ 256
    · go_enter Try.func45, Try.ntmps45
      go_wp2_with (go_at_call 74; refine (dbyte _ _ _ _ _ hc).mono ?_; rintro e w1 ⟨⟨x, hx, rfl⟩, hc1, ht1⟩)
      go_ret
      refine ⟨⟨(((x : Int)) % n).toNat, ⟨fun _ => ?_, fun h => by omega⟩, ?_⟩, hc1, ht1⟩
      · have := Int.emod_lt_of_pos (x : Int) (show 0 < n by omega); have := Int.emod_nonneg (x : Int) (show n ≠ 0 by omega); omega
      · have := Int.emod_nonneg (x : Int) (show n ≠ 0 by omega)
        rw [Int.toNat_of_nonneg this]; rfl
    · go_enter Try.func45, Try.ntmps45
      go_wp2_with fail
      refine (dbyte _ _ _ _ _ hc).mono ?_
      rintro e w1 ⟨⟨x, hx, rfl⟩, hc1, ht1⟩
      go_wp2_with fail
      refine (dbyte _ _ _ _ _ hc1).mono ?_
      rintro e w2 ⟨⟨y, hy, rfl⟩, hc2, ht2⟩
      go_wp2_with fail
      refine (dbyte _ _ _ _ _ hc2).mono ?_
      rintro e w3 ⟨⟨z, hz, rfl⟩, hc3, ht3⟩
      go_wp2
      go_ret
      have hs : ((x : Int) * 65536 + (y : Int) * 256 + (z : Int)) = ((x * 65536 + y * 256 + z : Nat) : Int) := by omega
      refine ⟨⟨(((x : Int) * 65536 + (y : Int) * 256 + (z : Int)) % n).toNat, ⟨fun _ => ?_, fun h => by omega⟩, ?_⟩, hc3, (ht1.trans ht2).trans ht3⟩
      · have := Int.emod_lt_of_pos ((x : Int) * 65536 + (y : Int) * 256 + (z : Int)) (show 0 < n by omega); have := Int.emod_nonneg ((x : Int) * 65536 + (y : Int) * 256 + (z : Int)) (show n ≠ 0 by omega); omega
      · have := Int.emod_nonneg ((x : Int) * 65536 + (y : Int) * 256 + (z : Int)) (show n ≠ 0 by omega)
        rw [Int.toNat_of_nonneg this]; rfl
set_option maxRecDepth 100000 in
theorem dint (w : World) (p : Nat) (A : Option Addr) (cap : Nat) (xs : List Value) (q m : Nat) (l : List Int) (hc : Cur w p A cap xs) (hq : q ≠ p) (hl : 0 < l.length) (hl2 : l.length ≤ 1000) (hr : ∀ z ∈ l, -9223372036854775808 ≤ z ∧ z ≤ 9223372036854775807)
    (hb : ∀ k (hk : k < l.length), w.cell? ⟨q, k, none⟩ = some (.int .i64 l[k])) :
    Calls Try.prog 44 #[.pointer (some ⟨p, 0, none⟩), .slice (some ⟨q, 0, none⟩) l.length m] w fun e w' => (∃ z : Int, z ∈ l ∧ e = .returned (.int .i64 z)) ∧ Cur w' p A cap xs ∧ Turn p w w' := by
  go_enter Try.func44, Try.ntmps44
  go_wp2_with fail
  refine (dbelow _ _ _ _ _ _ hc (by omega)).mono ?_
  rintro e w1 ⟨⟨x, hx, rfl⟩, hc1, ht1⟩
  have hxl : x < l.length := by have := hx.1 (by omega); omega
  have hcell : w1.cell? ⟨q, x, none⟩ = some (.int .i64 l[x]) := (World.cell?_of_block (w := w) (ht1.block q (by
    rcases Nat.lt_or_ge q w.heap.size with h | h
    · exact h
    · have := hb 0 hl; simp [World.cell?, Array.getElem?_eq_none h] at this) hq)).trans (hb x hxl)
  obtain ⟨z, hz⟩ : ∃ z, z = l[x] := ⟨_, rfl⟩
  have hm : z ∈ l := by rw [hz]; exact List.getElem_mem hxl
  rw [← hz] at hcell
  clear hb hz hr
  go_wp2
  go_ret
  exact ⟨⟨z, hm, rfl⟩, hc1, ht1⟩
theorem Cur.turned {w w' : World} {p : Nat} {A : Option Addr} {cap : Nat} {xs : List Value} (h : Cur w p A cap xs) (hk : ∀ k, k ≤ p → w'.heap[k]? = w.heap[k]?) : Cur w' p A cap xs := by
  obtain ⟨h1, h2, h3, i, hh, h4, h5, h6, h7⟩ := h
  exact ⟨h1, h2, h3.keep (fun q hq => World.cell?_of_block (w := w) (hk q.block (by omega))), i, hh, h4, h5, h6, (hk p (Nat.le_refl _)).trans h7⟩
theorem Cur.lt {w : World} {p : Nat} {A : Option Addr} {cap : Nat} {xs : List Value} (h : Cur w p A cap xs) : p < w.heap.size := by
  obtain ⟨h1, h2, h3, i, hh, h4, h5, h6, h7⟩ := h
  exact h7.lt
theorem Cur.alloc {w : World} {p : Nat} {A : Option Addr} {cap : Nat} {xs : List Value} (h : Cur w p A cap xs) (o : Obj) : Cur (w.alloc o) p A cap xs :=
  h.turned (fun k hk => Below.heap_alloc w o k (by have := h.lt; omega))
theorem Cur.below {w w' : World} {p : Nat} {A : Option Addr} {cap : Nat} {xs : List Value} (h : Cur w p A cap xs) (hb : Below w.heap.size w w') : Cur w' p A cap xs :=
  h.turned (fun k hk => hb.block k (by have := h.lt; omega))
theorem Blk.int_at {w : World} {q : Nat} {T : TypeId} {l : List Int} (hb : Blk w q T (l.map (Value.int .i64)).toArray) (k : Nat) (hk : k < l.length) : w.cell? ⟨q, k, none⟩ = some (.int .i64 l[k]) := by
  rw [hb.cell k]; simp [hk]
theorem Blk.str_at {w : World} {q : Nat} {T : TypeId} {l : List ByteArray} (hb : Blk w q T (l.map Value.string).toArray) (k : Nat) (hk : k < l.length) : w.cell? ⟨q, k, none⟩ = some (.string l[k]) := by
  rw [hb.cell k]; simp [hk]
/-- a draw of one of the numbers of a new list -/
theorem dlist (w : World) (p : Nat) (A : Option Addr) (cap : Nat) (xs : List Value) (l : List Int) (cs : Array Value) (n : Nat) (T : TypeId) (hcs : cs = (l.map (Value.int .i64)).toArray) (hn : n = l.length) (hc : Cur w p A cap xs) (hl : 0 < l.length) (hl2 : l.length ≤ 1000) (hr : ∀ z ∈ l, -9223372036854775808 ≤ z ∧ z ≤ 9223372036854775807) :
    Calls Try.prog 44 #[.pointer (some ⟨p, 0, none⟩), .slice (some ⟨w.heap.size, 0, none⟩) n n] (w.alloc (.cells cs T)) fun e w' => (∃ z : Int, z ∈ l ∧ e = .returned (.int .i64 z)) ∧ Cur w' p A cap xs ∧ Turn p w w' := by
  subst hn hcs
  refine (dint (w.alloc (.cells _ T)) p A cap xs w.heap.size l.length l (hc.alloc _) (by have := hc.lt; omega) hl hl2 hr (Blk.new w T _).int_at).mono ?_
  rintro e w' ⟨hz, h1, h2⟩
  exact ⟨hz, h1, ((Turn.refl p w).alloc _).trans h2⟩
set_option maxRecDepth 100000 in
theorem donce (w : World) (p : Nat) (A : Option Addr) (cap : Nat) (xs : List Value) (n : Int) (hc : Cur w p A cap xs) (hn : n ≤ 9223372036854775807) :
    Calls Try.prog 79 #[.pointer (some ⟨p, 0, none⟩), .int .i64 n] w fun e w' => (∃ b : Bool, e = .returned (.bool b)) ∧ Cur w' p A cap xs ∧ Turn p w w' := by
  go_enter Try.func79, Try.ntmps79
  go_wp2_with fail
  refine (dbelow _ _ _ _ _ _ hc hn).mono ?_
  rintro e w1 ⟨⟨x, hx, rfl⟩, hc1, ht1⟩
  go_wp2
  go_ret
  exact ⟨⟨_, rfl⟩, hc1, ht1⟩
theorem Cur.made (w : World) (A : Option Addr) (cap : Nat) (xs : List Value) (z : Int) (hB : Bytes xs) (hn : xs.length ≤ 1048576) (hR : Reads w w.heap.size A xs) (h0 : 0 ≤ z) (h1 : z ≤ 1073741823) :
    (∃ p : Nat, w.heap.size ≤ p ∧ (.returned (.pointer (some ⟨w.heap.size, 0, none⟩)) : Ending) = .returned (.pointer (some ⟨p, 0, none⟩)) ∧
      Cur (w.alloc (.cells #[.slice A xs.length cap, .int .i64 0, .int .i64 z] 99)) p A cap xs) ∧ Below w.heap.size w (w.alloc (.cells #[.slice A xs.length cap, .int .i64 0, .int .i64 z] 99)) :=
  ⟨⟨w.heap.size, Nat.le_refl _, rfl, hB, hn, hR.keep (fun q hq => World.cell?_alloc_lt w _ q hq), 0, z, Nat.zero_le _, by omega, by omega, Blk.new w _ _⟩, (Below.refl _ _).alloc (Nat.le_refl _) _⟩
set_option maxRecDepth 100000 in
theorem dnew (w : World) (A : Option Addr) (cap : Nat) (xs : List Value) (hB : Bytes xs) (hn : xs.length ≤ 1048576) (hR : Reads w w.heap.size A xs) :
    Calls Try.prog 42 #[.slice A xs.length cap] w fun e w' => (∃ p : Nat, w.heap.size ≤ p ∧ e = .returned (.pointer (some ⟨p, 0, none⟩)) ∧ Cur w' p A cap xs) ∧ Below w.heap.size w w' := by
  go_enter Try.func42, Try.ntmps42
  go_wp2
  go_loop [3, 4] (fun h i => ∃ (k : Nat) (z : Int), k ≤ xs.length ∧ k ≤ 4000 ∧ i = .int .i64 k ∧ h = .int .i64 z ∧ 0 ≤ z ∧ z ≤ 1073741823) (fun _ i => 4000 - (intOf i).toNat)
  case atStart => exact ⟨0, _, Nat.zero_le _, by omega, rfl, rfl, by omega, by omega⟩
  case round =>
    obtain ⟨k, z, hk, hk2, rfl, rfl, hz0, hz1⟩ := hrel
    by_cases hlt : k < xs.length
    · by_cases h4 : k < 4000
      · obtain ⟨ad, rfl, had, hcx⟩ := hR.at_ hlt
        obtain ⟨b, hb⟩ := hB xs[k] (List.getElem_mem hlt)
        rw [hb] at hcx
        have hbl : b.toNat ≤ 255 := by have := UInt8.toNat_lt b; omega
        clear hb had
        go_wp2
        go_round
        case rel => exact ⟨k + 1, _, by omega, by omega, by simp, rfl, by rw [and30]; omega, by rw [and30]; omega⟩
        case measure => simp [intOf]; omega
      · go_wp2
        go_ret
        exact Cur.made w A cap xs z hB hn hR hz0 hz1
    · go_wp2
      go_ret
      exact Cur.made w A cap xs z hB hn hR hz0 hz1
end Go.Proofs.Ytjobjjmeneddnaa
