/- The contracts of chapter 3's cipher, of the program: the key stream's closures, Encrypt, Decrypt. -/
import Derived.Test.YtehmnipaiihndaaCrypto
import Derived.Test.YtehmnipaiihndaaEncode2
import Derived.FnLit
namespace Go.Proofs.Ytehmnipaiihndaa
open Go.ChangeShapes Go.WideShapes Go.ChangeAt Go.RowKit
set_option linter.unusedVariables false
/-- clear of one's own row -/
theorem run_clear_own {P : Program} (w : World) (t ty e : TypeId) (i : TypeInfo) (z : Value) (ht : P.underlying t = some (.slice e)) (hi : P.info? e = some i) (hz : i.zero = some z) (hzc : z.cells = #[z]) (hz1 : z.oneCell' = true)
    (B g n c : Nat) (xs : List Value) (h : Own w B e 1 (some ⟨g, 0, none⟩) (n + 1) c xs) :
    ∃ w', (Builtin.clear_ #[t] ty #[.slice (some ⟨g, 0, none⟩) (n + 1) c]).run P w = .ok (.tuple #[]) w' ∧ w.grownBy w' (some g) := by
  rcases h.row.2 with ⟨h', _⟩ | ⟨g', cap', cur, h', hb, hg, hnc, hcm, hcs, htake⟩
  · simp at h'
  · simp only [Value.slice.injEq, Option.some.injEq, Addr.mk.injEq, and_true, true_and] at h'
    obtain ⟨rfl, rfl⟩ := h'
    have hlen : (Builtin.zeroCells #[z] (n + 1)).toList.length = n + 1 := by simp [Builtin.zeroCells]
    have hone : ∀ v ∈ (Builtin.zeroCells #[z] (n + 1)).toList, v.oneCell' = true := by
      intro v hv
      simp [Builtin.zeroCells] at hv
      obtain ⟨a, _, rfl⟩ := hv
      rw [Nat.mod_one]; exact hz1
    have hst := run_storeCells_at P g 0 e (Builtin.zeroCells #[z] (n + 1)).toList 0 cur w hg (by rw [hlen]; omega) hone
    have key : ∀ W, (storeCells ⟨g, 0, none⟩ (Builtin.zeroCells #[z] (n + 1)).toList 0).run P w = .ok () W → w.grownBy W (some g) →
        ∃ w', (Builtin.clear_ #[t] ty #[.slice (some ⟨g, 0, none⟩) (n + 1) c]).run P w = .ok (.tuple #[]) w' ∧ w.grownBy w' (some g) := fun W h1 h2 =>
      ⟨W, by simp [Builtin.clear_, run_underlying ht, zeroValue, typeInfo, hi, hz, hzc, h1], h2⟩
    exact key _ hst ⟨rfl, rfl, rfl, by simp, fun k hk hne => setRow_other w g k _ (fun e => hne (by rw [e]))⟩
/-- the stream's row: the key, the index, the key -/
def ks (k : Int) (i : Nat) : List Int := [k, (i : Int), k]
/-- the stream's state: its variable in block p, its row in block g -/
structure Stream (w : World) (B p g c : Nat) (k : Int) (i : Nat) : Prop where
  var : w.heap[p]? = some (.cells #[.slice (some ⟨g, 0, none⟩) 3 c] 28 (0, 0))
  row : Own w B 3 1 (some ⟨g, 0, none⟩) 3 c (iv (ks k i))
  ne : p ≠ g
  hp : B ≤ p
theorem Stream.hg {w : World} {B p g c : Nat} {k : Int} {i : Nat} (h : Stream w B p g c k i) : B ≤ g := by
  rcases h.row.form with ⟨e, _⟩ | ⟨g', e, h1, _⟩
  · cases e
  · injection e with e; injection e with e; omega
theorem Stream.kept {w w' : World} {B p g c : Nat} {k : Int} {i : Nat} {row : Option Nat} (h : Stream w B p g c k i) (hg : w.grownBy w' row) (h1 : some p ≠ row) (h2 : some g ≠ row) : Stream w' B p g c k i :=
  ⟨(hg.block p (lt_of_block h.var) h1).trans h.var, h.row.kept hg (.inr (by simpa [Value.ownBlock] using h2)), h.ne, h.hp⟩
set_option maxRecDepth 100000 in
theorem inext (w : World) (B p g c : Nat) (k : Int) (i : Nat) (hi : i ≤ 1000000000000) (h : Stream w B p g c k i) :
    Calls Try.prog 59 #[.pointer (some ⟨p, 0, none⟩)] w fun e w' => e = .returned (.int .u8 (pad k i : Int)) ∧ Stream w' B p g c k (i + 1) ∧ w.grownBy w' (some g) := by
  have cP := cell_of_one h.var
  have HS := Lib.hid h.row.sl
  have hcap := h.row.capm
  have c1 : w.cell? ⟨g, 1, none⟩ = some (.int .i64 i) := (h.row.row.cellAt 1 (by omega)).trans rfl
  have f1 := h.row.row.frozenAt 1
  have hst := h.row.row.stored 1 (.int .i64 ((i : Int) + 1))
  have hfin : Hid (Stream (w.setCell ⟨g, 1, none⟩ (.int .i64 ((i : Int) + 1))) B p g c k (i + 1) ∧ w.grownBy (w.setCell ⟨g, 1, none⟩ (.int .i64 ((i : Int) + 1))) (some g)) := by
    refine Lib.hid ⟨⟨(Below.heap_setCell w _ _ p h.ne).trans h.var, ⟨?_⟩, h.ne, h.hp⟩, hst.2⟩
    have e : iv (ks k (i + 1)) = (iv (ks k i)).set 1 (.int .i64 ((i : Int) + 1)) := by simp [iv, ks]
    rw [e]; exact hst.1
  have hkb := kh_bd k [(i : Int)]
  have hpd := Lib.hid (pad_is k i)
  clear hst h
  go_enter Try.func59, Try.ntmps59
  go_wp2_with fail
  refine (ihash _ _ _ 3 c _ HS.out (by omega)).mono ?_
  rintro e w' ⟨rfl, rfl⟩
  rw [show hs (ks k i) = kh k [(i : Int)] from rfl]
  generalize kh k [(i : Int)] = z at hkb hpd
  go_wp2
  go_ret
  exact ⟨ret_int hpd.out, hfin.out.1, hfin.out.2⟩
theorem iforget (w : World) (B p g c : Nat) (k : Int) (i : Nat) (h : Stream w B p g c k i) :
    Calls Try.prog 60 #[.pointer (some ⟨p, 0, none⟩)] w fun e w' => e = .returned (.tuple #[]) ∧ w.grownBy w' (some g) := by
  obtain ⟨i0, hi, hy0, hy1, hy2⟩ := info_parts i64_info
  have cP := cell_of_one h.var
  obtain ⟨w1, hcl, hg1⟩ := run_clear_own (P := Try.prog) w 28 0 3 i0 (.int .i64 0) Try.underlying28 hi hy0 rfl rfl B g 2 c _ h.row
  have HG := Lib.hid hg1
  clear h hg1 hi hy0 hy1 hy2
  go_enter Try.func60, Try.ntmps60
  go_wp2
  go_end0
  exact ⟨rfl, HG.out⟩
set_option maxRecDepth 100000 in
theorem istream (w : World) (k : Int) :
    Calls Try.prog 58 #[.int .i64 k] w fun e w' => (∃ p g c, e = .returned (.tuple #[.func (.func 59) #[] #[.pointer (some ⟨p, 0, none⟩)], .func (.func 60) #[] #[.pointer (some ⟨p, 0, none⟩)]]) ∧
      (p < w'.heap.size ∧ g < w'.heap.size) ∧ Stream w' w.heap.size p g c k 0) ∧ Below w.heap.size w w' := by
  have hmf : ∀ (fn : Fn) (first cap : Array Value) (w : World), (Instr.makeFunc fn first cap).run Try.prog w = .ok (.func fn first cap) w := fun _ _ _ _ => rfl
  have HB0 := Lib.hid ((Below.refl w.heap.size w).alloc (Nat.le_refl _) (.cells #[.int .i64 0] 3))
  go_enter Try.func58, Try.ntmps58
  go_wp2_with fail
  refine (kseq _ _ k _ 1 1 [0] (Sl.one w (.int .i64 0) 3) (by simp) (by omega)).mono ?_
  rintro e w1 ⟨⟨A1, c1, rfl, o⟩, b⟩
  rcases o.form with ⟨_, h0, _⟩ | ⟨g, rfl, hg0, hg1, _⟩
  · omega
  have hsz : w.heap.size + 1 ≤ w1.heap.size := by have := b.size; simpa using this
  have hg2 : w.heap.size ≤ g := by simp at hg0; omega
  have HB1 := Lib.hid (HB0.out.trans (b.mono (by simp)))
  have HF : Hid (Stream (w1.alloc (.cells #[.slice (some ⟨g, 0, none⟩) 3 c1] 28)) w.heap.size w1.heap.size g c1 k 0 ∧ Below w.heap.size w (w1.alloc (.cells #[.slice (some ⟨g, 0, none⟩) 3 c1] 28))) := by
    refine Lib.hid ⟨⟨heap_alloc_new w1 _, ?_, by omega, by omega⟩, HB1.out.alloc HB1.out.size _⟩
    exact (o.on ((Below.refl w1.heap.size w1).alloc (Nat.le_refl _) _)).fewer (B' := w.heap.size) (by simp)
  clear o b hg0 HB0 HB1
  go_wp2
  go_ret2
  exact ⟨⟨w1.heap.size, g, c1, rfl, ⟨by simp, by simp; omega⟩, HF.out.1⟩, HF.out.2⟩
end Go.Proofs.Ytehmnipaiihndaa
