/- Chapter 14's draws: links with a number of nodes, a first site and a destination. -/
import Derived.Test.YtclillkneadplaaDrawGraph
namespace Go.Proofs.Ytclillkneadplaa
open Go.ChangeShapes Go.WideShapes Go.ChangeAt Go.RowKit
set_option linter.unusedVariables false
/-- links of one's own with three numbers, as a tuple -/
def OwnPath (B : Nat) (e : Ending) (w' : World) : Prop := ∃ (A1 : Option Addr) (n1 c1 : Nat) (l : List (Int × Int)) (N f d : Int),
  e = .returned (.tuple #[.slice A1 n1 c1, .int .i64 N, .int .i64 f, .int .i64 d]) ∧ n1 ≤ 402 ∧ Own w' B 59 2 A1 n1 c1 (sv l) ∧ Rng l ∧ (0 ≤ N ∧ N ≤ 13) ∧ (0 ≤ f ∧ f ≤ 6) ∧ (0 ≤ d ∧ d ≤ 6)
set_option maxRecDepth 100000 in
set_option maxHeartbeats 1000000 in
theorem drawdist (w : World) (A : Option Addr) (cap : Nat) (xs : List Value) (hB : Bytes xs) (hn : xs.length ≤ 1048576) (hR : Reads w w.heap.size A xs) :
    Calls Try.prog 30 #[.slice A xs.length cap] w fun e w' => OwnPath w.heap.size e w' ∧ Below w.heap.size w w' := by
  have HR := Lib.hid hR
  have hr1 := Lib.hid (i64_all (l := [6, 6, 6, 5, 0, 13, 1]) (by decide))
  have hr2 := Lib.hid (i64_all (l := [4, 4, 3, 6, 0]) (by decide))
  go_enter Try.func30, Try.ntmps30
  go_wp2_with fail
  refine (dnew _ _ _ _ hB hn HR.out).mono ?_
  rintro e w1 ⟨⟨p, hp, rfl, hc⟩, hb⟩
  have B1 := Lib.hid hb; have K1 := Lib.hid hc
  have hp1 : p < w1.heap.size := hc.lt
  clear hb hc
  go_wp2_with fail
  refine (dlinks _ _ _ _ _ K1.out 6 (by omega)).mono ?_
  rintro e w2 ⟨⟨A1, n1, c1, l, rfl, hn1, ho, hj⟩, k1, u1⟩
  have HJ := Lib.hid hj
  have HO2 := Lib.hid ho; have K2 := Lib.hid k1; have B2 := Lib.hid (B1.out.trans ((u1.below hp1).mono hp))
  clear ho k1 u1 K1 hj
  go_wp2_with fail
  refine (dlist _ _ _ _ _ [6, 6, 6, 5, 0, 13, 1] _ _ _ rfl rfl K2.out (by decide) (by decide) hr1.out).mono ?_
  rintro e w3 ⟨⟨N, hf, rfl⟩, k1, u1⟩
  have hf1 : 0 ≤ N ∧ N ≤ 13 := by simp at hf; omega
  have HF1 := Lib.hid hf1
  have HO3 := Lib.hid (HO2.out.turn u1 hp1); have K3 := Lib.hid k1; have B3 := Lib.hid (B2.out.trans ((u1.below K2.out.lt).mono hp))
  clear k1 u1 K2 HO2 hf hf1
  go_wp2_with fail
  refine (dlist _ _ _ _ _ [4, 4, 3, 6, 0] _ _ _ rfl rfl K3.out (by decide) (by decide) hr2.out).mono ?_
  rintro e w4 ⟨⟨f, hf, rfl⟩, k1, u1⟩
  have hf1 : 0 ≤ f ∧ f ≤ 6 := by simp at hf; omega
  have HF2 := Lib.hid hf1
  have HO4 := Lib.hid (HO3.out.turn u1 hp1); have K4 := Lib.hid k1; have B4 := Lib.hid (B3.out.trans ((u1.below K3.out.lt).mono hp))
  clear k1 u1 K3 HO3 hf hf1
  go_wp2_with fail
  refine (dbelow _ _ _ _ _ _ K4.out (by omega)).mono ?_
  rintro e w5 ⟨⟨v, hv, rfl⟩, k1, u1⟩
  have hv1 := hv.1 (by omega)
  have HF : Hid (OwnPath w.heap.size (.returned (.tuple #[.slice A1 n1 c1, .int .i64 N, .int .i64 f, .int .i64 v])) w5 ∧ Below w.heap.size w w5) := Lib.hid ⟨⟨A1, n1, c1, l, N, f, v, rfl, by omega, (HO4.out.turn u1 hp1).fewer B1.out.size, HJ.out, HF1.out, HF2.out, by omega⟩, B4.out.trans ((u1.below K4.out.lt).mono hp)⟩
  clear hv k1 u1 hv1
  go_wp2_with fail
  refine bodyPost_ret (v := .tuple #[.slice A1 n1 c1, .int .i64 N, .int .i64 f, .int .i64 v]) (by simp [results, Try.results30, go_sem]; try rfl) rfl ?_
  exact HF.out
theorem drawnext (w : World) (A : Option Addr) (cap : Nat) (xs : List Value) (hB : Bytes xs) (hn : xs.length ≤ 1048576) (hR : Reads w w.heap.size A xs) :
    Calls Try.prog 10 #[.slice A xs.length cap] w fun e w' => OwnPath w.heap.size e w' ∧ Below w.heap.size w w' := by
  have HR := Lib.hid hR
  go_enter Try.func10, Try.ntmps10
  go_wp2_with fail
  refine (drawdist _ _ _ _ hB hn HR.out).mono ?_
  rintro e w1 ⟨⟨A1, n1, c1, l, N, f, d, rfl, hr⟩, hb⟩
  have HF : Hid (OwnPath w.heap.size (.returned (.tuple #[.slice A1 n1 c1, .int .i64 N, .int .i64 f, .int .i64 d])) w1 ∧ Below w.heap.size w w1) := Lib.hid ⟨⟨A1, n1, c1, l, N, f, d, rfl, hr⟩, hb⟩
  clear hr hb
  go_wp2_with fail
  refine bodyPost_ret (v := .tuple #[.slice A1 n1 c1, .int .i64 N, .int .i64 f, .int .i64 d]) (by simp [results, Try.results10, go_sem]; try rfl) rfl ?_
  exact HF.out
end Go.Proofs.Ytclillkneadplaa
