/- Chapter 13's draws: links of some nodes, a plan with a range, links with a node. Chapter 14's draws: links with a number of nodes, a first site and a destination. -/
import Derived.Test.YtjobjjmeneddnaaDrawCon
import Derived.Test.YtjobjjmeneddnaaGraphFacts
namespace Go.Proofs.Ytjobjjmeneddnaa
open Go.ChangeShapes Go.WideShapes Go.ChangeAt Go.RowKit
set_option linter.unusedVariables false
theorem linkD_info : (Try.prog.info? 80).map (fun i => (i.zero, i.size, i.bytes)) = some (some (.agg #[.int .i64 0, .int .i64 0]), 2, 16) := by kernel_rfl
/-- links of one's own, as a value -/
def OwnLinks (B N : Nat) (e : Ending) (w' : World) : Prop := ∃ (A' : Option Addr) (n' c' : Nat) (l : List (Int × Int)), e = .returned (.slice A' n' c') ∧ n' ≤ N ∧ Own w' B 80 2 A' n' c' (sv l) ∧ Rng l
theorem Rng.snoc {l : List (Int × Int)} (h : Rng l) {a b : Int} (ha : I64 a ∧ I64 b) : Rng (l ++ [(a, b)]) := fun p hp => by
  rcases List.mem_append.1 hp with hp | hp
  · exact h p hp
  · obtain rfl := List.mem_singleton.1 hp; exact ha
set_option maxRecDepth 100000 in
set_option maxHeartbeats 1600000 in
theorem dlinks (w : World) (p : Nat) (A : Option Addr) (cap : Nat) (xs : List Value) (hc : Cur w p A cap xs) (N : Nat) (hN : N ≤ 20) :
    Calls Try.prog 68 #[.pointer (some ⟨p, 0, none⟩), .int .i64 N] w fun e w' => OwnLinks w.heap.size 400 e w' ∧ Cur w' p A cap xs ∧ Turn p w w' := by
  obtain ⟨i0, hi, hy0, hy1, hy2⟩ := info_parts linkD_info
  have hp := hc.lt
  have H0 : Hid (Own (w.alloc (.cells #[] 80)) w.heap.size 80 2 (some ⟨w.heap.size, 0, none⟩) 0 0 (sv [])) := Lib.hid ⟨World.ownsRow_made w #[] 0 (Nat.le_refl _) (by unfold maxLen; omega) rfl⟩
  have D0 := Lib.hid ((Dr.start hc).alloc (.cells #[] 80))
  clear hc
  go_enter Try.func68, Try.ntmps68
  go_wp2_with fail
  go_loopw [5, 6] (fun v i wr => ∃ (a n1 : Nat) (A1 : Option Addr) (c1 : Nat) (l : List (Int × Int)), a ≤ N ∧ i = .int .i64 a ∧ v = .slice A1 n1 c1 ∧ n1 ≤ 20 * a ∧ Own wr w.heap.size 80 2 A1 n1 c1 (sv l) ∧ Rng l ∧ Dr w p A cap xs wr) (fun _ i _ => N - (intOf i).toNat)
  case atStart => exact ⟨0, 0, _, _, [], Nat.zero_le _, rfl, rfl, by omega, H0.out, Rng.nil, D0.out⟩
  case round =>
    clear H0 D0
    obtain ⟨a, n1, A1, c1, l, ha, rfl, rfl, hn1, ho, hj, hd⟩ := hrel
    have HO := Lib.hid ho; have HD := Lib.hid hd; have HJ := Lib.hid hj
    clear ho hd hj
    by_cases hlt : a < N
    case neg =>
      have HF : Hid (OwnLinks w.heap.size 400 (.returned (.slice A1 n1 c1)) wr) := Lib.hid ⟨A1, n1, c1, l, rfl, by omega, HO.out, HJ.out⟩
      clear HO
      go_wp2_with fail
      go_ret
      exact ⟨HF.out, HD.out.cur, HD.out.turn⟩
    case pos =>
      go_wp2_with fail
      go_loopw [5, 7] (fun v i wr => ∃ (b n2 : Nat) (A2 : Option Addr) (c2 : Nat) (l2 : List (Int × Int)), b ≤ N ∧ a + 1 ≤ b ∧ i = .int .i64 b ∧ v = .slice A2 n2 c2 ∧ n2 ≤ 20 * a + b ∧ Own wr w.heap.size 80 2 A2 n2 c2 (sv l2) ∧ Rng l2 ∧ Dr w p A cap xs wr) (fun _ i _ => N - (intOf i).toNat)
      case atStart => exact ⟨a + 1, n1, A1, c1, l, by omega, Nat.le_refl _, by go_num, rfl, by omega, HO.out, HJ.out, HD.out⟩
      case round =>
        clear HO HD HJ
        obtain ⟨b, n2, A2, c2, l2, hb, hab, rfl, rfl, hn2, ho, hj, hd⟩ := hrel
        have HO := Lib.hid ho; have HD := Lib.hid hd; have HJ := Lib.hid hj
        clear ho hd hj
        by_cases hlb : b < N
        case neg =>
          go_wp2_with fail
          go_roundw
          case rel => exact ⟨a + 1, n2, A2, c2, l2, by omega, by go_num, rfl, by omega, HO.out, HJ.out, HD.out⟩
          case measure => simp [intOf]; omega
        case pos =>
          go_wp2_with fail
          refine (donce _ _ _ _ _ _ HD.out.cur (by omega)).mono ?_
          rintro e w1 ⟨⟨u, rfl⟩, k1, u1⟩
          have HO1 := Lib.hid (HO.out.turn u1 hp); have HD1 := Lib.hid (HD.out.call k1 u1)
          clear k1 u1 HO HD
          cases u
          case true =>
            go_wp2_with fail
            go_roundw
            case rel => exact ⟨b + 1, n2, A2, c2, l2, by omega, by omega, by go_num, rfl, by omega, HO1.out, HJ.out, HD1.out⟩
            case measure => simp [intOf]; omega
          case false =>
            have HO4 := Lib.hid (HO1.out.on ((Below.refl w1.heap.size w1).alloc (Nat.le_refl _) (.cells #[.int .i64 a, .int .i64 b] 80)))
            have HD4 := Lib.hid (HD1.out.alloc (.cells #[.int .i64 a, .int .i64 b] 80))
            have hsz : w.heap.size ≤ w1.heap.size := HD1.out.size
            have HJ6 : Hid (Rng (l2 ++ [((a : Int), (b : Int))])) := Lib.hid (HJ.out.snoc (by unfold I64; omega))
            clear HO1 HD1
            go_wp2_with (at_builtin; go_loud (refine wpList_append_sl _ rfl (.tmp 24) (.tmp 28) 24 rfl w.heap.size 80 i0 _ 2 16 Try.underlying24 hi hy0 hy1 hy2 rfl (by omega) A2 n2 c2 (sv l2) rfl HO4.out (w1.heap.size + 1) _ 1 1 [.int .i64 a, .int .i64 b] rfl (Sl.one2 w1 _ _ _) (by simp [Value.oneCell']) (by omega) (by omega) (Nat.le_trans hsz (by simp)) ?_; intro A5 c5 w5 hown5 hg5 hat5; have HO5 : Hid (Own w5 w.heap.size 80 2 A5 (n2 + 1) c5 (sv (l2 ++ [((a : Int), (b : Int))]))) := Lib.hid (by rw [sv_app]; exact hown5); have HD5 := Lib.hid (HD4.out.grown HO4.out hg5); clear hown5 hg5 hat5 HO4 HD4))
            go_roundw
            case rel => exact ⟨b + 1, n2 + 1, A5, c5, _, by omega, by omega, by go_num, rfl, by omega, HO5.out, HJ6.out, HD5.out⟩
            case measure => simp [intOf]; omega
end Go.Proofs.Ytjobjjmeneddnaa
namespace Go.Proofs.Ytjobjjmeneddnaa
open Go.ChangeShapes Go.WideShapes Go.ChangeAt Go.RowKit
set_option linter.unusedVariables false
/-- links of one's own with three numbers, as a tuple -/
def OwnPath (B : Nat) (e : Ending) (w' : World) : Prop := ∃ (A1 : Option Addr) (n1 c1 : Nat) (l : List (Int × Int)) (N f d : Int),
  e = .returned (.tuple #[.slice A1 n1 c1, .int .i64 N, .int .i64 f, .int .i64 d]) ∧ n1 ≤ 402 ∧ Own w' B 80 2 A1 n1 c1 (sv l) ∧ Rng l ∧ (0 ≤ N ∧ N ≤ 13) ∧ (0 ≤ f ∧ f ≤ 6) ∧ (0 ≤ d ∧ d ≤ 6)
set_option maxRecDepth 100000 in
set_option maxHeartbeats 1000000 in
theorem drawdist (w : World) (A : Option Addr) (cap : Nat) (xs : List Value) (hB : Bytes xs) (hn : xs.length ≤ 1048576) (hR : Reads w w.heap.size A xs) :
    Calls Try.prog 39 #[.slice A xs.length cap] w fun e w' => OwnPath w.heap.size e w' ∧ Below w.heap.size w w' := by
  have HR := Lib.hid hR
  have hr1 := Lib.hid (i64_all (l := [6, 6, 6, 5, 0, 13, 1]) (by decide))
  have hr2 := Lib.hid (i64_all (l := [4, 4, 3, 6, 0]) (by decide))
  go_enter Try.func39, Try.ntmps39
  go_wp2_with fail
  refine (dnew _ _ _ _ hB hn HR.out).mono ?_
  rintro e w1 ⟨⟨p, hp, rfl, hc⟩, hb⟩
  have B1 := Lib.hid hb; have K1 := Lib.hid hc
  have hp1 : p < w1.heap.size := hc.lt
  clear hb hc
  go_wp2_with fail
  refine (dlinks _ _ _ _ _ K1.out 6 (by omega)).mono ?_
  rintro e w2 ⟨⟨A1, n1, c1, l, rfl, hn1, ho, hj⟩, k1, u1⟩
  have HJ := Lib.hid hj
  have HO2 := Lib.hid ho; have K2 := Lib.hid k1; have B2 := Lib.hid (B1.out.trans ((u1.below hp1).mono hp))
  clear ho k1 u1 K1 hj
  go_wp2_with fail
  refine (dlist _ _ _ _ _ [6, 6, 6, 5, 0, 13, 1] _ _ _ rfl rfl K2.out (by decide) (by decide) hr1.out).mono ?_
  rintro e w3 ⟨⟨N, hf, rfl⟩, k1, u1⟩
  have hf1 : 0 ≤ N ∧ N ≤ 13 := by simp at hf; omega
  have HF1 := Lib.hid hf1
  have HO3 := Lib.hid (HO2.out.turn u1 hp1); have K3 := Lib.hid k1; have B3 := Lib.hid (B2.out.trans ((u1.below K2.out.lt).mono hp))
  clear k1 u1 K2 HO2 hf hf1
  go_wp2_with fail
  refine (dlist _ _ _ _ _ [4, 4, 3, 6, 0] _ _ _ rfl rfl K3.out (by decide) (by decide) hr2.out).mono ?_
  rintro e w4 ⟨⟨f, hf, rfl⟩, k1, u1⟩
  have hf1 : 0 ≤ f ∧ f ≤ 6 := by simp at hf; omega
  have HF2 := Lib.hid hf1
  have HO4 := Lib.hid (HO3.out.turn u1 hp1); have K4 := Lib.hid k1; have B4 := Lib.hid (B3.out.trans ((u1.below K3.out.lt).mono hp))
  clear k1 u1 K3 HO3 hf hf1
  go_wp2_with fail
  refine (dbelow _ _ _ _ _ _ K4.out (by omega)).mono ?_
  rintro e w5 ⟨⟨v, hv, rfl⟩, k1, u1⟩
  have hv1 := hv.1 (by omega)
  have HF : Hid (OwnPath w.heap.size (.returned (.tuple #[.slice A1 n1 c1, .int .i64 N, .int .i64 f, .int .i64 v])) w5 ∧ Below w.heap.size w w5) := Lib.hid ⟨⟨A1, n1, c1, l, N, f, v, rfl, by omega, (HO4.out.turn u1 hp1).fewer B1.out.size, HJ.out, HF1.out, HF2.out, by omega⟩, B4.out.trans ((u1.below K4.out.lt).mono hp)⟩
  clear hv k1 u1 hv1
  go_wp2_with fail
  refine bodyPost_ret (v := .tuple #[.slice A1 n1 c1, .int .i64 N, .int .i64 f, .int .i64 v]) (by simp [results, Try.results39, go_sem]; try rfl) rfl ?_
  exact HF.out
end Go.Proofs.Ytjobjjmeneddnaa
