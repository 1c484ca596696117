/- Chapter 13's draws: links of some nodes, a plan with a range, links with a node. -/
import Derived.Test.YtclillkneadplaaDrawCon
import Derived.Test.YtclillkneadplaaGraphFacts
namespace Go.Proofs.Ytclillkneadplaa
open Go.ChangeShapes Go.WideShapes Go.ChangeAt Go.RowKit
set_option linter.unusedVariables false
theorem linkD_info : (Try.prog.info? 59).map (fun i => (i.zero, i.size, i.bytes)) = some (some (.agg #[.int .i64 0, .int .i64 0]), 2, 16) := by kernel_rfl
/-- links of one's own, as a value -/
def OwnLinks (B N : Nat) (e : Ending) (w' : World) : Prop := ∃ (A' : Option Addr) (n' c' : Nat) (l : List (Int × Int)), e = .returned (.slice A' n' c') ∧ n' ≤ N ∧ Own w' B 59 2 A' n' c' (sv l) ∧ Rng l
theorem Rng.snoc {l : List (Int × Int)} (h : Rng l) {a b : Int} (ha : I64 a ∧ I64 b) : Rng (l ++ [(a, b)]) := fun p hp => by
  rcases List.mem_append.1 hp with hp | hp
  · exact h p hp
  · obtain rfl := List.mem_singleton.1 hp; exact ha
set_option maxRecDepth 100000 in
set_option maxHeartbeats 1600000 in
theorem dlinks (w : World) (p : Nat) (A : Option Addr) (cap : Nat) (xs : List Value) (hc : Cur w p A cap xs) (N : Nat) (hN : N ≤ 20) :
    Calls Try.prog 45 #[.pointer (some ⟨p, 0, none⟩), .int .i64 N] w fun e w' => OwnLinks w.heap.size 400 e w' ∧ Cur w' p A cap xs ∧ Turn p w w' := by
  obtain ⟨i0, hi, hy0, hy1, hy2⟩ := info_parts linkD_info
  have hp := hc.lt
  have H0 : Hid (Own (w.alloc (.cells #[] 59)) w.heap.size 59 2 (some ⟨w.heap.size, 0, none⟩) 0 0 (sv [])) := Lib.hid ⟨World.ownsRow_made w #[] 0 (Nat.le_refl _) (by unfold maxLen; omega) rfl⟩
  have D0 := Lib.hid ((Dr.start hc).alloc (.cells #[] 59))
  clear hc
  go_enter Try.func45, Try.ntmps45
  go_wp2_with fail
  go_loopw [5, 6] (fun v i wr => ∃ (a n1 : Nat) (A1 : Option Addr) (c1 : Nat) (l : List (Int × Int)), a ≤ N ∧ i = .int .i64 a ∧ v = .slice A1 n1 c1 ∧ n1 ≤ 20 * a ∧ Own wr w.heap.size 59 2 A1 n1 c1 (sv l) ∧ Rng l ∧ Dr w p A cap xs wr) (fun _ i _ => N - (intOf i).toNat)
  case atStart => exact ⟨0, 0, _, _, [], Nat.zero_le _, rfl, rfl, by omega, H0.out, Rng.nil, D0.out⟩
  case round =>
    clear H0 D0
    obtain ⟨a, n1, A1, c1, l, ha, rfl, rfl, hn1, ho, hj, hd⟩ := hrel
    have HO := Lib.hid ho; have HD := Lib.hid hd; have HJ := Lib.hid hj
    clear ho hd hj
    by_cases hlt : a < N
    case neg =>
      have HF : Hid (OwnLinks w.heap.size 400 (.returned (.slice A1 n1 c1)) wr) := Lib.hid ⟨A1, n1, c1, l, rfl, by omega, HO.out, HJ.out⟩
      clear HO
      go_wp2_with fail
      go_ret
      exact ⟨HF.out, HD.out.cur, HD.out.turn⟩
    case pos =>
      go_wp2_with fail
      go_loopw [5, 7] (fun v i wr => ∃ (b n2 : Nat) (A2 : Option Addr) (c2 : Nat) (l2 : List (Int × Int)), b ≤ N ∧ a + 1 ≤ b ∧ i = .int .i64 b ∧ v = .slice A2 n2 c2 ∧ n2 ≤ 20 * a + b ∧ Own wr w.heap.size 59 2 A2 n2 c2 (sv l2) ∧ Rng l2 ∧ Dr w p A cap xs wr) (fun _ i _ => N - (intOf i).toNat)
      case atStart => exact ⟨a + 1, n1, A1, c1, l, by omega, Nat.le_refl _, by go_num, rfl, by omega, HO.out, HJ.out, HD.out⟩
      case round =>
        clear HO HD HJ
        obtain ⟨b, n2, A2, c2, l2, hb, hab, rfl, rfl, hn2, ho, hj, hd⟩ := hrel
        have HO := Lib.hid ho; have HD := Lib.hid hd; have HJ := Lib.hid hj
        clear ho hd hj
        by_cases hlb : b < N
        case neg =>
          go_wp2_with fail
          go_roundw
          case rel => exact ⟨a + 1, n2, A2, c2, l2, by omega, by go_num, rfl, by omega, HO.out, HJ.out, HD.out⟩
          case measure => simp [intOf]; omega
        case pos =>
          go_wp2_with fail
          refine (donce _ _ _ _ _ _ HD.out.cur (by omega)).mono ?_
          rintro e w1 ⟨⟨u, rfl⟩, k1, u1⟩
          have HO1 := Lib.hid (HO.out.turn u1 hp); have HD1 := Lib.hid (HD.out.call k1 u1)
          clear k1 u1 HO HD
          cases u
          case true =>
            go_wp2_with fail
            go_roundw
            case rel => exact ⟨b + 1, n2, A2, c2, l2, by omega, by omega, by go_num, rfl, by omega, HO1.out, HJ.out, HD1.out⟩
            case measure => simp [intOf]; omega
          case false =>
            have HO4 := Lib.hid (HO1.out.on ((Below.refl w1.heap.size w1).alloc (Nat.le_refl _) (.cells #[.int .i64 a, .int .i64 b] 59)))
            have HD4 := Lib.hid (HD1.out.alloc (.cells #[.int .i64 a, .int .i64 b] 59))
            have hsz : w.heap.size ≤ w1.heap.size := HD1.out.size
            have HJ6 : Hid (Rng (l2 ++ [((a : Int), (b : Int))])) := Lib.hid (HJ.out.snoc (by unfold I64; omega))
            clear HO1 HD1
            go_wp2_with (at_builtin; go_loud (refine wpList_append_sl _ rfl (.tmp 24) (.tmp 28) 24 rfl w.heap.size 59 i0 _ 2 16 Try.underlying24 hi hy0 hy1 hy2 rfl (by omega) A2 n2 c2 (sv l2) rfl HO4.out (w1.heap.size + 1) _ 1 1 [.int .i64 a, .int .i64 b] rfl (Sl.one2 w1 _ _ _) (by simp [Value.oneCell']) (by omega) (by omega) (Nat.le_trans hsz (by simp)) ?_; intro A5 c5 w5 hown5 hg5 hat5; have HO5 : Hid (Own w5 w.heap.size 59 2 A5 (n2 + 1) c5 (sv (l2 ++ [((a : Int), (b : Int))]))) := Lib.hid (by rw [sv_app]; exact hown5); have HD5 := Lib.hid (HD4.out.grown HO4.out hg5); clear hown5 hg5 hat5 HO4 HD4))
            go_roundw
            case rel => exact ⟨b + 1, n2 + 1, A5, c5, _, by omega, by omega, by go_num, rfl, by omega, HO5.out, HJ6.out, HD5.out⟩
            case measure => simp [intOf]; omega
end Go.Proofs.Ytclillkneadplaa
