/- The model's l15Node, IsTable. The model's IsTable. -/
import Derived.Test.YtjobjjmeneddnaaTableM
namespace Go.Proofs.Ytjobjjmeneddnaa
open Go.ChangeShapes Go.WideShapes Go.ChangeAt Go.RowKit
set_option linter.unusedVariables false
/-- a number in a range, as a letter -/
def inB (n lo hi : Int) : Bool := decide (lo ≤ n ∧ n ≤ hi)
theorem sinrB (n lo hi : Int) (w : World) (b : Bool) (h : inB n lo hi = b) : Calls Try.prog 64 #[.int .i64 n, .int .i64 lo, .int .i64 hi] w fun e w' => e = .returned (.bool b) ∧ w = w' := by
  subst h
  by_cases h : lo ≤ n ∧ n ≤ hi
  · rw [show inB n lo hi = true from decide_eq_true h]; exact sinr_t n lo hi w h.1 h.2
  · rw [show inB n lo hi = false from decide_eq_false h]; exact sinr_f n lo hi w h
/-- the entry of a node is right -/
def nodeB (S : Int) (ld ln : List Int) (N : Nat) (f : Int) (i : Nat) : Bool :=
  if (i : Int) = S ∨ atD ld i = -1 then decide (atD ln i = -1 ∧ (atD ld i = 0 ↔ (i : Int) = S))
  else decide ((1 ≤ atD ld i ∧ atD ld i ≤ (N : Int) - 1) ∧ (0 ≤ atD ln i ∧ atD ln i ≤ (N : Int) - 1) ∧ (atD ln i < f ∨ atD ln i = S) ∧ atD ld (atD ln i) = atD ld i - 1)
set_option maxRecDepth 100000 in
set_option maxHeartbeats 1000000 in
theorem snode (w : World) (D : Nat) (S : Int) (Ad : Option Addr) (nd cd : Nat) (An : Option Addr) (nn cn : Nat) (ld ln : List Int) (h : InTab w D Ad nd cd An nn cn ld ln) (hD : D ≤ w.heap.size) (N : Nat) (hd : ld.length = N) (hn : ln.length = N) (hN : N ≤ 12) (f : Int) (i : Nat) (hi : i < N) (b : Bool) (hb : nodeB S ld ln N f i = b) :
    Calls Try.prog 62 #[.agg #[.int .i64 S, .slice Ad nd cd, .slice An nn cn], .int .i64 N, .int .i64 f, .int .i64 i] w (Says w b) := by
  have hnl : nn = N := by have h1 := h.n.len; rw [iv_len] at h1; omega
  have hdl : nd = N := by have h1 := h.d.len; rw [iv_len] at h1; omega
  subst nn; subst nd
  obtain ⟨W1, hW1⟩ : ∃ W, W = w.alloc (.cells #[.int .i64 S, .slice Ad N cd, .slice An N cn] 29) := ⟨_, rfl⟩
  obtain ⟨g, hg⟩ : ∃ g, g = w.heap.size := ⟨_, rfl⟩
  have b1 : Below w.heap.size w W1 := by rw [hW1]; exact (Below.refl _ _).alloc (Nat.le_refl _) _
  have Y1 : Blk W1 g 29 #[.int .i64 S, .slice Ad N cd, .slice An N cn] := by rw [hW1, hg]; exact Blk.new _ _ _
  have hs1 : w.heap.size ≤ W1.heap.size := b1.size
  have HC : Hid (∀ wr, Below W1.heap.size W1 wr → InTab wr D Ad N cd An N cn ld ln ∧ D ≤ wr.heap.size ∧ Below w.heap.size w wr ∧ (wr.cell? ⟨g, 0, none⟩ = some (.int .i64 S) ∧ wr.cell? ⟨g, 1, none⟩ = some (.slice Ad N cd) ∧ wr.cell? ⟨g, 2, none⟩ = some (.slice An N cn))) := Lib.hid fun wr hb => by
    have hbw := b1.trans (hb.mono hs1)
    have Y := Y1.below hb Y1.lt
    exact ⟨h.below hbw hD, Nat.le_trans hD hbw.size, hbw, Y.cell 0, Y.cell 1, Y.cell 2⟩
  have HW1 := Lib.hid hW1; have HG := Lib.hid hg
  have hcn := h.n.cap; have hcm := h.n.capm; have hdn := h.d.cap; have hdm := h.d.capm
  clear h b1 hW1 hg Y1
  obtain ⟨hT, -, hbw, q0, q1, q2⟩ := HC.out _ (Below.refl _ _)
  have HBW := Lib.hid hbw
  have hil : i < ln.length := by omega
  have hid : i < ld.length := by omega
  obtain ⟨an, hx, rfl, had, c0⟩ := Sl.int (by rw [hn]; exact hT.n) hil
  obtain ⟨ad, hy, rfl, hbd, c1⟩ := Sl.int (by rw [hd]; exact hT.d) hid
  rw [← atD_nat ln i hil] at c0
  rw [← atD_nat ld i hid] at c1
  obtain ⟨n, hn1⟩ : ∃ z, z = atD ln i := ⟨_, rfl⟩
  obtain ⟨v, hv1⟩ : ∃ z, z = atD ld i := ⟨_, rfl⟩
  rw [← hn1] at c0
  rw [← hv1] at c1
  have HB : Hid ((if (i : Int) = S ∨ v = -1 then decide (n = -1 ∧ (v = 0 ↔ (i : Int) = S)) else decide ((1 ≤ v ∧ v ≤ (N : Int) - 1) ∧ (0 ≤ n ∧ n ≤ (N : Int) - 1) ∧ (n < f ∨ n = S) ∧ atD ld n = v - 1)) = b) := Lib.hid (by rw [hn1, hv1]; exact hb)
  have hi0 : (0 : Int) ≤ (i : Int) := by omega
  have hiN : (i : Int) < (N : Int) := by omega
  have HLD := Lib.hid hd
  clear hbw hT hx hy had hbd hn1 hv1 hb hn hd hil hid
  have hw1 : wrap64 ((N : Int) - 1) = (N : Int) - 1 := by unfold wrap64; omega
  by_cases hS : (i : Int) = S
  case pos =>
    have HX : Hid (b = decide (n = -1 ∧ v = 0)) := Lib.hid (by rw [← HB.out, if_pos (.inl hS), decide_eq_decide]; exact ⟨fun h => ⟨h.1, h.2.2 hS⟩, fun h => ⟨h.1, fun _ => hS, fun _ => h.2⟩⟩)
    clear HB
    subst hS
    by_cases h1 : n = -1
    case pos =>
      subst h1
      by_cases h2 : v = 0
      case pos =>
        subst h2
        obtain rfl : b = true := by rw [HX.out]; rfl
        clear HX
        go_enter Try.func62, Try.ntmps62
        go_upto_region 1 with fail
        rw [← HW1.out, ← HG.out]
        go_upto_region 3 with fail
        go_quiet (fail)
        have HF := Lib.hid (HC.out _ (below_drawnK (Below.refl _ _) nq)).2.2.1
        go_wp2_with fail
        go_ret
        exact ⟨rfl, HF.out⟩
      case neg =>
        obtain rfl : b = false := by rw [HX.out]; exact decide_eq_false fun h => h2 h.2
        have h2b : (v == 0) = false := by simpa using h2
        clear HX h2
        go_enter Try.func62, Try.ntmps62
        go_upto_region 1 with fail
        rw [← HW1.out, ← HG.out]
        go_upto_region 3 with fail
        go_quiet (fail)
        have HF := Lib.hid (HC.out _ (below_drawnK (Below.refl _ _) nq)).2.2.1
        go_wp2_with fail
        go_ret
        exact ⟨rfl, HF.out⟩
    case neg =>
      obtain rfl : b = false := by rw [HX.out]; exact decide_eq_false fun h => h1 h.1
      have h1b : (n == -1) = false := by simpa using h1
      clear HX h1
      go_enter Try.func62, Try.ntmps62
      go_upto_region 1 with fail
      rw [← HW1.out, ← HG.out]
      go_upto_region 3 with fail
      go_quiet (fail)
      have HF := Lib.hid (HC.out _ (below_drawnK (Below.refl _ _) nq)).2.2.1
      go_wp2_with fail
      go_ret
      exact ⟨rfl, HF.out⟩
  case neg =>
    have hSb : ((i : Int) == S) = false := by simpa using hS
    by_cases hv : v = -1
    case pos =>
      have HX : Hid (b = decide (n = -1)) := Lib.hid (by rw [← HB.out, if_pos (.inr hv), decide_eq_decide]; exact ⟨fun h => h.1, fun h => ⟨h, fun e => by omega, fun e => absurd e hS⟩⟩)
      clear HB hS
      subst hv
      by_cases h1 : n = -1
      case pos =>
        subst h1
        obtain rfl : b = true := by rw [HX.out]; rfl
        clear HX
        go_enter Try.func62, Try.ntmps62
        go_upto_region 1 with fail
        rw [← HW1.out, ← HG.out]
        go_upto_region 3 with fail
        go_quiet (fail)
        have HF := Lib.hid (HC.out _ (below_drawnK (Below.refl _ _) nq)).2.2.1
        go_wp2_with fail
        go_ret
        exact ⟨rfl, HF.out⟩
      case neg =>
        obtain rfl : b = false := by rw [HX.out]; exact decide_eq_false h1
        have h1b : (n == -1) = false := by simpa using h1
        clear HX h1
        go_enter Try.func62, Try.ntmps62
        go_upto_region 1 with fail
        rw [← HW1.out, ← HG.out]
        go_upto_region 3 with fail
        go_quiet (fail)
        have HF := Lib.hid (HC.out _ (below_drawnK (Below.refl _ _) nq)).2.2.1
        go_wp2_with fail
        go_ret
        exact ⟨rfl, HF.out⟩
    case neg =>
      have hvb : (v == -1) = false := by simpa using hv
      have HX : Hid (b = decide ((1 ≤ v ∧ v ≤ (N : Int) - 1) ∧ (0 ≤ n ∧ n ≤ (N : Int) - 1) ∧ (n < f ∨ n = S) ∧ atD ld n = v - 1)) := Lib.hid (by rw [← HB.out, if_neg (fun h => by rcases h with h | h; exact hS h; exact hv h)])
      clear HB hS hv
      by_cases h1 : 1 ≤ v ∧ v ≤ (N : Int) - 1
      case neg =>
        obtain rfl : b = false := by rw [HX.out]; exact decide_eq_false fun h => h1 h.1
        have f1 : inB v 1 ((N : Int) - 1) = false := decide_eq_false h1
        clear HX h1
        go_enter Try.func62, Try.ntmps62
        go_upto_region 1 with fail
        rw [← HW1.out, ← HG.out]
        go_upto_region 4 with fail
        go_quiet (first | (go_at_call 64; refine quiet_same (sinrB _ _ _ _ _ (by assumption))))
        have HF := Lib.hid (HC.out _ (below_drawnK (Below.refl _ _) nq)).2.2.1
        go_wp2_with fail
        go_ret
        exact ⟨rfl, HF.out⟩
      case pos =>
        have f1 : inB v 1 ((N : Int) - 1) = true := decide_eq_true h1
        obtain ⟨h1a, h1b⟩ := h1
        by_cases h2 : 0 ≤ n ∧ n ≤ (N : Int) - 1
        case neg =>
          obtain rfl : b = false := by rw [HX.out]; exact decide_eq_false fun h => h2 h.2.1
          have f2 : inB n 0 ((N : Int) - 1) = false := decide_eq_false h2
          clear HX h2
          go_enter Try.func62, Try.ntmps62
          go_upto_region 1 with fail
          rw [← HW1.out, ← HG.out]
          go_upto_region 4 with fail
          go_quiet (first | (go_at_call 64; refine quiet_same (sinrB _ _ _ _ _ (by assumption))))
          have HF := Lib.hid (HC.out _ (below_drawnK (Below.refl _ _) nq)).2.2.1
          go_wp2_with fail
          go_ret
          exact ⟨rfl, HF.out⟩
        case pos =>
          have f2 : inB n 0 ((N : Int) - 1) = true := decide_eq_true h2
          obtain ⟨h2a, h2b⟩ := h2
          obtain ⟨ni, rfl⟩ : ∃ ni : Nat, (ni : Int) = n := ⟨n.toNat, by omega⟩
          have hnl : ni < ld.length := by have := HLD.out; omega
          have hnN : (ni : Int) < (N : Int) := by omega
          obtain ⟨ad', hz, ez, hzb, c2⟩ := Sl.int (by rw [HLD.out]; exact (HC.out _ (Below.refl _ _)).1.d) hnl
          injection ez with ez
          subst ez
          rw [← atD_nat ld ni hnl] at c2
          obtain ⟨x, hx⟩ : ∃ z, z = atD ld ni := ⟨_, rfl⟩
          rw [← hx] at c2 HX
          have HY : Hid (b = decide (((ni : Int) < f ∨ (ni : Int) = S) ∧ x = v - 1)) := Lib.hid (by rw [HX.out, decide_eq_decide]; exact ⟨fun h => h.2.2, fun h => ⟨⟨h1a, h1b⟩, ⟨h2a, h2b⟩, h⟩⟩)
          have hw2 : wrap64 (v - 1) = v - 1 := by unfold wrap64; omega
          clear hx hz hzb HX
          by_cases h4 : x = v - 1
          case pos =>
            subst h4
            by_cases h3 : (ni : Int) < f
            case pos =>
              obtain rfl : b = true := by rw [HY.out]; exact decide_eq_true ⟨.inl h3, rfl⟩
              clear HY
              go_enter Try.func62, Try.ntmps62
              go_upto_region 1 with fail
              rw [← HW1.out, ← HG.out]
              go_upto_region 4 with fail
              go_quiet (first | (go_at_call 64; refine quiet_same (sinrB _ _ _ _ _ (by assumption))))
              have HF := Lib.hid (HC.out _ (below_drawnK (Below.refl _ _) nq)).2.2.1
              go_wp2_with fail
              go_ret
              exact ⟨rfl, HF.out⟩
            case neg =>
              have h3d : decide ((ni : Int) < f) = false := decide_eq_false h3
              by_cases h5 : (ni : Int) = S
              case pos =>
                obtain rfl : b = true := by rw [HY.out]; exact decide_eq_true ⟨.inr h5, rfl⟩
                subst h5
                clear HY h3
                go_enter Try.func62, Try.ntmps62
                go_upto_region 1 with fail
                rw [← HW1.out, ← HG.out]
                go_upto_region 4 with fail
                go_quiet (first | (go_at_call 64; refine quiet_same (sinrB _ _ _ _ _ (by assumption))))
                have HF := Lib.hid (HC.out _ (below_drawnK (Below.refl _ _) nq)).2.2.1
                go_wp2_with fail
                go_ret
                exact ⟨rfl, HF.out⟩
              case neg =>
                obtain rfl : b = false := by rw [HY.out]; exact decide_eq_false fun h => by rcases h.1 with h | h; exact h3 h; exact h5 h
                have h5b : ((ni : Int) == S) = false := by simpa using h5
                clear HY h3 h5
                go_enter Try.func62, Try.ntmps62
                go_upto_region 1 with fail
                rw [← HW1.out, ← HG.out]
                go_upto_region 4 with fail
                go_quiet (first | (go_at_call 64; refine quiet_same (sinrB _ _ _ _ _ (by assumption))))
                have HF := Lib.hid (HC.out _ (below_drawnK (Below.refl _ _) nq)).2.2.1
                go_wp2_with fail
                go_ret
                exact ⟨rfl, HF.out⟩
          case neg =>
            obtain rfl : b = false := by rw [HY.out]; exact decide_eq_false fun h => h4 h.2
            have h4b : (x == v - 1) = false := by simpa using h4
            clear HY h4
            by_cases h3 : (ni : Int) < f
            case pos =>
              go_enter Try.func62, Try.ntmps62
              go_upto_region 1 with fail
              rw [← HW1.out, ← HG.out]
              go_upto_region 4 with fail
              go_quiet (first | (go_at_call 64; refine quiet_same (sinrB _ _ _ _ _ (by assumption))))
              have HF := Lib.hid (HC.out _ (below_drawnK (Below.refl _ _) nq)).2.2.1
              go_wp2_with fail
              go_ret
              exact ⟨rfl, HF.out⟩
            case neg =>
              have h3d : decide ((ni : Int) < f) = false := decide_eq_false h3
              by_cases h5 : (ni : Int) = S
              case pos =>
                subst h5
                clear h3
                go_enter Try.func62, Try.ntmps62
                go_upto_region 1 with fail
                rw [← HW1.out, ← HG.out]
                go_upto_region 4 with fail
                go_quiet (first | (go_at_call 64; refine quiet_same (sinrB _ _ _ _ _ (by assumption))))
                have HF := Lib.hid (HC.out _ (below_drawnK (Below.refl _ _) nq)).2.2.1
                go_wp2_with fail
                go_ret
                exact ⟨rfl, HF.out⟩
              case neg =>
                have h5b : ((ni : Int) == S) = false := by simpa using h5
                clear h3 h5
                go_enter Try.func62, Try.ntmps62
                go_upto_region 1 with fail
                rw [← HW1.out, ← HG.out]
                go_upto_region 4 with fail
                go_quiet (first | (go_at_call 64; refine quiet_same (sinrB _ _ _ _ _ (by assumption))))
                have HF := Lib.hid (HC.out _ (below_drawnK (Below.refl _ _) nq)).2.2.1
                go_wp2_with fail
                go_ret
                exact ⟨rfl, HF.out⟩
end Go.Proofs.Ytjobjjmeneddnaa
namespace Go.Proofs.Ytjobjjmeneddnaa
open Go.ChangeShapes Go.WideShapes Go.ChangeAt Go.RowKit
set_option linter.unusedVariables false
/-- a right table, as its model says -/
def isTab (S : Int) (ld ln : List Int) (nodes f : Int) : Bool := decide (okP nodes S = true ∧ (ld.length : Int) = nodes ∧ (ln.length : Int) = nodes ∧ ∀ i, i < ln.length → nodeB S ld ln ln.length f i = true)
set_option maxRecDepth 100000 in
set_option maxHeartbeats 1000000 in
theorem sistab (w : World) (D : Nat) (S : Int) (Ad : Option Addr) (nd cd : Nat) (An : Option Addr) (nn cn : Nat) (ld ln : List Int) (h : InTab w D Ad nd cd An nn cn ld ln) (hD : D ≤ w.heap.size) (nodes f : Int) (b : Bool) (hb : isTab S ld ln nodes f = b) :
    Calls Try.prog 30 #[.agg #[.int .i64 S, .slice Ad nd cd, .slice An nn cn], .int .i64 nodes, .int .i64 f] w (Says w b) := by
  have hnl : nn = ln.length := by have h1 := h.n.len; rw [iv_len] at h1; omega
  have hdl : nd = ld.length := by have h1 := h.d.len; rw [iv_len] at h1; omega
  subst hnl; subst hdl
  obtain ⟨W1, hW1⟩ : ∃ W, W = w.alloc (.cells #[.int .i64 S, .slice Ad ld.length cd, .slice An ln.length cn] 29) := ⟨_, rfl⟩
  obtain ⟨g, hg⟩ : ∃ g, g = w.heap.size := ⟨_, rfl⟩
  have b1 : Below w.heap.size w W1 := by rw [hW1]; exact (Below.refl _ _).alloc (Nat.le_refl _) _
  have Y1 : Blk W1 g 29 #[.int .i64 S, .slice Ad ld.length cd, .slice An ln.length cn] := by rw [hW1, hg]; exact Blk.new _ _ _
  have hs1 : w.heap.size ≤ W1.heap.size := b1.size
  have HC : Hid (∀ wr, Below W1.heap.size W1 wr → InTab wr D Ad ld.length cd An ln.length cn ld ln ∧ D ≤ wr.heap.size ∧ Below w.heap.size w wr ∧ (wr.cell? ⟨g, 0, none⟩ = some (.int .i64 S) ∧ wr.cell? ⟨g, 1, none⟩ = some (.slice Ad ld.length cd) ∧ wr.cell? ⟨g, 2, none⟩ = some (.slice An ln.length cn))) := Lib.hid fun wr hb => by
    have hbw := b1.trans (hb.mono hs1)
    have Y := Y1.below hb Y1.lt
    exact ⟨h.below hbw hD, Nat.le_trans hD hbw.size, hbw, Y.cell 0, Y.cell 1, Y.cell 2⟩
  have HW1 := Lib.hid hW1; have HG := Lib.hid hg; have HB := Lib.hid hb
  have hcn := h.n.cap; have hcm := h.n.capm; have hdn := h.d.cap; have hdm := h.d.capm
  clear h b1 hW1 hg Y1 hb
  obtain ⟨-, -, hbw, q0, q1, q2⟩ := HC.out _ (Below.refl _ _)
  have HBW := Lib.hid hbw
  clear hbw
  obtain ⟨k, hk⟩ : ∃ k, okP nodes S = k := ⟨_, rfl⟩
  cases k
  case false =>
    obtain rfl : b = false := by rw [← HB.out]; exact decide_eq_false fun h => by rw [hk] at h; exact absurd h.1 (by decide)
    clear HB
    have HF := HBW
    go_enter Try.func30, Try.ntmps30
    go_upto_region 1 with fail
    rw [← HW1.out, ← HG.out]
    go_wp2_with fail
    refine (sok nodes S false hk _).mono ?_
    rintro e w2 ⟨rfl, rfl⟩
    go_wp2_with fail
    go_ret
    exact ⟨rfl, HF.out⟩
  case true =>
    have hok := hk
    unfold okP at hok
    have hok := of_decide_eq_true hok
    by_cases hl1 : (ld.length : Int) = nodes
    case neg =>
      obtain rfl : b = false := by rw [← HB.out]; exact decide_eq_false fun h => hl1 h.2.1
      have e1 : ((ld.length : Int) != nodes) = true := by simpa using hl1
      have HK := Lib.hid hk
      clear hl1 hk hok HB
      go_enter Try.func30, Try.ntmps30
      go_upto_region 1 with fail
      rw [← HW1.out, ← HG.out]
      go_wp2_with fail
      refine (sok nodes S true HK.out _).mono ?_
      rintro e w2 ⟨rfl, rfl⟩
      go_wp2_with fail
      go_ret
      exact ⟨rfl, HBW.out⟩
    case pos =>
      by_cases hl2 : (ln.length : Int) = nodes
      case neg =>
        obtain rfl : b = false := by rw [← HB.out]; exact decide_eq_false fun h => hl2 h.2.2.1
        subst hl1
        have e2 : ((ln.length : Int) != (ld.length : Int)) = true := by simpa only [bne_iff_ne, ne_eq] using hl2
        have HK := Lib.hid hk
        clear hl2 hk hok HB
        go_enter Try.func30, Try.ntmps30
        go_upto_region 1 with fail
        rw [← HW1.out, ← HG.out]
        go_wp2_with fail
        refine (sok _ S true HK.out _).mono ?_
        rintro e w2 ⟨rfl, rfl⟩
        go_wp2_with fail
        go_ret
        exact ⟨rfl, HBW.out⟩
      case pos =>
        have HL : Hid (ld.length = ln.length) := Lib.hid (by omega)
        subst hl2
        have e1 : ((ld.length : Int) != (ln.length : Int)) = false := by rw [hl1]; simp
        have hN : ln.length ≤ 12 := by omega
        have HK := Lib.hid hk
        clear hk hok hl1
        go_enter Try.func30, Try.ntmps30
        go_upto_region 1 with fail
        rw [← HW1.out, ← HG.out]
        go_wp2_with fail
        refine (sok _ S true HK.out _).mono ?_
        rintro e w2 ⟨rfl, rfl⟩
        go_wp2_with fail
        clear q0 q1 q2
        go_loopw [7] (fun iv_ wr => ∃ i : Nat, i ≤ ln.length ∧ iv_ = .int .i64 i ∧ Hid (∀ j, j < i → nodeB S ld ln ln.length f j = true) ∧ Below W1.heap.size W1 wr) (fun iv_ _ => ln.length - (intOf iv_).toNat)
        case atStart => exact ⟨0, Nat.zero_le _, rfl, Lib.hid fun j h => by omega, Below.refl _ _⟩
        case round =>
          obtain ⟨i, hi, rfl, hm, hb⟩ := hrel
          have HBB := Lib.hid hb
          clear hb
          have hi0 : (0 : Int) ≤ (i : Int) := by omega
          obtain ⟨-, -, -, q0, q1, q2⟩ := HC.out _ HBB.out
          by_cases hlt : i < ln.length
          case neg =>
            obtain rfl : i = ln.length := by omega
            obtain rfl : b = true := by rw [← HB.out]; exact decide_eq_true ⟨HK.out, by rw [HL.out], rfl, hm.out⟩
            have HF := Lib.hid (HC.out _ HBB.out).2.2.1
            go_wp2_with fail
            go_ret
            exact ⟨rfl, HF.out⟩
          case pos =>
            have hil : (i : Int) < (ln.length : Int) := by omega
            obtain ⟨x, hx⟩ : ∃ x, nodeB S ld ln ln.length f i = x := ⟨_, rfl⟩
            have HX := Lib.hid hx
            clear hx
            go_wp2_with fail
            refine (snode wr D S Ad ld.length cd An ln.length cn ld ln (HC.out _ HBB.out).1 (HC.out _ HBB.out).2.1 ln.length HL.out rfl hN f i hlt x HX.out).mono ?_
            rintro e w3 ⟨rfl, b3⟩
            have HB3 := Lib.hid (HBB.out.trans (b3.mono HBB.out.size))
            clear b3
            cases x
            case false =>
              obtain rfl : b = false := by
                rw [← HB.out]
                exact decide_eq_false fun h => by have := h.2.2.2 i hlt; rw [HX.out] at this; cases this
              have HF := Lib.hid (HC.out _ HB3.out).2.2.1
              go_wp2_with fail
              go_ret
              exact ⟨rfl, HF.out⟩
            case true =>
              have HM : Hid (∀ j, j < i + 1 → nodeB S ld ln ln.length f j = true) := Lib.hid fun j hj => by
                by_cases e : j = i
                · rw [e]; exact HX.out
                · exact hm.out j (by omega)
              go_wp2_with fail
              go_roundw
              case rel => exact ⟨i + 1, by omega, by go_num, HM, HB3.out⟩
              case measure => simp [intOf]; omega
end Go.Proofs.Ytjobjjmeneddnaa
