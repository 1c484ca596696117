/- The program's spans of a test of ticks: spansOf over a tickTest, QuietSpans. Go's slices.Grow and slices.Concat at two lists of spans. The program's QuietSpans, SpeakingSpans and IsQuietSky. -/
import Derived.Test.YtlaigbhiligceaaGreatDoorDisturb
import Derived.Test.YtlaigbhiligceaaGreatDoorSpansOf
import Derived.Deep.AppendLies
import Derived.Test.YtlaigbhiligceaaGreatDoorSky
import Derived.Lib.AppendZeros
import Derived.Lib.SliceRun
import Derived.Lib.Walk
import Derived.Deep.Cut
import Derived.Deep.DeepCutAuto
import Derived.Deep.CutRange
import Derived.Test.YtlaigbhiligceaaGreatDoorWindows
namespace Go.Proofs.YtlaigbhiligceaaGreatDoor
open Go.ChangeShapes Go.WideShapes Go.ChangeAt Go.RowKit
set_option linter.unusedVariables false
theorem NotAt.app {s m n c n' c' : Nat} {A A2 : Option Addr} (h : NotAt s A) (hat : (Value.slice A2 n c).ownBlock = (Value.slice A n' c').ownBlock ∨ (Value.slice A2 n c).ownBlock = some m) (hm : s < m) : NotAt s A2 := by
  intro a ea
  subst ea
  rcases hat with e | e
  · rcases A with _ | b
    · simp [Value.ownBlock] at e
    · simp [Value.ownBlock] at e
      rw [e]; exact h b rfl
  · simp [Value.ownBlock] at e
    omega
set_option maxRecDepth 100000 in
set_option maxHeartbeats 2000000 in
theorem ispansofq (u : World) (fn : Fn) (p1 p2 : Option Addr) (H : Int → Bool) (hT : ∀ wr, Below u.heap.size u wr → ∀ t : Int, Calls Tryz.prog 212 #[.func fn #[] #[.pointer p1, .pointer p2], .int .i64 t] wr (Tells wr (H t))) (from_ till : Int) (hf : J64 from_) (ht : J64 till) :
    Calls Tryz.prog 147 #[.iface 194 (.func fn #[] #[.pointer p1, .pointer p2]), .int .i64 from_, .int .i64 till] u (GivesS u (winOf H from_ till)) := by
  obtain ⟨i0, hi0, hy0, hy1, hy2⟩ := info_parts span_info
  obtain ⟨lo, hlo⟩ : ∃ z, lowT from_ = z := ⟨_, rfl⟩
  obtain ⟨hi', hhi⟩ : ∃ z, highT till = z := ⟨_, rfl⟩
  have q1 := low_bd from_ hf; have q2 := high_bd till
  rw [hlo] at q1; rw [hhi] at q2
  have HW : Hid (winOf H from_ till = joinOf (units H lo (hi' - lo).toNat)) := Lib.hid (by rw [← hlo, ← hhi]; rfl)
  have HLO := Lib.hid hlo; have HHI := Lib.hid hhi; have HTO := Lib.hid ht
  have O0 := Lib.hid (Own.made0 u u.heap.size 83 (Nat.le_refl _))
  have HT := Lib.hid hT
  clear hlo hhi hf ht hT
  go_enter Tryz.func147, Tryz.ntmps147
  go_wp2_with fail
  refine (ibetween _ from_ till lo hi' HTO.out HLO.out HHI.out).mono ?_
  rintro e w2 ⟨rfl, b2⟩
  have s2 : u.heap.size + 1 ≤ w2.heap.size := by have := b2.size; simpa using this
  obtain ⟨ga, hga⟩ : ∃ g, g = w2.heap.size := ⟨_, rfl⟩
  obtain ⟨W1, hW1⟩ : ∃ W, W = w2.alloc (.cells #[.int .i64 lo, .int .i64 hi'] 83) := ⟨_, rfl⟩
  have B1 : Below u.heap.size u W1 := by rw [hW1]; exact (((Below.refl u.heap.size u).alloc (Nat.le_refl _) _).trans (b2.mono (by simp))).alloc (by omega) _
  have hfirst : Hid (Own W1 u.heap.size 83 2 (some ⟨u.heap.size, 0, none⟩) 0 0 (sv (units H lo 0)) ∧ NotAt ga (some ⟨u.heap.size, 0, none⟩) ∧ Blk W1 ga 83 #[.int .i64 lo, .int .i64 hi'] ∧ Below u.heap.size u W1) := Lib.hid (by
    refine ⟨?_, ?_, ?_, B1⟩
    · rw [hW1]; exact (O0.out.on b2).on ((Below.refl w2.heap.size w2).alloc (Nat.le_refl _) _)
    · intro a e; injection e with e; subst e; simp; omega
    · rw [hW1, hga]; exact Blk.new _ _ _)
  clear O0 b2 B1
  go_wp2_with fail
  rw [← hW1, ← hga]
  have HGA : Hid (u.heap.size < ga) := Lib.hid (by omega)
  clear hW1 s2 hga
  have a0 : W1.cell? ⟨ga, 0, none⟩ = some (.int .i64 lo) := hfirst.out.2.2.1.cell 0
  have a1 : W1.cell? ⟨ga, 1, none⟩ = some (.int .i64 hi') := hfirst.out.2.2.1.cell 1
  go_wp2_with fail
  go_loopw [7, 9] (fun v i wr => ∃ (k : Nat) (A1 : Option Addr) (n1 c1 : Nat), k ≤ (hi' - lo).toNat ∧ i = .int .i64 (lo + k) ∧ v = .slice A1 n1 c1 ∧ Own wr u.heap.size 83 2 A1 n1 c1 (sv (units H lo k)) ∧ NotAt ga A1 ∧ Blk wr ga 83 #[.int .i64 lo, .int .i64 hi'] ∧ Below u.heap.size u wr) (fun _ i _ => (hi' - intOf i).toNat)
  case atStart => exact ⟨0, _, _, _, Nat.zero_le _, by simp, rfl, hfirst.out⟩
  case round =>
    clear hfirst a0 a1
    obtain ⟨k, A1, n1, c1, hk, rfl, rfl, ho, hne, hga, hb⟩ := hrel
    have a1 : wr.cell? ⟨ga, 1, none⟩ = some (.int .i64 hi') := hga.cell 1
    have HO := Lib.hid ho; have HNE := Lib.hid hne; have HGG := Lib.hid hga; have HB := Lib.hid hb
    clear ho hne hga hb
    by_cases hlt : lo + (k : Int) < hi'
    · have hk1 : k + 1 ≤ (hi' - lo).toNat := by omega
      have hk2 : (k : Int) < 1000 := by omega
      obtain ⟨t, ht⟩ : ∃ t, lo + (k : Int) = t := ⟨_, rfl⟩
      have htb : 0 ≤ t ∧ t < 1000 := by omega
      obtain ⟨v, hv⟩ : ∃ v, H t = v := ⟨_, rfl⟩
      have HV := Lib.hid hv
      have HR : Hid (units H lo (k + 1) = if v = true then units H lo k ++ [(t, t + 1)] else units H lo k) := Lib.hid (by
        show (if H (lo + k) = true then units H lo k ++ [(lo + (k : Int), lo + (k : Int) + 1)] else units H lo k) = _
        rw [ht, hv])
      have HTT : Hid (lo + ((k + 1 : Nat) : Int) = t + 1) := Lib.hid (by omega)
      have hmt : Hid (t < hi') := Lib.hid (by omega)
      rw [ht] at hlt ⊢
      clear hv ht
      go_wp2_with fail
      refine (HT.out wr HB.out t).mono ?_
      rw [HV.out]
      rintro e w3 ⟨rfl, b3⟩
      have O3 := Lib.hid (HO.out.on b3)
      have A3 := Lib.hid (HGG.out.below b3 HGG.out.lt)
      have B3 := Lib.hid (HB.out.trans (b3.mono HB.out.size))
      have S3 : Hid (u.heap.size ≤ w3.heap.size ∧ ga < w3.heap.size) := Lib.hid ⟨B3.out.size, A3.out.lt⟩
      clear b3 HO HGG HB a1
      cases v
      · have HF : Hid (Own w3 u.heap.size 83 2 A1 n1 c1 (sv (units H lo (k + 1)))) := Lib.hid (by rw [HR.out]; exact O3.out)
        go_wp2_with fail
        go_roundw
        case rel => exact ⟨k + 1, A1, n1, c1, hk1, by rw [HTT.out], rfl, HF.out, HNE.out, A3.out, B3.out⟩
        case measure => have := hmt.out; simp [intOf]; omega
      · obtain ⟨L, hL⟩ : ∃ L, units H lo k = L := ⟨_, rfl⟩
        have hLn : L.length ≤ k := by rw [← hL]; exact units_len H lo k
        rw [hL] at O3 HR
        have hn1 : n1 = L.length := by have h2 := O3.out.len; rw [sv_len] at h2; omega
        subst hn1
        have hcap := O3.out.capm
        obtain ⟨W3, hW3⟩ : ∃ W, W = w3.alloc (.cells #[.int .i64 t, .int .i64 (t + 1)] 83) := ⟨_, rfl⟩
        have bb : Below w3.heap.size w3 W3 := by rw [hW3]; exact (Below.refl _ _).alloc (Nat.le_refl _) _
        have O4 := Lib.hid (O3.out.on bb)
        have hsz3 : u.heap.size ≤ W3.heap.size := Nat.le_trans S3.out.1 bb.size
        have A4 := Lib.hid (A3.out.below bb A3.out.lt)
        have B4 := Lib.hid (B3.out.trans (bb.mono B3.out.size))
        have SL : Hid (Sl W3 (w3.heap.size + 1) 2 (some ⟨w3.heap.size, 0, none⟩) 1 1 [.int .i64 t, .int .i64 (t + 1)]) := Lib.hid (by rw [hW3]; exact Sl.one2 w3 _ _ _)
        have hb16 : (L.length + 1) * 16 ≤ 140737488355328 := by omega
        have HL := Lib.hid hL
        have HAPP : Hid (sv (units H lo (k + 1)) = sv L ++ [.int .i64 t, .int .i64 (t + 1)]) := Lib.hid (by rw [HR.out, if_pos rfl, sv_app]; rfl)
        clear hL O3 A3 B3 bb
        go_wp2_with (at_builtin; go_loud (rw [← hW3]; refine wpList_append_sl _ rfl (.tmp 25) (.tmp 30) 89 rfl u.heap.size 83 i0 _ 2 16 Tryz.underlying89 hi0 hy0 hy1 hy2 rfl (by omega) A1 L.length c1 (sv L) rfl O4.out (w3.heap.size + 1) _ 1 1 [.int .i64 t, .int .i64 (t + 1)] rfl SL.out (by simp [Value.oneCell']) (by omega) hb16 hsz3 ?_; intro A5 c5 w5 hown5 hg5 hat5; have HF : Hid (Own w5 u.heap.size 83 2 A5 (L.length + 1) c5 (sv (units H lo (k + 1))) ∧ NotAt ga A5 ∧ Blk w5 ga 83 #[.int .i64 lo, .int .i64 hi'] ∧ Below u.heap.size u w5) := Lib.hid ⟨(by rw [HAPP.out]; exact hown5), HNE.out.app hat5 A4.out.lt, A4.out.grown' HNE.out hg5, B4.out.grown hg5 B4.out.size (fun j hj => (O4.out.row.lt j hj).1)⟩; clear hown5 hg5 hat5))
        go_roundw
        case rel => exact ⟨k + 1, A5, L.length + 1, c5, hk1, by rw [HTT.out], rfl, HF.out⟩
        case measure => have := hmt.out; simp [intOf]; omega
    · have hk3 : Hid (k = (hi' - lo).toNat) := Lib.hid (by omega)
      go_wp2_with fail
      refine (ijoin wr wr.heap.size A1 n1 c1 (units H lo k) HO.out.sl (Nat.le_refl _)).mono ?_
      rintro e w4 ⟨A4, n4, c4, rfl, o4, b4⟩
      have HF : Hid (GivesS u (winOf H from_ till) (.returned (.slice A4 n4 c4)) w4) := Lib.hid ⟨_, _, _, rfl, by rw [HW.out, ← hk3.out]; exact o4.fewer HB.out.size, HB.out.trans (b4.mono HB.out.size)⟩
      clear o4 b4
      go_wp2
      go_ret
      exact HF.out
set_option maxRecDepth 100000 in
theorem iqholds (w : World) (P R X V U D Q : Int) (ns ni nz : Nat) (ls : List Sat4) (li lz : List Tri) (As : Option Addr) (cs : Nat) (Ai : Option Addr) (ci : Nat) (Az : Option Addr) (cz : Nat) (Dz gs gz g1 g2 : Nat) (hz : Zon w Dz gs gz P R X V U D Q ns ni nz ls li lz As cs Ai ci Az cz) (hs : ns ≤ 16777216) (hi : ni ≤ 16777216) (nA tW : Addr) (E : Errs w nA tW) (T1 T2 : TypeId)
    (f1 : Blk w g1 T1 #[.func (.func 80) #[] #[.pointer (some ⟨gs, 0, none⟩), .pointer (some ⟨gz, 0, none⟩)]]) (node : Int) (f2 : Blk w g2 T2 #[.int .i64 node]) (t : Int) (hn : J64 node) (b : Bool) (hb : mayAt ls li lz node t = b) :
    Calls Tryz.prog 212 #[.func (.func 146) #[] #[.pointer (some ⟨g1, 0, none⟩), .pointer (some ⟨g2, 0, none⟩)], .int .i64 t] w (Tells w b) := by
  have HZ := Lib.hid hz; have HE := Lib.hid E; have HN := Lib.hid hn; have HB := Lib.hid hb
  have a1 : w.cell? ⟨g1, 0, none⟩ = some (.func (.func 80) #[] #[.pointer (some ⟨gs, 0, none⟩), .pointer (some ⟨gz, 0, none⟩)]) := f1.cell 0
  have a2 : w.cell? ⟨g2, 0, none⟩ = some (.int .i64 node) := f2.cell 0
  clear hz E hn hb f1 f2
  have key : Calls Tryz.prog 146 #[.int .i64 t, .pointer (some ⟨g1, 0, none⟩), .pointer (some ⟨g2, 0, none⟩)] w (Tells w b) := by
    go_enter Tryz.func146, Tryz.ntmps146
    go_wp2_with fail
    refine (idist1 w P R X V U D Q ns ni nz ls li lz As cs Ai ci Az cz Dz gs gz HZ.out hs hi nA tW HE.out node t HN.out b HB.out).mono ?_
    rintro e w2 ⟨rfl, b2⟩
    have HF := Lib.hid b2
    clear b2
    go_wp2_with fail
    go_ret
    exact ⟨rfl, HF.out⟩
  have HK := Lib.hid key
  clear key a1 a2
  go_enter Tryz.func212, Tryz.ntmps212
  go_wp2_with fail
  refine HK.out.mono ?_
  rintro e w2 ⟨rfl, b2⟩
  have HF := Lib.hid b2
  clear b2
  go_wp2_with fail
  go_ret
  exact ⟨rfl, HF.out⟩
end Go.Proofs.YtlaigbhiligceaaGreatDoor
namespace Go.Proofs.YtlaigbhiligceaaGreatDoor
open Go.ChangeShapes Go.WideShapes Go.ChangeAt Go.RowKit
set_option linter.unusedVariables false
theorem intT : Tryz.prog.underlying 3 = some (.int .i64) := Tryz.underlying3
set_option maxRecDepth 100000 in
theorem igrow (w : World) (n : Nat) (hn : n ≤ 1000000) :
    Calls Tryz.prog 145 #[.slice none 0 0, .int .i64 n] w fun e w' => ∃ A c, e = .returned (.slice A 0 c) ∧ Own w' w.heap.size 83 2 A 0 c [] ∧ Below w.heap.size w w' := by
  obtain ⟨i0, hi0, hy0, hy1, hy2⟩ := info_parts span_info
  by_cases h0 : n = 0
  · subst h0
    go_enter Tryz.func145, Tryz.ntmps145
    go_wp2
    go_ret
    exact ⟨none, 0, rfl, Own.empty _ _ _ _, Below.refl _ _⟩
  · go_enter Tryz.func145, Tryz.ntmps145
    have h1 : ¬ ((n : Int) < 0) := by omega
    have h2 : (n : Int) > 0 := by omega
    go_upto_region 5 with fail
    obtain ⟨G, hG⟩ : ∃ G, G = grownCap w n 0 83 := ⟨_, rfl⟩
    have hGn : n ≤ G := by rw [hG]; exact grownCap_ge w _ _ _
    have hGm : G ≤ maxLen := by rw [hG]; exact grownCap_le_maxLen w _ _ _ (by unfold maxLen; omega)
    obtain ⟨row, hrow⟩ : ∃ row : Array Value, row = Builtin.zeroCells (Value.agg #[.int .i64 0, .int .i64 0]).cells n ++ Builtin.zeroCells (Value.agg #[.int .i64 0, .int .i64 0]).cells (G - n) := ⟨_, rfl⟩
    have hsz : row.size = G * 2 := by
      rw [hrow, Array.size_append, size_zeroCells, size_zeroCells]
      have : (Value.agg #[.int .i64 0, .int .i64 0]).cells.size = 2 := rfl
      rw [this]; omega
    have hrz : ∀ ty, (Builtin.append_ #[89, 3] ty #[.slice none 0 0, .int .i64 n]).run Tryz.prog w = .ok (.slice (some ⟨w.heap.size, 0, none⟩) n G) (w.drew.alloc (.cells row 83)) := fun ty => by
      have h := Lib.run_append_nil_zeros w 89 3 ty 83 i0 _ .i64 .i64 Tryz.underlying89 intT hi0 hy0 n (by omega) (by omega) (by omega) (by rw [hy2]; omega)
      rw [← hG] at h; rw [hrow]; exact h
    have HF : Hid (Own (w.drew.alloc (.cells row 83)) w.heap.size 83 2 (some ⟨w.heap.size, 0, none⟩) 0 G [] ∧ Below w.heap.size w (w.drew.alloc (.cells row 83))) := Lib.hid
      ⟨⟨World.ownsRow_made w.drew row G (Nat.le_refl _) hGm hsz⟩, (Below.refl _ _).drew.alloc (Nat.le_refl _) _⟩
    unfold maxLen at hGm
    clear hG hrow hsz hi0 hy0 hy1 hy2
    go_wp2_with (at_builtin; refine Lib.wpList_append_run _ rfl _ _ _ _ rfl _ _ rfl rfl _ _ (hrz _) ?_)
    go_ret
    exact ⟨_, G, rfl, HF.out⟩
set_option maxRecDepth 100000 in
set_option maxHeartbeats 1000000 in
theorem iconcat (w : World) (g : Nat) (T : TypeId) (A1 A2 : Option Addr) (n1 c1 n2 c2 : Nat) (l1 l2 : List (Int × Int)) (hg : Blk w g T #[.slice A1 n1 c1, .slice A2 n2 c2]) (D1 D2 : Nat) (s1 : Sl w D1 2 A1 n1 c1 (sv l1)) (s2 : Sl w D2 2 A2 n2 c2 (sv l2)) (hD1 : D1 ≤ w.heap.size) (hD2 : D2 ≤ w.heap.size) (h1 : n1 ≤ 100000) (h2 : n2 ≤ 100000) :
    Calls Tryz.prog 120 #[.slice (some ⟨g, 0, none⟩) 2 2] w (GivesS w (l1 ++ l2)) := by
  obtain ⟨i0, hi0, hy0, hy1, hy2⟩ := info_parts span_info
  have G0 := Lib.hid hg; have S1 := Lib.hid s1; have S2 := Lib.hid s2
  clear hg s1 s2
  have g0 : w.cell? ⟨g, 0, none⟩ = some (.slice A1 n1 c1) := G0.out.cell 0
  have g1 : w.cell? ⟨g, 1, none⟩ = some (.slice A2 n2 c2) := G0.out.cell 1
  go_enter Tryz.func120, Tryz.ntmps120
  go_wp2_with fail
  go_loopw [3, 11] (fun v i wr => w = wr ∧ ((i = .int .i64 0 ∧ v = .int .i64 0) ∨ (i = .int .i64 1 ∧ v = .int .i64 n1) ∨ (i = .int .i64 2 ∧ v = .int .i64 ((n1 + n2 : Nat) : Int)))) (fun _ i _ => (2 - intOf i).toNat)
  case atStart => exact ⟨rfl, .inl ⟨rfl, rfl⟩⟩
  case round =>
    obtain ⟨rfl, ⟨rfl, rfl⟩ | ⟨rfl, rfl⟩ | ⟨rfl, rfl⟩⟩ := hrel
    · have e1 : ¬ ((n1 : Int) < 0) := by omega
      have e2 : IntKind.i64.wrap (n1 : Int) = (n1 : Int) := wrap_in _ (by omega) (by omega)
      go_wp2_with fail
      go_roundw
      case rel => exact ⟨by trivial, .inr (.inl ⟨rfl, rfl⟩)⟩
      case measure => simp [intOf]
    · have e1 : ¬ ((n1 : Int) + (n2 : Int) < 0) := by omega
      have e2 : IntKind.i64.wrap ((n1 : Int) + (n2 : Int)) = (n1 : Int) + (n2 : Int) := wrap_in _ (by omega) (by omega)
      go_wp2_with fail
      go_roundw
      case rel => exact ⟨by trivial, .inr (.inr ⟨rfl, by rw [Int.natCast_add]⟩)⟩
      case measure => simp [intOf]
    · go_wp2_with fail
      refine (igrow _ (n1 + n2) (by omega)).mono ?_
      rintro e w1 ⟨A3, c3, rfl, o3, b3⟩
      have HO := Lib.hid o3; have HB := Lib.hid b3
      clear o3 b3 g0 g1
      go_wp2_with fail
      go_loopw [6, 27] (fun v i wr => ∃ (A : Option Addr) (n c : Nat) (l : List (Int × Int)), v = .slice A n c ∧ Own wr w.heap.size 83 2 A n c (sv l) ∧ Below w.heap.size w wr ∧ ((i = .int .i64 0 ∧ l = [] ∧ n = 0) ∨ (i = .int .i64 1 ∧ l = l1 ∧ n = n1) ∨ (i = .int .i64 2 ∧ l = l1 ++ l2 ∧ n = n1 + n2))) (fun _ i _ => (2 - intOf i).toNat)
      case atStart => exact ⟨A3, 0, c3, [], rfl, HO.out, HB.out, .inl ⟨rfl, rfl, rfl⟩⟩
      case round =>
        clear HO HB
        obtain ⟨A, n, c, l, rfl, ho, hb, hcase⟩ := hrel
        have HO := Lib.hid ho; have HB := Lib.hid hb
        have hcm := ho.capm
        clear ho hb
        rcases hcase with ⟨rfl, rfl, rfl⟩ | ⟨rfl, rfl, rfl⟩ | ⟨rfl, rfl, rfl⟩
        · have g0 : wr.cell? ⟨g, 0, none⟩ = some (.slice A1 n1 c1) := (G0.out.below HB.out G0.out.lt).cell 0
          have SX := Lib.hid (S1.out.below HB.out hD1)
          have hD : D1 ≤ wr.heap.size := Nat.le_trans hD1 HB.out.size
          have hsz : w.heap.size ≤ wr.heap.size := HB.out.size
          have hone := Lib.hid (sv_one l1)
          have hb16 : (0 + n1) * 16 ≤ 140737488355328 := by omega
          go_wp2_with (at_builtin; refine wpList_append_sl _ rfl (.tmp 31) (.tmp 32) 89 rfl w.heap.size 83 i0 _ 2 16 Tryz.underlying89 hi0 hy0 hy1 hy2 rfl (by omega) A 0 c (sv []) rfl HO.out D1 A1 n1 c1 (sv l1) rfl SX.out hone.out (by omega) hb16 hsz ?_; intro A5 c5 w5 hown5 hg5 hat5; have HF : Hid (Own w5 w.heap.size 83 2 A5 n1 c5 (sv l1) ∧ Below w.heap.size w w5) := Lib.hid ⟨(by simpa [sv] using hown5), HB.out.grown hg5 hsz (fun j hj => (HO.out.row.lt j hj).1)⟩; clear hown5 hg5 hat5)
          go_roundw
          case rel => exact ⟨A5, n1, c5, l1, rfl, HF.out.1, HF.out.2, .inr (.inl ⟨rfl, rfl, rfl⟩)⟩
          case measure => simp [intOf]
        · have g1 : wr.cell? ⟨g, 1, none⟩ = some (.slice A2 n2 c2) := (G0.out.below HB.out G0.out.lt).cell 1
          have SX := Lib.hid (S2.out.below HB.out hD2)
          have hD : D2 ≤ wr.heap.size := Nat.le_trans hD2 HB.out.size
          have hsz : w.heap.size ≤ wr.heap.size := HB.out.size
          have hone := Lib.hid (sv_one l2)
          have hb16 : (n + n2) * 16 ≤ 140737488355328 := by omega
          go_wp2_with (at_builtin; refine wpList_append_sl _ rfl (.tmp 31) (.tmp 32) 89 rfl w.heap.size 83 i0 _ 2 16 Tryz.underlying89 hi0 hy0 hy1 hy2 rfl (by omega) A n c (sv l) rfl HO.out D2 A2 n2 c2 (sv l2) rfl SX.out hone.out (by omega) hb16 hsz ?_; intro A5 c5 w5 hown5 hg5 hat5; have HF : Hid (Own w5 w.heap.size 83 2 A5 (n + n2) c5 (sv (l ++ l2)) ∧ Below w.heap.size w w5) := Lib.hid ⟨(by rw [sv_app]; exact hown5), HB.out.grown hg5 hsz (fun j hj => (HO.out.row.lt j hj).1)⟩; clear hown5 hg5 hat5)
          go_roundw
          case rel => exact ⟨A5, n + n2, c5, l ++ l2, rfl, HF.out.1, HF.out.2, .inr (.inr ⟨rfl, rfl, rfl⟩)⟩
          case measure => simp [intOf]
        · have HF : Hid (GivesS w (l1 ++ l2) (.returned (.slice A (n1 + n2) c)) wr) := Lib.hid ⟨_, _, _, rfl, HO.out, HB.out⟩
          go_wp2
          go_ret
          exact HF.out
end Go.Proofs.YtlaigbhiligceaaGreatDoor
namespace Go.Proofs.YtlaigbhiligceaaGreatDoor
open Go.ChangeShapes Go.WideShapes Go.ChangeAt Go.RowKit
set_option linter.unusedVariables false
set_option maxRecDepth 100000 in
set_option maxHeartbeats 1000000 in
theorem iquiet (w : World) (P R X V U D Q : Int) (ns ni nz : Nat) (ls : List Sat4) (li lz : List Tri) (As : Option Addr) (cs : Nat) (Ai : Option Addr) (ci : Nat) (Az : Option Addr) (cz : Nat) (D0 : Nat) (h : InSky w (D0) As ns cs Ai ni ci Az nz cz ls li lz) (hD : D0 ≤ w.heap.size) (hs : ns ≤ 16777216) (hi : ni ≤ 16777216) (hz : nz ≤ 16777216) (nA tW : Addr) (E : Errs w nA tW) (node : Int) (hn : J64 node) (from_ till : Int) (hf : J64 from_) (ht : J64 till) (H : Int → Bool) (hH : ∀ t, mayAt ls li lz node t = H t) :
    Calls Tryz.prog 121 #[.agg #[.int .i64 P, .slice As ns cs, .slice Ai ni ci, .int .i64 R, .int .i64 X, .int .i64 V, .int .i64 U, .int .i64 D, .slice Az nz cz, .int .i64 Q], .int .i64 node, .int .i64 from_, .int .i64 till] w (GivesS w (winOf H from_ till)) := by
  obtain ⟨W0, hW0⟩ : ∃ W, W = (w.alloc (.cells #[.int .i64 P, .slice As ns cs, .slice Ai ni ci, .int .i64 R, .int .i64 X, .int .i64 V, .int .i64 U, .int .i64 D, .slice Az nz cz, .int .i64 Q] 28)).alloc (.cells #[.int .i64 node] 3) := ⟨_, rfl⟩
  obtain ⟨g2, hg2⟩ : ∃ g, g = w.heap.size + 1 := ⟨_, rfl⟩
  have T0 : Hid (Below w.heap.size w W0) := Lib.hid (by rw [hW0]; exact ((Below.refl _ _).alloc (Nat.le_refl _) _).alloc (by simp) _)
  have S0 : Hid (Blk W0 w.heap.size 28 #[.int .i64 P, .slice As ns cs, .slice Ai ni ci, .int .i64 R, .int .i64 X, .int .i64 V, .int .i64 U, .int .i64 D, .slice Az nz cz, .int .i64 Q]) := Lib.hid (by rw [hW0]; exact (Blk.new _ _ _).alloc _)
  have N0 : Hid (Blk W0 g2 3 #[.int .i64 node]) := Lib.hid (by
    rw [hW0, hg2]
    have h := Blk.new (w.alloc (.cells #[.int .i64 P, .slice As ns cs, .slice Ai ni ci, .int .i64 R, .int .i64 X, .int .i64 V, .int .i64 U, .int .i64 D, .slice Az nz cz, .int .i64 Q] 28)) 3 #[.int .i64 node]
    simpa using h)
  have H0 := Lib.hid (h.below T0.out hD)
  have hD1 : D0 ≤ W0.heap.size := Nat.le_trans hD T0.out.size
  have HE := Lib.hid (E.below T0.out); have HN := Lib.hid hn; have HF := Lib.hid (And.intro hf ht); have HH := Lib.hid hH
  clear h E hn hf ht hH
  have hmf : ∀ (fn : Fn) (first cap : Array Value) (w : World), (Instr.makeFunc fn first cap).run Tryz.prog w = .ok (.func fn first cap) w := fun _ _ _ _ => rfl
  obtain ⟨c0, c1, c2, c3, c4, c5, c6, c7, c8, c9⟩ := S0.out.ten
  go_enter Tryz.func121, Tryz.ntmps121
  go_wp2_with fail
  rw [← hW0, ← hg2]
  clear hW0 hg2
  refine (idist W0 P R X V U D Q ns ni nz ls li lz As cs Ai ci Az cz D0 H0.out hD1 hz).mono ?_
  rintro e w1 ⟨⟨Dz, gs, gz, rfl, hzon⟩, b1⟩
  obtain ⟨g1, hg1⟩ : ∃ g, g = w1.heap.size := ⟨_, rfl⟩
  obtain ⟨W2, hW2⟩ : ∃ W, W = w1.alloc (.cells #[.func (.func 80) #[] #[.pointer (some ⟨gs, 0, none⟩), .pointer (some ⟨gz, 0, none⟩)]] 72) := ⟨_, rfl⟩
  have b2 : Below w1.heap.size w1 W2 := by rw [hW2]; exact (Below.refl _ _).alloc (Nat.le_refl _) _
  have b02 := b1.trans (b2.mono b1.size)
  have HZ := Lib.hid (hzon.below (b2.mono hzon.d))
  have F1 : Hid (Blk W2 g1 72 #[.func (.func 80) #[] #[.pointer (some ⟨gs, 0, none⟩), .pointer (some ⟨gz, 0, none⟩)]]) := Lib.hid (by rw [hW2, hg1]; exact Blk.new _ _ _)
  have N2 := Lib.hid (N0.out.below b02 N0.out.lt)
  have E2 := Lib.hid (HE.out.below b02)
  have B2 := Lib.hid (T0.out.trans (b02.mono T0.out.size))
  clear hzon b1 b2 b02 c0 c1 c2 c3 c4 c5 c6 c7 c8 c9 S0 N0 T0 H0 HE
  go_wp2_with fail
  rw [← hW2, ← hg1]
  clear hW2 hg1
  refine (ispansofq W2 (.func 146) (some ⟨g1, 0, none⟩) (some ⟨g2, 0, none⟩) H (fun wr hb t => iqholds wr P R X V U D Q ns ni nz ls li lz As cs Ai ci Az cz Dz gs gz g1 g2 (HZ.out.below (hb.mono HZ.out.d)) hs hi nA tW (E2.out.below hb) _ _ (F1.out.below hb F1.out.lt) node (N2.out.below hb N2.out.lt) t HN.out _ (HH.out t)) from_ till HF.out.1 HF.out.2).mono ?_
  rintro e w3 ⟨A3, n3, c3', rfl, o3, b3⟩
  have HG : Hid (GivesS w (winOf H from_ till) (.returned (.slice A3 n3 c3')) w3) := Lib.hid ⟨_, _, _, rfl, o3.fewer B2.out.size, B2.out.trans (b3.mono B2.out.size)⟩
  clear o3 b3
  go_wp2
  go_ret
  exact HG.out
theorem win_num {w : World} {D : Nat} {A : Option Addr} {n c : Nat} {H : Int → Bool} {f t : Int} (h : Sl w D 2 A n c (sv (winOf H f t))) : n ≤ 100000 := by
  have h1 := h.len
  rw [sv_len] at h1
  have h2 : (winOf H f t).length ≤ 1000 := runs_len _ 1000
  omega
set_option maxRecDepth 100000 in
set_option maxHeartbeats 2000000 in
theorem ispeaking (w : World) (P R X V U D Q : Int) (ns ni nz : Nat) (ls : List Sat4) (li lz : List Tri) (As : Option Addr) (cs : Nat) (Ai : Option Addr) (ci : Nat) (Az : Option Addr) (cz : Nat) (D0 : Nat) (h : InSky w (D0) As ns cs Ai ni ci Az nz cz ls li lz) (hD : D0 ≤ w.heap.size) (hs : ns ≤ 16777216) (hi : ni ≤ 16777216) (hz : nz ≤ 16777216) (hP : J64 P) (hk1 : ∀ x ∈ ls, Ok4 x) (hk2 : ∀ x ∈ li, Ok3 x) (nA tW : Addr) (E : Errs w nA tW) (a b : Int) (ha : J64 a) (hb : J64 b)
    (from_ till : Int) (hf : J64 from_) (ht : J64 till) (H Qa Qb : Int → Bool) (hH : ∀ t, decide (sightOf P R X V ls li a b t = 2) = H t) (hQa : ∀ t, mayAt ls li lz a t = Qa t) (hQb : ∀ t, mayAt ls li lz b t = Qb t) :
    Calls Tryz.prog 72 #[.agg #[.int .i64 P, .slice As ns cs, .slice Ai ni ci, .int .i64 R, .int .i64 X, .int .i64 V, .int .i64 U, .int .i64 D, .slice Az nz cz, .int .i64 Q], .int .i64 a, .int .i64 b, .int .i64 from_, .int .i64 till] w (GivesS w (spkI H Qa Qb from_ till)) := by
  obtain ⟨W0, hW0⟩ : ∃ W, W = w.alloc (.cells #[.int .i64 P, .slice As ns cs, .slice Ai ni ci, .int .i64 R, .int .i64 X, .int .i64 V, .int .i64 U, .int .i64 D, .slice Az nz cz, .int .i64 Q] 28) := ⟨_, rfl⟩
  have T0 : Hid (Below w.heap.size w W0) := Lib.hid (by rw [hW0]; exact (Below.refl _ _).alloc (Nat.le_refl _) _)
  have S0 : Hid (Blk W0 w.heap.size 28 #[.int .i64 P, .slice As ns cs, .slice Ai ni ci, .int .i64 R, .int .i64 X, .int .i64 V, .int .i64 U, .int .i64 D, .slice Az nz cz, .int .i64 Q]) := Lib.hid (by rw [hW0]; exact Blk.new _ _ _)
  have H0 := Lib.hid (h.below T0.out hD)
  have HD : Hid (D0 ≤ W0.heap.size) := Lib.hid (Nat.le_trans hD T0.out.size)
  have HE := Lib.hid (E.below T0.out); have HN := Lib.hid (And.intro ha hb); have HF := Lib.hid (And.intro hf ht); have HH := Lib.hid (And.intro hH (And.intro hQa hQb)); have HK := Lib.hid (And.intro hP (And.intro hk1 hk2))
  have HC : Hid (∀ wr, Below W0.heap.size W0 wr → (wr.cell? ⟨w.heap.size, 0, none⟩ = some (.int .i64 P) ∧ wr.cell? ⟨w.heap.size, 1, none⟩ = some (.slice As ns cs) ∧ wr.cell? ⟨w.heap.size, 2, none⟩ = some (.slice Ai ni ci) ∧ wr.cell? ⟨w.heap.size, 3, none⟩ = some (.int .i64 R) ∧ wr.cell? ⟨w.heap.size, 4, none⟩ = some (.int .i64 X) ∧ wr.cell? ⟨w.heap.size, 5, none⟩ = some (.int .i64 V) ∧ wr.cell? ⟨w.heap.size, 6, none⟩ = some (.int .i64 U) ∧ wr.cell? ⟨w.heap.size, 7, none⟩ = some (.int .i64 D) ∧ wr.cell? ⟨w.heap.size, 8, none⟩ = some (.slice Az nz cz) ∧ wr.cell? ⟨w.heap.size, 9, none⟩ = some (.int .i64 Q))) := Lib.hid fun wr hb => (S0.out.below hb S0.out.lt).ten
  clear h E ha hb hf ht hH hQa hQb hP hk1 hk2 hD
  have hc0 := HC.out W0 (Below.refl _ _)
  go_enter Tryz.func72, Tryz.ntmps72
  go_wp2_with fail
  rw [← hW0]
  clear hW0
  go_region_held3 (fun wr => (wr.cell? ⟨w.heap.size, 0, none⟩ = some (.int .i64 P) ∧ wr.cell? ⟨w.heap.size, 1, none⟩ = some (.slice As ns cs) ∧ wr.cell? ⟨w.heap.size, 2, none⟩ = some (.slice Ai ni ci) ∧ wr.cell? ⟨w.heap.size, 3, none⟩ = some (.int .i64 R) ∧ wr.cell? ⟨w.heap.size, 4, none⟩ = some (.int .i64 X) ∧ wr.cell? ⟨w.heap.size, 5, none⟩ = some (.int .i64 V) ∧ wr.cell? ⟨w.heap.size, 6, none⟩ = some (.int .i64 U) ∧ wr.cell? ⟨w.heap.size, 7, none⟩ = some (.int .i64 D) ∧ wr.cell? ⟨w.heap.size, 8, none⟩ = some (.slice Az nz cz) ∧ wr.cell? ⟨w.heap.size, 9, none⟩ = some (.int .i64 Q))) (first | with_reducible exact hc0 | with_reducible exact hcA | go_keep) (first
    | (go_at_call 121; have hbefore := HBA.out; refine (iquiet wA P R X V U D Q ns ni nz ls li lz As cs Ai ci Az cz D0 (H0.out.below HBA.out HD.out) (Nat.le_trans HD.out HBA.out.size) hs hi hz nA tW (HE.out.below HBA.out) b HN.out.2 from_ till HF.out.1 HF.out.2 Qb HH.out.2.2).mono ?_; rintro e wB ⟨A2, n2, c2, rfl, oB, bB⟩; have HBB : Hid (Below W0.heap.size W0 wB) := Lib.hid (HBA.out.trans (bB.mono HBA.out.size)); have hcA := HC.out _ HBB.out; have SA2 := Lib.hid (SA.out.below bB (Nat.le_refl _)); have SB := Lib.hid oB.sl; have HAB : Hid (wA.heap.size ≤ wB.heap.size) := Lib.hid bB.size; clear oB bB hbefore)
    | (go_at_call 121; refine (iquiet W0.drew P R X V U D Q ns ni nz ls li lz As cs Ai ci Az cz D0 (H0.out.below (Below.refl W0.heap.size W0).drew HD.out) HD.out hs hi hz nA tW HE.out.drew a HN.out.1 from_ till HF.out.1 HF.out.2 Qa HH.out.2.1).mono ?_; rintro e wA ⟨A1, n1, c1, rfl, oA, bA⟩; have HBA : Hid (Below W0.heap.size W0 wA) := Lib.hid ((Below.refl _ _).drew.trans bA); have hcA := HC.out _ HBA.out; have SA := Lib.hid oA.sl; clear oA bA)
    | (go_at_call 120; refine (iconcat _ wB.heap.size 89 A1 A2 n1 c1 n2 c2 (winOf Qa from_ till) (winOf Qb from_ till) (Blk.new wB _ _) wA.heap.size wB.heap.size (SA2.out.below ((Below.refl wB.heap.size wB).alloc (Nat.le_refl _) _) HAB.out) (SB.out.below ((Below.refl wB.heap.size wB).alloc (Nat.le_refl _) _) (Nat.le_refl _)) (Nat.le_trans HAB.out (by simp)) (by simp) (win_num SA.out) (win_num SB.out)).mono ?_; rintro e wC ⟨A3, n3, c3, rfl, oC, bC⟩; have HBC : Hid (Below W0.heap.size W0 wC) := Lib.hid ((HBB.out.alloc HBB.out.size _).trans (bC.mono (Nat.le_trans HBB.out.size (by simp)))); have hcA := HC.out _ HBC.out; have SC := Lib.hid oC.sl; clear oC bC))
  have B3 := Lib.hid HBC.out
  clear hc0 hcA
  obtain ⟨d0, d1, d2, d3, d4, d5, d6, d7, d8, d9⟩ := HC.out _ HBC.out
  go_wp2_with fail
  refine (isurewin wC P R X V U D Q ns ni nz ls li lz As cs Ai ci Az cz D0 (H0.out.below B3.out HD.out) (Nat.le_trans HD.out B3.out.size) hs hi HK.out.1 HK.out.2.1 HK.out.2.2 nA tW (HE.out.below B3.out) a b HN.out.1 HN.out.2 from_ till HF.out.1 HF.out.2 H HH.out.1).mono ?_
  rintro e w4 ⟨A4, n4, c4, rfl, o4, b4⟩
  have S4 := Lib.hid o4.sl
  have SC4 := Lib.hid (SC.out.below b4 (Nat.le_refl _))
  have B4 := Lib.hid (B3.out.trans (b4.mono B3.out.size))
  have HS4 : Hid (wC.heap.size ≤ w4.heap.size) := Lib.hid b4.size
  clear o4 b4 d0 d1 d2 d3 d4 d5 d6 d7 d8 d9
  go_wp2_with fail
  refine (icut w4 w4.heap.size wC.heap.size A4 A3 n4 n3 c4 c3 (winOf H from_ till) (winOf Qa from_ till ++ winOf Qb from_ till) S4.out SC4.out (Nat.le_refl _) HS4.out).mono ?_
  rintro e w5 ⟨A5, n5, c5, rfl, o5, b5⟩
  have HG : Hid (GivesS w (spkI H Qa Qb from_ till) (.returned (.slice A5 n5 c5)) w5) := Lib.hid ⟨_, _, _, rfl, o5.fewer (Nat.le_trans T0.out.size B4.out.size), T0.out.trans ((B4.out.trans (b5.mono B4.out.size)).mono T0.out.size)⟩
  clear o5 b5
  go_wp2
  go_ret
  exact HG.out
end Go.Proofs.YtlaigbhiligceaaGreatDoor
