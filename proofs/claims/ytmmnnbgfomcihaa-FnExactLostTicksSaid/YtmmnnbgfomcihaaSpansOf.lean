/- The contract of the program's spans: the list in order of a set of ticks. The contracts of the program's mergeSpans, JoinSpans, MeetSpans, CutSpans, TicksOf. The contracts of the program's JoinSpans, MeetSpans, CutSpans and TicksOf, and of the model's TicksOf. -/
import Derived.Test.YtmmnnbgfomcihaaTickSet
import Derived.Test.YtmmnnbgfomcihaaSpanPut
import Derived.Deep.RegionHeld3
import Derived.Deep.QuietTactic
import Derived.BigQuiet
namespace Go.Proofs.Ytmmnnbgfomcihaa
open Go.ChangeShapes Go.WideShapes Go.ChangeAt Go.RowKit
set_option linter.unusedVariables false
set_option maxRecDepth 100000 in
set_option maxHeartbeats 800000 in
theorem ispans (w : World) (S : Nat → Bool) :
    Calls Try.prog 79 #[.agg (wv S)] w (GivesS w (runs S 1000)) := by
  obtain ⟨i0, hi, hy0, hy1, hy2⟩ := info_parts span_info
  have h0 : Hid (Own ((w.alloc (.cells (wv S) 105)).alloc (.cells #[] 60)) (w.heap.size + 1) 60 2 (some ⟨w.heap.size + 1, 0, none⟩) 0 0 (sv (runs S 0)) ∧ Below (w.heap.size + 1) (w.alloc (.cells (wv S) 105)) ((w.alloc (.cells (wv S) 105)).alloc (.cells #[] 60))) := by
    have h1 := Own.made0 (w.alloc (.cells (wv S) 105)) (w.heap.size + 1) 60 (by simp)
    rw [show (w.alloc (.cells (wv S) 105)).heap.size = w.heap.size + 1 by simp] at h1
    exact Lib.hid ⟨h1, (Below.refl _ _).alloc (by simp) _⟩
  have HN : Hid (∀ {w' : World}, Below (w.heap.size + 1) (w.alloc (.cells (wv S) 105)) w' → Blk w' w.heap.size 105 (wv S) ∧ Below w.heap.size w w') :=
    Lib.hid fun hb => ⟨(Blk.new w _ _).below hb (by omega), ((Below.refl w.heap.size w).alloc (Nat.le_refl _) _).trans (hb.mono (by omega))⟩
  go_enter Try.func79, Try.ntmps79
  go_wp2
  go_loopw [3, 7] (fun v i wr => ∃ (k : Nat) (A1 : Option Addr) (n1 c1 : Nat), k ≤ 1000 ∧ i = .int .i64 k ∧ v = .slice A1 n1 c1 ∧ Own wr (w.heap.size + 1) 60 2 A1 n1 c1 (sv (runs S k)) ∧ Below (w.heap.size + 1) (w.alloc (.cells (wv S) 105)) wr) (fun _ i _ => 1000 - (intOf i).toNat)
  case atStart => exact ⟨0, _, _, _, by omega, rfl, rfl, h0.out.1, h0.out.2⟩
  case round =>
    clear h0
    obtain ⟨k, A1, n1, c1, hk, rfl, rfl, ho, hb⟩ := hrel
    by_cases hlt : k < 1000
    · obtain ⟨L, hL⟩ : ∃ L, L = runs S k := ⟨_, rfl⟩
      rw [← hL] at ho
      obtain ⟨v, hv⟩ : ∃ v, S k = v := ⟨_, rfl⟩
      have HV := Lib.hid hv
      have hr : Hid (runs S (k + 1) = if v then put L k else L) := Lib.hid (by show (if S k then put (runs S k) k else runs S k) = _; rw [hv, ← hL])
      have hLn : L.length ≤ k := by rw [hL]; exact runs_len S k
      have hn1 : n1 = L.length := by have h2 := ho.len; rw [sv_len] at h2; omega
      have HS := Lib.hid (HN.out hb).1
      have HO := Lib.hid ho; have HB := Lib.hid hb
      clear ho hb hv hL
      subst hn1
      go_wp2_with (refine wpList_load_row rfl 105 (.tmp 1) rfl w.heap.size rfl 105 (wv S) (0, 0) _ HS.out Try.underlying105 rfl (by rw [zero_tick.2, wv, cells16_size]) ?_)
      refine (ihas _ S k (by omega) v HV.out).mono ?_
      rintro e w2 ⟨rfl, b2⟩
      have hsz : w.heap.size + 1 ≤ w2.heap.size := by have h1 := HB.out.size; have h2 := b2.size; simp at h1; omega
      have ho2 := HO.out.on b2
      have hb2 := HB.out.trans (b2.mono (by have h1 := HB.out.size; simpa using h1))
      clear b2 HO HB HS HV
      cases v
      · have HF : Hid (Own w2 (w.heap.size + 1) 60 2 A1 L.length c1 (sv (runs S (k + 1)))) := Lib.hid (by rw [hr.out]; exact ho2)
        have HB2 := Lib.hid hb2
        clear hr ho2 hb2
        go_wp2
        go_roundw
        case rel => exact ⟨k + 1, A1, L.length, c1, by omega, by go_num, rfl, HF.out, HB2.out⟩
        case measure => simp [intOf]; omega
      · by_cases hg : grows L k = true
        · have hg' : 0 < L.length ∧ (endOf L).2 = (k : Int) := by simpa [grows] using hg
          obtain ⟨hl, he⟩ := hg'
          rw [endOf_at L hl] at he
          have hput : Hid (runs S (k + 1) = L.set (L.length - 1) (L[L.length - 1].1, (k : Int) + 1)) := Lib.hid (by rw [hr.out]; show put L k = _; unfold put; rw [if_pos hg, endOf_at L hl])
          rcases ho2.form with ⟨_, h0, _⟩ | ⟨g, rfl, hBg, hgl, hcap, hcapm⟩
          · omega
          · obtain ⟨m, hm⟩ : ∃ m, L.length = m + 1 := ⟨L.length - 1, by omega⟩
            have hml : m < L.length := by omega
            have e3 : L[L.length - 1] = L[m] := getElem_congr' (by omega) (by omega)
            have hf : w2.frozen? ⟨g, m * 2 + 1, none⟩ = false := ho2.row.frozenAt (m * 2 + 1)
            have hc : w2.cell? ⟨g, m * 2 + 1, none⟩ = some (.int .i64 k) := by
              rw [ho2.row.cellAt (m * 2 + 1) (by omega), sv_get1 L m hml, ← e3, he]
            have HF : Hid (Own (w2.setCell ⟨g, m * 2 + 1, none⟩ (.int .i64 ((k : Int) + 1))) (w.heap.size + 1) 60 2 (some ⟨g, 0, none⟩) (m + 1) c1 (sv (runs S (k + 1))) ∧ Below (w.heap.size + 1) (w.alloc (.cells (wv S) 105)) (w2.setCell ⟨g, m * 2 + 1, none⟩ (.int .i64 ((k : Int) + 1)))) := by
              have hs := ho2.row.stored (m * 2 + 1) (.int .i64 ((k : Int) + 1))
              refine Lib.hid ⟨⟨?_⟩, ho2.below hb2 hsz hs.2⟩
              rw [hput.out, e3, show L.length - 1 = m by omega, ← sv_set1 L m hml, ← hm]
              exact hs.1
            have hmb : m ≤ 1000 := by omega
            rw [hm]
            clear ho2 hb2 he hm hput e3 hl hml hr hg hi hy0 hy1 hy2 hLn
            go_wp2
            go_roundw
            case rel => exact ⟨k + 1, _, m + 1, c1, by omega, by go_num, rfl, HF.out.1, HF.out.2⟩
            case measure => simp [intOf]; omega
        · have hput : Hid (runs S (k + 1) = L ++ [((k : Int), (k : Int) + 1)]) := Lib.hid (by rw [hr.out]; show put L k = _; unfold put; rw [if_neg hg])
          have hcap := ho2.capm
          have H0 := Lib.hid (ho2.on ((Below.refl w2.heap.size w2).alloc (Nat.le_refl _) (.cells #[.int .i64 (k : Int), .int .i64 ((k : Int) + 1)] 60)))
          have HB0 := Lib.hid (hb2.alloc hsz (.cells #[.int .i64 (k : Int), .int .i64 ((k : Int) + 1)] 60))
          by_cases h0 : 0 < L.length
          · have he : ¬ (L[L.length - 1].2 = (k : Int)) := fun e => hg (by simp only [grows, decide_eq_true_eq]; exact ⟨h0, by rw [endOf_at L h0]; exact e⟩)
            obtain ⟨m, hm⟩ : ∃ m, L.length = m + 1 := ⟨L.length - 1, by omega⟩
            have HL := Lib.hid hm
            rcases ho2.form with ⟨_, h00, _⟩ | ⟨g, rfl, hBg, hgl, hcap2, hcapm2⟩
            · omega
            · have hml : m < L.length := by omega
              obtain ⟨y, hy⟩ : ∃ y, y = L[m].2 := ⟨_, rfl⟩
              have hc : w2.cell? ⟨g, m * 2 + 1, none⟩ = some (.int .i64 y) := by
                rw [ho2.row.cellAt (m * 2 + 1) (by omega), sv_get1 L m hml, hy]
              have hyt : (y == (k : Int)) = false := by
                have e3 : L[L.length - 1].2 = L[m].2 := by rw [getElem_congr' (show L.length - 1 = m by omega)]
                rw [e3, ← hy] at he
                simpa using he
              rw [hm] at hcap hLn H0 hcap2
              rw [hm]
              clear ho2 hb2 he hm hg h0 hy hr hml
              have hB1 : w.heap.size + 1 ≤ (w2.alloc (.cells #[.int .i64 (k : Int), .int .i64 ((k : Int) + 1)] 60)).heap.size := by rw [World.size_alloc]; omega
              have hb16 : (m + 1 + 1) * 16 ≤ 140737488355328 := by omega
              go_wp2_with (at_builtin; refine wpList_append_sl _ rfl (.tmp 34) (.tmp 39) 35 rfl (w.heap.size + 1) 60 i0 _ 2 16 Try.underlying35 hi hy0 hy1 hy2 rfl (by omega) (some ⟨g, 0, none⟩) (m + 1) c1 (sv L) rfl H0.out (w2.heap.size + 1) _ 1 1 [.int .i64 (k : Int), .int .i64 ((k : Int) + 1)] rfl (Sl.one2 w2 _ _ _) (by simp [Value.oneCell']) (by omega) hb16 hB1 ?_; intro A3 c3 w3 hown3 hg3 hat3; have HF : Hid (Own w3 (w.heap.size + 1) 60 2 A3 (m + 1 + 1) c3 (sv (runs S (k + 1)))) := Lib.hid (by rw [hput.out, sv_app]; exact hown3); have HB3 := Lib.hid (H0.out.below HB0.out hB1 hg3); clear hown3 hg3 hat3)
              go_roundw
              case rel => exact ⟨k + 1, A3, m + 1 + 1, c3, by omega, by go_num, rfl, HF.out, HB3.out⟩
              case measure => simp [intOf]; omega
          · have hm : L.length = 0 := by omega
            have HL := Lib.hid hm
            rw [hm] at hcap hLn H0
            rw [hm]
            clear ho2 hb2 hm hg h0 hr
            have hB1 : w.heap.size + 1 ≤ (w2.alloc (.cells #[.int .i64 (k : Int), .int .i64 ((k : Int) + 1)] 60)).heap.size := by rw [World.size_alloc]; omega
            have hb16 : (0 + 1) * 16 ≤ 140737488355328 := by omega
            go_wp2_with (at_builtin; refine wpList_append_sl _ rfl (.tmp 34) (.tmp 39) 35 rfl (w.heap.size + 1) 60 i0 _ 2 16 Try.underlying35 hi hy0 hy1 hy2 rfl (by omega) A1 0 c1 (sv L) rfl H0.out (w2.heap.size + 1) _ 1 1 [.int .i64 (k : Int), .int .i64 ((k : Int) + 1)] rfl (Sl.one2 w2 _ _ _) (by simp [Value.oneCell']) (by omega) hb16 hB1 ?_; intro A3 c3 w3 hown3 hg3 hat3; have HF : Hid (Own w3 (w.heap.size + 1) 60 2 A3 (0 + 1) c3 (sv (runs S (k + 1)))) := Lib.hid (by rw [hput.out, sv_app]; exact hown3); have HB3 := Lib.hid (H0.out.below HB0.out hB1 hg3); clear hown3 hg3 hat3)
            go_roundw
            case rel => exact ⟨k + 1, A3, 0 + 1, c3, by omega, by go_num, rfl, HF.out, HB3.out⟩
            case measure => simp [intOf]; omega
    · obtain rfl : k = 1000 := by omega
      have HF : Hid (GivesS w (runs S 1000) (.returned (.slice A1 n1 c1)) wr) := Lib.hid ⟨_, _, _, rfl, ho.fewer (by omega), (HN.out hb).2⟩
      clear ho hb
      go_wp2
      go_ret
      exact HF.out
end Go.Proofs.Ytmmnnbgfomcihaa
namespace Go.Proofs.Ytmmnnbgfomcihaa
open Go.ChangeShapes Go.WideShapes Go.ChangeAt Go.RowKit
set_option linter.unusedVariables false
set_option maxRecDepth 100000 in
theorem imerge0 (w : World) (D D' : Nat) (A A' : Option Addr) (n n' c c' : Nat) (l l' : List (Int × Int)) (h : Sl w D 2 A n c (sv l)) (h' : Sl w D' 2 A' n' c' (sv l')) (hD : D ≤ w.heap.size) (hD' : D' ≤ w.heap.size) :
    Calls Try.prog 67 #[.int .i64 0, .slice A n c, .slice A' n' c'] w (GivesS w (runs (fun k => tk l k ||tk l' k) 1000)) := by
  obtain ⟨S, hS⟩ : ∃ S, S = tk l := ⟨_, rfl⟩
  obtain ⟨T, hT⟩ : ∃ T, T = tk l' := ⟨_, rfl⟩
  rw [← hS, ← hT]
  obtain ⟨U, hU⟩ : ∃ U : Nat → Bool, U = fun k => S k ||T k := ⟨_, rfl⟩
  rw [← hU]
  have H : Hid (∀ {w' : World}, Below w.heap.size w w' → Calls Try.prog 78 #[.slice A n c] w' (Sets w' S)) := Lib.hid fun hb => by rw [hS]; exact iticks _ D A n c l (h.below hb hD) (Nat.le_trans hD hb.size)
  have H' : Hid (∀ {w' : World}, Below w.heap.size w w' → Calls Try.prog 78 #[.slice A' n' c'] w' (Sets w' T)) := Lib.hid fun hb => by rw [hT]; exact iticks _ D' A' n' c' l' (h'.below hb hD') (Nat.le_trans hD' hb.size)
  have HF : Hid (∀ w' : World, Calls Try.prog 75 #[.agg (wv S), .agg (wv T)] w' (Sets w' U)) := Lib.hid fun w' => by rw [hU]; exact ior w' S T
  clear hS hT hU h h'
  have HC : Hid (∀ {w' : World}, Below (w.heap.size + 1) (w.alloc (.cells #[.func (.func 75) #[] #[], .func (.func 76) #[] #[], .func (.func 77) #[] #[]] 101)) w' → w'.cell? ⟨w.heap.size, 0, none⟩ = some (.func (.func 75) #[] #[]) ∧ Below w.heap.size w w') :=
    Lib.hid fun hb => ⟨((Blk.new w _ _).below hb (by omega)).cell 0, ((Below.refl w.heap.size w).alloc (Nat.le_refl _) _).trans (hb.mono (by omega))⟩
  have HB0 : Hid (Below (w.heap.size + 1) (w.alloc (.cells #[.func (.func 75) #[] #[], .func (.func 76) #[] #[], .func (.func 77) #[] #[]] 101)) (w.alloc (.cells #[.func (.func 75) #[] #[], .func (.func 76) #[] #[], .func (.func 77) #[] #[]] 101))) := Lib.hid (Below.refl _ _)
  have HD0 := Lib.hid HB0.out.drew
  have k0 := (HC.out HB0.out).1
  have hs1 : w.heap.size + 1 ≤ w.heap.size + 1 := Nat.le_refl _
  go_enter Try.func67, Try.ntmps67
  go_wp2
  go_region_held3 (fun w' => w'.cell? ⟨w.heap.size, 0, none⟩ = some (.func (.func 75) #[] #[])) (first | assumption | go_keep) (first
    | (go_at_call_of 78 (Value.slice A n c); refine (H.out (HC.out HD0.out).2).mono ?_; rintro e wA ⟨rfl, bA⟩; have HA := Lib.hid (HD0.out.trans (bA.mono (by simp))); have kA := (HC.out HA.out).1; have sA := HA.out.size; clear bA)
    | (go_at_call_of 78 (Value.slice A' n' c'); refine (H'.out (HC.out HA.out).2).mono ?_; rintro e wB ⟨rfl, bB⟩; have HB := Lib.hid (HA.out.trans (bB.mono (by simpa using sA))); have kB := (HC.out HB.out).1; have sB := HB.out.size; clear bB)
    | (go_at_call 75; refine (HF.out _).mono ?_; rintro e wC ⟨rfl, bC⟩; have HCc := Lib.hid (HB.out.trans (bC.mono (by simpa using sB))); have kC := (HC.out HCc.out).1; have sC := HCc.out.size; clear bC)
    | (go_at_call 79; refine (ispans _ U).mono ?_; rintro e wD ⟨A2, n2, c2, rfl, oD, bD⟩; have HDd := Lib.hid (HCc.out.trans (bD.mono (by simpa using sC))); have kD := (HC.out HDd.out).1; have OD := Lib.hid (oD.fewer (show w.heap.size ≤ wC.heap.size by simp at sC; omega)); clear bD oD))
  go_wp2
  go_ret
  exact ⟨A2, n2, c2, rfl, OD.out, (HC.out HDd.out).2⟩
set_option maxRecDepth 100000 in
theorem imerge1 (w : World) (D D' : Nat) (A A' : Option Addr) (n n' c c' : Nat) (l l' : List (Int × Int)) (h : Sl w D 2 A n c (sv l)) (h' : Sl w D' 2 A' n' c' (sv l')) (hD : D ≤ w.heap.size) (hD' : D' ≤ w.heap.size) :
    Calls Try.prog 67 #[.int .i64 1, .slice A n c, .slice A' n' c'] w (GivesS w (runs (fun k => tk l k &&tk l' k) 1000)) := by
  obtain ⟨S, hS⟩ : ∃ S, S = tk l := ⟨_, rfl⟩
  obtain ⟨T, hT⟩ : ∃ T, T = tk l' := ⟨_, rfl⟩
  rw [← hS, ← hT]
  obtain ⟨U, hU⟩ : ∃ U : Nat → Bool, U = fun k => S k &&T k := ⟨_, rfl⟩
  rw [← hU]
  have H : Hid (∀ {w' : World}, Below w.heap.size w w' → Calls Try.prog 78 #[.slice A n c] w' (Sets w' S)) := Lib.hid fun hb => by rw [hS]; exact iticks _ D A n c l (h.below hb hD) (Nat.le_trans hD hb.size)
  have H' : Hid (∀ {w' : World}, Below w.heap.size w w' → Calls Try.prog 78 #[.slice A' n' c'] w' (Sets w' T)) := Lib.hid fun hb => by rw [hT]; exact iticks _ D' A' n' c' l' (h'.below hb hD') (Nat.le_trans hD' hb.size)
  have HF : Hid (∀ w' : World, Calls Try.prog 76 #[.agg (wv S), .agg (wv T)] w' (Sets w' U)) := Lib.hid fun w' => by rw [hU]; exact iand w' S T
  clear hS hT hU h h'
  have HC : Hid (∀ {w' : World}, Below (w.heap.size + 1) (w.alloc (.cells #[.func (.func 75) #[] #[], .func (.func 76) #[] #[], .func (.func 77) #[] #[]] 101)) w' → w'.cell? ⟨w.heap.size, 1, none⟩ = some (.func (.func 76) #[] #[]) ∧ Below w.heap.size w w') :=
    Lib.hid fun hb => ⟨((Blk.new w _ _).below hb (by omega)).cell 1, ((Below.refl w.heap.size w).alloc (Nat.le_refl _) _).trans (hb.mono (by omega))⟩
  have HB0 : Hid (Below (w.heap.size + 1) (w.alloc (.cells #[.func (.func 75) #[] #[], .func (.func 76) #[] #[], .func (.func 77) #[] #[]] 101)) (w.alloc (.cells #[.func (.func 75) #[] #[], .func (.func 76) #[] #[], .func (.func 77) #[] #[]] 101))) := Lib.hid (Below.refl _ _)
  have HD0 := Lib.hid HB0.out.drew
  have k0 := (HC.out HB0.out).1
  have hs1 : w.heap.size + 1 ≤ w.heap.size + 1 := Nat.le_refl _
  go_enter Try.func67, Try.ntmps67
  go_wp2
  go_region_held3 (fun w' => w'.cell? ⟨w.heap.size, 1, none⟩ = some (.func (.func 76) #[] #[])) (first | assumption | go_keep) (first
    | (go_at_call_of 78 (Value.slice A n c); refine (H.out (HC.out HD0.out).2).mono ?_; rintro e wA ⟨rfl, bA⟩; have HA := Lib.hid (HD0.out.trans (bA.mono (by simp))); have kA := (HC.out HA.out).1; have sA := HA.out.size; clear bA)
    | (go_at_call_of 78 (Value.slice A' n' c'); refine (H'.out (HC.out HA.out).2).mono ?_; rintro e wB ⟨rfl, bB⟩; have HB := Lib.hid (HA.out.trans (bB.mono (by simpa using sA))); have kB := (HC.out HB.out).1; have sB := HB.out.size; clear bB)
    | (go_at_call 76; refine (HF.out _).mono ?_; rintro e wC ⟨rfl, bC⟩; have HCc := Lib.hid (HB.out.trans (bC.mono (by simpa using sB))); have kC := (HC.out HCc.out).1; have sC := HCc.out.size; clear bC)
    | (go_at_call 79; refine (ispans _ U).mono ?_; rintro e wD ⟨A2, n2, c2, rfl, oD, bD⟩; have HDd := Lib.hid (HCc.out.trans (bD.mono (by simpa using sC))); have kD := (HC.out HDd.out).1; have OD := Lib.hid (oD.fewer (show w.heap.size ≤ wC.heap.size by simp at sC; omega)); clear bD oD))
  go_wp2
  go_ret
  exact ⟨A2, n2, c2, rfl, OD.out, (HC.out HDd.out).2⟩
set_option maxRecDepth 100000 in
theorem imerge2 (w : World) (D D' : Nat) (A A' : Option Addr) (n n' c c' : Nat) (l l' : List (Int × Int)) (h : Sl w D 2 A n c (sv l)) (h' : Sl w D' 2 A' n' c' (sv l')) (hD : D ≤ w.heap.size) (hD' : D' ≤ w.heap.size) :
    Calls Try.prog 67 #[.int .i64 2, .slice A n c, .slice A' n' c'] w (GivesS w (runs (fun k => tk l k &&!tk l' k) 1000)) := by
  obtain ⟨S, hS⟩ : ∃ S, S = tk l := ⟨_, rfl⟩
  obtain ⟨T, hT⟩ : ∃ T, T = tk l' := ⟨_, rfl⟩
  rw [← hS, ← hT]
  obtain ⟨U, hU⟩ : ∃ U : Nat → Bool, U = fun k => S k &&!T k := ⟨_, rfl⟩
  rw [← hU]
  have H : Hid (∀ {w' : World}, Below w.heap.size w w' → Calls Try.prog 78 #[.slice A n c] w' (Sets w' S)) := Lib.hid fun hb => by rw [hS]; exact iticks _ D A n c l (h.below hb hD) (Nat.le_trans hD hb.size)
  have H' : Hid (∀ {w' : World}, Below w.heap.size w w' → Calls Try.prog 78 #[.slice A' n' c'] w' (Sets w' T)) := Lib.hid fun hb => by rw [hT]; exact iticks _ D' A' n' c' l' (h'.below hb hD') (Nat.le_trans hD' hb.size)
  have HF : Hid (∀ w' : World, Calls Try.prog 77 #[.agg (wv S), .agg (wv T)] w' (Sets w' U)) := Lib.hid fun w' => by rw [hU]; exact iwithout w' S T
  clear hS hT hU h h'
  have HC : Hid (∀ {w' : World}, Below (w.heap.size + 1) (w.alloc (.cells #[.func (.func 75) #[] #[], .func (.func 76) #[] #[], .func (.func 77) #[] #[]] 101)) w' → w'.cell? ⟨w.heap.size, 2, none⟩ = some (.func (.func 77) #[] #[]) ∧ Below w.heap.size w w') :=
    Lib.hid fun hb => ⟨((Blk.new w _ _).below hb (by omega)).cell 2, ((Below.refl w.heap.size w).alloc (Nat.le_refl _) _).trans (hb.mono (by omega))⟩
  have HB0 : Hid (Below (w.heap.size + 1) (w.alloc (.cells #[.func (.func 75) #[] #[], .func (.func 76) #[] #[], .func (.func 77) #[] #[]] 101)) (w.alloc (.cells #[.func (.func 75) #[] #[], .func (.func 76) #[] #[], .func (.func 77) #[] #[]] 101))) := Lib.hid (Below.refl _ _)
  have HD0 := Lib.hid HB0.out.drew
  have k0 := (HC.out HB0.out).1
  have hs1 : w.heap.size + 1 ≤ w.heap.size + 1 := Nat.le_refl _
  go_enter Try.func67, Try.ntmps67
  go_wp2
  go_region_held3 (fun w' => w'.cell? ⟨w.heap.size, 2, none⟩ = some (.func (.func 77) #[] #[])) (first | assumption | go_keep) (first
    | (go_at_call_of 78 (Value.slice A n c); refine (H.out (HC.out HD0.out).2).mono ?_; rintro e wA ⟨rfl, bA⟩; have HA := Lib.hid (HD0.out.trans (bA.mono (by simp))); have kA := (HC.out HA.out).1; have sA := HA.out.size; clear bA)
    | (go_at_call_of 78 (Value.slice A' n' c'); refine (H'.out (HC.out HA.out).2).mono ?_; rintro e wB ⟨rfl, bB⟩; have HB := Lib.hid (HA.out.trans (bB.mono (by simpa using sA))); have kB := (HC.out HB.out).1; have sB := HB.out.size; clear bB)
    | (go_at_call 77; refine (HF.out _).mono ?_; rintro e wC ⟨rfl, bC⟩; have HCc := Lib.hid (HB.out.trans (bC.mono (by simpa using sB))); have kC := (HC.out HCc.out).1; have sC := HCc.out.size; clear bC)
    | (go_at_call 79; refine (ispans _ U).mono ?_; rintro e wD ⟨A2, n2, c2, rfl, oD, bD⟩; have HDd := Lib.hid (HCc.out.trans (bD.mono (by simpa using sC))); have kD := (HC.out HDd.out).1; have OD := Lib.hid (oD.fewer (show w.heap.size ≤ wC.heap.size by simp at sC; omega)); clear bD oD))
  go_wp2
  go_ret
  exact ⟨A2, n2, c2, rfl, OD.out, (HC.out HDd.out).2⟩
end Go.Proofs.Ytmmnnbgfomcihaa
namespace Go.Proofs.Ytmmnnbgfomcihaa
open Go.ChangeShapes Go.WideShapes Go.ChangeAt Go.RowKit
set_option linter.unusedVariables false
theorem below_drewN {B : Nat} {a w : World} (h : Below B a w) (n : Nat) : Below B a (w.drewN n) := by
  induction n with
  | zero => exact h
  | succ n ih => exact ih.drew
theorem or_nil (l : List (Int × Int)) : runs (fun k => tk l k || tk [] k) 1000 = joinOf l := by
  unfold joinOf
  congr 1
  funext k
  show (tk l k || false) = _
  rw [Bool.or_false]
theorem ijoin (w : World) (D : Nat) (A : Option Addr) (n c : Nat) (l : List (Int × Int)) (h : Sl w D 2 A n c (sv l)) (hD : D ≤ w.heap.size) :
    Calls Try.prog 50 #[.slice A n c] w (GivesS w (joinOf l)) := by
  have HJ : Hid (Calls Try.prog 67 #[.int .i64 0, .slice A n c, .slice none 0 0] w (GivesS w (joinOf l))) := Lib.hid (by
    have h1 := imerge0 w D w.heap.size A none n 0 c 0 l [] h (Sl.nil_ w w.heap.size 2) hD (Nat.le_refl _)
    rw [or_nil] at h1; exact h1)
  clear h
  go_enter Try.func50, Try.ntmps50
  go_wp2_with fail
  refine HJ.out.mono ?_
  rintro e w1 ⟨A1, n1, c1, rfl, o, b⟩
  have HF : Hid (GivesS w (joinOf l) (.returned (.slice A1 n1 c1)) w1) := Lib.hid ⟨_, _, _, rfl, o, b⟩
  clear o b
  go_wp2
  go_ret
  exact HF.out
theorem sumL_bd (l : List (Int × Int)) (h : ∀ p ∈ l, 0 ≤ p.1 ∧ p.1 < p.2 ∧ p.2 ≤ 1000) : 0 ≤ sumL l ∧ sumL l ≤ 1000 * l.length := by
  suffices hh : ∀ (l : List (Int × Int)) (s : Int), (∀ p ∈ l, 0 ≤ p.1 ∧ p.1 < p.2 ∧ p.2 ≤ 1000) → s ≤ l.foldl (fun s p => s + p.2 - p.1) s ∧ l.foldl (fun s p => s + p.2 - p.1) s ≤ s + 1000 * l.length by
    have := hh l 0 h; unfold sumL; omega
  intro l
  induction l with
  | nil => intro s _; simp
  | cons q l ih =>
    intro s hl
    have h1 := hl q (by simp)
    have h2 := ih (s + q.2 - q.1) (fun p hp => hl p (by simp [hp]))
    simp only [List.foldl_cons, List.length_cons]
    omega
end Go.Proofs.Ytmmnnbgfomcihaa
