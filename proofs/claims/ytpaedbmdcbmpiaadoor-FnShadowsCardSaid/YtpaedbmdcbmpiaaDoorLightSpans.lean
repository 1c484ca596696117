/- The program's spans and longest of a list of light, and LitSpans, DarkSpans and LongestDark. -/
import Derived.Test.YtpaedbmdcbmpiaaDoorLightOf
import Derived.Test.YtpaedbmdcbmpiaaDoorBetween
namespace Go.Proofs.YtpaedbmdcbmpiaaDoor
open Go.ChangeShapes Go.WideShapes Go.ChangeAt Go.RowKit
set_option linter.unusedVariables false
theorem spK_succ (lo kind : Int) (rs : List Nat) (k r : Nat) (v : Bool) (hk : k < rs.length) (hr : rs[k] = r) (hv : ((k : Int) % 2 == kind) = v) :
    spK lo kind rs (k + 1) = if v = true ∧ 0 < r then spK lo kind rs k ++ [(lo + (rsum rs k : Int), lo + (rsum rs k : Int) + (r : Nat))] else spK lo kind rs k := by
  have hg : rs.getD k 0 = r := by rw [← hr]; simp [List.getD, List.getElem?_eq_getElem hk]
  show (if ((k % 2 : Nat) : Int) = kind ∧ 0 < rs.getD k 0 then spK lo kind rs k ++ [(lo + (rsum rs k : Int), lo + (rsum rs k : Int) + (rs.getD k 0 : Nat))] else spK lo kind rs k) = _
  rw [hg]
  have e : ((k % 2 : Nat) : Int) = kind ↔ v = true := by rw [← hv]; simp
  by_cases h : v = true ∧ 0 < r
  · rw [if_pos h, if_pos ⟨e.2 h.1, h.2⟩]
  · rw [if_neg h, if_neg (fun h2 => h ⟨e.1 h2.1, h2.2⟩)]
set_option maxRecDepth 100000 in
set_option maxHeartbeats 800000 in
theorem ilspans (w : World) (lo kind : Int) (rs : List Nat) (A : Option Addr) (c : Nat) (D0 : Nat) (h : Sl w D0 1 A rs.length c (rv rs)) (hD : D0 ≤ w.heap.size) (h0 : 0 ≤ lo) (hlj : lo ≤ 9223372036854775807) (h1 : rs = [] ∨ lo + (rsum rs rs.length : Int) ≤ 1000) (hn : rs.length ≤ 1001) :
    Calls Tryd.prog 24 #[.agg #[.int .i64 lo, .slice A rs.length c], .int .i64 kind] w (GivesS w (spK lo kind rs rs.length)) := by
  obtain ⟨i0, hi0, hy0, hy1, hy2⟩ := info_parts span_info
  have hcap := h.cap; have hcapm := h.capm
  obtain ⟨W1, hW1⟩ : ∃ W, W = (w.alloc (.cells #[.int .i64 lo, .slice A rs.length c] 57)).alloc (.cells #[] 60) := ⟨_, rfl⟩
  have B1 : Hid (Below w.heap.size w W1) := Lib.hid (by rw [hW1]; exact ((Below.refl _ _).alloc (Nat.le_refl _) _).alloc (by simp) _)
  have O1 : Hid (Own W1 w.heap.size 60 2 (some ⟨w.heap.size + 1, 0, none⟩) 0 0 (sv (spK lo kind rs 0))) := Lib.hid (by
    have h := Own.made0 (w.alloc (.cells #[.int .i64 lo, .slice A rs.length c] 57)) w.heap.size 60 (by simp)
    rw [World.size_alloc] at h
    rw [hW1]; exact h)
  have H := Lib.hid h
  clear h
  go_enter Tryd.func24, Tryd.ntmps24
  go_wp2
  rw [← hW1]
  clear hW1
  go_loopw [5, 6, 7, 8, 15] (fun l f i r x wr => ∃ (k : Nat) (A1 : Option Addr) (n1 c1 : Nat), k ≤ rs.length ∧ x = .int .i64 (k : Int) ∧ f = .int .i64 (lo + (rsum rs k : Int)) ∧ l = .slice A1 n1 c1 ∧ Own wr w.heap.size 60 2 A1 n1 c1 (sv (spK lo kind rs k)) ∧ Below w.heap.size w wr) (fun _ _ _ _ x _ => rs.length - (intOf x).toNat)
  case atStart => exact ⟨0, _, _, _, Nat.zero_le _, rfl, by simp [rsum], rfl, O1.out, B1.out⟩
  case round =>
    clear O1 B1
    obtain ⟨k, A1, n1, c1, hk, rfl, rfl, rfl, ho, hb⟩ := hrel
    obtain ⟨f, hf⟩ : ∃ f, lo + (rsum rs k : Int) = f := ⟨_, rfl⟩
    rw [hf]
    have HO := Lib.hid ho; have HB := Lib.hid hb
    by_cases hlt : k < rs.length
    case neg =>
      obtain rfl : k = rs.length := by omega
      have hlt' : ¬ (((rs.length : Nat) : Int) < ((rs.length : Nat) : Int)) := by omega
      have HF : Hid (GivesS w (spK lo kind rs rs.length) (.returned (.slice A1 n1 c1)) wr) := Lib.hid ⟨_, _, _, rfl, ho, hb⟩
      clear ho hb HO HB hf
      go_wp2
      go_ret
      exact HF.out
    case pos =>
      have hlti : (k : Int) < (rs.length : Int) := by omega
      have hne : ¬ rs = [] := fun e => by rw [e] at hlt; simp at hlt
      have hle := h1.resolve_left hne
      have hmono := rsum_mono rs (k + 1) rs.length hlt (Nat.le_refl _)
      have hsucc := rsum_succ rs k hlt
      obtain ⟨r, hr⟩ : ∃ r, rs[k] = r := ⟨_, rfl⟩
      rw [hr] at hsucc
      obtain ⟨ad, hx, rfl, had, hcell⟩ := (H.out.below HB.out hD).at_ (k := k) hlt
      rw [rv_get] at hcell
      simp only [hr] at hcell
      obtain ⟨v, hv⟩ : ∃ v, ((k : Int) % 2 == kind) = v := ⟨_, rfl⟩
      have HR := Lib.hid (spK_succ lo kind rs k r v hlt hr hv)
      have hfr : f + (r : Int) ≤ 1000 := by omega
      have hf0 : 0 ≤ f := by omega
      have hr0 : 0 ≤ (r : Int) := by omega
      have hw : IntKind.i64.wrap (f + (r : Int)) = f + (r : Int) := wrap_in _ (by omega) (by omega)
      have HN : Hid (lo + (rsum rs (k + 1) : Int) = f + (r : Int)) := Lib.hid (by omega)
      have HLK : Hid ((spK lo kind rs k).length ≤ k) := Lib.hid (spK_len lo kind rs k)
      have HFE := Lib.hid hf
      clear hf hr hx hne hle hmono hsucc ho hb
      by_cases hc : v = true ∧ 0 < r
      case neg =>
        have HS : Hid (Own wr w.heap.size 60 2 A1 n1 c1 (sv (spK lo kind rs (k + 1)))) := Lib.hid (by rw [HR.out, if_neg hc]; exact HO.out)
        cases v
        · clear hc
          go_wp2_with fail
          go_roundw
          case rel => exact ⟨k + 1, A1, n1, c1, hlt, by go_num, by rw [HN.out], rfl, HS.out, HB.out⟩
          case measure => simp [intOf]; omega
        · have hr1 : ¬ ((r : Int) > 0) := by intro h; exact hc ⟨rfl, by omega⟩
          clear hc
          go_wp2_with fail
          go_roundw
          case rel => exact ⟨k + 1, A1, n1, c1, hlt, by go_num, by rw [HN.out], rfl, HS.out, HB.out⟩
          case measure => simp [intOf]; omega
      case pos =>
        obtain ⟨rfl, hrp⟩ := hc
        have hr1 : (r : Int) > 0 := by omega
        obtain ⟨Lk, hLk⟩ : ∃ Lk, spK lo kind rs k = Lk := ⟨_, rfl⟩
        have hRR : spK lo kind rs (k + 1) = Lk ++ [(f, f + (r : Int))] := by rw [HR.out, if_pos ⟨rfl, hrp⟩, hLk, HFE.out]
        rw [hLk] at HO HLK
        have hll := HLK.out
        have hlen := HO.out.len
        rw [sv_len] at hlen
        obtain rfl : n1 = Lk.length := by omega
        obtain ⟨W3, hW3⟩ : ∃ W, W = wr.alloc (.cells #[.int .i64 f, .int .i64 (f + (r : Int))] 60) := ⟨_, rfl⟩
        have B3 : Below wr.heap.size wr W3 := by rw [hW3]; exact (Below.refl _ _).alloc (Nat.le_refl _) _
        have O4 := Lib.hid (HO.out.on B3)
        have B4 := Lib.hid (HB.out.trans (B3.mono HB.out.size))
        have SL : Hid (Sl W3 (wr.heap.size + 1) 2 (some ⟨wr.heap.size, 0, none⟩) 1 1 [.int .i64 f, .int .i64 (f + (r : Int))]) := Lib.hid (by rw [hW3]; exact Sl.one2 wr _ _ _)
        have hb16 : (Lk.length + 1) * 16 ≤ 140737488355328 := by omega
        have hsz3 : w.heap.size ≤ W3.heap.size := B4.out.size
        have HRR := Lib.hid hRR
        have hcp := HO.out.capm
        clear hRR hLk hlen hrp B3 HO HB HR
        go_wp2_with (at_builtin; go_loud (rw [← hW3]; refine wpList_append_sl _ rfl (.tmp 28) (.tmp 34) 31 rfl w.heap.size 60 i0 _ 2 16 Tryd.underlying31 hi0 hy0 hy1 hy2 rfl (by omega) A1 Lk.length c1 (sv Lk) rfl O4.out (wr.heap.size + 1) _ 1 1 [.int .i64 f, .int .i64 (f + (r : Int))] rfl SL.out (by simp [Value.oneCell']) (by omega) hb16 hsz3 ?_; intro A5 c5 w5 hown5 hg5 hat5; have HS : Hid (Own w5 w.heap.size 60 2 A5 (Lk.length + 1) c5 (sv (spK lo kind rs (k + 1))) ∧ Below w.heap.size w w5) := Lib.hid ⟨by rw [HRR.out, sv_app]; exact hown5, O4.out.below B4.out hsz3 hg5⟩; clear hown5 hg5 hat5))
        go_roundw
        case rel => exact ⟨k + 1, A5, Lk.length + 1, c5, hlt, by go_num, by rw [HN.out], rfl, HS.out.1, HS.out.2⟩
        case measure => simp [intOf]; omega
set_option maxRecDepth 100000 in
theorem ilongest (w : World) (L : Int → Bool) (lo : Int) (rs : List Nat) (A : Option Addr) (c : Nat) (D0 : Nat) (h : Sl w D0 1 A rs.length c (rv rs)) (hD : D0 ≤ w.heap.size) (hn : rs.length ≤ 1001) (hL : LR L lo rs) :
    Calls Tryd.prog 33 #[.agg #[.int .i64 lo, .slice A rs.length c], .int .i64 1] w fun e w' => ∃ m : Nat, e = .returned (.int .i64 (m : Int)) ∧ DarkRun L lo (lo + (rsum rs rs.length : Int)) m ∧ Below w.heap.size w w' := by
  have hcap := h.cap; have hcapm := h.capm
  obtain ⟨W1, hW1⟩ : ∃ W, W = w.alloc (.cells #[.int .i64 lo, .slice A rs.length c] 57) := ⟨_, rfl⟩
  have B1 : Hid (Below w.heap.size w W1) := Lib.hid (by rw [hW1]; exact (Below.refl _ _).alloc (Nat.le_refl _) _)
  have H := Lib.hid h; have HL := Lib.hid hL
  clear h hL
  go_enter Tryd.func33, Tryd.ntmps33
  go_wp2
  rw [← hW1]
  clear hW1
  go_loopw [5, 6, 7, 11] (fun o i r x wr => ∃ (k m : Nat), k ≤ rs.length ∧ x = .int .i64 (k : Int) ∧ o = .int .i64 (m : Int) ∧ DarkRun L lo (lo + (rsum rs rs.length : Int)) m ∧ Below w.heap.size w wr) (fun _ _ _ x _ => rs.length - (intOf x).toNat)
  case atStart => exact ⟨0, 0, Nat.zero_le _, rfl, rfl, .inl rfl, B1.out⟩
  case round =>
    clear B1
    obtain ⟨k, m, hk, rfl, rfl, hm, hb⟩ := hrel
    have HB := Lib.hid hb; have HM := Lib.hid hm
    by_cases hlt : k < rs.length
    case neg =>
      obtain rfl : k = rs.length := by omega
      have hlt' : ¬ (((rs.length : Nat) : Int) < ((rs.length : Nat) : Int)) := by omega
      clear hb hm
      go_wp2
      go_ret
      exact ⟨m, rfl, HM.out, HB.out⟩
    case pos =>
      have hlti : (k : Int) < (rs.length : Int) := by omega
      obtain ⟨r, hr⟩ : ∃ r, rs[k] = r := ⟨_, rfl⟩
      obtain ⟨ad, hx, rfl, had, hcell⟩ := (H.out.below HB.out hD).at_ (k := k) hlt
      rw [rv_get] at hcell
      simp only [hr] at hcell
      obtain ⟨v, hv⟩ : ∃ v, ((k : Int) % 2 == 1) = v := ⟨_, rfl⟩
      have HD : Hid (v = true → DarkRun L lo (lo + (rsum rs rs.length : Int)) r) := Lib.hid fun e => by
        rw [← hr]; refine HL.out.dark k hlt ?_
        rw [e] at hv; have := eq_of_beq hv; omega
      clear hr hx hm hb
      cases v
      · go_wp2_with fail
        go_roundw
        case rel => exact ⟨k + 1, m, hlt, by go_num, rfl, HM.out, HB.out⟩
        case measure => simp [intOf]; omega
      · go_wp2_with fail
        refine (imaxB (m : Int) (r : Int) _).mono ?_
        rintro e w2 ⟨rfl, b2⟩
        have B2 := Lib.hid (HB.out.trans (b2.mono HB.out.size))
        obtain ⟨q, hq, hqm⟩ : ∃ q : Nat, mxf (m : Int) (r : Int) = (q : Int) ∧ (q = m ∨ q = r) := by
          unfold mxf; split
          · exact ⟨_, rfl, by omega⟩
          · exact ⟨_, rfl, by omega⟩
        rw [hq]
        have HQ : Hid (DarkRun L lo (lo + (rsum rs rs.length : Int)) q) := Lib.hid (by
          rcases hqm with rfl | rfl
          · exact HM.out
          · exact HD.out (by simp))
        clear b2 hq hqm
        go_wp2_with fail
        go_roundw
        case rel => exact ⟨k + 1, q, hlt, by go_num, rfl, HQ.out, B2.out⟩
        case measure => simp [intOf]; omega
/-- what LitSpans and DarkSpans answer -/
def GivesL (w : World) (L : Int → Bool) (b : Bool) (lo hi : Int) (e : Ending) (w' : World) : Prop := ∃ A n c l, e = .returned (.slice A n c) ∧ Own w' w.heap.size 60 2 A n c (sv l) ∧ Below w.heap.size w w' ∧ ∀ t, inL l t = decide ((lo ≤ t ∧ t < hi) ∧ L t = b)
theorem RInv.has {L : Int → Bool} {lo hi : Int} {rs : List Nat} (h : RInv L lo hi rs) (he : hi ≤ lo + (rsum rs rs.length : Int)) (h0 : 0 ≤ lo) (h1 : hi ≤ 1000) (kind : Int) (b : Bool) (hk : (kind = 0 ∧ b = true) ∨ (kind = 1 ∧ b = false)) (t : Int) :
    inL (spK lo kind rs rs.length) t = decide ((lo ≤ t ∧ t < hi) ∧ L t = b) := by
  have ht := h.till
  rw [spK_has L lo kind rs h.runs h0 (by rcases ht with e | e; exact .inl e; exact .inr (by omega)) (by rcases hk with e | e; exact .inl e.1; exact .inr e.1) rs.length (Nat.le_refl _) t]
  have e2 : decide (kind = 0) = b := by rcases hk with ⟨e, e'⟩ | ⟨e, e'⟩ <;> rw [e, e'] <;> rfl
  rw [e2]
  refine decide_eq_decide.2 ⟨fun h => ⟨⟨h.1.1, ?_⟩, h.2⟩, fun h => ⟨⟨h.1.1, by omega⟩, h.2⟩⟩
  rcases ht with e | e
  · rw [e] at h; simp [rsum] at h; omega
  · omega
theorem RInv.dark {L : Int → Bool} {lo hi : Int} {rs : List Nat} (h : RInv L lo hi rs) {m : Nat} (hm : DarkRun L lo (lo + (rsum rs rs.length : Int)) m) : DarkRun L lo hi m := by
  rcases hm with e | ⟨a, h0, h1, h2⟩
  · exact .inl e
  · rcases h.till with e | e
    · rw [e] at h1; simp [rsum] at h1; exact .inl (by omega)
    · exact .inr ⟨a, h0, by omega, h2⟩
theorem RInv.few {L : Int → Bool} {lo hi : Int} {rs : List Nat} (h : RInv L lo hi rs) (h0 : 0 ≤ lo) (h1 : hi ≤ 1000) : rs.length ≤ 1001 ∧ (rs = [] ∨ lo + (rsum rs rs.length : Int) ≤ 1000) := by
  have hl := h.len
  rcases h.till with e | e
  · exact ⟨by rw [e]; simp, .inl e⟩
  · exact ⟨by omega, .inr (by omega)⟩
set_option maxRecDepth 100000 in
theorem ilitspans (w : World) (P R X V U D Q : Int) (ns ni nz : Nat) (ls : List Sat4) (li lz : List Tri) (As : Option Addr) (cs : Nat) (Ai : Option Addr) (ci : Nat) (Az : Option Addr) (cz : Nat) (D0 : Nat) (h : InSky w (D0) As ns cs Ai ni ci Az nz cz ls li lz) (hD : D0 ≤ w.heap.size) (hs : ns ≤ 16777216) (hi : ni ≤ 16777216) (nA tW : Addr) (E : Errs w nA tW) (node : Int) (hn : J64 node) (from_ till : Int) (hf : J64 from_) (ht : J64 till) (L : Int → Bool) (hL : ∀ t, litAt U D ls li node t = L t) :
    Calls Tryd.prog 7 #[.agg #[.int .i64 P, .slice As ns cs, .slice Ai ni ci, .int .i64 R, .int .i64 X, .int .i64 V, .int .i64 U, .int .i64 D, .slice Az nz cz, .int .i64 Q], .int .i64 node, .int .i64 from_, .int .i64 till] w (GivesL w L true (lowT from_) (highT till)) := by
  obtain ⟨W0, hW0⟩ : ∃ W, W = w.alloc (.cells #[.int .i64 P, .slice As ns cs, .slice Ai ni ci, .int .i64 R, .int .i64 X, .int .i64 V, .int .i64 U, .int .i64 D, .slice Az nz cz, .int .i64 Q] 28) := ⟨_, rfl⟩
  have T0 : Hid (Below w.heap.size w W0) := Lib.hid (by rw [hW0]; exact (Below.refl _ _).alloc (Nat.le_refl _) _)
  have E0 := Lib.hid (E.below T0.out)
  have H0 := Lib.hid (h.below T0.out hD)
  have HD : Hid (D0 ≤ W0.heap.size) := Lib.hid (Nat.le_trans hD T0.out.size)
  have Z0 : Hid (Blk W0 w.heap.size 28 #[.int .i64 P, .slice As ns cs, .slice Ai ni ci, .int .i64 R, .int .i64 X, .int .i64 V, .int .i64 U, .int .i64 D, .slice Az nz cz, .int .i64 Q]) := Lib.hid (by rw [hW0]; exact Blk.new _ _ _)
  obtain ⟨lo, hlo⟩ : ∃ z, lowT from_ = z := ⟨_, rfl⟩
  obtain ⟨hh, hhh⟩ : ∃ z, highT till = z := ⟨_, rfl⟩
  have q1 := low_bd from_ hf; have q2 := high_bd till
  rw [hlo] at q1; rw [hhh] at q2
  rw [hlo, hhh]
  have Q1 := Lib.hid q1; have Q2 := Lib.hid q2
  have HN := Lib.hid hn; have HLO := Lib.hid hlo; have HHI := Lib.hid hhh; have HTO := Lib.hid ht; have HLL := Lib.hid hL
  clear h hD E hn hf ht hL hlo hhh q1 q2
  obtain ⟨c0, c1, c2, c3, c4, c5, c6, c7, c8, c9⟩ := Z0.out.ten
  go_enter Tryd.func7, Tryd.ntmps7
  go_wp2_with fail
  rw [← hW0]
  clear hW0
  go_region_held3 (fun w' => (w'.cell? ⟨w.heap.size, 0, none⟩ = some (.int .i64 P) ∧ w'.cell? ⟨w.heap.size, 1, none⟩ = some (.slice As ns cs) ∧ w'.cell? ⟨w.heap.size, 2, none⟩ = some (.slice Ai ni ci) ∧ w'.cell? ⟨w.heap.size, 3, none⟩ = some (.int .i64 R) ∧ w'.cell? ⟨w.heap.size, 4, none⟩ = some (.int .i64 X) ∧ w'.cell? ⟨w.heap.size, 5, none⟩ = some (.int .i64 V) ∧ w'.cell? ⟨w.heap.size, 6, none⟩ = some (.int .i64 U) ∧ w'.cell? ⟨w.heap.size, 7, none⟩ = some (.int .i64 D) ∧ w'.cell? ⟨w.heap.size, 8, none⟩ = some (.slice Az nz cz) ∧ w'.cell? ⟨w.heap.size, 9, none⟩ = some (.int .i64 Q))) (first | exact ⟨c0, c1, c2, c3, c4, c5, c6, c7, c8, c9⟩ | exact hcC | exact hcB | exact hcA | go_keep) (first
    | (go_at_call 23; refine (ibetween W0.drew from_ till lo hh HTO.out HLO.out HHI.out).mono ?_; rintro e wA ⟨rfl, bA⟩; have HBA : Hid (Below W0.heap.size W0 wA) := Lib.hid ((Below.refl _ _).drew.trans bA); have hcA := (Z0.out.below HBA.out Z0.out.lt).ten; clear bA)
    | (go_at_call 22; refine (ilight wA P R X V U D Q ns ni nz ls li lz As cs Ai ci Az cz D0 (H0.out.below HBA.out HD.out) (Nat.le_trans HD.out HBA.out.size) hs hi nA tW (E0.out.below HBA.out) node HN.out lo hh Q1.out.1 Q1.out.2 Q2.out.2 (by have := Q2.out.1; omega) L HLL.out).mono ?_; rintro e wB ⟨rs, Ab, cb, rfl, oB, bB, inv, hle⟩; have HBB : Hid (Below W0.heap.size W0 wB) := Lib.hid (HBA.out.trans (bB.mono HBA.out.size)); have hcB := (Z0.out.below HBB.out Z0.out.lt).ten; have OB := Lib.hid oB.sl; have HINV := Lib.hid (And.intro inv hle); clear bB oB inv hle)
    | (go_at_call 24; refine (ilspans wB lo 0 rs Ab cb wB.heap.size OB.out (Nat.le_refl _) Q1.out.1 Q1.out.2 (HINV.out.1.few Q1.out.1 Q2.out.2).2 (HINV.out.1.few Q1.out.1 Q2.out.2).1).mono ?_; rintro e wC ⟨Ac, nc, cc, rfl, oC, bC⟩; have HBC : Hid (Below W0.heap.size W0 wC) := Lib.hid (HBB.out.trans (bC.mono HBB.out.size)); have hcC := (Z0.out.below HBC.out Z0.out.lt).ten; have OC := Lib.hid (oC.fewer (B' := w.heap.size) (Nat.le_trans T0.out.size HBB.out.size)); clear bC oC))
  have HG : Hid (GivesL w L true lo hh (.returned (.slice Ac nc cc)) wC) := Lib.hid ⟨_, _, _, _, rfl, OC.out, T0.out.trans (HBC.out.mono T0.out.size), HINV.out.1.has HINV.out.2 Q1.out.1 Q2.out.2 0 true (.inl ⟨rfl, rfl⟩)⟩
  go_wp2
  go_ret
  exact HG.out
set_option maxRecDepth 100000 in
theorem idarkspans (w : World) (P R X V U D Q : Int) (ns ni nz : Nat) (ls : List Sat4) (li lz : List Tri) (As : Option Addr) (cs : Nat) (Ai : Option Addr) (ci : Nat) (Az : Option Addr) (cz : Nat) (D0 : Nat) (h : InSky w (D0) As ns cs Ai ni ci Az nz cz ls li lz) (hD : D0 ≤ w.heap.size) (hs : ns ≤ 16777216) (hi : ni ≤ 16777216) (nA tW : Addr) (E : Errs w nA tW) (node : Int) (hn : J64 node) (from_ till : Int) (hf : J64 from_) (ht : J64 till) (L : Int → Bool) (hL : ∀ t, litAt U D ls li node t = L t) :
    Calls Tryd.prog 8 #[.agg #[.int .i64 P, .slice As ns cs, .slice Ai ni ci, .int .i64 R, .int .i64 X, .int .i64 V, .int .i64 U, .int .i64 D, .slice Az nz cz, .int .i64 Q], .int .i64 node, .int .i64 from_, .int .i64 till] w (GivesL w L false (lowT from_) (highT till)) := by
  obtain ⟨W0, hW0⟩ : ∃ W, W = w.alloc (.cells #[.int .i64 P, .slice As ns cs, .slice Ai ni ci, .int .i64 R, .int .i64 X, .int .i64 V, .int .i64 U, .int .i64 D, .slice Az nz cz, .int .i64 Q] 28) := ⟨_, rfl⟩
  have T0 : Hid (Below w.heap.size w W0) := Lib.hid (by rw [hW0]; exact (Below.refl _ _).alloc (Nat.le_refl _) _)
  have E0 := Lib.hid (E.below T0.out)
  have H0 := Lib.hid (h.below T0.out hD)
  have HD : Hid (D0 ≤ W0.heap.size) := Lib.hid (Nat.le_trans hD T0.out.size)
  have Z0 : Hid (Blk W0 w.heap.size 28 #[.int .i64 P, .slice As ns cs, .slice Ai ni ci, .int .i64 R, .int .i64 X, .int .i64 V, .int .i64 U, .int .i64 D, .slice Az nz cz, .int .i64 Q]) := Lib.hid (by rw [hW0]; exact Blk.new _ _ _)
  obtain ⟨lo, hlo⟩ : ∃ z, lowT from_ = z := ⟨_, rfl⟩
  obtain ⟨hh, hhh⟩ : ∃ z, highT till = z := ⟨_, rfl⟩
  have q1 := low_bd from_ hf; have q2 := high_bd till
  rw [hlo] at q1; rw [hhh] at q2
  rw [hlo, hhh]
  have Q1 := Lib.hid q1; have Q2 := Lib.hid q2
  have HN := Lib.hid hn; have HLO := Lib.hid hlo; have HHI := Lib.hid hhh; have HTO := Lib.hid ht; have HLL := Lib.hid hL
  clear h hD E hn hf ht hL hlo hhh q1 q2
  obtain ⟨c0, c1, c2, c3, c4, c5, c6, c7, c8, c9⟩ := Z0.out.ten
  go_enter Tryd.func8, Tryd.ntmps8
  go_wp2_with fail
  rw [← hW0]
  clear hW0
  go_region_held3 (fun w' => (w'.cell? ⟨w.heap.size, 0, none⟩ = some (.int .i64 P) ∧ w'.cell? ⟨w.heap.size, 1, none⟩ = some (.slice As ns cs) ∧ w'.cell? ⟨w.heap.size, 2, none⟩ = some (.slice Ai ni ci) ∧ w'.cell? ⟨w.heap.size, 3, none⟩ = some (.int .i64 R) ∧ w'.cell? ⟨w.heap.size, 4, none⟩ = some (.int .i64 X) ∧ w'.cell? ⟨w.heap.size, 5, none⟩ = some (.int .i64 V) ∧ w'.cell? ⟨w.heap.size, 6, none⟩ = some (.int .i64 U) ∧ w'.cell? ⟨w.heap.size, 7, none⟩ = some (.int .i64 D) ∧ w'.cell? ⟨w.heap.size, 8, none⟩ = some (.slice Az nz cz) ∧ w'.cell? ⟨w.heap.size, 9, none⟩ = some (.int .i64 Q))) (first | exact ⟨c0, c1, c2, c3, c4, c5, c6, c7, c8, c9⟩ | exact hcC | exact hcB | exact hcA | go_keep) (first
    | (go_at_call 23; refine (ibetween W0.drew from_ till lo hh HTO.out HLO.out HHI.out).mono ?_; rintro e wA ⟨rfl, bA⟩; have HBA : Hid (Below W0.heap.size W0 wA) := Lib.hid ((Below.refl _ _).drew.trans bA); have hcA := (Z0.out.below HBA.out Z0.out.lt).ten; clear bA)
    | (go_at_call 22; refine (ilight wA P R X V U D Q ns ni nz ls li lz As cs Ai ci Az cz D0 (H0.out.below HBA.out HD.out) (Nat.le_trans HD.out HBA.out.size) hs hi nA tW (E0.out.below HBA.out) node HN.out lo hh Q1.out.1 Q1.out.2 Q2.out.2 (by have := Q2.out.1; omega) L HLL.out).mono ?_; rintro e wB ⟨rs, Ab, cb, rfl, oB, bB, inv, hle⟩; have HBB : Hid (Below W0.heap.size W0 wB) := Lib.hid (HBA.out.trans (bB.mono HBA.out.size)); have hcB := (Z0.out.below HBB.out Z0.out.lt).ten; have OB := Lib.hid oB.sl; have HINV := Lib.hid (And.intro inv hle); clear bB oB inv hle)
    | (go_at_call 24; refine (ilspans wB lo 1 rs Ab cb wB.heap.size OB.out (Nat.le_refl _) Q1.out.1 Q1.out.2 (HINV.out.1.few Q1.out.1 Q2.out.2).2 (HINV.out.1.few Q1.out.1 Q2.out.2).1).mono ?_; rintro e wC ⟨Ac, nc, cc, rfl, oC, bC⟩; have HBC : Hid (Below W0.heap.size W0 wC) := Lib.hid (HBB.out.trans (bC.mono HBB.out.size)); have hcC := (Z0.out.below HBC.out Z0.out.lt).ten; have OC := Lib.hid (oC.fewer (B' := w.heap.size) (Nat.le_trans T0.out.size HBB.out.size)); clear bC oC))
  have HG : Hid (GivesL w L false lo hh (.returned (.slice Ac nc cc)) wC) := Lib.hid ⟨_, _, _, _, rfl, OC.out, T0.out.trans (HBC.out.mono T0.out.size), HINV.out.1.has HINV.out.2 Q1.out.1 Q2.out.2 1 false (.inr ⟨rfl, rfl⟩)⟩
  go_wp2
  go_ret
  exact HG.out
set_option maxRecDepth 100000 in
theorem ilongdark (w : World) (P R X V U D Q : Int) (ns ni nz : Nat) (ls : List Sat4) (li lz : List Tri) (As : Option Addr) (cs : Nat) (Ai : Option Addr) (ci : Nat) (Az : Option Addr) (cz : Nat) (D0 : Nat) (h : InSky w (D0) As ns cs Ai ni ci Az nz cz ls li lz) (hD : D0 ≤ w.heap.size) (hs : ns ≤ 16777216) (hi : ni ≤ 16777216) (nA tW : Addr) (E : Errs w nA tW) (node : Int) (hn : J64 node) (from_ till : Int) (hf : J64 from_) (ht : J64 till) (L : Int → Bool) (hL : ∀ t, litAt U D ls li node t = L t) :
    Calls Tryd.prog 15 #[.agg #[.int .i64 P, .slice As ns cs, .slice Ai ni ci, .int .i64 R, .int .i64 X, .int .i64 V, .int .i64 U, .int .i64 D, .slice Az nz cz, .int .i64 Q], .int .i64 node, .int .i64 from_, .int .i64 till] w fun e w' => ∃ m : Nat, e = .returned (.int .i64 (m : Int)) ∧ DarkRun L (lowT from_) (highT till) m ∧ Below w.heap.size w w' := by
  obtain ⟨W0, hW0⟩ : ∃ W, W = w.alloc (.cells #[.int .i64 P, .slice As ns cs, .slice Ai ni ci, .int .i64 R, .int .i64 X, .int .i64 V, .int .i64 U, .int .i64 D, .slice Az nz cz, .int .i64 Q] 28) := ⟨_, rfl⟩
  have T0 : Hid (Below w.heap.size w W0) := Lib.hid (by rw [hW0]; exact (Below.refl _ _).alloc (Nat.le_refl _) _)
  have E0 := Lib.hid (E.below T0.out)
  have H0 := Lib.hid (h.below T0.out hD)
  have HD : Hid (D0 ≤ W0.heap.size) := Lib.hid (Nat.le_trans hD T0.out.size)
  have Z0 : Hid (Blk W0 w.heap.size 28 #[.int .i64 P, .slice As ns cs, .slice Ai ni ci, .int .i64 R, .int .i64 X, .int .i64 V, .int .i64 U, .int .i64 D, .slice Az nz cz, .int .i64 Q]) := Lib.hid (by rw [hW0]; exact Blk.new _ _ _)
  obtain ⟨lo, hlo⟩ : ∃ z, lowT from_ = z := ⟨_, rfl⟩
  obtain ⟨hh, hhh⟩ : ∃ z, highT till = z := ⟨_, rfl⟩
  have q1 := low_bd from_ hf; have q2 := high_bd till
  rw [hlo] at q1; rw [hhh] at q2
  rw [hlo, hhh]
  have Q1 := Lib.hid q1; have Q2 := Lib.hid q2
  have HN := Lib.hid hn; have HLO := Lib.hid hlo; have HHI := Lib.hid hhh; have HTO := Lib.hid ht; have HLL := Lib.hid hL
  clear h hD E hn hf ht hL hlo hhh q1 q2
  obtain ⟨c0, c1, c2, c3, c4, c5, c6, c7, c8, c9⟩ := Z0.out.ten
  go_enter Tryd.func15, Tryd.ntmps15
  go_wp2_with fail
  rw [← hW0]
  clear hW0
  go_region_held3 (fun w' => (w'.cell? ⟨w.heap.size, 0, none⟩ = some (.int .i64 P) ∧ w'.cell? ⟨w.heap.size, 1, none⟩ = some (.slice As ns cs) ∧ w'.cell? ⟨w.heap.size, 2, none⟩ = some (.slice Ai ni ci) ∧ w'.cell? ⟨w.heap.size, 3, none⟩ = some (.int .i64 R) ∧ w'.cell? ⟨w.heap.size, 4, none⟩ = some (.int .i64 X) ∧ w'.cell? ⟨w.heap.size, 5, none⟩ = some (.int .i64 V) ∧ w'.cell? ⟨w.heap.size, 6, none⟩ = some (.int .i64 U) ∧ w'.cell? ⟨w.heap.size, 7, none⟩ = some (.int .i64 D) ∧ w'.cell? ⟨w.heap.size, 8, none⟩ = some (.slice Az nz cz) ∧ w'.cell? ⟨w.heap.size, 9, none⟩ = some (.int .i64 Q))) (first | exact ⟨c0, c1, c2, c3, c4, c5, c6, c7, c8, c9⟩ | exact hcC | exact hcB | exact hcA | go_keep) (first
    | (go_at_call 23; refine (ibetween W0.drew from_ till lo hh HTO.out HLO.out HHI.out).mono ?_; rintro e wA ⟨rfl, bA⟩; have HBA : Hid (Below W0.heap.size W0 wA) := Lib.hid ((Below.refl _ _).drew.trans bA); have hcA := (Z0.out.below HBA.out Z0.out.lt).ten; clear bA)
    | (go_at_call 22; refine (ilight wA P R X V U D Q ns ni nz ls li lz As cs Ai ci Az cz D0 (H0.out.below HBA.out HD.out) (Nat.le_trans HD.out HBA.out.size) hs hi nA tW (E0.out.below HBA.out) node HN.out lo hh Q1.out.1 Q1.out.2 Q2.out.2 (by have := Q2.out.1; omega) L HLL.out).mono ?_; rintro e wB ⟨rs, Ab, cb, rfl, oB, bB, inv, hle⟩; have HBB : Hid (Below W0.heap.size W0 wB) := Lib.hid (HBA.out.trans (bB.mono HBA.out.size)); have hcB := (Z0.out.below HBB.out Z0.out.lt).ten; have OB := Lib.hid oB.sl; have HINV := Lib.hid (And.intro inv hle); clear bB oB inv hle)
    | (go_at_call 33; refine (ilongest wB L lo rs Ab cb wB.heap.size OB.out (Nat.le_refl _) (HINV.out.1.few Q1.out.1 Q2.out.2).1 HINV.out.1.runs).mono ?_; rintro e wC ⟨m, rfl, hm, bC⟩; have HBC : Hid (Below W0.heap.size W0 wC) := Lib.hid (HBB.out.trans (bC.mono HBB.out.size)); have hcC := (Z0.out.below HBC.out Z0.out.lt).ten; have HM := Lib.hid (HINV.out.1.dark hm); clear bC hm))
  have HF := Lib.hid (T0.out.trans (HBC.out.mono T0.out.size))
  go_wp2
  go_ret
  exact ⟨m, rfl, HM.out, HF.out⟩
end Go.Proofs.YtpaedbmdcbmpiaaDoor
