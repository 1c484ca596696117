/- The walk of law FnByteStrings, for a code that is read. -/
import Derived.Test.YtpfkijmicmampaaDrawBytes
import Derived.Test.YtpfkijmicmampaaDecode4
import Derived.Test.YtpfkijmicmampaaBig
namespace Go.Proofs.Ytpfkijmicmampaa
open Go.ChangeShapes Go.WideShapes Go.ChangeAt Go.RowKit
set_option linter.unusedVariables false
theorem rdAt_uv' (l r : List Nat) (n : Nat) (hn : n ≤ 1000000000000) : rdAt (l ++ uv n ++ r) l.length = ((n : Int), ((l.length + (uv n).length : Nat) : Int), true) := by
  have hg : grp (l ++ uv n ++ r) l.length = uv n := by
    unfold grp
    rw [if_pos ⟨by omega, by simp only [List.length_append]; omega⟩, Int.toNat_natCast, List.append_assoc, List.drop_left, rdG_uv 5 n r (by omega)]
    rfl
  have hp := padded_uv n
  have hv := val_uv n
  rw [rdAt_some _ _ (by rw [hg]; exact uv_ne n) (by rw [hg]; exact hp) (by rw [hg, hv]; exact hn), hg, hv]
  simp
theorem rdAt_end' (l : List Nat) : rdAt l l.length = (0, 0, false) := by
  refine rdAt_none l _ (.inl ?_)
  unfold grp
  rw [if_pos ⟨by omega, by omega⟩, Int.toNat_natCast, List.drop_length]
  rfl
theorem rbAt_enc (l d : List Nat) (hd : d.length ≤ 1000) : rbAt (l ++ enc1 d.length ++ d) l.length d.length = (d, ((l ++ enc1 d.length ++ d).length : Int), true) := by
  have he : enc1 (d.length : Int) = uv d.length := by rw [enc1_in _ (by omega) (by omega), Int.toNat_natCast]
  rw [he]
  have hr := rdAt_uv' l d d.length (by omega)
  rw [rbAt_yes _ _ _ d.length (l.length + (uv d.length).length) hr (by omega) (by simp only [List.length_append]; omega)]
  have e1 : (l ++ uv d.length ++ d).drop (l.length + (uv d.length).length) = d := by
    rw [← List.length_append, List.drop_left]
  rw [e1, List.take_length]
  simp only [List.length_append]
theorem rbAt_short (l d : List Nat) (hd : d.length ≤ 1000) : rbAt (l ++ enc1 d.length ++ d) l.length ((d.length : Int) - 1) = ([], 0, false) := by
  have he : enc1 (d.length : Int) = uv d.length := by rw [enc1_in _ (by omega) (by omega), Int.toNat_natCast]
  rw [he]
  exact rbAt_no _ _ _ _ _ _ (rdAt_uv' l d d.length (by omega)) (by omega)
theorem encs_cons (z : Int) (l : List Int) : encs (z :: l) = enc1 z ++ encs l := by simp [encs]
theorem dec_encs (l : List Int) (hl : ∀ z ∈ l, 0 ≤ z ∧ z ≤ 1000000000000) (p r : List Nat) : dec (p ++ encs l ++ r) l.length p.length = some (l, ((p.length + (encs l).length : Nat) : Int)) := by
  induction l generalizing p with
  | nil => simp [dec, encs]
  | cons z l ih =>
    obtain ⟨z0, hz⟩ := Int.eq_ofNat_of_zero_le (hl z (by simp)).1
    subst hz
    have hz1 := (hl (z0 : Int) (by simp)).2
    have e : p ++ encs ((z0 : Int) :: l) ++ r = (p ++ uv z0) ++ encs l ++ r := by
      rw [encs_cons, enc1_in _ (by omega) hz1, Int.toNat_natCast]; simp
    have hr := rdAt_uv' p (encs l ++ r) z0 (by omega)
    rw [← List.append_assoc] at hr
    have hi := ih (fun z hz => hl z (by simp [hz])) (p ++ uv z0)
    rw [List.length_append] at hi
    rw [e, List.length_cons, dec, hr]
    simp only [if_true]
    rw [hi, encs_cons, enc1_in _ (by omega) hz1, Int.toNat_natCast]
    simp [Nat.add_assoc]
theorem dec_more (l : List Int) (hl : ∀ z ∈ l, 0 ≤ z ∧ z ≤ 1000000000000) (p : List Nat) : dec (p ++ encs l) (l.length + 1) p.length = none := by
  induction l generalizing p with
  | nil =>
    have e : p ++ encs [] = p := by simp [encs]
    rw [e, List.length_nil, dec, rdAt_end']
    simp
  | cons z l ih =>
    obtain ⟨z0, hz⟩ := Int.eq_ofNat_of_zero_le (hl z (by simp)).1
    subst hz
    have hz1 := (hl (z0 : Int) (by simp)).2
    have e : p ++ encs ((z0 : Int) :: l) = (p ++ uv z0) ++ encs l := by
      rw [encs_cons, enc1_in _ (by omega) hz1, Int.toNat_natCast]; simp
    have hr := rdAt_uv' p (encs l) z0 (by omega)
    have hi := ih (fun z hz => hl z (by simp [hz])) (p ++ uv z0)
    rw [List.length_append] at hi
    rw [e, List.length_cons, dec, hr]
    simp only [if_true]
    rw [hi]; rfl
theorem diAt_encs (l : List Int) (hl : ∀ z ∈ l, 0 ≤ z ∧ z ≤ 1000000000000) (hn : l.length ≤ 100) : diAt (encs l) 0 l.length = (l, ((encs l).length : Int), true) := by
  have h := dec_encs l hl [] []
  simp only [List.nil_append, List.append_nil, List.length_nil, Nat.zero_add] at h
  exact diAt_some (encs l) 0 (l.length : Int) ⟨by omega, by omega, by omega, by omega⟩ (l, ((encs l).length : Int)) (by rw [Int.toNat_natCast]; exact h)
theorem diAt_more (l : List Int) (hl : ∀ z ∈ l, 0 ≤ z ∧ z ≤ 1000000000000) : diAt (encs l) 0 ((l.length : Int) + 1) = ([], 0, false) := by
  have h := dec_more l hl []
  simp only [List.nil_append, List.length_nil] at h
  exact diAt_none (encs l) 0 ((l.length : Int) + 1) (by rw [show ((l.length : Int) + 1).toNat = l.length + 1 from by omega]; exact h)
set_option maxHeartbeats 1600000 in
set_option maxRecDepth 100000 in
theorem coreBS (w : World) (A : Option Addr) (cap : Nat) (xs : List Value) (lc : List Nat) (hB : Bytes xs) (hbig : xs.length ≤ 1048576) (hcap : xs.length ≤ cap) (hm0 : cap ≤ 9223372036854775807) (r0 : Reads w w.heap.size A xs)
    (s0 : Sl w w.heap.size 1 A xs.length cap (bv lc)) (hlc : ∀ b ∈ lc, b < 256) :
    Calls Try.prog 4 #[.slice A xs.length cap] w fun e w' => e = .returned (.bool true) ∧ Below w.heap.size w w' := by
  obtain ⟨i0, hi, hy0, hy1, hy2⟩ := info_parts i64_info
  have S0 := Lib.hid s0; have HLC := Lib.hid hlc
  clear s0 hlc
  go_enter Try.func4, Try.ntmps4
  go_wp2_with fail
  refine (big_no _ _ _ _ hbig hm0 hcap).mono ?_
  rintro e w1 ⟨rfl, rfl⟩
  go_wp2_with fail
  refine (drawAppendBytes _ _ _ _ hB hbig r0).mono ?_
  rintro e w1 ⟨⟨Ab, m1, cb, b1, Ad, m2, cd, b2, rfl, hm1, hm2, hb1, hb2, ob, od⟩, b⟩
  have HB1 := Lib.hid hb1; have HB2 := Lib.hid hb2; have OB := Lib.hid ob; have OD := Lib.hid od; have TB := Lib.hid b
  have cb2 := ob.capm; have cd2 := od.capm
  have Lb : Hid (m1 = b1.length) := Lib.hid (by have := ob.len; rw [bv_len] at this; omega)
  have Ld : Hid (m2 = b2.length) := Lib.hid (by have := od.len; rw [bv_len] at this; omega)
  clear hb1 hb2 ob od b
  go_wp2_with fail
  refine (iappendB _ _ Ab m1 cb b1 OB.out.sl _ Ad m2 cd b2 OD.out.sl (Nat.le_refl _) (Nat.le_refl _) (by omega) (by omega)).mono ?_
  rintro e w2 ⟨⟨Ax, nx, cx, rfl, ox⟩, b⟩
  have cx2 := ox.capm
  have he6 := enc1_len (m2 : Int)
  have Lx : Hid (nx = (b1 ++ enc1 m2 ++ b2).length) := Lib.hid (by have := ox.len; rw [bv_len] at this; omega)
  have hnx : nx ≤ 3000 := by have h1 := Lx.out; have h2 := Lb.out; have h3 := Ld.out; simp only [List.length_append] at h1; omega
  have OX := Lib.hid ox
  replace OD := Lib.hid (OD.out.on b); replace TB := Lib.hid (TB.out.trans (b.mono TB.out.size))
  clear ox b
  have HXB : Hid (∀ b ∈ b1 ++ enc1 m2 ++ b2, b < 256) := Lib.hid (by
    intro b hb
    rcases List.mem_append.1 hb with hb | hb
    · rcases List.mem_append.1 hb with hb | hb
      · exact HB1.out b hb
      · exact enc1_byte _ b hb
    · exact HB2.out b hb)
  have HR1 : Hid (rbAt (b1 ++ enc1 m2 ++ b2) m1 m2 = (b2, (nx : Int), true)) := Lib.hid (by
    have h := rbAt_enc b1 b2 (by rw [← Ld.out]; exact hm2)
    rw [← Ld.out, ← Lx.out, ← Lb.out] at h; exact h)
  have HR2 : Hid (rbAt (b1 ++ enc1 m2 ++ b2) m1 ((m2 : Int) - 1) = ([], 0, false)) := Lib.hid (by
    have h := rbAt_short b1 b2 (by rw [← Ld.out]; exact hm2)
    rw [← Ld.out, ← Lb.out] at h; exact h)
  go_wp2_with fail
  refine (ireadB _ _ Ax nx cx _ OX.out.sl (Nat.le_refl _) (by omega) HXB.out m1 (by omega) (by omega) m2 (by omega) (by omega)).mono ?_
  rintro e w3 h; obtain ⟨⟨Ay, ny, cy, rfl, oy⟩, b⟩ := h.eq HR1.out
  have OY := Lib.hid oy
  replace OX := Lib.hid (OX.out.on b); replace OD := Lib.hid (OD.out.on b); replace TB := Lib.hid (TB.out.trans (b.mono TB.out.size))
  clear oy b
  go_wp2_with fail
  refine (ireadB _ _ Ax nx cx _ OX.out.sl (Nat.le_refl _) (by omega) HXB.out m1 (by omega) (by omega) ((m2 : Int) - 1) (by omega) (by omega)).mono ?_
  rintro e w4 h; obtain ⟨⟨Az, nz, cz, rfl, oz⟩, b⟩ := h.eq HR2.out
  replace OY := Lib.hid (OY.out.on b); replace OD := Lib.hid (OD.out.on b); replace TB := Lib.hid (TB.out.trans (b.mono TB.out.size))
  clear oz b OX
  have KD := Lib.hid (bv_kind b2 HB2.out)
  go_wp2_with fail
  refine (samebytes _ _ _ Ay Ad ny m2 cy cd _ OY.out.sl OD.out.sl KD.out).mono ?_
  rintro e w5 ⟨rfl, b⟩
  replace TB := Lib.hid (TB.out.trans (b.mono TB.out.size))
  clear b OY OD KD HR1 HR2 HXB Lx Lb Ld HB1 HB2
  have O0 := Lib.hid (Own.lit w5 w.heap.size 3 #[] 0 TB.out.size (by omega) rfl)
  have TB0 := Lib.hid (TB.out.alloc TB.out.size (.cells #[] 3))
  go_wp2_with fail
  go_loopw [12, 13] (fun v i wr => ∃ (k : Nat) (A1 : Option Addr) (c1 : Nat) (ls : List Int), k ≤ 6 ∧ i = .int .i64 k ∧ v = .slice A1 k c1 ∧ (∀ z ∈ ls, 0 ≤ z ∧ z ≤ 1000000000000) ∧ Own wr w.heap.size 3 1 A1 k c1 (iv ls) ∧ Below w.heap.size w wr) (fun _ i _ => 7 - (intOf i).toNat)
  case atStart => exact ⟨0, _, _, [], by omega, rfl, rfl, by simp, O0.out, TB0.out⟩
  case round =>
    clear O0 TB0 TB
    obtain ⟨k, A1, c1, ls, hk, rfl, rfl, hls, ol, b⟩ := hrel
    have HLS := Lib.hid hls; have OL := Lib.hid ol; have TB := Lib.hid b
    have cl2 := ol.capm; have hsz := b.size
    clear hls ol b
    go_wp2_with fail
    refine (at_any _ _ A xs.length cap lc (S0.out.below TB.out (Nat.le_refl _)) hbig HLC.out 0 (by omega) (by omega)).mono ?_
    rintro e w6 ⟨⟨x, hx, rfl⟩, rfl⟩
    by_cases hlt : (k : Int) < (x : Int) % 6
    · have hk5 : k < 5 := by omega
      go_wp2_with fail
      refine (at_any _ _ A xs.length cap lc (S0.out.below TB.out (Nat.le_refl _)) hbig HLC.out _ (by omega) (by omega)).mono ?_
      rintro e w6 ⟨⟨x1, hx1, rfl⟩, rfl⟩
      go_wp2_with fail
      refine (at_any _ _ A xs.length cap lc (S0.out.below TB.out (Nat.le_refl _)) hbig HLC.out _ (by omega) (by omega)).mono ?_
      rintro e w6 ⟨⟨x2, hx2, rfl⟩, rfl⟩
      have hp : x1 * x2 ≤ 255 * 255 := Nat.mul_le_mul (by omega) (by omega)
      have hp0 : 0 ≤ (x1 : Int) * (x2 : Int) := by rw [← Int.natCast_mul]; omega
      have hp1 : (x1 : Int) * (x2 : Int) ≤ 65025 := by rw [← Int.natCast_mul]; omega
      go_wp2_with fail
      refine (at_any _ _ A xs.length cap lc (S0.out.below TB.out (Nat.le_refl _)) hbig HLC.out _ (by omega) (by omega)).mono ?_
      rintro e w6 ⟨⟨x3, hx3, rfl⟩, rfl⟩
      have hq : x1 * x2 * x3 ≤ 65025 * 255 := Nat.mul_le_mul (by omega) (by omega)
      have hq0 : 0 ≤ (x1 : Int) * (x2 : Int) * (x3 : Int) := by rw [← Int.natCast_mul, ← Int.natCast_mul]; omega
      have hq1 : (x1 : Int) * (x2 : Int) * (x3 : Int) ≤ 16581375 := by rw [← Int.natCast_mul, ← Int.natCast_mul]; omega
      have OL1 := Lib.hid (OL.out.on ((Below.refl _ _).alloc (Nat.le_refl _) (.cells #[.int .i64 ((x1 : Int) * (x2 : Int) * (x3 : Int))] 3)))
      have TB1 := Lib.hid (TB.out.alloc TB.out.size (.cells #[.int .i64 ((x1 : Int) * (x2 : Int) * (x3 : Int))] 3))
      go_wp2_with (at_builtin; refine wpList_append_sl _ rfl (.tmp 77) (.tmp 92) 35 rfl w.heap.size 3 i0 _ 1 8 Try.underlying35 hi hy0 hy1 hy2 rfl (by omega) A1 k c1 _ rfl OL1.out _ _ 1 1 [.int .i64 ((x1 : Int) * (x2 : Int) * (x3 : Int))] rfl (Sl.one _ _ _) (by simp [Value.oneCell']) (by omega) (by omega) (by simp; omega) ?_; intro A3 c3 w7 hown3 hg3 hat3)
      have HL3 : Hid (∀ z ∈ ls ++ [(x1 : Int) * (x2 : Int) * (x3 : Int)], 0 ≤ z ∧ z ≤ 1000000000000) := Lib.hid (by
        intro z hz
        rcases List.mem_append.1 hz with hz | hz
        · exact HLS.out z hz
        · rw [List.mem_singleton] at hz; subst hz; omega)
      have HO3 : Hid (Own w7 w.heap.size 3 1 A3 (k + 1) c3 (iv (ls ++ [(x1 : Int) * (x2 : Int) * (x3 : Int)]))) := Lib.hid (by rw [iv_app]; exact hown3)
      have TB3 := Lib.hid (OL1.out.below TB1.out (by simp; omega) hg3)
      clear hown3 hg3 hat3 OL OL1 TB TB1 HLS
      go_wp2
      go_roundw
      case rel => exact ⟨k + 1, A3, c3, _, by omega, by go_num, rfl, HL3.out, HO3.out, TB3.out⟩
      case measure => simp [intOf]; omega
    · have hlt2 : decide ((k : Int) < (x : Int) % 6) = false := decide_eq_false hlt
      have Ll : Hid (k = ls.length) := Lib.hid (by have := OL.out.len; rw [iv_len] at this; omega)
      have HR3 : Hid (∀ z ∈ ls, -9223372036854775808 ≤ z ∧ z ≤ 9223372036854775807) := Lib.hid (fun z hz => by have := HLS.out z hz; omega)
      clear hlt
      go_wp2_with fail
      refine (iencode _ _ A1 k c1 ls OL.out.sl (Nat.le_refl _) (by omega) HR3.out).mono ?_
      rintro e w8 ⟨⟨Ae, ne, ce, rfl, oe⟩, b⟩
      have ce2 := oe.capm
      have Le : Hid (ne = (encs ls).length) := Lib.hid (by have := oe.len; rw [bv_len] at this; omega)
      have hne : ne ≤ 100 := by have h1 := Le.out; have h2 := encs_len ls; have h3 := Ll.out; omega
      have OE := Lib.hid oe
      replace OL := Lib.hid (OL.out.on b); replace TB := Lib.hid (TB.out.trans (b.mono TB.out.size))
      clear oe b
      have HD1 : Hid (diAt (encs ls) 0 k = (ls, (ne : Int), true)) := Lib.hid (by
        have h := diAt_encs ls HLS.out (by rw [← Ll.out]; omega)
        rw [← Ll.out, ← Le.out] at h; exact h)
      have HD2 : Hid (diAt (encs ls) 0 ((k : Int) + 1) = ([], 0, false)) := Lib.hid (by
        have h := diAt_more ls HLS.out
        rw [← Ll.out] at h; exact h)
      have HEB := Lib.hid (encs_byte ls)
      go_wp2_with fail
      refine (idecI _ _ Ae ne ce _ OE.out.sl (Nat.le_refl _) (by omega) HEB.out 0 (by omega) (by omega) k (by omega) (by omega)).mono ?_
      rintro e w9 h; obtain ⟨⟨Am, nm, cm, rfl, om⟩, b⟩ := h.eq HD1.out
      have OM := Lib.hid om
      replace OE := Lib.hid (OE.out.on b); replace OL := Lib.hid (OL.out.on b); replace TB := Lib.hid (TB.out.trans (b.mono TB.out.size))
      clear om b
      go_wp2_with fail
      refine (idecI _ _ Ae ne ce _ OE.out.sl (Nat.le_refl _) (by omega) HEB.out 0 (by omega) (by omega) ((k : Int) + 1) (by omega) (by omega)).mono ?_
      rintro e w10 h; obtain ⟨⟨Aq, nq, cq, rfl, oq⟩, b⟩ := h.eq HD2.out
      replace OM := Lib.hid (OM.out.on b); replace OL := Lib.hid (OL.out.on b); replace TB := Lib.hid (TB.out.trans (b.mono TB.out.size))
      clear oq b OE
      have KD := Lib.hid (iv_kind ls HR3.out)
      go_wp2_with fail
      refine (sameints _ _ _ Am A1 nm k cm c1 _ OM.out.sl OL.out.sl KD.out).mono ?_
      rintro e w11 ⟨rfl, b⟩
      replace TB := Lib.hid (TB.out.trans (b.mono TB.out.size))
      clear b OM OL KD HD1 HD2
      go_wp2
      go_ret
      exact ⟨rfl, TB.out⟩
end Go.Proofs.Ytpfkijmicmampaa
