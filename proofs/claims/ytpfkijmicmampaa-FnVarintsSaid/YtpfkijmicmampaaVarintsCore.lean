/- The walk of law FnVarints, for a code that is read. -/
import Derived.Test.YtpfkijmicmampaaDrawBytes
import Derived.Test.YtpfkijmicmampaaDecode2
import Derived.Test.YtpfkijmicmampaaBig
import Derived.Deep.DeepCutAuto
import Derived.Deep.RegionHeld3
namespace Go.Proofs.Ytpfkijmicmampaa
open Go.ChangeShapes Go.WideShapes Go.ChangeAt Go.RowKit
set_option linter.unusedVariables false
theorem rdAt_uv (l r : List Nat) (n : Nat) (hn : n ≤ 1000000000000) : rdAt (l ++ uv n ++ r) l.length = ((n : Int), ((l.length + (uv n).length : Nat) : Int), true) := by
  have hg : grp (l ++ uv n ++ r) l.length = uv n := by
    unfold grp
    rw [if_pos ⟨by omega, by simp only [List.length_append]; omega⟩, Int.toNat_natCast, List.append_assoc, List.drop_left, rdG_uv 5 n r (by omega)]
    rfl
  have hp := padded_uv n
  have hv := val_uv n
  rw [rdAt_some _ _ (by rw [hg]; exact uv_ne n) (by rw [hg]; exact hp) (by rw [hg, hv]; exact hn), hg, hv]
  simp
theorem rdAt_end (l : List Nat) : rdAt l l.length = (0, 0, false) := by
  refine rdAt_none l _ (.inl ?_)
  unfold grp
  rw [if_pos ⟨by omega, by omega⟩, Int.toNat_natCast, List.drop_length]
  rfl
theorem Sl.void (w : World) (D : Nat) (a : Addr) : Sl w D 1 (some a) 0 0 (bv []) := ⟨by simp [bv], fun h => by simp [bv] at h, Nat.le_refl _, by omega, fun h => by cases h⟩
theorem Sl.drew {w : World} {D s n c : Nat} {A : Option Addr} {xs : List Value} (h : Sl w D s A n c xs) : Sl w.drew D s A n c xs := ⟨h.len, h.rd, h.cap, h.capm, h.nil⟩
set_option maxHeartbeats 1600000 in
set_option maxRecDepth 100000 in
theorem coreV (w : World) (A : Option Addr) (cap : Nat) (xs : List Value) (hB : Bytes xs) (hbig : xs.length ≤ 1048576) (hcap : xs.length ≤ cap) (hm0 : cap ≤ 9223372036854775807) (r0 : Reads w w.heap.size A xs) :
    Calls Try.prog 3 #[.slice A xs.length cap] w fun e w' => e = .returned (.bool true) ∧ Below w.heap.size w w' := by
  go_enter Try.func3, Try.ntmps3
  go_wp2_with fail
  refine (big_no _ _ _ _ hbig hm0 hcap).mono ?_
  rintro e w1 ⟨rfl, rfl⟩
  go_wp2_with fail
  refine (drawAppendUvarint _ _ _ _ hB hbig r0).mono ?_
  rintro e w1 ⟨⟨Ab, m, cb, bs, z, rfl, hm, hbs, hz, ob⟩, b1⟩
  have HBS := Lib.hid hbs; have HZ := Lib.hid hz; have OB := Lib.hid ob; have TB := Lib.hid b1
  have cb2 := ob.capm; have Lb := Lib.hid ob.len
  clear hbs hz ob b1
  go_wp2_with fail
  refine (iappend _ _ Ab m cb bs OB.out.sl (Nat.le_refl _) (by omega) z HZ.out.1 HZ.out.2).mono ?_
  rintro e w2 ⟨⟨Ax, nx, cx, rfl, ox⟩, b⟩
  have cx2 := ox.capm; have Lx := Lib.hid ox.len
  have OX := Lib.hid ox
  replace OB := Lib.hid (OB.out.on b); replace TB := Lib.hid (TB.out.trans (b.mono TB.out.size))
  clear ox b
  have hnx : nx = m + (enc1 z).length := by
    have h1 := Lx.out; have h2 := Lb.out
    rw [bv_len] at h2
    rw [bv_len, List.length_append] at h1
    omega
  have he6 := enc1_len z
  have Hnx := Lib.hid hnx
  have hnx2 : nx ≤ 1006 := by omega
  clear hnx
  have HXB : Hid (∀ b ∈ bs ++ enc1 z, b < 256) := Lib.hid (by
    intro b hb
    rcases List.mem_append.1 hb with hb | hb
    · exact HBS.out b hb
    · exact enc1_byte _ b hb)
  go_wp2_with fail
  refine (iread _ _ Ax nx cx _ OX.out.sl (Nat.le_refl _) (by omega) HXB.out m (by omega) (by omega)).mono ?_
  rintro e w3 ⟨h, b⟩
  have hmb : m = bs.length := by have h2 := Lb.out; rw [bv_len] at h2; omega
  obtain ⟨v, nn, ok, hr, rfl⟩ := h
  have HW : Hid (((0 ≤ z ∧ z ≤ 1000000000000) → v = z ∧ nn = nx ∧ ok = true) ∧ (¬ (0 ≤ z ∧ z ≤ 1000000000000) → ok = false ∧ bs ++ enc1 z = bs)) := by
    refine Lib.hid ⟨fun h => ?_, fun h => ?_⟩
    · obtain ⟨z0, rfl⟩ := Int.eq_ofNat_of_zero_le h.1
      have h1 := rdAt_uv bs [] z0 (by omega)
      have h3 := Hnx.out
      rw [enc1_in _ h.1 h.2, Int.toNat_natCast] at hr h3
      rw [List.append_nil, ← hmb, ← h3] at h1
      have h2 := h1.symm.trans hr
      injection h2 with q1 q2; injection q2 with q2 q3
      exact ⟨q1.symm, q2.symm, q3.symm⟩
    · rw [enc1_out _ h, List.append_nil] at hr ⊢
      rw [hmb, rdAt_end] at hr
      injection hr with q1 q2; injection q2 with q2 q3
      exact ⟨q3.symm, rfl⟩
  replace OB := Lib.hid (OB.out.on b); replace OX := Lib.hid (OX.out.on b); replace TB := Lib.hid (TB.out.trans (b.mono TB.out.size))
  clear b hr hmb
  go_upto_region 6 with fail
  go_cut [40] from 35 to 40 (fun c wx => c = .bool (!decide (0 ≤ z ∧ z ≤ 1000000000000)) ∧ wx = w3)
  case first =>
    by_cases hz0 : z < 0
    · go_wp2_with fail
      go_meet
      exact ⟨by congr 1; simp; omega, rfl⟩
    · by_cases hz1 : 1000000000000 < z
      · go_wp2_with fail
        go_meet
        exact ⟨by congr 1; simp; omega, rfl⟩
      · go_wp2_with fail
        go_meet
        exact ⟨by congr 1; simp; omega, rfl⟩
  case rest =>
  obtain ⟨rfl, rfl⟩ := hcut
  obtain ⟨B, hBz⟩ : ∃ B, B = decide (0 ≤ z ∧ z ≤ 1000000000000) := ⟨_, rfl⟩
  rw [← hBz]
  have HBZ := Lib.hid hBz; clear hBz
  go_upto_if 40 with fail
  go_cut [47] from 41 to 61 (fun c wx => Below w.heap.size w wx)
  case first =>
    cases B
    · have hin : ¬ (0 ≤ z ∧ z ≤ 1000000000000) := fun h => by have := HBZ.out; rw [decide_eq_true h] at this; cases this
      obtain ⟨rfl, he⟩ := HW.out.2 hin
      have OX2 := OX
      rw [he] at OX2
      have KD := Lib.hid (bv_kind bs HBS.out)
      clear he HW hin
      go_wp2_with fail
      refine (samebytes _ _ _ Ax Ab nx m cx cb _ OX2.out.sl OB.out.sl KD.out).mono ?_
      rintro e w4 ⟨rfl, b⟩
      have TB4 := Lib.hid (TB.out.trans (b.mono TB.out.size))
      clear b
      go_wp2_with fail
      go_meet
      exact TB4.out
    · have hin : 0 ≤ z ∧ z ≤ 1000000000000 := of_decide_eq_true HBZ.out.symm
      obtain ⟨rfl, rfl, rfl⟩ := HW.out.1 hin
      clear HW hin
      go_wp2_with fail
      go_meet
      exact TB.out
  case rest =>
    clear HW HBZ OX OB HXB HBS HZ Lb Lx Hnx TB
    have TB := Lib.hid hcut; clear hcut
    go_wp2_with fail
    refine (drawReadUvarint _ _ _ _ hB hbig ((r0.below TB.out (Nat.le_refl _)).more TB.out.size)).mono ?_
    rintro e w4 ⟨⟨Ay, ny, cy, ys, z2, rfl, hny, hys, hz2, oy⟩, b⟩
    have HYS := Lib.hid hys; have OY := Lib.hid oy
    have cy2 := oy.capm; have Ly := Lib.hid oy.len
    replace TB := Lib.hid (TB.out.trans (b.mono TB.out.size))
    clear hys oy b
    go_wp2_with fail
    refine (iread _ _ Ay ny cy _ OY.out.sl (Nat.le_refl _) (by omega) HYS.out z2 (by omega) (by omega)).mono ?_
    rintro e w5 ⟨⟨v2, nn2, ok2, hr, rfl⟩, b⟩
    replace OY := Lib.hid (OY.out.on b); replace TB := Lib.hid (TB.out.trans (b.mono TB.out.size))
    clear b
    have HR := Lib.hid hr
    rcases rdAt_cases ys z2 HYS.out hr with ⟨rfl, rfl, rfl⟩ | ⟨rfl, o, n', k, rfl, rfl, rfl, hk1, hk2, hk3, hn', hu⟩
    · clear hr
      go_wp2_with fail
      refine (sread _ _ Ay ny cy _ OY.out.sl (by omega) HYS.out z2 (by omega) (by omega)).mono ?_
      rintro e w6 ⟨h, rfl⟩
      obtain rfl := h.eq HR.out
      go_wp2_with fail
      go_ret
      exact ⟨rfl, TB.out⟩
    · clear hr HR
      have hyl : ys.length = ny := by have h2 := Ly.out; rw [bv_len] at h2; omega
      have hon : o + k ≤ ny := by omega
      have HU := Lib.hid hu; have Hyl := Lib.hid hyl
      clear hu hyl
      obtain ⟨ad, hx, rfl, had, -⟩ := OY.out.sl.at_ (show o < ny by omega)
      have hc1 : o < cy := by omega
      go_wp2_with fail
      have KD : Hid (Kind .u8 (bv ([] ++ enc1 (n' : Int)))) := Lib.hid (bv_kind _ (by rw [List.nil_append]; exact enc1_byte _))
      have HS : Hid (Sl (w5.alloc (.cells #[] 5)).drew w5.heap.size 1 (some (ad.add o)) (o + k - o) (cy - o) (bv ([] ++ enc1 (n' : Int)))) := by
        have h1 := OY.out.sl.sub o k (cy - o) (by omega) (by omega) (by omega)
        rw [← HU.out] at h1
        rw [List.nil_append, enc1_in _ (by omega) (by omega), Int.toNat_natCast, Nat.add_sub_cancel_left]
        exact Lib.hid ((h1.below ((Below.refl w5.heap.size w5).alloc (Nat.le_refl _) _) (Nat.le_refl _)).drew)
      have TB5 : Hid (Below w.heap.size w (w5.alloc (.cells #[] 5)).drew) := Lib.hid ((TB.out.alloc TB.out.size _).drew)
      have hsz := TB.out.size
      have f1 : (0 : Int) ≤ (o : Int) := by omega
      have f2 : (o : Int) ≤ (o : Int) + (k : Int) := by omega
      have f3 : (o : Int) + (k : Int) ≤ (ny : Int) := by omega
      have f4 : (o : Int) + (k : Int) ≤ (cy : Int) := by omega
      have f5 : decide ((0 : Int) ≤ (o : Int)) = true := by simp
      have f6 : decide ((o : Int) + (k : Int) ≤ (ny : Int)) = true := by simp; omega
      have f7 : decide ((o : Int) < (o : Int) + (k : Int)) = true := by simp; omega
      have f8 : ¬ cy = o := by omega
      have f9 : ((cy : Int) == (o : Int)) = false := by rw [beq_eq_false_iff_ne]; omega
      have f10 : o ≤ o + k := by omega
      have f11 : o + k ≤ cy := by omega
      clear HU Hyl OY TB HYS Ly
      go_region_held3 (fun _ => True) (trivial) (first
        | (go_at_call 15; refine (iappend _ 0 _ 0 0 [] (Sl.void _ _ _) (Nat.zero_le _) (by omega) (n' : Int) (by omega) (by omega)).mono ?_; rintro e wA ⟨⟨A2, n2, c2, rfl, o2⟩, b2⟩; have O2 := Lib.hid o2.sl; have HS2 := Lib.hid (HS.out.below b2 (by simp)); have TB6 := Lib.hid (TB5.out.trans (b2.mono (by simp; omega))); have hsz6 := TB6.out.size; clear o2 b2)
        | (go_at_call 17; refine (samebytes _ _ _ _ _ _ _ _ _ _ O2.out HS2.out KD.out).mono ?_; rintro e wB ⟨rfl, b3⟩; have TB7 := Lib.hid (TB6.out.trans (b3.mono hsz6)); clear b3))
      go_wp2
      go_ret
      exact ⟨rfl, TB7.out⟩
end Go.Proofs.Ytpfkijmicmampaa
