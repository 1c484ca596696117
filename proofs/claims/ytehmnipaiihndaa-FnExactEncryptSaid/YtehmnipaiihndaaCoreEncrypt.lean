/- The walk of law FnExactEncrypt, its arguments known as lists. -/
import Derived.Test.YtehmnipaiihndaaCipher2
import Derived.Test.YtehmnipaiihndaaCipher3
import Derived.Test.YtehmnipaiihndaaExact
namespace Go.Proofs.Ytehmnipaiihndaa
open Go.ChangeShapes Go.WideShapes Go.ChangeAt Go.RowKit
set_option linter.unusedVariables false
set_option maxHeartbeats 800000 in
set_option maxRecDepth 100000 in
theorem coreEncrypt (w : World) (z0 : Int) (p0 : -9223372036854775808 ≤ z0) (q0 : z0 ≤ 9223372036854775807) (A1 : Option Addr) (n1 c1 : Nat) (l1 : List Nat) (r1 : Sl w w.heap.size 1 A1 n1 c1 (bv l1)) (m1 : n1 ≤ 1048576) (H1 : ∀ b ∈ l1, b < 256) :
    Calls Try.prog 9 #[.int .i64 z0, .slice A1 n1 c1] w fun e w' => e = .returned (.bool true) ∧ Below w.heap.size w w' := by
  have TB := Lib.hid (Below.refl w.heap.size w)
  have cap1 := r1.cap; have capm1 := r1.capm
  replace r1 := Lib.hid r1; replace H1 := Lib.hid H1
  have len1 := Lib.hid (r1.out.len)
  go_enter Try.func9, Try.ntmps9
  go_wp2_with fail
  refine (tobytes _ _ A1 n1 c1 l1 r1.out TB.out.size (by omega) H1.out).mono ?_
  rintro e w1 ⟨⟨At1, ct1, rfl, o⟩, b⟩
  have ot1 := Lib.hid (o.fewer TB.out.size); clear o
  replace r1 := Lib.hid (r1.out.below (b.mono TB.out.size) (Nat.le_refl _))
  replace TB := Lib.hid (TB.out.trans (b.mono TB.out.size))
  clear b
  go_wp2_with fail
  refine (sencr _ _ z0 At1 n1 ct1 l1 ot1.out.sl (Nat.le_refl _) (by omega) H1.out).mono ?_
  rintro e w2 ⟨⟨Aw, nw, cw, rfl, o⟩, b⟩
  have apt1_w := Lib.hid (ot1.out.apart o (Nat.le_refl _)); have apw_t1 := Lib.hid (ot1.out.apart' o (Nat.le_refl _))
  have ow := Lib.hid (o.fewer TB.out.size); clear o
  have sw := ow.out.capm; have ew := Lib.hid ow.out.len
  replace ot1 := Lib.hid (ot1.out.on b)
  replace r1 := Lib.hid (r1.out.below (b.mono TB.out.size) (Nat.le_refl _))
  replace TB := Lib.hid (TB.out.trans (b.mono TB.out.size))
  clear b
  have KD : Hid (Kind .u8 (bv (encb z0 l1))) := Lib.hid (bv_kind _ (by exact encb_byte _ _))
  clear ot1
  go_wp2_with fail
  refine (tobytes _ _ A1 n1 c1 l1 r1.out TB.out.size (by omega) H1.out).mono ?_
  rintro e w3 ⟨⟨Ax1, cx1, rfl, o⟩, b⟩
  have apw_x1 := Lib.hid (ow.out.apart o (Nat.le_refl _)); have apx1_w := Lib.hid (ow.out.apart' o (Nat.le_refl _))
  have ox1 := Lib.hid (o.fewer TB.out.size); clear o
  replace ow := Lib.hid (ow.out.on b)
  replace r1 := Lib.hid (r1.out.below (b.mono TB.out.size) (Nat.le_refl _))
  replace TB := Lib.hid (TB.out.trans (b.mono TB.out.size))
  clear b
  go_wp2_with fail
  refine (iencr _ _ z0 Ax1 n1 cx1 l1 ox1.out.sl (Nat.le_refl _) (by omega) H1.out).mono ?_
  rintro e w4 ⟨⟨Ag, ng, cg, rfl, o⟩, b⟩
  have apw_g := Lib.hid (ow.out.apart o (Nat.le_refl _)); have apg_w := Lib.hid (ow.out.apart' o (Nat.le_refl _))
  have apx1_g := Lib.hid (ox1.out.apart o (Nat.le_refl _)); have apg_x1 := Lib.hid (ox1.out.apart' o (Nat.le_refl _))
  have og := Lib.hid (o.fewer TB.out.size); clear o
  have sg := og.out.capm; have eg := Lib.hid og.out.len
  replace ow := Lib.hid (ow.out.on b)
  replace ox1 := Lib.hid (ox1.out.on b)
  replace r1 := Lib.hid (r1.out.below (b.mono TB.out.size) (Nat.le_refl _))
  replace TB := Lib.hid (TB.out.trans (b.mono TB.out.size))
  clear b
  go_wp2_with fail
  refine (eqbytes _ _ _ Ag Aw ng nw cg cw _ og.out.sl ow.out.sl KD.out).mono ?_
  rintro e w5 ⟨rfl, b⟩
  replace ow := Lib.hid (ow.out.on b)
  replace ox1 := Lib.hid (ox1.out.on b)
  replace og := Lib.hid (og.out.on b)
  replace r1 := Lib.hid (r1.out.below (b.mono TB.out.size) (Nat.le_refl _))
  replace TB := Lib.hid (TB.out.trans (b.mono TB.out.size))
  clear b
  go_wp2_with fail
  refine (tobytes _ _ A1 n1 c1 l1 r1.out TB.out.size (by omega) H1.out).mono ?_
  rintro e w6 ⟨⟨Ay1, cy1, rfl, o⟩, b⟩
  have apw_y1 := Lib.hid (ow.out.apart o (Nat.le_refl _)); have apy1_w := Lib.hid (ow.out.apart' o (Nat.le_refl _))
  have apx1_y1 := Lib.hid (ox1.out.apart o (Nat.le_refl _)); have apy1_x1 := Lib.hid (ox1.out.apart' o (Nat.le_refl _))
  have apg_y1 := Lib.hid (og.out.apart o (Nat.le_refl _)); have apy1_g := Lib.hid (og.out.apart' o (Nat.le_refl _))
  have oy1 := Lib.hid (o.fewer TB.out.size); clear o
  replace ow := Lib.hid (ow.out.on b)
  replace ox1 := Lib.hid (ox1.out.on b)
  replace og := Lib.hid (og.out.on b)
  replace r1 := Lib.hid (r1.out.below (b.mono TB.out.size) (Nat.le_refl _))
  replace TB := Lib.hid (TB.out.trans (b.mono TB.out.size))
  clear b
  go_wp2_with fail
  refine (eqbytes _ _ _ Ax1 Ay1 n1 n1 cx1 cy1 _ ox1.out.sl oy1.out.sl (bv_kind _ H1.out)).mono ?_
  rintro e w7 ⟨rfl, b⟩
  replace ow := Lib.hid (ow.out.on b)
  replace ox1 := Lib.hid (ox1.out.on b)
  replace og := Lib.hid (og.out.on b)
  replace oy1 := Lib.hid (oy1.out.on b)
  replace r1 := Lib.hid (r1.out.below (b.mono TB.out.size) (Nat.le_refl _))
  replace TB := Lib.hid (TB.out.trans (b.mono TB.out.size))
  clear b
  clear oy1
  go_wp2_with fail
  refine (markbytes _ _ Ax1 n1 cx1 _ ox1.out 1 (by omega) (by omega)).mono ?_
  rintro e w8 ⟨rfl, o, g⟩
  have b := ox1.out.below (Below.refl w.heap.size _) TB.out.size g
  replace ow := Lib.hid (ow.out.kept g apw_x1.out)
  replace og := Lib.hid (og.out.kept g apg_x1.out)
  replace ox1 := Lib.hid o; clear o g
  replace r1 := Lib.hid (r1.out.below b (Nat.le_refl _))
  replace TB := Lib.hid (TB.out.trans b); clear b
  go_wp2_with fail
  refine (eqbytes _ _ _ Ag Aw ng nw cg cw _ og.out.sl ow.out.sl KD.out).mono ?_
  rintro e w9 ⟨rfl, b⟩
  replace ow := Lib.hid (ow.out.on b)
  replace ox1 := Lib.hid (ox1.out.on b)
  replace og := Lib.hid (og.out.on b)
  replace r1 := Lib.hid (r1.out.below (b.mono TB.out.size) (Nat.le_refl _))
  replace TB := Lib.hid (TB.out.trans (b.mono TB.out.size))
  clear b
  have sg2 : ng ≤ 100000000 := by
    have h2 : (bv (encb z0 l1)).length ≤ 100000000 := by
      rw [bv_len, encb_len]
      have h3 := len1.out
      rw [bv_len] at h3
      omega
    have h1 := eg.out
    omega
  go_wp2_with fail
  refine (markbytes _ _ Ag ng cg _ og.out 1 (by omega) (by omega)).mono ?_
  rintro e w10 ⟨rfl, o, g⟩
  have b := og.out.below (Below.refl w.heap.size _) TB.out.size g
  replace ow := Lib.hid (ow.out.kept g apw_g.out)
  replace ox1 := Lib.hid (ox1.out.kept g apx1_g.out)
  replace og := Lib.hid o; clear o g
  replace r1 := Lib.hid (r1.out.below b (Nat.le_refl _))
  replace TB := Lib.hid (TB.out.trans b); clear b
  go_wp2_with fail
  refine (heldbytes _ _ Ag ng cg 1 og.out.sl (by omega) (by omega)).mono ?_
  rintro e w11 ⟨rfl, rfl⟩
  clear ox1
  go_wp2_with fail
  refine (tobytes _ _ A1 n1 c1 l1 r1.out TB.out.size (by omega) H1.out).mono ?_
  rintro e w12 ⟨⟨Au1, cu1, rfl, o⟩, b⟩
  have apw_u1 := Lib.hid (ow.out.apart o (Nat.le_refl _)); have apu1_w := Lib.hid (ow.out.apart' o (Nat.le_refl _))
  have apg_u1 := Lib.hid (og.out.apart o (Nat.le_refl _)); have apu1_g := Lib.hid (og.out.apart' o (Nat.le_refl _))
  have ou1 := Lib.hid (o.fewer TB.out.size); clear o
  replace ow := Lib.hid (ow.out.on b)
  replace og := Lib.hid (og.out.on b)
  replace r1 := Lib.hid (r1.out.below (b.mono TB.out.size) (Nat.le_refl _))
  replace TB := Lib.hid (TB.out.trans (b.mono TB.out.size))
  clear b
  go_wp2_with fail
  refine (iencr _ _ z0 Au1 n1 cu1 l1 ou1.out.sl (Nat.le_refl _) (by omega) H1.out).mono ?_
  rintro e w13 ⟨⟨Ah, nh, ch, rfl, o⟩, b⟩
  have apw_h := Lib.hid (ow.out.apart o (Nat.le_refl _)); have aph_w := Lib.hid (ow.out.apart' o (Nat.le_refl _))
  have apg_h := Lib.hid (og.out.apart o (Nat.le_refl _)); have aph_g := Lib.hid (og.out.apart' o (Nat.le_refl _))
  have apu1_h := Lib.hid (ou1.out.apart o (Nat.le_refl _)); have aph_u1 := Lib.hid (ou1.out.apart' o (Nat.le_refl _))
  have oh := Lib.hid (o.fewer TB.out.size); clear o
  have sh := oh.out.capm; have eh := Lib.hid oh.out.len
  replace ow := Lib.hid (ow.out.on b)
  replace og := Lib.hid (og.out.on b)
  replace ou1 := Lib.hid (ou1.out.on b)
  replace r1 := Lib.hid (r1.out.below (b.mono TB.out.size) (Nat.le_refl _))
  replace TB := Lib.hid (TB.out.trans (b.mono TB.out.size))
  clear b
  go_wp2_with fail
  refine (eqbytes _ _ _ Ah Aw nh nw ch cw _ oh.out.sl ow.out.sl KD.out).mono ?_
  rintro e w14 ⟨rfl, b⟩
  replace ow := Lib.hid (ow.out.on b)
  replace og := Lib.hid (og.out.on b)
  replace ou1 := Lib.hid (ou1.out.on b)
  replace oh := Lib.hid (oh.out.on b)
  replace r1 := Lib.hid (r1.out.below (b.mono TB.out.size) (Nat.le_refl _))
  replace TB := Lib.hid (TB.out.trans (b.mono TB.out.size))
  clear b
  go_wp2_with fail
  refine (heldbytes _ _ Ag ng cg 1 og.out.sl (by omega) (by omega)).mono ?_
  rintro e w15 ⟨rfl, rfl⟩
  go_wp2_with fail
  go_ret
  exact ⟨rfl, TB.out⟩
end Go.Proofs.Ytehmnipaiihndaa
