/- The walk of law FnCipher. -/
import Derived.Test.YtehmnipaiihndaaDrawCrypto
import Derived.Test.YtehmnipaiihndaaCipher2
import Derived.Test.YtehmnipaiihndaaBig
namespace Go.Proofs.Ytehmnipaiihndaa
open Go.ChangeShapes Go.WideShapes Go.ChangeAt Go.RowKit
set_option linter.unusedVariables false
set_option maxHeartbeats 1600000 in
set_option maxRecDepth 100000 in
theorem coreC (w : World) (A : Option Addr) (cap : Nat) (xs : List Value) (lc : List Nat) (hB : Bytes xs) (hbig : xs.length ≤ 1048576) (hcap : xs.length ≤ cap) (hm0 : cap ≤ 9223372036854775807) (r0 : Reads w w.heap.size A xs)
    (s0 : Sl w w.heap.size 1 A xs.length cap (bv lc)) (hlc : ∀ b ∈ lc, b < 256) :
    Calls Try.prog 3 #[.slice A xs.length cap] w fun e w' => e = .returned (.bool true) ∧ Below w.heap.size w w' := by
  go_enter Try.func3, Try.ntmps3
  go_wp2_with fail
  refine (big_no _ _ _ _ hbig hm0 hcap).mono ?_
  rintro e w1 ⟨rfl, rfl⟩
  go_wp2_with fail
  refine (drawEncrypt _ _ _ _ hB hbig r0).mono ?_
  rintro e w1 ⟨⟨k, Ab, m, cb, bs, rfl, hm, hbs, ob⟩, b⟩
  have HBS := Lib.hid hbs; have OB := Lib.hid ob; have TB := Lib.hid b
  have cb2 := ob.capm
  have Lb : Hid (bs.length = m) := Lib.hid (by have := ob.len; rw [bv_len] at this; omega)
  have KD := Lib.hid (bv_kind bs hbs)
  clear hbs ob b
  go_wp2_with fail
  refine (iencr _ _ k Ab m cb bs OB.out.sl (Nat.le_refl _) (by omega) HBS.out).mono ?_
  rintro e w2 ⟨⟨Ax, nx, cx, rfl, o⟩, b⟩
  obtain rfl : m = nx := by have h1 := o.len; have h2 := Lb.out; rw [bv_len, encb_len] at h1; omega
  have Ox := Lib.hid o
  have cx2 := o.capm
  replace OB := Lib.hid (OB.out.on b); replace TB := Lib.hid (TB.out.trans (b.mono TB.out.size))
  clear o b
  go_wp2_with fail
  refine (idecr _ _ k Ax m cx _ Ox.out.sl (Nat.le_refl _) (by omega) (encb_byte k bs)).mono ?_
  rintro e w3 ⟨⟨Ay, ny, cy, rfl, o⟩, b⟩
  obtain rfl : m = ny := by have h1 := o.len; have h2 := Lb.out; rw [bv_len, decb_len, encb_len] at h1; omega
  rw [dec_enc_b k bs HBS.out] at o
  have Oy := Lib.hid o
  have cy2 := o.capm
  replace OB := Lib.hid (OB.out.on b); replace TB := Lib.hid (TB.out.trans (b.mono TB.out.size))
  clear o b
  clear Ox
  go_wp2_with fail
  refine (samebytes _ _ _ Ay Ab m m cy cb _ Oy.out.sl OB.out.sl KD.out).mono ?_
  rintro e w4 ⟨rfl, b⟩
  replace OB := Lib.hid (OB.out.on b); replace TB := Lib.hid (TB.out.trans (b.mono TB.out.size))
  clear b Oy
  go_wp2_with fail
  refine (idecr _ _ k Ab m cb bs OB.out.sl (Nat.le_refl _) (by omega) HBS.out).mono ?_
  rintro e w5 ⟨⟨Ax2, nx2, cx2, rfl, o⟩, b⟩
  obtain rfl : m = nx2 := by have h1 := o.len; have h2 := Lb.out; rw [bv_len, decb_len] at h1; omega
  have Ox2 := Lib.hid o
  have cx22 := o.capm
  replace OB := Lib.hid (OB.out.on b); replace TB := Lib.hid (TB.out.trans (b.mono TB.out.size))
  clear o b
  go_wp2_with fail
  refine (iencr _ _ k Ax2 m cx2 _ Ox2.out.sl (Nat.le_refl _) (by omega) (decb_byte k bs)).mono ?_
  rintro e w6 ⟨⟨Ay2, ny2, cy2, rfl, o⟩, b⟩
  obtain rfl : m = ny2 := by have h1 := o.len; have h2 := Lb.out; rw [bv_len, encb_len, decb_len] at h1; omega
  rw [enc_dec_b k bs HBS.out] at o
  have Oy2 := Lib.hid o
  have cy22 := o.capm
  replace OB := Lib.hid (OB.out.on b); replace TB := Lib.hid (TB.out.trans (b.mono TB.out.size))
  clear o b
  clear Ox2
  go_wp2_with fail
  refine (samebytes _ _ _ Ay2 Ab m m cy2 cb _ Oy2.out.sl OB.out.sl KD.out).mono ?_
  rintro e w7 ⟨rfl, b⟩
  replace OB := Lib.hid (OB.out.on b); replace TB := Lib.hid (TB.out.trans (b.mono TB.out.size))
  clear b Oy2
  go_wp2_with fail
  refine (iencr _ _ k Ab m cb bs OB.out.sl (Nat.le_refl _) (by omega) HBS.out).mono ?_
  rintro e w8 ⟨⟨Ax3, nx3, cx3, rfl, o⟩, b⟩
  obtain rfl : m = nx3 := by have h1 := o.len; have h2 := Lb.out; rw [bv_len, encb_len] at h1; omega
  have Ox3 := Lib.hid o
  have cx32 := o.capm
  replace OB := Lib.hid (OB.out.on b); replace TB := Lib.hid (TB.out.trans (b.mono TB.out.size))
  clear o b
  go_wp2
  go_ret
  exact ⟨rfl, TB.out⟩
end Go.Proofs.Ytehmnipaiihndaa
