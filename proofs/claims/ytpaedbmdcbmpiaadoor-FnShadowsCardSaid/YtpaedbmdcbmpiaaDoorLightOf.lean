/- The program's lightOf: the runs of light of a node in a span of ticks. -/
import Derived.Test.YtpaedbmdcbmpiaaDoorShadow
import Derived.Test.YtpaedbmdcbmpiaaDoorLight
import Derived.Test.YtpaedbmdcbmpiaaDoorSpansOf
import Derived.Test.YtpaedbmdcbmpiaaDoorDrawSky
import Derived.Test.YtpaedbmdcbmpiaaDoorDrawOwn
import Derived.Laws.EntriesVeiled
namespace Go.Proofs.YtpaedbmdcbmpiaaDoor
open Go.ChangeShapes Go.WideShapes Go.ChangeAt Go.RowKit
set_option linter.unusedVariables false
theorem intl_info : (Tryd.prog.info? 3).map (fun i => (i.zero, i.size, i.bytes)) = some (some (.int .i64 0), 1, 8) := by kernel_rfl
/-- runs as cells -/
def rv (rs : List Nat) : List Value := rs.map fun r : Nat => .int .i64 (r : Int)
theorem rv_len (rs : List Nat) : (rv rs).length = rs.length := by simp [rv]
theorem rv_snoc (rs : List Nat) (r : Nat) : rv (rs ++ [r]) = rv rs ++ [.int .i64 (r : Int)] := by simp [rv]
theorem rv_get (rs : List Nat) (k : Nat) (h : k < (rv rs).length) : (rv rs)[k] = .int .i64 ((rs[k]'(by simpa [rv] using h) : Nat) : Int) := by simp [rv]
/-- the runs so far, up to hi -/
structure RInv (L : Int → Bool) (lo hi : Int) (rs : List Nat) : Prop where
  runs : LR L lo rs
  till : rs = [] ∨ lo + (rsum rs rs.length : Int) ≤ hi
  len : rs.length ≤ rsum rs rs.length + 1
  next : rs ≠ [] → lo + (rsum rs rs.length : Int) < hi → L (lo + (rsum rs rs.length : Int)) = decide (rs.length % 2 = 0)
theorem RInv.nil (L : Int → Bool) (lo hi : Int) : RInv L lo hi [] := ⟨LR.nil _ _, .inl rfl, by simp, fun h => absurd rfl h⟩
theorem RInv.pos {L : Int → Bool} {lo hi : Int} {rs : List Nat} (h : RInv L lo hi rs) (hn : rs ≠ []) (j : Nat) (h0 : lo + (rsum rs rs.length : Int) < hi) (h1 : lo + (rsum rs rs.length : Int) + j < hi → ¬ L (lo + (rsum rs rs.length : Int) + j) = decide (rs.length % 2 = 0)) : 0 < j := by
  rcases Nat.eq_zero_or_pos j with rfl | hj
  · exfalso
    have e : lo + (rsum rs rs.length : Int) + ((0 : Nat) : Int) = lo + (rsum rs rs.length : Int) := by omega
    rw [e] at h1
    exact h1 h0 (h.next hn h0)
  · exact hj
theorem flip_par (n : Nat) (b : Bool) (h : ¬ b = decide (n % 2 = 0)) : b = decide ((n + 1) % 2 = 0) := by
  rcases Nat.mod_two_eq_zero_or_one n with e | e
  · have e1 : (n + 1) % 2 = 1 := by omega
    rw [e] at h; rw [e1]; cases b <;> simp at h ⊢
  · have e1 : (n + 1) % 2 = 0 := by omega
    rw [e] at h; rw [e1]; cases b <;> simp at h ⊢
theorem RInv.snoc {L : Int → Bool} {lo hi : Int} {rs : List Nat} (h : RInv L lo hi rs) (j : Nat) (h0 : lo + (rsum rs rs.length : Int) < hi) (hj : lo + (rsum rs rs.length : Int) + j ≤ hi)
    (h1 : ∀ t : Int, lo + (rsum rs rs.length : Int) ≤ t → t < lo + (rsum rs rs.length : Int) + j → L t = decide (rs.length % 2 = 0))
    (h2 : lo + (rsum rs rs.length : Int) + j < hi → ¬ L (lo + (rsum rs rs.length : Int) + j) = decide (rs.length % 2 = 0)) : RInv L lo hi (rs ++ [j]) := by
  have e : rsum (rs ++ [j]) (rs ++ [j]).length = rsum rs rs.length + j := by rw [List.length_append, List.length_singleton]; exact rsum_all rs j
  have el : (rs ++ [j]).length = rs.length + 1 := by simp
  refine ⟨h.runs.snoc j h1, .inr (by rw [e]; omega), ?_, fun _ hlt => ?_⟩
  · rw [e, el]
    have := h.len
    rcases Nat.eq_zero_or_pos rs.length with hz | hz
    · omega
    · have := h.pos (by intro e2; rw [e2] at hz; simp at hz) j h0 h2
      omega
  · rw [e] at hlt ⊢
    rw [el]
    have e3 : lo + ((rsum rs rs.length + j : Nat) : Int) = lo + (rsum rs rs.length : Int) + j := by omega
    rw [e3] at hlt ⊢
    exact flip_par _ _ (h2 hlt)
/-- 1 for the first round, 0 later -/
def fresh (o : Option Value) : Nat := match o with | some (.slice _ n _) => if n = 0 then 1 else 0 | _ => 0
theorem fresh_at {o : Option Value} {A : Option Addr} {n c : Nat} (h : o = some (.slice A n c)) : fresh o = if n = 0 then 1 else 0 := by rw [h]; rfl
/-- the two method expressions: their answers -/
theorem kinds (w : World) (P R X V U D Q : Int) (ns ni nz : Nat) (ls : List Sat4) (li lz : List Tri) (As : Option Addr) (cs : Nat) (Ai : Option Addr) (ci : Nat) (Az : Option Addr) (cz : Nat) (D0 : Nat) (h : InSky w (D0) As ns cs Ai ni ci Az nz cz ls li lz) (hD : D0 ≤ w.heap.size) (hs : ns ≤ 16777216) (hi : ni ≤ 16777216) (nA tW : Addr) (E : Errs w nA tW) (node : Int) (hn : J64 node) (n : Nat) :
    ∃ F : FuncId, ((n % 2 = 0 ∧ F = 53) ∨ (n % 2 = 1 ∧ F = 54)) ∧ ∀ (wr : World) (t : Int) (v : Bool), Below w.heap.size w wr → decide (litAt U D ls li node t = decide (n % 2 = 0)) = v → Calls Tryd.prog F #[.agg #[.int .i64 P, .slice As ns cs, .slice Ai ni ci, .int .i64 R, .int .i64 X, .int .i64 V, .int .i64 U, .int .i64 D, .slice Az nz cz, .int .i64 Q], .int .i64 node, .int .i64 t] wr (Tells wr v) := by
  rcases Nat.mod_two_eq_zero_or_one n with e | e
  · refine ⟨_, .inl ⟨e, rfl⟩, fun wr t v hb hv => ?_⟩
    refine islit wr P R X V U D Q ns ni nz ls li lz As cs Ai ci Az cz D0 (h.below hb hD) (Nat.le_trans hD hb.size) hs hi nA tW (E.below hb) node t hn v ?_
    rw [← hv, e]; cases litAt U D ls li node t <;> rfl
  · refine ⟨_, .inr ⟨e, rfl⟩, fun wr t v hb hv => ?_⟩
    refine isdark wr P R X V U D Q ns ni nz ls li lz As cs Ai ci Az cz D0 (h.below hb hD) (Nat.le_trans hD hb.size) hs hi nA tW (E.below hb) node t hn v ?_
    rw [← hv, e]; cases litAt U D ls li node t <;> rfl
set_option maxRecDepth 100000 in
set_option maxHeartbeats 1600000 in
theorem ilight (w : World) (P R X V U D Q : Int) (ns ni nz : Nat) (ls : List Sat4) (li lz : List Tri) (As : Option Addr) (cs : Nat) (Ai : Option Addr) (ci : Nat) (Az : Option Addr) (cz : Nat) (D0 : Nat) (h : InSky w (D0) As ns cs Ai ni ci Az nz cz ls li lz) (hD : D0 ≤ w.heap.size) (hs : ns ≤ 16777216) (hi : ni ≤ 16777216) (nA tW : Addr) (E : Errs w nA tW) (node : Int) (hn : J64 node) (lo hh : Int) (h0 : 0 ≤ lo) (hlj : lo ≤ 9223372036854775807) (h1 : hh ≤ 1000) (h2 : -9223372036854775808 ≤ hh) (L : Int → Bool) (hL : ∀ t, litAt U D ls li node t = L t) :
    Calls Tryd.prog 22 #[.agg #[.int .i64 P, .slice As ns cs, .slice Ai ni ci, .int .i64 R, .int .i64 X, .int .i64 V, .int .i64 U, .int .i64 D, .slice Az nz cz, .int .i64 Q], .int .i64 node, .agg #[.int .i64 lo, .int .i64 hh]] w fun e w' => ∃ (rs : List Nat) (A : Option Addr) (c : Nat), e = .returned (.agg #[.int .i64 lo, .slice A rs.length c]) ∧ Own w' w.heap.size 3 1 A rs.length c (rv rs) ∧ Below w.heap.size w w' ∧ RInv L lo hh rs ∧ hh ≤ lo + (rsum rs rs.length : Int) := by
  obtain ⟨i0, hi0, hy0, hy1, hy2⟩ := info_parts intl_info
  obtain ⟨W4, hW4⟩ : ∃ W, W = ((((w.alloc (.cells #[.int .i64 P, .slice As ns cs, .slice Ai ni ci, .int .i64 R, .int .i64 X, .int .i64 V, .int .i64 U, .int .i64 D, .slice Az nz cz, .int .i64 Q] 28)).alloc (.cells #[.int .i64 lo, .int .i64 hh] 60)).alloc (.cells #[.int .i64 0, .slice none 0 0] 57)).alloc (.cells #[.func (.func 53) #[] #[], .func (.func 54) #[] #[]] 97)).alloc (.cells #[.int .i64 lo, .slice none 0 0] 57) := ⟨_, rfl⟩
  have hsz : W4.heap.size = w.heap.size + 1 + 1 + 1 + 1 + 1 := by rw [hW4]; simp
  have T4 : Below w.heap.size w W4 := by
    rw [hW4]
    exact (((((Below.refl w.heap.size w).alloc (Nat.le_refl _) _).alloc (by simp) _).alloc (by simp; omega) _).alloc (by simp; omega) _).alloc (by simp; omega) _
  have Z0 : Blk W4 w.heap.size 28 #[.int .i64 P, .slice As ns cs, .slice Ai ni ci, .int .i64 R, .int .i64 X, .int .i64 V, .int .i64 U, .int .i64 D, .slice Az nz cz, .int .i64 Q] := by rw [hW4]; exact ((((Blk.new w _ _).alloc _).alloc _).alloc _).alloc _
  have Z1 : Blk W4 (w.heap.size + 1) 60 #[.int .i64 lo, .int .i64 hh] := by
    have h := Blk.new (w.alloc (.cells #[.int .i64 P, .slice As ns cs, .slice Ai ni ci, .int .i64 R, .int .i64 X, .int .i64 V, .int .i64 U, .int .i64 D, .slice Az nz cz, .int .i64 Q] 28)) 60 #[.int .i64 lo, .int .i64 hh]
    rw [World.size_alloc] at h
    rw [hW4]; exact ((h.alloc _).alloc _).alloc _
  have Z2 : Blk W4 (w.heap.size + 1 + 1) 57 #[.int .i64 0, .slice none 0 0] := by
    have h := Blk.new ((w.alloc (.cells #[.int .i64 P, .slice As ns cs, .slice Ai ni ci, .int .i64 R, .int .i64 X, .int .i64 V, .int .i64 U, .int .i64 D, .slice Az nz cz, .int .i64 Q] 28)).alloc (.cells #[.int .i64 lo, .int .i64 hh] 60)) 57 #[.int .i64 0, .slice none 0 0]
    rw [World.size_alloc, World.size_alloc] at h
    rw [hW4]; exact (h.alloc _).alloc _
  have Z3 : Blk W4 (w.heap.size + 1 + 1 + 1) 97 #[.func (.func 53) #[] #[], .func (.func 54) #[] #[]] := by
    have h := Blk.new (((w.alloc (.cells #[.int .i64 P, .slice As ns cs, .slice Ai ni ci, .int .i64 R, .int .i64 X, .int .i64 V, .int .i64 U, .int .i64 D, .slice Az nz cz, .int .i64 Q] 28)).alloc (.cells #[.int .i64 lo, .int .i64 hh] 60)).alloc (.cells #[.int .i64 0, .slice none 0 0] 57)) 97 #[.func (.func 53) #[] #[], .func (.func 54) #[] #[]]
    rw [World.size_alloc, World.size_alloc, World.size_alloc] at h
    rw [hW4]; exact h.alloc _
  have Z4 : Hid (Blk W4 (w.heap.size + 1 + 1 + 1 + 1) 57 #[.int .i64 lo, .slice none 0 0]) := Lib.hid (by
    have h := Blk.new ((((w.alloc (.cells #[.int .i64 P, .slice As ns cs, .slice Ai ni ci, .int .i64 R, .int .i64 X, .int .i64 V, .int .i64 U, .int .i64 D, .slice Az nz cz, .int .i64 Q] 28)).alloc (.cells #[.int .i64 lo, .int .i64 hh] 60)).alloc (.cells #[.int .i64 0, .slice none 0 0] 57)).alloc (.cells #[.func (.func 53) #[] #[], .func (.func 54) #[] #[]] 97)) 57 #[.int .i64 lo, .slice none 0 0]
    rw [World.size_alloc, World.size_alloc, World.size_alloc, World.size_alloc] at h
    rw [hW4]; exact h)
  obtain ⟨gS, hgS⟩ : ∃ g, g = w.heap.size := ⟨_, rfl⟩
  obtain ⟨gA, hgA⟩ : ∃ g, g = w.heap.size + 1 := ⟨_, rfl⟩
  obtain ⟨gR, hgR⟩ : ∃ g, g = w.heap.size + 1 + 1 := ⟨_, rfl⟩
  obtain ⟨gK, hgK⟩ : ∃ g, g = w.heap.size + 1 + 1 + 1 := ⟨_, rfl⟩
  obtain ⟨gX, hgX⟩ : ∃ g, g = w.heap.size + 1 + 1 + 1 + 1 := ⟨_, rfl⟩
  rw [← hgS] at Z0; rw [← hgA] at Z1; rw [← hgR] at Z2; rw [← hgK] at Z3; rw [← hgX] at Z4
  have HT : Hid (∀ wr, Turn gX W4 wr → Blk wr gS 28 #[.int .i64 P, .slice As ns cs, .slice Ai ni ci, .int .i64 R, .int .i64 X, .int .i64 V, .int .i64 U, .int .i64 D, .slice Az nz cz, .int .i64 Q] ∧ Blk wr gA 60 #[.int .i64 lo, .int .i64 hh] ∧ Blk wr gR 57 #[.int .i64 0, .slice none 0 0] ∧ Blk wr gK 97 #[.func (.func 53) #[] #[], .func (.func 54) #[] #[]] ∧ Below w.heap.size w wr) := Lib.hid fun wr ht => by
    refine ⟨ht.blk Z0 (by omega), ht.blk Z1 (by omega), ht.blk Z2 (by omega), ht.blk Z3 (by omega), T4.trans ((ht.below (by omega)).mono (by omega))⟩
  have G : Hid (gS < gX ∧ gA < gX ∧ gR < gX ∧ gK < gX ∧ gX < W4.heap.size ∧ w.heap.size ≤ gS ∧ w.heap.size ≤ gX ∧ w.heap.size ≤ gR ∧ w.heap.size ≤ W4.heap.size) := Lib.hid (by omega)
  have HKND : Hid (∀ n, ∃ F : FuncId, ((n % 2 = 0 ∧ F = 53) ∨ (n % 2 = 1 ∧ F = 54)) ∧ ∀ (wr : World) (t : Int) (v : Bool), Below w.heap.size w wr → decide (litAt U D ls li node t = decide (n % 2 = 0)) = v → Calls Tryd.prog F #[.agg #[.int .i64 P, .slice As ns cs, .slice Ai ni ci, .int .i64 R, .int .i64 X, .int .i64 V, .int .i64 U, .int .i64 D, .slice Az nz cz, .int .i64 Q], .int .i64 node, .int .i64 t] wr (Tells wr v)) := Lib.hid fun n => kinds w P R X V U D Q ns ni nz ls li lz As cs Ai ci Az cz D0 h hD hs hi nA tW E node hn n
  have HLL := Lib.hid hL
  have HE4 : Hid (Own W4 W4.heap.size 3 1 none 0 0 (rv [])) := Lib.hid (Own.empty _ _ _ _)
  clear h hD E hn hL Z0 Z1 Z2 Z3 T4 hsz
  go_enter Tryd.func22, Tryd.ntmps22
  go_wp2
  rw [← hW4, ← hgX, ← hgK, ← hgR, ← hgA, ← hgS]
  clear hW4 hgX hgK hgR hgA hgS
  go_loopw [9, 10, 11] (fun t k f wr => ∃ (rs : List Nat) (A1 : Option Addr) (c1 : Nat), t = .int .i64 (lo + (rsum rs rs.length : Int)) ∧ RInv L lo hh rs ∧ Own wr W4.heap.size 3 1 A1 rs.length c1 (rv rs) ∧ Blk wr gX 57 #[.int .i64 lo, .slice A1 rs.length c1] ∧ Turn gX W4 wr) (fun t _ _ wr => 2 * (hh - intOf t).toNat + fresh (wr.cell? ⟨gX, 1, none⟩))
  case atStart => exact ⟨[], none, 0, by simp [rsum], RInv.nil _ _ _, HE4.out, Z4.out, Turn.refl _ _⟩
  case round =>
    clear HE4 Z4
    obtain ⟨rs, A1, c1, rfl, hinv, ho, hx, ht⟩ := hrel
    obtain ⟨T, hT⟩ : ∃ T, lo + (rsum rs rs.length : Int) = T := ⟨_, rfl⟩
    rw [hT]
    have hTb : 0 ≤ T := by omega
    have HINV := Lib.hid hinv; have HO := Lib.hid ho; have HX := Lib.hid hx; have HTU := Lib.hid ht
    have HTE := Lib.hid hT
    obtain ⟨za, zb, zc, zd, -⟩ := HT.out _ ht
    have a1 : wr.cell? ⟨gA, 1, none⟩ = some (.int .i64 hh) := zb.cell 1
    have x0 : wr.cell? ⟨gX, 0, none⟩ = some (.int .i64 lo) := hx.cell 0
    have x1 : wr.cell? ⟨gX, 1, none⟩ = some (.slice A1 rs.length c1) := hx.cell 1
    have hlen := ho.capm
    by_cases hlt : T < hh
    case neg =>
      have hlt' : ¬ (T < hh) := hlt
      have g := G.out
      have e0 : ¬ (gX = gR) := by omega
      have e1 : ¬ (gR = gX) := by omega
      have r0 : wr.cell? ⟨gR, 0, none⟩ = some (.int .i64 0) := zc.cell 0
      have r1 := zc.frozen 0
      have r2 : (wr.setCell ⟨gR, 0, none⟩ (.int .i64 lo)).cell? ⟨gR, 1, none⟩ = some (.slice none 0 0) := (zc.set_ 0 (.int .i64 lo)).cell 1
      have r3 : (wr.setCell ⟨gR, 0, none⟩ (.int .i64 lo)).frozen? ⟨gR, 1, none⟩ = false := (zc.set_ 0 (.int .i64 lo)).frozen 1
      have k0 : ((wr.setCell ⟨gR, 0, none⟩ (.int .i64 lo)).setCell ⟨gR, 1, none⟩ (.slice A1 rs.length c1)).cell? ⟨gR, 0, none⟩ = some (.int .i64 lo) := ((zc.set_ 0 (.int .i64 lo)).set_ 1 (.slice A1 rs.length c1)).cell 0
      have k1 : ((wr.setCell ⟨gR, 0, none⟩ (.int .i64 lo)).setCell ⟨gR, 1, none⟩ (.slice A1 rs.length c1)).cell? ⟨gR, 1, none⟩ = some (.slice A1 rs.length c1) := ((zc.set_ 0 (.int .i64 lo)).set_ 1 (.slice A1 rs.length c1)).cell 1
      have HF : Hid (Own ((wr.setCell ⟨gR, 0, none⟩ (.int .i64 lo)).setCell ⟨gR, 1, none⟩ (.slice A1 rs.length c1)) w.heap.size 3 1 A1 rs.length c1 (rv rs) ∧ Below w.heap.size w ((wr.setCell ⟨gR, 0, none⟩ (.int .i64 lo)).setCell ⟨gR, 1, none⟩ (.slice A1 rs.length c1)) ∧ RInv L lo hh rs ∧ hh ≤ lo + (rsum rs rs.length : Int)) := Lib.hid
        ⟨((ho.far (p := ⟨gR, 0, none⟩) (by simp; omega) _).far (p := ⟨gR, 1, none⟩) (by simp; omega) _).fewer (by omega), ((HT.out _ ht).2.2.2.2.setCell (p := ⟨gR, 0, none⟩) (by simp; omega) _).setCell (p := ⟨gR, 1, none⟩) (by simp; omega) _, hinv, by omega⟩
      clear g za zb zc zd hx ht ho hinv HINV HO HX HTU hT HTE hlt
      go_wp2
      (try simp only [Exit.inBlock, Exit.then])
      refine bodyPost_ret (v := .agg #[.int .i64 lo, .slice A1 rs.length c1]) (by simp [results, Tryd.results22, go_sem, k0, k1]; try rfl) rfl ?_
      exact ⟨rs, A1, c1, rfl, HF.out⟩
    case pos =>
      obtain ⟨p, hp⟩ : ∃ p, rs.length % 2 = p := ⟨_, rfl⟩
      have hp2 : p < 2 := by omega
      have hnb : rs.length ≤ 1001 := by have := hinv.len; have := hinv.till; rcases hinv.till with e | e <;> (first | (rw [e]; simp) | omega)
      have hrem : (rs.length : Int) % 2 = (p : Int) := by omega
      obtain ⟨F, hF, hcall⟩ := HKND.out rs.length
      have HCALL := Lib.hid hcall; have HFF : Hid (F = 53 ∨ F = 54) := Lib.hid (by rcases hF with h | h; exact .inl h.2; exact .inr h.2)
      have HKC : Hid (∀ wx, Blk wx gK 97 #[.func (.func 53) #[] #[], .func (.func 54) #[] #[]] → wx.cell? ⟨gK, p, none⟩ = some (.func (.func F) #[] #[])) := Lib.hid fun wx hb => by
        rcases hF with ⟨e1, e2⟩ | ⟨e1, e2⟩
        · obtain rfl : p = 0 := by omega
          rw [e2]; exact hb.cell 0
        · obtain rfl : p = 1 := by omega
          rw [e2]; exact hb.cell 1
      obtain ⟨QW, hQ⟩ : ∃ QW : World → Prop, ∀ wx, QW wx ↔ Below wr.heap.size wr wx := ⟨_, fun _ => Iff.rfl⟩
      have Q0 : Hid (QW wr) := Lib.hid ((hQ _).2 (Below.refl _ _))
      have Q1 : Hid (∀ wx wy, QW wx → Below wx.heap.size wx wy → QW wy) := Lib.hid fun wx wy h h' => (hQ _).2 (((hQ _).1 h).trans (h'.mono ((hQ _).1 h).size))
      have QC : Hid (∀ wx, QW wx → (wx.cell? ⟨gA, 1, none⟩ = some (.int .i64 hh) ∧ wx.cell? ⟨gK, p, none⟩ = some (.func (.func F) #[] #[]) ∧ (wx.cell? ⟨gS, 0, none⟩ = some (.int .i64 P) ∧ wx.cell? ⟨gS, 1, none⟩ = some (.slice As ns cs) ∧ wx.cell? ⟨gS, 2, none⟩ = some (.slice Ai ni ci) ∧ wx.cell? ⟨gS, 3, none⟩ = some (.int .i64 R) ∧ wx.cell? ⟨gS, 4, none⟩ = some (.int .i64 X) ∧ wx.cell? ⟨gS, 5, none⟩ = some (.int .i64 V) ∧ wx.cell? ⟨gS, 6, none⟩ = some (.int .i64 U) ∧ wx.cell? ⟨gS, 7, none⟩ = some (.int .i64 D) ∧ wx.cell? ⟨gS, 8, none⟩ = some (.slice Az nz cz) ∧ wx.cell? ⟨gS, 9, none⟩ = some (.int .i64 Q))) ∧ Below w.heap.size w wx ∧ Blk wx gX 57 #[.int .i64 lo, .slice A1 rs.length c1] ∧ Own wx W4.heap.size 3 1 A1 rs.length c1 (rv rs) ∧ Turn gX W4 wx) := Lib.hid fun wx hq => by
        have hb := (hQ _).1 hq
        have hu := HTU.out.belowOn hb
        obtain ⟨za, zb, zc, zd, zz⟩ := HT.out _ hu
        exact ⟨⟨zb.cell 1, HKC.out _ zd, za.ten⟩, zz, HX.out.below hb HX.out.lt, HO.out.on hb, hu⟩
      have HP := Lib.hid hp
      have hlt' := Lib.hid hlt
      clear hF
      clear hinv ho hx ht hT za zb zc zd hcall hQ hp
      go_upto_block 2 with fail
      rw [hrem]
      have hp0 : (0 : Int) ≤ (p : Int) := by omega
      have hp3 : (p : Int) < 2 := by omega
      clear a1 x0 x1 hrem
      go_cut [9] from 29 to 44 (fun c wx => ∃ j : Nat, c = .int .i64 (T + j) ∧ T + j ≤ hh ∧ (∀ u : Int, T ≤ u → u < T + j → L u = decide (rs.length % 2 = 0)) ∧ (T + j < hh → ¬ L (T + j) = decide (rs.length % 2 = 0)) ∧ QW wx)
      case first =>
        go_wp2_with fail
        go_loopw [9] (fun c wx => ∃ j : Nat, c = .int .i64 (T + j) ∧ T + j ≤ hh ∧ (∀ u : Int, T ≤ u → u < T + j → L u = decide (rs.length % 2 = 0)) ∧ QW wx) (fun c _ => (hh - intOf c).toNat)
        case atStart => exact ⟨0, by simp, by have := hlt'.out; omega, fun u h0 h1 => by omega, Q0.out⟩
        case round =>
          obtain ⟨j, rfl, hj, hju, hq⟩ := hrel
          obtain ⟨u, hu⟩ : ∃ u, T + (j : Int) = u := ⟨_, rfl⟩
          rw [hu] at hj ⊢
          have HQ := Lib.hid hq; have HJU := Lib.hid hju; have HU := Lib.hid hu
          have hub : 0 ≤ u := by omega
          clear hq hju hu
          obtain ⟨a1, k1, c0, c1', c2, c3, c4, c5, c6, c7, c8, c9⟩ := (QC.out _ HQ.out).1
          by_cases hlu : u < hh
          case pos =>
            have hd : decide (u < hh) = true := decide_eq_true hlu
            obtain ⟨v, hv⟩ : ∃ v, decide (L u = decide (rs.length % 2 = 0)) = v := ⟨_, rfl⟩
            have HV : Hid (decide (litAt U D ls li node u = decide (rs.length % 2 = 0)) = v) := Lib.hid (by rw [HLL.out]; exact hv)
            have HVL := Lib.hid hv
            clear hv
            go_upto_region 7 with fail
            rcases HFF.out with rfl | rfl
            · cases v
              all_goals
                go_region_held3 (fun w' => w'.cell? ⟨gA, 1, none⟩ = some (.int .i64 hh) ∧ w'.cell? ⟨gK, p, none⟩ = some (.func (.func 53) #[] #[]) ∧ (w'.cell? ⟨gS, 0, none⟩ = some (.int .i64 P) ∧ w'.cell? ⟨gS, 1, none⟩ = some (.slice As ns cs) ∧ w'.cell? ⟨gS, 2, none⟩ = some (.slice Ai ni ci) ∧ w'.cell? ⟨gS, 3, none⟩ = some (.int .i64 R) ∧ w'.cell? ⟨gS, 4, none⟩ = some (.int .i64 X) ∧ w'.cell? ⟨gS, 5, none⟩ = some (.int .i64 V) ∧ w'.cell? ⟨gS, 6, none⟩ = some (.int .i64 U) ∧ w'.cell? ⟨gS, 7, none⟩ = some (.int .i64 D) ∧ w'.cell? ⟨gS, 8, none⟩ = some (.slice Az nz cz) ∧ w'.cell? ⟨gS, 9, none⟩ = some (.int .i64 Q))) (first | exact ⟨a1, k1, c0, c1', c2, c3, c4, c5, c6, c7, c8, c9⟩ | exact hcA | go_keep) (first
                  | (go_at_call 53; refine (HCALL.out _ u _ (by first | exact (QC.out _ HQ.out).2.1.drew | exact (QC.out _ HQ.out).2.1) HV.out).mono ?_; rintro e wA ⟨rfl, bA⟩; have HQA : Hid (QW wA) := Lib.hid (by first | exact Q1.out _ _ HQ.out ((Below.refl _ _).drew.trans bA) | exact Q1.out _ _ HQ.out bA); have hcA := (QC.out _ HQA.out).1; clear bA))
                go_wp2_with fail
              · go_meet
                exact ⟨j, by rw [HU.out], by rw [HU.out]; exact hj, HJU.out, fun _ => by rw [HU.out]; exact of_decide_eq_false HVL.out, HQA.out⟩
              · have hstep := HU.out; have hvl := of_decide_eq_true HVL.out; have hjo := HJU.out
                go_roundw
                case rel =>
                  refine ⟨j + 1, by rw [show T + ((j + 1 : Nat) : Int) = u + 1 by omega], by omega, fun z h0 h1 => ?_, HQA.out⟩
                  rcases Int.lt_or_le z u with hz | hz
                  · exact hjo z h0 (by omega)
                  · obtain rfl : z = u := by omega
                    exact hvl
                case measure => simp [intOf]; omega
            · cases v
              all_goals
                go_region_held3 (fun w' => w'.cell? ⟨gA, 1, none⟩ = some (.int .i64 hh) ∧ w'.cell? ⟨gK, p, none⟩ = some (.func (.func 54) #[] #[]) ∧ (w'.cell? ⟨gS, 0, none⟩ = some (.int .i64 P) ∧ w'.cell? ⟨gS, 1, none⟩ = some (.slice As ns cs) ∧ w'.cell? ⟨gS, 2, none⟩ = some (.slice Ai ni ci) ∧ w'.cell? ⟨gS, 3, none⟩ = some (.int .i64 R) ∧ w'.cell? ⟨gS, 4, none⟩ = some (.int .i64 X) ∧ w'.cell? ⟨gS, 5, none⟩ = some (.int .i64 V) ∧ w'.cell? ⟨gS, 6, none⟩ = some (.int .i64 U) ∧ w'.cell? ⟨gS, 7, none⟩ = some (.int .i64 D) ∧ w'.cell? ⟨gS, 8, none⟩ = some (.slice Az nz cz) ∧ w'.cell? ⟨gS, 9, none⟩ = some (.int .i64 Q))) (first | exact ⟨a1, k1, c0, c1', c2, c3, c4, c5, c6, c7, c8, c9⟩ | exact hcA | go_keep) (first
                  | (go_at_call 54; refine (HCALL.out _ u _ (by first | exact (QC.out _ HQ.out).2.1.drew | exact (QC.out _ HQ.out).2.1) HV.out).mono ?_; rintro e wA ⟨rfl, bA⟩; have HQA : Hid (QW wA) := Lib.hid (by first | exact Q1.out _ _ HQ.out ((Below.refl _ _).drew.trans bA) | exact Q1.out _ _ HQ.out bA); have hcA := (QC.out _ HQA.out).1; clear bA))
                go_wp2_with fail
              · go_meet
                exact ⟨j, by rw [HU.out], by rw [HU.out]; exact hj, HJU.out, fun _ => by rw [HU.out]; exact of_decide_eq_false HVL.out, HQA.out⟩
              · have hstep := HU.out; have hvl := of_decide_eq_true HVL.out; have hjo := HJU.out
                go_roundw
                case rel =>
                  refine ⟨j + 1, by rw [show T + ((j + 1 : Nat) : Int) = u + 1 by omega], by omega, fun z h0 h1 => ?_, HQA.out⟩
                  rcases Int.lt_or_le z u with hz | hz
                  · exact hjo z h0 (by omega)
                  · obtain rfl : z = u := by omega
                    exact hvl
                case measure => simp [intOf]; omega
          case neg =>
            have hd : decide (u < hh) = false := decide_eq_false hlu
            go_upto_region 7 with fail
            go_quiet (first | fail)
            go_wp2_with fail
            go_meet
            exact ⟨j, by rw [HU.out], by rw [HU.out]; exact hj, HJU.out, fun h => absurd h (by rw [HU.out]; omega), Q1.out _ _ HQ.out (below_drawn (Below.refl _ _) _)⟩
      case rest =>
      obtain ⟨j, rfl, hj, hju, hjn, hq⟩ := hcut
      obtain ⟨u, hu⟩ : ∃ u, T + (j : Int) = u := ⟨_, rfl⟩
      have hsn : Hid (RInv L lo hh (rs ++ [j]) ∧ (rs ≠ [] → 0 < j)) := Lib.hid (by
        have hte := HTE.out; have hlt2 := hlt'.out
        exact ⟨HINV.out.snoc j (by omega) (by omega) (by rw [hte]; exact hju) (by rw [hte]; exact hjn), fun hne => HINV.out.pos hne j (by omega) (by rw [hte]; exact hjn)⟩)
      rw [hu] at hj ⊢
      have hw : IntKind.i64.wrap (u - T) = (j : Int) := by rw [show u - T = (j : Int) by omega]; exact wrap_in _ (by omega) (by omega)
      obtain ⟨-, -, xX, xO, xT⟩ := QC.out _ hq
      obtain ⟨W3, hW3⟩ : ∃ W, W = wc.alloc (.cells #[.int .i64 (j : Int)] 3) := ⟨_, rfl⟩
      have B3 : Below wc.heap.size wc W3 := by rw [hW3]; exact (Below.refl _ _).alloc (Nat.le_refl _) _
      have O4 := Lib.hid (xO.on B3)
      have T5 := Lib.hid (xT.belowOn B3)
      have X4 := Lib.hid (xX.below B3 xX.lt)
      have SL : Hid (Sl W3 (wc.heap.size + 1) 1 (some ⟨wc.heap.size, 0, none⟩) 1 1 [.int .i64 (j : Int)]) := Lib.hid (by rw [hW3]; exact Sl.one wc _ _)
      have hb16 : (rs.length + 1) * 8 ≤ 140737488355328 := by omega
      have hsz3 : W4.heap.size ≤ W3.heap.size := T5.out.size
      have x1 : wc.cell? ⟨gX, 1, none⟩ = some (.slice A1 rs.length c1) := xX.cell 1
      have HU := Lib.hid hu
      have hgx : Hid (gX < W4.heap.size) := Lib.hid G.out.2.2.2.2.1
      clear hju hjn hq hu xX xO xT B3 hlt hj hp2 hp0 hp3
      go_wp2_with (at_builtin; go_loud (rw [← hW3]; refine wpList_append_sl _ rfl (.tmp 46) (.tmp 50) 55 rfl W4.heap.size 3 i0 _ 1 8 Tryd.underlying55 hi0 hy0 hy1 hy2 rfl (by omega) A1 rs.length c1 (rv rs) rfl O4.out (wc.heap.size + 1) _ 1 1 [.int .i64 (j : Int)] rfl SL.out (by simp [Value.oneCell']) (by omega) hb16 hsz3 ?_; intro A5 c5 w5 hown5 hg5 hat5; have X5 := Lib.hid (X4.out.grown O4.out hg5 hgx.out); have x50 : w5.cell? ⟨gX, 1, none⟩ = some (.slice A1 rs.length c1) := X5.out.cell 1; have x51 := X5.out.frozen 1; have T6 := Lib.hid (T5.out.grown O4.out hg5); have O5 := Lib.hid hown5; clear hown5 hg5 hat5))
      have el : (rs ++ [j]).length = rs.length + 1 := by simp
      have er : rsum (rs ++ [j]) (rs ++ [j]).length = rsum rs rs.length + j := by rw [el]; exact rsum_all rs j
      have XF := X5.out.set_ 1 (.slice A5 (rs.length + 1) c5)
      have hm0 := fresh_at (A := A1) (n := rs.length) (c := c1) (HX.out.cell 1)
      have hm1 := fresh_at (A := A5) (n := rs.length + 1) (c := c5) (XF.cell 1)
      have hte := HTE.out; have hue := HU.out; have hlt2 := hlt'.out
      have hpos := hsn.out.2
      go_roundw
      case rel =>
        refine ⟨rs ++ [j], A5, c5, by rw [er, show lo + ((rsum rs rs.length + j : Nat) : Int) = u by omega], hsn.out.1, ?_, ?_, T6.out.set_ 1 _⟩
        · rw [el, rv_snoc]; exact O5.out.far (p := ⟨gX, 1, none⟩) hgx.out _
        · rw [el]; exact XF
      case measure =>
        rw [hm0, hm1]
        simp [intOf]
        rcases rs with _ | ⟨r, rs⟩
        · simp; omega
        · have := hpos (by simp)
          simp; omega
end Go.Proofs.YtpaedbmdcbmpiaaDoor
