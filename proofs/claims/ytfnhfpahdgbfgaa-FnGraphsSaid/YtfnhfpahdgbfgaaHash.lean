/- Plain facts on the hash, the keyed hash and the cipher: ranges, inverses, one changed value changes it. No program. -/
import Derived.Test.YtfnhfpahdgbfgaaSlices
namespace Go.Proofs.Ytfnhfpahdgbfgaa
/-- one step of the fold -/
def hstep (s v : Int) : Int := (s * 1000003 + v % 2147483647 + 13) % 2147483647
def hsF (s : Int) (l : List Int) : Int := l.foldl hstep s
def hs (l : List Int) : Int := hsF 11 l
/-- the keyed hash -/
def kh (k : Int) (l : List Int) : Int := hs ([k] ++ l ++ [k])
theorem hstep_bd (s v : Int) : 0 ≤ hstep s v ∧ hstep s v ≤ 2147483646 := by unfold hstep; omega
theorem hsF_bd (l : List Int) (s : Int) (h : 0 ≤ s ∧ s ≤ 2147483646) : 0 ≤ hsF s l ∧ hsF s l ≤ 2147483646 := by
  induction l generalizing s with
  | nil => exact h
  | cons x l ih => exact ih _ (hstep_bd s x)
theorem hs_bd (l : List Int) : 0 ≤ hs l ∧ hs l ≤ 2147483646 := hsF_bd l 11 (by omega)
theorem kh_bd (k : Int) (l : List Int) : 0 ≤ kh k l ∧ kh k l ≤ 2147483646 := hs_bd _
theorem hs_snoc (l : List Int) (v : Int) : hs (l ++ [v]) = hstep (hs l) v := by simp [hs, hsF]
theorem emod_sub0 (s t v : Int) (h : (s * 1000003 + v % 2147483647 + 13) % 2147483647 = (t * 1000003 + v % 2147483647 + 13) % 2147483647) : (s * 1000003 + v % 2147483647 + 13 - (t * 1000003 + v % 2147483647 + 13)) % 2147483647 = 0 := Int.emod_eq_emod_iff_emod_sub_eq_zero.1 h
theorem sub_mul_of (s t q v : Int) (hq : (s * 1000003 + v % 2147483647 + 13 - (t * 1000003 + v % 2147483647 + 13)) = 2147483647 * q) : (s - t) * 1000003 = 2147483647 * q := by
  generalize v % 2147483647 = r at hq
  omega
theorem mul_zero_of (d q : Int) (h : d * 1000003 = 2147483647 * q) (h1 : -2147483647 < d) (h2 : d < 2147483647) : d = 0 := by
  have h5 : d * (1000003 * 1523789695) = 2147483647 * (q * 1523789695) := by rw [← Int.mul_assoc, h, Int.mul_assoc]
  have h6 : d = 2147483647 * (q * 1523789695 - d * 709572) := by
    rw [Int.mul_sub, ← h5]; omega
  generalize q * 1523789695 - d * 709572 = u at h6
  omega
theorem hstep_inj (s t v : Int) (h0 : 0 ≤ s ∧ s ≤ 2147483646) (h1 : 0 ≤ t ∧ t ≤ 2147483646) (h : hstep s v = hstep t v) : s = t := by
  have b1 : -2147483647 < s - t := by omega
  have b2 : s - t < 2147483647 := by omega
  unfold hstep at h
  have h3 := emod_sub0 s t v h
  clear h
  obtain ⟨q, hq⟩ := Int.dvd_of_emod_eq_zero h3
  clear h3
  have h4 := sub_mul_of s t q v hq
  clear hq
  have h2 := mul_zero_of (s - t) q h4 b1 b2
  clear h4
  omega
theorem hstep_ne (s u v : Int) (h : u % 2147483647 ≠ v % 2147483647) : hstep s u ≠ hstep s v := by unfold hstep; omega
theorem hsF_inj (l : List Int) (s t : Int) (h0 : 0 ≤ s ∧ s ≤ 2147483646) (h1 : 0 ≤ t ∧ t ≤ 2147483646) (h : hsF s l = hsF t l) : s = t := by
  induction l generalizing s t with
  | nil => exact h
  | cons x l ih => exact hstep_inj s t x h0 h1 (ih _ _ (hstep_bd s x) (hstep_bd t x) h)
theorem hsF_set (l : List Int) (s : Int) (i : Nat) (v : Int) (hi : i < l.length) (h : v % 2147483647 ≠ l[i] % 2147483647) : hsF s (l.set i v) ≠ hsF s l := by
  induction l generalizing s i with
  | nil => simp at hi
  | cons x l ih =>
    rcases i with _ | i
    · intro e
      exact hstep_ne s v x h (hsF_inj l _ _ (hstep_bd s v) (hstep_bd s x) e)
    · exact ih (hstep s x) i (by simpa using hi) h
theorem kh_set (k : Int) (l : List Int) (i : Nat) (v : Int) (hi : i < l.length) (h : v % 2147483647 ≠ l[i] % 2147483647) : kh k (l.set i v) ≠ kh k l := by
  have e : ∀ m : List Int, kh k m = hstep (hsF (hstep 11 k) m) k := by intro m; simp [kh, hs, hsF]
  rw [e, e]
  intro h'
  exact hsF_set l (hstep 11 k) i v hi h (hstep_inj _ _ k (hsF_bd _ _ (hstep_bd 11 k)) (hsF_bd _ _ (hstep_bd 11 k)) h')
/-- what belongs to the byte at index i -/
def pad (k : Int) (i : Nat) : Nat := (kh k [(i : Int)] % 256).toNat
theorem pad_lt (k : Int) (i : Nat) : pad k i < 256 := by unfold pad; omega
theorem pad_is (k : Int) (i : Nat) : kh k [(i : Int)] % 256 = (pad k i : Int) := by unfold pad; omega
def encb (k : Int) (l : List Nat) : List Nat := l.mapIdx fun i b => (b + pad k i) % 256
def decb (k : Int) (l : List Nat) : List Nat := l.mapIdx fun i b => (b + 256 - pad k i) % 256
theorem encb_len (k : Int) (l : List Nat) : (encb k l).length = l.length := List.length_mapIdx
theorem decb_len (k : Int) (l : List Nat) : (decb k l).length = l.length := List.length_mapIdx
theorem encb_get (k : Int) (l : List Nat) (i : Nat) (h : i < (encb k l).length) : (encb k l)[i] = (l[i]'(by rw [encb_len] at h; exact h) + pad k i) % 256 := List.getElem_mapIdx
theorem decb_get (k : Int) (l : List Nat) (i : Nat) (h : i < (decb k l).length) : (decb k l)[i] = (l[i]'(by rw [decb_len] at h; exact h) + 256 - pad k i) % 256 := List.getElem_mapIdx
theorem encb_byte (k : Int) (l : List Nat) : ∀ b ∈ encb k l, b < 256 := by
  intro b hb
  obtain ⟨i, hi, rfl⟩ := List.mem_iff_getElem.1 hb
  rw [encb_get]; omega
theorem decb_byte (k : Int) (l : List Nat) : ∀ b ∈ decb k l, b < 256 := by
  intro b hb
  obtain ⟨i, hi, rfl⟩ := List.mem_iff_getElem.1 hb
  rw [decb_get]; omega
theorem dec_enc_b (k : Int) (l : List Nat) (h : ∀ b ∈ l, b < 256) : decb k (encb k l) = l := by
  refine List.ext_getElem (by rw [decb_len, encb_len]) fun i h1 h2 => ?_
  rw [decb_get, encb_get]
  have := pad_lt k i; have := h l[i] (List.getElem_mem h2)
  omega
theorem enc_dec_b (k : Int) (l : List Nat) (h : ∀ b ∈ l, b < 256) : encb k (decb k l) = l := by
  refine List.ext_getElem (by rw [encb_len, decb_len]) fun i h1 h2 => ?_
  rw [encb_get, decb_get]
  have := pad_lt k i; have := h l[i] (List.getElem_mem h2)
  omega
theorem encb_take (k : Int) (l : List Nat) (i : Nat) (h : i < l.length) : encb k (l.take (i + 1)) = encb k (l.take i) ++ [(l[i] + pad k i) % 256] := by
  unfold encb
  rw [List.take_succ_eq_append_getElem h, List.mapIdx_concat, List.length_take, Nat.min_eq_left (by omega)]
theorem decb_take (k : Int) (l : List Nat) (i : Nat) (h : i < l.length) : decb k (l.take (i + 1)) = decb k (l.take i) ++ [(l[i] + 256 - pad k i) % 256] := by
  unfold decb
  rw [List.take_succ_eq_append_getElem h, List.mapIdx_concat, List.length_take, Nat.min_eq_left (by omega)]
/-- bytes as integers, behind their number -/
def btk (n : Nat) (l : List Nat) : List Int := (n : Int) :: l.map fun b : Nat => (b : Int)
def bti (l : List Nat) : List Int := btk l.length l
theorem bti_len (l : List Nat) : (bti l).length = l.length + 1 := by simp [bti, btk]
theorem btk_take (n : Nat) (l : List Nat) (k : Nat) (h : k < l.length) : btk n (l.take (k + 1)) = btk n (l.take k) ++ [(l[k] : Int)] := by
  unfold btk; rw [List.take_succ_eq_append_getElem h, List.map_append]; rfl
theorem bti_range (l : List Nat) (h : ∀ b ∈ l, b < 256) (hl : l.length ≤ 1000000000) : ∀ z ∈ bti l, -9223372036854775808 ≤ z ∧ z ≤ 9223372036854775807 := by
  intro z hz
  unfold bti btk at hz
  rcases List.mem_cons.1 hz with rfl | hz
  · omega
  · obtain ⟨b, hb, rfl⟩ := List.mem_map.1 hz
    have := h b hb; omega
/-- the bytes of a string -/
def sbytes (s : ByteArray) : List Nat := s.data.toList.map UInt8.toNat
theorem sbytes_len (s : ByteArray) : (sbytes s).length = s.size := by unfold sbytes; rw [List.length_map, Array.length_toList]; rfl
theorem sbytes_byte (s : ByteArray) : ∀ b ∈ sbytes s, b < 256 := by
  intro b hb
  obtain ⟨u, _, rfl⟩ := List.mem_map.1 hb
  have := UInt8.toNat_lt u; omega
/-- what is derived from a string -/
def dvs (k : Int) (s : ByteArray) : Int := if kh k (bti (sbytes s)) = 0 then 1 else kh k (bti (sbytes s))
theorem dvs_bd (k : Int) (s : ByteArray) : 1 ≤ dvs k s ∧ dvs k s ≤ 2147483646 := by
  have := kh_bd k (bti (sbytes s))
  unfold dvs; split <;> omega
end Go.Proofs.Ytfnhfpahdgbfgaa
