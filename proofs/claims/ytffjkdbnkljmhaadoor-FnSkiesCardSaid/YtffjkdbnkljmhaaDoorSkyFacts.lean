/- Plain facts on limits, planes and sites that law FnSkies asks for. -/
import Derived.Test.YtffjkdbnkljmhaaDoorLimit4
namespace Go.Proofs.YtffjkdbnkljmhaaDoor
open Go.ChangeShapes Go.WideShapes Go.ChangeAt Go.RowKit
set_option linter.unusedVariables false
theorem limI_self (P R X V : Int) (ls : List Sat4) (li : List Tri) (a b : Int) (h : a = b) : limI P R X V ls li a b = -1 := by unfold limI; rw [if_pos (.inl h)]
theorem nodeK_of_site {ns ni : Nat} {a : Int} (h : siteAt ns ni a = true) : nodeK ns ni a = 2 := by
  have h' : (ns : Int) ≤ a ∧ a < ns + ni := by simpa [siteAt] using h
  unfold nodeK; rw [if_neg (by omega), if_neg (by omega), if_pos h'.2]
theorem limI_sites (P R X V : Int) (ls : List Sat4) (li : List Tri) (a b : Int) (ha : siteAt ls.length li.length a = true) (hb : siteAt ls.length li.length b = true) : limI P R X V ls li a b = -1 := by
  simp [limI, nodeK_of_site ha, nodeK_of_site hb]
theorem limI_le (P R X V U D Q : Int) (ls : List Sat4) (li lz : List Tri) (a b : Int) (h : skyOk P R X V U D Q ls li lz = true) : limI P R X V ls li a b ≤ 180 := by
  have hh : [R, X, V, D].all halfOk = true := by
    simp only [skyOk, Bool.and_eq_true] at h
    exact h.2.2.2.2.2.2.2.1
  have h1 : R ≤ 180 ∧ X ≤ 180 ∧ V ≤ 180 := by
    simp [halfOk] at hh; omega
  unfold limI
  repeat' split
  all_goals omega
theorem plane_ok (P R X V U D Q : Int) (ls : List Sat4) (li lz : List Tri) (i : Int) (h : skyOk P R X V U D Q ls li lz = true) (h0 : 0 ≤ i) (h1 : i < ls.length + li.length) : ¬ planeOf ls li i = -1 := by
  simp only [skyOk, Bool.and_eq_true] at h
  have hs := h.2.2.1
  have hi := h.2.2.2.2.1
  rw [List.all_eq_true] at hs hi
  rcases node_cases ls li i with ⟨k, hk, -, -, hp, -⟩ | ⟨k, hk, -, -, hp, -⟩ | ⟨hr, -⟩
  · have := hs _ (List.getElem_mem hk)
    simp [satOk] at this
    rw [hp]; omega
  · have := hi _ (List.getElem_mem hk)
    simp [siteOk] at this
    rw [hp]; omega
  · omega
/-- how many of the nodes before j - 1 are sites -/
def sitesTo (ns ni j : Nat) : Nat := min (j - 1 - ns) ni
theorem sites_in {ns ni j : Nat} (h : siteAt ns ni ((j : Int) - 1) = true) : sitesTo ns ni (j + 1) = sitesTo ns ni j + 1 := by
  have h' : (ns : Int) ≤ (j : Int) - 1 ∧ (j : Int) - 1 < ns + ni := by simpa [siteAt] using h
  unfold sitesTo; omega
theorem sites_out {ns ni j : Nat} (h : siteAt ns ni ((j : Int) - 1) = false) : sitesTo ns ni (j + 1) = sitesTo ns ni j := by
  have h' : ¬ ((ns : Int) ≤ (j : Int) - 1 ∧ (j : Int) - 1 < ns + ni) := by
    intro hx
    have : siteAt ns ni ((j : Int) - 1) = true := by simp [siteAt]; exact hx
    rw [this] at h; cases h
  unfold sitesTo; omega
theorem sites_le (ns ni j : Nat) : sitesTo ns ni j ≤ ni := by unfold sitesTo; omega
theorem sites_all {ns ni : Nat} (h : ns + ni ≤ 13) : sitesTo ns ni 14 = ni := by unfold sitesTo; omega
end Go.Proofs.YtffjkdbnkljmhaaDoor
