/- The program's LimitOf, all cases together. -/
import Derived.Test.YtffjkdbnkljmhaaDoorLimit2
import Derived.Test.YtffjkdbnkljmhaaDoorLimit3
namespace Go.Proofs.YtffjkdbnkljmhaaDoor
open Go.ChangeShapes Go.WideShapes Go.ChangeAt Go.RowKit
set_option linter.unusedVariables false
theorem ilimit (w : World) (P R X V U D Q : Int) (ns ni nz : Nat) (ls : List Sat4) (li lz : List Tri) (As : Option Addr) (cs : Nat) (Ai : Option Addr) (ci : Nat) (Az : Option Addr) (cz : Nat) (D0 : Nat) (h : InSky w (D0) As ns cs Ai ni ci Az nz cz ls li lz) (hD : D0 ≤ w.heap.size) (hs0 : ns ≤ 16777216) (hi0 : ni ≤ 16777216) (hP : J64 P) (hk1 : ∀ x ∈ ls, Ok4 x) (hk2 : ∀ x ∈ li, Ok3 x) (a b : Int) (ha : J64 a) (hb : J64 b) (r : Int) (hr : limI P R X V ls li a b = r) :
    Calls Tryd.prog 10 #[.agg #[.int .i64 P, .slice As ns cs, .slice Ai ni ci, .int .i64 R, .int .i64 X, .int .i64 V, .int .i64 U, .int .i64 D, .slice Az nz cz, .int .i64 Q], .int .i64 a, .int .i64 b] w (Num w r) := by
  by_cases hab : a = b
  · obtain rfl : r = -1 := by rw [← hr]; unfold limI; rw [if_pos (.inl hab)]
    exact lim_same w P R X V U D Q ns ni nz ls li lz As cs Ai ci Az cz D0 h hD hs0 hi0 a b ha hb hab
  · rcases node_cases ls li a with ⟨k, hk, ea, hva, hpa, -⟩ | ⟨k, hk, ea, hva, hpa, -⟩ | ⟨ea, hva, hpa, -⟩
    · have ka : nodeK ls.length li.length a = 1 := by rw [ea]; exact nodeK_sat hk
      rcases node_cases ls li b with ⟨m, hm, eb, hvb, hpb, -⟩ | ⟨m, hm, eb, hvb, hpb, -⟩ | ⟨eb, hvb, hpb, -⟩
      · have kb : nodeK ls.length li.length b = 1 := by rw [eb]; exact nodeK_sat hm
        exact lim_ss w P R X V U D Q ns ni nz ls li lz As cs Ai ci Az cz D0 h hD hs0 hi0 a b ha hb hP hab hva hvb (hk1 _ (List.getElem_mem hk)).1 (hk1 _ (List.getElem_mem hm)).1 r (by rw [← hr]; simp [limI, hab, ka, kb, hpa, hpb])
      · have kb : nodeK ls.length li.length b = 2 := by rw [eb]; exact nodeK_site hm
        exact lim_si w P R X V U D Q ns ni nz ls li lz As cs Ai ci Az cz D0 h hD hs0 hi0 a b ha hb hP hab hva hvb (hk1 _ (List.getElem_mem hk)).1 (hk2 _ (List.getElem_mem hm)).1 r (by rw [← hr]; simp [limI, hab, ka, kb, hpa, hpb])
      · have kb : nodeK ls.length li.length b = 0 := nodeK_none eb
        obtain rfl : r = -1 := by rw [← hr]; simp [limI, kb]
        exact lim_none_bs w P R X V U D Q ns ni nz ls li lz As cs Ai ci Az cz D0 h hD hs0 hi0 a b ha hb hab hva hvb
    · have ka : nodeK ls.length li.length a = 2 := by rw [ea]; exact nodeK_site hk
      rcases node_cases ls li b with ⟨m, hm, eb, hvb, hpb, -⟩ | ⟨m, hm, eb, hvb, hpb, -⟩ | ⟨eb, hvb, hpb, -⟩
      · have kb : nodeK ls.length li.length b = 1 := by rw [eb]; exact nodeK_sat hm
        exact lim_is w P R X V U D Q ns ni nz ls li lz As cs Ai ci Az cz D0 h hD hs0 hi0 a b ha hb hP hab hva hvb (hk2 _ (List.getElem_mem hk)).1 (hk1 _ (List.getElem_mem hm)).1 r (by rw [← hr]; simp [limI, hab, ka, kb, hpa, hpb])
      · have kb : nodeK ls.length li.length b = 2 := by rw [eb]; exact nodeK_site hm
        exact lim_ii w P R X V U D Q ns ni nz ls li lz As cs Ai ci Az cz D0 h hD hs0 hi0 a b ha hb hP hab hva hvb (hk2 _ (List.getElem_mem hk)).1 (hk2 _ (List.getElem_mem hm)).1 r (by rw [← hr]; simp [limI, hab, ka, kb])
      · have kb : nodeK ls.length li.length b = 0 := nodeK_none eb
        obtain rfl : r = -1 := by rw [← hr]; simp [limI, kb]
        exact lim_none_bi w P R X V U D Q ns ni nz ls li lz As cs Ai ci Az cz D0 h hD hs0 hi0 a b ha hb hab hva hvb
    · have ka : nodeK ls.length li.length a = 0 := nodeK_none ea
      obtain rfl : r = -1 := by rw [← hr]; simp [limI, ka]
      exact lim_none_a w P R X V U D Q ns ni nz ls li lz As cs Ai ci Az cz D0 h hD hs0 hi0 a b ha hb hab hva
end Go.Proofs.YtffjkdbnkljmhaaDoor
