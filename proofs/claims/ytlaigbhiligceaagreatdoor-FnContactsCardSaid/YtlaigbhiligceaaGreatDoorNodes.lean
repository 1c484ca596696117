/- The nodes of a sky: NodesOf, IsSite, PlaneOf of both sides; the program's nodeIn and kindOf. IsSite and PlaneOf of both sides. -/
import Derived.Test.YtlaigbhiligceaaGreatDoorChecked
import Derived.Test.YtlaigbhiligceaaGreatDoorSky
import Derived.Test.YtlaigbhiligceaaGreatDoorInts
import Derived.Handy
import Derived.Deep.RegionHeld3
import Derived.Deep.QuietTactic
import Derived.BigQuiet
namespace Go.Proofs.YtlaigbhiligceaaGreatDoor
open Go.ChangeShapes Go.WideShapes Go.ChangeAt Go.RowKit
set_option linter.unusedVariables false
/-- a call that answers a number, a Bool, a value, and makes memory of its own at most -/
def Num (w : World) (z : Int) (e : Ending) (w' : World) : Prop := e = .returned (.int .i64 z) ∧ Below w.heap.size w w'
def Tells (w : World) (b : Bool) (e : Ending) (w' : World) : Prop := e = .returned (.bool b) ∧ Below w.heap.size w w'
def Vals (w : World) (v : Value) (e : Ending) (w' : World) : Prop := e = .returned v ∧ Below w.heap.size w w'
/-- the plane of a node; whether it is a site -/
def planeOf (ls : List Sat4) (li : List Tri) (node : Int) : Int := if node < 0 then -1 else if node < ls.length then (ls.getD node.toNat default).p else if node < ls.length + li.length then (li.getD (node.toNat - ls.length) default).p else -1
def siteAt (ns ni : Nat) (node : Int) : Bool := decide ((ns : Int) ≤ node ∧ node < ns + ni)
theorem inodes (w : World) (P R X V U D Q : Int) (ns ni nz : Nat) (ls : List Sat4) (li lz : List Tri) (As : Option Addr) (cs : Nat) (Ai : Option Addr) (ci : Nat) (Az : Option Addr) (cz : Nat) (hs : ns ≤ 16777216) (hi : ni ≤ 16777216) :
    Calls Tryz.prog 17 #[.agg #[.int .i64 P, .slice As ns cs, .slice Ai ni ci, .int .i64 R, .int .i64 X, .int .i64 V, .int .i64 U, .int .i64 D, .slice Az nz cz, .int .i64 Q]] w (Num w (ns + ni)) := by
  go_enter Tryz.func17, Tryz.ntmps17
  go_wp2
  go_ret
  exact ⟨rfl, (Below.refl _ _).alloc (Nat.le_refl _) _⟩
theorem snodes (w : World) (P R X V U D Q : Int) (ns ni nz : Nat) (ls : List Sat4) (li lz : List Tri) (As : Option Addr) (cs : Nat) (Ai : Option Addr) (ci : Nat) (Az : Option Addr) (cz : Nat) (hs : ns ≤ 16777216) (hi : ni ≤ 16777216) :
    Calls Tryz.prog 63 #[.agg #[.int .i64 P, .slice As ns cs, .slice Ai ni ci, .int .i64 R, .int .i64 X, .int .i64 V, .int .i64 U, .int .i64 D, .slice Az nz cz, .int .i64 Q]] w (Num w (ns + ni)) := by
  go_enter Tryz.func63, Tryz.ntmps63
  go_wp2
  go_ret
  exact ⟨rfl, (Below.refl _ _).alloc (Nat.le_refl _) _⟩
/-! The type switch: closed facts -/
theorem as_ss (v : Value) (xT : TypeId) (w : World) : (Instr.typeAssert (.iface 109 v) xT 109 true).run Tryz.prog w = .ok (.tuple #[v, .bool true]) w := by kernel_rfl
theorem as_is (v : Value) (xT : TypeId) (w : World) : (Instr.typeAssert (.iface 113 v) xT 109 true).run Tryz.prog w = .ok (.tuple #[.agg #[.int .i64 0, .int .i64 0, .int .i64 0, .int .i64 0], .bool false]) w := by kernel_rfl
theorem as_ii (v : Value) (xT : TypeId) (w : World) : (Instr.typeAssert (.iface 113 v) xT 113 true).run Tryz.prog w = .ok (.tuple #[v, .bool true]) w := by kernel_rfl
theorem as_ns (xT : TypeId) (w : World) : (Instr.typeAssert .nilIface xT 109 true).run Tryz.prog w = .ok (.tuple #[.agg #[.int .i64 0, .int .i64 0, .int .i64 0, .int .i64 0], .bool false]) w := by kernel_rfl
theorem as_ni (xT : TypeId) (w : World) : (Instr.typeAssert .nilIface xT 113 true).run Tryz.prog w = .ok (.tuple #[.agg #[.int .i64 0, .int .i64 0, .int .i64 0], .bool false]) w := by kernel_rfl
theorem kind_sat (w : World) (v : Value) : Calls Tryz.prog 81 #[.iface 109 v] w fun e w' => e = .returned (.int .i64 1) ∧ w = w' := by
  have h1 := as_ss
  go_enter Tryz.func81, Tryz.ntmps81
  go_wp2
  go_ret
  exact ⟨rfl, rfl⟩
theorem kind_site (w : World) (v : Value) : Calls Tryz.prog 81 #[.iface 113 v] w fun e w' => e = .returned (.int .i64 2) ∧ w = w' := by
  have h1 := as_is; have h2 := as_ii
  go_enter Tryz.func81, Tryz.ntmps81
  go_wp2
  go_ret
  exact ⟨rfl, rfl⟩
theorem kind_none (w : World) : Calls Tryz.prog 81 #[.nilIface] w fun e w' => e = .returned (.int .i64 0) ∧ w = w' := by
  have h1 := as_ns; have h2 := as_ni
  go_enter Tryz.func81, Tryz.ntmps81
  go_wp2
  go_ret
  exact ⟨rfl, rfl⟩
/-- a node as an interface value -/
def nodeV (ls : List Sat4) (li : List Tri) (node : Int) : Value :=
  if node < 0 then .nilIface else if node < ls.length then .iface 109 (.agg #[.int .i64 (ls.getD node.toNat default).p, .int .i64 (ls.getD node.toNat default).h, .int .i64 (ls.getD node.toNat default).v, .int .i64 (ls.getD node.toNat default).e])
  else if node < ls.length + li.length then .iface 113 (.agg #[.int .i64 (li.getD (node.toNat - ls.length) default).p, .int .i64 (li.getD (node.toNat - ls.length) default).a, .int .i64 (li.getD (node.toNat - ls.length) default).b]) else .nilIface
theorem ret_val {a b : Value} (h : a = b) : Ending.returned a = .returned b := by rw [h]
/-- the three kinds of numbers -/
theorem node_cases (ls : List Sat4) (li : List Tri) (node : Int) : (∃ k : Nat, ∃ hk : k < ls.length, node = k ∧ nodeV ls li node = .iface 109 (.agg #[.int .i64 ls[k].p, .int .i64 ls[k].h, .int .i64 ls[k].v, .int .i64 ls[k].e]) ∧ planeOf ls li node = ls[k].p ∧ siteAt ls.length li.length node = false) ∨
    (∃ k : Nat, ∃ hk : k < li.length, node = (ls.length : Int) + k ∧ nodeV ls li node = .iface 113 (.agg #[.int .i64 li[k].p, .int .i64 li[k].a, .int .i64 li[k].b]) ∧ planeOf ls li node = li[k].p ∧ siteAt ls.length li.length node = true) ∨
    ((node < 0 ∨ (ls.length : Int) + li.length ≤ node) ∧ nodeV ls li node = .nilIface ∧ planeOf ls li node = -1 ∧ siteAt ls.length li.length node = false) := by
  by_cases h0 : node < 0
  · exact .inr (.inr ⟨.inl h0, by simp [nodeV, h0], by simp [planeOf, h0], by simp [siteAt]; omega⟩)
  · by_cases h1 : node < (ls.length : Int)
    · obtain ⟨k, rfl⟩ : ∃ k : Nat, node = k := ⟨node.toNat, by omega⟩
      have hk : k < ls.length := by omega
      refine .inl ⟨k, hk, rfl, ?_, ?_, by simp [siteAt]; omega⟩
      · unfold nodeV; rw [if_neg h0, if_pos h1]; simp [List.getD, List.getElem?_eq_getElem hk]
      · unfold planeOf; rw [if_neg h0, if_pos h1]; simp [List.getD, List.getElem?_eq_getElem hk]
    · by_cases h2 : node < (ls.length : Int) + li.length
      · obtain ⟨k, rfl⟩ : ∃ k : Nat, node = (ls.length : Int) + k := ⟨(node - ls.length).toNat, by omega⟩
        have hk : k < li.length := by omega
        have e : ((ls.length : Int) + (k : Int)).toNat - ls.length = k := by omega
        refine .inr (.inl ⟨k, hk, rfl, ?_, ?_, by simp [siteAt]; omega⟩)
        · unfold nodeV; rw [if_neg h0, if_neg h1, if_pos h2, e]; simp [List.getD, List.getElem?_eq_getElem hk]
        · unfold planeOf; rw [if_neg h0, if_neg h1, if_pos h2, e]; simp [List.getD, List.getElem?_eq_getElem hk]
      · exact .inr (.inr ⟨.inr (by omega), by simp [nodeV, h0, h1, h2], by simp [planeOf, h0, h1, h2], by simp [siteAt]; omega⟩)
set_option maxRecDepth 100000 in
theorem inode (w : World) (P R X V U D Q : Int) (ns ni nz : Nat) (ls : List Sat4) (li lz : List Tri) (As : Option Addr) (cs : Nat) (Ai : Option Addr) (ci : Nat) (Az : Option Addr) (cz : Nat) (D0 : Nat) (h : InSky w (D0) As ns cs Ai ni ci Az nz cz ls li lz) (hD : D0 ≤ w.heap.size) (hs : ns ≤ 16777216) (hi : ni ≤ 16777216) (node : Int) (hn : J64 node) :
    Calls Tryz.prog 82 #[.agg #[.int .i64 P, .slice As ns cs, .slice Ai ni ci, .int .i64 R, .int .i64 X, .int .i64 V, .int .i64 U, .int .i64 D, .slice Az nz cz, .int .i64 Q], .int .i64 node] w (Vals w (nodeV ls li node)) := by
  obtain rfl := h.ns_; obtain rfl := h.ni_
  have T0 := Lib.hid ((Below.refl w.heap.size w).alloc (Nat.le_refl _) (.cells #[.int .i64 P, .slice As ls.length cs, .slice Ai li.length ci, .int .i64 R, .int .i64 X, .int .i64 V, .int .i64 U, .int .i64 D, .slice Az nz cz, .int .i64 Q] 28))
  have hc1 := h.s.cap; have hc2 := h.s.capm; have hc3 := h.i.cap; have hc4 := h.i.capm
  unfold J64 at hn
  rcases node_cases ls li node with ⟨k, hk, rfl, hv, -, -⟩ | ⟨k, hk, rfl, hv, -, -⟩ | ⟨hr, hv, -, -⟩
  · rw [hv]
    obtain ⟨ad, hx, rfl, had, q0, q1, q2, q3⟩ := (h.below T0.out hD).s.four hk
    obtain ⟨e, he⟩ : ∃ e, e = ls[k] := ⟨_, rfl⟩
    rw [← he] at q0 q1 q2 q3 ⊢
    obtain ⟨x, y, z, u⟩ := e
    simp only at q0 q1 q2 q3 ⊢
    clear hv h he
    go_enter Tryz.func82, Tryz.ntmps82
    go_wp2_with fail
    refine (iinr_t _ _ _ _ (by omega) (by omega)).mono ?_
    rintro e w' ⟨rfl, rfl⟩
    go_wp2
    go_ret
    exact ⟨rfl, T0.out⟩
  · rw [hv]
    obtain ⟨ad, hx, rfl, had, -⟩ := h.i.tri hk
    have H := Lib.hid h
    obtain ⟨e, he⟩ : ∃ e, e = li[k] := ⟨_, rfl⟩
    rw [← he]
    obtain ⟨x, y, z⟩ := e
    have HE := Lib.hid he
    clear hv h he
    obtain ⟨W0, hW0⟩ : ∃ W, W = w.alloc (.cells #[.int .i64 P, .slice As ls.length cs, .slice (some ad) li.length ci, .int .i64 R, .int .i64 X, .int .i64 V, .int .i64 U, .int .i64 D, .slice Az nz cz, .int .i64 Q] 28) := ⟨_, rfl⟩
    have T0' : Hid (Below w.heap.size w W0) := Lib.hid (by rw [hW0]; exact T0.out)
    have Z0 : Hid (Blk W0 w.heap.size 28 #[.int .i64 P, .slice As ls.length cs, .slice (some ad) li.length ci, .int .i64 R, .int .i64 X, .int .i64 V, .int .i64 U, .int .i64 D, .slice Az nz cz, .int .i64 Q]) := Lib.hid (by rw [hW0]; exact Blk.new _ _ _)
    have hsz : w.heap.size < W0.heap.size := by rw [hW0]; simp
    have hwr : IntKind.i64.wrap ((ls.length : Int) + (li.length : Int) - 1) = (ls.length : Int) + (li.length : Int) - 1 := wrap_in _ (by omega) (by omega)
    go_enter Tryz.func82, Tryz.ntmps82
    go_wp2_with fail
    rw [← hW0]
    refine (iinr_f _ _ _ _ (by omega)).mono ?_
    rintro e w' ⟨rfl, rfl⟩
    have hc := Z0.out.ten
    obtain ⟨c0, c1, c2, c3, c4, c5, c6, c7, c8, c9⟩ := hc
    clear hW0 T0
    go_wp2_with fail
    go_region_held3 (fun w' => w'.cell? ⟨w.heap.size, 0, none⟩ = some (.int .i64 P) ∧ w'.cell? ⟨w.heap.size, 1, none⟩ = some (.slice As ls.length cs) ∧ w'.cell? ⟨w.heap.size, 2, none⟩ = some (.slice (some ad) li.length ci) ∧ w'.cell? ⟨w.heap.size, 3, none⟩ = some (.int .i64 R) ∧ w'.cell? ⟨w.heap.size, 4, none⟩ = some (.int .i64 X) ∧ w'.cell? ⟨w.heap.size, 5, none⟩ = some (.int .i64 V) ∧ w'.cell? ⟨w.heap.size, 6, none⟩ = some (.int .i64 U) ∧ w'.cell? ⟨w.heap.size, 7, none⟩ = some (.int .i64 D) ∧ w'.cell? ⟨w.heap.size, 8, none⟩ = some (.slice Az nz cz) ∧ w'.cell? ⟨w.heap.size, 9, none⟩ = some (.int .i64 Q)) (first | exact ⟨c0, c1, c2, c3, c4, c5, c6, c7, c8, c9⟩ | exact hcA | go_keep) (first
      | (go_at_call 17; refine (inodes _ P R X V U D Q ls.length li.length nz ls li lz As cs (some ad) ci Az cz hs hi).mono ?_; rintro e wA ⟨rfl, bA⟩; have HBA : Hid (Below W0.heap.size W0 wA) := Lib.hid (by first | exact (Below.refl _ _).drew.trans bA | exact bA); have hcA := (Z0.out.below HBA.out hsz).ten; clear bA)
      | (go_at_call 112; refine (iinr_t _ _ _ _ (by omega) (by omega)).mono ?_; rintro e w' ⟨rfl, rfl⟩))
    obtain ⟨ad', hx', e', had', q0, q1, q2⟩ := ((H.out.below T0'.out hD).below HBA.out (by omega)).i.tri hk
    injection e' with e'
    subst e'
    rw [← HE.out] at q0 q1 q2
    simp only at q0 q1 q2
    have HF := Lib.hid (T0'.out.trans (HBA.out.mono (by omega)))
    clear HE H
    go_wp2
    go_ret
    exact ⟨rfl, HF.out⟩
  · rw [hv]
    clear hv h
    obtain ⟨W0, hW0⟩ : ∃ W, W = w.alloc (.cells #[.int .i64 P, .slice As ls.length cs, .slice Ai li.length ci, .int .i64 R, .int .i64 X, .int .i64 V, .int .i64 U, .int .i64 D, .slice Az nz cz, .int .i64 Q] 28) := ⟨_, rfl⟩
    have T0' : Hid (Below w.heap.size w W0) := Lib.hid (by rw [hW0]; exact T0.out)
    have Z0 : Hid (Blk W0 w.heap.size 28 #[.int .i64 P, .slice As ls.length cs, .slice Ai li.length ci, .int .i64 R, .int .i64 X, .int .i64 V, .int .i64 U, .int .i64 D, .slice Az nz cz, .int .i64 Q]) := Lib.hid (by rw [hW0]; exact Blk.new _ _ _)
    have hsz : w.heap.size < W0.heap.size := by rw [hW0]; simp
    have hwr : IntKind.i64.wrap ((ls.length : Int) + (li.length : Int) - 1) = (ls.length : Int) + (li.length : Int) - 1 := wrap_in _ (by omega) (by omega)
    go_enter Tryz.func82, Tryz.ntmps82
    go_wp2_with fail
    rw [← hW0]
    refine (iinr_f _ _ _ _ (by omega)).mono ?_
    rintro e w' ⟨rfl, rfl⟩
    have hc := Z0.out.ten
    obtain ⟨c0, c1, c2, c3, c4, c5, c6, c7, c8, c9⟩ := hc
    clear hW0 T0
    go_wp2_with fail
    go_region_held3 (fun w' => w'.cell? ⟨w.heap.size, 0, none⟩ = some (.int .i64 P) ∧ w'.cell? ⟨w.heap.size, 1, none⟩ = some (.slice As ls.length cs) ∧ w'.cell? ⟨w.heap.size, 2, none⟩ = some (.slice Ai li.length ci) ∧ w'.cell? ⟨w.heap.size, 3, none⟩ = some (.int .i64 R) ∧ w'.cell? ⟨w.heap.size, 4, none⟩ = some (.int .i64 X) ∧ w'.cell? ⟨w.heap.size, 5, none⟩ = some (.int .i64 V) ∧ w'.cell? ⟨w.heap.size, 6, none⟩ = some (.int .i64 U) ∧ w'.cell? ⟨w.heap.size, 7, none⟩ = some (.int .i64 D) ∧ w'.cell? ⟨w.heap.size, 8, none⟩ = some (.slice Az nz cz) ∧ w'.cell? ⟨w.heap.size, 9, none⟩ = some (.int .i64 Q)) (first | exact ⟨c0, c1, c2, c3, c4, c5, c6, c7, c8, c9⟩ | exact hcA | go_keep) (first
      | (go_at_call 17; refine (inodes _ P R X V U D Q ls.length li.length nz ls li lz As cs Ai ci Az cz hs hi).mono ?_; rintro e wA ⟨rfl, bA⟩; have HBA : Hid (Below W0.heap.size W0 wA) := Lib.hid (by first | exact (Below.refl _ _).drew.trans bA | exact bA); have hcA := (Z0.out.below HBA.out hsz).ten; clear bA)
      | (go_at_call 112; refine (iinr_f _ _ _ _ (by omega)).mono ?_; rintro e w' ⟨rfl, rfl⟩))
    have HF := Lib.hid (T0'.out.trans (HBA.out.mono (by omega)))
    go_wp2
    go_ret
    exact ⟨rfl, HF.out⟩
end Go.Proofs.YtlaigbhiligceaaGreatDoor
namespace Go.Proofs.YtlaigbhiligceaaGreatDoor
open Go.ChangeShapes Go.WideShapes Go.ChangeAt Go.RowKit
set_option linter.unusedVariables false
/-- b says p (kept whole by the walk) -/
def SaysOf (b : Bool) (p : Prop) : Prop := b = true ↔ p
theorem SaysOf.t {p : Prop} (h : SaysOf true p) : p := h.1 rfl
theorem SaysOf.f {p : Prop} (h : SaysOf false p) : ¬ p := fun hp => by cases h.2 hp
theorem sat_plane (w : World) (x y z u : Int) : Calls Tryz.prog 201 #[.agg #[.int .i64 x, .int .i64 y, .int .i64 z, .int .i64 u]] w (Num w x) := by
  go_enter Tryz.func201, Tryz.ntmps201
  go_wp2
  go_ret
  exact ⟨rfl, (Below.refl _ _).alloc (Nat.le_refl _) _⟩
theorem site_plane (w : World) (x y z : Int) : Calls Tryz.prog 207 #[.agg #[.int .i64 x, .int .i64 y, .int .i64 z]] w (Num w x) := by
  go_enter Tryz.func207, Tryz.ntmps207
  go_wp2
  go_ret
  exact ⟨rfl, (Below.refl _ _).alloc (Nat.le_refl _) _⟩
set_option maxRecDepth 100000 in
theorem iplane (w : World) (P R X V U D Q : Int) (ns ni nz : Nat) (ls : List Sat4) (li lz : List Tri) (As : Option Addr) (cs : Nat) (Ai : Option Addr) (ci : Nat) (Az : Option Addr) (cz : Nat) (D0 : Nat) (h : InSky w (D0) As ns cs Ai ni ci Az nz cz ls li lz) (hD : D0 ≤ w.heap.size) (hs : ns ≤ 16777216) (hi : ni ≤ 16777216) (node : Int) (hn : J64 node) :
    Calls Tryz.prog 84 #[.agg #[.int .i64 P, .slice As ns cs, .slice Ai ni ci, .int .i64 R, .int .i64 X, .int .i64 V, .int .i64 U, .int .i64 D, .slice Az nz cz, .int .i64 Q], .int .i64 node] w (Num w (planeOf ls li node)) := by
  have T0 := Lib.hid ((Below.refl w.heap.size w).alloc (Nat.le_refl _) (.cells #[.int .i64 P, .slice As ns cs, .slice Ai ni ci, .int .i64 R, .int .i64 X, .int .i64 V, .int .i64 U, .int .i64 D, .slice Az nz cz, .int .i64 Q] 28))
  have H := Lib.hid h
  have HN := Lib.hid hn
  clear hn
  rcases node_cases ls li node with ⟨k, hk, hnode, hv, hp, -⟩ | ⟨k, hk, hnode, hv, hp, -⟩ | ⟨hr, hv, hp, -⟩
  · rw [hp]
    obtain ⟨e, he⟩ : ∃ e, e = ls[k] := ⟨_, rfl⟩
    rw [← he] at hv ⊢
    obtain ⟨x, y, z, u⟩ := e
    have HV := Lib.hid hv
    clear h hv hp he hk hnode
    go_enter Tryz.func84, Tryz.ntmps84
    go_wp2_with fail
    refine (inode _ P R X V U D Q ns ni nz ls li lz As cs Ai ci Az cz D0 (H.out.below T0.out hD) (by simp; omega) hs hi node HN.out).mono ?_
    rintro e w1 ⟨rfl, b1⟩
    rw [HV.out]
    have B1 := Lib.hid (T0.out.trans (b1.mono (by simp)))
    clear b1
    go_wp2_with fail
    refine (sat_plane _ x y z u).mono ?_
    rintro e w2 ⟨rfl, b2⟩
    have B2 := Lib.hid (B1.out.trans (b2.mono B1.out.size))
    clear b2
    go_wp2
    go_ret
    exact ⟨rfl, B2.out⟩
  · rw [hp]
    obtain ⟨e, he⟩ : ∃ e, e = li[k] := ⟨_, rfl⟩
    rw [← he] at hv ⊢
    obtain ⟨x, y, z⟩ := e
    have HV := Lib.hid hv
    clear h hv hp he hk hnode
    go_enter Tryz.func84, Tryz.ntmps84
    go_wp2_with fail
    refine (inode _ P R X V U D Q ns ni nz ls li lz As cs Ai ci Az cz D0 (H.out.below T0.out hD) (by simp; omega) hs hi node HN.out).mono ?_
    rintro e w1 ⟨rfl, b1⟩
    rw [HV.out]
    have B1 := Lib.hid (T0.out.trans (b1.mono (by simp)))
    clear b1
    go_wp2_with fail
    refine (site_plane _ x y z).mono ?_
    rintro e w2 ⟨rfl, b2⟩
    have B2 := Lib.hid (B1.out.trans (b2.mono B1.out.size))
    clear b2
    go_wp2
    go_ret
    exact ⟨rfl, B2.out⟩
  · rw [hp]
    have HV := Lib.hid hv
    clear h hv hp hr
    go_enter Tryz.func84, Tryz.ntmps84
    go_wp2_with fail
    refine (inode _ P R X V U D Q ns ni nz ls li lz As cs Ai ci Az cz D0 (H.out.below T0.out hD) (by simp; omega) hs hi node HN.out).mono ?_
    rintro e w1 ⟨rfl, b1⟩
    rw [HV.out]
    have B1 := Lib.hid (T0.out.trans (b1.mono (by simp)))
    clear b1
    go_wp2
    go_ret
    exact ⟨rfl, B1.out⟩
set_option maxRecDepth 100000 in
theorem sissite (w : World) (P R X V U D Q : Int) (ns ni nz : Nat) (ls : List Sat4) (li lz : List Tri) (As : Option Addr) (cs : Nat) (Ai : Option Addr) (ci : Nat) (Az : Option Addr) (cz : Nat) (hs : ns ≤ 16777216) (hi : ni ≤ 16777216) (node : Int) :
    Calls Tryz.prog 174 #[.agg #[.int .i64 P, .slice As ns cs, .slice Ai ni ci, .int .i64 R, .int .i64 X, .int .i64 V, .int .i64 U, .int .i64 D, .slice Az nz cz, .int .i64 Q], .int .i64 node] w (Tells w (siteAt ns ni node)) := by
  obtain ⟨W0, hW0⟩ : ∃ W, W = w.alloc (.cells #[.int .i64 P, .slice As ns cs, .slice Ai ni ci, .int .i64 R, .int .i64 X, .int .i64 V, .int .i64 U, .int .i64 D, .slice Az nz cz, .int .i64 Q] 28) := ⟨_, rfl⟩
  have T0 := Lib.hid ((Below.refl w.heap.size w).alloc (Nat.le_refl _) (.cells #[.int .i64 P, .slice As ns cs, .slice Ai ni ci, .int .i64 R, .int .i64 X, .int .i64 V, .int .i64 U, .int .i64 D, .slice Az nz cz, .int .i64 Q] 28))
  rw [← hW0] at T0
  have Z0 : Hid (Blk W0 w.heap.size 28 #[.int .i64 P, .slice As ns cs, .slice Ai ni ci, .int .i64 R, .int .i64 X, .int .i64 V, .int .i64 U, .int .i64 D, .slice Az nz cz, .int .i64 Q]) := Lib.hid (by rw [hW0]; exact Blk.new _ _ _)
  have hsz : w.heap.size < W0.heap.size := by rw [hW0]; simp
  have hwr : IntKind.i64.wrap ((ns : Int) + (ni : Int) - 1) = (ns : Int) + (ni : Int) - 1 := wrap_in _ (by omega) (by omega)
  obtain ⟨b, hb⟩ : ∃ b, b = siteAt ns ni node := ⟨_, rfl⟩
  rw [← hb]
  have hin : SaysOf b ((ns : Int) ≤ node ∧ node ≤ (ns : Int) + ni - 1) := by unfold SaysOf; rw [hb]; simp [siteAt]; omega
  clear hb
  cases b
  all_goals
    have HIN := Lib.hid hin
    clear hin
    go_enter Tryz.func174, Tryz.ntmps174
    go_wp2_with fail
    rw [← hW0]
    have hc := Z0.out.ten
    obtain ⟨c0, c1, c2, c3, c4, c5, c6, c7, c8, c9⟩ := hc
    clear hW0
    go_region_held3 (fun w' => w'.cell? ⟨w.heap.size, 0, none⟩ = some (.int .i64 P) ∧ w'.cell? ⟨w.heap.size, 1, none⟩ = some (.slice As ns cs) ∧ w'.cell? ⟨w.heap.size, 2, none⟩ = some (.slice Ai ni ci) ∧ w'.cell? ⟨w.heap.size, 3, none⟩ = some (.int .i64 R) ∧ w'.cell? ⟨w.heap.size, 4, none⟩ = some (.int .i64 X) ∧ w'.cell? ⟨w.heap.size, 5, none⟩ = some (.int .i64 V) ∧ w'.cell? ⟨w.heap.size, 6, none⟩ = some (.int .i64 U) ∧ w'.cell? ⟨w.heap.size, 7, none⟩ = some (.int .i64 D) ∧ w'.cell? ⟨w.heap.size, 8, none⟩ = some (.slice Az nz cz) ∧ w'.cell? ⟨w.heap.size, 9, none⟩ = some (.int .i64 Q)) (first | exact ⟨c0, c1, c2, c3, c4, c5, c6, c7, c8, c9⟩ | exact hcA | go_keep) (first
      | (go_at_call 63; refine (snodes _ P R X V U D Q ns ni nz ls li lz As cs Ai ci Az cz hs hi).mono ?_; rintro e wA ⟨rfl, bA⟩; have HBA : Hid (Below W0.heap.size W0 wA) := Lib.hid (by first | exact (Below.refl _ _).drew.trans bA | exact bA); have hcA := (Z0.out.below HBA.out hsz).ten; clear bA)
      | (go_at_call 91; first | (refine (sinr_t _ _ _ _ HIN.out.t.1 HIN.out.t.2).mono ?_; rintro e w' ⟨rfl, rfl⟩) | (refine (sinr_f _ _ _ _ HIN.out.f).mono ?_; rintro e w' ⟨rfl, rfl⟩)))
    have HF := Lib.hid (T0.out.trans (HBA.out.mono (by omega)))
    go_wp2
    go_ret
    exact ⟨rfl, HF.out⟩
set_option maxRecDepth 100000 in
theorem splane (w : World) (P R X V U D Q : Int) (ns ni nz : Nat) (ls : List Sat4) (li lz : List Tri) (As : Option Addr) (cs : Nat) (Ai : Option Addr) (ci : Nat) (Az : Option Addr) (cz : Nat) (D0 : Nat) (h : InSky w (D0) As ns cs Ai ni ci Az nz cz ls li lz) (hD : D0 ≤ w.heap.size) (hs : ns ≤ 16777216) (hi : ni ≤ 16777216) (node : Int) (hn : J64 node) :
    Calls Tryz.prog 178 #[.agg #[.int .i64 P, .slice As ns cs, .slice Ai ni ci, .int .i64 R, .int .i64 X, .int .i64 V, .int .i64 U, .int .i64 D, .slice Az nz cz, .int .i64 Q], .int .i64 node] w (Num w (planeOf ls li node)) := by
  have T0 := Lib.hid ((Below.refl w.heap.size w).alloc (Nat.le_refl _) (.cells #[.int .i64 P, .slice As ns cs, .slice Ai ni ci, .int .i64 R, .int .i64 X, .int .i64 V, .int .i64 U, .int .i64 D, .slice Az nz cz, .int .i64 Q] 28))
  have H := Lib.hid h
  obtain rfl := h.ns_; obtain rfl := h.ni_
  have hc1 := h.s.cap; have hc2 := h.s.capm; have hc3 := h.i.cap; have hc4 := h.i.capm
  unfold J64 at hn
  rcases node_cases ls li node with ⟨k, hk, rfl, -, hp, hsite⟩ | ⟨k, hk, rfl, -, hp, hsite⟩ | ⟨hr, -, hp, hsite⟩
  · rw [hp]
    obtain ⟨ad, hx, rfl, had, q0, q1, q2, q3⟩ := (h.below T0.out hD).s.four hk
    obtain ⟨e, he⟩ : ∃ e, e = ls[k] := ⟨_, rfl⟩
    rw [← he] at q0 q1 q2 q3 ⊢
    obtain ⟨x, y, z, u⟩ := e
    simp only at q0 q1 q2 q3 ⊢
    clear hp h he hsite
    go_enter Tryz.func178, Tryz.ntmps178
    go_wp2_with fail
    refine (sinr_t _ _ _ _ (by omega) (by omega)).mono ?_
    rintro e w' ⟨rfl, rfl⟩
    go_wp2
    go_ret
    exact ⟨rfl, T0.out⟩
  · rw [hp]
    obtain ⟨ad, hx, rfl, had, -⟩ := h.i.tri hk
    obtain ⟨e, he⟩ : ∃ e, e = li[k] := ⟨_, rfl⟩
    rw [← he]
    obtain ⟨x, y, z⟩ := e
    have HE := Lib.hid he
    obtain ⟨W0, hW0⟩ : ∃ W, W = w.alloc (.cells #[.int .i64 P, .slice As ls.length cs, .slice (some ad) li.length ci, .int .i64 R, .int .i64 X, .int .i64 V, .int .i64 U, .int .i64 D, .slice Az nz cz, .int .i64 Q] 28) := ⟨_, rfl⟩
    rw [← hW0] at T0
    have Z0 : Hid (Blk W0 w.heap.size 28 #[.int .i64 P, .slice As ls.length cs, .slice (some ad) li.length ci, .int .i64 R, .int .i64 X, .int .i64 V, .int .i64 U, .int .i64 D, .slice Az nz cz, .int .i64 Q]) := Lib.hid (by rw [hW0]; exact Blk.new _ _ _)
    have hsz : w.heap.size < W0.heap.size := by rw [hW0]; simp
    have HS := Lib.hid hsite
    clear hp h he hsite
    go_enter Tryz.func178, Tryz.ntmps178
    go_wp2_with fail
    rw [← hW0]
    refine (sinr_f _ _ _ _ (by omega)).mono ?_
    rintro e w' ⟨rfl, rfl⟩
    have hc := Z0.out.ten
    obtain ⟨c0, c1, c2, c3, c4, c5, c6, c7, c8, c9⟩ := hc
    clear hW0
    go_wp2_with fail
    refine (sissite _ P R X V U D Q ls.length li.length nz ls li lz As cs (some ad) ci Az cz hs hi _).mono ?_
    rintro e w1 ⟨rfl, b1⟩
    rw [HS.out]
    obtain ⟨d0, d1, d2, d3, d4, d5, d6, d7, d8, d9⟩ := (Z0.out.below b1 hsz).ten
    obtain ⟨ad', hx', e', had', q0, q1, q2⟩ := ((H.out.below T0.out hD).below b1 (by omega)).i.tri hk
    injection e' with e'
    subst e'
    rw [← HE.out] at q0 q1 q2
    simp only at q0 q1 q2
    have HF := Lib.hid (T0.out.trans (b1.mono (by omega)))
    clear b1 c0 c1 c2 c3 c4 c5 c6 c7 c8 c9 HE H
    go_wp2
    go_ret
    exact ⟨rfl, HF.out⟩
  · rw [hp]
    have HS := Lib.hid hsite
    clear hp h hsite
    go_enter Tryz.func178, Tryz.ntmps178
    go_wp2_with fail
    refine (sinr_f _ _ _ _ (by omega)).mono ?_
    rintro e w' ⟨rfl, rfl⟩
    go_wp2_with fail
    refine (sissite _ P R X V U D Q ls.length li.length nz ls li lz As cs Ai ci Az cz hs hi _).mono ?_
    rintro e w1 ⟨rfl, b1⟩
    rw [HS.out]
    have HF := Lib.hid (T0.out.trans (b1.mono (by simp)))
    clear b1
    go_wp2
    go_ret
    exact ⟨rfl, HF.out⟩
end Go.Proofs.YtlaigbhiligceaaGreatDoor
