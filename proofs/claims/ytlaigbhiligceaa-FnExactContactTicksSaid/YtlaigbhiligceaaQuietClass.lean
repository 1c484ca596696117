/- A region that draws its order, whose operations only read and whose callees leave a class of worlds alone: one walk, in the order of the text. No program. -/
import Derived.BigQuiet
import Derived.WalkKit
namespace Go.Proofs.Ytlaigbhiligceaa
/-- a world of a class -/
structure Wld (C : World → Prop) where
  w : World
  h : C w
theorem wp_region_quiet_cls {P : Program} {C : World → Prop} {id : Nat} {Q : Exit → Act → World → Prop} {a : Act} {w : World} {l : List Oper} (hm : P.follows .mixedOrders = true) (hB : Region.lexB .any l.toArray = true) (hC : C w.drew)
    (h : wpQuiet P l.toArray C (fun a' => ∀ w', C w' → Q .normal a' w') l a) : (Code.region id l.toArray true).wp P Q a w :=
  wp_region_quiet hm hB hC (by simpa using h)
end Go.Proofs.Ytlaigbhiligceaa
