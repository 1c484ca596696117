/- What two calls with one answer have in common: for the exact laws. -/
import Derived.Test.YtjobjjmeneddnaaCopies
namespace Go.Proofs.Ytjobjjmeneddnaa
open Go.RowKit
theorem bounds64 {z : Int} (h : (Lit.int .i64 z).wf = true) : -9223372036854775808 ≤ z ∧ z ≤ 9223372036854775807 := by
  simp [Lit.wf, IntKind.min, IntKind.max, IntKind.bits, IntKind.signed] at h
  omega
end Go.Proofs.Ytjobjjmeneddnaa
