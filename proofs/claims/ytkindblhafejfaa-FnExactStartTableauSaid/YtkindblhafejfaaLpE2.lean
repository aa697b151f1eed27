/- spec.IsFeasible. -/
import Derived.Test.YtkindblhafejfaaLpE
namespace Go.Proofs.Ytkindblhafejfaa
open Go.RowKit
open Ve (R)
open Lp (P)
theorem b_len {p : P} (h : Lp.vldP p = true) : p.A.length ≤ p.B.length := by have := (Lp.vld_parts h).2.2.2.1; omega
end Go.Proofs.Ytkindblhafejfaa
