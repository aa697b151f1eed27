/- slices.Grow of nil, slices.Concat at slices of fractions, impl.negated. -/
import Derived.Test.YtkindblhafejfaaTaG
import Derived.Test.YtkindblhafejfaaTaA
import Derived.Test.YtkindblhafejfaaTaKm
import Derived.Lib.AppendZeros
namespace Go.Proofs.Ytkindblhafejfaa
open Go.RowKit
open Ve (R)
open Ta (T)
set_option maxHeartbeats 1000000 in
theorem impl_negated (x : R) (w : World) : Calls Try.prog 90 #[.agg #[.int .i64 x.1, .int .i64 x.2]] w fun e w' => e = .returned (.agg #[.int .i64 (Ta.negR x).1, .int .i64 (Ta.negR x).2]) ∧ Below w.heap.size w w' := by
  rw [show (Ta.negR x).1 = Ta.w64 (-x.1) from rfl, show (Ta.negR x).2 = x.2 from rfl, ← wrap_w64]
  obtain ⟨y, hy⟩ : ∃ y, IntKind.i64.wrap (-x.1) = y := ⟨_, rfl⟩
  have Hy := Lib.hid hy
  rw [hy]
  go_enter Try.func90, Try.ntmps90
  go_wp2_with fail
  exact bodyPost_ret (v := .agg #[.int .i64 y, .int .i64 x.2]) (by simp [results, Try.results90, go_sem]) rfl ⟨rfl, by (repeat' (first | exact Below.refl _ _ | exact Nat.le_refl _ | refine Below.setCell ?_ ?_ _ | refine Below.alloc ?_ ?_ _ | refine below_drewN ?_ _ | refine Below.drew ?_ | (simp; done) | (simp; omega)))⟩
theorem flatten_len : ∀ L : List (List R), L.flatten.length = cellsM L
  | [] => rfl
  | r :: L => by simp [cellsM, flatten_len L]
theorem flatten_take (L : List (List R)) (k : Nat) (h : k < L.length) : (L.take (k + 1)).flatten = (L.take k).flatten ++ rr L k := by
  rw [List.take_add_one, rr_get h]
  simp
end Go.Proofs.Ytkindblhafejfaa
