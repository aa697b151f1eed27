/- impl.SolutionOf. -/
import Derived.Test.YtkindblhafejfaaTaG
import Derived.Test.YtkindblhafejfaaTaH
import Derived.Test.YtkindblhafejfaaQTail
import Derived.Test.YtkindblhafejfaaLpR4
namespace Go.Proofs.Ytkindblhafejfaa
open Go.RowKit
open Ve (R)
open Ta (T)
theorem cellsM_const : ∀ (L : List (List R)) (m : Nat), (∀ k, k < L.length → (rr L k).length = m) → cellsM L = L.length * m
  | [], m, _ => by simp [cellsM]
  | r :: L, m, h => by
    have h0 : r.length = m := h 0 (by simp)
    have := cellsM_const L m (fun k hk => by
      have e : rr (r :: L) (k + 1) = rr L k := by simp [rr]
      rw [← e]; exact h (k + 1) (by simpa using hk))
    simp only [cellsM, this, h0, List.length_cons, Nat.succ_mul]
    omega
/-- A tableau of the right form that is small enough has few columns. -/
theorem good_small {t : T} (h : Ta.good t = true) (hn : tabN t ≤ 1048576) : t.cols + (t.rows.length : Int) ≤ 2100 := by
  obtain ⟨g0, g1, g2, g3⟩ := Ta.good_parts h
  have hc := cellsM_const t.rows (t.cols + t.rows.length + 1).toNat (fun k hk => by have h4 := (g3 k hk).1; have h5 : Ta.row t k = rr t.rows k := rfl; rw [h5] at h4; omega)
  unfold tabN at hn
  rw [hc] at hn
  by_cases hl : t.rows.length ≤ 1030
  · omega
  · have h1 : 1031 * 1031 ≤ t.rows.length * (t.cols + t.rows.length + 1).toNat := Nat.mul_le_mul (by omega) (by omega)
    omega
end Go.Proofs.Ytkindblhafejfaa
