/- The walk of FnRatText: whatever the code, the law returns true. -/
import Derived.Test.YtheggkeoheneiaaDoorRaDraw3
import Derived.Test.YtheggkeoheneiaaDoorRaParseWalk
import Derived.Test.YtheggkeoheneiaaDoorPairs
import Derived.Test.YtheggkeoheneiaaDoorBig
namespace Go.Proofs.YtheggkeoheneiaaDoor
open Go.RowKit

/-- What reading a fraction's own text gives. -/
theorem text_facts (n d : Int) : ∃ (N D : Int) (k : Bool), Ra.vld n d = k ∧ (k = true → (N == n && D == d) = true) ∧
    ∀ w, Tabs w → Calls Tryd.prog 8 #[.string ⟨(Ra.fmt n d).toArray⟩] w fun e w' => e = .returned (.tuple #[.agg #[.int .i64 N, .int .i64 D], .bool k]) ∧ Below w.heap.size w w' := by
  have hl := fmt_len n d
  rcases hv : Ra.vld n d with _ | _
  · refine ⟨0, 0, false, rfl, (fun h => by cases h), ?_⟩
    refine impl_ParseRat_bad _ (fun x y _ => ?_) (by omega)
    rw [show (ByteArray.mk (Ra.fmt n d).toArray).data.toList = Ra.fmt n d by simp, Ra.fmt_no hv]
    exact Ra.txt_ne_nil x y
  · refine ⟨n, d, true, rfl, (fun _ => by simp), ?_⟩
    exact impl_ParseRat_ok _ n d hv (by rw [← Ra.fmt_yes hv]) (by omega)
/-- What reading any short text gives, on both sides; and the text of what was read. -/
theorem read_facts (t : ByteArray) (ht : t.size ≤ 61) : ∃ (N D : Int) (k : Bool), (k = true → (Ra.fmt N D == t.toList) = true) ∧
    (∀ w, Calls Tryd.prog 12 #[.string t] w fun e w' => e = .returned (.tuple #[.agg #[.int .i64 N, .int .i64 D], .bool k]) ∧ Below w.heap.size w w') ∧
    (∀ w, Tabs w → Calls Tryd.prog 8 #[.string t] w fun e w' => e = .returned (.tuple #[.agg #[.int .i64 N, .int .i64 D], .bool k]) ∧ Below w.heap.size w w') := by
  by_cases h : ∃ n d : Int, Ra.vld n d = true ∧ Ra.txt n d = t.data.toList
  · obtain ⟨n, d, hv, he⟩ := h
    exact ⟨n, d, true, (fun _ => str_eq' (Ra.fmt_yes hv) t he), spec_ParseRat_ok t n d hv he (by omega), impl_ParseRat_ok t n d hv he (by omega)⟩
  · have hno : ∀ n d : Int, Ra.vld n d = true → Ra.txt n d ≠ t.data.toList := fun n d a b => h ⟨n, d, a, b⟩
    exact ⟨0, 0, false, (fun h => by cases h), spec_ParseRat_bad t hno (by omega), impl_ParseRat_bad t hno (by omega)⟩
/-- Where a valid fraction lies, in the tests' words. -/
theorem floor_facts (n d f : Int) (hf : Ra.flo n d = f) (h : Ra.vld n d = true) : -1000000000 ≤ f ∧ f ≤ 1000000000 ∧ (-1000000000000000000 ≤ f * d ∧ f * d ≤ 1000000000000000000) ∧ (-2000000000000000000 ≤ (f + 1) * d ∧ (f + 1) * d ≤ 2000000000000000000) ∧
    decide (f * d ≤ n) = true ∧ decide (n < (f + 1) * d) = true ∧ ((Ra.vld n d && d == 1) == (f * d == n)) = true := by
  have v := Ra.vld_yes h
  obtain ⟨v1, v2, v3, v4, v5⟩ := v
  rw [Ra.flo_yes h] at hf
  subst hf
  have e1 := Int.emod_add_mul_ediv n d
  have e2 := Int.emod_nonneg n (show d ≠ 0 by omega)
  have e3 := Int.emod_lt_of_pos n (show 0 < d by omega)
  have e4 : n / d * d = d * (n / d) := Int.mul_comm _ _
  have f1 : -1000000000 ≤ n / d := by
    have := Int.le_ediv_of_mul_le (show 0 < d by omega) (show -1000000000 * d ≤ n by
      rcases Int.lt_or_le n 0 with h0 | h0
      · have : -1000000000 * d ≤ -1000000000 * 1 := Int.mul_le_mul_of_nonpos_left (by omega) (by omega)
        omega
      · have : -1000000000 * d ≤ -1000000000 * 1 := Int.mul_le_mul_of_nonpos_left (by omega) (by omega)
        omega)
    exact this
  have f2 : n / d ≤ 1000000000 := by
    have := Int.ediv_le_self (a := 1000000000) d (by omega)
    exact Int.le_trans (Int.ediv_le_ediv (by omega) v4) this
  have m1 := Ra.mul_bd (n / d) d f1 f2 (by omega) v2
  have m2 : (n / d + 1) * d = n / d * d + d := by rw [Int.add_mul, Int.one_mul]
  refine ⟨f1, f2, m1, by omega, by rw [decide_eq_true_iff]; omega, by rw [decide_eq_true_iff]; omega, ?_⟩
  rw [h, beq_iff_eq, Bool.eq_iff_iff]
  simp only [Bool.true_and, beq_iff_eq]
  constructor
  · rintro rfl; omega
  · intro h0
    have hd : d ∣ n := ⟨n / d, by omega⟩
    have h1 := Int.gcd_eq_natAbs_right_iff_dvd.2 hd
    omega
end Go.Proofs.YtheggkeoheneiaaDoor
