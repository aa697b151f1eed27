/- CountCoalitions, HasPlayer, SizeOf, IsSubset, Union, Overlap on both sides: what each returns; the world is as it was. -/
import Derived.Test.YtpjnjidbdpfdcaaChecked
import Derived.Test.YtpjnjidbdpfdcaaGM
import Derived.Handy
import Derived.LoopTactic
import Derived.Outline
import Derived.Lib.Hide
import Derived.WalkSpells
import Derived.WalkLawsBesides
import Derived.IntWalk
namespace Go.Proofs.Ytpjnjidbdpfdcaa
open Go.RowKit

theorem ret_int {k : IntKind} {a b : Int} (h : a = b) : Ending.returned (.int k a) = .returned (.int k b) := by rw [h]
theorem ret_bool {a b : Bool} (h : a = b) : Ending.returned (.bool a) = .returned (.bool b) := by rw [h]

theorem spec_l1In (x a b : Int) (r : Bool) (h : decide (a ≤ x ∧ x ≤ b) = r) (w : World) : Calls Try.prog 45 #[.int .i64 x, .int .i64 a, .int .i64 b] w fun e w' => e = .returned (.bool r) ∧ w = w' := by
 by_cases h1 : a ≤ x
 ·
  have hb1 : decide (a ≤ x) = true := by rw [decide_eq_true_iff]; exact h1
  have H := Lib.hid (show decide (x ≤ b) = r by rw [← h]; simp [h1])
  clear h
  go_enter Try.func45, Try.ntmps45
  go_wp2_with fail
  go_ret
  exact ⟨ret_bool H.out, rfl⟩
 ·
  have hb1 : decide (a ≤ x) = false := by rw [decide_eq_false_iff_not]; exact h1
  have H := Lib.hid (show false = r by rw [← h]; simp [h1])
  clear h
  go_enter Try.func45, Try.ntmps45
  go_wp2_with fail
  go_ret
  exact ⟨ret_bool H.out, rfl⟩
theorem impl_isCoalition (s : Int) (b : Bool) (h : Co.good s = b) (w : World) : Calls Try.prog 60 #[.int .i64 s] w fun e w' => e = .returned (.bool b) ∧ w = w' := by
 have H := Lib.hid h
 clear h
 by_cases h1 : 0 ≤ s
 ·
  have hb1 : decide (0 ≤ s) = true := by rw [decide_eq_true_iff]; exact h1
  have H2 : Hid (decide (s ≤ 31) = b) := by show _ = _; rw [← H.out]; unfold Co.good; simp [h1]
  go_enter Try.func60, Try.ntmps60
  go_wp2_with fail
  go_ret
  exact ⟨ret_bool H2.out, rfl⟩
 ·
  have hb1 : decide (0 ≤ s) = false := by rw [decide_eq_false_iff_not]; exact h1
  have H2 : Hid (false = b) := by show _ = _; rw [← H.out]; unfold Co.good; simp [h1]
  go_enter Try.func60, Try.ntmps60
  go_wp2_with fail
  go_ret
  exact ⟨ret_bool H2.out, rfl⟩
theorem spec_CountCoalitions (n : Nat) (hn : n ≤ 5) (w : World) : Calls Try.prog 46 #[.int .i64 n] w fun e w' => e = .returned (.int .i64 ((2 ^ n : Nat) : Int)) ∧ w = w' := by
 have hd : decide ((0 : Int) ≤ (n : Int) ∧ (n : Int) ≤ 5) = true := by rw [decide_eq_true_iff]; omega
 have Hd := Lib.hid hd
 clear hd
 go_enter Try.func46, Try.ntmps46
 go_wp2_with fail
 refine (spec_l1In n 0 5 true Hd.out w).mono ?_
 rintro e w1 ⟨rfl, rfl⟩
 go_wp2_with fail
 go_loop [3, 4] (fun o i => ∃ k p : Nat, k ≤ n ∧ p ≤ 32 ∧ Hid (p = 2 ^ k) ∧ i = .int .i64 k ∧ o = .int .i64 p) (fun _ i => n - (intOf i).toNat)
 case atStart => exact ⟨0, 1, Nat.zero_le _, by omega, rfl, rfl, rfl⟩
 case round =>
  obtain ⟨k, p, hk, hp, hP, rfl, rfl⟩ := hrel
  by_cases hlt : k < n
  ·
   have hp2 : p * 2 ≤ 32 := by
    have h1 : 2 ^ k ≤ 2 ^ 4 := Nat.pow_le_pow_right (by decide) (by omega)
    rw [← hP.out] at h1
    omega
   have hP2 : Hid (p * 2 = 2 ^ (k + 1)) := by show _ = _; rw [hP.out, Nat.pow_succ]
   go_wp2_with fail
   go_round
   case rel => exact ⟨k + 1, p * 2, by omega, hp2, hP2, by go_num, by go_num⟩
   case measure => simp [intOf]; omega
  ·
   have he : k = n := by omega
   have hf : Hid (p = 2 ^ n) := by show _ = _; rw [hP.out, he]
   clear he
   go_wp2_with fail
   go_ret
   exact ⟨ret_int (by rw [hf.out]; simp), rfl⟩
theorem spec_CountCoalitions_out (n : Int) (hn : n < 0 ∨ 5 < n) (w : World) : Calls Try.prog 46 #[.int .i64 n] w fun e w' => e = .returned (.int .i64 0) ∧ w = w' := by
 have Hd := Lib.hid (show decide ((0 : Int) ≤ n ∧ n ≤ 5) = false by rw [decide_eq_false_iff_not]; omega)
 clear hn
 go_enter Try.func46, Try.ntmps46
 go_wp2_with fail
 refine (spec_l1In n 0 5 false Hd.out w).mono ?_
 rintro e w1 ⟨rfl, rfl⟩
 go_wp2_with fail
 go_ret
 exact ⟨rfl, rfl⟩
theorem impl_CountCoalitions (n : Nat) (hn : n ≤ 5) (w : World) : Calls Try.prog 52 #[.int .i64 n] w fun e w' => e = .returned (.int .i64 ((2 ^ n : Nat) : Int)) ∧ w = w' := by
 have h : n = 0 ∨ n = 1 ∨ n = 2 ∨ n = 3 ∨ n = 4 ∨ n = 5 := by omega
 clear hn
 rcases h with rfl | rfl | rfl | rfl | rfl | rfl
 all_goals
  go_enter Try.func52, Try.ntmps52
  go_wp2_with fail
  go_ret
  exact ⟨rfl, rfl⟩
theorem impl_CountCoalitions_out (n : Int) (hn : n < 0 ∨ 5 < n) (h0 : -9223372036854775808 ≤ n) (h1 : n ≤ 9223372036854775807) (w : World) : Calls Try.prog 52 #[.int .i64 n] w fun e w' => e = .returned (.int .i64 0) ∧ w = w' := by
 by_cases hm : n = -9223372036854775808
 ·
  subst hm
  have hw : wrap64 (-9223372036854775809) = 9223372036854775807 := by decide +kernel
  clear hn h0 h1
  go_enter Try.func52, Try.ntmps52
  go_wp2_with fail
  go_ret
  exact ⟨rfl, rfl⟩
 ·
  have h2 : -9223372036854775807 ≤ n := by omega
  have e0 : (n == 0) = false := by rw [beq_eq_false_iff_ne]; omega
  have e1 : (n - 1 == 4) = false := by rw [beq_eq_false_iff_ne]; omega
  have e2 : (n - 1 == 3) = false := by rw [beq_eq_false_iff_ne]; omega
  have e3 : (n - 1 == 2) = false := by rw [beq_eq_false_iff_ne]; omega
  have e4 : (n - 1 == 1) = false := by rw [beq_eq_false_iff_ne]; omega
  have e5 : (n - 1 == 0) = false := by rw [beq_eq_false_iff_ne]; omega
  clear hn h0 hm
  go_enter Try.func52, Try.ntmps52
  go_wp2_with fail
  go_ret
  exact ⟨rfl, rfl⟩
theorem spec_l2Bit (k : Nat) (hk : k ≤ 5) (w : World) : Calls Try.prog 47 #[.int .i64 k] w fun e w' => e = .returned (.int .i64 ((2 ^ k : Nat) : Int)) ∧ w = w' := by
 go_enter Try.func47, Try.ntmps47
 go_wp2_with fail
 refine (spec_CountCoalitions k hk w).mono ?_
 rintro e w1 ⟨rfl, rfl⟩
 go_wp2_with fail
 go_ret
 exact ⟨rfl, rfl⟩
theorem spec_HasPlayer (s : Int) (hs : s ≤ 9223372036854775807) (k : Nat) (hk : k < 5) (b : Bool) (h : Co.has s k = b) (w : World) : Calls Try.prog 24 #[.int .i64 s, .int .i64 k] w fun e w' => e = .returned (.bool b) ∧ w = w' := by
 have H := Lib.hid h
 have Hd := Lib.hid (show decide ((0 : Int) ≤ (k : Int) ∧ (k : Int) ≤ 4) = true by rw [decide_eq_true_iff]; omega)
 clear h
 by_cases h1 : 0 ≤ s
 ·
  have hb1 : decide (0 ≤ s) = true := by rw [decide_eq_true_iff]; exact h1
  have hp : 2 ^ k = 1 ∨ 2 ^ k = 2 ∨ 2 ^ k = 4 ∨ 2 ^ k = 8 ∨ 2 ^ k = 16 := by
   have hk' : k = 0 ∨ k = 1 ∨ k = 2 ∨ k = 3 ∨ k = 4 := by omega
   rcases hk' with rfl | rfl | rfl | rfl | rfl <;> decide
  obtain ⟨P, hP⟩ : ∃ P : Nat, P = 2 ^ k := ⟨_, rfl⟩
  rw [← hP] at hp
  have H2 : Hid ((s / (P : Int) % 2 == 1) = b) := by show _ = _; rw [← H.out, Co.has_pos h1, hP]; simp
  have HP := Lib.hid hP
  clear hP
  rcases hp with rfl | rfl | rfl | rfl | rfl
  all_goals
   go_enter Try.func24, Try.ntmps24
   go_wp2_with fail
   refine (spec_l1In k 0 4 true Hd.out w).mono ?_
   rintro e w1 ⟨rfl, rfl⟩
   go_wp2_with fail
   refine (spec_l2Bit k (by omega) w).mono ?_
   rw [← HP.out]
   rintro e w1 ⟨rfl, rfl⟩
   go_wp2_with fail
   go_ret
   exact ⟨ret_bool (by first | exact H2.out | simpa using H2.out), rfl⟩
 ·
  have hb1 : decide (0 ≤ s) = false := by rw [decide_eq_false_iff_not]; exact h1
  have H2 : Hid (false = b) := by show _ = _; rw [← H.out, Co.has_neg (by omega)]
  go_enter Try.func24, Try.ntmps24
  go_wp2_with fail
  refine (spec_l1In k 0 4 true Hd.out w).mono ?_
  rintro e w1 ⟨rfl, rfl⟩
  go_wp2_with fail
  go_ret
  exact ⟨ret_bool H2.out, rfl⟩
theorem spec_HasPlayer_out (s k : Int) (hk : k < 0 ∨ 4 < k) (w : World) : Calls Try.prog 24 #[.int .i64 s, .int .i64 k] w fun e w' => e = .returned (.bool false) ∧ w = w' := by
 have Hd := Lib.hid (show decide ((0 : Int) ≤ k ∧ k ≤ 4) = false by rw [decide_eq_false_iff_not]; omega)
 clear hk
 go_enter Try.func24, Try.ntmps24
 go_wp2_with fail
 refine (spec_l1In k 0 4 false Hd.out w).mono ?_
 rintro e w1 ⟨rfl, rfl⟩
 go_wp2_with fail
 go_ret
 exact ⟨rfl, rfl⟩
end Go.Proofs.Ytpjnjidbdpfdcaa
