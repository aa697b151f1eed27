/- SizeOf, IsSubset, Union, Overlap on both sides: what each returns; the world is as it was. -/
import Derived.Test.YtpjnjidbdpfdcaaCoA
namespace Go.Proofs.Ytpjnjidbdpfdcaa
open Go.RowKit

theorem bits_OnesCount64 (n : Int) (h0 : 0 ≤ n) (h1 : n ≤ 31) (w : World) : Calls Try.prog 62 #[.int .u64 n] w fun e w' => e = .returned (.int .i64 (Co.size n 5)) ∧ w = w' := by
 obtain ⟨m, hm⟩ : ∃ m : Fin 32, n = (m.val : Int) := ⟨⟨n.toNat, by omega⟩, by show n = ((n.toNat : Nat) : Int); omega⟩
 have Hm := Lib.hid hm
 clear hm
 go_enter Try.func62, Try.ntmps62
 go_wp2_with fail
 go_ret
 refine ⟨ret_int ?_, rfl⟩
 rw [Hm.out]
 clear Hm h0 h1 n
 revert m
 decide +kernel
theorem bits_OnesCount (n : Int) (h0 : 0 ≤ n) (h1 : n ≤ 31) (w : World) : Calls Try.prog 59 #[.int .u64 n] w fun e w' => e = .returned (.int .i64 (Co.size n 5)) ∧ w = w' := by
 go_enter Try.func59, Try.ntmps59
 go_wp2_with fail
 refine (bits_OnesCount64 n h0 h1 w).mono ?_
 rintro e w1 ⟨rfl, rfl⟩
 go_wp2_with fail
 go_ret
 exact ⟨rfl, rfl⟩
theorem impl_SizeOf (s : Int) (w : World) : Calls Try.prog 54 #[.int .i64 s] w fun e w' => e = .returned (.int .i64 (Co.size s 5)) ∧ w = w' := by
 by_cases h : s < 0
 ·
  have Hr := Lib.hid (Co.size_neg h 5)
  go_enter Try.func54, Try.ntmps54
  go_wp2_with fail
  go_ret
  exact ⟨ret_int Hr.out.symm, rfl⟩
 ·
  have hb : decide (s < 0) = false := by rw [decide_eq_false_iff_not]; exact h
  have Hr := Lib.hid (Co.size_mod (show 0 ≤ s by omega))
  have Ha := Lib.hid (Co.and31 s)
  have hm0 : 0 ≤ s % 32 := by omega
  have hm1 : s % 32 ≤ 31 := by omega
  have hq : bits .and .i64 s 31 = s % 32 := Co.and31 s
  go_enter Try.func54, Try.ntmps54
  go_wp2_with fail
  refine (bits_OnesCount _ hm0 hm1 w).mono ?_
  rintro e w1 ⟨rfl, rfl⟩
  go_wp2_with fail
  go_ret
  exact ⟨ret_int Hr.out, rfl⟩
theorem bad_right {a b : Int} (ha : Co.good a = true) (h : Co.good a = false ∨ Co.good b = false) : Co.good b = false := h.resolve_left (by rw [ha]; decide)
theorem impl_Overlap (a b : Int) (ha : Co.good a = true) (hb : Co.good b = true) (w : World) : Calls Try.prog 55 #[.int .i64 a, .int .i64 b] w fun e w' => e = .returned (.int .i64 (Co.ovl a b 5)) ∧ w = w' := by
 have Ha := Lib.hid ha
 have Hb := Lib.hid hb
 have Hr := Lib.hid (Co.ovl_is ha hb)
 clear ha hb
 go_enter Try.func55, Try.ntmps55
 go_wp2_with fail
 refine (impl_isCoalition a true Ha.out w).mono ?_
 rintro e w1 ⟨rfl, rfl⟩
 go_wp2_with fail
 refine (impl_isCoalition b true Hb.out w).mono ?_
 rintro e w1 ⟨rfl, rfl⟩
 go_wp2_with fail
 go_ret
 exact ⟨ret_int Hr.out, rfl⟩
theorem impl_Overlap_bad (a b : Int) (h : Co.good a = false ∨ Co.good b = false) (w : World) : Calls Try.prog 55 #[.int .i64 a, .int .i64 b] w fun e w' => e = .returned (.int .i64 0) ∧ w = w' := by
 rcases ha : Co.good a with _ | _
 ·
  have Ha := Lib.hid ha
  clear ha h
  go_enter Try.func55, Try.ntmps55
  go_wp2_with fail
  refine (impl_isCoalition a false Ha.out w).mono ?_
  rintro e w1 ⟨rfl, rfl⟩
  go_wp2_with fail
  go_ret
  exact ⟨rfl, rfl⟩
 ·
  have Ha := Lib.hid ha
  have Hb := Lib.hid (bad_right ha h)
  clear ha h
  go_enter Try.func55, Try.ntmps55
  go_wp2_with fail
  refine (impl_isCoalition a true Ha.out w).mono ?_
  rintro e w1 ⟨rfl, rfl⟩
  go_wp2_with fail
  refine (impl_isCoalition b false Hb.out w).mono ?_
  rintro e w1 ⟨rfl, rfl⟩
  go_wp2_with fail
  go_ret
  exact ⟨rfl, rfl⟩
def subR (a b : Int) : Bool := Co.good a && Co.good b && Co.sub a b 5
theorem sub_false {a b : Int} : ∀ {k : Nat} (n : Nat), k < n → Co.has a k = true → Co.has b k = false → Co.sub a b n = false
 | _, 0, h, _, _ => by omega
 | k, n + 1, h, h1, h2 => by
  rw [Co.sub]
  by_cases e : k = n
  ·
   subst e; simp [h1, h2]
  ·
   rw [sub_false n (by omega) h1 h2]; rfl
end Go.Proofs.Ytpjnjidbdpfdcaa
