/- SizeOf, IsSubset, Union, Overlap on both sides: what each returns; the world is as it was. -/
import Derived.Test.YtccgebnbpfliiaaCoA
namespace Go.Proofs.Ytccgebnbpfliiaa
open Go.RowKit

theorem bits_OnesCount64 (n : Int) (h0 : 0 ≤ n) (h1 : n ≤ 31) (w : World) : Calls Try.prog 73 #[.int .u64 n] w fun e w' => e = .returned (.int .i64 (Co.size n 5)) ∧ w = w' := by
  obtain ⟨m, hm⟩ : ∃ m : Fin 32, n = (m.val : Int) := ⟨⟨n.toNat, by omega⟩, by show n = ((n.toNat : Nat) : Int); omega⟩
  have Hm := Lib.hid hm
  clear hm
  go_enter Try.func73, Try.ntmps73
  go_wp2_with fail
  go_ret
  refine ⟨ret_int ?_, rfl⟩
  rw [Hm.out]
  clear Hm h0 h1 n
  revert m
  decide +kernel
theorem bits_OnesCount (n : Int) (h0 : 0 ≤ n) (h1 : n ≤ 31) (w : World) : Calls Try.prog 61 #[.int .u64 n] w fun e w' => e = .returned (.int .i64 (Co.size n 5)) ∧ w = w' := by
  go_enter Try.func61, Try.ntmps61
  go_wp2_with fail
  refine (bits_OnesCount64 n h0 h1 w).mono ?_
  rintro e w1 ⟨rfl, rfl⟩
  go_wp2_with fail
  go_ret
  exact ⟨rfl, rfl⟩
theorem impl_SizeOf (s : Int) (w : World) : Calls Try.prog 24 #[.int .i64 s] w fun e w' => e = .returned (.int .i64 (Co.size s 5)) ∧ w = w' := by
  by_cases h : s < 0
  · have Hr := Lib.hid (Co.size_neg h 5)
    go_enter Try.func24, Try.ntmps24
    go_wp2_with fail
    go_ret
    exact ⟨ret_int Hr.out.symm, rfl⟩
  · have hb : decide (s < 0) = false := by rw [decide_eq_false_iff_not]; exact h
    have Hr := Lib.hid (Co.size_mod (show 0 ≤ s by omega))
    have Ha := Lib.hid (Co.and31 s)
    have hm0 : 0 ≤ s % 32 := by omega
    have hm1 : s % 32 ≤ 31 := by omega
    have hq : bits .and .i64 s 31 = s % 32 := Co.and31 s
    go_enter Try.func24, Try.ntmps24
    go_wp2_with fail
    refine (bits_OnesCount _ hm0 hm1 w).mono ?_
    rintro e w1 ⟨rfl, rfl⟩
    go_wp2_with fail
    go_ret
    exact ⟨ret_int Hr.out, rfl⟩
theorem spec_SizeOf (s : Int) (hs : s ≤ 9223372036854775807) (w : World) : Calls Try.prog 74 #[.int .i64 s] w fun e w' => e = .returned (.int .i64 (Co.size s 5)) ∧ w = w' := by
  go_enter Try.func74, Try.ntmps74
  go_wp2_with fail
  go_loop [3, 4] (fun o i => ∃ (k : Nat) (n : Int), k ≤ 5 ∧ 0 ≤ n ∧ n ≤ 5 ∧ Hid (n = Co.size s k) ∧ i = .int .i64 k ∧ o = .int .i64 n) (fun _ i => 5 - (intOf i).toNat)
  case atStart => exact ⟨0, 0, Nat.zero_le _, by omega, by omega, rfl, rfl, rfl⟩
  case round =>
    obtain ⟨k, n, hk, hn0, hn1, hN, rfl, rfl⟩ := hrel
    by_cases hlt : k < 5
    · rcases hh : Co.has s k with _ | _
      · have hN2 := Lib.hid (show n = Co.size s (k + 1) by rw [hN.out, Co.size_no hh])
        have Hh := Lib.hid hh
        clear hh
        go_wp2_with fail
        refine (spec_HasPlayer s hs k hlt false Hh.out w).mono ?_
        rintro e w1 ⟨rfl, rfl⟩
        go_wp2_with fail
        go_round
        case rel => exact ⟨k + 1, n, by omega, hn0, hn1, hN2, by go_num, rfl⟩
        case measure => simp [intOf]; omega
      · have hN2 := Lib.hid (show n + 1 = Co.size s (k + 1) by rw [hN.out, Co.size_yes hh])
        have hn2 : n + 1 ≤ 5 := by rw [hN2.out]; have := (Co.size_bd s (k + 1)).2; omega
        have Hh := Lib.hid hh
        clear hh
        go_wp2_with fail
        refine (spec_HasPlayer s hs k hlt true Hh.out w).mono ?_
        rintro e w1 ⟨rfl, rfl⟩
        go_wp2_with fail
        go_round
        case rel => exact ⟨k + 1, n + 1, by omega, by omega, hn2, hN2, by go_num, rfl⟩
        case measure => simp [intOf]; omega
    · have he : k = 5 := by omega
      have hf : Hid (n = Co.size s 5) := by show _ = _; rw [hN.out, he]
      clear he
      go_wp2_with fail
      go_ret
      exact ⟨ret_int hf.out, rfl⟩

theorem bad_right {a b : Int} (ha : Co.good a = true) (h : Co.good a = false ∨ Co.good b = false) : Co.good b = false := h.resolve_left (by rw [ha]; decide)
theorem impl_Union (a b : Int) (ha : Co.good a = true) (hb : Co.good b = true) (w : World) : Calls Try.prog 70 #[.int .i64 a, .int .i64 b] w fun e w' => e = .returned (.int .i64 (Co.uni a b 5)) ∧ w = w' := by
  have Ha := Lib.hid ha
  have Hb := Lib.hid hb
  have Hr := Lib.hid (Co.uni_is ha hb)
  clear ha hb
  go_enter Try.func70, Try.ntmps70
  go_wp2_with fail
  refine (impl_isCoalition a true Ha.out w).mono ?_
  rintro e w1 ⟨rfl, rfl⟩
  go_wp2_with fail
  refine (impl_isCoalition b true Hb.out w).mono ?_
  rintro e w1 ⟨rfl, rfl⟩
  go_wp2_with fail
  go_ret
  exact ⟨ret_int Hr.out, rfl⟩
theorem impl_Union_bad (a b : Int) (h : Co.good a = false ∨ Co.good b = false) (w : World) : Calls Try.prog 70 #[.int .i64 a, .int .i64 b] w fun e w' => e = .returned (.int .i64 0) ∧ w = w' := by
  rcases ha : Co.good a with _ | _
  · have Ha := Lib.hid ha
    clear ha h
    go_enter Try.func70, Try.ntmps70
    go_wp2_with fail
    refine (impl_isCoalition a false Ha.out w).mono ?_
    rintro e w1 ⟨rfl, rfl⟩
    go_wp2_with fail
    go_ret
    exact ⟨rfl, rfl⟩
  · have Ha := Lib.hid ha
    have Hb := Lib.hid (bad_right ha h)
    clear ha h
    go_enter Try.func70, Try.ntmps70
    go_wp2_with fail
    refine (impl_isCoalition a true Ha.out w).mono ?_
    rintro e w1 ⟨rfl, rfl⟩
    go_wp2_with fail
    refine (impl_isCoalition b false Hb.out w).mono ?_
    rintro e w1 ⟨rfl, rfl⟩
    go_wp2_with fail
    go_ret
    exact ⟨rfl, rfl⟩
/-- The answer of IsSubset. -/
def subR (a b : Int) : Bool := Co.good a && Co.good b && Co.sub a b 5
theorem sub_false {a b : Int} : ∀ {k : Nat} (n : Nat), k < n → Co.has a k = true → Co.has b k = false → Co.sub a b n = false
  | _, 0, h, _, _ => by omega
  | k, n + 1, h, h1, h2 => by
    rw [Co.sub]
    by_cases e : k = n
    · subst e; simp [h1, h2]
    · rw [sub_false n (by omega) h1 h2]; rfl
end Go.Proofs.Ytccgebnbpfliiaa
