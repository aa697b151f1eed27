/- SizeOf, IsSubset, Union, Overlap on both sides: what each returns; the world is as it was. -/
import Derived.Test.YtodjapljoimkgaaCoA
namespace Go.Proofs.Ytodjapljoimkgaa
open Go.RowKit

theorem spec_SizeOf (s : Int) (hs : s ≤ 9223372036854775807) (w : World) : Calls Try.prog 73 #[.int .i64 s] w fun e w' => e = .returned (.int .i64 (Co.size s 5)) ∧ w = w' := by
  go_enter Try.func73, Try.ntmps73
  go_wp2_with fail
  go_loop [3, 4] (fun o i => ∃ (k : Nat) (n : Int), k ≤ 5 ∧ 0 ≤ n ∧ n ≤ 5 ∧ Hid (n = Co.size s k) ∧ i = .int .i64 k ∧ o = .int .i64 n) (fun _ i => 5 - (intOf i).toNat)
  case atStart => exact ⟨0, 0, Nat.zero_le _, by omega, by omega, rfl, rfl, rfl⟩
  case round =>
    obtain ⟨k, n, hk, hn0, hn1, hN, rfl, rfl⟩ := hrel
    by_cases hlt : k < 5
    · rcases hh : Co.has s k with _ | _
      · have hN2 := Lib.hid (show n = Co.size s (k + 1) by rw [hN.out, Co.size_no hh])
        have Hh := Lib.hid hh
        clear hh
        go_wp2_with fail
        refine (spec_HasPlayer s hs k hlt false Hh.out w).mono ?_
        rintro e w1 ⟨rfl, rfl⟩
        go_wp2_with fail
        go_round
        case rel => exact ⟨k + 1, n, by omega, hn0, hn1, hN2, by go_num, rfl⟩
        case measure => simp [intOf]; omega
      · have hN2 := Lib.hid (show n + 1 = Co.size s (k + 1) by rw [hN.out, Co.size_yes hh])
        have hn2 : n + 1 ≤ 5 := by rw [hN2.out]; have := (Co.size_bd s (k + 1)).2; omega
        have Hh := Lib.hid hh
        clear hh
        go_wp2_with fail
        refine (spec_HasPlayer s hs k hlt true Hh.out w).mono ?_
        rintro e w1 ⟨rfl, rfl⟩
        go_wp2_with fail
        go_round
        case rel => exact ⟨k + 1, n + 1, by omega, by omega, hn2, hN2, by go_num, rfl⟩
        case measure => simp [intOf]; omega
    · have he : k = 5 := by omega
      have hf : Hid (n = Co.size s 5) := by show _ = _; rw [hN.out, he]
      clear he
      go_wp2_with fail
      go_ret
      exact ⟨ret_int hf.out, rfl⟩

theorem bad_right {a b : Int} (ha : Co.good a = true) (h : Co.good a = false ∨ Co.good b = false) : Co.good b = false := h.resolve_left (by rw [ha]; decide)
theorem impl_Union (a b : Int) (ha : Co.good a = true) (hb : Co.good b = true) (w : World) : Calls Try.prog 19 #[.int .i64 a, .int .i64 b] w fun e w' => e = .returned (.int .i64 (Co.uni a b 5)) ∧ w = w' := by
  have Ha := Lib.hid ha
  have Hb := Lib.hid hb
  have Hr := Lib.hid (Co.uni_is ha hb)
  clear ha hb
  go_enter Try.func19, Try.ntmps19
  go_wp2_with fail
  refine (impl_isCoalition a true Ha.out w).mono ?_
  rintro e w1 ⟨rfl, rfl⟩
  go_wp2_with fail
  refine (impl_isCoalition b true Hb.out w).mono ?_
  rintro e w1 ⟨rfl, rfl⟩
  go_wp2_with fail
  go_ret
  exact ⟨ret_int Hr.out, rfl⟩
theorem impl_Union_bad (a b : Int) (h : Co.good a = false ∨ Co.good b = false) (w : World) : Calls Try.prog 19 #[.int .i64 a, .int .i64 b] w fun e w' => e = .returned (.int .i64 0) ∧ w = w' := by
  rcases ha : Co.good a with _ | _
  · have Ha := Lib.hid ha
    clear ha h
    go_enter Try.func19, Try.ntmps19
    go_wp2_with fail
    refine (impl_isCoalition a false Ha.out w).mono ?_
    rintro e w1 ⟨rfl, rfl⟩
    go_wp2_with fail
    go_ret
    exact ⟨rfl, rfl⟩
  · have Ha := Lib.hid ha
    have Hb := Lib.hid (bad_right ha h)
    clear ha h
    go_enter Try.func19, Try.ntmps19
    go_wp2_with fail
    refine (impl_isCoalition a true Ha.out w).mono ?_
    rintro e w1 ⟨rfl, rfl⟩
    go_wp2_with fail
    refine (impl_isCoalition b false Hb.out w).mono ?_
    rintro e w1 ⟨rfl, rfl⟩
    go_wp2_with fail
    go_ret
    exact ⟨rfl, rfl⟩
theorem impl_Overlap (a b : Int) (ha : Co.good a = true) (hb : Co.good b = true) (w : World) : Calls Try.prog 20 #[.int .i64 a, .int .i64 b] w fun e w' => e = .returned (.int .i64 (Co.ovl a b 5)) ∧ w = w' := by
  have Ha := Lib.hid ha
  have Hb := Lib.hid hb
  have Hr := Lib.hid (Co.ovl_is ha hb)
  clear ha hb
  go_enter Try.func20, Try.ntmps20
  go_wp2_with fail
  refine (impl_isCoalition a true Ha.out w).mono ?_
  rintro e w1 ⟨rfl, rfl⟩
  go_wp2_with fail
  refine (impl_isCoalition b true Hb.out w).mono ?_
  rintro e w1 ⟨rfl, rfl⟩
  go_wp2_with fail
  go_ret
  exact ⟨ret_int Hr.out, rfl⟩
theorem impl_Overlap_bad (a b : Int) (h : Co.good a = false ∨ Co.good b = false) (w : World) : Calls Try.prog 20 #[.int .i64 a, .int .i64 b] w fun e w' => e = .returned (.int .i64 0) ∧ w = w' := by
  rcases ha : Co.good a with _ | _
  · have Ha := Lib.hid ha
    clear ha h
    go_enter Try.func20, Try.ntmps20
    go_wp2_with fail
    refine (impl_isCoalition a false Ha.out w).mono ?_
    rintro e w1 ⟨rfl, rfl⟩
    go_wp2_with fail
    go_ret
    exact ⟨rfl, rfl⟩
  · have Ha := Lib.hid ha
    have Hb := Lib.hid (bad_right ha h)
    clear ha h
    go_enter Try.func20, Try.ntmps20
    go_wp2_with fail
    refine (impl_isCoalition a true Ha.out w).mono ?_
    rintro e w1 ⟨rfl, rfl⟩
    go_wp2_with fail
    refine (impl_isCoalition b false Hb.out w).mono ?_
    rintro e w1 ⟨rfl, rfl⟩
    go_wp2_with fail
    go_ret
    exact ⟨rfl, rfl⟩
theorem spec_Union (a b : Int) (ha : Co.good a = true) (hb : Co.good b = true) (w : World) : Calls Try.prog 68 #[.int .i64 a, .int .i64 b] w fun e w' => e = .returned (.int .i64 (Co.uni a b 5)) ∧ w = w' := by
  have ha1 := (Co.good_yes ha).2
  have hb1 := (Co.good_yes hb).2
  have Ha := Lib.hid ha
  have Hb := Lib.hid hb
  clear ha hb
  go_enter Try.func68, Try.ntmps68
  go_wp2_with fail
  go_loop [5, 6] (fun o i => ∃ (k : Nat) (n : Int), k ≤ 5 ∧ 0 ≤ n ∧ n ≤ 80 ∧ Hid (n = Co.uni a b k) ∧ i = .int .i64 k ∧ o = .int .i64 n) (fun _ i => 5 - (intOf i).toNat)
  case atStart => exact ⟨0, 0, Nat.zero_le _, by omega, by omega, rfl, rfl, rfl⟩
  case round =>
    obtain ⟨k, n, hk, hn0, hn1, hN, rfl, rfl⟩ := hrel
    by_cases hlt : k < 5
    · have hp := Co.two_pow k hlt
      have hpw : ((2 ^ k : Nat) : Int) = (2 : Int) ^ k := by simp
      have hp1 : 1 ≤ 2 ^ k := Nat.one_le_two_pow
      have hp2 : 2 ^ k ≤ 16 := by omega
      obtain ⟨P, hP⟩ : ∃ P : Nat, P = 2 ^ k := ⟨_, rfl⟩
      rw [← hP] at hp1 hp2 hpw
      have HP := Lib.hid hP
      clear hP
      rcases hha : Co.has a k with _ | _ <;> rcases hhb : Co.has b k with _ | _
      · have hN2 := Lib.hid (show n = Co.uni a b (k + 1) by rw [Co.uni, ← hN.out]; simp [hha, hhb])
        have hbd : n ≤ 80 := by rw [hN2.out]; have := (Co.uni_bd a b (k + 1) (by omega)).2; omega
        have Hha := Lib.hid hha
        have Hhb := Lib.hid hhb
        clear hha hhb hp hpw
        go_wp2_with fail
        refine (spec_l2Good a true Ha.out w).mono ?_
        rintro e w1 ⟨rfl, rfl⟩
        go_wp2_with fail
        refine (spec_l2Good b true Hb.out w).mono ?_
        rintro e w1 ⟨rfl, rfl⟩
        go_wp2_with fail
        refine (spec_HasPlayer a (by omega) k hlt false Hha.out w).mono ?_
        rintro e w1 ⟨rfl, rfl⟩
        go_wp2_with fail
        refine (spec_HasPlayer b (by omega) k hlt false Hhb.out w).mono ?_
        rintro e w1 ⟨rfl, rfl⟩
        go_wp2_with fail
        go_round
        case rel => exact ⟨k + 1, n, by omega, by omega, hbd, hN2, by go_num, rfl⟩
        case measure => simp [intOf]; omega
      · have hN2 := Lib.hid (show n + (P : Int) = Co.uni a b (k + 1) by rw [Co.uni, ← hN.out]; simp [hha, hhb, hpw])
        have hbd : n + (P : Int) ≤ 80 := by rw [hN2.out]; have := (Co.uni_bd a b (k + 1) (by omega)).2; omega
        have Hha := Lib.hid hha
        have Hhb := Lib.hid hhb
        clear hha hhb hp hpw
        go_wp2_with fail
        refine (spec_l2Good a true Ha.out w).mono ?_
        rintro e w1 ⟨rfl, rfl⟩
        go_wp2_with fail
        refine (spec_l2Good b true Hb.out w).mono ?_
        rintro e w1 ⟨rfl, rfl⟩
        go_wp2_with fail
        refine (spec_HasPlayer a (by omega) k hlt false Hha.out w).mono ?_
        rintro e w1 ⟨rfl, rfl⟩
        go_wp2_with fail
        refine (spec_HasPlayer b (by omega) k hlt true Hhb.out w).mono ?_
        rintro e w1 ⟨rfl, rfl⟩
        go_wp2_with fail
        refine (spec_l2Bit k (by omega) w).mono ?_
        rw [← HP.out]
        rintro e w1 ⟨rfl, rfl⟩
        go_wp2_with fail
        go_round
        case rel => exact ⟨k + 1, n + (P : Int), by omega, by omega, hbd, hN2, by go_num, rfl⟩
        case measure => simp [intOf]; omega
      · have hN2 := Lib.hid (show n + (P : Int) = Co.uni a b (k + 1) by rw [Co.uni, ← hN.out]; simp [hha, hhb, hpw])
        have hbd : n + (P : Int) ≤ 80 := by rw [hN2.out]; have := (Co.uni_bd a b (k + 1) (by omega)).2; omega
        have Hha := Lib.hid hha
        have Hhb := Lib.hid hhb
        clear hha hhb hp hpw
        go_wp2_with fail
        refine (spec_l2Good a true Ha.out w).mono ?_
        rintro e w1 ⟨rfl, rfl⟩
        go_wp2_with fail
        refine (spec_l2Good b true Hb.out w).mono ?_
        rintro e w1 ⟨rfl, rfl⟩
        go_wp2_with fail
        refine (spec_HasPlayer a (by omega) k hlt true Hha.out w).mono ?_
        rintro e w1 ⟨rfl, rfl⟩
        go_wp2_with fail
        refine (spec_l2Bit k (by omega) w).mono ?_
        rw [← HP.out]
        rintro e w1 ⟨rfl, rfl⟩
        go_wp2_with fail
        go_round
        case rel => exact ⟨k + 1, n + (P : Int), by omega, by omega, hbd, hN2, by go_num, rfl⟩
        case measure => simp [intOf]; omega
      · have hN2 := Lib.hid (show n + (P : Int) = Co.uni a b (k + 1) by rw [Co.uni, ← hN.out]; simp [hha, hhb, hpw])
        have hbd : n + (P : Int) ≤ 80 := by rw [hN2.out]; have := (Co.uni_bd a b (k + 1) (by omega)).2; omega
        have Hha := Lib.hid hha
        have Hhb := Lib.hid hhb
        clear hha hhb hp hpw
        go_wp2_with fail
        refine (spec_l2Good a true Ha.out w).mono ?_
        rintro e w1 ⟨rfl, rfl⟩
        go_wp2_with fail
        refine (spec_l2Good b true Hb.out w).mono ?_
        rintro e w1 ⟨rfl, rfl⟩
        go_wp2_with fail
        refine (spec_HasPlayer a (by omega) k hlt true Hha.out w).mono ?_
        rintro e w1 ⟨rfl, rfl⟩
        go_wp2_with fail
        refine (spec_l2Bit k (by omega) w).mono ?_
        rw [← HP.out]
        rintro e w1 ⟨rfl, rfl⟩
        go_wp2_with fail
        go_round
        case rel => exact ⟨k + 1, n + (P : Int), by omega, by omega, hbd, hN2, by go_num, rfl⟩
        case measure => simp [intOf]; omega
    · have he : k = 5 := by omega
      have hf : Hid (n = Co.uni a b 5) := by show _ = _; rw [hN.out, he]
      clear he
      go_wp2_with fail
      go_ret
      exact ⟨ret_int hf.out, rfl⟩
theorem spec_Union_bad (a b : Int) (h : Co.good a = false ∨ Co.good b = false) (w : World) : Calls Try.prog 68 #[.int .i64 a, .int .i64 b] w fun e w' => e = .returned (.int .i64 0) ∧ w = w' := by
  rcases ha : Co.good a with _ | _
  · have Ha := Lib.hid ha
    clear ha h
    go_enter Try.func68, Try.ntmps68
    go_wp2_with fail
    go_loop [5, 6] (fun o i => o = .int .i64 0 ∧ i = .int .i64 0) (fun _ i => 5 - (intOf i).toNat)
    case atStart => exact ⟨rfl, rfl⟩
    case round =>
      obtain ⟨rfl, rfl⟩ := hrel
      go_wp2_with fail
      refine (spec_l2Good a false Ha.out w).mono ?_
      rintro e w1 ⟨rfl, rfl⟩
      go_wp2_with fail
      go_ret
      exact ⟨rfl, rfl⟩
  · have Ha := Lib.hid ha
    have Hb := Lib.hid (bad_right ha h)
    clear ha h
    go_enter Try.func68, Try.ntmps68
    go_wp2_with fail
    go_loop [5, 6] (fun o i => o = .int .i64 0 ∧ i = .int .i64 0) (fun _ i => 5 - (intOf i).toNat)
    case atStart => exact ⟨rfl, rfl⟩
    case round =>
      obtain ⟨rfl, rfl⟩ := hrel
      go_wp2_with fail
      refine (spec_l2Good a true Ha.out w).mono ?_
      rintro e w1 ⟨rfl, rfl⟩
      go_wp2_with fail
      refine (spec_l2Good b false Hb.out w).mono ?_
      rintro e w1 ⟨rfl, rfl⟩
      go_wp2_with fail
      go_ret
      exact ⟨rfl, rfl⟩
theorem spec_Overlap (a b : Int) (ha : Co.good a = true) (hb : Co.good b = true) (w : World) : Calls Try.prog 67 #[.int .i64 a, .int .i64 b] w fun e w' => e = .returned (.int .i64 (Co.ovl a b 5)) ∧ w = w' := by
  have ha1 := (Co.good_yes ha).2
  have hb1 := (Co.good_yes hb).2
  have Ha := Lib.hid ha
  have Hb := Lib.hid hb
  clear ha hb
  go_enter Try.func67, Try.ntmps67
  go_wp2_with fail
  go_loop [5, 6] (fun o i => ∃ (k : Nat) (n : Int), k ≤ 5 ∧ 0 ≤ n ∧ n ≤ 80 ∧ Hid (n = Co.ovl a b k) ∧ i = .int .i64 k ∧ o = .int .i64 n) (fun _ i => 5 - (intOf i).toNat)
  case atStart => exact ⟨0, 0, Nat.zero_le _, by omega, by omega, rfl, rfl, rfl⟩
  case round =>
    obtain ⟨k, n, hk, hn0, hn1, hN, rfl, rfl⟩ := hrel
    by_cases hlt : k < 5
    · have hp := Co.two_pow k hlt
      have hpw : ((2 ^ k : Nat) : Int) = (2 : Int) ^ k := by simp
      have hp1 : 1 ≤ 2 ^ k := Nat.one_le_two_pow
      have hp2 : 2 ^ k ≤ 16 := by omega
      obtain ⟨P, hP⟩ : ∃ P : Nat, P = 2 ^ k := ⟨_, rfl⟩
      rw [← hP] at hp1 hp2 hpw
      have HP := Lib.hid hP
      clear hP
      rcases hha : Co.has a k with _ | _ <;> rcases hhb : Co.has b k with _ | _
      · have hN2 := Lib.hid (show n = Co.ovl a b (k + 1) by rw [Co.ovl, ← hN.out]; simp [hha, hhb])
        have hbd : n ≤ 80 := by rw [hN2.out]; have := (Co.ovl_bd a b (k + 1) (by omega)).2; omega
        have Hha := Lib.hid hha
        have Hhb := Lib.hid hhb
        clear hha hhb hp hpw
        go_wp2_with fail
        refine (spec_l2Good a true Ha.out w).mono ?_
        rintro e w1 ⟨rfl, rfl⟩
        go_wp2_with fail
        refine (spec_l2Good b true Hb.out w).mono ?_
        rintro e w1 ⟨rfl, rfl⟩
        go_wp2_with fail
        refine (spec_HasPlayer a (by omega) k hlt false Hha.out w).mono ?_
        rintro e w1 ⟨rfl, rfl⟩
        go_wp2_with fail
        go_round
        case rel => exact ⟨k + 1, n, by omega, by omega, hbd, hN2, by go_num, rfl⟩
        case measure => simp [intOf]; omega
      · have hN2 := Lib.hid (show n = Co.ovl a b (k + 1) by rw [Co.ovl, ← hN.out]; simp [hha, hhb])
        have hbd : n ≤ 80 := by rw [hN2.out]; have := (Co.ovl_bd a b (k + 1) (by omega)).2; omega
        have Hha := Lib.hid hha
        have Hhb := Lib.hid hhb
        clear hha hhb hp hpw
        go_wp2_with fail
        refine (spec_l2Good a true Ha.out w).mono ?_
        rintro e w1 ⟨rfl, rfl⟩
        go_wp2_with fail
        refine (spec_l2Good b true Hb.out w).mono ?_
        rintro e w1 ⟨rfl, rfl⟩
        go_wp2_with fail
        refine (spec_HasPlayer a (by omega) k hlt false Hha.out w).mono ?_
        rintro e w1 ⟨rfl, rfl⟩
        go_wp2_with fail
        go_round
        case rel => exact ⟨k + 1, n, by omega, by omega, hbd, hN2, by go_num, rfl⟩
        case measure => simp [intOf]; omega
      · have hN2 := Lib.hid (show n = Co.ovl a b (k + 1) by rw [Co.ovl, ← hN.out]; simp [hha, hhb])
        have hbd : n ≤ 80 := by rw [hN2.out]; have := (Co.ovl_bd a b (k + 1) (by omega)).2; omega
        have Hha := Lib.hid hha
        have Hhb := Lib.hid hhb
        clear hha hhb hp hpw
        go_wp2_with fail
        refine (spec_l2Good a true Ha.out w).mono ?_
        rintro e w1 ⟨rfl, rfl⟩
        go_wp2_with fail
        refine (spec_l2Good b true Hb.out w).mono ?_
        rintro e w1 ⟨rfl, rfl⟩
        go_wp2_with fail
        refine (spec_HasPlayer a (by omega) k hlt true Hha.out w).mono ?_
        rintro e w1 ⟨rfl, rfl⟩
        go_wp2_with fail
        refine (spec_HasPlayer b (by omega) k hlt false Hhb.out w).mono ?_
        rintro e w1 ⟨rfl, rfl⟩
        go_wp2_with fail
        go_round
        case rel => exact ⟨k + 1, n, by omega, by omega, hbd, hN2, by go_num, rfl⟩
        case measure => simp [intOf]; omega
      · have hN2 := Lib.hid (show n + (P : Int) = Co.ovl a b (k + 1) by rw [Co.ovl, ← hN.out]; simp [hha, hhb, hpw])
        have hbd : n + (P : Int) ≤ 80 := by rw [hN2.out]; have := (Co.ovl_bd a b (k + 1) (by omega)).2; omega
        have Hha := Lib.hid hha
        have Hhb := Lib.hid hhb
        clear hha hhb hp hpw
        go_wp2_with fail
        refine (spec_l2Good a true Ha.out w).mono ?_
        rintro e w1 ⟨rfl, rfl⟩
        go_wp2_with fail
        refine (spec_l2Good b true Hb.out w).mono ?_
        rintro e w1 ⟨rfl, rfl⟩
        go_wp2_with fail
        refine (spec_HasPlayer a (by omega) k hlt true Hha.out w).mono ?_
        rintro e w1 ⟨rfl, rfl⟩
        go_wp2_with fail
        refine (spec_HasPlayer b (by omega) k hlt true Hhb.out w).mono ?_
        rintro e w1 ⟨rfl, rfl⟩
        go_wp2_with fail
        refine (spec_l2Bit k (by omega) w).mono ?_
        rw [← HP.out]
        rintro e w1 ⟨rfl, rfl⟩
        go_wp2_with fail
        go_round
        case rel => exact ⟨k + 1, n + (P : Int), by omega, by omega, hbd, hN2, by go_num, rfl⟩
        case measure => simp [intOf]; omega
    · have he : k = 5 := by omega
      have hf : Hid (n = Co.ovl a b 5) := by show _ = _; rw [hN.out, he]
      clear he
      go_wp2_with fail
      go_ret
      exact ⟨ret_int hf.out, rfl⟩
theorem spec_Overlap_bad (a b : Int) (h : Co.good a = false ∨ Co.good b = false) (w : World) : Calls Try.prog 67 #[.int .i64 a, .int .i64 b] w fun e w' => e = .returned (.int .i64 0) ∧ w = w' := by
  rcases ha : Co.good a with _ | _
  · have Ha := Lib.hid ha
    clear ha h
    go_enter Try.func67, Try.ntmps67
    go_wp2_with fail
    go_loop [5, 6] (fun o i => o = .int .i64 0 ∧ i = .int .i64 0) (fun _ i => 5 - (intOf i).toNat)
    case atStart => exact ⟨rfl, rfl⟩
    case round =>
      obtain ⟨rfl, rfl⟩ := hrel
      go_wp2_with fail
      refine (spec_l2Good a false Ha.out w).mono ?_
      rintro e w1 ⟨rfl, rfl⟩
      go_wp2_with fail
      go_ret
      exact ⟨rfl, rfl⟩
  · have Ha := Lib.hid ha
    have Hb := Lib.hid (bad_right ha h)
    clear ha h
    go_enter Try.func67, Try.ntmps67
    go_wp2_with fail
    go_loop [5, 6] (fun o i => o = .int .i64 0 ∧ i = .int .i64 0) (fun _ i => 5 - (intOf i).toNat)
    case atStart => exact ⟨rfl, rfl⟩
    case round =>
      obtain ⟨rfl, rfl⟩ := hrel
      go_wp2_with fail
      refine (spec_l2Good a true Ha.out w).mono ?_
      rintro e w1 ⟨rfl, rfl⟩
      go_wp2_with fail
      refine (spec_l2Good b false Hb.out w).mono ?_
      rintro e w1 ⟨rfl, rfl⟩
      go_wp2_with fail
      go_ret
      exact ⟨rfl, rfl⟩
theorem impl_IsSubset (a b : Int) (ha : Co.good a = true) (hb : Co.good b = true) (r : Bool) (hr : Co.sub a b 5 = r) (w : World) : Calls Try.prog 23 #[.int .i64 a, .int .i64 b] w fun e w' => e = .returned (.bool r) ∧ w = w' := by
  have Ha := Lib.hid ha
  have Hb := Lib.hid hb
  have Hr := Lib.hid ((Co.sub_is ha hb).trans hr)
  clear ha hb hr
  go_enter Try.func23, Try.ntmps23
  go_wp2_with fail
  refine (impl_isCoalition a true Ha.out w).mono ?_
  rintro e w1 ⟨rfl, rfl⟩
  go_wp2_with fail
  refine (impl_isCoalition b true Hb.out w).mono ?_
  rintro e w1 ⟨rfl, rfl⟩
  go_wp2_with fail
  go_ret
  exact ⟨ret_bool Hr.out, rfl⟩
theorem impl_IsSubset_bad (a b : Int) (h : Co.good a = false ∨ Co.good b = false) (w : World) : Calls Try.prog 23 #[.int .i64 a, .int .i64 b] w fun e w' => e = .returned (.bool false) ∧ w = w' := by
  rcases ha : Co.good a with _ | _
  · have Ha := Lib.hid ha
    clear ha h
    go_enter Try.func23, Try.ntmps23
    go_wp2_with fail
    refine (impl_isCoalition a false Ha.out w).mono ?_
    rintro e w1 ⟨rfl, rfl⟩
    go_wp2_with fail
    go_ret
    exact ⟨rfl, rfl⟩
  · have Ha := Lib.hid ha
    have Hb := Lib.hid (bad_right ha h)
    clear ha h
    go_enter Try.func23, Try.ntmps23
    go_wp2_with fail
    refine (impl_isCoalition a true Ha.out w).mono ?_
    rintro e w1 ⟨rfl, rfl⟩
    go_wp2_with fail
    refine (impl_isCoalition b false Hb.out w).mono ?_
    rintro e w1 ⟨rfl, rfl⟩
    go_wp2_with fail
    go_ret
    exact ⟨rfl, rfl⟩
/-- The answer of IsSubset. -/
def subR (a b : Int) : Bool := Co.good a && Co.good b && Co.sub a b 5
theorem sub_false {a b : Int} : ∀ {k : Nat} (n : Nat), k < n → Co.has a k = true → Co.has b k = false → Co.sub a b n = false
  | _, 0, h, _, _ => by omega
  | k, n + 1, h, h1, h2 => by
    rw [Co.sub]
    by_cases e : k = n
    · subst e; simp [h1, h2]
    · rw [sub_false n (by omega) h1 h2]; rfl
theorem spec_IsSubset (a b : Int) (hsa : a ≤ 9223372036854775807) (hsb : b ≤ 9223372036854775807) (w : World) : Calls Try.prog 66 #[.int .i64 a, .int .i64 b] w fun e w' => e = .returned (.bool (subR a b)) ∧ w = w' := by
  go_enter Try.func66, Try.ntmps66
  go_wp2_with fail
  go_loop [5] (fun i => ∃ (k : Nat), k ≤ 5 ∧ Hid (Co.sub a b k = true) ∧ i = .int .i64 k) (fun i => 5 - (intOf i).toNat)
  case atStart => exact ⟨0, Nat.zero_le _, rfl, rfl⟩
  case round =>
    obtain ⟨k, hk, hN, rfl⟩ := hrel
    by_cases hlt : k < 5
    · rcases hha : Co.has a k with _ | _
      · have hN2 := Lib.hid (show Co.sub a b (k + 1) = true by rw [Co.sub, hN.out]; simp [hha])
        have Hha := Lib.hid hha
        clear hha
        go_wp2_with fail
        refine (spec_HasPlayer a hsa k hlt false Hha.out w).mono ?_
        rintro e w1 ⟨rfl, rfl⟩
        go_wp2_with fail
        go_round
        case rel => exact ⟨k + 1, by omega, hN2, by go_num⟩
        case measure => simp [intOf]; omega
      · rcases hhb : Co.has b k with _ | _
        · have hN2 := Lib.hid (show false = subR a b by unfold subR; rw [sub_false 5 hlt hha hhb]; simp)
          have Hha := Lib.hid hha
          have Hhb := Lib.hid hhb
          clear hha hhb
          go_wp2_with fail
          refine (spec_HasPlayer a hsa k hlt true Hha.out w).mono ?_
          rintro e w1 ⟨rfl, rfl⟩
          go_wp2_with fail
          refine (spec_HasPlayer b hsb k hlt false Hhb.out w).mono ?_
          rintro e w1 ⟨rfl, rfl⟩
          go_wp2_with fail
          go_ret
          exact ⟨ret_bool hN2.out, rfl⟩
        · have hN2 := Lib.hid (show Co.sub a b (k + 1) = true by rw [Co.sub, hN.out]; simp [hhb])
          have Hha := Lib.hid hha
          have Hhb := Lib.hid hhb
          clear hha hhb
          go_wp2_with fail
          refine (spec_HasPlayer a hsa k hlt true Hha.out w).mono ?_
          rintro e w1 ⟨rfl, rfl⟩
          go_wp2_with fail
          refine (spec_HasPlayer b hsb k hlt true Hhb.out w).mono ?_
          rintro e w1 ⟨rfl, rfl⟩
          go_wp2_with fail
          go_round
          case rel => exact ⟨k + 1, by omega, hN2, by go_num⟩
          case measure => simp [intOf]; omega
    · have he : k = 5 := by omega
      subst he
      rcases hga : Co.good a with _ | _
      · have hN2 := Lib.hid (show false = subR a b by unfold subR; rw [hga]; simp)
        have Ha := Lib.hid hga
        clear hga
        go_wp2_with fail
        refine (spec_l2Good a false Ha.out w).mono ?_
        rintro e w1 ⟨rfl, rfl⟩
        go_wp2_with fail
        go_ret
        exact ⟨ret_bool hN2.out, rfl⟩
      · rcases hgb : Co.good b with _ | _
        all_goals
          have hN2 := Lib.hid (show Co.good b = subR a b by unfold subR; rw [hga, hN.out]; simp)
          rw [hgb] at hN2
          have Ha := Lib.hid hga
          have Hb := Lib.hid hgb
          clear hga hgb
          go_wp2_with fail
          refine (spec_l2Good a true Ha.out w).mono ?_
          rintro e w1 ⟨rfl, rfl⟩
          go_wp2_with fail
          refine (spec_l2Good b _ Hb.out w).mono ?_
          rintro e w1 ⟨rfl, rfl⟩
          go_wp2_with fail
          go_ret
          exact ⟨ret_bool hN2.out, rfl⟩
end Go.Proofs.Ytodjapljoimkgaa
