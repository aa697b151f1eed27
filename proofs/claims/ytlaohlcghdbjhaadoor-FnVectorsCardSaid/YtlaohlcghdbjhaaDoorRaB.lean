/- impl's side of fractions: isWithin, commonDivisor, RatOf, IsValidRat, areValidRats: what each returns; what was there stays. -/
import Derived.Test.YtlaohlcghdbjhaaDoorRaA
namespace Go.Proofs.YtlaohlcghdbjhaaDoor
open Go.RowKit

theorem impl_isWithin (n m : Int) (b : Bool) (h : decide (-m ≤ n ∧ n ≤ m) = b) (hm : 0 ≤ m) (hm' : m ≤ 1000000000000000000) (w : World) :
    Calls Tryd.prog 53 #[.int .i64 n, .int .i64 m] w fun e w' => e = .returned (.bool b) ∧ w = w' := by
  by_cases h1 : -m ≤ n
  · have hb1 : decide (-m ≤ n) = true := by rw [decide_eq_true_iff]; exact h1
    have H := Lib.hid (show decide (n ≤ m) = b by rw [← h]; simp [h1])
    clear h
    go_enter Tryd.func53, Tryd.ntmps53
    go_wp2_with fail
    go_ret
    exact ⟨ret_bool H.out, rfl⟩
  · have hb1 : decide (-m ≤ n) = false := by rw [decide_eq_false_iff_not]; exact h1
    have H := Lib.hid (show false = b by rw [← h]; simp [h1])
    clear h
    go_enter Tryd.func53, Tryd.ntmps53
    go_wp2_with fail
    go_ret
    exact ⟨ret_bool H.out, rfl⟩
theorem impl_commonDivisor (a b : Nat) (ha : a ≤ 1000000000000000000) (hb : b ≤ 1000000000000000000) (w : World) :
    Calls Tryd.prog 54 #[.int .i64 a, .int .i64 b] w fun e w' => e = .returned (.int .i64 (Nat.gcd a b : Int)) ∧ ∃ n, w' = w.drewN n := by
  obtain ⟨G, hG⟩ : ∃ G : Nat, G = Nat.gcd a b := ⟨_, rfl⟩
  rw [← hG]
  have hG0 : Hid (Nat.gcd a b = G) := hG.symm
  clear hG
  go_enter Tryd.func54, Tryd.ntmps54
  go_wp2_with fail
  go_loopw [0, 1] (fun u v wr => ∃ x y k : Nat, x ≤ 1000000000000000000 ∧ y ≤ 1000000000000000000 ∧ u = .int .i64 x ∧ v = .int .i64 y ∧ Hid (Nat.gcd x y = G) ∧ wr = w.drewN k) (fun _ v _ => (intOf v).toNat)
  case atStart => exact ⟨a, b, 0, ha, hb, rfl, rfl, hG0, rfl⟩
  case round =>
    obtain ⟨x, y, k, hx, hy, rfl, rfl, hg, rfl⟩ := hrel
    by_cases hlt : 0 < y
    · have hg2 : Hid (Nat.gcd y (x % y) = G) := by show _ = _; rw [Nat.gcd_comm, ← Nat.gcd_rec, Nat.gcd_comm]; exact hg.out
      have hm := Nat.mod_lt x hlt
      have hne : ((y : Int) != 0) = true := by rw [bne_iff_ne]; omega
      go_wp2_with fail
      go_quiet (fail)
      go_wp2_with fail
      go_roundw
      case rel => exact ⟨y, x % y, _, by omega, by omega, rfl, by rw [Int.natCast_emod], hg2, World.drewN_drewN _ _ _⟩
      case measure => simp [intOf]; omega
    · have he : y = 0 := by omega
      have hf : Hid ((x : Int) = (G : Int)) := by show _ = _; rw [← hg.out, he, Nat.gcd_zero_right]
      clear hg
      subst he
      go_wp2_with fail
      go_ret
      exact ⟨ret_int hf.out, _, rfl⟩
theorem impl_RatOf_bad (n d : Int) (h : d = 0 ∨ Ra.wide n = false ∨ Ra.wide d = false) (w : World) :
    Calls Tryd.prog 36 #[.int .i64 n, .int .i64 d] w fun e w' => e = .returned (.tuple #[.agg #[.int .i64 0, .int .i64 0], .bool false]) ∧ Below w.heap.size w w' := by
  by_cases h0 : d = 0
  · subst h0
    clear h
    go_enter Tryd.func36, Tryd.ntmps36
    go_wp2_with fail
    exact bodyPost_ret (v := .tuple #[.agg #[.int .i64 0, .int .i64 0], .bool false]) (by simp [results, Tryd.results36, go_sem]) rfl ⟨rfl, (Below.refl _ _).alloc (Nat.le_refl _) _⟩
  · have hb : (d == 0) = false := by rw [beq_eq_false_iff_ne]; exact h0
    rcases hn : Ra.wide n with _ | _
    · have Hn := Lib.hid (show decide (-(1000000000000000000 : Int) ≤ n ∧ n ≤ 1000000000000000000) = false by unfold Ra.wide at hn; exact hn)
      clear hn h
      go_enter Tryd.func36, Tryd.ntmps36
      go_wp2_with fail
      refine (impl_isWithin n _ false Hn.out (by decide) (by decide) _).mono ?_
      rintro e w1 ⟨rfl, rfl⟩
      go_wp2_with fail
      exact bodyPost_ret (v := .tuple #[.agg #[.int .i64 0, .int .i64 0], .bool false]) (by simp [results, Tryd.results36, go_sem]) rfl ⟨rfl, (Below.refl _ _).alloc (Nat.le_refl _) _⟩
    · have Hn := Lib.hid (show decide (-(1000000000000000000 : Int) ≤ n ∧ n ≤ 1000000000000000000) = true by unfold Ra.wide at hn; exact hn)
      have Hd := Lib.hid (show decide (-(1000000000000000000 : Int) ≤ d ∧ d ≤ 1000000000000000000) = false by rcases h with h | h | h <;> simp_all [Ra.wide])
      clear hn h
      go_enter Tryd.func36, Tryd.ntmps36
      go_wp2_with fail
      refine (impl_isWithin n _ true Hn.out (by decide) (by decide) _).mono ?_
      rintro e w1 ⟨rfl, rfl⟩
      go_wp2_with fail
      refine (impl_isWithin d _ false Hd.out (by decide) (by decide) _).mono ?_
      rintro e w1 ⟨rfl, rfl⟩
      go_wp2_with fail
      exact bodyPost_ret (v := .tuple #[.agg #[.int .i64 0, .int .i64 0], .bool false]) (by simp [results, Tryd.results36, go_sem]) rfl ⟨rfl, (Below.refl _ _).alloc (Nat.le_refl _) _⟩
set_option maxHeartbeats 2000000 in
theorem impl_RatOf_ok (n d : Int) (h0 : d ≠ 0) (hn : Ra.wide n = true) (hd : Ra.wide d = true) (w : World) :
    Calls Tryd.prog 36 #[.int .i64 n, .int .i64 d] w fun e w' => e = .returned (.tuple #[.agg #[.int .i64 (Ra.rn n d), .int .i64 (Ra.rd n d)], .bool (Ra.fits n d)]) ∧ Below w.heap.size w w' := by
  have hb : (d == 0) = false := by rw [beq_eq_false_iff_ne]; exact h0
  have Hn := Lib.hid (show decide (-(1000000000000000000 : Int) ≤ n ∧ n ≤ 1000000000000000000) = true by unfold Ra.wide at hn; exact hn)
  have Hd := Lib.hid (show decide (-(1000000000000000000 : Int) ≤ d ∧ d ≤ 1000000000000000000) = true by unfold Ra.wide at hd; exact hd)
  have hfit : Ra.fits n d = decide (-1000000000 ≤ Ra.num n d ∧ Ra.num n d ≤ 1000000000 ∧ Ra.den n d ≤ 1000000000) := (Ra.fits_is h0 hn hd).trans (Ra.vld_red h0)
  obtain ⟨n0, n1⟩ := Ra.wide_yes hn
  obtain ⟨d0, d1⟩ := Ra.wide_yes hd
  clear hn hd
  obtain ⟨nb0, nb1⟩ := Ra.num_bd h0 n0 n1
  obtain ⟨db0, db1⟩ := Ra.den_bd (n := n) h0 d0 d1
  have hgp := Ra.gcd_pos (n := n) h0
  have hq : (d < 0 ∧ decide (d < 0) = true ∧ (-n).tdiv (Int.gcd n d : Int) = Ra.num n d ∧ -(d.tdiv (Int.gcd n d : Int)) = Ra.den n d) ∨ (¬ d < 0 ∧ decide (d < 0) = false ∧ n.tdiv (Int.gcd n d : Int) = Ra.num n d ∧ d.tdiv (Int.gcd n d : Int) = Ra.den n d) := by
    by_cases h : d < 0
    · exact .inl ⟨h, by rw [decide_eq_true_iff]; exact h, Ra.tdiv_num h, by rw [← Ra.div_den h, ← Int.neg_tdiv, Int.tdiv_eq_ediv_of_nonneg (by omega)]⟩
    · exact .inr ⟨h, by rw [decide_eq_false_iff_not]; exact h, Ra.tdiv_num' h, by rw [← Ra.div_den' h, Int.tdiv_eq_ediv_of_nonneg (by omega)]⟩
  have hc : ∀ x y : Int, x = (n.natAbs : Int) → y = (d.natAbs : Int) → ∀ w : World, Calls Tryd.prog 54 #[.int .i64 x, .int .i64 y] w fun e w' => e = .returned (.int .i64 (Int.gcd n d : Int)) ∧ ∃ n, w' = w.drewN n := by
    rintro x y rfl rfl w
    have := impl_commonDivisor n.natAbs d.natAbs (by omega) (by omega) w
    rw [← Int.gcd_eq_natAbs_gcd_natAbs] at this
    exact this
  have hyes : Ra.fits n d = true → Ra.num n d = Ra.rn n d ∧ Ra.den n d = Ra.rd n d := fun h => by have := Ra.rn_yes h; exact ⟨this.1.symm, this.2.symm⟩
  have hno : Ra.fits n d = false → Ra.rn n d = 0 ∧ Ra.rd n d = 0 := fun h => Ra.rn_no h
  generalize Ra.num n d = N at *
  generalize Ra.den n d = D at *
  obtain ⟨g, hg⟩ : ∃ g : Int, g = (Int.gcd n d : Int) := ⟨_, rfl⟩
  rw [← hg] at hq hc
  have hg1 : 1 ≤ g := by omega
  clear hg hgp
  have Hc := Lib.hid hc
  clear hc
  have key : (decide (-(1000000000 : Int) ≤ N ∧ N ≤ 1000000000) = false ∧ Ra.fits n d = false) ∨ (decide (-(1000000000 : Int) ≤ N ∧ N ≤ 1000000000) = true ∧ decide (1000000000 < D) = true ∧ Ra.fits n d = false) ∨ (decide (-(1000000000 : Int) ≤ N ∧ N ≤ 1000000000) = true ∧ decide (1000000000 < D) = false ∧ Ra.fits n d = true) := by
    rw [hfit]
    simp only [decide_eq_true_iff, decide_eq_false_iff_not]
    omega
  clear hfit
  obtain ⟨hs, hsb, q1, q2⟩ | ⟨hs, hsb, q1, q2⟩ := hq
  all_goals
    rcases key with ⟨k1, k3⟩ | ⟨k1, k2, k3⟩ | ⟨k1, k2, k3⟩
    · have K1 := Lib.hid k1
      have R1 := Lib.hid (hno k3).1.symm
      have R2 := Lib.hid (hno k3).2.symm
      have R3 := Lib.hid k3.symm
      clear k1 k3 hyes hno
      go_enter Tryd.func36, Tryd.ntmps36
      go_wp2_with fail
      refine (impl_isWithin n _ true Hn.out (by decide) (by decide) _).mono ?_
      rintro e w1 ⟨rfl, rfl⟩
      go_wp2_with fail
      refine (impl_isWithin d _ true Hd.out (by decide) (by decide) _).mono ?_
      rintro e w1 ⟨rfl, rfl⟩
      go_wp2_with fail
      all_goals
        refine (Hc.out _ _ (by omega) (by omega) _).mono ?_
        rintro e w1 ⟨rfl, k, rfl⟩
        go_wp2_with fail
        go_region
        go_wp2_with fail
        refine (impl_isWithin N _ false K1.out (by decide) (by decide) _).mono ?_
        rintro e w1 ⟨rfl, rfl⟩
        go_wp2_with fail
        exact bodyPost_ret (v := .tuple #[.agg #[.int .i64 0, .int .i64 0], .bool false]) (by simp [results, Tryd.results36, go_sem]) rfl ⟨ret_rat R1.out R2.out R3.out, by (repeat' (first | exact Below.refl _ _ | exact Nat.le_refl _ | refine Below.setCell ?_ ?_ _ | refine Below.alloc ?_ ?_ _ | refine below_drewN ?_ _ | refine Below.drew ?_ | (simp; done) | (simp; omega)))⟩
    · have K1 := Lib.hid k1
      have R1 := Lib.hid (hno k3).1.symm
      have R2 := Lib.hid (hno k3).2.symm
      have R3 := Lib.hid k3.symm
      clear k1 k3 hyes hno
      go_enter Tryd.func36, Tryd.ntmps36
      go_wp2_with fail
      refine (impl_isWithin n _ true Hn.out (by decide) (by decide) _).mono ?_
      rintro e w1 ⟨rfl, rfl⟩
      go_wp2_with fail
      refine (impl_isWithin d _ true Hd.out (by decide) (by decide) _).mono ?_
      rintro e w1 ⟨rfl, rfl⟩
      go_wp2_with fail
      all_goals
        refine (Hc.out _ _ (by omega) (by omega) _).mono ?_
        rintro e w1 ⟨rfl, k, rfl⟩
        go_wp2_with fail
        go_region
        go_wp2_with fail
        refine (impl_isWithin N _ true K1.out (by decide) (by decide) _).mono ?_
        rintro e w1 ⟨rfl, rfl⟩
        go_wp2_with fail
        exact bodyPost_ret (v := .tuple #[.agg #[.int .i64 0, .int .i64 0], .bool false]) (by simp [results, Tryd.results36, go_sem]) rfl ⟨ret_rat R1.out R2.out R3.out, by (repeat' (first | exact Below.refl _ _ | exact Nat.le_refl _ | refine Below.setCell ?_ ?_ _ | refine Below.alloc ?_ ?_ _ | refine below_drewN ?_ _ | refine Below.drew ?_ | (simp; done) | (simp; omega)))⟩
    · have K1 := Lib.hid k1
      have R1 := Lib.hid (hyes k3).1
      have R2 := Lib.hid (hyes k3).2
      have R3 := Lib.hid k3.symm
      clear k1 k3 hyes hno
      go_enter Tryd.func36, Tryd.ntmps36
      go_wp2_with fail
      refine (impl_isWithin n _ true Hn.out (by decide) (by decide) _).mono ?_
      rintro e w1 ⟨rfl, rfl⟩
      go_wp2_with fail
      refine (impl_isWithin d _ true Hd.out (by decide) (by decide) _).mono ?_
      rintro e w1 ⟨rfl, rfl⟩
      go_wp2_with fail
      all_goals
        refine (Hc.out _ _ (by omega) (by omega) _).mono ?_
        rintro e w1 ⟨rfl, k, rfl⟩
        go_wp2_with fail
        go_region
        go_wp2_with fail
        refine (impl_isWithin N _ true K1.out (by decide) (by decide) _).mono ?_
        rintro e w1 ⟨rfl, rfl⟩
        go_wp2_with fail
        exact bodyPost_ret (v := .tuple #[.agg #[.int .i64 N, .int .i64 D], .bool true]) (by simp [results, Tryd.results36, go_sem]) rfl ⟨ret_rat R1.out R2.out R3.out, by (repeat' (first | exact Below.refl _ _ | exact Nat.le_refl _ | refine Below.setCell ?_ ?_ _ | refine Below.alloc ?_ ?_ _ | refine below_drewN ?_ _ | refine Below.drew ?_ | (simp; done) | (simp; omega)))⟩
end Go.Proofs.YtlaohlcghdbjhaaDoor
