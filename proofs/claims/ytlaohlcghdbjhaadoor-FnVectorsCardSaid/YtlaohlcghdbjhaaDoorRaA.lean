/- Fractions on both sides: the greatest common divisor, IsValidRat, RatOf: what each returns; what was there stays. -/
import Derived.Test.YtlaohlcghdbjhaaDoorBase
import Derived.Test.YtlaohlcghdbjhaaDoorRaM
namespace Go.Proofs.YtlaohlcghdbjhaaDoor
open Go.RowKit

theorem spec_l3Gcd (a b : Int) (ha : -1000000000000000000 ≤ a) (ha' : a ≤ 1000000000000000000) (hb : -1000000000000000000 ≤ b) (hb' : b ≤ 1000000000000000000) (w : World) :
    Calls Tryd.prog 59 #[.int .i64 a, .int .i64 b] w fun e w' => e = .returned (.int .i64 (Int.gcd a b : Int)) ∧ w = w' := by
  obtain ⟨G, hG⟩ : ∃ G : Nat, G = Int.gcd a b := ⟨_, rfl⟩
  rw [← hG]
  have hG0 : Hid (Nat.gcd a.natAbs b.natAbs = G) := by show _ = _; rw [hG, Int.gcd_eq_natAbs_gcd_natAbs]
  clear hG
  by_cases h1 : a < 0 <;> by_cases h2 : b < 0
  all_goals
    first
    | have hd1 : decide (a < 0) = true := by rw [decide_eq_true_iff]; exact h1
    | have hd1 : decide (a < 0) = false := by rw [decide_eq_false_iff_not]; exact h1
    first
    | have hd2 : decide (b < 0) = true := by rw [decide_eq_true_iff]; exact h2
    | have hd2 : decide (b < 0) = false := by rw [decide_eq_false_iff_not]; exact h2
    go_enter Tryd.func59, Tryd.ntmps59
    go_wp2_with fail
    go_loop [0, 1] (fun u v => ∃ x y : Nat, x ≤ 1000000000000000000 ∧ y ≤ 1000000000000000000 ∧ u = .int .i64 x ∧ v = .int .i64 y ∧ Hid (Nat.gcd x y = G)) (fun _ v => (intOf v).toNat)
    case atStart => exact ⟨a.natAbs, b.natAbs, by omega, by omega, by first | (congr 1; omega) | skip, by first | (congr 1; omega) | skip, hG0⟩
    case round =>
      obtain ⟨x, y, hx, hy, rfl, rfl, hg⟩ := hrel
      by_cases hlt : 0 < y
      · have hg2 : Hid (Nat.gcd y (x % y) = G) := by show _ = _; rw [Nat.gcd_comm, ← Nat.gcd_rec, Nat.gcd_comm]; exact hg.out
        have hm := Nat.mod_lt x hlt
        go_wp2_with fail
        go_round
        case rel => exact ⟨y, x % y, by omega, by omega, rfl, by rw [Int.natCast_emod], hg2⟩
        case measure => simp [intOf]; omega
      · have he : y = 0 := by omega
        have hf : Hid ((x : Int) = (G : Int)) := by show _ = _; rw [← hg.out, he, Nat.gcd_zero_right]
        clear hg
        subst he
        go_wp2_with fail
        go_ret
        exact ⟨ret_int hf.out, rfl⟩
theorem spec_IsValidRat (n d : Int) (b : Bool) (h : Ra.vld n d = b) (w : World) : Calls Tryd.prog 45 #[.agg #[.int .i64 n, .int .i64 d]] w fun e w' => e = .returned (.bool b) ∧ Below w.heap.size w w' := by
  rcases hd : decide ((1 : Int) ≤ d ∧ d ≤ 1000000000) with _ | _
  · have Hd := Lib.hid hd
    have Hr := Lib.hid (show false = b by
      rw [← h]; symm
      rcases hv : Ra.vld n d with _ | _
      · rfl
      · have := Ra.vld_yes hv; rw [decide_eq_false_iff_not] at hd; omega)
    clear hd h
    go_enter Tryd.func45, Tryd.ntmps45
    go_wp2_with fail
    refine (spec_l1In d 1 1000000000 false Hd.out _).mono ?_
    rintro e w1 ⟨rfl, rfl⟩
    go_wp2_with fail
    go_ret
    exact ⟨ret_bool Hr.out, (Below.refl _ _).alloc (Nat.le_refl _) _⟩
  · rcases hn : decide ((-1000000000 : Int) ≤ n ∧ n ≤ 1000000000) with _ | _
    · have Hd := Lib.hid hd
      have Hn := Lib.hid hn
      have Hr := Lib.hid (show false = b by
        rw [← h]; symm
        rcases hv : Ra.vld n d with _ | _
        · rfl
        · have := Ra.vld_yes hv; rw [decide_eq_false_iff_not] at hn; omega)
      clear hd hn h
      go_enter Tryd.func45, Tryd.ntmps45
      go_wp2_with fail
      refine (spec_l1In d 1 1000000000 true Hd.out _).mono ?_
      rintro e w1 ⟨rfl, rfl⟩
      go_wp2_with fail
      refine (spec_l1In n (-1000000000) 1000000000 false Hn.out _).mono ?_
      rintro e w1 ⟨rfl, rfl⟩
      go_wp2_with fail
      go_ret
      exact ⟨ret_bool Hr.out, (Below.refl _ _).alloc (Nat.le_refl _) _⟩
    · have Hd := Lib.hid hd
      have Hn := Lib.hid hn
      rw [decide_eq_true_iff] at hd hn
      obtain ⟨d0, d1⟩ := hd
      obtain ⟨n0, n1⟩ := hn
      have Hr := Lib.hid (show ((Int.gcd n d : Int) == 1) = b by
        rw [← h, Bool.eq_iff_iff, beq_iff_eq]
        unfold Ra.vld
        rw [decide_eq_true_iff]
        omega)
      clear h
      go_enter Tryd.func45, Tryd.ntmps45
      go_wp2_with fail
      refine (spec_l1In d 1 1000000000 true Hd.out _).mono ?_
      rintro e w1 ⟨rfl, rfl⟩
      go_wp2_with fail
      refine (spec_l1In n (-1000000000) 1000000000 true Hn.out _).mono ?_
      rintro e w1 ⟨rfl, rfl⟩
      go_wp2_with fail
      refine (spec_l3Gcd n d (by omega) (by omega) (by omega) (by omega) _).mono ?_
      rintro e w1 ⟨rfl, rfl⟩
      go_wp2_with fail
      go_ret
      exact ⟨ret_bool Hr.out, (Below.refl _ _).alloc (Nat.le_refl _) _⟩

/-- What RatOf returns, as a value. -/
def ratV (n d : Int) (k : Bool) : Value := .tuple #[.agg #[.int .i64 n, .int .i64 d], .bool k]
theorem ret_rat {n d n' d' : Int} {k k' : Bool} (h1 : n = n') (h2 : d = d') (h3 : k = k') : Ending.returned (.tuple #[.agg #[.int .i64 n, .int .i64 d], .bool k]) = .returned (.tuple #[.agg #[.int .i64 n', .int .i64 d'], .bool k']) := by rw [h1, h2, h3]
theorem spec_RatOf_bad (n d : Int) (h : d = 0 ∨ Ra.wide n = false ∨ Ra.wide d = false) (w : World) :
    Calls Tryd.prog 49 #[.int .i64 n, .int .i64 d] w fun e w' => e = .returned (.tuple #[.agg #[.int .i64 0, .int .i64 0], .bool false]) ∧ Below w.heap.size w w' := by
  by_cases h0 : d = 0
  · subst h0
    clear h
    go_enter Tryd.func49, Tryd.ntmps49
    go_wp2_with fail
    exact bodyPost_ret (v := .tuple #[.agg #[.int .i64 0, .int .i64 0], .bool false]) (by simp [results, Tryd.results49, go_sem]) rfl ⟨rfl, (Below.refl _ _).alloc (Nat.le_refl _) _⟩
  · have hb : (d == 0) = false := by rw [beq_eq_false_iff_ne]; exact h0
    rcases hn : Ra.wide n with _ | _
    · have Hn := Lib.hid (show decide ((-1000000000000000000 : Int) ≤ n ∧ n ≤ 1000000000000000000) = false by unfold Ra.wide at hn; exact hn)
      clear hn h
      go_enter Tryd.func49, Tryd.ntmps49
      go_wp2_with fail
      refine (spec_l1In n _ _ false Hn.out _).mono ?_
      rintro e w1 ⟨rfl, rfl⟩
      go_wp2_with fail
      exact bodyPost_ret (v := .tuple #[.agg #[.int .i64 0, .int .i64 0], .bool false]) (by simp [results, Tryd.results49, go_sem]) rfl ⟨rfl, (Below.refl _ _).alloc (Nat.le_refl _) _⟩
    · have Hn := Lib.hid (show decide ((-1000000000000000000 : Int) ≤ n ∧ n ≤ 1000000000000000000) = true by unfold Ra.wide at hn; exact hn)
      have Hd := Lib.hid (show decide ((-1000000000000000000 : Int) ≤ d ∧ d ≤ 1000000000000000000) = false by rcases h with h | h | h <;> simp_all [Ra.wide])
      clear hn h
      go_enter Tryd.func49, Tryd.ntmps49
      go_wp2_with fail
      refine (spec_l1In n _ _ true Hn.out _).mono ?_
      rintro e w1 ⟨rfl, rfl⟩
      go_wp2_with fail
      refine (spec_l1In d _ _ false Hd.out _).mono ?_
      rintro e w1 ⟨rfl, rfl⟩
      go_wp2_with fail
      exact bodyPost_ret (v := .tuple #[.agg #[.int .i64 0, .int .i64 0], .bool false]) (by simp [results, Tryd.results49, go_sem]) rfl ⟨rfl, (Below.refl _ _).alloc (Nat.le_refl _) _⟩
theorem spec_RatOf_ok (n d : Int) (h0 : d ≠ 0) (hn : Ra.wide n = true) (hd : Ra.wide d = true) (w : World) :
    Calls Tryd.prog 49 #[.int .i64 n, .int .i64 d] w fun e w' => e = .returned (.tuple #[.agg #[.int .i64 (Ra.rn n d), .int .i64 (Ra.rd n d)], .bool (Ra.fits n d)]) ∧ Below w.heap.size w w' := by
  have hb : (d == 0) = false := by rw [beq_eq_false_iff_ne]; exact h0
  have Hn := Lib.hid (show decide ((-1000000000000000000 : Int) ≤ n ∧ n ≤ 1000000000000000000) = true by unfold Ra.wide at hn; exact hn)
  have Hd := Lib.hid (show decide ((-1000000000000000000 : Int) ≤ d ∧ d ≤ 1000000000000000000) = true by unfold Ra.wide at hd; exact hd)
  have hfit := Ra.fits_is h0 hn hd
  obtain ⟨n0, n1⟩ := Ra.wide_yes hn
  obtain ⟨d0, d1⟩ := Ra.wide_yes hd
  clear hn hd
  obtain ⟨nb0, nb1⟩ := Ra.num_bd h0 n0 n1
  obtain ⟨db0, db1⟩ := Ra.den_bd (n := n) h0 d0 d1
  have hgp := Ra.gcd_pos (n := n) h0
  have hq1 : d < 0 → (-n).tdiv (Int.gcd n d : Int) = Ra.num n d ∧ -(d.tdiv (Int.gcd n d : Int)) = Ra.den n d := fun h => ⟨Ra.tdiv_num h, by rw [← Ra.div_den h, ← Int.neg_tdiv, Int.tdiv_eq_ediv_of_nonneg (by omega)]⟩
  have hq2 : ¬ d < 0 → n.tdiv (Int.gcd n d : Int) = Ra.num n d ∧ d.tdiv (Int.gcd n d : Int) = Ra.den n d := fun h => ⟨Ra.tdiv_num' h, by rw [← Ra.div_den' h, Int.tdiv_eq_ediv_of_nonneg (by omega)]⟩
  have hc1 : d < 0 → ∀ w : World, Calls Tryd.prog 59 #[.int .i64 (-n), .int .i64 (-d)] w fun e w' => e = .returned (.int .i64 (Int.gcd n d : Int)) ∧ w = w' := fun _ w => by
    have := spec_l3Gcd (-n) (-d) (by omega) (by omega) (by omega) (by omega) w
    rw [Int.neg_gcd, Int.gcd_neg] at this
    exact this
  have hc2 : ∀ w : World, Calls Tryd.prog 59 #[.int .i64 n, .int .i64 d] w fun e w' => e = .returned (.int .i64 (Int.gcd n d : Int)) ∧ w = w' := fun w => spec_l3Gcd n d (by omega) (by omega) (by omega) (by omega) w
  have hyes : Ra.vld (Ra.num n d) (Ra.den n d) = true → Ra.num n d = Ra.rn n d ∧ Ra.den n d = Ra.rd n d := fun h => by have := Ra.rn_yes (hfit.trans h); exact ⟨this.1.symm, this.2.symm⟩
  have hno : Ra.vld (Ra.num n d) (Ra.den n d) = false → Ra.rn n d = 0 ∧ Ra.rd n d = 0 := fun h => Ra.rn_no (hfit.trans h)
  generalize Ra.num n d = N at *
  generalize Ra.den n d = D at *
  obtain ⟨g, hg⟩ : ∃ g : Int, g = (Int.gcd n d : Int) := ⟨_, rfl⟩
  rw [← hg] at hq1 hq2 hc1 hc2
  have hg1 : 1 ≤ g := by omega
  clear hg hgp
  have Hc1 := Lib.hid hc1
  have Hc2 := Lib.hid hc2
  clear hc1 hc2
  by_cases hs : d < 0
  all_goals
    first
    | have hsb : decide (d < 0) = true := by rw [decide_eq_true_iff]; exact hs
    | have hsb : decide (d < 0) = false := by rw [decide_eq_false_iff_not]; exact hs
    first
    | (obtain ⟨q1, q2⟩ := hq1 hs; have Hc := Lib.hid (Hc1.out hs))
    | (obtain ⟨q1, q2⟩ := hq2 hs; have Hc := Lib.hid Hc2.out)
    clear hq1 hq2 Hc1 Hc2
    rcases hv : Ra.vld N D with _ | _
    · have Hv := Lib.hid hv
      obtain ⟨r1, r2⟩ := hno hv
      have R1 := Lib.hid r1.symm
      have R2 := Lib.hid r2.symm
      have R3 := Lib.hid (hfit.trans hv).symm
      clear hv hno hyes hfit r1 r2
      go_enter Tryd.func49, Tryd.ntmps49
      go_wp2_with fail
      refine (spec_l1In n _ _ true Hn.out _).mono ?_
      rintro e w1 ⟨rfl, rfl⟩
      go_wp2_with fail
      refine (spec_l1In d _ _ true Hd.out _).mono ?_
      rintro e w1 ⟨rfl, rfl⟩
      go_wp2_with fail
      refine (Hc.out _).mono ?_
      rintro e w1 ⟨rfl, rfl⟩
      go_wp2_with fail
      go_region
      go_wp2_with fail
      refine (spec_IsValidRat N D false Hv.out _).mono ?_
      rintro e w1 ⟨rfl, hb1⟩
      obtain ⟨hc, hf⟩ := bcell hb1
      have c0 : w1.cell? ⟨w.heap.size, 0, none⟩ = some (.int .i64 0) := by rw [hc _ _ (by simp <;> omega)]; simp
      have c1 : w1.cell? ⟨w.heap.size, 1, none⟩ = some (.int .i64 0) := by rw [hc _ _ (by simp <;> omega)]; simp
      have Hb := Lib.hid (fun (x y : Value) => ((((((Below.refl w.heap.size w).alloc (Nat.le_refl _) _).alloc (by simp) _).drew).trans (hb1.mono (by simp; omega))).setCell (p := ⟨w.heap.size, 0, none⟩) (Nat.le_refl _) x).setCell (p := ⟨w.heap.size, 1, none⟩) (Nat.le_refl _) y)
      clear hb1
      go_wp2_with fail
      exact bodyPost_ret (v := .tuple #[.agg #[.int .i64 0, .int .i64 0], .bool false]) (by simp [results, Tryd.results49, go_sem, (pair_set c0 c1).1, (pair_set c0 c1).2]) rfl ⟨ret_rat R1.out R2.out R3.out, Hb.out _ _⟩
    · have Hv := Lib.hid hv
      obtain ⟨r1, r2⟩ := hyes hv
      have R1 := Lib.hid r1
      have R2 := Lib.hid r2
      have R3 := Lib.hid (hfit.trans hv).symm
      clear hv hno hyes hfit r1 r2
      go_enter Tryd.func49, Tryd.ntmps49
      go_wp2_with fail
      refine (spec_l1In n _ _ true Hn.out _).mono ?_
      rintro e w1 ⟨rfl, rfl⟩
      go_wp2_with fail
      refine (spec_l1In d _ _ true Hd.out _).mono ?_
      rintro e w1 ⟨rfl, rfl⟩
      go_wp2_with fail
      refine (Hc.out _).mono ?_
      rintro e w1 ⟨rfl, rfl⟩
      go_wp2_with fail
      go_region
      go_wp2_with fail
      refine (spec_IsValidRat N D true Hv.out _).mono ?_
      rintro e w1 ⟨rfl, hb1⟩
      obtain ⟨hc, hf⟩ := bcell hb1
      have c0 : w1.cell? ⟨w.heap.size, 0, none⟩ = some (.int .i64 0) := by rw [hc _ _ (by simp <;> omega)]; simp
      have c1 : w1.cell? ⟨w.heap.size, 1, none⟩ = some (.int .i64 0) := by rw [hc _ _ (by simp <;> omega)]; simp
      have Hb := Lib.hid (fun (x y : Value) => ((((((Below.refl w.heap.size w).alloc (Nat.le_refl _) _).alloc (by simp) _).drew).trans (hb1.mono (by simp; omega))).setCell (p := ⟨w.heap.size, 0, none⟩) (Nat.le_refl _) x).setCell (p := ⟨w.heap.size, 1, none⟩) (Nat.le_refl _) y)
      clear hb1
      go_wp2_with fail
      exact bodyPost_ret (v := .tuple #[.agg #[.int .i64 N, .int .i64 D], .bool true]) (by simp [results, Tryd.results49, go_sem, (pair_set c0 c1).1, (pair_set c0 c1).2]) rfl ⟨ret_rat R1.out R2.out R3.out, Hb.out _ _⟩
end Go.Proofs.YtlaohlcghdbjhaaDoor
