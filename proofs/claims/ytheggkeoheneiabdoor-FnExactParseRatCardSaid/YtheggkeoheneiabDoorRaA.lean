/- Fractions on both sides: the greatest common divisor, IsValidRat, RatOf: what each returns; what was there stays. -/
import Derived.Test.YtheggkeoheneiabDoorBase
import Derived.Test.YtheggkeoheneiabDoorRaM
namespace Go.Proofs.YtheggkeoheneiabDoor
open Go.RowKit

theorem spec_l3Gcd (a b : Int) (ha : -1000000000000000000 ≤ a) (ha' : a ≤ 1000000000000000000) (hb : -1000000000000000000 ≤ b) (hb' : b ≤ 1000000000000000000) (w : World) :
    Calls Tryd.prog 22 #[.int .i64 a, .int .i64 b] w fun e w' => e = .returned (.int .i64 (Int.gcd a b : Int)) ∧ w = w' := by
  obtain ⟨G, hG⟩ : ∃ G : Nat, G = Int.gcd a b := ⟨_, rfl⟩
  rw [← hG]
  have hG0 : Hid (Nat.gcd a.natAbs b.natAbs = G) := by show _ = _; rw [hG, Int.gcd_eq_natAbs_gcd_natAbs]
  clear hG
  by_cases h1 : a < 0 <;> by_cases h2 : b < 0
  all_goals
    first
    | have hd1 : decide (a < 0) = true := by rw [decide_eq_true_iff]; exact h1
    | have hd1 : decide (a < 0) = false := by rw [decide_eq_false_iff_not]; exact h1
    first
    | have hd2 : decide (b < 0) = true := by rw [decide_eq_true_iff]; exact h2
    | have hd2 : decide (b < 0) = false := by rw [decide_eq_false_iff_not]; exact h2
    go_enter Tryd.func22, Tryd.ntmps22
    go_wp2_with fail
    go_loop [0, 1] (fun u v => ∃ x y : Nat, x ≤ 1000000000000000000 ∧ y ≤ 1000000000000000000 ∧ u = .int .i64 x ∧ v = .int .i64 y ∧ Hid (Nat.gcd x y = G)) (fun _ v => (intOf v).toNat)
    case atStart => exact ⟨a.natAbs, b.natAbs, by omega, by omega, by first | (congr 1; omega) | skip, by first | (congr 1; omega) | skip, hG0⟩
    case round =>
      obtain ⟨x, y, hx, hy, rfl, rfl, hg⟩ := hrel
      by_cases hlt : 0 < y
      · have hg2 : Hid (Nat.gcd y (x % y) = G) := by show _ = _; rw [Nat.gcd_comm, ← Nat.gcd_rec, Nat.gcd_comm]; exact hg.out
        have hm := Nat.mod_lt x hlt
        go_wp2_with fail
        go_round
        case rel => exact ⟨y, x % y, by omega, by omega, rfl, by rw [Int.natCast_emod], hg2⟩
        case measure => simp [intOf]; omega
      · have he : y = 0 := by omega
        have hf : Hid ((x : Int) = (G : Int)) := by show _ = _; rw [← hg.out, he, Nat.gcd_zero_right]
        clear hg
        subst he
        go_wp2_with fail
        go_ret
        exact ⟨ret_int hf.out, rfl⟩
theorem spec_IsValidRat (n d : Int) (b : Bool) (h : Ra.vld n d = b) (w : World) : Calls Tryd.prog 14 #[.agg #[.int .i64 n, .int .i64 d]] w fun e w' => e = .returned (.bool b) ∧ Below w.heap.size w w' := by
  rcases hd : decide ((1 : Int) ≤ d ∧ d ≤ 1000000000) with _ | _
  · have Hd := Lib.hid hd
    have Hr := Lib.hid (show false = b by
      rw [← h]; symm
      rcases hv : Ra.vld n d with _ | _
      · rfl
      · have := Ra.vld_yes hv; rw [decide_eq_false_iff_not] at hd; omega)
    clear hd h
    go_enter Tryd.func14, Tryd.ntmps14
    go_wp2_with fail
    refine (spec_l1In d 1 1000000000 false Hd.out _).mono ?_
    rintro e w1 ⟨rfl, rfl⟩
    go_wp2_with fail
    go_ret
    exact ⟨ret_bool Hr.out, (Below.refl _ _).alloc (Nat.le_refl _) _⟩
  · rcases hn : decide ((-1000000000 : Int) ≤ n ∧ n ≤ 1000000000) with _ | _
    · have Hd := Lib.hid hd
      have Hn := Lib.hid hn
      have Hr := Lib.hid (show false = b by
        rw [← h]; symm
        rcases hv : Ra.vld n d with _ | _
        · rfl
        · have := Ra.vld_yes hv; rw [decide_eq_false_iff_not] at hn; omega)
      clear hd hn h
      go_enter Tryd.func14, Tryd.ntmps14
      go_wp2_with fail
      refine (spec_l1In d 1 1000000000 true Hd.out _).mono ?_
      rintro e w1 ⟨rfl, rfl⟩
      go_wp2_with fail
      refine (spec_l1In n (-1000000000) 1000000000 false Hn.out _).mono ?_
      rintro e w1 ⟨rfl, rfl⟩
      go_wp2_with fail
      go_ret
      exact ⟨ret_bool Hr.out, (Below.refl _ _).alloc (Nat.le_refl _) _⟩
    · have Hd := Lib.hid hd
      have Hn := Lib.hid hn
      rw [decide_eq_true_iff] at hd hn
      obtain ⟨d0, d1⟩ := hd
      obtain ⟨n0, n1⟩ := hn
      have Hr := Lib.hid (show ((Int.gcd n d : Int) == 1) = b by
        rw [← h, Bool.eq_iff_iff, beq_iff_eq]
        unfold Ra.vld
        rw [decide_eq_true_iff]
        omega)
      clear h
      go_enter Tryd.func14, Tryd.ntmps14
      go_wp2_with fail
      refine (spec_l1In d 1 1000000000 true Hd.out _).mono ?_
      rintro e w1 ⟨rfl, rfl⟩
      go_wp2_with fail
      refine (spec_l1In n (-1000000000) 1000000000 true Hn.out _).mono ?_
      rintro e w1 ⟨rfl, rfl⟩
      go_wp2_with fail
      refine (spec_l3Gcd n d (by omega) (by omega) (by omega) (by omega) _).mono ?_
      rintro e w1 ⟨rfl, rfl⟩
      go_wp2_with fail
      go_ret
      exact ⟨ret_bool Hr.out, (Below.refl _ _).alloc (Nat.le_refl _) _⟩

/-- What RatOf returns, as a value. -/
def ratV (n d : Int) (k : Bool) : Value := .tuple #[.agg #[.int .i64 n, .int .i64 d], .bool k]
theorem ret_rat {n d n' d' : Int} {k k' : Bool} (h1 : n = n') (h2 : d = d') (h3 : k = k') : Ending.returned (.tuple #[.agg #[.int .i64 n, .int .i64 d], .bool k]) = .returned (.tuple #[.agg #[.int .i64 n', .int .i64 d'], .bool k']) := by rw [h1, h2, h3]
end Go.Proofs.YtheggkeoheneiabDoor
