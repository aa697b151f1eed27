/- RatOf whole, impl's IsValidRat and areValidRats, sums, differences, products, quotients on both sides. -/
import Derived.Test.YtlaohlcghdbjhaaDoorRaB
import Derived.Test.YtlaohlcghdbjhaaDoorRaEq
namespace Go.Proofs.YtlaohlcghdbjhaaDoor
open Go.RowKit

theorem rat_case (n d : Int) : (d = 0 ∨ Ra.wide n = false ∨ Ra.wide d = false) ∨ (d ≠ 0 ∧ Ra.wide n = true ∧ Ra.wide d = true) := by
  by_cases h : d = 0
  · exact .inl (.inl h)
  · rcases hn : Ra.wide n with _ | _
    · exact .inl (.inr (.inl rfl))
    · rcases hd : Ra.wide d with _ | _
      · exact .inl (.inr (.inr rfl))
      · exact .inr ⟨h, rfl, rfl⟩
theorem rat_bad {n d : Int} (h : d = 0 ∨ Ra.wide n = false ∨ Ra.wide d = false) : Ra.fits n d = false := by
  rcases h with rfl | h | h
  · exact Ra.fits_zero n
  · exact Ra.fits_nwide h
  · exact Ra.fits_dwide h
theorem spec_RatOf (n d : Int) (w : World) :
    Calls Tryd.prog 49 #[.int .i64 n, .int .i64 d] w fun e w' => e = .returned (.tuple #[.agg #[.int .i64 (Ra.rn n d), .int .i64 (Ra.rd n d)], .bool (Ra.fits n d)]) ∧ Below w.heap.size w w' := by
  rcases rat_case n d with h | ⟨h1, h2, h3⟩
  · have hf := rat_bad h
    rw [(Ra.rn_no hf).1, (Ra.rn_no hf).2, hf]
    exact spec_RatOf_bad n d h w
  · exact spec_RatOf_ok n d h1 h2 h3 w
theorem impl_RatOf (n d : Int) (w : World) :
    Calls Tryd.prog 36 #[.int .i64 n, .int .i64 d] w fun e w' => e = .returned (.tuple #[.agg #[.int .i64 (Ra.rn n d), .int .i64 (Ra.rd n d)], .bool (Ra.fits n d)]) ∧ Below w.heap.size w w' := by
  rcases rat_case n d with h | ⟨h1, h2, h3⟩
  · have hf := rat_bad h
    rw [(Ra.rn_no hf).1, (Ra.rn_no hf).2, hf]
    exact impl_RatOf_bad n d h w
  · exact impl_RatOf_ok n d h1 h2 h3 w

theorem impl_IsValidRat (n d : Int) (b : Bool) (h : Ra.vld n d = b) (w : World) : Calls Tryd.prog 44 #[.agg #[.int .i64 n, .int .i64 d]] w fun e w' => e = .returned (.bool b) ∧ Below w.heap.size w w' := by
  obtain ⟨N, D, k, hN, hD, hk, hkey⟩ : ∃ (N D : Int) (k : Bool), Ra.rn n d = N ∧ Ra.rd n d = D ∧ Ra.fits n d = k ∧ (k && (N == n && D == d)) = b := by
    refine ⟨_, _, _, rfl, rfl, rfl, ?_⟩
    cases b with
    | false => exact Ra.not_own h
    | true => obtain ⟨h1, h2, h3⟩ := Ra.own_form h; rw [h1, h2, h3]; simp
  have hc : ∀ w : World, Calls Tryd.prog 36 #[.int .i64 n, .int .i64 d] w fun e w' => e = .returned (.tuple #[.agg #[.int .i64 N, .int .i64 D], .bool k]) ∧ Below w.heap.size w w' := fun w => by
    have := impl_RatOf n d w
    rw [hN, hD, hk] at this
    exact this
  have Hc := Lib.hid hc
  have H := Lib.hid hkey
  clear hN hD hk hkey hc h
  cases k with
  | false =>
    go_enter Tryd.func44, Tryd.ntmps44
    go_wp2_with fail
    refine (Hc.out _).mono ?_
    rintro e w1 ⟨rfl, hb1⟩
    have hz : w.heap.size < w1.heap.size := by have := hb1.size; simp at this; omega
    have Hb := Lib.hid (((Below.refl w.heap.size w).alloc (Nat.le_refl _) _).trans (hb1.mono (by simp)))
    clear hb1
    go_wp2_with fail
    go_ret
    exact ⟨ret_bool H.out, Hb.out.alloc (by omega) _⟩
  | true =>
    have he := eq_rat
    have hg := eqg_rat
    go_enter Tryd.func44, Tryd.ntmps44
    go_wp2_with fail
    refine (Hc.out _).mono ?_
    rintro e w1 ⟨rfl, hb1⟩
    have hz : w.heap.size < w1.heap.size := by have := hb1.size; simp at this; omega
    have c0 := cell_after hb1 (p := ⟨w.heap.size, 0, none⟩) (v := .int .i64 n) (by simp) (by simp)
    have c1 := cell_after hb1 (p := ⟨w.heap.size, 1, none⟩) (v := .int .i64 d) (by simp) (by simp)
    have Hb := Lib.hid (((Below.refl w.heap.size w).alloc (Nat.le_refl _) _).trans (hb1.mono (by simp)))
    clear hb1
    go_wp2_with fail
    go_ret
    exact ⟨ret_bool H.out, Hb.out.alloc (by omega) _⟩
end Go.Proofs.YtlaohlcghdbjhaaDoor
