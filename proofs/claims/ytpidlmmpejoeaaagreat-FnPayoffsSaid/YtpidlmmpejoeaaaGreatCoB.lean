/- SizeOf, IsSubset, Union, Overlap on both sides: what each returns; the world is as it was. -/
import Derived.Test.YtpidlmmpejoeaaaGreatCoA
namespace Go.Proofs.YtpidlmmpejoeaaaGreat
open Go.RowKit

theorem spec_SizeOf (s : Int) (hs : s ≤ 9223372036854775807) (w : World) : Calls Tryz.prog 81 #[.int .i64 s] w fun e w' => e = .returned (.int .i64 (Co.size s 5)) ∧ w = w' := by
 go_enter Tryz.func81, Tryz.ntmps81
 go_wp2_with fail
 go_loop [3, 4] (fun o i => ∃ (k : Nat) (n : Int), k ≤ 5 ∧ 0 ≤ n ∧ n ≤ 5 ∧ Hid (n = Co.size s k) ∧ i = .int .i64 k ∧ o = .int .i64 n) (fun _ i => 5 - (intOf i).toNat)
 case atStart => exact ⟨0, 0, Nat.zero_le _, by omega, by omega, rfl, rfl, rfl⟩
 case round =>
  obtain ⟨k, n, hk, hn0, hn1, hN, rfl, rfl⟩ := hrel
  by_cases hlt : k < 5
  ·
   rcases hh : Co.has s k with _ | _
   ·
    have hN2 := Lib.hid (show n = Co.size s (k + 1) by rw [hN.out, Co.size_no hh])
    have Hh := Lib.hid hh
    clear hh
    go_wp2_with fail
    refine (spec_HasPlayer s hs k hlt false Hh.out w).mono ?_
    rintro e w1 ⟨rfl, rfl⟩
    go_wp2_with fail
    go_round
    case rel => exact ⟨k + 1, n, by omega, hn0, hn1, hN2, by go_num, rfl⟩
    case measure => simp [intOf]; omega
   ·
    have hN2 := Lib.hid (show n + 1 = Co.size s (k + 1) by rw [hN.out, Co.size_yes hh])
    have hn2 : n + 1 ≤ 5 := by rw [hN2.out]; have := (Co.size_bd s (k + 1)).2; omega
    have Hh := Lib.hid hh
    clear hh
    go_wp2_with fail
    refine (spec_HasPlayer s hs k hlt true Hh.out w).mono ?_
    rintro e w1 ⟨rfl, rfl⟩
    go_wp2_with fail
    go_round
    case rel => exact ⟨k + 1, n + 1, by omega, by omega, hn2, hN2, by go_num, rfl⟩
    case measure => simp [intOf]; omega
  ·
   have he : k = 5 := by omega
   have hf : Hid (n = Co.size s 5) := by show _ = _; rw [hN.out, he]
   clear he
   go_wp2_with fail
   go_ret
   exact ⟨ret_int hf.out, rfl⟩

theorem bad_right {a b : Int} (ha : Co.good a = true) (h : Co.good a = false ∨ Co.good b = false) : Co.good b = false := h.resolve_left (by rw [ha]; decide)
def subR (a b : Int) : Bool := Co.good a && Co.good b && Co.sub a b 5
theorem sub_false {a b : Int} : ∀ {k : Nat} (n : Nat), k < n → Co.has a k = true → Co.has b k = false → Co.sub a b n = false
 | _, 0, h, _, _ => by omega
 | k, n + 1, h, h1, h2 => by
  rw [Co.sub]
  by_cases e : k = n
  ·
   subst e; simp [h1, h2]
  ·
   rw [sub_false n (by omega) h1 h2]; rfl
end Go.Proofs.YtpidlmmpejoeaaaGreat
