/- The order of fractions and what it calls, with the draws counted: they never become fewer (gen/pyK.py, out of RaB, RaC, RaE, RaF). -/
import Derived.Test.YtpidlmmpejoeaaaGreatPyC2
import Derived.Test.YtpidlmmpejoeaaaGreatGRa
import Derived.Sort.Grow
namespace Go.Proofs.YtpidlmmpejoeaaaGreat
open Go.RowKit
open Ve (R)
structure Bel (B : Nat) (w w' : World) : Prop where
 low : Below B w w'
 more : w.drawn ≤ w'.drawn
theorem Bel.refl (B : Nat) (w : World) : Bel B w w := ⟨Below.refl _ _, Nat.le_refl _⟩
theorem Bel.size {B : Nat} {w w' : World} (h : Bel B w w') : w.heap.size ≤ w'.heap.size := h.low.size
theorem Bel.trans {B : Nat} {a b c : World} (h : Bel B a b) (k : Bel B b c) : Bel B a c := ⟨h.low.trans k.low, Nat.le_trans h.more k.more⟩
theorem Bel.mono {B B' : Nat} {w w' : World} (h : Bel B w w') (hB : B' ≤ B) : Bel B' w w' := ⟨h.low.mono hB, h.more⟩
theorem Bel.alloc {B : Nat} {a w : World} (h : Bel B a w) (hB : B ≤ w.heap.size) (o : Obj) : Bel B a (w.alloc o) := ⟨h.low.alloc hB o, h.more⟩
theorem Bel.setCell {B : Nat} {a w : World} (h : Bel B a w) {p : Addr} (hp : B ≤ p.block) (u : Value) : Bel B a (w.setCell p u) := ⟨h.low.setCell hp u, h.more⟩
theorem Bel.drew {B : Nat} {a w : World} (h : Bel B a w) : Bel B a w.drew := ⟨h.low.drew, Nat.le_trans h.more (Nat.le_succ _)⟩
theorem bel_drewN {B : Nat} {a w : World} (h : Bel B a w) (n : Nat) : Bel B a (w.drewN n) := ⟨below_drewN h.low n, Nat.le_trans h.more (Nat.le_add_right _ _)⟩
theorem low2_g {w wx : World} {o1 o2 : Obj} (hb : Bel ((w.alloc o1).alloc o2).heap.size ((w.alloc o1).alloc o2) wx) : Bel w.heap.size w wx :=
 (((Bel.refl w.heap.size w).alloc (Nat.le_refl _) o1).alloc (by simp) o2).trans (hb.mono (by simp; omega))
theorem Bel.grew {w w' : World} (h : Bel w.heap.size w w') : ∃ (q : Nat) (os : Array Obj), w' = Sort.grow (w.drewN q) os := by
 obtain ⟨⟨h1, h2, h3, h4, h5⟩, h6⟩ := h
 refine ⟨w'.drawn - w.drawn, w'.heap.extract w.heap.size w'.heap.size, ?_⟩
 have hh : w'.heap = w.heap ++ w'.heap.extract w.heap.size w'.heap.size := by
  apply Array.ext_getElem?
  intro i
  by_cases hi : i < w.heap.size
  ·
   rw [h5 i hi, Array.getElem?_append_left hi]
  ·
   rw [Array.getElem?_append_right (by omega), Array.getElem?_extract]
   by_cases hi2 : i < w'.heap.size
   ·
    rw [if_pos (by omega), show w.heap.size + (i - w.heap.size) = i by omega]
   ·
    rw [if_neg (by omega), Array.getElem?_eq_none (by omega)]
 obtain ⟨hp, tp, dr, os, ou⟩ := w'
 dsimp only at h1 h2 h3 h6 hh ⊢
 subst h1 h2 h3
 unfold Sort.grow World.drewN
 dsimp only
 rw [← hh, show w.drawn + (dr - w.drawn) = dr by omega]
set_option maxHeartbeats 2000000 in
theorem impl_RatOf_bad_g (n d : Int) (h : d = 0 ∨ Ra.wide n = false ∨ Ra.wide d = false) (w : World) :
  Calls Tryz.prog 77 #[.int .i64 n, .int .i64 d] w fun e w' => e = .returned (.tuple #[.agg #[.int .i64 0, .int .i64 0], .bool false]) ∧ Bel w.heap.size w w' := by
 by_cases h0 : d = 0
 ·
  subst h0
  clear h
  go_enter Tryz.func77, Tryz.ntmps77
  go_wp2_with fail
  exact bodyPost_ret (v := .tuple #[.agg #[.int .i64 0, .int .i64 0], .bool false]) (by simp [results, Tryz.results77, go_sem]) rfl ⟨rfl, (Bel.refl _ _).alloc (Nat.le_refl _) _⟩
 ·
  have hb : (d == 0) = false := by rw [beq_eq_false_iff_ne]; exact h0
  rcases hn : Ra.wide n with _ | _
  ·
   have Hn := zH (show decide (-(1000000000000000000 : Int) ≤ n ∧ n ≤ 1000000000000000000) = false by unfold Ra.wide at hn; exact hn)
   clear hn h
   go_enter Tryz.func77, Tryz.ntmps77
   go_wp2_with fail
   refine (impl_isWithin n _ false Hn.out (by decide) (by decide) _).mono ?_
   rintro e w1 ⟨rfl, rfl⟩
   go_wp2_with fail
   exact bodyPost_ret (v := .tuple #[.agg #[.int .i64 0, .int .i64 0], .bool false]) (by simp [results, Tryz.results77, go_sem]) rfl ⟨rfl, (Bel.refl _ _).alloc (Nat.le_refl _) _⟩
  ·
   have Hn := zH (show decide (-(1000000000000000000 : Int) ≤ n ∧ n ≤ 1000000000000000000) = true by unfold Ra.wide at hn; exact hn)
   have Hd := zH (show decide (-(1000000000000000000 : Int) ≤ d ∧ d ≤ 1000000000000000000) = false by rcases h with h | h | h <;> simp_all [Ra.wide])
   clear hn h
   go_enter Tryz.func77, Tryz.ntmps77
   go_wp2_with fail
   refine (impl_isWithin n _ true Hn.out (by decide) (by decide) _).mono ?_
   rintro e w1 ⟨rfl, rfl⟩
   go_wp2_with fail
   refine (impl_isWithin d _ false Hd.out (by decide) (by decide) _).mono ?_
   rintro e w1 ⟨rfl, rfl⟩
   go_wp2_with fail
   exact bodyPost_ret (v := .tuple #[.agg #[.int .i64 0, .int .i64 0], .bool false]) (by simp [results, Tryz.results77, go_sem]) rfl ⟨rfl, (Bel.refl _ _).alloc (Nat.le_refl _) _⟩
set_option maxHeartbeats 2000000 in
theorem impl_RatOf_ok_g (n d : Int) (h0 : d ≠ 0) (hn : Ra.wide n = true) (hd : Ra.wide d = true) (w : World) :
  Calls Tryz.prog 77 #[.int .i64 n, .int .i64 d] w fun e w' => e = .returned (.tuple #[.agg #[.int .i64 (Ra.rn n d), .int .i64 (Ra.rd n d)], .bool (Ra.fits n d)]) ∧ Bel w.heap.size w w' := by
 have hb : (d == 0) = false := by rw [beq_eq_false_iff_ne]; exact h0
 have Hn := zH (show decide (-(1000000000000000000 : Int) ≤ n ∧ n ≤ 1000000000000000000) = true by unfold Ra.wide at hn; exact hn)
 have Hd := zH (show decide (-(1000000000000000000 : Int) ≤ d ∧ d ≤ 1000000000000000000) = true by unfold Ra.wide at hd; exact hd)
 have hfit : Ra.fits n d = decide (-1000000000 ≤ Ra.num n d ∧ Ra.num n d ≤ 1000000000 ∧ Ra.den n d ≤ 1000000000) := (Ra.fits_is h0 hn hd).trans (Ra.vld_red h0)
 obtain ⟨n0, n1⟩ := Ra.wide_yes hn
 obtain ⟨d0, d1⟩ := Ra.wide_yes hd
 clear hn hd
 obtain ⟨nb0, nb1⟩ := Ra.num_bd h0 n0 n1
 obtain ⟨db0, db1⟩ := Ra.den_bd (n := n) h0 d0 d1
 have hgp := Ra.gcd_pos (n := n) h0
 have hq : (d < 0 ∧ decide (d < 0) = true ∧ (-n).tdiv (Int.gcd n d : Int) = Ra.num n d ∧ -(d.tdiv (Int.gcd n d : Int)) = Ra.den n d) ∨ (¬ d < 0 ∧ decide (d < 0) = false ∧ n.tdiv (Int.gcd n d : Int) = Ra.num n d ∧ d.tdiv (Int.gcd n d : Int) = Ra.den n d) := by
  by_cases h : d < 0
  ·
   exact .inl ⟨h, by rw [decide_eq_true_iff]; exact h, Ra.tdiv_num h, by rw [← Ra.div_den h, ← Int.neg_tdiv, Int.tdiv_eq_ediv_of_nonneg (by omega)]⟩
  ·
   exact .inr ⟨h, by rw [decide_eq_false_iff_not]; exact h, Ra.tdiv_num' h, by rw [← Ra.div_den' h, Int.tdiv_eq_ediv_of_nonneg (by omega)]⟩
 have hc : ∀ x y : Int, x = (n.natAbs : Int) → y = (d.natAbs : Int) → ∀ w : World, Calls Tryz.prog 89 #[.int .i64 x, .int .i64 y] w fun e w' => e = .returned (.int .i64 (Int.gcd n d : Int)) ∧ ∃ n, w' = w.drewN n := by
  rintro x y rfl rfl w
  have := impl_commonDivisor n.natAbs d.natAbs (by omega) (by omega) w
  rw [← Int.gcd_eq_natAbs_gcd_natAbs] at this
  exact this
 have hyes : Ra.fits n d = true → Ra.num n d = Ra.rn n d ∧ Ra.den n d = Ra.rd n d := fun h => by have := Ra.rn_yes h; exact ⟨this.1.symm, this.2.symm⟩
 have hno : Ra.fits n d = false → Ra.rn n d = 0 ∧ Ra.rd n d = 0 := fun h => Ra.rn_no h
 generalize Ra.num n d = N at *
 generalize Ra.den n d = D at *
 obtain ⟨g, hg⟩ : ∃ g : Int, g = (Int.gcd n d : Int) := ⟨_, rfl⟩
 rw [← hg] at hq hc
 have hg1 : 1 ≤ g := by omega
 clear hg hgp
 have Hc := zH hc
 clear hc
 have key : (decide (-(1000000000 : Int) ≤ N ∧ N ≤ 1000000000) = false ∧ Ra.fits n d = false) ∨ (decide (-(1000000000 : Int) ≤ N ∧ N ≤ 1000000000) = true ∧ decide (1000000000 < D) = true ∧ Ra.fits n d = false) ∨ (decide (-(1000000000 : Int) ≤ N ∧ N ≤ 1000000000) = true ∧ decide (1000000000 < D) = false ∧ Ra.fits n d = true) := by
  rw [hfit]
  simp only [decide_eq_true_iff, decide_eq_false_iff_not]
  omega
 clear hfit
 obtain ⟨hs, hsb, q1, q2⟩ | ⟨hs, hsb, q1, q2⟩ := hq
 all_goals
  rcases key with ⟨k1, k3⟩ | ⟨k1, k2, k3⟩ | ⟨k1, k2, k3⟩
  ·
   have K1 := zH k1
   have R1 := zH (hno k3).1.symm
   have R2 := zH (hno k3).2.symm
   have R3 := zH k3.symm
   clear k1 k3 hyes hno
   go_enter Tryz.func77, Tryz.ntmps77
   go_wp2_with fail
   refine (impl_isWithin n _ true Hn.out (by decide) (by decide) _).mono ?_
   rintro e w1 ⟨rfl, rfl⟩
   go_wp2_with fail
   refine (impl_isWithin d _ true Hd.out (by decide) (by decide) _).mono ?_
   rintro e w1 ⟨rfl, rfl⟩
   go_wp2_with fail
   all_goals
    refine (Hc.out _ _ (by omega) (by omega) _).mono ?_
    rintro e w1 ⟨rfl, k, rfl⟩
    go_wp2_with fail
    go_region
    go_wp2_with fail
    refine (impl_isWithin N _ false K1.out (by decide) (by decide) _).mono ?_
    rintro e w1 ⟨rfl, rfl⟩
    go_wp2_with fail
    exact bodyPost_ret (v := .tuple #[.agg #[.int .i64 0, .int .i64 0], .bool false]) (by simp [results, Tryz.results77, go_sem]) rfl ⟨ret_rat R1.out R2.out R3.out, by (repeat' (first | exact Bel.refl _ _ | exact Nat.le_refl _ | refine Bel.setCell ?_ ?_ _ | refine Bel.alloc ?_ ?_ _ | refine bel_drewN ?_ _ | refine Bel.drew ?_ | (simp; done) | (simp; omega)))⟩
  ·
   have K1 := zH k1
   have R1 := zH (hno k3).1.symm
   have R2 := zH (hno k3).2.symm
   have R3 := zH k3.symm
   clear k1 k3 hyes hno
   go_enter Tryz.func77, Tryz.ntmps77
   go_wp2_with fail
   refine (impl_isWithin n _ true Hn.out (by decide) (by decide) _).mono ?_
   rintro e w1 ⟨rfl, rfl⟩
   go_wp2_with fail
   refine (impl_isWithin d _ true Hd.out (by decide) (by decide) _).mono ?_
   rintro e w1 ⟨rfl, rfl⟩
   go_wp2_with fail
   all_goals
    refine (Hc.out _ _ (by omega) (by omega) _).mono ?_
    rintro e w1 ⟨rfl, k, rfl⟩
    go_wp2_with fail
    go_region
    go_wp2_with fail
    refine (impl_isWithin N _ true K1.out (by decide) (by decide) _).mono ?_
    rintro e w1 ⟨rfl, rfl⟩
    go_wp2_with fail
    exact bodyPost_ret (v := .tuple #[.agg #[.int .i64 0, .int .i64 0], .bool false]) (by simp [results, Tryz.results77, go_sem]) rfl ⟨ret_rat R1.out R2.out R3.out, by (repeat' (first | exact Bel.refl _ _ | exact Nat.le_refl _ | refine Bel.setCell ?_ ?_ _ | refine Bel.alloc ?_ ?_ _ | refine bel_drewN ?_ _ | refine Bel.drew ?_ | (simp; done) | (simp; omega)))⟩
  ·
   have K1 := zH k1
   have R1 := zH (hyes k3).1
   have R2 := zH (hyes k3).2
   have R3 := zH k3.symm
   clear k1 k3 hyes hno
   go_enter Tryz.func77, Tryz.ntmps77
   go_wp2_with fail
   refine (impl_isWithin n _ true Hn.out (by decide) (by decide) _).mono ?_
   rintro e w1 ⟨rfl, rfl⟩
   go_wp2_with fail
   refine (impl_isWithin d _ true Hd.out (by decide) (by decide) _).mono ?_
   rintro e w1 ⟨rfl, rfl⟩
   go_wp2_with fail
   all_goals
    refine (Hc.out _ _ (by omega) (by omega) _).mono ?_
    rintro e w1 ⟨rfl, k, rfl⟩
    go_wp2_with fail
    go_region
    go_wp2_with fail
    refine (impl_isWithin N _ true K1.out (by decide) (by decide) _).mono ?_
    rintro e w1 ⟨rfl, rfl⟩
    go_wp2_with fail
    exact bodyPost_ret (v := .tuple #[.agg #[.int .i64 N, .int .i64 D], .bool true]) (by simp [results, Tryz.results77, go_sem]) rfl ⟨ret_rat R1.out R2.out R3.out, by (repeat' (first | exact Bel.refl _ _ | exact Nat.le_refl _ | refine Bel.setCell ?_ ?_ _ | refine Bel.alloc ?_ ?_ _ | refine bel_drewN ?_ _ | refine Bel.drew ?_ | (simp; done) | (simp; omega)))⟩
set_option maxHeartbeats 2000000 in
theorem impl_RatOf_g (n d : Int) (w : World) :
  Calls Tryz.prog 77 #[.int .i64 n, .int .i64 d] w fun e w' => e = .returned (.tuple #[.agg #[.int .i64 (Ra.rn n d), .int .i64 (Ra.rd n d)], .bool (Ra.fits n d)]) ∧ Bel w.heap.size w w' := by
 rcases rat_case n d with h | ⟨h1, h2, h3⟩
 ·
  have hf := rat_bad h
  rw [(Ra.rn_no hf).1, (Ra.rn_no hf).2, hf]
  exact impl_RatOf_bad_g n d h w
 ·
  exact impl_RatOf_ok_g n d h1 h2 h3 w

set_option maxHeartbeats 2000000 in
theorem impl_IsValidRat_g (n d : Int) (b : Bool) (h : Ra.vld n d = b) (w : World) : Calls Tryz.prog 73 #[.agg #[.int .i64 n, .int .i64 d]] w fun e w' => e = .returned (.bool b) ∧ Bel w.heap.size w w' := by
 obtain ⟨N, D, k, hN, hD, hk, hkey⟩ : ∃ (N D : Int) (k : Bool), Ra.rn n d = N ∧ Ra.rd n d = D ∧ Ra.fits n d = k ∧ (k && (N == n && D == d)) = b := by
  refine ⟨_, _, _, rfl, rfl, rfl, ?_⟩
  cases b with
  | false => exact Ra.not_own h
  | true => obtain ⟨h1, h2, h3⟩ := Ra.own_form h; rw [h1, h2, h3]; simp
 have hc : ∀ w : World, Calls Tryz.prog 77 #[.int .i64 n, .int .i64 d] w fun e w' => e = .returned (.tuple #[.agg #[.int .i64 N, .int .i64 D], .bool k]) ∧ Bel w.heap.size w w' := fun w => by
  have := impl_RatOf_g n d w
  rw [hN, hD, hk] at this
  exact this
 have Hc := zH hc
 have H := zH hkey
 clear hN hD hk hkey hc h
 cases k with
 | false =>
  go_enter Tryz.func73, Tryz.ntmps73
  go_wp2_with fail
  refine (Hc.out _).mono ?_
  rintro e w1 ⟨rfl, hb1⟩
  have hz : w.heap.size < w1.heap.size := by have := hb1.size; simp at this; omega
  have Hb := zH (((Bel.refl w.heap.size w).alloc (Nat.le_refl _) _).trans (hb1.mono (by simp)))
  clear hb1
  go_wp2_with fail
  go_ret
  exact ⟨ret_bool H.out, Hb.out.alloc (by omega) _⟩
 | true =>
  have he := eq_rat
  have hg := eqg_rat
  go_enter Tryz.func73, Tryz.ntmps73
  go_wp2_with fail
  refine (Hc.out _).mono ?_
  rintro e w1 ⟨rfl, hb1⟩
  have hz : w.heap.size < w1.heap.size := by have := hb1.size; simp at this; omega
  have c0 := cell_after hb1.low (p := ⟨w.heap.size, 0, none⟩) (v := .int .i64 n) (by simp) (by simp)
  have c1 := cell_after hb1.low (p := ⟨w.heap.size, 1, none⟩) (v := .int .i64 d) (by simp) (by simp)
  have Hb := zH (((Bel.refl w.heap.size w).alloc (Nat.le_refl _) _).trans (hb1.mono (by simp)))
  clear hb1
  go_wp2_with fail
  go_ret
  exact ⟨ret_bool H.out, Hb.out.alloc (by omega) _⟩
set_option maxHeartbeats 2000000 in
theorem impl_areValidRats_g (an ad bn bd : Int) (b : Bool) (h : Ra.two an ad bn bd = b) (w : World) :
  Calls Tryz.prog 47 #[.agg #[.int .i64 an, .int .i64 ad], .agg #[.int .i64 bn, .int .i64 bd]] w fun e w' => e = .returned (.bool b) ∧ Bel w.heap.size w w' := by
 rcases h1 : Ra.vld an ad with _ | _
 ·
  have H := zH (show false = b by rw [← h]; unfold Ra.two; rw [h1]; rfl)
  have H1 := zH h1
  clear h h1
  go_enter Tryz.func47, Tryz.ntmps47
  go_wp2_with fail
  refine (impl_IsValidRat_g an ad false H1.out _).mono ?_
  rintro e w1 ⟨rfl, hb1⟩
  have Hb := zH hb1
  clear hb1
  go_wp2_with fail
  go_ret
  exact ⟨ret_bool H.out, (((Bel.refl w.heap.size w).alloc (Nat.le_refl _) _).alloc (by simp) _).trans (Hb.out.mono (by simp; omega))⟩
 ·
  have H := zH (show Ra.vld bn bd = b by rw [← h]; unfold Ra.two; rw [h1]; rfl)
  have H1 := zH h1
  clear h h1
  go_enter Tryz.func47, Tryz.ntmps47
  go_wp2_with fail
  refine (impl_IsValidRat_g an ad true H1.out _).mono ?_
  rintro e w1 ⟨rfl, hb1⟩
  have b0 := cell_after hb1.low (p := ⟨w.heap.size + 1, 0, none⟩) (v := .int .i64 bn) (by simp) (by simp)
  have b1 := cell_after hb1.low (p := ⟨w.heap.size + 1, 1, none⟩) (v := .int .i64 bd) (by simp) (by simp)
  have Hb := zH ((((Bel.refl w.heap.size w).alloc (Nat.le_refl _) _).alloc (by simp) _).trans (hb1.mono (by simp; omega)))
  clear hb1
  go_wp2_with fail
  refine (impl_IsValidRat_g bn bd b H.out _).mono ?_
  rintro e w2 ⟨rfl, hb2⟩
  have Hb2 := zH (Hb.out.trans (hb2.mono Hb.out.size))
  clear hb2
  go_wp2_with fail
  go_ret
  exact ⟨rfl, Hb2.out⟩
set_option maxHeartbeats 2000000 in
theorem impl_CompareRat_g (an ad bn bd : Int) (w : World) :
  Calls Tryz.prog 18 #[.agg #[.int .i64 an, .int .i64 ad], .agg #[.int .i64 bn, .int .i64 bd]] w fun e w' => e = .returned (.int .i64 (Ra.cmp an ad bn bd)) ∧ Bel w.heap.size w w' := by
 have he := eq_rat
 have hg := eqg_rat
 rcases h0 : (an == bn && ad == bd) with _ | _
 ·
  rcases h : Ra.two an ad bn bd with _ | _
  ·
   rw [Ra.cmp_no h]
   have H := zH h
   clear h
   go_enter Tryz.func18, Tryz.ntmps18
   go_wp2_with fail
   refine (impl_areValidRats_g an ad bn bd false H.out _).mono ?_
   rintro e w1 ⟨rfl, hb1⟩
   have Hb := zH (low2_g hb1)
   clear hb1
   go_wp2_with fail
   go_ret
   exact ⟨rfl, Hb.out⟩
  ·
   obtain ⟨h1, h2⟩ := Ra.two_yes h
   obtain ⟨⟨p1, p2⟩, ⟨p3, p4⟩, ⟨p5, p6⟩, ⟨p7, p8⟩, ⟨p9, p10⟩⟩ := Ra.prods h1 h2
   have key : ∃ r : Int, Hid (Ra.cmp an ad bn bd = r) ∧ ((decide (an * bd < bn * ad) = true ∧ r = -1) ∨ (decide (an * bd < bn * ad) = false ∧ r = 1)) := by
    rcases Int.lt_trichotomy (an * bd) (bn * ad) with h3 | h3 | h3
    ·
     exact ⟨-1, Ra.cmp_lt h h3, .inl ⟨by rw [decide_eq_true_iff]; exact h3, rfl⟩⟩
    ·
     exfalso
     obtain ⟨c1, c2⟩ := Ra.canon h1 h2 h3
     rw [c1, c2] at h0
     simp at h0
    ·
     exact ⟨1, Ra.cmp_gt h h3, .inr ⟨by rw [decide_eq_false_iff_not]; omega, rfl⟩⟩
   have H := zH h
   clear h h1 h2
   obtain ⟨r, Hr, ⟨k1, rfl⟩ | ⟨k1, rfl⟩⟩ := key
   all_goals
    go_enter Tryz.func18, Tryz.ntmps18
    go_wp2_with fail
    refine (impl_areValidRats_g an ad bn bd true H.out _).mono ?_
    rintro e w1 ⟨rfl, hb1⟩
    have Hb := zH (low2_g hb1)
    obtain ⟨a0, a1, b0, b1, hz⟩ := kept2 hb1.low
    clear hb1
    go_wp2_with fail
    go_ret
    exact ⟨ret_int Hr.out.symm, Hb.out⟩
 ·
  have e : Ra.cmp an ad bn bd = 0 := by
   simp only [Bool.and_eq_true, beq_iff_eq] at h0
   rw [h0.1, h0.2]; exact Ra.cmp_eq rfl
  rw [e]
  clear e
  go_enter Tryz.func18, Tryz.ntmps18
  go_wp2_with fail
  go_ret
  exact ⟨rfl, by (repeat' (first | exact Bel.refl _ _ | exact Nat.le_refl _ | refine Bel.setCell ?_ ?_ _ | refine Bel.alloc ?_ ?_ _ | refine bel_drewN ?_ _ | refine Bel.drew ?_ | (simp; done) | (simp; omega)))⟩
set_option maxHeartbeats 2000000 in
theorem impl_turned (x y : R) (q : Nat) (w : World) (hq : q < w.heap.size) (hc : w.cell? ⟨q, 0, none⟩ = some (.func (.func 18) #[] #[])) :
  Calls Tryz.prog 70 #[.agg #[.int .i64 x.1, .int .i64 x.2], .agg #[.int .i64 y.1, .int .i64 y.2], .pointer (some ⟨q, 0, none⟩)] w fun e w' => e = .returned (.int .i64 (Py.cmp y x)) ∧ Bel w.heap.size w w' := by
 have HC := zH (fun w => impl_CompareRat_g y.1 y.2 x.1 x.2 w)
 have hc2 : ((w.alloc (.cells #[.int .i64 x.1, .int .i64 x.2] 32)).alloc (.cells #[.int .i64 y.1, .int .i64 y.2] 32)).cell? ⟨q, 0, none⟩ = some (.func (.func 18) #[] #[]) :=
  cell_after (((Below.refl w.heap.size w).alloc (Nat.le_refl _) _).alloc (by simp) _) hq hc
 have hb := ((Bel.refl w.heap.size w).alloc (Nat.le_refl _) (.cells #[.int .i64 x.1, .int .i64 x.2] 32)).alloc (by simp) (.cells #[.int .i64 y.1, .int .i64 y.2] 32)
 have Hb := zH hb
 clear hc hb
 go_enter Tryz.func70, Tryz.ntmps70
 go_wp2_with fail
 refine (HC.out _).mono ?_
 rintro e w1 ⟨rfl, hb1⟩
 have Hb1 := zH (Hb.out.trans (hb1.mono Hb.out.size))
 clear hb1
 go_wp2_with fail
 go_ret
 exact ⟨rfl, Hb1.out⟩
end Go.Proofs.YtpidlmmpejoeaaaGreat
