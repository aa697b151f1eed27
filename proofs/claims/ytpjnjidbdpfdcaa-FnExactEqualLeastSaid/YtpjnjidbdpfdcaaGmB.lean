/- The specification's IsValidGame, ValueOf, GrandValue, EqualGame. -/
import Derived.Test.YtpjnjidbdpfdcaaGmA
import Derived.Test.YtpjnjidbdpfdcaaEqI
set_option maxRecDepth 100000
namespace Go.Proofs.Ytpjnjidbdpfdcaa
open Go.RowKit
open Gm (G)
theorem gm_box {w : World} {x y : Value} {g : G} (h : GmC w x y g) (t : TypeId) : GmC (w.alloc (.cells #[x, y] t)) x y g ∧ Below w.heap.size w (w.alloc (.cells #[x, y] t)) :=
 ⟨h.up ((Below.refl _ _).alloc (Nat.le_refl _) _), (Below.refl _ _).alloc (Nat.le_refl _) _⟩
theorem spec_l1In_q (x a b : Int) (r : Bool) (h : decide (a ≤ x ∧ x ≤ b) = r) (w : World) : Calls Try.prog 45 #[.int .i64 x, .int .i64 a, .int .i64 b] w fun e w' => e = .returned (.bool r) ∧ w' = w := (spec_l1In x a b r h w).mono fun _ _ ⟨h1, h2⟩ => ⟨h1, h2.symm⟩
theorem spec_Count_q (n : Nat) (hn : n ≤ 5) (w : World) : Calls Try.prog 46 #[.int .i64 n] w fun e w' => e = .returned (.int .i64 ((2 ^ n : Nat) : Int)) ∧ w' = w := (spec_CountCoalitions n hn w).mono fun _ _ ⟨h1, h2⟩ => ⟨h1, h2.symm⟩
theorem shape_n {g : G} (h : ¬ (1 ≤ g.n ∧ g.n ≤ 5)) : Gm.shape g = false := by unfold Gm.shape; simp only [h, decide_false, Bool.false_and]
theorem shape_of {g : G} {m : Nat} (h : g.n = m) (h1 : 1 ≤ m) (h2 : m ≤ 5) : Gm.shape g = decide (g.v.length = 2 ^ m) := by
 have h3 : (1 ≤ g.n ∧ g.n ≤ 5) := by omega
 have h4 : g.n.toNat = m := by omega
 unfold Gm.shape
 rw [h4, decide_eq_true h3]
 rfl
set_option maxHeartbeats 1000000 in
theorem spec_IsValidGame {w : World} {x y : Value} {g : G} (b : Bool) (hb : Gm.vld g = b) (h : GmC w x y g) (hf : GmOk g) :
  Calls Try.prog 20 #[.agg #[x, y]] w fun e w' => e = .returned (.bool b) ∧ Below w.heap.size w w' := by
 obtain ⟨gn, gv⟩ := g
 obtain ⟨a, c, rfl, rfl, hi⟩ := h
 have hl : gv.length ≤ 1048576 := hf.1
 dsimp only at hi ⊢
 have HBl := zH ((Below.refl w.heap.size w).alloc (Nat.le_refl _) (.cells #[.int .i64 gn, .slice a gv.length c] 32))
 have HI := zH (hi.below HBl.out)
 have HV := zH hb
 clear hi hb hf
 go_enter Try.func20, Try.ntmps20
 go_wp2_with fail
 go_loop [3] (fun i => ∃ k : Nat, k ≤ gv.length ∧ i = .int .i64 k ∧ Hid (∀ j, j < k → decide (-500 ≤ gv.getD j 0 ∧ gv.getD j 0 ≤ 500) = true)) (fun i => gv.length - (intOf i).toNat)
 case atStart => exact ⟨0, Nat.zero_le _, rfl, fun j hj => absurd hj (by omega)⟩
 case round =>
  obtain ⟨k, hk, rfl, hA⟩ := hrel
  by_cases hlt : k < gv.length
  ·
   obtain ⟨bb, o, rfl, _, hc⟩ := HI.out k hlt
   rcases hv : decide (-500 ≤ gv.getD k 0 ∧ gv.getD k 0 ≤ 500) with _ | _
   ·
    have Hr := zH (show false = b from (Gm.vld_within (g := ⟨gn, gv⟩) (Gm.within_no hlt hv)).symm.trans HV.out)
    generalize gv.getD k 0 = x at *
    have Hv := zH hv
    clear hv
    go_wp2_with fail
    refine (spec_l1In x (-500) 500 false Hv.out _).mono ?_
    rintro e w1 ⟨rfl, rfl⟩
    go_wp2_with fail
    go_ret
    exact ⟨ret_bool Hr.out, HBl.out⟩
   ·
    have HA2 : Hid (∀ j, j < k + 1 → decide (-500 ≤ gv.getD j 0 ∧ gv.getD j 0 ≤ 500) = true) := fun j hj => by
     by_cases e : j = k
     ·
      subst e; exact hv
     ·
      exact hA.out j (by omega)
    generalize gv.getD k 0 = x at *
    have Hv := zH hv
    clear hv
    go_wp2_with fail
    refine (spec_l1In x (-500) 500 true Hv.out _).mono ?_
    rintro e w1 ⟨rfl, rfl⟩
    go_wp2_with fail
    go_round
    case rel => exact ⟨k + 1, by omega, by go_num, HA2⟩
    case measure => simp [intOf]; omega
  ·
   have HW := zH (Gm.within_all fun j hj => hA.out j (by omega))
   clear hA
   by_cases hn : 1 ≤ gn ∧ gn ≤ 5
   ·
    obtain ⟨m, hm⟩ : ∃ m : Nat, gn = m := ⟨gn.toNat, by omega⟩
    subst hm
    have HS := zH (shape_of (g := ⟨(m : Int), gv⟩) rfl (by omega) (by omega))
    have Hd := zH (show decide (1 ≤ (m : Int) ∧ (m : Int) ≤ 5) = true by rw [decide_eq_true_iff]; omega)
    have hm5 : m ≤ 5 := by omega
    have hpw : 2 ^ m ≤ 32 := Nat.pow_le_pow_right (by omega) hm5
    have hp1 : 1 ≤ 2 ^ m := Nat.one_le_two_pow
    have HC := zH (fun W => spec_Count_q m hm5 W)
    clear hn
    by_cases hlen : gv.length = 2 ^ m
    ·
     have HS2 := zH (HS.out.trans (decide_eq_true hlen))
     have Hr := zH ((Gm.vld_last (g := ⟨(m : Int), gv⟩) HS2.out HW.out).symm.trans HV.out)
     have hpos : 0 < gv.length := by omega
     have heq : ((gv.length : Int) == ((2 ^ m : Nat) : Int)) = true := by rw [hlen]; simp
     obtain ⟨bb, o, rfl, _, hc⟩ := HI.out 0 hpos
     rw [Nat.add_zero] at hc
     have Hz : Hid ((gv.getD 0 0 == 0) = b) := by
      have := Hr.out
      unfold Gm.zero0 at this
      show _ = _
      rw [← this, Bool.eq_iff_iff]; simp
     clear hlen HS HS2 Hr HV HW
     generalize 2 ^ m = q at *
     generalize gv.getD 0 0 = z at *
     go_wp2_with fail
     go_quiet (first | (go_at_call 45; exact Calls.quiet_of_same (spec_l1In_q m 1 5 true Hd.out _)) | (go_at_call 46; exact Calls.quiet_of_same (HC.out _)))
     go_wp2_with fail
     go_ret
     exact ⟨ret_bool Hz.out, below_drewN HBl.out nq⟩
    ·
     have Hr := zH ((Gm.vld_shape (g := ⟨(m : Int), gv⟩) (HS.out.trans (decide_eq_false hlen))).symm.trans HV.out)
     have heq : ((gv.length : Int) == ((2 ^ m : Nat) : Int)) = false := (len_no hlen).1
     clear hlen HS HV HW
     generalize 2 ^ m = q at *
     go_wp2_with fail
     go_quiet (first | (go_at_call 45; exact Calls.quiet_of_same (spec_l1In_q m 1 5 true Hd.out _)) | (go_at_call 46; exact Calls.quiet_of_same (HC.out _)))
     go_wp2_with fail
     go_ret
     exact ⟨ret_bool Hr.out, below_drewN HBl.out nq⟩
   ·
    have Hr := zH ((Gm.vld_shape (g := ⟨gn, gv⟩) (shape_n hn)).symm.trans HV.out)
    have Hd := zH (show decide (1 ≤ gn ∧ gn ≤ 5) = false by rw [decide_eq_false_iff_not]; exact hn)
    clear hn HV HW
    go_wp2_with fail
    go_quiet (first | (go_at_call 45; exact Calls.quiet_of_same (spec_l1In_q gn 1 5 false Hd.out _)))
    go_wp2_with fail
    go_ret
    exact ⟨ret_bool Hr.out, below_drewN HBl.out nq⟩
set_option maxHeartbeats 1000000 in
theorem spec_GrandValue {w : World} {x y : Value} {g : G} (h : GmC w x y g) (hf : GmOk g) :
  Calls Try.prog 22 #[.agg #[x, y]] w fun e w' => e = .returned (.int .i64 (Gm.grand g)) ∧ Below w.heap.size w w' := by
 rcases hv : Gm.vld g with _ | _
 ·
  have Hg := zH (Gm.grand_no hv)
  have HV := zH hv
  have Hb := gm_box h 32
  have HX := zH Hb.1
  have HB := zH Hb.2
  rw [Hg.out]
  clear hv Hb h
  go_enter Try.func22, Try.ntmps22
  go_wp2_with fail
  refine (spec_IsValidGame false HV.out HX.out hf).mono ?_
  rintro e w1 ⟨rfl, k⟩
  have HB1 := zH (HB.out.trans (k.mono HB.out.size))
  clear k
  go_wp2_with fail
  go_ret
  exact ⟨rfl, HB1.out⟩
 ·
  obtain ⟨m, hm, z, hz⟩ : ∃ m, g.v.length = m + 1 ∧ ∃ z, g.v.getD m 0 = z := ⟨g.v.length - 1, by have := Gm.vld_len hv; omega, _, rfl⟩
  have Hg := zH (show Gm.grand g = z by rw [Gm.grand_yes hv, hm, ← hz]; rfl)
  have HV := zH hv
  have hi0 := h
  obtain ⟨a, c, rfl, e1, hi⟩ := hi0
  obtain ⟨bb, o, rfl, _, hc⟩ := hi m (by omega)
  rw [hm] at e1
  subst e1
  rw [hz] at hc
  have HX := zH (gm_box h 32).1
  have HB := zH (gm_box h 32).2
  have HC := zH (CellsAt.new w #[.int .i64 g.n, .slice (some ⟨bb, o, none⟩) (m + 1) c] 32)
  have hm2 : m ≤ 1048576 := by have := hf.1; omega
  have HK := zH (show bb < w.heap.size ∧ w.cell? ⟨bb, o + m, none⟩ = some (.int .i64 z) from ⟨by assumption, hc⟩)
  rw [Hg.out]
  clear hv h hi hc hm hz
  go_enter Try.func22, Try.ntmps22
  go_wp2_with fail
  refine (spec_IsValidGame true HV.out HX.out hf).mono ?_
  rintro e w1 ⟨rfl, k⟩
  have HB1 := zH (HB.out.trans (k.mono HB.out.size))
  obtain ⟨m0, m1⟩ := two (HC.out.below k)
  have hc1 : w1.cell? ⟨bb, o + m, none⟩ = some (.int .i64 z) := (HB1.out.cell (p := ⟨bb, o + m, none⟩) HK.out.1).trans HK.out.2
  clear k
  go_wp2_with fail
  go_ret
  exact ⟨rfl, HB1.out⟩
theorem eqG_no_n {a b : G} (h : a.n ≠ b.n) : Gm.eqG a b = false := by unfold Gm.eqG; simp [h]
theorem eqG_yes_n {a b : G} (h : a.n = b.n) : Gm.eqG a b = decide (a.v = b.v) := by unfold Gm.eqG; simp [h]
end Go.Proofs.Ytpjnjidbdpfdcaa
