/- impl's IsValidGame, ValueOf, GrandValue, EqualGame. -/
import Derived.Test.YtpjnjidbdpfdcaaGmB
import Derived.Test.YtpjnjidbdpfdcaaWiB
set_option maxRecDepth 100000
namespace Go.Proofs.Ytpjnjidbdpfdcaa
open Go.RowKit
open Gm (G)
theorem impl_Count_q (n : Nat) (hn : n ≤ 5) (w : World) : Calls Try.prog 52 #[.int .i64 n] w fun e w' => e = .returned (.int .i64 ((2 ^ n : Nat) : Int)) ∧ w' = w := (impl_CountCoalitions n hn w).mono fun _ _ ⟨h1, h2⟩ => ⟨h1, h2.symm⟩
set_option maxHeartbeats 1000000 in
theorem impl_IsValidGame {w : World} {x y : Value} {g : G} (b : Bool) (hb : Gm.vld g = b) (h : GmC w x y g) (hf : GmOk g) :
  Calls Try.prog 48 #[.agg #[x, y]] w fun e w' => e = .returned (.bool b) ∧ Below w.heap.size w w' := by
 obtain ⟨gn, gv⟩ := g
 obtain ⟨a, c, rfl, rfl, hi⟩ := h
 have hl : gv.length ≤ 1048576 := hf.1
 dsimp only at hi ⊢
 have HBl := zH ((Below.refl w.heap.size w).alloc (Nat.le_refl _) (.cells #[.int .i64 gn, .slice a gv.length c] 32))
 have HI := zH (hi.below HBl.out)
 have HV := zH hb
 clear hi hb hf
 by_cases h1 : 1 ≤ gn
 ·
  have d1 : decide (1 ≤ gn) = true := decide_eq_true h1
  by_cases h2 : gn ≤ 5
  ·
   have d2 : decide (gn ≤ 5) = true := decide_eq_true h2
   obtain ⟨m, hm⟩ : ∃ m : Nat, gn = m := ⟨gn.toNat, by omega⟩
   subst hm
   have HS := zH (shape_of (g := ⟨(m : Int), gv⟩) rfl (by omega) (by omega))
   have hm5 : m ≤ 5 := by omega
   have hpw : 2 ^ m ≤ 32 := Nat.pow_le_pow_right (by omega) hm5
   have hp1 : 1 ≤ 2 ^ m := Nat.one_le_two_pow
   have HC := zH (fun W => impl_Count_q m hm5 W)
   by_cases hlen : gv.length = 2 ^ m
   ·
    have HS2 := zH (HS.out.trans (decide_eq_true hlen))
    have hpos : 0 < gv.length := by omega
    have heq : ((gv.length : Int) == ((2 ^ m : Nat) : Int)) = true := by rw [hlen]; simp
    obtain ⟨bb, o, rfl, _, hc⟩ := HI.out 0 hpos
    rw [Nat.add_zero] at hc
    rcases hw : Gm.within 500 gv with _ | _
    ·
     have Hr := zH ((Gm.vld_within (g := ⟨(m : Int), gv⟩) hw).symm.trans HV.out)
     have HW := zH hw
     clear hlen HS HS2 HV hw
     generalize 2 ^ m = q at *
     go_enter Try.func48, Try.ntmps48
     go_wp2_with fail
     go_quiet (first | (go_at_call 52; exact Calls.quiet_of_same (HC.out _)) | (go_at_call 53; exact Calls.quiet_of_same (impl_areWithin_q w.heap.size _ c gv 500 (by decide) (by decide) hl false HW.out _ (HI.out.drewN _))))
     go_wp2_with fail
     go_ret
     exact ⟨ret_bool Hr.out, below_drewN HBl.out nq⟩
    ·
     have Hr := zH ((Gm.vld_last (g := ⟨(m : Int), gv⟩) HS2.out hw).symm.trans HV.out)
     have HW := zH hw
     have Hz : Hid ((gv.getD 0 0 == 0) = b) := by
      have := Hr.out
      unfold Gm.zero0 at this
      show _ = _
      rw [← this, Bool.eq_iff_iff]; simp
     clear hlen HS HS2 HV hw Hr
     generalize 2 ^ m = q at *
     generalize gv.getD 0 0 = z at *
     go_enter Try.func48, Try.ntmps48
     go_wp2_with fail
     go_quiet (first | (go_at_call 52; exact Calls.quiet_of_same (HC.out _)) | (go_at_call 53; exact Calls.quiet_of_same (impl_areWithin_q w.heap.size _ c gv 500 (by decide) (by decide) hl true HW.out _ (HI.out.drewN _))))
     go_wp2_with fail
     go_ret
     exact ⟨ret_bool Hz.out, below_drewN HBl.out nq⟩
   ·
    have Hr := zH ((Gm.vld_shape (g := ⟨(m : Int), gv⟩) (HS.out.trans (decide_eq_false hlen))).symm.trans HV.out)
    have heq : ((gv.length : Int) == ((2 ^ m : Nat) : Int)) = false := (len_no hlen).1
    clear hlen HS HV
    generalize 2 ^ m = q at *
    go_enter Try.func48, Try.ntmps48
    go_wp2_with fail
    go_quiet (first | (go_at_call 52; exact Calls.quiet_of_same (HC.out _)))
    go_wp2_with fail
    go_ret
    exact ⟨ret_bool Hr.out, below_drewN HBl.out nq⟩
  ·
   have d2 : decide (gn ≤ 5) = false := decide_eq_false h2
   have Hr := zH ((Gm.vld_shape (g := ⟨gn, gv⟩) (shape_n (by dsimp only; omega))).symm.trans HV.out)
   clear HV
   go_enter Try.func48, Try.ntmps48
   go_wp2_with fail
   go_quiet (fail)
   go_wp2_with fail
   go_ret
   exact ⟨ret_bool Hr.out, below_drewN HBl.out nq⟩
 ·
  have d1 : decide (1 ≤ gn) = false := decide_eq_false h1
  have Hr := zH ((Gm.vld_shape (g := ⟨gn, gv⟩) (shape_n (by dsimp only; omega))).symm.trans HV.out)
  clear HV
  go_enter Try.func48, Try.ntmps48
  go_wp2_with fail
  go_quiet (fail)
  go_wp2_with fail
  go_ret
  exact ⟨ret_bool Hr.out, below_drewN HBl.out nq⟩
set_option maxHeartbeats 1000000 in
theorem impl_GrandValue {w : World} {x y : Value} {g : G} (h : GmC w x y g) (hf : GmOk g) :
  Calls Try.prog 29 #[.agg #[x, y]] w fun e w' => e = .returned (.int .i64 (Gm.grand g)) ∧ Below w.heap.size w w' := by
 rcases hv : Gm.vld g with _ | _
 ·
  have Hg := zH (Gm.grand_no hv)
  have HV := zH hv
  have Hb := gm_box h 32
  have HX := zH Hb.1
  have HB := zH Hb.2
  rw [Hg.out]
  clear hv Hb h
  go_enter Try.func29, Try.ntmps29
  go_wp2_with fail
  refine (impl_IsValidGame false HV.out HX.out hf).mono ?_
  rintro e w1 ⟨rfl, k⟩
  have HB1 := zH (HB.out.trans (k.mono HB.out.size))
  clear k
  go_wp2_with fail
  go_ret
  exact ⟨rfl, HB1.out⟩
 ·
  obtain ⟨m, hm, z, hz⟩ : ∃ m, g.v.length = m + 1 ∧ ∃ z, g.v.getD m 0 = z := ⟨g.v.length - 1, by have := Gm.vld_len hv; omega, _, rfl⟩
  have Hg := zH (show Gm.grand g = z by rw [Gm.grand_yes hv, hm, ← hz]; rfl)
  have HV := zH hv
  have hi0 := h
  obtain ⟨a, c, rfl, e1, hi⟩ := hi0
  obtain ⟨bb, o, rfl, _, hc⟩ := hi m (by omega)
  rw [hm] at e1
  subst e1
  rw [hz] at hc
  have HX := zH (gm_box h 32).1
  have HB := zH (gm_box h 32).2
  have HC := zH (CellsAt.new w #[.int .i64 g.n, .slice (some ⟨bb, o, none⟩) (m + 1) c] 32)
  have hm2 : m ≤ 1048576 := by have := hf.1; omega
  have HK := zH (show bb < w.heap.size ∧ w.cell? ⟨bb, o + m, none⟩ = some (.int .i64 z) from ⟨by assumption, hc⟩)
  rw [Hg.out]
  clear hv h hi hc hm hz
  go_enter Try.func29, Try.ntmps29
  go_wp2_with fail
  refine (impl_IsValidGame true HV.out HX.out hf).mono ?_
  rintro e w1 ⟨rfl, k⟩
  have HB1 := zH (HB.out.trans (k.mono HB.out.size))
  obtain ⟨m0, m1⟩ := two (HC.out.below k)
  have hc1 : w1.cell? ⟨bb, o + m, none⟩ = some (.int .i64 z) := (HB1.out.cell (p := ⟨bb, o + m, none⟩) HK.out.1).trans HK.out.2
  clear k
  go_wp2_with fail
  go_ret
  exact ⟨rfl, HB1.out⟩
end Go.Proofs.Ytpjnjidbdpfdcaa
