/- The specification's IsValidGame, ValueOf, GrandValue, EqualGame. -/
import Derived.Test.YtambneapofaclaaGreatDoorGmA
import Derived.Test.YtambneapofaclaaGreatDoorEqI
namespace Go.Proofs.YtambneapofaclaaGreatDoor
open Go.RowKit
open Gm (G)
/-- The box of a game. -/
theorem gm_box {w : World} {x y : Value} {g : G} (h : GmC w x y g) (t : TypeId) : GmC (w.alloc (.cells #[x, y] t)) x y g ∧ Below w.heap.size w (w.alloc (.cells #[x, y] t)) :=
  ⟨h.up ((Below.refl _ _).alloc (Nat.le_refl _) _), (Below.refl _ _).alloc (Nat.le_refl _) _⟩
theorem spec_l1In_q (x a b : Int) (r : Bool) (h : decide (a ≤ x ∧ x ≤ b) = r) (w : World) : Calls Tryz.prog 26 #[.int .i64 x, .int .i64 a, .int .i64 b] w fun e w' => e = .returned (.bool r) ∧ w' = w := (spec_l1In x a b r h w).mono fun _ _ ⟨h1, h2⟩ => ⟨h1, h2.symm⟩
theorem spec_Count_q (n : Nat) (hn : n ≤ 5) (w : World) : Calls Tryz.prog 27 #[.int .i64 n] w fun e w' => e = .returned (.int .i64 ((2 ^ n : Nat) : Int)) ∧ w' = w := (spec_CountCoalitions n hn w).mono fun _ _ ⟨h1, h2⟩ => ⟨h1, h2.symm⟩
theorem shape_n {g : G} (h : ¬ (1 ≤ g.n ∧ g.n ≤ 5)) : Gm.shape g = false := by unfold Gm.shape; simp only [h, decide_false, Bool.false_and]
theorem shape_of {g : G} {m : Nat} (h : g.n = m) (h1 : 1 ≤ m) (h2 : m ≤ 5) : Gm.shape g = decide (g.v.length = 2 ^ m) := by
  have h3 : (1 ≤ g.n ∧ g.n ≤ 5) := by omega
  have h4 : g.n.toNat = m := by omega
  unfold Gm.shape
  rw [h4, decide_eq_true h3]
  rfl
set_option maxRecDepth 100000 in
set_option maxHeartbeats 1000000 in
theorem spec_IsValidGame {w : World} {x y : Value} {g : G} (b : Bool) (hb : Gm.vld g = b) (h : GmC w x y g) (hf : GmOk g) :
    Calls Tryz.prog 10 #[.agg #[x, y]] w fun e w' => e = .returned (.bool b) ∧ Below w.heap.size w w' := by
  obtain ⟨gn, gv⟩ := g
  obtain ⟨a, c, rfl, rfl, hi⟩ := h
  have hl : gv.length ≤ 1048576 := hf.1
  dsimp only at hi ⊢
  have HBl := Lib.hid ((Below.refl w.heap.size w).alloc (Nat.le_refl _) (.cells #[.int .i64 gn, .slice a gv.length c] 26))
  have HI := Lib.hid (hi.below HBl.out)
  have HV := Lib.hid hb
  clear hi hb hf
  go_enter Tryz.func10, Tryz.ntmps10
  go_wp2_with fail
  go_loop [3] (fun i => ∃ k : Nat, k ≤ gv.length ∧ i = .int .i64 k ∧ Hid (∀ j, j < k → decide (-500 ≤ gv.getD j 0 ∧ gv.getD j 0 ≤ 500) = true)) (fun i => gv.length - (intOf i).toNat)
  case atStart => exact ⟨0, Nat.zero_le _, rfl, fun j hj => absurd hj (by omega)⟩
  case round =>
    obtain ⟨k, hk, rfl, hA⟩ := hrel
    by_cases hlt : k < gv.length
    · obtain ⟨bb, o, rfl, _, hc⟩ := HI.out k hlt
      rcases hv : decide (-500 ≤ gv.getD k 0 ∧ gv.getD k 0 ≤ 500) with _ | _
      · have Hr := Lib.hid (show false = b from (Gm.vld_within (g := ⟨gn, gv⟩) (Gm.within_no hlt hv)).symm.trans HV.out)
        generalize gv.getD k 0 = x at *
        have Hv := Lib.hid hv
        clear hv
        go_wp2_with fail
        refine (spec_l1In x (-500) 500 false Hv.out _).mono ?_
        rintro e w1 ⟨rfl, rfl⟩
        go_wp2_with fail
        go_ret
        exact ⟨ret_bool Hr.out, HBl.out⟩
      · have HA2 : Hid (∀ j, j < k + 1 → decide (-500 ≤ gv.getD j 0 ∧ gv.getD j 0 ≤ 500) = true) := fun j hj => by
          by_cases e : j = k
          · subst e; exact hv
          · exact hA.out j (by omega)
        generalize gv.getD k 0 = x at *
        have Hv := Lib.hid hv
        clear hv
        go_wp2_with fail
        refine (spec_l1In x (-500) 500 true Hv.out _).mono ?_
        rintro e w1 ⟨rfl, rfl⟩
        go_wp2_with fail
        go_round
        case rel => exact ⟨k + 1, by omega, by go_num, HA2⟩
        case measure => simp [intOf]; omega
    · have HW := Lib.hid (Gm.within_all fun j hj => hA.out j (by omega))
      clear hA
      by_cases hn : 1 ≤ gn ∧ gn ≤ 5
      · obtain ⟨m, hm⟩ : ∃ m : Nat, gn = m := ⟨gn.toNat, by omega⟩
        subst hm
        have HS := Lib.hid (shape_of (g := ⟨(m : Int), gv⟩) rfl (by omega) (by omega))
        have Hd := Lib.hid (show decide (1 ≤ (m : Int) ∧ (m : Int) ≤ 5) = true by rw [decide_eq_true_iff]; omega)
        have hm5 : m ≤ 5 := by omega
        have hpw : 2 ^ m ≤ 32 := Nat.pow_le_pow_right (by omega) hm5
        have hp1 : 1 ≤ 2 ^ m := Nat.one_le_two_pow
        have HC := Lib.hid (fun W => spec_Count_q m hm5 W)
        clear hn
        by_cases hlen : gv.length = 2 ^ m
        · have HS2 := Lib.hid (HS.out.trans (decide_eq_true hlen))
          have Hr := Lib.hid ((Gm.vld_last (g := ⟨(m : Int), gv⟩) HS2.out HW.out).symm.trans HV.out)
          have hpos : 0 < gv.length := by omega
          have heq : ((gv.length : Int) == ((2 ^ m : Nat) : Int)) = true := by rw [hlen]; simp
          obtain ⟨bb, o, rfl, _, hc⟩ := HI.out 0 hpos
          rw [Nat.add_zero] at hc
          have Hz : Hid ((gv.getD 0 0 == 0) = b) := by
            have := Hr.out
            unfold Gm.zero0 at this
            show _ = _
            rw [← this, Bool.eq_iff_iff]; simp
          clear hlen HS HS2 Hr HV HW
          generalize 2 ^ m = q at *
          generalize gv.getD 0 0 = z at *
          go_wp2_with fail
          go_quiet (first | (go_at_call 26; exact Calls.quiet_of_same (spec_l1In_q m 1 5 true Hd.out _)) | (go_at_call 27; exact Calls.quiet_of_same (HC.out _)))
          go_wp2_with fail
          go_ret
          exact ⟨ret_bool Hz.out, below_drewN HBl.out nq⟩
        · have Hr := Lib.hid ((Gm.vld_shape (g := ⟨(m : Int), gv⟩) (HS.out.trans (decide_eq_false hlen))).symm.trans HV.out)
          have heq : ((gv.length : Int) == ((2 ^ m : Nat) : Int)) = false := (len_no hlen).1
          clear hlen HS HV HW
          generalize 2 ^ m = q at *
          go_wp2_with fail
          go_quiet (first | (go_at_call 26; exact Calls.quiet_of_same (spec_l1In_q m 1 5 true Hd.out _)) | (go_at_call 27; exact Calls.quiet_of_same (HC.out _)))
          go_wp2_with fail
          go_ret
          exact ⟨ret_bool Hr.out, below_drewN HBl.out nq⟩
      · have Hr := Lib.hid ((Gm.vld_shape (g := ⟨gn, gv⟩) (shape_n hn)).symm.trans HV.out)
        have Hd := Lib.hid (show decide (1 ≤ gn ∧ gn ≤ 5) = false by rw [decide_eq_false_iff_not]; exact hn)
        clear hn HV HW
        go_wp2_with fail
        go_quiet (first | (go_at_call 26; exact Calls.quiet_of_same (spec_l1In_q gn 1 5 false Hd.out _)))
        go_wp2_with fail
        go_ret
        exact ⟨ret_bool Hr.out, below_drewN HBl.out nq⟩
theorem eqG_no_n {a b : G} (h : a.n ≠ b.n) : Gm.eqG a b = false := by unfold Gm.eqG; simp [h]
theorem eqG_yes_n {a b : G} (h : a.n = b.n) : Gm.eqG a b = decide (a.v = b.v) := by unfold Gm.eqG; simp [h]
set_option maxRecDepth 100000 in
set_option maxHeartbeats 1000000 in
theorem spec_l8Ints (B : Nat) (a1 a2 : Option Addr) (c1 c2 : Nat) (xs ys : List Int) (hn : xs.length ≤ 1048576) (hn2 : ys.length ≤ 1048576) (g : Bool) (hg : decide (xs = ys) = g) (w : World) (h1 : NumsIn B w a1 xs) (h2 : NumsIn B w a2 ys) :
    Calls Tryz.prog 28 #[.slice a1 xs.length c1, .slice a2 ys.length c2] w fun e w' => e = .returned (.bool g) ∧ ∃ d, w' = w.drewN d := by
  have H1 := Lib.hid h1
  have H2 := Lib.hid h2
  clear h1 h2
  by_cases hl : xs.length = ys.length
  · have Hg := Lib.hid hg
    have HL := Lib.hid hl
    have hll : ((xs.length : Int) != (xs.length : Int)) = false := by simp
    rw [← hl]
    clear hg hl
    go_enter Tryz.func28, Tryz.ntmps28
    go_wp2_with fail
    go_loopw [5] (fun i wr => ∃ k : Nat, k ≤ xs.length ∧ i = .int .i64 k ∧ Hid (∀ j, j < k → xs.getD j 0 = ys.getD j 0) ∧ Hid (∃ d, wr = w.drewN d)) (fun i _ => xs.length - (intOf i).toNat)
    case atStart => exact ⟨0, Nat.zero_le _, rfl, fun j hj => absurd hj (by omega), ⟨0, rfl⟩⟩
    case round =>
      obtain ⟨k, hk, rfl, hA, hD⟩ := hrel
      by_cases hlt : k < xs.length
      · have g1 : NumsIn B wr a1 xs := by obtain ⟨d, rfl⟩ := hD.out; exact H1.out.drewN d
        have g2 : NumsIn B wr a2 ys := by obtain ⟨d, rfl⟩ := hD.out; exact H2.out.drewN d
        obtain ⟨b1, o1, rfl, _, p0⟩ := g1 k hlt
        obtain ⟨b2, o2, rfl, _, q0⟩ := g2 k (HL.out ▸ hlt)
        clear g1 g2
        rcases hv : (xs.getD k 0 != ys.getD k 0) with _ | _
        · have HA2 : Hid (∀ j, j < k + 1 → xs.getD j 0 = ys.getD j 0) := fun j hj => by
            by_cases e : j = k
            · subst e
              simpa using hv
            · exact hA.out j (by omega)
          generalize xs.getD k 0 = x at *
          generalize ys.getD k 0 = y at *
          go_wp2_with fail
          go_quiet (fail)
          go_wp2_with fail
          go_roundw
          case rel => exact ⟨k + 1, by omega, by go_num, HA2, by obtain ⟨d, rfl⟩ := hD.out; exact ⟨d + nq, by simp [Nat.add_comm]⟩⟩
          case measure => simp [intOf]; omega
        · have Hr : Hid (false = g) := by
            show _ = _
            rw [← Hg.out]; symm
            rw [decide_eq_false_iff_not]
            rintro rfl
            simp at hv
          generalize xs.getD k 0 = x at *
          generalize ys.getD k 0 = y at *
          go_wp2_with fail
          go_quiet (fail)
          go_wp2_with fail
          go_ret
          exact ⟨ret_bool Hr.out, by obtain ⟨d, rfl⟩ := hD.out; exact ⟨d + nq, by simp [Nat.add_comm]⟩⟩
      · have Hr : Hid (true = g) := by
          show _ = _
          rw [← Hg.out]; symm
          rw [decide_eq_true_iff]
          exact ints_same HL.out fun j hj => hA.out j (by omega)
        go_wp2_with fail
        go_ret
        exact ⟨ret_bool Hr.out, hD.out⟩
  · have Hr := Lib.hid (show false = g by rw [← hg]; symm; rw [decide_eq_false_iff_not]; rintro rfl; exact hl rfl)
    obtain ⟨l1, l2⟩ := len_no hl
    clear hl hg
    go_enter Tryz.func28, Tryz.ntmps28
    go_wp2_with fail
    go_ret
    exact ⟨ret_bool Hr.out, 0, rfl⟩
set_option maxRecDepth 100000 in
set_option maxHeartbeats 1000000 in
theorem spec_EqualGame {w : World} {x y x' y' : Value} {g g' : G} (b : Bool) (hb : Gm.eqG g g' = b) (h : GmC w x y g) (h' : GmC w x' y' g') (hf : GmOk g) (hf' : GmOk g') :
    Calls Tryz.prog 11 #[.agg #[x, y], .agg #[x', y']] w fun e w' => e = .returned (.bool b) ∧ Below w.heap.size w w' := by
  obtain ⟨gn, gv⟩ := g
  obtain ⟨gm, gu⟩ := g'
  obtain ⟨a, c, rfl, rfl, hi⟩ := h
  obtain ⟨a', c', rfl, rfl, hi'⟩ := h'
  have hl : gv.length ≤ 1048576 := hf.1
  have hl' : gu.length ≤ 1048576 := hf'.1
  dsimp only at hi hi' ⊢
  have HBl := Lib.hid (((Below.refl w.heap.size w).alloc (Nat.le_refl _) (.cells #[.int .i64 gn, .slice a gv.length c] 26)).alloc (by rw [size1]; omega) (.cells #[.int .i64 gm, .slice a' gu.length c'] 26))
  have HI := Lib.hid (hi.below HBl.out)
  have HI' := Lib.hid (hi'.below HBl.out)
  clear hi hi' hf hf'
  by_cases hn : gn = gm
  · have hq : (gn == gm) = true := by rw [hn]; simp
    have Hr := Lib.hid ((eqG_yes_n (a := ⟨gn, gv⟩) (b := ⟨gm, gu⟩) hn).symm.trans hb)
    clear hn hb
    go_enter Tryz.func11, Tryz.ntmps11
    go_wp2_with fail
    refine (spec_l8Ints w.heap.size a a' c c' gv gu hl hl' b Hr.out _ HI.out HI'.out).mono ?_
    rintro e w1 ⟨rfl, d, rfl⟩
    go_wp2_with fail
    go_ret
    exact ⟨rfl, below_drewN HBl.out d⟩
  · have hq : (gn == gm) = false := by rw [beq_eq_false_iff_ne]; exact hn
    have Hr := Lib.hid ((eqG_no_n (a := ⟨gn, gv⟩) (b := ⟨gm, gu⟩) hn).symm.trans hb)
    clear hn hb
    go_enter Tryz.func11, Tryz.ntmps11
    go_wp2_with fail
    go_ret
    exact ⟨ret_bool Hr.out, HBl.out⟩
end Go.Proofs.YtambneapofaclaaGreatDoor
