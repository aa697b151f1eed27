/- Symmetric players: both sides. -/
import Derived.Test.YtodjapljoimkgaaPrD
namespace Go.Proofs.Ytodjapljoimkgaa
open Go.RowKit
open Gm (G)
theorem symR_bad {g : G} {i j : Int} (h : Gm.vld g = false) : Pr.symR g i j = false := by unfold Pr.symR; rw [h]; rfl
theorem symR_i {g : G} {i j : Int} (h : ¬ (0 ≤ i ∧ i < g.n)) : Pr.symR g i j = false := by unfold Pr.symR Pr.inG; rw [decide_eq_false h]; simp
theorem symR_j {g : G} {i j : Int} (h : ¬ (0 ≤ j ∧ j < g.n)) : Pr.symR g i j = false := by unfold Pr.symR Pr.inG; rw [decide_eq_false h]; simp
theorem symR_in {g : G} {i j : Nat} (hv : Gm.vld g = true) (hi : (i : Int) < g.n) (hj : (j : Int) < g.n) : Pr.symR g i j = Pr.sym g i j := by
  unfold Pr.symR Pr.inG
  rw [hv, decide_eq_true (show 0 ≤ (i : Int) ∧ (i : Int) < g.n from ⟨by omega, hi⟩), decide_eq_true (show 0 ≤ (j : Int) ∧ (j : Int) < g.n from ⟨by omega, hj⟩)]
  simp
/-- A coalition without the player has room for one more. -/
theorem more_at {g : G} (hv : Gm.vld g = true) {s k : Nat} (hs : s < g.v.length) (hk : (k : Int) < g.n) (hh : Co.has (s : Int) k = false) : Co.uni (s : Int) (2 ^ k) 5 = ((s + 2 ^ k : Nat) : Int) ∧ s + 2 ^ k < g.v.length := Pr.more_no hv hs hk hh
set_option maxRecDepth 100000 in
set_option maxHeartbeats 4000000 in
theorem spec_AreSymmetric {w : World} {x y : Value} {g : G} (i j : Int) (r : Bool) (hr : Pr.symR g i j = r) (h : GmC w x y g) (hf : GmOk g) :
    Calls Try.prog 40 #[.agg #[x, y], .int .i64 i, .int .i64 j] w fun e w' => e = .returned (.bool r) ∧ Below w.heap.size w w' := by
  have HX := Lib.hid (gm_box h 26).1
  have HBl := Lib.hid (gm_box h 26).2
  have HC := Lib.hid (CellsAt.new w #[x, y] 26)
  obtain ⟨W, hW⟩ : ∃ W, W = w.alloc (.cells #[x, y] 26) := ⟨_, rfl⟩
  rw [← hW] at HX HBl HC
  have HF := Lib.hid hf
  have HW := Lib.hid hW
  have hle : w.heap.size ≤ W.heap.size := HBl.out.size
  have HR := Lib.hid hr
  clear h hf hW hr
  rcases hv : Gm.vld g with _ | _
  · have HV := Lib.hid hv
    have Hr := Lib.hid ((symR_bad hv).symm.trans HR.out)
    obtain ⟨m0, m1⟩ := two HC.out
    clear hv HR
    go_enter Try.func40, Try.ntmps40
    go_wp2_with fail
    rw [← HW.out]
    clear HW
    refine (spec_IsValidGame false HV.out HX.out HF.out).mono ?_
    rintro e w1 ⟨rfl, k⟩
    have HB2 := Lib.hid (HBl.out.trans (k.mono HBl.out.size))
    clear k m0 m1
    go_wp2_with fail
    go_ret
    exact ⟨ret_bool Hr.out, HB2.out⟩
  · have HV := Lib.hid hv
    have hn5 := Gm.vld_n hv
    have hl := Gm.vld_len hv
    have hx0 := HX.out
    obtain ⟨a, c, rfl, rfl, hi⟩ := hx0
    obtain ⟨bb, o, rfl, hbb, _⟩ := hi 0 (by omega)
    have HI := Lib.hid hi
    have HAt := Lib.hid (fun j (hj : j < g.v.length) => Gm.vld_at hv hj)
    have HNm := Lib.hid (fun (wr : World) (hb : Below W.heap.size W wr) j (hj : j < g.v.length) => nums_at (HI.out.below hb) hj)
    have HMo := Lib.hid (fun (s k : Nat) (hs : s < g.v.length) (hk : (k : Int) < g.n) hh => (more_at hv (s := s) (k := k) hs hk hh).2)
    have HYes := Lib.hid (fun (p q : Nat) => Pr.sym_yes (g := g) (i := p) (j := q))
    have HNo := Lib.hid (fun (p q s : Nat) => Pr.sym_no (g := g) (i := p) (j := q) (s := s))
    have HSR := Lib.hid (fun (p q : Nat) => symR_in (i := p) (j := q) hv)
    have HSi := Lib.hid (fun h => symR_i (g := g) (i := i) (j := j) h)
    have HSj := Lib.hid (fun h => symR_j (g := g) (i := i) (j := j) h)
    obtain ⟨N, hN⟩ : ∃ N, g.v.length = N := ⟨_, rfl⟩
    obtain ⟨K, hK⟩ : ∃ K, g.n = K := ⟨_, rfl⟩
    have HX1 : Hid (GmC W (.int .i64 K) (.slice (some ⟨bb, o, none⟩) N c) g) := by rw [← hN, ← hK]; exact HX.out
    rw [hN] at hl HAt HNm HC HW HMo HYes HNo
    rw [hK] at hn5 HC HW HMo HSR HSi HSj
    rw [hN, hK]
    replace HX := HX1
    obtain ⟨m0, m1⟩ := two HC.out
    have hwk : IntKind.i64.wrap (K - 1) = K - 1 := IntWalk.i64_in _ (by omega)
    clear hv hN hi HI hbb HX1 hK
    by_cases hi2 : 0 ≤ i ∧ i < K
    · by_cases hj2 : 0 ≤ j ∧ j < K
      · obtain ⟨p, rfl⟩ : ∃ p : Nat, i = p := ⟨i.toNat, by omega⟩
        obtain ⟨q, rfl⟩ : ∃ q : Nat, j = q := ⟨j.toNat, by omega⟩
        have Hr := Lib.hid ((HSR.out p q hi2.2 hj2.2).symm.trans HR.out)
        have d1 := spec_l1In (p : Int) 0 (K - 1) true (by rw [decide_eq_true_iff]; omega)
        have d2 := spec_l1In (q : Int) 0 (K - 1) true (by rw [decide_eq_true_iff]; omega)
        have hp5 : p < 5 := by omega
        have hq5 : q < 5 := by omega
        have hpk : (p : Int) < K := hi2.2
        have hqk : (q : Int) < K := hj2.2
        have D1 := Lib.hid d1
        have D2 := Lib.hid d2
        have Kp := Lib.hid (fun W' => (spec_l2Bit p (by omega) W').mono fun _ w' h => (show _ ∧ w' = W' from ⟨h.1, h.2.symm⟩))
        have Kq := Lib.hid (fun W' => (spec_l2Bit q (by omega) W').mono fun _ w' h => (show _ ∧ w' = W' from ⟨h.1, h.2.symm⟩))
        clear d1 d2 hi2 hj2 HSi HSj HSR HR
        go_enter Try.func40, Try.ntmps40
        go_wp2_with fail
        rw [← HW.out]
        clear HW
        refine (spec_IsValidGame true HV.out HX.out HF.out).mono ?_
        rintro e w1 ⟨rfl, k⟩
        have HB0 := Lib.hid k
        obtain ⟨m2, m3⟩ := two (HC.out.below k)
        clear k m0 m1
        go_wp2_with fail
        refine (D1.out _).mono ?_
        rintro e w2 ⟨rfl, rfl⟩
        go_wp2_with fail
        refine (D2.out _).mono ?_
        rintro e w2 ⟨rfl, rfl⟩
        go_wp2_with fail
        go_loopw [7] (fun i wr => ∃ s : Nat, s ≤ N ∧ i = .int .i64 s ∧ Hid (Below W.heap.size W wr) ∧ Hid (∀ t, t < s → Pr.symAt g p q t = true)) (fun i _ => N - (intOf i).toNat)
        case atStart => exact ⟨0, Nat.zero_le _, rfl, HB0, fun j hj => absurd hj (by omega)⟩
        case round =>
          obtain ⟨s, hs, rfl, hB, hA⟩ := hrel
          clear m2 m3 HB0
          obtain ⟨m2, m3⟩ := two (HC.out.below hB.out)
          by_cases hls : s < N
          · rcases hh : Co.has (s : Int) p with _ | _
            · have Hh := Lib.hid (fun W' => (spec_HasPlayer (s : Int) (by omega) p hp5 false hh W').mono fun _ w' h => (show _ ∧ w' = W' from ⟨h.1, h.2.symm⟩))
              rcases hh2 : Co.has (s : Int) q with _ | _
              · have Hg := Lib.hid (fun W' => (spec_HasPlayer (s : Int) (by omega) q hq5 false hh2 W').mono fun _ w' h => (show _ ∧ w' = W' from ⟨h.1, h.2.symm⟩))
                have hm1 := HMo.out s p hls hpk hh
                have hm2 := HMo.out s q hls hqk hh2
                have c1 := HNm.out _ hB.out (s + 2 ^ p) hm1
                have c2 := HNm.out _ hB.out (s + 2 ^ q) hm2
                rcases hq : Pr.symAt g p q s with _ | _
                · have Hr2 := Lib.hid ((HNo.out p q s hls hq).symm.trans Hr.out)
                  have hne : (g.v.getD (s + 2 ^ p) 0 != g.v.getD (s + 2 ^ q) 0) = true := by
                    unfold Pr.symAt Pr.at' at hq
                    rw [hh, hh2, Bool.false_or, Bool.false_or] at hq
                    have := of_decide_eq_false hq
                    rw [bne_iff_ne]; exact this
                  clear hq hh hh2
                  generalize g.v.getD (s + 2 ^ p) 0 = X at *
                  generalize g.v.getD (s + 2 ^ q) 0 = Y at *
                  generalize 2 ^ p = P at *
                  generalize 2 ^ q = Q at *
                  go_wp2_with fail
                  go_quiet (first | (go_at_call 56; first | with_reducible exact Calls.quiet_of_same (Hh.out _) | with_reducible exact Calls.quiet_of_same (Hg.out _)) | (go_at_call 57; first | with_reducible exact Calls.quiet_of_same (Kp.out _) | with_reducible exact Calls.quiet_of_same (Kq.out _)))
                  go_wp2_with fail
                  go_ret
                  exact ⟨ret_bool Hr2.out, below_drewN (HBl.out.trans (hB.out.mono hle)) nq⟩
                · have HA2 : Hid (∀ t, t < s + 1 → Pr.symAt g p q t = true) := fun t ht => by
                    by_cases e : t = s
                    · subst e; exact hq
                    · exact hA.out t (by omega)
                  have hne : (g.v.getD (s + 2 ^ p) 0 != g.v.getD (s + 2 ^ q) 0) = false := by
                    unfold Pr.symAt Pr.at' at hq
                    rw [hh, hh2, Bool.false_or, Bool.false_or] at hq
                    have := of_decide_eq_true hq
                    rw [this]; simp
                  clear hq hh hh2
                  generalize g.v.getD (s + 2 ^ p) 0 = X at *
                  generalize g.v.getD (s + 2 ^ q) 0 = Y at *
                  generalize 2 ^ p = P at *
                  generalize 2 ^ q = Q at *
                  go_wp2_with fail
                  go_quiet (first | (go_at_call 56; first | with_reducible exact Calls.quiet_of_same (Hh.out _) | with_reducible exact Calls.quiet_of_same (Hg.out _)) | (go_at_call 57; first | with_reducible exact Calls.quiet_of_same (Kp.out _) | with_reducible exact Calls.quiet_of_same (Kq.out _)))
                  go_wp2_with fail
                  go_roundw
                  case rel => exact ⟨s + 1, by omega, by go_num, below_drewN hB.out nq, HA2⟩
                  case measure => simp [intOf]; omega
              · have Hg := Lib.hid (fun W' => (spec_HasPlayer (s : Int) (by omega) q hq5 true hh2 W').mono fun _ w' h => (show _ ∧ w' = W' from ⟨h.1, h.2.symm⟩))
                have HA2 : Hid (∀ t, t < s + 1 → Pr.symAt g p q t = true) := fun t ht => by
                  by_cases e : t = s
                  · subst e; unfold Pr.symAt; rw [hh2]; simp
                  · exact hA.out t (by omega)
                clear hh hh2
                go_wp2_with fail
                go_quiet (first | (go_at_call 56; first | with_reducible exact Calls.quiet_of_same (Hh.out _) | with_reducible exact Calls.quiet_of_same (Hg.out _)))
                go_wp2_with fail
                go_roundw
                case rel => exact ⟨s + 1, by omega, by go_num, below_drewN hB.out nq, HA2⟩
                case measure => simp [intOf]; omega
            · have Hh := Lib.hid (fun W' => (spec_HasPlayer (s : Int) (by omega) p hp5 true hh W').mono fun _ w' h => (show _ ∧ w' = W' from ⟨h.1, h.2.symm⟩))
              have HA2 : Hid (∀ t, t < s + 1 → Pr.symAt g p q t = true) := fun t ht => by
                by_cases e : t = s
                · subst e; unfold Pr.symAt; rw [hh]; rfl
                · exact hA.out t (by omega)
              clear hh
              go_wp2_with fail
              go_quiet (first | (go_at_call 56; exact Calls.quiet_of_same (Hh.out _)))
              go_wp2_with fail
              go_roundw
              case rel => exact ⟨s + 1, by omega, by go_num, below_drewN hB.out nq, HA2⟩
              case measure => simp [intOf]; omega
          · have Hr2 := Lib.hid ((HYes.out p q (fun t ht => hA.out t (by omega))).symm.trans Hr.out)
            go_wp2_with fail
            go_ret
            exact ⟨ret_bool Hr2.out, HBl.out.trans (hB.out.mono hle)⟩
      · have Hr := Lib.hid ((HSj.out hj2).symm.trans HR.out)
        have D1 := Lib.hid (spec_l1In i 0 (K - 1) true (by rw [decide_eq_true_iff]; omega))
        have D2 := Lib.hid (spec_l1In j 0 (K - 1) false (by rw [decide_eq_false_iff_not]; omega))
        clear hi2 hj2 HSi HSj HSR HR
        go_enter Try.func40, Try.ntmps40
        go_wp2_with fail
        rw [← HW.out]
        clear HW
        refine (spec_IsValidGame true HV.out HX.out HF.out).mono ?_
        rintro e w1 ⟨rfl, k⟩
        have HB2 := Lib.hid (HBl.out.trans (k.mono HBl.out.size))
        obtain ⟨m2, m3⟩ := two (HC.out.below k)
        clear k m0 m1
        go_wp2_with fail
        refine (D1.out _).mono ?_
        rintro e w2 ⟨rfl, rfl⟩
        go_wp2_with fail
        refine (D2.out _).mono ?_
        rintro e w2 ⟨rfl, rfl⟩
        go_wp2_with fail
        go_ret
        exact ⟨ret_bool Hr.out, HB2.out⟩
    · have Hr := Lib.hid ((HSi.out hi2).symm.trans HR.out)
      have D1 := Lib.hid (spec_l1In i 0 (K - 1) false (by rw [decide_eq_false_iff_not]; omega))
      clear hi2 HSi HSj HSR HR
      go_enter Try.func40, Try.ntmps40
      go_wp2_with fail
      rw [← HW.out]
      clear HW
      refine (spec_IsValidGame true HV.out HX.out HF.out).mono ?_
      rintro e w1 ⟨rfl, k⟩
      have HB2 := Lib.hid (HBl.out.trans (k.mono HBl.out.size))
      obtain ⟨m2, m3⟩ := two (HC.out.below k)
      clear k m0 m1
      go_wp2_with fail
      refine (D1.out _).mono ?_
      rintro e w2 ⟨rfl, rfl⟩
      go_wp2_with fail
      go_ret
      exact ⟨ret_bool Hr.out, HB2.out⟩
end Go.Proofs.Ytodjapljoimkgaa
