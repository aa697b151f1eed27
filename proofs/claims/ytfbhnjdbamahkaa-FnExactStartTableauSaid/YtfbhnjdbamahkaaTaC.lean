/- spec.l6Good. -/
import Derived.Test.YtfbhnjdbamahkaaTaB
import Derived.IntWalk
namespace Go.Proofs.Ytfbhnjdbamahkaa
open Go.RowKit
open Ve (R)
open Ta (T)
theorem l1In_q (x a b : Int) (r : Bool) (h : decide (a ≤ x ∧ x ≤ b) = r) (w : World) : Calls Try.prog 57 #[.int .i64 x, .int .i64 a, .int .i64 b] w fun e w' => e = .returned (.bool r) ∧ w' = w := (spec_l1In x a b r h w).mono fun _ _ ⟨h1, h2⟩ => ⟨h1, h2.symm⟩
theorem TabIn.drewN {B : Nat} {w : World} {a b : Option Addr} {t : T} (h : TabIn B w a b t) (d : Nat) : TabIn B (w.drewN d) a b t := ⟨h.mR, h.mB⟩
theorem row_rr (t : T) (k : Nat) : Ta.row t k = rr t.rows k := rfl
set_option maxRecDepth 100000 in
set_option maxHeartbeats 2000000 in
theorem spec_l6Good (B : Nat) (a b : Option Addr) (c1 c2 : Nat) (t : T) (hn : TabFits t) (g : Bool) (hg : Ta.good t = g) (w : World) (hBw : B ≤ w.heap.size) (hz : TabIn B w a b t) :
    Calls Try.prog 56 #[tabV a b c1 c2 t] w fun e w' => e = .returned (.bool g) ∧ Below w.heap.size w w' := by
  obtain ⟨nr, nw, nb, _⟩ := hn
  have hb := (Below.refl w.heap.size w).alloc (Nat.le_refl _) (.cells #[.slice a t.rows.length c1, .slice b t.basis.length c2, .int .i64 t.cols] 27)
  have hx := Tri.new w (.slice a t.rows.length c1) (.slice b t.basis.length c2) (.int .i64 t.cols) 27
  have Hz := Lib.hid ((hz.mono hBw).below hb)
  have Hb := Lib.hid hb
  have Hx := Lib.hid hx
  have Hg := Lib.hid hg
  have HW := Lib.hid nw
  rw [show tabV a b c1 c2 t = .agg #[.slice a t.rows.length c1, .slice b t.basis.length c2, .int .i64 t.cols] from rfl]
  obtain ⟨L, B1, C⟩ := t
  simp only at nr nb
  clear hz hb hx hg nw
  by_cases q0 : C < 0
  · have Hr := Lib.hid (show false = g by rw [← Hg.out]; unfold Ta.good; simp only; rw [decide_eq_false (by omega : ¬ 0 ≤ C)]; rfl)
    have hd : decide (C < 0) = true := by rw [decide_eq_true_iff]; exact q0
    go_enter Try.func56, Try.ntmps56
    go_wp2_with fail
    go_ret
    exact ⟨ret_bool Hr.out, Hb.out⟩
  · have hd : decide (C < 0) = false := by rw [decide_eq_false_iff_not]; exact q0
    by_cases q1 : C ≤ 1000
    · have hd1 : decide (C > 1000) = false := by rw [decide_eq_false_iff_not]; omega
      by_cases q2 : B1.length = L.length
      · have hd2 : ((B1.length : Int) != (L.length : Int)) = false := by rw [q2]; simp
        have Hq2 := Lib.hid q2
        clear q2
        have hs1 : IntKind.i64.wrap (C + (L.length : Int)) = C + (L.length : Int) := IntWalk.i64_in _ (by omega)
        have hs2 : IntKind.i64.wrap (C + (L.length : Int) + 1) = C + (L.length : Int) + 1 := IntWalk.i64_in _ (by omega)
        have hs3 : IntKind.i64.wrap (C + (L.length : Int) - 1) = C + (L.length : Int) - 1 := IntWalk.i64_in _ (by omega)
        have S1 := Lib.hid hs1
        have S2 := Lib.hid hs2
        have S3 := Lib.hid hs3
        clear hs1 hs2 hs3
        go_enter Try.func56, Try.ntmps56
        go_wp2_with fail
        go_loopw [4] (fun i wr => ∃ k : Nat, k ≤ L.length ∧ i = .int .i64 k ∧ Hid (∀ j, j < k → Ta.rowOk ⟨L, B1, C⟩ j = true) ∧ Hid (∃ d, wr = (w.alloc (.cells #[.slice a L.length c1, .slice b B1.length c2, .int .i64 C] 27)).drewN d)) (fun i _ => L.length - (intOf i).toNat)
        case atStart => exact ⟨0, Nat.zero_le _, rfl, fun j hj => absurd hj (by omega), 0, rfl⟩
        case round =>
          obtain ⟨k, hk, rfl, hOk, hD⟩ := hrel
          have hxr : Tri wr w.heap.size (.slice a L.length c1) (.slice b B1.length c2) (.int .i64 C) 27 := by obtain ⟨d, rfl⟩ := hD.out; exact Hx.out
          have hzr : TabIn w.heap.size wr a b ⟨L, B1, C⟩ := by obtain ⟨d, rfl⟩ := hD.out; exact Hz.out.drewN d
          have hbr : Below w.heap.size w wr := by obtain ⟨d, rfl⟩ := hD.out; exact below_drewN Hb.out d
          have Hbr := Lib.hid hbr
          obtain ⟨x0, x1, x2, _⟩ := hxr.cells
          by_cases hlt : k < L.length
          · obtain ⟨b1, o1, a', c', rfl, _, hcell, _⟩ := hzr.mR k hlt
            obtain ⟨b2, o2, rfl, _, hbas⟩ := hzr.mB k (by have := Hq2.out; simp only; omega)
            have hkb : (k : Int) < (B1.length : Int) := by have := Hq2.out; omega
            have hkb2 : (k : Int) < (L.length : Int) := by omega
            have hkb3 : (0 : Int) ≤ (k : Int) := by omega
            have hrl := HW.out k hlt
            simp only at hcell hbas hrl
            have Hdef := Lib.hid (show Ta.rowOk ⟨L, B1, C⟩ k = (decide (((rr L k).length : Int) = C + L.length + 1) && decide (0 ≤ B1.getD k 0 ∧ B1.getD k 0 ≤ C + L.length - 1)) from rfl)
            have Hbad := Lib.hid (fun (h : Ta.rowOk ⟨L, B1, C⟩ k = false) => (show false = g from (Ta.good_no (t := ⟨L, B1, C⟩) hlt h).symm.trans Hg.out))
            have Hgood := Lib.hid (fun (h : Ta.rowOk ⟨L, B1, C⟩ k = true) => (fun j (hj : j < k + 1) => (show Ta.rowOk ⟨L, B1, C⟩ j = true from by
              by_cases e : j = k
              · subst e; exact h
              · exact hOk.out j (by omega))))
            clear hxr hzr hbr
            generalize B1.getD k 0 = z at *
            generalize (rr L k).length = m at *
            by_cases hl : (m : Int) = C + L.length + 1
            · have hne : ((m : Int) != C + (L.length : Int) + 1) = false := by rw [hl]; simp
              rcases hq : decide (0 ≤ z ∧ z ≤ C + (L.length : Int) - 1) with _ | _
              · have Hr := Lib.hid (Hbad.out (by rw [Hdef.out, hq]; simp))
                have Hq := Lib.hid hq
                clear hq Hbad Hgood Hdef hl
                go_wp2_with fail
                have e1 := S1.out
                have e2 := S2.out
                have e3 := S3.out
                go_quiet (first | (go_at_call 57; exact Calls.quiet_of_same (l1In_q z 0 (C + (L.length : Int) - 1) false Hq.out _)))
                clear e1 e2 e3
                go_wp2_with fail
                go_ret
                exact ⟨ret_bool Hr.out, below_drewN Hbr.out nq⟩
              · have HOk2 := Lib.hid (Hgood.out (by rw [Hdef.out, hq, hl]; simp))
                have Hq := Lib.hid hq
                clear hq Hbad Hgood Hdef hl
                go_wp2_with fail
                have e1 := S1.out
                have e2 := S2.out
                have e3 := S3.out
                go_quiet (first | (go_at_call 57; exact Calls.quiet_of_same (l1In_q z 0 (C + (L.length : Int) - 1) true Hq.out _)))
                clear e1 e2 e3
                go_wp2_with fail
                go_roundw
                case rel => exact ⟨k + 1, by omega, by go_num, HOk2, by obtain ⟨d, rfl⟩ := hD.out; exact ⟨d + nq, by simp [Nat.add_comm]⟩⟩
                case measure => simp [intOf]; omega
            · have hne : ((m : Int) != C + (L.length : Int) + 1) = true := by rw [bne, beq_eq_false_iff_ne.2 hl]; rfl
              have Hr := Lib.hid (Hbad.out (by rw [Hdef.out]; simp [hl]))
              clear Hbad Hgood Hdef hl
              go_wp2_with fail
              have e1 := S1.out
              have e2 := S2.out
              go_quiet (fail)
              clear e1 e2
              go_wp2_with fail
              go_ret
              exact ⟨ret_bool Hr.out, below_drewN Hbr.out nq⟩
          · have Hr := Lib.hid (show true = g by rw [← Hg.out]; exact (Ta.good_mk (t := ⟨L, B1, C⟩) (by show 0 ≤ C; omega) q1 Hq2.out fun j hj => hOk.out j (by simp only at hj; omega)).symm)
            clear hxr hzr hbr
            go_wp2_with fail
            go_ret
            exact ⟨ret_bool Hr.out, Hbr.out⟩
      · have Hr := Lib.hid (show false = g by rw [← Hg.out]; unfold Ta.good; simp [q2])
        obtain ⟨l1, l2⟩ := len_no q2
        go_enter Try.func56, Try.ntmps56
        go_wp2_with fail
        go_ret
        exact ⟨ret_bool Hr.out, Hb.out⟩
    · have hd1 : decide (C > 1000) = true := by rw [decide_eq_true_iff]; omega
      have Hr := Lib.hid (show false = g by rw [← Hg.out]; unfold Ta.good; simp only; rw [decide_eq_false q1]; simp)
      go_enter Try.func56, Try.ntmps56
      go_wp2_with fail
      go_ret
      exact ⟨ret_bool Hr.out, Hb.out⟩
end Go.Proofs.Ytfbhnjdbamahkaa
