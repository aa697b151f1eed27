/- spec.IsValidLP. -/
import Derived.Test.YtfbhnjdbamahkaaLpB
namespace Go.Proofs.Ytfbhnjdbamahkaa
open Go.RowKit
open Ve (R)
open Lp (P)
theorem rows_row (p : P) (k : Nat) : Lp.row p k = rw_ p.A k := rfl
/-- A row as IsValidLP looks at it. -/
def rowOk (p : P) (k : Nat) : Bool := decide ((rw_ p.A k).length = p.C.length) && Lp.small (rw_ p.A k)
theorem rows_bad {p : P} {k : Nat} (hk : k < p.A.length) (h : rowOk p k = false) : Lp.vldP p = false := by
  rw [Bool.eq_false_iff]
  intro h2
  have h3 := Lp.rows_at (Lp.vld_parts h2).1 hk
  unfold rowOk at h
  rw [← rows_row] at h
  simp [h3] at h
theorem rows_good {p : P} (h : ∀ k, k < p.A.length → rowOk p k = true) : Lp.rows p = true := by
  unfold Lp.rows
  rw [List.all_eq_true]
  intro k hk
  exact h k (by simpa using hk)
set_option maxRecDepth 100000 in
set_option maxHeartbeats 800000 in
theorem spec_IsValidLP (B : Nat) (a b c : Option Addr) (c1 c2 c3 : Nat) (p : P) (hn : LpFits p) (w : World) (hBw : B ≤ w.heap.size) (hz : LpIn B w a b c p) :
    Calls Try.prog 25 #[.agg #[.slice a p.A.length c1, .slice b p.B.length c2, .slice c p.C.length c3]] w fun e w' => e = .returned (.bool (Lp.vldP p)) ∧ Below w.heap.size w w' := by
  obtain ⟨g, hg⟩ : ∃ g, Lp.vldP p = g := ⟨_, rfl⟩
  rw [hg]
  have HN := Lib.hid hn
  have hb := (Below.refl w.heap.size w).alloc (Nat.le_refl _) (.cells #[.slice a p.A.length c1, .slice b p.B.length c2, .slice c p.C.length c3] 38)
  have hx := Tri.new w (.slice a p.A.length c1) (.slice b p.B.length c2) (.slice c p.C.length c3) 38
  have Hz := Lib.hid ((hz.mono hBw).below hb)
  have Hb := Lib.hid hb
  have Hx := Lib.hid hx
  have Hg := Lib.hid hg
  have hA := hn.A
  have hB := hn.B
  have hC := hn.C
  clear hz hn hb hx hg
  go_enter Try.func25, Try.ntmps25
  go_wp2_with fail
  go_loopw [3] (fun i wr => ∃ k : Nat, k ≤ p.A.length ∧ i = .int .i64 k ∧ Hid (∀ j, j < k → rowOk p j = true) ∧ Hid (∃ d, wr = (w.alloc (.cells #[.slice a p.A.length c1, .slice b p.B.length c2, .slice c p.C.length c3] 38)).drewN d)) (fun i _ => p.A.length - (intOf i).toNat)
  case atStart => exact ⟨0, Nat.zero_le _, rfl, fun j hj => absurd hj (by omega), 0, rfl⟩
  case round =>
    obtain ⟨k, hk, rfl, hOk, hD⟩ := hrel
    have hxr : Tri wr w.heap.size (.slice a p.A.length c1) (.slice b p.B.length c2) (.slice c p.C.length c3) 38 := by obtain ⟨d, rfl⟩ := hD.out; exact Hx.out
    have hzr : LpIn w.heap.size wr a b c p := by obtain ⟨d, rfl⟩ := hD.out; exact Hz.out.drewN d
    have hbr : Below w.heap.size w wr := by obtain ⟨d, rfl⟩ := hD.out; exact below_drewN Hb.out d
    have Hzr := Lib.hid hzr
    have Hbr := Lib.hid hbr
    obtain ⟨x0, x1, x2, _⟩ := hxr.cells
    clear hxr hzr hbr
    by_cases hlt : k < p.A.length
    · obtain ⟨b1, o1, a', c', rfl, hb1, hcell, hN⟩ := Hzr.out.mA k hlt
      have HNr := Lib.hid hN
      have hrl := HN.out.row k hlt
      clear hN
      by_cases hl : (rw_ p.A k).length = p.C.length
      · rcases hs : Lp.small (rw_ p.A k) with _ | _
        · have Hr := Lib.hid (show false = g from (rows_bad hlt (by unfold rowOk; rw [hs]; simp)).symm.trans Hg.out)
          have Hs := Lib.hid hs
          have hnl : (((rw_ p.A k).length : Int) != (p.C.length : Int)) = false := by rw [hl]; simp
          clear hs hl
          go_wp2_with fail
          go_quiet (first | (go_at_call 79; exact Calls.quiet_of_same (l5Small_q w.heap.size a' c' (rw_ p.A k) hrl false Hs.out _ (HNr.out.drewN _))))
          go_wp2_with fail
          go_ret
          exact ⟨ret_bool Hr.out, below_drewN Hbr.out nq⟩
        · have HOk2 : Hid (∀ j, j < k + 1 → rowOk p j = true) := fun j hj => by
            by_cases e : j = k
            · subst e; unfold rowOk; rw [hs]; simp [hl]
            · exact hOk.out j (by omega)
          have Hs := Lib.hid hs
          have hnl : (((rw_ p.A k).length : Int) != (p.C.length : Int)) = false := by rw [hl]; simp
          clear hs hl
          go_wp2_with fail
          go_quiet (first | (go_at_call 79; exact Calls.quiet_of_same (l5Small_q w.heap.size a' c' (rw_ p.A k) hrl true Hs.out _ (HNr.out.drewN _))))
          go_wp2_with fail
          go_roundw
          case rel => exact ⟨k + 1, by omega, by go_num, HOk2, by obtain ⟨d, rfl⟩ := hD.out; exact ⟨d + nq, by simp [Nat.add_comm]⟩⟩
          case measure => simp [intOf]; omega
      · obtain ⟨l1, l2⟩ := len_no hl
        have Hr := Lib.hid (show false = g from (rows_bad hlt (by unfold rowOk; simp [hl])).symm.trans Hg.out)
        go_wp2_with fail
        go_quiet (fail)
        go_wp2_with fail
        go_ret
        exact ⟨ret_bool Hr.out, below_drewN Hbr.out nq⟩
    · have hk' : k = p.A.length := by omega
      have Hrows := Lib.hid (rows_good (p := p) fun j hj => hOk.out j (by omega))
      clear hOk hk'
      have low : ∀ b : Bool, (decide (p.C.length ≤ 70) && (decide (p.A.length ≤ 8) && (decide (p.B.length = p.A.length) && (Lp.small p.B && Ve.good p.C)))) = b → b = g := fun b h => by
        rw [← Hg.out, ← h]; unfold Lp.vldP; rw [Hrows.out]; rfl
      have Low := Lib.hid low
      clear low
      by_cases q1 : p.C.length ≤ 70
      · have hq1 : decide ((p.C.length : Int) ≤ 70) = true := by rw [decide_eq_true_iff]; omega
        by_cases q2 : p.A.length ≤ 8
        · have hq2 : decide ((p.A.length : Int) ≤ 8) = true := by rw [decide_eq_true_iff]; omega
          by_cases q3 : p.B.length = p.A.length
          · have hq3 : ((p.B.length : Int) == (p.A.length : Int)) = true := by rw [q3]; simp
            rcases q4 : Lp.small p.B with _ | _
            · have Hr : Hid (false = g) := Low.out false (by rw [q4]; simp)
              have Q4 := Lib.hid q4
              clear q4 q3
              go_wp2_with fail
              refine (spec_l5Small w.heap.size b c2 p.B hB false Q4.out _ Hzr.out.mB).mono ?_
              rintro e w1 ⟨rfl, rfl⟩
              go_wp2_with fail
              go_ret
              exact ⟨ret_bool Hr.out, Hbr.out⟩
            · have Hr : Hid (Ve.good p.C = g) := Low.out _ (by rw [q4]; simp [q1, q2, q3])
              have Q4 := Lib.hid q4
              clear q4 q3
              go_wp2_with fail
              refine (spec_l5Small w.heap.size b c2 p.B hB true Q4.out _ Hzr.out.mB).mono ?_
              rintro e w1 ⟨rfl, rfl⟩
              go_wp2_with fail
              refine (spec_AllValid w.heap.size c c3 p.C hC _ Hbr.out.size Hzr.out.mC).mono ?_
              rintro e w1 ⟨rfl, hb1⟩
              have Hb1 := Lib.hid (Hbr.out.trans (hb1.mono Hbr.out.size))
              rw [Hr.out]
              clear hb1
              go_wp2_with fail
              go_ret
              exact ⟨rfl, Hb1.out⟩
          · have Hr : Hid (false = g) := Low.out false (by simp [q3])
            obtain ⟨l1, _⟩ := len_no q3
            go_wp2_with fail
            go_ret
            exact ⟨ret_bool Hr.out, Hbr.out⟩
        · have Hr : Hid (false = g) := Low.out false (by simp [q2])
          have hq2 : decide ((p.A.length : Int) ≤ 8) = false := by rw [decide_eq_false_iff_not]; omega
          go_wp2_with fail
          go_ret
          exact ⟨ret_bool Hr.out, Hbr.out⟩
      · have Hr : Hid (false = g) := Low.out false (by simp [q1])
        have hq1 : decide ((p.C.length : Int) ≤ 70) = false := by rw [decide_eq_false_iff_not]; omega
        go_wp2_with fail
        go_ret
        exact ⟨ret_bool Hr.out, Hbr.out⟩
end Go.Proofs.Ytfbhnjdbamahkaa
