/- The code's methods of tableaus: columns, hasColumn, hasRow, hasForm. -/
import Derived.Test.YtkindblhafejfaaTaL3
import Derived.Test.YtkindblhafejfaaTaC
namespace Go.Proofs.Ytkindblhafejfaa
open Go.RowKit
open Ve (R)
open Ta (T)
/-- A tableau behind a pointer: its box, and what its slices read as. -/
structure TabBox (B : Nat) (w : World) (q : Nat) (a b : Option Addr) (c1 c2 : Nat) (t : T) : Prop where
  box : Tri w q (.slice a t.rows.length c1) (.slice b t.basis.length c2) (.int .i64 t.cols) 30
  tab : TabIn B w a b t
theorem TabBox.drewN {B q c1 c2 : Nat} {w : World} {a b : Option Addr} {t : T} (h : TabBox B w q a b c1 c2 t) (d : Nat) : TabBox B (w.drewN d) q a b c1 c2 t := ⟨h.box, h.tab.drewN d⟩
theorem TabBox.below {B q c1 c2 : Nat} {w w' : World} {a b : Option Addr} {t : T} (h : TabBox B w q a b c1 c2 t) (hB : B ≤ w.heap.size) (hb : Below w.heap.size w w') : TabBox B w' q a b c1 c2 t := ⟨h.box.below hb, h.tab.below (hb.mono hB)⟩
set_option maxRecDepth 100000 in
set_option maxHeartbeats 1000000 in
theorem impl_columns (B q : Nat) (a b : Option Addr) (c1 c2 : Nat) (t : T) (h0 : 0 ≤ t.cols) (h1 : t.cols ≤ 1000) (hn : t.rows.length ≤ 1048576) (w : World) (h : TabBox B w q a b c1 c2 t) :
    Calls Try.prog 77 #[.pointer (some ⟨q, 0, none⟩)] w fun e w' => e = .returned (.int .i64 (t.cols + t.rows.length)) ∧ ∃ d, w' = w.drewN d := by
  obtain ⟨x0, x1, x2, _⟩ := h.box.cells
  clear h
  have hs : IntKind.i64.wrap (t.cols + (t.rows.length : Int)) = t.cols + (t.rows.length : Int) := IntWalk.i64_in _ (by omega)
  go_enter Try.func77, Try.ntmps77
  go_wp2_with fail
  go_quiet (fail)
  go_wp2_with fail
  go_ret
  exact ⟨rfl, _, rfl⟩
set_option maxRecDepth 100000 in
set_option maxHeartbeats 1000000 in
theorem impl_hasColumn (B q : Nat) (a b : Option Addr) (c1 c2 : Nat) (t : T) (h0 : 0 ≤ t.cols) (h1 : t.cols ≤ 1000) (hn : t.rows.length ≤ 1048576) (j : Int) (g : Bool) (hg : decide (0 ≤ j ∧ j ≤ t.cols + t.rows.length - 1) = g) (w : World) (h : TabBox B w q a b c1 c2 t) :
    Calls Try.prog 55 #[.pointer (some ⟨q, 0, none⟩), .int .i64 j] w fun e w' => e = .returned (.bool g) ∧ ∃ d, w' = w.drewN d := by
  have H := Lib.hid h
  clear h
  by_cases hj : j ≥ 0
  · have hd : decide (j ≥ 0) = true := by rw [decide_eq_true_iff]; exact hj
    have hd2 : decide (j < t.cols + (t.rows.length : Int)) = g := by
      rw [← hg]
      by_cases h : j < t.cols + (t.rows.length : Int)
      · rw [decide_eq_true h, decide_eq_true (by omega)]
      · rw [decide_eq_false h, decide_eq_false (by omega)]
    clear hg
    go_enter Try.func55, Try.ntmps55
    go_wp2_with fail
    refine (impl_columns B q a b c1 c2 t h0 h1 hn _ H.out).mono ?_
    rintro e w1 ⟨rfl, d, rfl⟩
    go_wp2_with fail
    go_ret
    exact ⟨rfl, d, rfl⟩
  · have hd : decide (j ≥ 0) = false := by rw [decide_eq_false_iff_not]; exact hj
    have Hr := Lib.hid (show false = g by rw [← hg]; symm; rw [decide_eq_false_iff_not]; omega)
    clear hg
    go_enter Try.func55, Try.ntmps55
    go_wp2_with fail
    go_ret
    exact ⟨ret_bool Hr.out, 0, rfl⟩
set_option maxRecDepth 100000 in
set_option maxHeartbeats 4000000 in
theorem impl_hasForm (B q : Nat) (a b : Option Addr) (c1 c2 : Nat) (t : T) (hn : TabFits t) (g : Bool) (hg : Ta.good t = g) (w : World) (h : TabBox B w q a b c1 c2 t) :
    Calls Try.prog 53 #[.pointer (some ⟨q, 0, none⟩)] w fun e w' => e = .returned (.bool g) ∧ ∃ d, w' = w.drewN d := by
  obtain ⟨nr, nw, nb, _⟩ := hn
  have H := Lib.hid h
  have Hg := Lib.hid hg
  have HW := Lib.hid nw
  obtain ⟨x0, x1, x2, _⟩ := h.box.cells
  obtain ⟨L, B1, C⟩ := t
  simp only at nr nb x0 x1 x2
  clear h hg nw
  by_cases q0 : C < 0
  · have Hr := Lib.hid (show false = g by rw [← Hg.out]; unfold Ta.good; simp only; rw [decide_eq_false (by omega : ¬ 0 ≤ C)]; rfl)
    have hd : decide (C < 0) = true := by rw [decide_eq_true_iff]; exact q0
    go_enter Try.func53, Try.ntmps53
    go_wp2_with fail
    go_quiet (fail)
    go_wp2_with fail
    go_ret
    exact ⟨ret_bool Hr.out, _, rfl⟩
  · have hd : decide (C < 0) = false := by rw [decide_eq_false_iff_not]; exact q0
    by_cases q1 : C ≤ 1000
    · have hd1 : decide (C > 1000) = false := by rw [decide_eq_false_iff_not]; omega
      by_cases q2 : B1.length = L.length
      · have hd2 : ((B1.length : Int) != (L.length : Int)) = false := by rw [q2]; simp
        have Hq2 := Lib.hid q2
        clear q2
        go_enter Try.func53, Try.ntmps53
        go_wp2_with fail
        go_quiet (fail)
        go_wp2_with fail
        go_loopw [35] (fun i wr => ∃ k : Nat, k ≤ L.length ∧ i = .int .i64 k ∧ Hid (∀ j, j < k → Ta.rowOk ⟨L, B1, C⟩ j = true) ∧ Hid (∃ d, wr = w.drewN d)) (fun i _ => L.length - (intOf i).toNat)
        case atStart => exact ⟨0, Nat.zero_le _, rfl, fun j hj => absurd hj (by omega), _, rfl⟩
        case round =>
          clear x0 x1 x2
          obtain ⟨k, hk, rfl, hOk, hD⟩ := hrel
          have HTr : Hid (TabBox B wr q a b c1 c2 ⟨L, B1, C⟩) := by obtain ⟨d, rfl⟩ := hD.out; exact H.out.drewN d
          by_cases hlt : k < L.length
          · obtain ⟨x0, x1, x2, _⟩ := HTr.out.box.cells
            obtain ⟨b1, o1, a', c', rfl, _, hcell, _⟩ := HTr.out.tab.mR k hlt
            obtain ⟨b2, o2, rfl, _, hbas⟩ := HTr.out.tab.mB k (by have := Hq2.out; simp only; omega)
            have hkb : (k : Int) < (B1.length : Int) := by have := Hq2.out; omega
            have hkb2 : (k : Int) < (L.length : Int) := by omega
            have hrl := HW.out k hlt
            simp only at hcell hbas hrl x0 x1 x2
            have Hdef := Lib.hid (show Ta.rowOk ⟨L, B1, C⟩ k = (decide (((rr L k).length : Int) = C + L.length + 1) && decide (0 ≤ B1.getD k 0 ∧ B1.getD k 0 ≤ C + L.length - 1)) from rfl)
            have Hbad := Lib.hid (fun (h : Ta.rowOk ⟨L, B1, C⟩ k = false) => (show false = g from (Ta.good_no (t := ⟨L, B1, C⟩) hlt h).symm.trans Hg.out))
            have Hgood := Lib.hid (fun (h : Ta.rowOk ⟨L, B1, C⟩ k = true) => (fun j (hj : j < k + 1) => (show Ta.rowOk ⟨L, B1, C⟩ j = true from by
              by_cases e : j = k
              · subst e; exact h
              · exact hOk.out j (by omega))))
            generalize B1.getD k 0 = z at *
            generalize (rr L k).length = m at *
            by_cases hl : (m : Int) = C + L.length + 1
            · have hne : ((m : Int) != C + (L.length : Int) + 1) = false := by rw [hl]; simp
              clear hl
              rcases hq : decide (0 ≤ z ∧ z ≤ C + (L.length : Int) - 1) with _ | _
              · have Hr := Lib.hid (Hbad.out (by rw [Hdef.out, hq]; simp))
                have Hq := Lib.hid hq
                clear hq Hbad Hgood Hdef
                go_wp2_with fail
                refine (impl_columns B q _ _ c1 c2 ⟨L, B1, C⟩ (by simp only; omega) q1 nr _ HTr.out).mono ?_
                rintro e w1 ⟨rfl, d, rfl⟩
                go_wp2_with fail
                refine (impl_hasColumn B q _ _ c1 c2 ⟨L, B1, C⟩ (by simp only; omega) q1 nr z false Hq.out _ (HTr.out.drewN d)).mono ?_
                rintro e w1 ⟨rfl, d2, rfl⟩
                go_wp2_with fail
                go_ret
                exact ⟨ret_bool Hr.out, by obtain ⟨d3, rfl⟩ := hD.out; exact ⟨d3 + (d + d2), by simp⟩⟩
              · have HOk2 := Lib.hid (Hgood.out (by rw [Hdef.out, hq]; simp; exact of_decide_eq_true (by revert hne; simp)))
                have Hq := Lib.hid hq
                clear hq Hbad Hgood Hdef
                go_wp2_with fail
                refine (impl_columns B q _ _ c1 c2 ⟨L, B1, C⟩ (by simp only; omega) q1 nr _ HTr.out).mono ?_
                rintro e w1 ⟨rfl, d, rfl⟩
                go_wp2_with fail
                refine (impl_hasColumn B q _ _ c1 c2 ⟨L, B1, C⟩ (by simp only; omega) q1 nr z true Hq.out _ (HTr.out.drewN d)).mono ?_
                rintro e w1 ⟨rfl, d2, rfl⟩
                go_wp2_with fail
                go_roundw
                case rel => exact ⟨k + 1, by omega, by go_num, HOk2, by obtain ⟨d3, rfl⟩ := hD.out; exact ⟨d3 + (d + d2), by simp⟩⟩
                case measure => simp [intOf]; omega
            · have hne : ((m : Int) != C + (L.length : Int) + 1) = true := by rw [bne, beq_eq_false_iff_ne.2 hl]; rfl
              have Hr := Lib.hid (Hbad.out (by rw [Hdef.out]; simp [hl]))
              clear Hbad Hgood Hdef hl
              go_wp2_with fail
              refine (impl_columns B q _ _ c1 c2 ⟨L, B1, C⟩ (by simp only; omega) q1 nr _ HTr.out).mono ?_
              rintro e w1 ⟨rfl, d, rfl⟩
              go_wp2_with fail
              go_ret
              exact ⟨ret_bool Hr.out, by obtain ⟨d3, rfl⟩ := hD.out; exact ⟨d3 + d, by simp [Nat.add_comm]⟩⟩
          · have Hr := Lib.hid (show true = g by rw [← Hg.out]; exact (Ta.good_mk (t := ⟨L, B1, C⟩) (by show 0 ≤ C; omega) q1 Hq2.out fun j hj => hOk.out j (by simp only at hj; omega)).symm)
            go_wp2_with fail
            go_ret
            exact ⟨ret_bool Hr.out, hD.out⟩
      · have Hr := Lib.hid (show false = g by rw [← Hg.out]; unfold Ta.good; simp [q2])
        obtain ⟨l1, l2⟩ := len_no q2
        go_enter Try.func53, Try.ntmps53
        go_wp2_with fail
        go_quiet (fail)
        go_wp2_with fail
        go_ret
        exact ⟨ret_bool Hr.out, _, rfl⟩
    · have hd1 : decide (C > 1000) = true := by rw [decide_eq_true_iff]; omega
      have Hr := Lib.hid (show false = g by rw [← Hg.out]; unfold Ta.good; simp only; rw [decide_eq_false q1]; simp)
      go_enter Try.func53, Try.ntmps53
      go_wp2_with fail
      go_quiet (fail)
      go_wp2_with fail
      go_ret
      exact ⟨ret_bool Hr.out, _, rfl⟩
end Go.Proofs.Ytkindblhafejfaa
