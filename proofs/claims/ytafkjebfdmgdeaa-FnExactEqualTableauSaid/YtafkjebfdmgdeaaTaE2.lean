/- slices.Equal at integers, slices.EqualFunc at rows, impl.EqualTableau. -/
import Derived.Test.YtafkjebfdmgdeaaTaE
namespace Go.Proofs.Ytafkjebfdmgdeaa
open Go.RowKit
open Ve (R)
open Ta (T)
set_option maxRecDepth 100000 in
set_option maxHeartbeats 1000000 in
theorem slices_EqualI (B : Nat) (a1 a2 : Option Addr) (c1 c2 : Nat) (xs ys : List Int) (hn : xs.length ≤ 1048576) (hn2 : ys.length ≤ 1048576) (g : Bool) (hg : decide (xs = ys) = g) (w : World) (h1 : NumsIn B w a1 xs) (h2 : NumsIn B w a2 ys) :
    Calls Try.prog 95 #[.slice a1 xs.length c1, .slice a2 ys.length c2] w fun e w' => e = .returned (.bool g) ∧ ∃ d, w' = w.drewN d := by
  have H1 := Lib.hid h1
  have H2 := Lib.hid h2
  clear h1 h2
  by_cases hl : xs.length = ys.length
  · have Hg := Lib.hid hg
    have HL := Lib.hid hl
    rw [← hl]
    clear hg hl
    go_enter Try.func95, Try.ntmps95
    go_wp2_with fail
    go_loopw [13] (fun i wr => ∃ k : Nat, k ≤ xs.length ∧ i = .int .i64 k ∧ Hid (∀ j, j < k → xs.getD j 0 = ys.getD j 0) ∧ Hid (∃ d, wr = w.drewN d)) (fun i _ => xs.length - (intOf i).toNat)
    case atStart => exact ⟨0, Nat.zero_le _, rfl, fun j hj => absurd hj (by omega), ⟨0, rfl⟩⟩
    case round =>
      obtain ⟨k, hk, rfl, hA, hD⟩ := hrel
      by_cases hlt : k < xs.length
      · have g1 : NumsIn B wr a1 xs := by obtain ⟨d, rfl⟩ := hD.out; exact H1.out.drewN d
        have g2 : NumsIn B wr a2 ys := by obtain ⟨d, rfl⟩ := hD.out; exact H2.out.drewN d
        obtain ⟨b1, o1, rfl, _, p0⟩ := g1 k hlt
        obtain ⟨b2, o2, rfl, _, q0⟩ := g2 k (HL.out ▸ hlt)
        clear g1 g2
        rcases hv : (xs.getD k 0 != ys.getD k 0) with _ | _
        · have HA2 : Hid (∀ j, j < k + 1 → xs.getD j 0 = ys.getD j 0) := fun j hj => by
            by_cases e : j = k
            · subst e
              simpa using hv
            · exact hA.out j (by omega)
          generalize xs.getD k 0 = x at *
          generalize ys.getD k 0 = y at *
          go_wp2_with fail
          go_quiet (fail)
          go_wp2_with fail
          go_roundw
          case rel => exact ⟨k + 1, by omega, by go_num, HA2, by obtain ⟨d, rfl⟩ := hD.out; exact ⟨d + nq, by simp [Nat.add_comm]⟩⟩
          case measure => simp [intOf]; omega
        · have Hr : Hid (false = g) := by
            show _ = _
            rw [← Hg.out]; symm
            rw [decide_eq_false_iff_not]
            rintro rfl
            simp at hv
          generalize xs.getD k 0 = x at *
          generalize ys.getD k 0 = y at *
          go_wp2_with fail
          go_quiet (fail)
          go_wp2_with fail
          go_ret
          exact ⟨ret_bool Hr.out, by obtain ⟨d, rfl⟩ := hD.out; exact ⟨d + nq, by simp [Nat.add_comm]⟩⟩
      · have Hr : Hid (true = g) := by
          show _ = _
          rw [← Hg.out]; symm
          rw [decide_eq_true_iff]
          exact ints_same HL.out fun j hj => hA.out j (by omega)
        go_wp2_with fail
        go_ret
        exact ⟨ret_bool Hr.out, hD.out⟩
  · have Hr : Hid (false = g) := by
      show _ = _
      rw [← hg]; symm
      rw [decide_eq_false_iff_not]
      rintro rfl
      exact hl rfl
    obtain ⟨l1, l2⟩ := len_no hl
    clear hg
    go_enter Try.func95, Try.ntmps95
    go_wp2_with fail
    go_ret
    exact ⟨ret_bool Hr.out, 0, rfl⟩
theorem impl_eqv (B : Nat) (a1 a2 : Option Addr) (c1 c2 : Nat) (xs ys : List R) (hn : xs.length ≤ 1048576) (hn2 : ys.length ≤ 1048576) (g : Bool) (hg : eqV xs ys = g) (w : World) (h1 : RatsIn B w a1 xs) (h2 : RatsIn B w a2 ys) :
    Calls Try.prog 68 #[.slice a1 xs.length c1, .slice a2 ys.length c2] w fun e w' => e = .returned (.bool g) ∧ ∃ d, w' = w.drewN d := hg ▸ impl_EqualVector B a1 a2 c1 c2 xs ys hn hn2 w h1 h2
set_option maxRecDepth 100000 in
set_option maxHeartbeats 1000000 in
theorem slices_EqualRows (B : Nat) (a1 a2 : Option Addr) (c1 c2 : Nat) (L M : List (List R)) (hn : L.length ≤ 1048576) (hn2 : M.length ≤ 1048576) (hr : ∀ k, k < L.length → (rr L k).length ≤ 1048576) (hr2 : ∀ k, k < M.length → (rr M k).length ≤ 1048576)
    (g : Bool) (hg : decide (L = M) = g) (w : World) (h1 : RMatIn B w a1 L) (h2 : RMatIn B w a2 M) :
    Calls Try.prog 96 #[.slice a1 L.length c1, .slice a2 M.length c2, .func (.func 68) #[] #[]] w fun e w' => e = .returned (.bool g) ∧ ∃ d, w' = w.drewN d := by
  have H1 := Lib.hid h1
  have H2 := Lib.hid h2
  have HR := Lib.hid hr
  have HR2 := Lib.hid hr2
  clear h1 h2 hr hr2
  by_cases hl : L.length = M.length
  · have Hg := Lib.hid hg
    have HL := Lib.hid hl
    rw [← hl]
    clear hg hl
    go_enter Try.func96, Try.ntmps96
    go_wp2_with fail
    go_loopw [17] (fun i wr => ∃ k : Nat, k ≤ L.length ∧ i = .int .i64 k ∧ Hid (∀ j, j < k → rr L j = rr M j) ∧ Hid (∃ d, wr = w.drewN d)) (fun i _ => L.length - (intOf i).toNat)
    case atStart => exact ⟨0, Nat.zero_le _, rfl, fun j hj => absurd hj (by omega), ⟨0, rfl⟩⟩
    case round =>
      obtain ⟨k, hk, rfl, hA, hD⟩ := hrel
      by_cases hlt : k < L.length
      · have g1 : RMatIn B wr a1 L := by obtain ⟨d, rfl⟩ := hD.out; exact H1.out.drewN d
        have g2 : RMatIn B wr a2 M := by obtain ⟨d, rfl⟩ := hD.out; exact H2.out.drewN d
        have hlt' : k < M.length := HL.out ▸ hlt
        obtain ⟨b1, o1, a1', k1, rfl, _, p0, n1⟩ := g1 k hlt
        obtain ⟨b2, o2, a2', k2, rfl, _, q0, n2⟩ := g2 k hlt'
        have N1 := Lib.hid n1
        have N2 := Lib.hid n2
        have M1 := Lib.hid (HR.out k hlt)
        have M2 := Lib.hid (HR2.out k hlt')
        clear n1 n2 g1 g2
        rcases hv : eqV (rr L k) (rr M k) with _ | _
        · have Hr : Hid (false = g) := by
            show _ = _
            rw [← Hg.out]; symm
            rw [decide_eq_false_iff_not]
            rintro rfl
            simp [eqV] at hv
          have Hv := Lib.hid hv
          clear hv
          generalize rr L k = x at *
          generalize rr M k = y at *
          go_wp2_with fail
          refine (impl_eqv B a1' a2' k1 k2 x y M1.out M2.out false Hv.out _ N1.out N2.out).mono ?_
          rintro e w1 ⟨rfl, d, rfl⟩
          go_wp2_with fail
          go_ret
          exact ⟨ret_bool Hr.out, by obtain ⟨d2, rfl⟩ := hD.out; exact ⟨d2 + d, by simp [Nat.add_comm]⟩⟩
        · have HA2 : Hid (∀ j, j < k + 1 → rr L j = rr M j) := fun j hj => by
            by_cases e : j = k
            · subst e
              simpa [eqV] using hv
            · exact hA.out j (by omega)
          have Hv := Lib.hid hv
          clear hv
          generalize rr L k = x at *
          generalize rr M k = y at *
          go_wp2_with fail
          refine (impl_eqv B a1' a2' k1 k2 x y M1.out M2.out true Hv.out _ N1.out N2.out).mono ?_
          rintro e w1 ⟨rfl, d, rfl⟩
          go_wp2_with fail
          go_roundw
          case rel => exact ⟨k + 1, by omega, by go_num, HA2, by obtain ⟨d2, rfl⟩ := hD.out; exact ⟨d2 + d, by simp [Nat.add_comm]⟩⟩
          case measure => simp [intOf]; omega
      · have Hr : Hid (true = g) := by
          show _ = _
          rw [← Hg.out]; symm
          rw [decide_eq_true_iff]
          exact rows_same HL.out fun j hj => hA.out j (by omega)
        go_wp2_with fail
        go_ret
        exact ⟨ret_bool Hr.out, hD.out⟩
  · have Hr : Hid (false = g) := by
      show _ = _
      rw [← hg]; symm
      rw [decide_eq_false_iff_not]
      rintro rfl
      exact hl rfl
    obtain ⟨l1, l2⟩ := len_no hl
    clear hg
    go_enter Try.func96, Try.ntmps96
    go_wp2_with fail
    go_ret
    exact ⟨ret_bool Hr.out, 0, rfl⟩
set_option maxRecDepth 100000 in
set_option maxHeartbeats 4000000 in
theorem impl_EqualTableau (B : Nat) (a b a' b' : Option Addr) (c1 c2 d1 d2 : Nat) (s t : T) (hs : TabFits s) (ht : TabFits t) (g : Bool) (hg : Ta.same s t = g) (w : World) (hBw : B ≤ w.heap.size) (h1 : TabIn B w a b s) (h2 : TabIn B w a' b' t) :
    Calls Try.prog 31 #[tabV a b c1 c2 s, tabV a' b' d1 d2 t] w fun e w' => e = .returned (.bool g) ∧ Below w.heap.size w w' := by
  rw [show tabV a b c1 c2 s = .agg #[.slice a s.rows.length c1, .slice b s.basis.length c2, .int .i64 s.cols] from rfl, show tabV a' b' d1 d2 t = .agg #[.slice a' t.rows.length d1, .slice b' t.basis.length d2, .int .i64 t.cols] from rfl]
  have hb := two_low w (.slice a s.rows.length c1) (.slice b s.basis.length c2) (.int .i64 s.cols) (.slice a' t.rows.length d1) (.slice b' t.basis.length d2) (.int .i64 t.cols) 50 50
  obtain ⟨q1, q2⟩ := two_tri w (.slice a s.rows.length c1) (.slice b s.basis.length c2) (.int .i64 s.cols) (.slice a' t.rows.length d1) (.slice b' t.basis.length d2) (.int .i64 t.cols) 50 50
  obtain ⟨nr, nw, nb, _⟩ := hs
  obtain ⟨nr', nw', nb', _⟩ := ht
  obtain ⟨x0, x1, x2, _⟩ := q1.cells
  obtain ⟨y0, y1, y2, _⟩ := q2.cells
  have Hz := Lib.hid ((h1.mono hBw).below hb)
  have Hz' := Lib.hid ((h2.mono hBw).below hb)
  have Hb := Lib.hid hb
  have Hg := Lib.hid hg
  have HW := Lib.hid nw
  have HW' := Lib.hid nw'
  obtain ⟨L, B1, C⟩ := s
  obtain ⟨L', B1', C'⟩ := t
  simp only at nr nb nr' nb' x0 x1 x2 y0 y1 y2
  clear h1 h2 hb hg nw nw' q1 q2
  by_cases e0 : C = C'
  · have t0 : (C == C') = true := by rw [e0]; simp
    have E0 := Lib.hid e0
    clear e0
    obtain ⟨eb, heb⟩ : ∃ eb, decide (B1 = B1') = eb := ⟨_, rfl⟩
    obtain ⟨er, her⟩ : ∃ er, decide (L = L') = er := ⟨_, rfl⟩
    have CB := Lib.hid (fun (wx : World) h h' => slices_EqualI w.heap.size b b' c2 d2 B1 B1' nb nb' eb heb wx h h')
    have CR := Lib.hid (fun (wx : World) h h' => slices_EqualRows w.heap.size a a' c1 d1 L L' nr nr' HW.out HW'.out er her wx h h')
    have Hg2 : Hid ((er && eb) = g) := by
      show _ = _
      rw [← Hg.out, ← heb, ← her]
      unfold Ta.same
      simp [E0.out]
    clear heb her
    go_enter Try.func31, Try.ntmps31
    go_wp2_with fail
    refine (CB.out _ Hz.out.mB Hz'.out.mB).mono ?_
    rintro e w1 ⟨rfl, d, rfl⟩
    cases eb with
    | false =>
      have Hr := Lib.hid (show false = g by rw [← Hg2.out]; simp)
      go_wp2_with fail
      go_ret
      exact ⟨ret_bool Hr.out, below_drewN Hb.out d⟩
    | true =>
      go_wp2_with fail
      refine (CR.out _ (Hz.out.mR.drewN d) (Hz'.out.mR.drewN d)).mono ?_
      rintro e w2 ⟨rfl, d2, rfl⟩
      have Hr := Lib.hid (show er = g by rw [← Hg2.out]; simp)
      go_wp2_with fail
      go_ret
      exact ⟨ret_bool Hr.out, below_drewN Hb.out (d + d2)⟩
  · have t0 : (C == C') = false := by rw [beq_eq_false_iff_ne]; exact e0
    have Hr := Lib.hid (show false = g from (same_no_cols (s := ⟨L, B1, C⟩) (t := ⟨L', B1', C'⟩) e0).symm.trans Hg.out)
    go_enter Try.func31, Try.ntmps31
    go_wp2_with fail
    go_ret
    exact ⟨ret_bool Hr.out, Hb.out⟩
end Go.Proofs.Ytafkjebfdmgdeaa
