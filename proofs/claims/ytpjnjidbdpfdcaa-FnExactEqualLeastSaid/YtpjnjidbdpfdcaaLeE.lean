/- EqualLeast, both sides. -/
import Derived.Test.YtpjnjidbdpfdcaaLkLe
import Derived.Test.YtpjnjidbdpfdcaaGVa
import Derived.Test.YtpjnjidbdpfdcaaGRa
set_option maxRecDepth 100000
namespace Go.Proofs.Ytpjnjidbdpfdcaa
open Go.RowKit
open Ve (R)
open Le (Lst)
theorem two_boxes (w : World) (cs cs' : Array Value) (t t' : TypeId) :
    CellsAt ((w.alloc (.cells cs t)).alloc (.cells cs' t')) w.heap.size cs t ∧ CellsAt ((w.alloc (.cells cs t)).alloc (.cells cs' t')) (w.heap.size + 1) cs' t' := by
  have h2 := CellsAt.new (w.alloc (.cells cs t)) cs' t'
  rw [size1] at h2
  exact ⟨(CellsAt.new w cs t).more _, h2⟩
def sameLst (r s : Lst) : Bool := decide (r.ok = s.ok) && (decide (r.ex = s.ex) && (eqV r.point s.point && eqV r.weights s.weights))
set_option maxHeartbeats 4000000 in
theorem spec_EqualLeast {w : World} {x n d y z x' n' d' y' z' : Value} {r s : Lst} (g : Bool) (hg : sameLst r s = g) (h : LstC w x n d y z r) (h' : LstC w x' n' d' y' z' s) (hf : LstOk r) (hf' : LstOk s) :
    Calls Try.prog 15 #[.agg #[x, n, d, y, z], .agg #[x', n', d', y', z']] w fun e w' => e = .returned (.bool g) ∧ Below w.heap.size w w' := by
  obtain ⟨rfl, rfl, rfl, h1, h2⟩ := h
  obtain ⟨rfl, rfl, rfl, h1', h2'⟩ := h'
  have n1 := hf.p
  have n2 := hf.w
  have n1' := hf'.p
  have n2' := hf'.w
  obtain ⟨a, c1, rfl, rx⟩ := h1
  obtain ⟨b, c2, rfl, ry⟩ := h2
  obtain ⟨a', d1, rfl, sx⟩ := h1'
  obtain ⟨b', d2, rfl, sy⟩ := h2'
  obtain ⟨st, ⟨nu, de⟩, X, Y⟩ := r
  obtain ⟨st', ⟨nu', de'⟩, X', Y'⟩ := s
  simp only at n1 n2 n1' n2' rx ry sx sy ⊢
  have hg' : (decide (st = st') && (decide ((nu, de) = (nu', de')) && (eqV X X' && eqV Y Y'))) = g := hg
  have hb := ((Below.refl w.heap.size w).alloc (Nat.le_refl _) (.cells #[.bool st, .int .i64 nu, .int .i64 de, .slice a X.length c1, .slice b Y.length c2] 48)).alloc (by rw [size1]; omega) (.cells #[.bool st', .int .i64 nu', .int .i64 de', .slice a' X'.length d1, .slice b' Y'.length d2] 48)
  obtain ⟨hA, hA'⟩ := two_boxes w #[.bool st, .int .i64 nu, .int .i64 de, .slice a X.length c1, .slice b Y.length c2] #[.bool st', .int .i64 nu', .int .i64 de', .slice a' X'.length d1, .slice b' Y'.length d2] 48 48
  have Rx := Lib.hid (rx.below hb)
  have Ry := Lib.hid (ry.below hb)
  have Sx := Lib.hid (sx.below hb)
  have Sy := Lib.hid (sy.below hb)
  have Hb := Lib.hid hb
  have Hg := Lib.hid hg'
  obtain ⟨r0, r1, r2, r3, r4⟩ := five hA
  obtain ⟨s0, s1, s2, s3, s4⟩ := five hA'
  have heq := eq_rat
  have hneq := ne_rat
  have hgeq := eqg_rat
  clear rx ry sx sy hb hg hg' hA hA' hf hf'
  generalize hW0 : ((w.alloc (.cells #[.bool st, .int .i64 nu, .int .i64 de, .slice a X.length c1, .slice b Y.length c2] 48)).alloc (.cells #[.bool st', .int .i64 nu', .int .i64 de', .slice a' X'.length d1, .slice b' Y'.length d2] 48)) = W0 at *
  rcases h1 : (st == st') with _ | _
  · have Hr := Lib.hid (show false = g by rw [← Hg.out]; have : st ≠ st' := by simpa using h1
                                          rw [decide_eq_false this]; rfl)
    subst hW0
    go_enter Try.func15, Try.ntmps15
    go_wp2_with fail
    go_ret
    exact ⟨ret_bool Hr.out, Hb.out⟩
  · have E1 := Lib.hid (show decide (st = st') = true by rw [decide_eq_true_iff]; simpa using h1)
    rcases hv : (nu == nu' && de == de') with _ | _
    · have Hr := Lib.hid (show false = g by
        rw [← Hg.out, E1.out]
        have : (nu, de) ≠ (nu', de') := by
          rintro h
          injection h with h1 h2
          subst h1 h2
          simp at hv
        rw [decide_eq_false this]
        rfl)
      subst hW0
      go_enter Try.func15, Try.ntmps15
      go_wp2_with fail
      go_ret
      exact ⟨ret_bool Hr.out, Hb.out⟩
    · have Ev := Lib.hid (show decide ((nu, de) = (nu', de')) = true by
        rw [Bool.and_eq_true, beq_iff_eq, beq_iff_eq] at hv
        rw [decide_eq_true_iff, hv.1, hv.2])
      obtain ⟨ex, hex⟩ : ∃ ex, eqV X X' = ex := ⟨_, rfl⟩
      obtain ⟨ey, hey⟩ : ∃ ey, eqV Y Y' = ey := ⟨_, rfl⟩
      have CX := Lib.hid (fun (wx : World) h h' => hex ▸ spec_EqualVector w.heap.size a a' c1 d1 X X' n1 n1' wx h h')
      have CY := Lib.hid (fun (wx : World) h h' => hey ▸ spec_EqualVector w.heap.size b b' c2 d2 Y Y' n2 n2' wx h h')
      have Hg2 : Hid ((ex && ey) = g) := by
        show _ = _
        rw [← Hg.out, E1.out, Ev.out, hex, hey]; rfl
      clear hex hey
      subst hW0
      go_enter Try.func15, Try.ntmps15
      go_wp2_with fail
      refine (CX.out _ Rx.out Sx.out).mono ?_
      rintro e w1 ⟨rfl, d, rfl⟩
      cases ex with
      | false =>
        have Hr := Lib.hid (show false = g by rw [← Hg2.out]; rfl)
        go_wp2_with fail
        go_ret
        exact ⟨ret_bool Hr.out, below_drewN Hb.out d⟩
      | true =>
        go_wp2_with fail
        refine (CY.out _ (Ry.out.drewN d) (Sy.out.drewN d)).mono ?_
        rintro e w2 ⟨rfl, d2, rfl⟩
        have Hr := Lib.hid (show ey = g by rw [← Hg2.out]; rfl)
        go_wp2_with fail
        go_ret
        exact ⟨ret_bool Hr.out, below_drewN Hb.out _⟩
set_option maxHeartbeats 4000000 in
theorem impl_EqualLeast {w : World} {x n d y z x' n' d' y' z' : Value} {r s : Lst} (g : Bool) (hg : sameLst r s = g) (h : LstC w x n d y z r) (h' : LstC w x' n' d' y' z' s) (hf : LstOk r) (hf' : LstOk s) :
    Calls Try.prog 17 #[.agg #[x, n, d, y, z], .agg #[x', n', d', y', z']] w fun e w' => e = .returned (.bool g) ∧ Below w.heap.size w w' := by
  obtain ⟨rfl, rfl, rfl, h1, h2⟩ := h
  obtain ⟨rfl, rfl, rfl, h1', h2'⟩ := h'
  have n1 := hf.p
  have n2 := hf.w
  have n1' := hf'.p
  have n2' := hf'.w
  obtain ⟨a, c1, rfl, rx⟩ := h1
  obtain ⟨b, c2, rfl, ry⟩ := h2
  obtain ⟨a', d1, rfl, sx⟩ := h1'
  obtain ⟨b', d2, rfl, sy⟩ := h2'
  obtain ⟨st, ⟨nu, de⟩, X, Y⟩ := r
  obtain ⟨st', ⟨nu', de'⟩, X', Y'⟩ := s
  simp only at n1 n2 n1' n2' rx ry sx sy ⊢
  have hg' : (decide (st = st') && (decide ((nu, de) = (nu', de')) && (eqV X X' && eqV Y Y'))) = g := hg
  have hb := ((Below.refl w.heap.size w).alloc (Nat.le_refl _) (.cells #[.bool st, .int .i64 nu, .int .i64 de, .slice a X.length c1, .slice b Y.length c2] 48)).alloc (by rw [size1]; omega) (.cells #[.bool st', .int .i64 nu', .int .i64 de', .slice a' X'.length d1, .slice b' Y'.length d2] 48)
  obtain ⟨hA, hA'⟩ := two_boxes w #[.bool st, .int .i64 nu, .int .i64 de, .slice a X.length c1, .slice b Y.length c2] #[.bool st', .int .i64 nu', .int .i64 de', .slice a' X'.length d1, .slice b' Y'.length d2] 48 48
  have Rx := Lib.hid (rx.below hb)
  have Ry := Lib.hid (ry.below hb)
  have Sx := Lib.hid (sx.below hb)
  have Sy := Lib.hid (sy.below hb)
  have Hb := Lib.hid hb
  have Hg := Lib.hid hg'
  obtain ⟨r0, r1, r2, r3, r4⟩ := five hA
  obtain ⟨s0, s1, s2, s3, s4⟩ := five hA'
  have heq := eq_rat
  have hneq := ne_rat
  have hgeq := eqg_rat
  clear rx ry sx sy hb hg hg' hA hA' hf hf'
  generalize hW0 : ((w.alloc (.cells #[.bool st, .int .i64 nu, .int .i64 de, .slice a X.length c1, .slice b Y.length c2] 48)).alloc (.cells #[.bool st', .int .i64 nu', .int .i64 de', .slice a' X'.length d1, .slice b' Y'.length d2] 48)) = W0 at *
  rcases h1 : (st == st') with _ | _
  · have Hr := Lib.hid (show false = g by rw [← Hg.out]; have : st ≠ st' := by simpa using h1
                                          rw [decide_eq_false this]; rfl)
    subst hW0
    go_enter Try.func17, Try.ntmps17
    go_wp2_with fail
    go_ret
    exact ⟨ret_bool Hr.out, Hb.out⟩
  · have E1 := Lib.hid (show decide (st = st') = true by rw [decide_eq_true_iff]; simpa using h1)
    rcases hv : (nu == nu' && de == de') with _ | _
    · have Hr := Lib.hid (show false = g by
        rw [← Hg.out, E1.out]
        have : (nu, de) ≠ (nu', de') := by
          rintro h
          injection h with h1 h2
          subst h1 h2
          simp at hv
        rw [decide_eq_false this]
        rfl)
      subst hW0
      go_enter Try.func17, Try.ntmps17
      go_wp2_with fail
      go_ret
      exact ⟨ret_bool Hr.out, Hb.out⟩
    · have Ev := Lib.hid (show decide ((nu, de) = (nu', de')) = true by
        rw [Bool.and_eq_true, beq_iff_eq, beq_iff_eq] at hv
        rw [decide_eq_true_iff, hv.1, hv.2])
      obtain ⟨ex, hex⟩ : ∃ ex, eqV X X' = ex := ⟨_, rfl⟩
      obtain ⟨ey, hey⟩ : ∃ ey, eqV Y Y' = ey := ⟨_, rfl⟩
      have CX := Lib.hid (fun (wx : World) h h' => hex ▸ impl_EqualVector w.heap.size a a' c1 d1 X X' n1 n1' wx h h')
      have CY := Lib.hid (fun (wx : World) h h' => hey ▸ impl_EqualVector w.heap.size b b' c2 d2 Y Y' n2 n2' wx h h')
      have Hg2 : Hid ((ex && ey) = g) := by
        show _ = _
        rw [← Hg.out, E1.out, Ev.out, hex, hey]; rfl
      clear hex hey
      subst hW0
      go_enter Try.func17, Try.ntmps17
      go_wp2_with fail
      refine (CX.out _ Rx.out Sx.out).mono ?_
      rintro e w1 ⟨rfl, d, rfl⟩
      cases ex with
      | false =>
        have Hr := Lib.hid (show false = g by rw [← Hg2.out]; rfl)
        go_wp2_with fail
        go_ret
        exact ⟨ret_bool Hr.out, below_drewN Hb.out d⟩
      | true =>
        go_wp2_with fail
        refine (CY.out _ (Ry.out.drewN d) (Sy.out.drewN d)).mono ?_
        rintro e w2 ⟨rfl, d2, rfl⟩
        have Hr := Lib.hid (show ey = g by rw [← Hg2.out]; rfl)
        go_wp2_with fail
        go_ret
        exact ⟨ret_bool Hr.out, below_drewN Hb.out _⟩
end Go.Proofs.Ytpjnjidbdpfdcaa
