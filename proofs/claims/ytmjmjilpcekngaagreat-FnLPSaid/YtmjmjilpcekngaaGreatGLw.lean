/- The parts LpS, LpL4, LpW2. -/
import Derived.Test.YtmjmjilpcekngaaGreatGLp
import Derived.Test.YtmjmjilpcekngaaGreatGLk
namespace Go.Proofs.YtmjmjilpcekngaaGreat
open Go.RowKit
open Ve (R)
open Lp (P Res)
def sameRes (r s : Res) : Bool := decide (r.status = s.status) && (eqV r.X s.X && (eqV r.Y s.Y && (eqV r.ray s.ray && (decide (r.value = s.value) && decide (r.pivots = s.pivots)))))
theorem two_cells (w : World) (cs cs' : Array Value) (t t' : TypeId) :
    CellsAt ((w.alloc (.cells cs t)).alloc (.cells cs' t')) w.heap.size cs t ∧ CellsAt ((w.alloc (.cells cs t)).alloc (.cells cs' t')) (w.heap.size + 1) cs' t' := by
  have h2 := CellsAt.new (w.alloc (.cells cs t)) cs' t'
  rw [size1] at h2
  exact ⟨(CellsAt.new w cs t).more _, h2⟩
end Go.Proofs.YtmjmjilpcekngaaGreat

namespace Go.Proofs.YtmjmjilpcekngaaGreat
open Go.RowKit
open Ve (R)
open Lp (P Res)
end Go.Proofs.YtmjmjilpcekngaaGreat

namespace Go.Proofs.YtmjmjilpcekngaaGreat
open Go.RowKit
open Ve (R)
open Lp (P Res)
set_option maxRecDepth 100000 in
set_option maxHeartbeats 4000000 in
theorem impl_EqualResult (B : Nat) (a b c a' b' c' : Option Addr) (c1 c2 c3 d1 d2 d3 : Nat) (r s : Res) (hf : ResFits r) (hf' : ResFits s) (g : Bool) (hg : sameRes r s = g) (w : World) (hBw : B ≤ w.heap.size) (hr : ResIn B w a b c r) (hs : ResIn B w a' b' c' s) :
    Calls Tryz.prog 9 #[resV a b c c1 c2 c3 r, resV a' b' c' d1 d2 d3 s] w fun e w' => e = .returned (.bool g) ∧ Below w.heap.size w w' := by
  obtain ⟨n1, n2, n3, _⟩ := hf
  obtain ⟨n1', n2', n3', _⟩ := hf'
  obtain ⟨rx, ry, rz⟩ := hr.mono hBw
  obtain ⟨sx, sy, sz⟩ := hs.mono hBw
  clear hr hs
  obtain ⟨st, X, Y, Z, ⟨nu, de⟩, pv⟩ := r
  obtain ⟨st', X', Y', Z', ⟨nu', de'⟩, pv'⟩ := s
  simp only at n1 n2 n3 n1' n2' n3' rx ry rz sx sy sz
  have hg' : (decide (st = st') && (eqV X X' && (eqV Y Y' && (eqV Z Z' && (decide ((nu, de) = (nu', de')) && decide (pv = pv')))))) = g := hg
  rw [show resV a b c c1 c2 c3 ⟨st, X, Y, Z, (nu, de), pv⟩ = .agg #[.int .i64 st, .slice a X.length c1, .slice b Y.length c2, .slice c Z.length c3, .int .i64 nu, .int .i64 de, .int .i64 pv] from rfl,
    show resV a' b' c' d1 d2 d3 ⟨st', X', Y', Z', (nu', de'), pv'⟩ = .agg #[.int .i64 st', .slice a' X'.length d1, .slice b' Y'.length d2, .slice c' Z'.length d3, .int .i64 nu', .int .i64 de', .int .i64 pv'] from rfl]
  have hb := ((Below.refl w.heap.size w).alloc (Nat.le_refl _) (.cells #[.int .i64 st, .slice a X.length c1, .slice b Y.length c2, .slice c Z.length c3, .int .i64 nu, .int .i64 de, .int .i64 pv] 32)).alloc (by rw [size1]; omega) (.cells #[.int .i64 st', .slice a' X'.length d1, .slice b' Y'.length d2, .slice c' Z'.length d3, .int .i64 nu', .int .i64 de', .int .i64 pv'] 32)
  obtain ⟨hA, hA'⟩ := two_cells w #[.int .i64 st, .slice a X.length c1, .slice b Y.length c2, .slice c Z.length c3, .int .i64 nu, .int .i64 de, .int .i64 pv] #[.int .i64 st', .slice a' X'.length d1, .slice b' Y'.length d2, .slice c' Z'.length d3, .int .i64 nu', .int .i64 de', .int .i64 pv'] 32 32
  have Rx := Lib.hid (rx.below hb)
  have Ry := Lib.hid (ry.below hb)
  have Rz := Lib.hid (rz.below hb)
  have Sx := Lib.hid (sx.below hb)
  have Sy := Lib.hid (sy.below hb)
  have Sz := Lib.hid (sz.below hb)
  have Hb := Lib.hid hb
  have Hg := Lib.hid hg'
  obtain ⟨⟨r0, r1, r2, r3, r4, r5, r6⟩, _⟩ := seven hA
  obtain ⟨⟨s0, s1, s2, s3, s4, s5, s6⟩, _⟩ := seven hA'
  have heq := eq_rat
  have hneq := ne_rat
  have hgeq := eqg_rat
  clear rx ry rz sx sy sz hb hg hg' hA hA'
  generalize hW0 : ((w.alloc (.cells #[.int .i64 st, .slice a X.length c1, .slice b Y.length c2, .slice c Z.length c3, .int .i64 nu, .int .i64 de, .int .i64 pv] 32)).alloc (.cells #[.int .i64 st', .slice a' X'.length d1, .slice b' Y'.length d2, .slice c' Z'.length d3, .int .i64 nu', .int .i64 de', .int .i64 pv'] 32)) = W0 at *
  rcases h1 : (st == st') with _ | _
  · have Hr := Lib.hid (show false = g by rw [← Hg.out]; have : st ≠ st' := by simpa using h1
                                          simp [this])
    subst hW0
    go_enter Tryz.func9, Tryz.ntmps9
    go_wp2_with fail
    go_ret
    exact ⟨ret_bool Hr.out, Hb.out⟩
  · have E1 := Lib.hid (show decide (st = st') = true by simpa using h1)
    rcases hv : (nu == nu' && de == de') with _ | _
    · have Hr := Lib.hid (show false = g by
        rw [← Hg.out]
        have : (nu, de) ≠ (nu', de') := by
          rintro h
          injection h with h1 h2
          subst h1 h2
          simp at hv
        simp only [decide_eq_false this]
        simp)
      subst hW0
      go_enter Tryz.func9, Tryz.ntmps9
      go_wp2_with fail
      go_ret
      exact ⟨ret_bool Hr.out, Hb.out⟩
    · have Ev := Lib.hid (show decide ((nu, de) = (nu', de')) = true by
        rw [Bool.and_eq_true, beq_iff_eq, beq_iff_eq] at hv
        rw [decide_eq_true_iff, hv.1, hv.2])
      rcases hp : (pv == pv') with _ | _
      · have Hr := Lib.hid (show false = g by
          rw [← Hg.out]
          have : pv ≠ pv' := by simpa using hp
          simp [this])
        subst hW0
        go_enter Tryz.func9, Tryz.ntmps9
        go_wp2_with fail
        go_ret
        exact ⟨ret_bool Hr.out, Hb.out⟩
      · have Ep := Lib.hid (show decide (pv = pv') = true by simpa using hp)
        obtain ⟨ex, hex⟩ : ∃ ex, eqV X X' = ex := ⟨_, rfl⟩
        obtain ⟨ey, hey⟩ : ∃ ey, eqV Y Y' = ey := ⟨_, rfl⟩
        obtain ⟨ez, hez⟩ : ∃ ez, eqV Z Z' = ez := ⟨_, rfl⟩
        have CX := Lib.hid (fun (wx : World) h h' => hex ▸ impl_EqualVector w.heap.size a a' c1 d1 X X' n1 n1' wx h h')
        have CY := Lib.hid (fun (wx : World) h h' => hey ▸ impl_EqualVector w.heap.size b b' c2 d2 Y Y' n2 n2' wx h h')
        have CZ := Lib.hid (fun (wx : World) h h' => hez ▸ impl_EqualVector w.heap.size c c' c3 d3 Z Z' n3 n3' wx h h')
        have Hg2 : Hid ((ex && (ey && ez)) = g) := by
          show _ = _
          rw [← Hg.out, E1.out, Ev.out, Ep.out, hex, hey, hez]; simp
        clear hex hey hez
        subst hW0
        go_enter Tryz.func9, Tryz.ntmps9
        go_wp2_with fail
        refine (CX.out _ Rx.out Sx.out).mono ?_
        rintro e w1 ⟨rfl, d, rfl⟩
        cases ex with
        | false =>
          have Hr := Lib.hid (show false = g by rw [← Hg2.out]; rfl)
          go_wp2_with fail
          go_ret
          exact ⟨ret_bool Hr.out, below_drewN Hb.out d⟩
        | true =>
          go_wp2_with fail
          refine (CY.out _ (Ry.out.drewN d) (Sy.out.drewN d)).mono ?_
          rintro e w2 ⟨rfl, d2, rfl⟩
          cases ey with
          | false =>
            have Hr := Lib.hid (show false = g by rw [← Hg2.out]; rfl)
            go_wp2_with fail
            go_ret
            exact ⟨ret_bool Hr.out, below_drewN Hb.out _⟩
          | true =>
            go_wp2_with fail
            refine (CZ.out _ (Rz.out.drewN (d + d2)) (Sz.out.drewN (d + d2))).mono ?_
            rintro e w3 ⟨rfl, d3, rfl⟩
            have Hr := Lib.hid (show ez = g by rw [← Hg2.out]; rfl)
            go_wp2_with fail
            go_ret
            exact ⟨ret_bool Hr.out, below_drewN Hb.out _⟩
end Go.Proofs.YtmjmjilpcekngaaGreat
