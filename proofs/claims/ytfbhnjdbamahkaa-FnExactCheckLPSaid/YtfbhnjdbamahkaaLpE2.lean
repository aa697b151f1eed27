/- spec.IsFeasible. -/
import Derived.Test.YtfbhnjdbamahkaaLpE
namespace Go.Proofs.Ytfbhnjdbamahkaa
open Go.RowKit
open Ve (R)
open Lp (P)
theorem b_len {p : P} (h : Lp.vldP p = true) : p.A.length ≤ p.B.length := by have := (Lp.vld_parts h).2.2.2.1; omega
set_option maxRecDepth 100000 in
set_option maxHeartbeats 2000000 in
theorem spec_IsFeasible (B : Nat) (a b c va : Option Addr) (c1 c2 c3 vc : Nat) (p : P) (v : List R) (hn : LpFits p) (hv : v.length ≤ 1048576) (g : Bool) (hg : Lp.feas p v = g) (w : World) (hBw : B ≤ w.heap.size) (hz : LpIn B w a b c p) (hv1 : RatsIn B w va v) :
    Calls Try.prog 36 #[.agg #[.slice a p.A.length c1, .slice b p.B.length c2, .slice c p.C.length c3], .slice va v.length vc] w fun e w' => e = .returned (.bool g) ∧ Below w.heap.size w w' := by
  have hb := (Below.refl w.heap.size w).alloc (Nat.le_refl _) (.cells #[.slice a p.A.length c1, .slice b p.B.length c2, .slice c p.C.length c3] 38)
  have Hx := Lib.hid (Tri.new w (.slice a p.A.length c1) (.slice b p.B.length c2) (.slice c p.C.length c3) 38)
  have Hz := Lib.hid ((hz.mono hBw).below hb)
  have Hv := Lib.hid ((hv1.mono hBw).below hb)
  have HN := Lib.hid hn
  have Hb := Lib.hid hb
  have Hg := Lib.hid hg
  have hC := hn.C
  have hBl := hn.B
  clear hz hv1 hb hg hn
  go_enter Try.func36, Try.ntmps36
  go_wp2_with fail
  refine (spec_IsValidLP w.heap.size a b c c1 c2 c3 p HN.out _ Hb.out.size Hz.out).mono ?_
  rintro e w1 ⟨rfl, k1⟩
  have hx1 := Hx.out.below k1
  obtain ⟨x0, x1, x2, _⟩ := hx1.cells
  have Hx1 := Lib.hid hx1
  have Hb1 := Lib.hid (Hb.out.trans (k1.mono Hb.out.size))
  have Hz1 := Lib.hid (Hz.out.below (k1.mono Hb.out.size))
  have Hv1 := Lib.hid (Hv.out.below (k1.mono Hb.out.size))
  clear k1 hx1
  rcases hvl : Lp.vldP p with _ | _
  · have Hr := Lib.hid (show false = g by rw [← Hg.out]; unfold Lp.feas; rw [hvl]; rfl)
    clear hvl
    go_wp2_with fail
    go_ret
    exact ⟨ret_bool Hr.out, Hb1.out⟩
  · have HL := Lib.hid (b_len hvl)
    have HV := Lib.hid hvl
    clear hvl
    by_cases hl : v.length = p.C.length
    · have hq : ((v.length : Int) == (p.C.length : Int)) = true := by rw [hl]; simp
      rcases hnn : Lp.nonneg v with _ | _
      · have Hr := Lib.hid (show false = g by rw [← Hg.out]; unfold Lp.feas; rw [hnn]; simp)
        have Hnn := Lib.hid hnn
        clear hnn hl
        go_wp2_with fail
        refine (spec_l5NotNegative w.heap.size va vc v hv false Hnn.out _ Hb1.out.size Hv1.out).mono ?_
        rintro e w2 ⟨rfl, k2⟩
        have Hb2 := Lib.hid (Hb1.out.trans (k2.mono Hb1.out.size))
        clear k2
        go_wp2_with fail
        go_ret
        exact ⟨ret_bool Hr.out, Hb2.out⟩
      · have Hr := Lib.hid (show Lp.gives p v p.B = g by rw [← Hg.out]; unfold Lp.feas; rw [HV.out, hnn, hl]; simp)
        have Hnn := Lib.hid hnn
        clear hnn hl
        go_wp2_with fail
        refine (spec_l5NotNegative w.heap.size va vc v hv true Hnn.out _ Hb1.out.size Hv1.out).mono ?_
        rintro e w2 ⟨rfl, k2⟩
        have hx2 := Hx1.out.below k2
        clear x0 x1 x2
        obtain ⟨x0, x1, x2, _⟩ := hx2.cells
        have Hb2 := Lib.hid (Hb1.out.trans (k2.mono Hb1.out.size))
        have Hz2 := Lib.hid (Hz1.out.below (k2.mono Hb1.out.size))
        have Hv2 := Lib.hid (Hv1.out.below (k2.mono Hb1.out.size))
        clear k2 hx2
        go_wp2_with fail
        refine (spec_l5Gives w.heap.size a b c va b c1 c2 c3 vc c2 p v p.B HN.out hv HL.out hBl g Hr.out _ Hb2.out.size Hz2.out Hv2.out Hz2.out.mB).mono ?_
        rintro e w3 ⟨rfl, k3⟩
        have Hb3 := Lib.hid (Hb2.out.trans (k3.mono Hb2.out.size))
        clear k3
        go_wp2_with fail
        go_ret
        exact ⟨rfl, Hb3.out⟩
    · have Hr := Lib.hid (show false = g by rw [← Hg.out]; unfold Lp.feas; simp [hl])
      obtain ⟨l1, l2⟩ := len_no hl
      go_wp2_with fail
      go_ret
      exact ⟨ret_bool Hr.out, Hb1.out⟩
end Go.Proofs.Ytfbhnjdbamahkaa
