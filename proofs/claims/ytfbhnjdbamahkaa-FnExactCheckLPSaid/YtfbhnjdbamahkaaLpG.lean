/- spec.l5Optimal. -/
import Derived.Test.YtfbhnjdbamahkaaLpF
import Derived.Test.YtfbhnjdbamahkaaGLr
namespace Go.Proofs.Ytfbhnjdbamahkaa
open Go.RowKit
open Ve (R)
open Lp (P Res)
theorem ten_cells {W wr : World} {s q : Nat} {x y z : Value} {t t' : TypeId} {v0 v1 v2 v3 v4 v5 v6 : Value} (H : Hid (Tri W s x y z t ∧ CellsAt W q #[v0, v1, v2, v3, v4, v5, v6] t')) (hs : Since W wr) :
    (wr.cell? ⟨s, 0, none⟩ = some x ∧ wr.cell? ⟨s, 1, none⟩ = some y ∧ wr.cell? ⟨s, 2, none⟩ = some z) ∧ (wr.cell? ⟨q, 0, none⟩ = some v0 ∧ wr.cell? ⟨q, 1, none⟩ = some v1 ∧ wr.cell? ⟨q, 2, none⟩ = some v2 ∧ wr.cell? ⟨q, 3, none⟩ = some v3 ∧ wr.cell? ⟨q, 4, none⟩ = some v4 ∧ wr.cell? ⟨q, 5, none⟩ = some v5 ∧ wr.cell? ⟨q, 6, none⟩ = some v6) := by
  obtain ⟨h1, h2⟩ := H.out
  obtain ⟨a0, a1, a2, _⟩ := (h1.below hs.low).cells
  exact ⟨⟨a0, a1, a2⟩, (seven (h2.below hs.low)).1⟩
theorem two_boxes (w : World) (x y z : Value) (t t' : TypeId) (cs : Array Value) :
    Tri ((w.alloc (.cells #[x, y, z] t)).alloc (.cells cs t')) w.heap.size x y z t ∧ CellsAt ((w.alloc (.cells #[x, y, z] t)).alloc (.cells cs t')) (w.heap.size + 1) cs t' := by
  have h2 := CellsAt.new (w.alloc (.cells #[x, y, z] t)) cs t'
  rw [size1] at h2
  exact ⟨(Tri.new w x y z t).more _, h2⟩
set_option maxRecDepth 100000 in
set_option maxHeartbeats 4000000 in
theorem spec_l5Optimal (B : Nat) (a b c ra rb rc : Option Addr) (c1 c2 c3 d1 d2 d3 : Nat) (p : P) (r : Res) (hn : LpFits p) (hf : ResFits r) (hvl : Lp.vldP p = true) (g : Bool) (hg : Lp.opt p r = g) (w : World) (hBw : B ≤ w.heap.size) (hz : LpIn B w a b c p) (hr : ResIn B w ra rb rc r) :
    Calls Try.prog 92 #[.agg #[.slice a p.A.length c1, .slice b p.B.length c2, .slice c p.C.length c3], resV ra rb rc d1 d2 d3 r] w fun e w' => e = .returned (.bool g) ∧ Below w.heap.size w w' := by
  obtain ⟨n1, n2, n3, _⟩ := hf
  have hg' : (Lp.feas p r.X && (decide (r.Y.length = p.B.length) && (Lp.dual p r.Y p.C && (Ve.dotK p.C r.X && (Lp.idK p.B r.Y && (decide (Ve.dotR p.C r.X = Lp.idR p.B r.Y) && decide (Ve.dotR p.C r.X = r.value))))))) = g := hg
  obtain ⟨rx, ry, _⟩ := hr.mono hBw
  clear hg hr
  obtain ⟨st, X, Y, Z, ⟨nu, de⟩, pv⟩ := r
  simp only at n1 n2 n3 hg' rx ry
  rw [show resV ra rb rc d1 d2 d3 ⟨st, X, Y, Z, (nu, de), pv⟩ = .agg #[.int .i64 st, .slice ra X.length d1, .slice rb Y.length d2, .slice rc Z.length d3, .int .i64 nu, .int .i64 de, .int .i64 pv] from rfl]
  have hb := ((Below.refl w.heap.size w).alloc (Nat.le_refl _) (.cells #[.slice a p.A.length c1, .slice b p.B.length c2, .slice c p.C.length c3] 38)).alloc (by rw [size1]; omega) (.cells #[.int .i64 st, .slice ra X.length d1, .slice rb Y.length d2, .slice rc Z.length d3, .int .i64 nu, .int .i64 de, .int .i64 pv] 71)
  have Hbox := Lib.hid (two_boxes w (.slice a p.A.length c1) (.slice b p.B.length c2) (.slice c p.C.length c3) 38 71 #[.int .i64 st, .slice ra X.length d1, .slice rb Y.length d2, .slice rc Z.length d3, .int .i64 nu, .int .i64 de, .int .i64 pv])
  have hsz : w.heap.size ≤ ((w.alloc (.cells #[.slice a p.A.length c1, .slice b p.B.length c2, .slice c p.C.length c3] 38)).alloc (.cells #[.int .i64 st, .slice ra X.length d1, .slice rb Y.length d2, .slice rc Z.length d3, .int .i64 nu, .int .i64 de, .int .i64 pv] 71)).heap.size := by rw [size2]; omega
  have Hz := Lib.hid ((hz.mono hBw).below hb)
  have Hrx := Lib.hid (rx.below hb)
  have Hry := Lib.hid (ry.below hb)
  have Hsz := Lib.hid hsz
  have HN := Lib.hid hn
  have HV := Lib.hid hvl
  have hC := hn.C
  have hBl := hn.B
  have Hb := Lib.hid hb
  have Hg := Lib.hid hg'
  have Hst := Lib.hid (Since.refl ((w.alloc (.cells #[.slice a p.A.length c1, .slice b p.B.length c2, .slice c p.C.length c3] 38)).alloc (.cells #[.int .i64 st, .slice ra X.length d1, .slice rb Y.length d2, .slice rc Z.length d3, .int .i64 nu, .int .i64 de, .int .i64 pv] 71)))
  clear hz rx ry hb hg' hsz hn hvl
  go_enter Try.func92, Try.ntmps92
  go_wp2_with fail
  generalize hW0 : ((w.alloc (.cells #[.slice a p.A.length c1, .slice b p.B.length c2, .slice c p.C.length c3] 38)).alloc (.cells #[.int .i64 st, .slice ra X.length d1, .slice rb Y.length d2, .slice rc Z.length d3, .int .i64 nu, .int .i64 de, .int .i64 pv] 71)) = W0 at *
  obtain ⟨fe, hfe⟩ : ∃ fe, Lp.feas p X = fe := ⟨_, rfl⟩
  refine (spec_IsFeasible w.heap.size a b c ra c1 c2 c3 d1 p X HN.out n1 fe hfe _ Hsz.out Hz.out Hrx.out).mono ?_
  rintro e w1 ⟨rfl, k1⟩
  have HS1 := Lib.hid (Hst.out.trans k1)
  obtain ⟨⟨x0, x1, x2⟩, r0, r1, r2, r3, r4, r5, r6⟩ := ten_cells Hbox HS1.out
  have Hfe := Lib.hid hfe
  clear k1 hfe
  cases fe with
  | false =>
    have Hr := Lib.hid (show false = g by rw [← Hg.out, Hfe.out]; rfl)
    go_wp2_with fail
    go_ret
    exact ⟨ret_bool Hr.out, Hb.out.trans (HS1.out.low.mono Hsz.out)⟩
  | true =>
    by_cases hl : Y.length = p.B.length
    · have hq : ((Y.length : Int) != (p.B.length : Int)) = false := by rw [hl]; simp
      have HL := Lib.hid hl
      obtain ⟨du, hdu⟩ : ∃ du, Lp.dual p Y p.C = du := ⟨_, rfl⟩
      have Hdu := Lib.hid hdu
      clear hl hdu
      go_wp2_with fail
      have hlow := HS1.out.low.mono Hsz.out
      refine (spec_l5Dual w.heap.size a b c rb c c1 c2 c3 d2 c3 p Y p.C HN.out HV.out n2 (Nat.le_refl _) hC du Hdu.out _ (Nat.le_trans Hsz.out HS1.out.low.size) (Hz.out.below hlow) (Hry.out.below hlow) (Hz.out.below hlow).mC).mono ?_
      rintro e w2 ⟨rfl, k2⟩
      have HS2 := Lib.hid (HS1.out.trans k2)
      clear x0 x1 x2 r0 r1 r2 r3 r4 r5 r6 k2 hlow
      obtain ⟨⟨x0, x1, x2⟩, r0, r1, r2, r3, r4, r5, r6⟩ := ten_cells Hbox HS2.out
      cases du with
      | false =>
        have Hr := Lib.hid (show false = g by rw [← Hg.out, Hfe.out, Hdu.out]; simp)
        go_wp2_with fail
        go_ret
        exact ⟨ret_bool Hr.out, Hb.out.trans (HS2.out.low.mono Hsz.out)⟩
      | true =>
        have hlow2 := HS2.out.low.mono Hsz.out
        have hsz2 := Nat.le_trans Hsz.out HS2.out.low.size
        have Hlow2 := Lib.hid (And.intro (Hz.out.below hlow2) (And.intro (Hrx.out.below hlow2) (Hry.out.below hlow2)))
        clear hlow2
        go_wp2_with fail
        refine (spec_DotRat w.heap.size c ra c3 d1 p.C X hC n1 _ hsz2 Hlow2.out.1.mC Hlow2.out.2.1).mono ?_
        rintro e w3 ⟨rfl, k3⟩
        have Hg2 : Hid ((Ve.dotK p.C X && (Lp.idK p.B Y && (decide (Ve.dotR p.C X = Lp.idR p.B Y) && decide (Ve.dotR p.C X = (nu, de))))) = g) := by
          show _ = _
          rw [← Hg.out, Hfe.out, Hdu.out, HL.out]; simp
        generalize Ve.dotR p.C X = D at *
        generalize Ve.dotK p.C X = K at *
        have HS3 := Lib.hid ((HS2.out.trans k3).alloc (.cells #[.int .i64 D.1, .int .i64 D.2] 34))
        have HD3 := Lib.hid (BoxAt.new w3 D)
        have Hz3 := Lib.hid (Hlow2.out.1.mB.below (k3.mono hsz2))
        have Hy3 := Lib.hid (Hlow2.out.2.2.below (k3.mono hsz2))
        have hsz3 : w.heap.size ≤ w3.heap.size := Nat.le_trans hsz2 k3.size
        have hal3 : Below w3.heap.size w3 (w3.alloc (.cells #[.int .i64 D.1, .int .i64 D.2] 34)) := (Below.refl _ _).alloc (Nat.le_refl _) _
        have Hal3 := Lib.hid (hal3.mono hsz3)
        clear x0 x1 x2 r0 r1 r2 r3 r4 r5 r6 k3 hal3
        obtain ⟨⟨x0, x1, x2⟩, r0, r1, r2, r3, r4, r5, r6⟩ := ten_cells Hbox HS3.out
        go_wp2_with fail
        refine (spec_l5Dot w.heap.size b rb c2 d2 p.B Y hBl n2 _ (Nat.le_trans Hsz.out HS3.out.low.size) (Hz3.out.below Hal3.out) (Hy3.out.below Hal3.out)).mono ?_
        rintro e w4 ⟨rfl, k4⟩
        generalize Lp.idR p.B Y = E at *
        generalize Lp.idK p.B Y = L at *
        have HS4 := Lib.hid ((HS3.out.trans k4).alloc (.cells #[.int .i64 E.1, .int .i64 E.2] 34))
        have hD4 := ((HD3.out.below k4).alloc (.cells #[.int .i64 E.1, .int .i64 E.2] 34)).four
        have hE4 := (BoxAt.new w4 E).four
        obtain ⟨m0, m1, -, -⟩ := hD4
        obtain ⟨q0, q1, -, -⟩ := hE4
        clear x0 x1 x2 r0 r1 r2 r3 r4 r5 r6 k4
        obtain ⟨⟨x0, x1, x2⟩, r0, r1, r2, r3, r4, r5, r6⟩ := ten_cells Hbox HS4.out
        have heq := eq_rat
        have hneq := ne_rat
        have hgeq := eqg_rat
        cases K with
        | false =>
          have Hr := Lib.hid (show false = g by rw [← Hg2.out]; rfl)
          go_wp2_with fail
          go_ret
          exact ⟨ret_bool Hr.out, Hb.out.trans (HS4.out.low.mono Hsz.out)⟩
        | true =>
          cases L with
          | false =>
            have Hr := Lib.hid (show false = g by rw [← Hg2.out]; rfl)
            go_wp2_with fail
            go_ret
            exact ⟨ret_bool Hr.out, Hb.out.trans (HS4.out.low.mono Hsz.out)⟩
          | true =>
            rcases hde : (D.1 == E.1 && D.2 == E.2) with _ | _
            · have Hr := Lib.hid (show false = g by
                rw [← Hg2.out]
                have : D ≠ E := by rintro rfl; simp at hde
                simp [this])
              go_wp2_with fail
              go_ret
              exact ⟨ret_bool Hr.out, Hb.out.trans (HS4.out.low.mono Hsz.out)⟩
            · have HDE := Lib.hid (show D = E by
                rw [Bool.and_eq_true, beq_iff_eq, beq_iff_eq] at hde
                exact Prod.ext hde.1 hde.2)
              rcases hdv : (D.1 == nu && D.2 == de) with _ | _
              · have Hr := Lib.hid (show false = g by
                  rw [← Hg2.out]
                  have : D ≠ (nu, de) := by rintro rfl; simp at hdv
                  simp [this])
                go_wp2_with fail
                go_ret
                exact ⟨ret_bool Hr.out, Hb.out.trans (HS4.out.low.mono Hsz.out)⟩
              · have Hr := Lib.hid (show true = g by
                  rw [← Hg2.out]
                  rw [Bool.and_eq_true, beq_iff_eq, beq_iff_eq] at hdv
                  have : D = (nu, de) := Prod.ext hdv.1 hdv.2
                  rw [← HDE.out, this]
                  simp)
                go_wp2_with fail
                go_ret
                exact ⟨ret_bool Hr.out, Hb.out.trans (HS4.out.low.mono Hsz.out)⟩
    · have Hr := Lib.hid (show false = g by rw [← Hg.out]; simp [hl])
      obtain ⟨l1, l2⟩ := len_no hl
      go_wp2_with fail
      go_ret
      exact ⟨ret_bool Hr.out, Hb.out.trans (HS1.out.low.mono Hsz.out)⟩
end Go.Proofs.Ytfbhnjdbamahkaa
