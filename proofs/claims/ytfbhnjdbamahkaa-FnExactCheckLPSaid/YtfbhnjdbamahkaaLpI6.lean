/- impl.provesOptimal. -/
import Derived.Test.YtfbhnjdbamahkaaLpI4
import Derived.Test.YtfbhnjdbamahkaaLpI5
import Derived.Test.YtfbhnjdbamahkaaLpR4
import Derived.Test.YtfbhnjdbamahkaaLpK
namespace Go.Proofs.Ytfbhnjdbamahkaa
open Go.RowKit
open Ve (R)
open Lp (P Res)
theorem opt_impl {p : P} {X Y Z : List R} {v : R} {st pv : Int} (hvl : Lp.vldP p = true) :
    Lp.opt p ⟨st, X, Y, Z, v, pv⟩ = (solP p X p.B && (Lp.dual p Y p.C && (Ve.dotK p.C X && (Lp.idK p.B Y && (decide (Ve.dotR p.C X = Lp.idR p.B Y) && decide (Ve.dotR p.C X = v)))))) := by
  unfold Lp.opt
  rw [feas_sol, hvl]
  simp only [Bool.true_and]
  cases hk : Lp.idK p.B Y
  · simp
  · have := (Lp.id_yes hk).2.2.2
    simp [this]
theorem inf_impl {p : P} {X Y Z : List R} {v : R} {st pv : Int} :
    Lp.inf p ⟨st, X, Y, Z, v, pv⟩ = (Lp.idK p.B Y && (decide (0 < (Lp.idR p.B Y).1) && Lp.dual p Y (Lp.zerosR p.C.length))) := by
  unfold Lp.inf
  simp only
  cases hk : Lp.idK p.B Y
  · simp
  · have := (Lp.id_yes hk).2.2.2
    simp only [this, decide_true, Bool.true_and]
    exact Bool.and_comm _ _
theorem unb_impl {p : P} {X Y Z : List R} {v : R} {st pv : Int} (hvl : Lp.vldP p = true) :
    Lp.unb p ⟨st, X, Y, Z, v, pv⟩ = (solP p X p.B && (solP p Z (Lp.zerosI p.B.length) && (Ve.dotK p.C Z && decide ((Ve.dotR p.C Z).1 < 0)))) := by
  unfold Lp.unb solP
  rw [feas_sol, hvl]
  unfold solP
  simp only [Bool.true_and, Bool.and_assoc]
/-- The value of a result, written out. -/
def chkV (st : Int) (ra rb rc : Option Addr) (d1 d2 d3 : Nat) (X Y Z : List R) (nu de pv : Int) : Value := .agg #[.int .i64 st, .slice ra X.length d1, .slice rb Y.length d2, .slice rc Z.length d3, .int .i64 nu, .int .i64 de, .int .i64 pv]
set_option maxRecDepth 100000 in
set_option maxHeartbeats 4000000 in
theorem impl_provesOptimal (B : Nat) (a b c ra rb rc : Option Addr) (c1 c2 c3 d1 d2 d3 : Nat) (p : P) (st : Int) (X Y Z : List R) (nu de pv : Int) (hn : LpFits p) (hf : ResFits ⟨st, X, Y, Z, (nu, de), pv⟩) (hvl : Lp.vldP p = true) (g : Bool) (hg : Lp.opt p ⟨st, X, Y, Z, (nu, de), pv⟩ = g) (w : World) (hBw : B ≤ w.heap.size) (hz : LpIn B w a b c p) (hr : ResIn B w ra rb rc ⟨st, X, Y, Z, (nu, de), pv⟩) :
    Calls Try.prog 126 #[.agg #[.slice a p.A.length c1, .slice b p.B.length c2, .slice c p.C.length c3], .agg #[.int .i64 st, .slice ra X.length d1, .slice rb Y.length d2, .slice rc Z.length d3, .int .i64 nu, .int .i64 de, .int .i64 pv]] w fun e w' => e = .returned (.bool g) ∧ Below w.heap.size w w' := by
  obtain ⟨n1, n2, n3, _⟩ := hf
  rw [opt_impl hvl] at hg
  simp only at n1 n2 n3
  have HX := Lib.hid (ChkBox.start w a b c ra rb rc c1 c2 c3 d1 d2 d3 p ⟨st, X, Y, Z, (nu, de), pv⟩ 38 71 hBw hz hr)
  have hAB := b_len hvl
  have hC := hn.C
  have hBl := hn.B
  obtain ⟨so, hso⟩ : ∃ so, solP p X p.B = so := ⟨_, rfl⟩
  obtain ⟨du, hdu⟩ : ∃ du, Lp.dual p Y p.C = du := ⟨_, rfl⟩
  have Hso := Lib.hid (fun W (h : ChkBox w a b c ra rb rc c1 c2 c3 d1 d2 d3 p ⟨st, X, Y, Z, (nu, de), pv⟩ 38 71 W) => impl_isSolution w.heap.size a b c ra b c1 c2 c3 d1 c2 p X p.B hn n1 hAB hBl so hso W h.1.size h.2.1 h.2.2.1.mX h.2.1.mB)
  have Hdu := Lib.hid (fun W (h : ChkBox w a b c ra rb rc c1 c2 c3 d1 d2 d3 p ⟨st, X, Y, Z, (nu, de), pv⟩ 38 71 W) => impl_boundsColumns w.heap.size a b c rb c c1 c2 c3 d2 c3 p Y p.C hn hvl n2 rfl du hdu W h.1.size h.2.1 h.2.2.1.mY h.2.1.mC)
  have Hg := Lib.hid (show (so && (du && (Ve.dotK p.C X && (Lp.idK p.B Y && (decide (Ve.dotR p.C X = Lp.idR p.B Y) && decide (Ve.dotR p.C X = (nu, de))))))) = g from hso ▸ hdu ▸ hg)
  clear hz hr hg hvl hso hdu
  go_enter Try.func126, Try.ntmps126
  go_wp2_with fail
  refine (Hso.out _ HX.out).mono ?_
  rintro e w1 ⟨rfl, k1⟩
  have HX1 := Lib.hid (HX.out.up k1)
  obtain ⟨x0, x1, x2, _⟩ := HX1.out.2.2.2.1.cells
  obtain ⟨⟨r0, r1, r2, r3, r4, r5, r6⟩, _⟩ := seven HX1.out.2.2.2.2
  clear k1
  cases so with
  | false =>
    have Hr := Lib.hid (show false = g by rw [← Hg.out]; rfl)
    go_wp2_with fail
    go_ret
    exact ⟨ret_bool Hr.out, HX1.out.1⟩
  | true =>
    go_wp2_with fail
    refine (Hdu.out _ HX1.out).mono ?_
    rintro e w2 ⟨rfl, k2⟩
    have HX2 := Lib.hid (HX1.out.up k2)
    clear k2 x0 x1 x2 r0 r1 r2 r3 r4 r5 r6
    obtain ⟨x0, x1, x2, _⟩ := HX2.out.2.2.2.1.cells
    obtain ⟨⟨r0, r1, r2, r3, r4, r5, r6⟩, _⟩ := seven HX2.out.2.2.2.2
    cases du with
    | false =>
      have Hr := Lib.hid (show false = g by rw [← Hg.out]; rfl)
      go_wp2_with fail
      go_ret
      exact ⟨ret_bool Hr.out, HX2.out.1⟩
    | true =>
      go_wp2_with fail
      refine (impl_DotRat w.heap.size c ra c3 d1 p.C X hC n1 _ HX2.out.1.size HX2.out.2.1.mC HX2.out.2.2.1.mX).mono ?_
      rintro e w3 ⟨rfl, k3⟩
      have Hg2 : Hid ((Ve.dotK p.C X && (Lp.idK p.B Y && (decide (Ve.dotR p.C X = Lp.idR p.B Y) && decide (Ve.dotR p.C X = (nu, de))))) = g) := Hg.out
      generalize Ve.dotR p.C X = D at *
      generalize Ve.dotK p.C X = K at *
      have hal3 : Below w3.heap.size w3 (w3.alloc (.cells #[.int .i64 D.1, .int .i64 D.2] 34)) := (Below.refl _ _).alloc (Nat.le_refl _) _
      have HX3 := Lib.hid ((HX2.out.up k3).up hal3)
      have HD3 := Lib.hid (BoxAt.new w3 D)
      clear k3 hal3 x0 x1 x2 r0 r1 r2 r3 r4 r5 r6 HX2 HX1 HX Hg
      obtain ⟨x0, x1, x2, _⟩ := HX3.out.2.2.2.1.cells
      obtain ⟨⟨r0, r1, r2, r3, r4, r5, r6⟩, _⟩ := seven HX3.out.2.2.2.2
      go_wp2_with fail
      refine (impl_dotInts w.heap.size b rb c2 d2 p.B Y hBl n2 _ HX3.out.1.size HX3.out.2.1.mB HX3.out.2.2.1.mY).mono ?_
      rintro e w4 ⟨rfl, k4⟩
      generalize Lp.idR p.B Y = E at *
      generalize Lp.idK p.B Y = L at *
      have hal4 : Below w4.heap.size w4 (w4.alloc (.cells #[.int .i64 E.1, .int .i64 E.2] 34)) := (Below.refl _ _).alloc (Nat.le_refl _) _
      have HX4 := Lib.hid ((HX3.out.up k4).up hal4)
      obtain ⟨m0, m1, _, _⟩ := ((HD3.out.below k4).alloc (.cells #[.int .i64 E.1, .int .i64 E.2] 34)).four
      obtain ⟨q0, q1, _, _⟩ := (BoxAt.new w4 E).four
      clear k4 hal4 x0 x1 x2 r0 r1 r2 r3 r4 r5 r6 HX3 HD3
      obtain ⟨⟨r0, r1, r2, r3, r4, r5, r6⟩, _⟩ := seven HX4.out.2.2.2.2
      have heq := eq_rat
      have hneq := ne_rat
      have hgeq := eqg_rat
      cases K with
      | false =>
        have Hr := Lib.hid (show false = g by rw [← Hg2.out]; rfl)
        go_wp2_with fail
        go_ret
        exact ⟨ret_bool Hr.out, HX4.out.1⟩
      | true =>
        cases L with
        | false =>
          have Hr := Lib.hid (show false = g by rw [← Hg2.out]; rfl)
          go_wp2_with fail
          go_ret
          exact ⟨ret_bool Hr.out, HX4.out.1⟩
        | true =>
          rcases hde : (D.1 == E.1 && D.2 == E.2) with _ | _
          · have Hr := Lib.hid (show false = g by
              rw [← Hg2.out]
              have : D ≠ E := by rintro rfl; simp at hde
              simp [this])
            go_wp2_with fail
            go_ret
            exact ⟨ret_bool Hr.out, HX4.out.1⟩
          · have HDE := Lib.hid (show D = E by
              rw [Bool.and_eq_true, beq_iff_eq, beq_iff_eq] at hde
              exact Prod.ext hde.1 hde.2)
            rcases hdv : (D.1 == nu && D.2 == de) with _ | _
            · have Hr := Lib.hid (show false = g by
                rw [← Hg2.out]
                have : D ≠ (nu, de) := by rintro rfl; simp at hdv
                simp [this])
              go_wp2_with fail
              go_ret
              exact ⟨ret_bool Hr.out, HX4.out.1⟩
            · have Hr := Lib.hid (show true = g by
                rw [← Hg2.out]
                rw [Bool.and_eq_true, beq_iff_eq, beq_iff_eq] at hdv
                have : D = (nu, de) := Prod.ext hdv.1 hdv.2
                rw [← HDE.out, this]
                simp)
              go_wp2_with fail
              go_ret
              exact ⟨ret_bool Hr.out, HX4.out.1⟩
end Go.Proofs.Ytfbhnjdbamahkaa
