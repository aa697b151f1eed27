/- The parts LpI5, LpI6, LpI7, LpI8, LpI9, LpI10. -/
import Derived.Test.YtgnianjomjjfgaaGLp
import Derived.Test.YtgnianjomjjfgaaGLi
import Derived.Test.YtgnianjomjjfgaaLpR4
import Derived.Maps.Own
import Derived.Maps.OwnOps
import Derived.WideLaws
import Derived.Laws.EntriesVeiled
import Derived.Test.YtgnianjomjjfgaaGLq
/- impl.boundsColumns. -/
namespace Go.Proofs.Ytgnianjomjjfgaa
open List (setIfInBounds_toArray set_cons_zero set_cons_succ)
open Go.RowKit
open Ve (R)
open Lp (P)
theorem two_comm (a b c d : Int) : Ra.two a b c d = Ra.two c d a b := by unfold Ra.two; exact Bool.and_comm _ _
theorem cmp_turn (a b c d : Int) : decide (Ra.cmp a b c d > 0) = !Lp.notLess (c, d) (a, b) := by
 have e : (Ra.cmp a b c d > 0) ↔ Ra.cmp c d a b < 0 := by
  unfold Ra.cmp
  rw [two_comm c d a b]
  cases Ra.two a b c d
  ·
   simp
  ·
   simp only [if_true]
   by_cases h1 : a * d < c * b
   ·
    have h2 : ¬ c * b < a * d := by omega
    simp [h1, h2]
   ·
    by_cases h2 : c * b < a * d
    ·
     simp [h1, h2]
    ·
     simp [h1, h2]
 show decide (Ra.cmp a b c d > 0) = !decide (¬ Ra.cmp c d a b < 0)
 rw [decide_not, Bool.not_not]
 exact decide_eq_decide.2 e
theorem impl_compare (x y : R) (w : World) : Calls Try.prog 21 #[.agg #[.int .i64 x.1, .int .i64 x.2], .agg #[.int .i64 y.1, .int .i64 y.2]] w fun e w' => e = .returned (.int .i64 (Ra.cmp x.1 x.2 y.1 y.2)) ∧ Below w.heap.size w w' := impl_CompareRat x.1 x.2 y.1 y.2 w
set_option maxRecDepth 100000 in
set_option maxHeartbeats 4000000 in
theorem impl_boundsColumns (B : Nat) (a b c ya ca : Option Addr) (c1 c2 c3 yc cc : Nat) (p : P) (y cs : List R) (hn : LpFits p) (hvl : Lp.vldP p = true) (hy : y.length ≤ 1048576) (hcl : cs.length = p.C.length) (g : Bool) (hg : Lp.dual p y cs = g) (w : World) (hBw : B ≤ w.heap.size) (hz : LpIn B w a b c p) (hy1 : RatsIn B w ya y) (hc1 : RatsIn B w ca cs) :
  Calls Try.prog 82 #[.agg #[.slice a p.A.length c1, .slice b p.B.length c2, .slice c p.C.length c3], .slice ya y.length yc, .slice ca cs.length cc] w fun e w' => e = .returned (.bool g) ∧ Below w.heap.size w w' := by
 have hb := (Below.refl w.heap.size w).alloc (Nat.le_refl _) (.cells #[.slice a p.A.length c1, .slice b p.B.length c2, .slice c p.C.length c3] 28)
 have hsz : w.heap.size ≤ (w.alloc (.cells #[.slice a p.A.length c1, .slice b p.B.length c2, .slice c p.C.length c3] 28)).heap.size := by rw [size1]; omega
 have Hx := Lib.hid (Tri.new w (.slice a p.A.length c1) (.slice b p.B.length c2) (.slice c p.C.length c3) 28)
 have Hz := Lib.hid ((hz.mono hBw).below hb)
 have Hy := Lib.hid ((hy1.mono hBw).below hb)
 have Hc := Lib.hid ((hc1.mono hBw).below hb)
 have Hsz := Lib.hid hsz
 have HN := Lib.hid hn
 have HCL := Lib.hid hcl
 have hA := hn.A
 have hC : cs.length ≤ 1048576 := by rw [hcl]; exact hn.C
 have Hrow := Lib.hid (fun j (hj : j < cs.length) k (hk : k < p.A.length) => (show j < (rw_ p.A k).length by have := (Lp.rows_at (Lp.vld_parts hvl).1 hk).1; rw [show Lp.row p k = rw_ p.A k from rfl] at this; omega))
 have Hb := Lib.hid hb
 have Hg := Lib.hid hg
 have Hst := Lib.hid (Since.refl (w.alloc (.cells #[.slice a p.A.length c1, .slice b p.B.length c2, .slice c p.C.length c3] 28)))
 clear hz hy1 hc1 hb hg hsz hn hvl hcl
 go_enter Try.func82, Try.ntmps82
 go_wp2_with fail
 generalize hW0 : w.alloc (.cells #[.slice a p.A.length c1, .slice b p.B.length c2, .slice c p.C.length c3] 28) = W0 at *
 go_loopw [13] (fun i wr => ∃ k : Nat, k ≤ cs.length ∧ i = .int .i64 k ∧ Hid (∀ j, j < k → duOk p y cs j = true) ∧ Hid (Since W0 wr)) (fun i _ => cs.length - (intOf i).toNat)
 case atStart => exact ⟨0, Nat.zero_le _, rfl, fun j hj => absurd hj (by omega), Hst.out⟩
 case round =>
  obtain ⟨k, hk, rfl, hOk, hS⟩ := hrel
  have hlow := hS.out.low.mono Hsz.out
  by_cases hlt : k < cs.length
  ·
   obtain ⟨b2, o2, rfl, hb2, q0, q1⟩ := (Hc.out.below hlow).at k hlt
   have Hbad := Lib.hid (fun (h : duOk p y cs k = false) => (show false = g from (du_bad (by rw [← HCL.out]; exact hlt) h).symm.trans Hg.out))
   have Hgood := Lib.hid (fun (h : duOk p y cs k = true) => (fun j (hj : j < k + 1) => (show duOk p y cs j = true from by
     by_cases e : j = k
     ·
      subst e; exact h
     ·
      exact hOk.out j (by omega))))
   have Hdef := Lib.hid (show duOk p y cs k = (Lp.idK (Lp.col p k) y && Lp.notLess (Ve.at_ cs k) (Lp.idR (Lp.col p k) y)) from rfl)
   have hcll : (Lp.col p k).length ≤ 1048576 := by rw [Lp.col_len]; exact hA
   have Hcol := Lib.hid (Hrow.out k hlt)
   generalize Ve.at_ cs k = z at *
   have hSz := hS.out.alloc (.cells #[.int .i64 z.1, .int .i64 z.2] 30)
   have HSz := Lib.hid hSz
   obtain ⟨x0, x1, x2, _⟩ := (Hx.out.below hSz.low).cells
   have Hbz := Lib.hid (BoxAt.new wr z)
   have hszr : w.heap.size ≤ (wr.alloc (.cells #[.int .i64 z.1, .int .i64 z.2] 30)).heap.size := Nat.le_trans Hsz.out hSz.low.size
   have hlow2 := hSz.low.mono Hsz.out
   have Hzr := Lib.hid (Hz.out.below hlow2)
   have Hyr := Lib.hid (Hy.out.below hlow2)
   clear hlow hlow2 hSz
   go_wp2_with fail
   refine (impl_columnOf w.heap.size a b c c1 c2 c3 p HN.out k Hcol.out _ hszr Hzr.out).mono ?_
   rintro e w1 ⟨u, rfl, ho, k1⟩
   obtain ⟨ua, uc, rfl, hr, hab, _⟩ := own_reads ho
   have HU := Lib.hid (NumsIn.of_ints (B := w1.heap.size) hr fun q hq => (hab q hq).2)
   have hsz1 : w.heap.size ≤ w1.heap.size := Nat.le_trans hszr k1.size
   have Hy1 := Lib.hid ((Hyr.out.below (k1.mono hszr)).mono hsz1)
   have HS1 := Lib.hid (HSz.out.trans k1)
   have Hbz1 := Lib.hid (Hbz.out.below k1)
   clear ho hr hab k1 q0 q1 x0 x1 x2
   go_wp2_with fail
   refine (impl_dotInts w1.heap.size ua ya uc yc (Lp.col p k) y hcll hy _ (Nat.le_refl _) HU.out Hy1.out).mono ?_
   rintro e w2 ⟨rfl, k2⟩
   generalize duOk p y cs k = ok at *
   generalize Lp.idR (Lp.col p k) y = D at *
   generalize Lp.idK (Lp.col p k) y = K at *
   have hS2 := (HS1.out.trans k2).alloc (.cells #[.int .i64 D.1, .int .i64 D.2] 30)
   have HS2 := Lib.hid hS2
   obtain ⟨z0, z1, _, _⟩ := ((Hbz1.out.below k2).alloc (.cells #[.int .i64 D.1, .int .i64 D.2] 30)).four
   obtain ⟨m0, m1, _, _⟩ := (BoxAt.new w2 D).four
   clear Hzr Hyr HU Hy1 hS2 k2
   rcases K with _ | _
   ·
    have Hr := Lib.hid (Hbad.out (by rw [Hdef.out]; rfl))
    clear Hbad Hgood Hdef
    go_wp2_with fail
    go_ret
    exact ⟨ret_bool Hr.out, Hb.out.trans (HS2.out.low.mono Hsz.out)⟩
   ·
    have Hcmp := Lib.hid (fun w => impl_compare D z w)
    rcases hv : Lp.notLess z D with _ | _
    ·
     have Hr := Lib.hid (Hbad.out (by rw [Hdef.out, hv]; rfl))
     have hdec : decide (Ra.cmp D.1 D.2 z.1 z.2 > 0) = true := by rw [cmp_turn, show ((z.1, z.2) : R) = z from rfl, show ((D.1, D.2) : R) = D from rfl, hv]; rfl
     generalize Ra.cmp D.1 D.2 z.1 z.2 = s at *
     clear Hbad Hgood Hdef hv
     go_wp2_with fail
     refine (Hcmp.out _).mono ?_
     rintro e w3 ⟨rfl, k3⟩
     have Hend := Lib.hid (HS2.out.trans k3)
     clear k3 z0 z1 m0 m1
     go_wp2_with fail
     go_ret
     exact ⟨ret_bool Hr.out, Hb.out.trans (Hend.out.low.mono Hsz.out)⟩
    ·
     have HOk2 := Lib.hid (Hgood.out (by rw [Hdef.out, hv]; rfl))
     have hdec : decide (Ra.cmp D.1 D.2 z.1 z.2 > 0) = false := by rw [cmp_turn, show ((z.1, z.2) : R) = z from rfl, show ((D.1, D.2) : R) = D from rfl, hv]; rfl
     generalize Ra.cmp D.1 D.2 z.1 z.2 = s at *
     clear Hbad Hgood Hdef hv
     go_wp2_with fail
     refine (Hcmp.out _).mono ?_
     rintro e w3 ⟨rfl, k3⟩
     have Hend := Lib.hid (HS2.out.trans k3)
     clear k3 z0 z1 m0 m1
     go_wp2_with fail
     go_roundw
     case rel => exact ⟨k + 1, by omega, by go_num, HOk2, Hend⟩
     case measure => simp [intOf]; omega
  ·
   have Hr := Lib.hid (show true = g by rw [← Hg.out]; exact (du_good fun j hj => hOk.out j (by have := HCL.out; omega)).symm)
   go_wp2_with fail
   go_ret
   exact ⟨ret_bool Hr.out, Hb.out.trans (hS.out.low.mono Hsz.out)⟩
end Go.Proofs.Ytgnianjomjjfgaa

/- impl.provesOptimal. -/
namespace Go.Proofs.Ytgnianjomjjfgaa
open List (setIfInBounds_toArray set_cons_zero set_cons_succ)
open Go.RowKit
open Ve (R)
open Lp (P Res)
theorem opt_impl {p : P} {X Y Z : List R} {v : R} {st pv : Int} (hvl : Lp.vldP p = true) :
  Lp.opt p ⟨st, X, Y, Z, v, pv⟩ = (solP p X p.B && (Lp.dual p Y p.C && (Ve.dotK p.C X && (Lp.idK p.B Y && (decide (Ve.dotR p.C X = Lp.idR p.B Y) && decide (Ve.dotR p.C X = v)))))) := by
 unfold Lp.opt
 rw [feas_sol, hvl]
 simp only [Bool.true_and]
 cases hk : Lp.idK p.B Y
 ·
  simp
 ·
  have := (Lp.id_yes hk).2.2.2
  simp [this]
theorem inf_impl {p : P} {X Y Z : List R} {v : R} {st pv : Int} :
  Lp.inf p ⟨st, X, Y, Z, v, pv⟩ = (Lp.idK p.B Y && (decide (0 < (Lp.idR p.B Y).1) && Lp.dual p Y (Lp.zerosR p.C.length))) := by
 unfold Lp.inf
 simp only
 cases hk : Lp.idK p.B Y
 ·
  simp
 ·
  have := (Lp.id_yes hk).2.2.2
  simp only [this, decide_true, Bool.true_and]
  exact Bool.and_comm _ _
theorem unb_impl {p : P} {X Y Z : List R} {v : R} {st pv : Int} (hvl : Lp.vldP p = true) :
  Lp.unb p ⟨st, X, Y, Z, v, pv⟩ = (solP p X p.B && (solP p Z (Lp.zerosI p.B.length) && (Ve.dotK p.C Z && decide ((Ve.dotR p.C Z).1 < 0)))) := by
 unfold Lp.unb solP
 rw [feas_sol, hvl]
 unfold solP
 simp only [Bool.true_and, Bool.and_assoc]
def chkV (st : Int) (ra rb rc : Option Addr) (d1 d2 d3 : Nat) (X Y Z : List R) (nu de pv : Int) : Value := .agg #[.int .i64 st, .slice ra X.length d1, .slice rb Y.length d2, .slice rc Z.length d3, .int .i64 nu, .int .i64 de, .int .i64 pv]
set_option maxRecDepth 100000 in
set_option maxHeartbeats 4000000 in
theorem impl_provesOptimal (B : Nat) (a b c ra rb rc : Option Addr) (c1 c2 c3 d1 d2 d3 : Nat) (p : P) (st : Int) (X Y Z : List R) (nu de pv : Int) (hn : LpFits p) (hf : ResFits ⟨st, X, Y, Z, (nu, de), pv⟩) (hvl : Lp.vldP p = true) (g : Bool) (hg : Lp.opt p ⟨st, X, Y, Z, (nu, de), pv⟩ = g) (w : World) (hBw : B ≤ w.heap.size) (hz : LpIn B w a b c p) (hr : ResIn B w ra rb rc ⟨st, X, Y, Z, (nu, de), pv⟩) :
  Calls Try.prog 54 #[.agg #[.slice a p.A.length c1, .slice b p.B.length c2, .slice c p.C.length c3], .agg #[.int .i64 st, .slice ra X.length d1, .slice rb Y.length d2, .slice rc Z.length d3, .int .i64 nu, .int .i64 de, .int .i64 pv]] w fun e w' => e = .returned (.bool g) ∧ Below w.heap.size w w' := by
 obtain ⟨n1, n2, n3, _⟩ := hf
 rw [opt_impl hvl] at hg
 simp only at n1 n2 n3
 have HX := Lib.hid (ChkBox.start w a b c ra rb rc c1 c2 c3 d1 d2 d3 p ⟨st, X, Y, Z, (nu, de), pv⟩ 28 32 hBw hz hr)
 have hAB := b_len hvl
 have hC := hn.C
 have hBl := hn.B
 obtain ⟨so, hso⟩ : ∃ so, solP p X p.B = so := ⟨_, rfl⟩
 obtain ⟨du, hdu⟩ : ∃ du, Lp.dual p Y p.C = du := ⟨_, rfl⟩
 have Hso := Lib.hid (fun W (h : ChkBox w a b c ra rb rc c1 c2 c3 d1 d2 d3 p ⟨st, X, Y, Z, (nu, de), pv⟩ 28 32 W) => impl_isSolution w.heap.size a b c ra b c1 c2 c3 d1 c2 p X p.B hn n1 hAB hBl so hso W h.1.size h.2.1 h.2.2.1.mX h.2.1.mB)
 have Hdu := Lib.hid (fun W (h : ChkBox w a b c ra rb rc c1 c2 c3 d1 d2 d3 p ⟨st, X, Y, Z, (nu, de), pv⟩ 28 32 W) => impl_boundsColumns w.heap.size a b c rb c c1 c2 c3 d2 c3 p Y p.C hn hvl n2 rfl du hdu W h.1.size h.2.1 h.2.2.1.mY h.2.1.mC)
 have Hg := Lib.hid (show (so && (du && (Ve.dotK p.C X && (Lp.idK p.B Y && (decide (Ve.dotR p.C X = Lp.idR p.B Y) && decide (Ve.dotR p.C X = (nu, de))))))) = g from hso ▸ hdu ▸ hg)
 clear hz hr hg hvl hso hdu
 go_enter Try.func54, Try.ntmps54
 go_wp2_with fail
 refine (Hso.out _ HX.out).mono ?_
 rintro e w1 ⟨rfl, k1⟩
 have HX1 := Lib.hid (HX.out.up k1)
 obtain ⟨x0, x1, x2, _⟩ := HX1.out.2.2.2.1.cells
 obtain ⟨⟨r0, r1, r2, r3, r4, r5, r6⟩, _⟩ := seven HX1.out.2.2.2.2
 clear k1
 cases so with
 | false =>
  have Hr := Lib.hid (show false = g by rw [← Hg.out]; rfl)
  go_wp2_with fail
  go_ret
  exact ⟨ret_bool Hr.out, HX1.out.1⟩
 | true =>
  go_wp2_with fail
  refine (Hdu.out _ HX1.out).mono ?_
  rintro e w2 ⟨rfl, k2⟩
  have HX2 := Lib.hid (HX1.out.up k2)
  clear k2 x0 x1 x2 r0 r1 r2 r3 r4 r5 r6
  obtain ⟨x0, x1, x2, _⟩ := HX2.out.2.2.2.1.cells
  obtain ⟨⟨r0, r1, r2, r3, r4, r5, r6⟩, _⟩ := seven HX2.out.2.2.2.2
  cases du with
  | false =>
   have Hr := Lib.hid (show false = g by rw [← Hg.out]; rfl)
   go_wp2_with fail
   go_ret
   exact ⟨ret_bool Hr.out, HX2.out.1⟩
  | true =>
   go_wp2_with fail
   refine (impl_DotRat w.heap.size c ra c3 d1 p.C X hC n1 _ HX2.out.1.size HX2.out.2.1.mC HX2.out.2.2.1.mX).mono ?_
   rintro e w3 ⟨rfl, k3⟩
   have Hg2 : Hid ((Ve.dotK p.C X && (Lp.idK p.B Y && (decide (Ve.dotR p.C X = Lp.idR p.B Y) && decide (Ve.dotR p.C X = (nu, de))))) = g) := Hg.out
   generalize Ve.dotR p.C X = D at *
   generalize Ve.dotK p.C X = K at *
   have hal3 : Below w3.heap.size w3 (w3.alloc (.cells #[.int .i64 D.1, .int .i64 D.2] 30)) := (Below.refl _ _).alloc (Nat.le_refl _) _
   have HX3 := Lib.hid ((HX2.out.up k3).up hal3)
   have HD3 := Lib.hid (BoxAt.new w3 D)
   clear k3 hal3 x0 x1 x2 r0 r1 r2 r3 r4 r5 r6 HX2 HX1 HX Hg
   obtain ⟨x0, x1, x2, _⟩ := HX3.out.2.2.2.1.cells
   obtain ⟨⟨r0, r1, r2, r3, r4, r5, r6⟩, _⟩ := seven HX3.out.2.2.2.2
   go_wp2_with fail
   refine (impl_dotInts w.heap.size b rb c2 d2 p.B Y hBl n2 _ HX3.out.1.size HX3.out.2.1.mB HX3.out.2.2.1.mY).mono ?_
   rintro e w4 ⟨rfl, k4⟩
   generalize Lp.idR p.B Y = E at *
   generalize Lp.idK p.B Y = L at *
   have hal4 : Below w4.heap.size w4 (w4.alloc (.cells #[.int .i64 E.1, .int .i64 E.2] 30)) := (Below.refl _ _).alloc (Nat.le_refl _) _
   have HX4 := Lib.hid ((HX3.out.up k4).up hal4)
   obtain ⟨m0, m1, _, _⟩ := ((HD3.out.below k4).alloc (.cells #[.int .i64 E.1, .int .i64 E.2] 30)).four
   obtain ⟨q0, q1, _, _⟩ := (BoxAt.new w4 E).four
   clear k4 hal4 x0 x1 x2 r0 r1 r2 r3 r4 r5 r6 HX3 HD3
   obtain ⟨⟨r0, r1, r2, r3, r4, r5, r6⟩, _⟩ := seven HX4.out.2.2.2.2
   have heq := eq_rat
   have hneq := ne_rat
   have hgeq := eqg_rat
   cases K with
   | false =>
    have Hr := Lib.hid (show false = g by rw [← Hg2.out]; rfl)
    go_wp2_with fail
    go_ret
    exact ⟨ret_bool Hr.out, HX4.out.1⟩
   | true =>
    cases L with
    | false =>
     have Hr := Lib.hid (show false = g by rw [← Hg2.out]; rfl)
     go_wp2_with fail
     go_ret
     exact ⟨ret_bool Hr.out, HX4.out.1⟩
    | true =>
     rcases hde : (D.1 == E.1 && D.2 == E.2) with _ | _
     ·
      have Hr := Lib.hid (show false = g by
       rw [← Hg2.out]
       have : D ≠ E := by rintro rfl; simp at hde
       simp [this])
      go_wp2_with fail
      go_ret
      exact ⟨ret_bool Hr.out, HX4.out.1⟩
     ·
      have HDE := Lib.hid (show D = E by
       rw [Bool.and_eq_true, beq_iff_eq, beq_iff_eq] at hde
       exact Prod.ext hde.1 hde.2)
      rcases hdv : (D.1 == nu && D.2 == de) with _ | _
      ·
       have Hr := Lib.hid (show false = g by
        rw [← Hg2.out]
        have : D ≠ (nu, de) := by rintro rfl; simp at hdv
        simp [this])
       go_wp2_with fail
       go_ret
       exact ⟨ret_bool Hr.out, HX4.out.1⟩
      ·
       have Hr := Lib.hid (show true = g by
        rw [← Hg2.out]
        rw [Bool.and_eq_true, beq_iff_eq, beq_iff_eq] at hdv
        have : D = (nu, de) := Prod.ext hdv.1 hdv.2
        rw [← HDE.out, this]
        simp)
       go_wp2_with fail
       go_ret
       exact ⟨ret_bool Hr.out, HX4.out.1⟩
end Go.Proofs.Ytgnianjomjjfgaa

/- impl.provesInfeasible, provesUnbounded. -/
namespace Go.Proofs.Ytgnianjomjjfgaa
open List (setIfInBounds_toArray set_cons_zero set_cons_succ)
open Go.RowKit
open Ve (R)
open Lp (P Res)
theorem spec_to_impl_dual (W : World) (a b c ya A : Option Addr) (c1 c2 c3 yc C : Nat) (p : P) (y : List R) (hn : LpFits p) (hvl : Lp.vldP p = true) (hy : y.length ≤ 1048576) (g : Bool) (hg : Lp.dual p y (Lp.zerosR p.C.length) = g) {n0 : Nat} (_h0 : n0 ≤ W.heap.size) (hz : LpIn W.heap.size W a b c p) (hy1 : RatsIn W.heap.size W ya y) (hc1 : RatsIn W.heap.size W A (Lp.zerosR p.C.length)) :
  Calls Try.prog 82 #[.agg #[.slice a p.A.length c1, .slice b p.B.length c2, .slice c p.C.length c3], .slice ya y.length yc, .slice A (Lp.zerosR p.C.length).length C] W fun e w' => e = .returned (.bool g) ∧ Below W.heap.size W w' :=
 impl_boundsColumns W.heap.size a b c ya A c1 c2 c3 yc C p y (Lp.zerosR p.C.length) hn hvl hy (zeros_len _) g hg W (Nat.le_refl _) hz hy1 hc1
set_option maxRecDepth 100000 in
set_option maxHeartbeats 8000000 in
theorem impl_provesInfeasible (B : Nat) (a b c ra rb rc : Option Addr) (c1 c2 c3 d1 d2 d3 : Nat) (p : P) (st : Int) (X Y Z : List R) (nu de pv : Int) (hn : LpFits p) (hf : ResFits ⟨st, X, Y, Z, (nu, de), pv⟩) (hvl : Lp.vldP p = true) (g : Bool) (hg : Lp.inf p ⟨st, X, Y, Z, (nu, de), pv⟩ = g) (w : World) (hBw : B ≤ w.heap.size) (hz : LpIn B w a b c p) (hr : ResIn B w ra rb rc ⟨st, X, Y, Z, (nu, de), pv⟩) :
  Calls Try.prog 55 #[.agg #[.slice a p.A.length c1, .slice b p.B.length c2, .slice c p.C.length c3], .agg #[.int .i64 st, .slice ra X.length d1, .slice rb Y.length d2, .slice rc Z.length d3, .int .i64 nu, .int .i64 de, .int .i64 pv]] w fun e w' => e = .returned (.bool g) ∧ Below w.heap.size w w' := by
 obtain ⟨n1, n2, n3, _⟩ := hf
 rw [inf_impl] at hg
 simp only at n1 n2 n3
 have HX := Lib.hid (ChkBox.start w a b c ra rb rc c1 c2 c3 d1 d2 d3 p ⟨st, X, Y, Z, (nu, de), pv⟩ 28 32 hBw hz hr)
 have hAB := b_len hvl
 have hC := hn.C
 have hBl := hn.B
 have hC7 : p.C.length ≤ 70 := (Lp.vld_parts hvl).2.1
 obtain ⟨du, hdu⟩ : ∃ du, Lp.dual p Y (Lp.zerosR p.C.length) = du := ⟨_, rfl⟩
 have Hg := Lib.hid (show (Lp.idK p.B Y && (decide (0 < (Lp.idR p.B Y).1) && du)) = g from hdu ▸ hg)
 have Hd0 := Lib.hid (fun W (h : ChkBox w a b c ra rb rc c1 c2 c3 d1 d2 d3 p ⟨st, X, Y, Z, (nu, de), pv⟩ 28 32 W) (A : Option Addr) (C : Nat) hc => spec_to_impl_dual W a b c rb A c1 c2 c3 d2 C p Y hn hvl n2 du hdu h.1.size (h.2.1.mono h.1.size) (h.2.2.1.mY.mono h.1.size) hc)
 have Hze := Lib.hid (fun W => impl_zeroRats p.C.length (by omega) W)
 clear hz hr hg hvl hdu
 go_enter Try.func55, Try.ntmps55
 go_wp2_with fail
 refine (impl_dotInts w.heap.size b rb c2 d2 p.B Y hBl n2 _ HX.out.1.size HX.out.2.1.mB HX.out.2.2.1.mY).mono ?_
 rintro e w1 ⟨rfl, k1⟩
 have hk2 := HX.out.up k1
 obtain ⟨L, hs, hk, hk0⟩ := law_more (stable_chk w a b c ra rb rc c1 c2 c3 d1 d2 d3 p ⟨st, X, Y, Z, (nu, de), pv⟩ 28 32) #[.int .i64 (Lp.idR p.B Y).1, .int .i64 (Lp.idR p.B Y).2] 30 (fun _ => True) (fun _ _ _ h => h) hk2 trivial
 have Hdu := Lib.hid (fun W (hL : L W) (A : Option Addr) (C : Nat) hc => Hd0.out W (hk W hL).1 A C hc)
 generalize Lp.zerosR p.C.length = zs at *
 generalize Lp.idR p.B Y = D at *
 generalize Lp.idK p.B Y = K at *
 have LS := Lib.hid hs
 have LK := Lib.hid hk
 have HL0 := Lib.hid hk0
 have Cell := Lib.hid (fun w' (h : L w') => (show w'.cell? ⟨w.heap.size, 0, none⟩ = some (.slice a p.A.length c1) ∧ w'.cell? ⟨w.heap.size, 1, none⟩ = some (.slice b p.B.length c2) ∧ w'.cell? ⟨w.heap.size, 2, none⟩ = some (.slice c p.C.length c3) ∧ w'.cell? ⟨w.heap.size + 1, 2, none⟩ = some (.slice rb Y.length d2) ∧ w'.cell? ⟨w1.heap.size, 0, none⟩ = some (.int .i64 D.1) ∧ L w' from ⟨(hk w' h).1.2.2.2.1.cells.1, (hk w' h).1.2.2.2.1.cells.2.1, (hk w' h).1.2.2.2.1.cells.2.2.1, (seven (hk w' h).1.2.2.2.2).1.2.2.1, (hk w' h).2.1.cell 0, h⟩))
 clear hs hk hk0 hk2 k1 HX Hd0
 obtain ⟨x0, x1, x2, r2, q0, _⟩ := Cell.out _ HL0.out
 have hin := LS.out.drew HL0.out
 go_upto_region 2 with fail
 generalize hW3 : w1.alloc (.cells #[.int .i64 D.1, .int .i64 D.2] 30) = W3 at *
 cases K with
 | false =>
  have Hr := Lib.hid (show false = g by rw [← Hg.out]; rfl)
  refine wp_region_held_drew (S := (fun w' => w'.cell? ⟨w.heap.size, 0, none⟩ = some (.slice a p.A.length c1) ∧ w'.cell? ⟨w.heap.size, 1, none⟩ = some (.slice b p.B.length c2) ∧ w'.cell? ⟨w.heap.size, 2, none⟩ = some (.slice c p.C.length c3) ∧ w'.cell? ⟨w.heap.size + 1, 2, none⟩ = some (.slice rb Y.length d2) ∧ w'.cell? ⟨w1.heap.size, 0, none⟩ = some (.int .i64 D.1) ∧ L w')) (by kernel_rfl) ?_ (fun hHeld => ?_)
  ·
   exact Cell.out _ hin
  refine tkH (i := 0) (oi := { dst := some 15, op := Op.move (Operand.tmp 6), type := 4, pos := "l05_lp.go:121", after := #[], guard := none }) (v := ?_) rfl ?_ (by assumption) ?_
  rotate_left 1
  ·
   intro w hSw; (try dsimp only at hSw); go_simp; try (with_reducible rfl)
  try simp only [Act.put, setIfInBounds_toArray, set_cons_zero, set_cons_succ]
  refine tkH (i := 1) (oi := { dst := some 16, op := Op.move (Operand.tmp 15), type := 4, pos := "l05_lp.go:121", after := #[{ on := 0, ground := Ground.data }], guard := none }) (v := ?_) rfl ?_ (by assumption) ?_
  rotate_left 1
  ·
   intro w hSw; (try dsimp only at hSw); go_simp; try (with_reducible rfl)
  try simp only [Act.put, setIfInBounds_toArray, set_cons_zero, set_cons_succ]
  refine tkHu (i := 2) (oi := { dst := some 17, op := Op.fieldAddr 30 (Operand.tmp 5) 0, type := 0, pos := "l05_lp.go:121", after := #[{ on := 1, ground := Ground.guard }], guard := some (1, true) }) rfl (by assumption) ?_
  try simp only [Act.put, setIfInBounds_toArray, set_cons_zero, set_cons_succ]
  refine tkHu (i := 3) (oi := { dst := some 18, op := Op.load 3 (Operand.tmp 17), type := 3, pos := "l05_lp.go:121", after := #[{ on := 2, ground := Ground.data }, { on := 1, ground := Ground.guard }], guard := some (1, true) }) rfl (by assumption) ?_
  try simp only [Act.put, setIfInBounds_toArray, set_cons_zero, set_cons_succ]
  refine tkHu (i := 4) (oi := { dst := some 19, op := Op.binOp BinOp.gtr 3 (Operand.tmp 18) (Operand.const (Value.int IntKind.i64 0)) 3, type := 4, pos := "l05_lp.go:121", after := #[{ on := 3, ground := Ground.data }, { on := 1, ground := Ground.guard }], guard := some (1, true) }) rfl (by assumption) ?_
  try simp only [Act.put, setIfInBounds_toArray, set_cons_zero, set_cons_succ]
  refine tkH (i := 5) (oi := { dst := some 20, op := Op.pick (Operand.tmp 16) (Operand.tmp 19) (Operand.const (Value.bool false)), type := 4, pos := "l05_lp.go:121", after := #[{ on := 1, ground := Ground.data }, { on := 4, ground := Ground.data }], guard := none }) (v := ?_) rfl ?_ (by assumption) ?_
  rotate_left 1
  ·
   intro w hSw; (try dsimp only at hSw); go_simp; try (with_reducible rfl)
  try simp only [Act.put, setIfInBounds_toArray, set_cons_zero, set_cons_succ]
  refine tkH (i := 6) (oi := { dst := some 21, op := Op.move (Operand.tmp 20), type := 4, pos := "l05_lp.go:121", after := #[{ on := 5, ground := Ground.data }, { on := 1, ground := Ground.chain }], guard := none }) (v := ?_) rfl ?_ (by assumption) ?_
  rotate_left 1
  ·
   intro w hSw; (try dsimp only at hSw); go_simp; try (with_reducible rfl)
  try simp only [Act.put, setIfInBounds_toArray, set_cons_zero, set_cons_succ]
  refine tkHu (i := 7) (oi := { dst := some 22, op := Op.load 28 (Operand.tmp 2), type := 28, pos := "l05_lp.go:121", after := #[{ on := 6, ground := Ground.guard }], guard := some (6, true) }) rfl (by assumption) ?_
  try simp only [Act.put, setIfInBounds_toArray, set_cons_zero, set_cons_succ]
  refine tkHu (i := 8) (oi := { dst := some 23, op := Op.fieldAddr 32 (Operand.tmp 3) 2, type := 0, pos := "l05_lp.go:121", after := #[{ on := 6, ground := Ground.guard }], guard := some (6, true) }) rfl (by assumption) ?_
  try simp only [Act.put, setIfInBounds_toArray, set_cons_zero, set_cons_succ]
  refine tkHu (i := 9) (oi := { dst := some 24, op := Op.load 26 (Operand.tmp 23), type := 26, pos := "l05_lp.go:121", after := #[{ on := 8, ground := Ground.data }, { on := 6, ground := Ground.guard }], guard := some (6, true) }) rfl (by assumption) ?_
  try simp only [Act.put, setIfInBounds_toArray, set_cons_zero, set_cons_succ]
  refine tkHu (i := 10) (oi := { dst := some 25, op := Op.fieldAddr 28 (Operand.tmp 2) 2, type := 0, pos := "l05_lp.go:121", after := #[{ on := 6, ground := Ground.guard }], guard := some (6, true) }) rfl (by assumption) ?_
  try simp only [Act.put, setIfInBounds_toArray, set_cons_zero, set_cons_succ]
  refine tkHu (i := 11) (oi := { dst := some 26, op := Op.load 26 (Operand.tmp 25), type := 26, pos := "l05_lp.go:121", after := #[{ on := 10, ground := Ground.data }, { on := 6, ground := Ground.guard }], guard := some (6, true) }) rfl (by assumption) ?_
  try simp only [Act.put, setIfInBounds_toArray, set_cons_zero, set_cons_succ]
  refine tkHu (i := 12) (oi := { dst := some 27, op := Op.call { callee := Callee.builtin Builtin.len, args := #[Operand.tmp 26], argTypes := #[26] }, type := 3, pos := "l05_lp.go:121", after := #[{ on := 11, ground := Ground.data }, { on := 6, ground := Ground.guard }], guard := some (6, true) }) rfl (by assumption) ?_
  try simp only [Act.put, setIfInBounds_toArray, set_cons_zero, set_cons_succ]
  refine tkHu (i := 13) (oi := { dst := some 28, op := Op.call { callee := Callee.value (Operand.func 83), args := #[Operand.tmp 27], argTypes := #[3] }, type := 26, pos := "l05_lp.go:121", after := #[{ on := 12, ground := Ground.data }, { on := 6, ground := Ground.chain }, { on := 6, ground := Ground.guard }], guard := some (6, true) }) rfl (by assumption) ?_
  try simp only [Act.put, setIfInBounds_toArray, set_cons_zero, set_cons_succ]
  refine tkHu (i := 14) (oi := { dst := some 29, op := Op.call { callee := Callee.value (Operand.func 82), args := #[Operand.tmp 22, Operand.tmp 24, Operand.tmp 28], argTypes := #[28, 26, 26] }, type := 4, pos := "l05_lp.go:121", after := #[{ on := 7, ground := Ground.data }, { on := 9, ground := Ground.data }, { on := 13, ground := Ground.data }, { on := 13, ground := Ground.chain }, { on := 6, ground := Ground.guard }], guard := some (6, true) }) rfl (by assumption) ?_
  try simp only [Act.put, setIfInBounds_toArray, set_cons_zero, set_cons_succ]
  refine tkH (i := 15) (oi := { dst := some 30, op := Op.pick (Operand.tmp 21) (Operand.tmp 29) (Operand.const (Value.bool false)), type := 4, pos := "l05_lp.go:121", after := #[{ on := 6, ground := Ground.data }, { on := 14, ground := Ground.data }], guard := none }) (v := ?_) rfl ?_ (by assumption) ?_
  rotate_left 1
  ·
   intro w hSw; (try dsimp only at hSw); go_simp; try (with_reducible rfl)
  try simp only [Act.put, setIfInBounds_toArray, set_cons_zero, set_cons_succ]
  refine tkH (i := 16) (oi := { dst := some 4, op := Op.assign (Operand.tmp 30), type := 4, pos := "l05_lp.go:121", after := #[{ on := 15, ground := Ground.data }, { on := 14, ground := Ground.chain }, { on := 0, ground := Ground.phase }, { on := 1, ground := Ground.phase }, { on := 2, ground := Ground.phase }, { on := 3, ground := Ground.phase }, { on := 4, ground := Ground.phase }, { on := 5, ground := Ground.phase }, { on := 6, ground := Ground.phase }, { on := 7, ground := Ground.phase }, { on := 8, ground := Ground.phase }, { on := 9, ground := Ground.phase }, { on := 10, ground := Ground.phase }, { on := 11, ground := Ground.phase }, { on := 12, ground := Ground.phase }, { on := 13, ground := Ground.phase }, { on := 14, ground := Ground.phase }, { on := 15, ground := Ground.phase }], guard := none }) (v := ?_) rfl ?_ (by assumption) ?_
  rotate_left 1
  ·
   intro w hSw; (try dsimp only at hSw); go_simp; try (with_reducible rfl)
  try simp only [Act.put, setIfInBounds_toArray, set_cons_zero, set_cons_succ]
  refine wpAnyH_done (by kernel_rfl) ?_ _
  go_wp2_with fail
  go_ret
  exact ⟨ret_bool Hr.out, (LK.out _ (by assumption)).1.1⟩
 | true =>
  rcases hd : decide (0 < D.1) with _ | _
  ·
   have Hr := Lib.hid (show false = g by rw [← Hg.out, hd]; rfl)
   have hd2 : decide (D.1 > 0) = false := hd
   refine wp_region_held_drew (S := (fun w' => w'.cell? ⟨w.heap.size, 0, none⟩ = some (.slice a p.A.length c1) ∧ w'.cell? ⟨w.heap.size, 1, none⟩ = some (.slice b p.B.length c2) ∧ w'.cell? ⟨w.heap.size, 2, none⟩ = some (.slice c p.C.length c3) ∧ w'.cell? ⟨w.heap.size + 1, 2, none⟩ = some (.slice rb Y.length d2) ∧ w'.cell? ⟨w1.heap.size, 0, none⟩ = some (.int .i64 D.1) ∧ L w')) (by kernel_rfl) ?_ (fun hHeld => ?_)
   ·
    exact Cell.out _ hin
   refine tkH (i := 0) (oi := { dst := some 15, op := Op.move (Operand.tmp 6), type := 4, pos := "l05_lp.go:121", after := #[], guard := none }) (v := ?_) rfl ?_ (by assumption) ?_
   rotate_left 1
   ·
    intro w hSw; (try dsimp only at hSw); go_simp; try (with_reducible rfl)
   try simp only [Act.put, setIfInBounds_toArray, set_cons_zero, set_cons_succ]
   refine tkH (i := 1) (oi := { dst := some 16, op := Op.move (Operand.tmp 15), type := 4, pos := "l05_lp.go:121", after := #[{ on := 0, ground := Ground.data }], guard := none }) (v := ?_) rfl ?_ (by assumption) ?_
   rotate_left 1
   ·
    intro w hSw; (try dsimp only at hSw); go_simp; try (with_reducible rfl)
   try simp only [Act.put, setIfInBounds_toArray, set_cons_zero, set_cons_succ]
   refine tkH (i := 2) (oi := { dst := some 17, op := Op.fieldAddr 30 (Operand.tmp 5) 0, type := 0, pos := "l05_lp.go:121", after := #[{ on := 1, ground := Ground.guard }], guard := some (1, true) }) (v := ?_) rfl ?_ (by assumption) ?_
   rotate_left 1
   ·
    intro w hSw; (try dsimp only at hSw); go_simp; try (with_reducible rfl)
   try simp only [Act.put, setIfInBounds_toArray, set_cons_zero, set_cons_succ]
   refine tkH (i := 3) (oi := { dst := some 18, op := Op.load 3 (Operand.tmp 17), type := 3, pos := "l05_lp.go:121", after := #[{ on := 2, ground := Ground.data }, { on := 1, ground := Ground.guard }], guard := some (1, true) }) (v := ?_) rfl ?_ (by assumption) ?_
   rotate_left 1
   ·
    intro w hSw; (try dsimp only at hSw); go_simp; try (with_reducible rfl)
   try simp only [Act.put, setIfInBounds_toArray, set_cons_zero, set_cons_succ]
   refine tkH (i := 4) (oi := { dst := some 19, op := Op.binOp BinOp.gtr 3 (Operand.tmp 18) (Operand.const (Value.int IntKind.i64 0)) 3, type := 4, pos := "l05_lp.go:121", after := #[{ on := 3, ground := Ground.data }, { on := 1, ground := Ground.guard }], guard := some (1, true) }) (v := ?_) rfl ?_ (by assumption) ?_
   rotate_left 1
   ·
    intro w hSw; (try dsimp only at hSw); go_simp; try (with_reducible rfl)
   try simp only [Act.put, setIfInBounds_toArray, set_cons_zero, set_cons_succ]
   refine tkH (i := 5) (oi := { dst := some 20, op := Op.pick (Operand.tmp 16) (Operand.tmp 19) (Operand.const (Value.bool false)), type := 4, pos := "l05_lp.go:121", after := #[{ on := 1, ground := Ground.data }, { on := 4, ground := Ground.data }], guard := none }) (v := ?_) rfl ?_ (by assumption) ?_
   rotate_left 1
   ·
    intro w hSw; (try dsimp only at hSw); go_simp; try (with_reducible rfl)
   try simp only [Act.put, setIfInBounds_toArray, set_cons_zero, set_cons_succ]
   refine tkH (i := 6) (oi := { dst := some 21, op := Op.move (Operand.tmp 20), type := 4, pos := "l05_lp.go:121", after := #[{ on := 5, ground := Ground.data }, { on := 1, ground := Ground.chain }], guard := none }) (v := ?_) rfl ?_ (by assumption) ?_
   rotate_left 1
   ·
    intro w hSw; (try dsimp only at hSw); go_simp; try (with_reducible rfl)
   try simp only [Act.put, setIfInBounds_toArray, set_cons_zero, set_cons_succ]
   refine tkHu (i := 7) (oi := { dst := some 22, op := Op.load 28 (Operand.tmp 2), type := 28, pos := "l05_lp.go:121", after := #[{ on := 6, ground := Ground.guard }], guard := some (6, true) }) rfl (by assumption) ?_
   try simp only [Act.put, setIfInBounds_toArray, set_cons_zero, set_cons_succ]
   refine tkHu (i := 8) (oi := { dst := some 23, op := Op.fieldAddr 32 (Operand.tmp 3) 2, type := 0, pos := "l05_lp.go:121", after := #[{ on := 6, ground := Ground.guard }], guard := some (6, true) }) rfl (by assumption) ?_
   try simp only [Act.put, setIfInBounds_toArray, set_cons_zero, set_cons_succ]
   refine tkHu (i := 9) (oi := { dst := some 24, op := Op.load 26 (Operand.tmp 23), type := 26, pos := "l05_lp.go:121", after := #[{ on := 8, ground := Ground.data }, { on := 6, ground := Ground.guard }], guard := some (6, true) }) rfl (by assumption) ?_
   try simp only [Act.put, setIfInBounds_toArray, set_cons_zero, set_cons_succ]
   refine tkHu (i := 10) (oi := { dst := some 25, op := Op.fieldAddr 28 (Operand.tmp 2) 2, type := 0, pos := "l05_lp.go:121", after := #[{ on := 6, ground := Ground.guard }], guard := some (6, true) }) rfl (by assumption) ?_
   try simp only [Act.put, setIfInBounds_toArray, set_cons_zero, set_cons_succ]
   refine tkHu (i := 11) (oi := { dst := some 26, op := Op.load 26 (Operand.tmp 25), type := 26, pos := "l05_lp.go:121", after := #[{ on := 10, ground := Ground.data }, { on := 6, ground := Ground.guard }], guard := some (6, true) }) rfl (by assumption) ?_
   try simp only [Act.put, setIfInBounds_toArray, set_cons_zero, set_cons_succ]
   refine tkHu (i := 12) (oi := { dst := some 27, op := Op.call { callee := Callee.builtin Builtin.len, args := #[Operand.tmp 26], argTypes := #[26] }, type := 3, pos := "l05_lp.go:121", after := #[{ on := 11, ground := Ground.data }, { on := 6, ground := Ground.guard }], guard := some (6, true) }) rfl (by assumption) ?_
   try simp only [Act.put, setIfInBounds_toArray, set_cons_zero, set_cons_succ]
   refine tkHu (i := 13) (oi := { dst := some 28, op := Op.call { callee := Callee.value (Operand.func 83), args := #[Operand.tmp 27], argTypes := #[3] }, type := 26, pos := "l05_lp.go:121", after := #[{ on := 12, ground := Ground.data }, { on := 6, ground := Ground.chain }, { on := 6, ground := Ground.guard }], guard := some (6, true) }) rfl (by assumption) ?_
   try simp only [Act.put, setIfInBounds_toArray, set_cons_zero, set_cons_succ]
   refine tkHu (i := 14) (oi := { dst := some 29, op := Op.call { callee := Callee.value (Operand.func 82), args := #[Operand.tmp 22, Operand.tmp 24, Operand.tmp 28], argTypes := #[28, 26, 26] }, type := 4, pos := "l05_lp.go:121", after := #[{ on := 7, ground := Ground.data }, { on := 9, ground := Ground.data }, { on := 13, ground := Ground.data }, { on := 13, ground := Ground.chain }, { on := 6, ground := Ground.guard }], guard := some (6, true) }) rfl (by assumption) ?_
   try simp only [Act.put, setIfInBounds_toArray, set_cons_zero, set_cons_succ]
   refine tkH (i := 15) (oi := { dst := some 30, op := Op.pick (Operand.tmp 21) (Operand.tmp 29) (Operand.const (Value.bool false)), type := 4, pos := "l05_lp.go:121", after := #[{ on := 6, ground := Ground.data }, { on := 14, ground := Ground.data }], guard := none }) (v := ?_) rfl ?_ (by assumption) ?_
   rotate_left 1
   ·
    intro w hSw; (try dsimp only at hSw); go_simp; try (with_reducible rfl)
   try simp only [Act.put, setIfInBounds_toArray, set_cons_zero, set_cons_succ]
   refine tkH (i := 16) (oi := { dst := some 4, op := Op.assign (Operand.tmp 30), type := 4, pos := "l05_lp.go:121", after := #[{ on := 15, ground := Ground.data }, { on := 14, ground := Ground.chain }, { on := 0, ground := Ground.phase }, { on := 1, ground := Ground.phase }, { on := 2, ground := Ground.phase }, { on := 3, ground := Ground.phase }, { on := 4, ground := Ground.phase }, { on := 5, ground := Ground.phase }, { on := 6, ground := Ground.phase }, { on := 7, ground := Ground.phase }, { on := 8, ground := Ground.phase }, { on := 9, ground := Ground.phase }, { on := 10, ground := Ground.phase }, { on := 11, ground := Ground.phase }, { on := 12, ground := Ground.phase }, { on := 13, ground := Ground.phase }, { on := 14, ground := Ground.phase }, { on := 15, ground := Ground.phase }], guard := none }) (v := ?_) rfl ?_ (by assumption) ?_
   rotate_left 1
   ·
    intro w hSw; (try dsimp only at hSw); go_simp; try (with_reducible rfl)
   try simp only [Act.put, setIfInBounds_toArray, set_cons_zero, set_cons_succ]
   refine wpAnyH_done (by kernel_rfl) ?_ _
   go_wp2_with fail
   go_ret
   exact ⟨ret_bool Hr.out, (LK.out _ (by assumption)).1.1⟩
  ·
   have Hr := Lib.hid (show du = g by rw [← Hg.out, hd]; rfl)
   have hd2 : decide (D.1 > 0) = true := hd
   refine wp_region_held_drew (S := (fun w' => w'.cell? ⟨w.heap.size, 0, none⟩ = some (.slice a p.A.length c1) ∧ w'.cell? ⟨w.heap.size, 1, none⟩ = some (.slice b p.B.length c2) ∧ w'.cell? ⟨w.heap.size, 2, none⟩ = some (.slice c p.C.length c3) ∧ w'.cell? ⟨w.heap.size + 1, 2, none⟩ = some (.slice rb Y.length d2) ∧ w'.cell? ⟨w1.heap.size, 0, none⟩ = some (.int .i64 D.1) ∧ L w')) (by kernel_rfl) ?_ (fun hHeld => ?_)
   ·
    exact Cell.out _ hin
   refine tkH (i := 0) (oi := { dst := some 15, op := Op.move (Operand.tmp 6), type := 4, pos := "l05_lp.go:121", after := #[], guard := none }) (v := ?_) rfl ?_ (by assumption) ?_
   rotate_left 1
   ·
    intro w hSw; (try dsimp only at hSw); go_simp; try (with_reducible rfl)
   try simp only [Act.put, setIfInBounds_toArray, set_cons_zero, set_cons_succ]
   refine tkH (i := 1) (oi := { dst := some 16, op := Op.move (Operand.tmp 15), type := 4, pos := "l05_lp.go:121", after := #[{ on := 0, ground := Ground.data }], guard := none }) (v := ?_) rfl ?_ (by assumption) ?_
   rotate_left 1
   ·
    intro w hSw; (try dsimp only at hSw); go_simp; try (with_reducible rfl)
   try simp only [Act.put, setIfInBounds_toArray, set_cons_zero, set_cons_succ]
   refine tkH (i := 2) (oi := { dst := some 17, op := Op.fieldAddr 30 (Operand.tmp 5) 0, type := 0, pos := "l05_lp.go:121", after := #[{ on := 1, ground := Ground.guard }], guard := some (1, true) }) (v := ?_) rfl ?_ (by assumption) ?_
   rotate_left 1
   ·
    intro w hSw; (try dsimp only at hSw); go_simp; try (with_reducible rfl)
   try simp only [Act.put, setIfInBounds_toArray, set_cons_zero, set_cons_succ]
   refine tkH (i := 3) (oi := { dst := some 18, op := Op.load 3 (Operand.tmp 17), type := 3, pos := "l05_lp.go:121", after := #[{ on := 2, ground := Ground.data }, { on := 1, ground := Ground.guard }], guard := some (1, true) }) (v := ?_) rfl ?_ (by assumption) ?_
   rotate_left 1
   ·
    intro w hSw; (try dsimp only at hSw); go_simp; try (with_reducible rfl)
   try simp only [Act.put, setIfInBounds_toArray, set_cons_zero, set_cons_succ]
   refine tkH (i := 4) (oi := { dst := some 19, op := Op.binOp BinOp.gtr 3 (Operand.tmp 18) (Operand.const (Value.int IntKind.i64 0)) 3, type := 4, pos := "l05_lp.go:121", after := #[{ on := 3, ground := Ground.data }, { on := 1, ground := Ground.guard }], guard := some (1, true) }) (v := ?_) rfl ?_ (by assumption) ?_
   rotate_left 1
   ·
    intro w hSw; (try dsimp only at hSw); go_simp; try (with_reducible rfl)
   try simp only [Act.put, setIfInBounds_toArray, set_cons_zero, set_cons_succ]
   refine tkH (i := 5) (oi := { dst := some 20, op := Op.pick (Operand.tmp 16) (Operand.tmp 19) (Operand.const (Value.bool false)), type := 4, pos := "l05_lp.go:121", after := #[{ on := 1, ground := Ground.data }, { on := 4, ground := Ground.data }], guard := none }) (v := ?_) rfl ?_ (by assumption) ?_
   rotate_left 1
   ·
    intro w hSw; (try dsimp only at hSw); go_simp; try (with_reducible rfl)
   try simp only [Act.put, setIfInBounds_toArray, set_cons_zero, set_cons_succ]
   refine tkH (i := 6) (oi := { dst := some 21, op := Op.move (Operand.tmp 20), type := 4, pos := "l05_lp.go:121", after := #[{ on := 5, ground := Ground.data }, { on := 1, ground := Ground.chain }], guard := none }) (v := ?_) rfl ?_ (by assumption) ?_
   rotate_left 1
   ·
    intro w hSw; (try dsimp only at hSw); go_simp; try (with_reducible rfl)
   try simp only [Act.put, setIfInBounds_toArray, set_cons_zero, set_cons_succ]
   refine tkH (i := 7) (oi := { dst := some 22, op := Op.load 28 (Operand.tmp 2), type := 28, pos := "l05_lp.go:121", after := #[{ on := 6, ground := Ground.guard }], guard := some (6, true) }) (v := ?_) rfl ?_ (by assumption) ?_
   rotate_left 1
   ·
    intro w hSw; (try dsimp only at hSw); go_simp; try (with_reducible rfl)
   try simp only [Act.put, setIfInBounds_toArray, set_cons_zero, set_cons_succ]
   refine tkH (i := 8) (oi := { dst := some 23, op := Op.fieldAddr 32 (Operand.tmp 3) 2, type := 0, pos := "l05_lp.go:121", after := #[{ on := 6, ground := Ground.guard }], guard := some (6, true) }) (v := ?_) rfl ?_ (by assumption) ?_
   rotate_left 1
   ·
    intro w hSw; (try dsimp only at hSw); go_simp; try (with_reducible rfl)
   try simp only [Act.put, setIfInBounds_toArray, set_cons_zero, set_cons_succ]
   refine tkH (i := 9) (oi := { dst := some 24, op := Op.load 26 (Operand.tmp 23), type := 26, pos := "l05_lp.go:121", after := #[{ on := 8, ground := Ground.data }, { on := 6, ground := Ground.guard }], guard := some (6, true) }) (v := ?_) rfl ?_ (by assumption) ?_
   rotate_left 1
   ·
    intro w hSw; (try dsimp only at hSw); go_simp; try (with_reducible rfl)
   try simp only [Act.put, setIfInBounds_toArray, set_cons_zero, set_cons_succ]
   refine tkH (i := 10) (oi := { dst := some 25, op := Op.fieldAddr 28 (Operand.tmp 2) 2, type := 0, pos := "l05_lp.go:121", after := #[{ on := 6, ground := Ground.guard }], guard := some (6, true) }) (v := ?_) rfl ?_ (by assumption) ?_
   rotate_left 1
   ·
    intro w hSw; (try dsimp only at hSw); go_simp; try (with_reducible rfl)
   try simp only [Act.put, setIfInBounds_toArray, set_cons_zero, set_cons_succ]
   refine tkH (i := 11) (oi := { dst := some 26, op := Op.load 26 (Operand.tmp 25), type := 26, pos := "l05_lp.go:121", after := #[{ on := 10, ground := Ground.data }, { on := 6, ground := Ground.guard }], guard := some (6, true) }) (v := ?_) rfl ?_ (by assumption) ?_
   rotate_left 1
   ·
    intro w hSw; (try dsimp only at hSw); go_simp; try (with_reducible rfl)
   try simp only [Act.put, setIfInBounds_toArray, set_cons_zero, set_cons_succ]
   refine tkH (i := 12) (oi := { dst := some 27, op := Op.call { callee := Callee.builtin Builtin.len, args := #[Operand.tmp 26], argTypes := #[26] }, type := 3, pos := "l05_lp.go:121", after := #[{ on := 11, ground := Ground.data }, { on := 6, ground := Ground.guard }], guard := some (6, true) }) (v := ?_) rfl ?_ (by assumption) ?_
   rotate_left 1
   ·
    intro w hSw; (try dsimp only at hSw); go_simp; try (with_reducible rfl)
   try simp only [Act.put, setIfInBounds_toArray, set_cons_zero, set_cons_succ]
   refine wpAnyH_ready (rs := [13]) (by kernel_rfl) (by simp) ?_
   refine AllReadyH.cons (o := { dst := some 28, op := Op.call { callee := Callee.value (Operand.func 83), args := #[Operand.tmp 27], argTypes := #[3] }, type := 26, pos := "l05_lp.go:121", after := #[{ on := 12, ground := Ground.data }, { on := 6, ground := Ground.chain }, { on := 6, ground := Ground.guard }], guard := some (6, true) }) (rs := []) rfl (fun K hK => ?_) AllReadyH.nil
   go_simp
   (go_at_call 83; refine (calls_k LS.out (makes_k (Hze.out _)) (by assumption)).mono ?_; rintro e w' ⟨⟨v, rfl, ho⟩, hk5, hin5⟩; obtain ⟨za, zc, rfl, hzr, _, _⟩ := own_rats ho)
   refine hK.out _ _ ?_ (fun hHeld => ?_)
   ·
    exact Cell.out _ (by assumption)
   clear hK K
   try simp only [Act.put, setIfInBounds_toArray, set_cons_zero, set_cons_succ]
   refine wpAnyH_ready (rs := [14]) (by kernel_rfl) (by simp) ?_
   refine AllReadyH.cons (o := { dst := some 29, op := Op.call { callee := Callee.value (Operand.func 82), args := #[Operand.tmp 22, Operand.tmp 24, Operand.tmp 28], argTypes := #[28, 26, 26] }, type := 4, pos := "l05_lp.go:121", after := #[{ on := 7, ground := Ground.data }, { on := 9, ground := Ground.data }, { on := 13, ground := Ground.data }, { on := 13, ground := Ground.chain }, { on := 6, ground := Ground.guard }], guard := some (6, true) }) (rs := []) rfl (fun K hK => ?_) AllReadyH.nil
   go_simp
   (go_at_call 82; refine (calls_k LS.out (Hdu.out _ (by assumption) _ _ (by assumption)) (by assumption)).mono ?_; rintro e w' ⟨rfl, hk6, hin6⟩)
   refine hK.out _ _ ?_ (fun hHeld => ?_)
   ·
    exact Cell.out _ (by assumption)
   clear hK K
   try simp only [Act.put, setIfInBounds_toArray, set_cons_zero, set_cons_succ]
   refine tkH (i := 15) (oi := { dst := some 30, op := Op.pick (Operand.tmp 21) (Operand.tmp 29) (Operand.const (Value.bool false)), type := 4, pos := "l05_lp.go:121", after := #[{ on := 6, ground := Ground.data }, { on := 14, ground := Ground.data }], guard := none }) (v := ?_) rfl ?_ (by assumption) ?_
   rotate_left 1
   ·
    intro w hSw; (try dsimp only at hSw); go_simp; try (with_reducible rfl)
   try simp only [Act.put, setIfInBounds_toArray, set_cons_zero, set_cons_succ]
   refine tkH (i := 16) (oi := { dst := some 4, op := Op.assign (Operand.tmp 30), type := 4, pos := "l05_lp.go:121", after := #[{ on := 15, ground := Ground.data }, { on := 14, ground := Ground.chain }, { on := 0, ground := Ground.phase }, { on := 1, ground := Ground.phase }, { on := 2, ground := Ground.phase }, { on := 3, ground := Ground.phase }, { on := 4, ground := Ground.phase }, { on := 5, ground := Ground.phase }, { on := 6, ground := Ground.phase }, { on := 7, ground := Ground.phase }, { on := 8, ground := Ground.phase }, { on := 9, ground := Ground.phase }, { on := 10, ground := Ground.phase }, { on := 11, ground := Ground.phase }, { on := 12, ground := Ground.phase }, { on := 13, ground := Ground.phase }, { on := 14, ground := Ground.phase }, { on := 15, ground := Ground.phase }], guard := none }) (v := ?_) rfl ?_ (by assumption) ?_
   rotate_left 1
   ·
    intro w hSw; (try dsimp only at hSw); go_simp; try (with_reducible rfl)
   try simp only [Act.put, setIfInBounds_toArray, set_cons_zero, set_cons_succ]
   refine wpAnyH_done (by kernel_rfl) ?_ _
   go_wp2_with fail
   go_ret
   exact ⟨ret_bool Hr.out, (LK.out _ (by assumption)).1.1⟩
end Go.Proofs.Ytgnianjomjjfgaa

/- impl.provesUnbounded. -/
namespace Go.Proofs.Ytgnianjomjjfgaa
open List (setIfInBounds_toArray set_cons_zero set_cons_succ)
open Go.RowKit
open Ve (R)
open Lp (P Res)
set_option maxRecDepth 100000 in
set_option maxHeartbeats 8000000 in
theorem impl_provesUnbounded (B : Nat) (a b c ra rb rc : Option Addr) (c1 c2 c3 d1 d2 d3 : Nat) (p : P) (st : Int) (X Y Z : List R) (nu de pv : Int) (hn : LpFits p) (hf : ResFits ⟨st, X, Y, Z, (nu, de), pv⟩) (hvl : Lp.vldP p = true) (g : Bool) (hg : Lp.unb p ⟨st, X, Y, Z, (nu, de), pv⟩ = g) (w : World) (hBw : B ≤ w.heap.size) (hz : LpIn B w a b c p) (hr : ResIn B w ra rb rc ⟨st, X, Y, Z, (nu, de), pv⟩) :
  Calls Try.prog 56 #[.agg #[.slice a p.A.length c1, .slice b p.B.length c2, .slice c p.C.length c3], .agg #[.int .i64 st, .slice ra X.length d1, .slice rb Y.length d2, .slice rc Z.length d3, .int .i64 nu, .int .i64 de, .int .i64 pv]] w fun e w' => e = .returned (.bool g) ∧ Below w.heap.size w w' := by
 obtain ⟨n1, n2, n3, _⟩ := hf
 rw [unb_impl hvl] at hg
 simp only at n1 n2 n3
 have HX := Lib.hid (ChkBox.start w a b c ra rb rc c1 c2 c3 d1 d2 d3 p ⟨st, X, Y, Z, (nu, de), pv⟩ 28 32 hBw hz hr)
 have hAB := b_len hvl
 have hC := hn.C
 have hBl := hn.B
 have hC7 : p.C.length ≤ 70 := (Lp.vld_parts hvl).2.1
 obtain ⟨i0, hi, hz0, hz1, hz2⟩ := info_parts info_int
 have HI := Lib.hid hi
 have HZ0 := Lib.hid hz0
 have HZ1 := Lib.hid hz1
 have HZ2 := Lib.hid hz2
 obtain ⟨so, hso⟩ : ∃ so, solP p X p.B = so := ⟨_, rfl⟩
 obtain ⟨s2, hs2⟩ : ∃ s2, solP p Z (Lp.zerosI p.B.length) = s2 := ⟨_, rfl⟩
 obtain ⟨L, hL⟩ : ∃ L : World → Prop, L = ChkBox w a b c ra rb rc c1 c2 c3 d1 d2 d3 p ⟨st, X, Y, Z, (nu, de), pv⟩ 28 32 := ⟨_, rfl⟩
 have hs : Stable L := hL ▸ stable_chk w a b c ra rb rc c1 c2 c3 d1 d2 d3 p ⟨st, X, Y, Z, (nu, de), pv⟩ 28 32
 have hk : ∀ W, L W → ChkBox w a b c ra rb rc c1 c2 c3 d1 d2 d3 p ⟨st, X, Y, Z, (nu, de), pv⟩ 28 32 W := fun W h => hL ▸ h
 have HL0 : Hid (L _) := hL ▸ HX.out
 have Hso := Lib.hid (fun W (h : L W) => impl_isSolution w.heap.size a b c ra b c1 c2 c3 d1 c2 p X p.B hn n1 hAB hBl so hso W (hk W h).1.size (hk W h).2.1 (hk W h).2.2.1.mX (hk W h).2.1.mB)
 have Hs2 := Lib.hid (fun W (h : L W) (A : Option Addr) (C : Nat) (h0 : NumsIn W.heap.size W A (Lp.zerosI p.B.length)) => zerosI_len p.B.length ▸ impl_isSolution W.heap.size a b c rc A c1 c2 c3 d3 C p Z (Lp.zerosI p.B.length) hn n3 (by rw [zerosI_len]; exact hAB) (by rw [zerosI_len]; exact hBl) s2 hs2 W (Nat.le_refl _) ((hk W h).2.1.mono (hk W h).1.size) ((hk W h).2.2.1.mR.mono (hk W h).1.size) h0)
 have Hg := Lib.hid (show (so && (s2 && (Ve.dotK p.C Z && decide ((Ve.dotR p.C Z).1 < 0)))) = g from hso ▸ hs2 ▸ hg)
 have LS := Lib.hid hs
 have LK := Lib.hid hk
 have Cell := Lib.hid (fun w' (h : L w') => (show w'.cell? ⟨w.heap.size, 0, none⟩ = some (.slice a p.A.length c1) ∧ w'.cell? ⟨w.heap.size, 1, none⟩ = some (.slice b p.B.length c2) ∧ w'.cell? ⟨w.heap.size, 2, none⟩ = some (.slice c p.C.length c3) ∧ w'.cell? ⟨w.heap.size + 1, 1, none⟩ = some (.slice ra X.length d1) ∧ w'.cell? ⟨w.heap.size + 1, 3, none⟩ = some (.slice rc Z.length d3) ∧ L w' from ⟨(hk w' h).2.2.2.1.cells.1, (hk w' h).2.2.2.1.cells.2.1, (hk w' h).2.2.2.1.cells.2.2.1, (seven (hk w' h).2.2.2.2).1.2.1, (seven (hk w' h).2.2.2.2).1.2.2.2.1, h⟩))
 clear hz hr hg hvl hso hs2 hi hz0 hz1 hz2 hs hk hL HX
 go_enter Try.func56, Try.ntmps56
 have hin := LS.out.drew HL0.out
 go_upto_region 1 with fail
 cases so with
 | false =>
  have Hr := Lib.hid (show false = g by rw [← Hg.out]; rfl)
  refine wp_region_held_drew (S := (fun w' => w'.cell? ⟨w.heap.size, 0, none⟩ = some (.slice a p.A.length c1) ∧ w'.cell? ⟨w.heap.size, 1, none⟩ = some (.slice b p.B.length c2) ∧ w'.cell? ⟨w.heap.size, 2, none⟩ = some (.slice c p.C.length c3) ∧ w'.cell? ⟨w.heap.size + 1, 1, none⟩ = some (.slice ra X.length d1) ∧ w'.cell? ⟨w.heap.size + 1, 3, none⟩ = some (.slice rc Z.length d3) ∧ L w')) (by kernel_rfl) ?_ (fun hHeld => ?_)
  ·
   exact Cell.out _ hin
  refine tkH (i := 0) (oi := { dst := some 7, op := Op.load 28 (Operand.tmp 2), type := 28, pos := "l05_lp.go:125", after := #[], guard := none }) (v := ?_) rfl ?_ (by assumption) ?_
  rotate_left 1
  ·
   intro w hSw; (try dsimp only at hSw); go_simp; try (with_reducible rfl)
  try simp only [Act.put, setIfInBounds_toArray, set_cons_zero, set_cons_succ]
  refine tkH (i := 1) (oi := { dst := some 8, op := Op.fieldAddr 32 (Operand.tmp 3) 1, type := 0, pos := "l05_lp.go:125", after := #[], guard := none }) (v := ?_) rfl ?_ (by assumption) ?_
  rotate_left 1
  ·
   intro w hSw; (try dsimp only at hSw); go_simp; try (with_reducible rfl)
  try simp only [Act.put, setIfInBounds_toArray, set_cons_zero, set_cons_succ]
  refine tkH (i := 2) (oi := { dst := some 9, op := Op.load 26 (Operand.tmp 8), type := 26, pos := "l05_lp.go:125", after := #[{ on := 1, ground := Ground.data }], guard := none }) (v := ?_) rfl ?_ (by assumption) ?_
  rotate_left 1
  ·
   intro w hSw; (try dsimp only at hSw); go_simp; try (with_reducible rfl)
  try simp only [Act.put, setIfInBounds_toArray, set_cons_zero, set_cons_succ]
  refine tkH (i := 3) (oi := { dst := some 10, op := Op.fieldAddr 28 (Operand.tmp 2) 1, type := 0, pos := "l05_lp.go:125", after := #[], guard := none }) (v := ?_) rfl ?_ (by assumption) ?_
  rotate_left 1
  ·
   intro w hSw; (try dsimp only at hSw); go_simp; try (with_reducible rfl)
  try simp only [Act.put, setIfInBounds_toArray, set_cons_zero, set_cons_succ]
  refine tkH (i := 4) (oi := { dst := some 11, op := Op.load 25 (Operand.tmp 10), type := 25, pos := "l05_lp.go:125", after := #[{ on := 3, ground := Ground.data }], guard := none }) (v := ?_) rfl ?_ (by assumption) ?_
  rotate_left 1
  ·
   intro w hSw; (try dsimp only at hSw); go_simp; try (with_reducible rfl)
  try simp only [Act.put, setIfInBounds_toArray, set_cons_zero, set_cons_succ]
  refine wpAnyH_ready (rs := [5]) (by kernel_rfl) (by simp) ?_
  refine AllReadyH.cons (o := { dst := some 12, op := Op.call { callee := Callee.value (Operand.func 40), args := #[Operand.tmp 7, Operand.tmp 9, Operand.tmp 11], argTypes := #[28, 26, 25] }, type := 4, pos := "l05_lp.go:125", after := #[{ on := 0, ground := Ground.data }, { on := 2, ground := Ground.data }, { on := 4, ground := Ground.data }], guard := none }) (rs := []) rfl (fun K hK => ?_) AllReadyH.nil
  go_simp
  (go_at_call 40; refine (calls_k LS.out (Hso.out _ (by assumption)) (by assumption)).mono ?_; rintro e w' ⟨rfl, hk5, hin5⟩)
  refine hK.out _ _ ?_ (fun hHeld => ?_)
  ·
   exact Cell.out _ (by assumption)
  clear hK K
  try simp only [Act.put, setIfInBounds_toArray, set_cons_zero, set_cons_succ]
  refine tkH (i := 6) (oi := { dst := some 13, op := Op.unOp UnOp.not 4 (Operand.tmp 12), type := 4, pos := "l05_lp.go:125", after := #[{ on := 5, ground := Ground.data }], guard := none }) (v := ?_) rfl ?_ (by assumption) ?_
  rotate_left 1
  ·
   intro w hSw; (try dsimp only at hSw); go_simp; try (with_reducible rfl)
  try simp only [Act.put, setIfInBounds_toArray, set_cons_zero, set_cons_succ]
  refine tkH (i := 7) (oi := { dst := some 14, op := Op.move (Operand.tmp 13), type := 4, pos := "l05_lp.go:125", after := #[{ on := 6, ground := Ground.data }, { on := 5, ground := Ground.chain }], guard := none }) (v := ?_) rfl ?_ (by assumption) ?_
  rotate_left 1
  ·
   intro w hSw; (try dsimp only at hSw); go_simp; try (with_reducible rfl)
  try simp only [Act.put, setIfInBounds_toArray, set_cons_zero, set_cons_succ]
  refine tkHu (i := 8) (oi := { dst := some 15, op := Op.load 28 (Operand.tmp 2), type := 28, pos := "l05_lp.go:125", after := #[{ on := 7, ground := Ground.guard }], guard := some (7, false) }) rfl (by assumption) ?_
  try simp only [Act.put, setIfInBounds_toArray, set_cons_zero, set_cons_succ]
  refine tkHu (i := 9) (oi := { dst := some 16, op := Op.fieldAddr 32 (Operand.tmp 3) 3, type := 0, pos := "l05_lp.go:125", after := #[{ on := 7, ground := Ground.guard }], guard := some (7, false) }) rfl (by assumption) ?_
  try simp only [Act.put, setIfInBounds_toArray, set_cons_zero, set_cons_succ]
  refine tkHu (i := 10) (oi := { dst := some 17, op := Op.load 26 (Operand.tmp 16), type := 26, pos := "l05_lp.go:125", after := #[{ on := 9, ground := Ground.data }, { on := 7, ground := Ground.guard }], guard := some (7, false) }) rfl (by assumption) ?_
  try simp only [Act.put, setIfInBounds_toArray, set_cons_zero, set_cons_succ]
  refine tkHu (i := 11) (oi := { dst := some 18, op := Op.fieldAddr 28 (Operand.tmp 2) 1, type := 0, pos := "l05_lp.go:125", after := #[{ on := 7, ground := Ground.guard }], guard := some (7, false) }) rfl (by assumption) ?_
  try simp only [Act.put, setIfInBounds_toArray, set_cons_zero, set_cons_succ]
  refine tkHu (i := 12) (oi := { dst := some 19, op := Op.load 25 (Operand.tmp 18), type := 25, pos := "l05_lp.go:125", after := #[{ on := 11, ground := Ground.data }, { on := 7, ground := Ground.guard }], guard := some (7, false) }) rfl (by assumption) ?_
  try simp only [Act.put, setIfInBounds_toArray, set_cons_zero, set_cons_succ]
  refine tkHu (i := 13) (oi := { dst := some 20, op := Op.call { callee := Callee.builtin Builtin.len, args := #[Operand.tmp 19], argTypes := #[25] }, type := 3, pos := "l05_lp.go:125", after := #[{ on := 12, ground := Ground.data }, { on := 7, ground := Ground.guard }], guard := some (7, false) }) rfl (by assumption) ?_
  try simp only [Act.put, setIfInBounds_toArray, set_cons_zero, set_cons_succ]
  refine tkHu (i := 14) (oi := { dst := some 21, op := Op.makeSlice 25 (Operand.tmp 20) (Operand.tmp 20), type := 25, pos := "l05_lp.go:125", after := #[{ on := 13, ground := Ground.data }, { on := 13, ground := Ground.data }, { on := 7, ground := Ground.guard }], guard := some (7, false) }) rfl (by assumption) ?_
  try simp only [Act.put, setIfInBounds_toArray, set_cons_zero, set_cons_succ]
  refine tkHu (i := 15) (oi := { dst := some 22, op := Op.call { callee := Callee.value (Operand.func 40), args := #[Operand.tmp 15, Operand.tmp 17, Operand.tmp 21], argTypes := #[28, 26, 25] }, type := 4, pos := "l05_lp.go:125", after := #[{ on := 8, ground := Ground.data }, { on := 10, ground := Ground.data }, { on := 14, ground := Ground.data }, { on := 7, ground := Ground.chain }, { on := 7, ground := Ground.guard }], guard := some (7, false) }) rfl (by assumption) ?_
  try simp only [Act.put, setIfInBounds_toArray, set_cons_zero, set_cons_succ]
  refine tkHu (i := 16) (oi := { dst := some 23, op := Op.unOp UnOp.not 4 (Operand.tmp 22), type := 4, pos := "l05_lp.go:125", after := #[{ on := 15, ground := Ground.data }, { on := 7, ground := Ground.guard }], guard := some (7, false) }) rfl (by assumption) ?_
  try simp only [Act.put, setIfInBounds_toArray, set_cons_zero, set_cons_succ]
  refine tkH (i := 17) (oi := { dst := some 24, op := Op.pick (Operand.tmp 14) (Operand.const (Value.bool true)) (Operand.tmp 23), type := 4, pos := "l05_lp.go:125", after := #[{ on := 7, ground := Ground.data }, { on := 16, ground := Ground.data }], guard := none }) (v := ?_) rfl ?_ (by assumption) ?_
  rotate_left 1
  ·
   intro w hSw; (try dsimp only at hSw); go_simp; try (with_reducible rfl)
  try simp only [Act.put, setIfInBounds_toArray, set_cons_zero, set_cons_succ]
  refine wpAnyH_done (by kernel_rfl) ?_ _
  go_wp2_with fail
  go_ret
  exact ⟨ret_bool Hr.out, (LK.out _ (by assumption)).1⟩
 | true =>
  cases s2 with
  | false =>
   have Hr := Lib.hid (show false = g by rw [← Hg.out]; rfl)
   refine wp_region_held_drew (S := (fun w' => w'.cell? ⟨w.heap.size, 0, none⟩ = some (.slice a p.A.length c1) ∧ w'.cell? ⟨w.heap.size, 1, none⟩ = some (.slice b p.B.length c2) ∧ w'.cell? ⟨w.heap.size, 2, none⟩ = some (.slice c p.C.length c3) ∧ w'.cell? ⟨w.heap.size + 1, 1, none⟩ = some (.slice ra X.length d1) ∧ w'.cell? ⟨w.heap.size + 1, 3, none⟩ = some (.slice rc Z.length d3) ∧ L w')) (by kernel_rfl) ?_ (fun hHeld => ?_)
   ·
    exact Cell.out _ hin
   refine tkH (i := 0) (oi := { dst := some 7, op := Op.load 28 (Operand.tmp 2), type := 28, pos := "l05_lp.go:125", after := #[], guard := none }) (v := ?_) rfl ?_ (by assumption) ?_
   rotate_left 1
   ·
    intro w hSw; (try dsimp only at hSw); go_simp; try (with_reducible rfl)
   try simp only [Act.put, setIfInBounds_toArray, set_cons_zero, set_cons_succ]
   refine tkH (i := 1) (oi := { dst := some 8, op := Op.fieldAddr 32 (Operand.tmp 3) 1, type := 0, pos := "l05_lp.go:125", after := #[], guard := none }) (v := ?_) rfl ?_ (by assumption) ?_
   rotate_left 1
   ·
    intro w hSw; (try dsimp only at hSw); go_simp; try (with_reducible rfl)
   try simp only [Act.put, setIfInBounds_toArray, set_cons_zero, set_cons_succ]
   refine tkH (i := 2) (oi := { dst := some 9, op := Op.load 26 (Operand.tmp 8), type := 26, pos := "l05_lp.go:125", after := #[{ on := 1, ground := Ground.data }], guard := none }) (v := ?_) rfl ?_ (by assumption) ?_
   rotate_left 1
   ·
    intro w hSw; (try dsimp only at hSw); go_simp; try (with_reducible rfl)
   try simp only [Act.put, setIfInBounds_toArray, set_cons_zero, set_cons_succ]
   refine tkH (i := 3) (oi := { dst := some 10, op := Op.fieldAddr 28 (Operand.tmp 2) 1, type := 0, pos := "l05_lp.go:125", after := #[], guard := none }) (v := ?_) rfl ?_ (by assumption) ?_
   rotate_left 1
   ·
    intro w hSw; (try dsimp only at hSw); go_simp; try (with_reducible rfl)
   try simp only [Act.put, setIfInBounds_toArray, set_cons_zero, set_cons_succ]
   refine tkH (i := 4) (oi := { dst := some 11, op := Op.load 25 (Operand.tmp 10), type := 25, pos := "l05_lp.go:125", after := #[{ on := 3, ground := Ground.data }], guard := none }) (v := ?_) rfl ?_ (by assumption) ?_
   rotate_left 1
   ·
    intro w hSw; (try dsimp only at hSw); go_simp; try (with_reducible rfl)
   try simp only [Act.put, setIfInBounds_toArray, set_cons_zero, set_cons_succ]
   refine wpAnyH_ready (rs := [5]) (by kernel_rfl) (by simp) ?_
   refine AllReadyH.cons (o := { dst := some 12, op := Op.call { callee := Callee.value (Operand.func 40), args := #[Operand.tmp 7, Operand.tmp 9, Operand.tmp 11], argTypes := #[28, 26, 25] }, type := 4, pos := "l05_lp.go:125", after := #[{ on := 0, ground := Ground.data }, { on := 2, ground := Ground.data }, { on := 4, ground := Ground.data }], guard := none }) (rs := []) rfl (fun K hK => ?_) AllReadyH.nil
   go_simp
   (go_at_call 40; refine (calls_k LS.out (Hso.out _ (by assumption)) (by assumption)).mono ?_; rintro e w' ⟨rfl, hk5, hin5⟩)
   refine hK.out _ _ ?_ (fun hHeld => ?_)
   ·
    exact Cell.out _ (by assumption)
   clear hK K
   try simp only [Act.put, setIfInBounds_toArray, set_cons_zero, set_cons_succ]
   refine tkH (i := 6) (oi := { dst := some 13, op := Op.unOp UnOp.not 4 (Operand.tmp 12), type := 4, pos := "l05_lp.go:125", after := #[{ on := 5, ground := Ground.data }], guard := none }) (v := ?_) rfl ?_ (by assumption) ?_
   rotate_left 1
   ·
    intro w hSw; (try dsimp only at hSw); go_simp; try (with_reducible rfl)
   try simp only [Act.put, setIfInBounds_toArray, set_cons_zero, set_cons_succ]
   refine tkH (i := 7) (oi := { dst := some 14, op := Op.move (Operand.tmp 13), type := 4, pos := "l05_lp.go:125", after := #[{ on := 6, ground := Ground.data }, { on := 5, ground := Ground.chain }], guard := none }) (v := ?_) rfl ?_ (by assumption) ?_
   rotate_left 1
   ·
    intro w hSw; (try dsimp only at hSw); go_simp; try (with_reducible rfl)
   try simp only [Act.put, setIfInBounds_toArray, set_cons_zero, set_cons_succ]
   refine tkH (i := 8) (oi := { dst := some 15, op := Op.load 28 (Operand.tmp 2), type := 28, pos := "l05_lp.go:125", after := #[{ on := 7, ground := Ground.guard }], guard := some (7, false) }) (v := ?_) rfl ?_ (by assumption) ?_
   rotate_left 1
   ·
    intro w hSw; (try dsimp only at hSw); go_simp; try (with_reducible rfl)
   try simp only [Act.put, setIfInBounds_toArray, set_cons_zero, set_cons_succ]
   refine tkH (i := 9) (oi := { dst := some 16, op := Op.fieldAddr 32 (Operand.tmp 3) 3, type := 0, pos := "l05_lp.go:125", after := #[{ on := 7, ground := Ground.guard }], guard := some (7, false) }) (v := ?_) rfl ?_ (by assumption) ?_
   rotate_left 1
   ·
    intro w hSw; (try dsimp only at hSw); go_simp; try (with_reducible rfl)
   try simp only [Act.put, setIfInBounds_toArray, set_cons_zero, set_cons_succ]
   refine tkH (i := 10) (oi := { dst := some 17, op := Op.load 26 (Operand.tmp 16), type := 26, pos := "l05_lp.go:125", after := #[{ on := 9, ground := Ground.data }, { on := 7, ground := Ground.guard }], guard := some (7, false) }) (v := ?_) rfl ?_ (by assumption) ?_
   rotate_left 1
   ·
    intro w hSw; (try dsimp only at hSw); go_simp; try (with_reducible rfl)
   try simp only [Act.put, setIfInBounds_toArray, set_cons_zero, set_cons_succ]
   refine tkH (i := 11) (oi := { dst := some 18, op := Op.fieldAddr 28 (Operand.tmp 2) 1, type := 0, pos := "l05_lp.go:125", after := #[{ on := 7, ground := Ground.guard }], guard := some (7, false) }) (v := ?_) rfl ?_ (by assumption) ?_
   rotate_left 1
   ·
    intro w hSw; (try dsimp only at hSw); go_simp; try (with_reducible rfl)
   try simp only [Act.put, setIfInBounds_toArray, set_cons_zero, set_cons_succ]
   refine tkH (i := 12) (oi := { dst := some 19, op := Op.load 25 (Operand.tmp 18), type := 25, pos := "l05_lp.go:125", after := #[{ on := 11, ground := Ground.data }, { on := 7, ground := Ground.guard }], guard := some (7, false) }) (v := ?_) rfl ?_ (by assumption) ?_
   rotate_left 1
   ·
    intro w hSw; (try dsimp only at hSw); go_simp; try (with_reducible rfl)
   try simp only [Act.put, setIfInBounds_toArray, set_cons_zero, set_cons_succ]
   refine tkH (i := 13) (oi := { dst := some 20, op := Op.call { callee := Callee.builtin Builtin.len, args := #[Operand.tmp 19], argTypes := #[25] }, type := 3, pos := "l05_lp.go:125", after := #[{ on := 12, ground := Ground.data }, { on := 7, ground := Ground.guard }], guard := some (7, false) }) (v := ?_) rfl ?_ (by assumption) ?_
   rotate_left 1
   ·
    intro w hSw; (try dsimp only at hSw); go_simp; try (with_reducible rfl)
   try simp only [Act.put, setIfInBounds_toArray, set_cons_zero, set_cons_succ]
   refine wpAnyH_ready (rs := [14]) (by kernel_rfl) (by simp) ?_
   refine AllReadyH.cons (o := { dst := some 21, op := Op.makeSlice 25 (Operand.tmp 20) (Operand.tmp 20), type := 25, pos := "l05_lp.go:125", after := #[{ on := 13, ground := Ground.data }, { on := 13, ground := Ground.data }, { on := 7, ground := Ground.guard }], guard := some (7, false) }) (rs := []) rfl (fun K hK => ?_) AllReadyH.nil
   (refine step_make_full (by kernel_rfl) (.tmp 20) (.tmp 20) 25 rfl _ 3 i0 (.int .i64 0) 1 Try.underlying25 HI.out HZ0.out HZ1.out rfl .i64 .i64 _ _ p.B.length rfl rfl rfl rfl (by rw [HZ2.out]; omega) (by unfold maxLen; omega) (Nat.le_refl _) ?_; intro w9 hown hgrow; have hin9 := LS.out _ _ (below_made hgrow) (by assumption : L _); have ho9 := zeros_own hown; obtain ⟨zb, zc, hzv, hzr, hza, _⟩ := own_reads ho9; obtain ⟨rfl, rfl⟩ := slice_inj hzv; have hzn := NumsIn.of_ints (B := w9.heap.size) hzr fun q hq => (hza q hq).2; clear hown hgrow ho9 hzr hza hzv)
   refine hK.out _ _ ?_ (fun hHeld => ?_)
   ·
    exact Cell.out _ (by assumption)
   clear hK K
   try simp only [Act.put, setIfInBounds_toArray, set_cons_zero, set_cons_succ]
   refine wpAnyH_ready (rs := [15]) (by kernel_rfl) (by simp) ?_
   refine AllReadyH.cons (o := { dst := some 22, op := Op.call { callee := Callee.value (Operand.func 40), args := #[Operand.tmp 15, Operand.tmp 17, Operand.tmp 21], argTypes := #[28, 26, 25] }, type := 4, pos := "l05_lp.go:125", after := #[{ on := 8, ground := Ground.data }, { on := 10, ground := Ground.data }, { on := 14, ground := Ground.data }, { on := 7, ground := Ground.chain }, { on := 7, ground := Ground.guard }], guard := some (7, false) }) (rs := []) rfl (fun K hK => ?_) AllReadyH.nil
   go_simp
   (go_at_call 40; refine (calls_k LS.out (Hs2.out _ (by assumption) _ _ (by assumption)) (by assumption)).mono ?_; rintro e w' ⟨rfl, hk7, hin7⟩)
   refine hK.out _ _ ?_ (fun hHeld => ?_)
   ·
    exact Cell.out _ (by assumption)
   clear hK K
   try simp only [Act.put, setIfInBounds_toArray, set_cons_zero, set_cons_succ]
   refine tkH (i := 16) (oi := { dst := some 23, op := Op.unOp UnOp.not 4 (Operand.tmp 22), type := 4, pos := "l05_lp.go:125", after := #[{ on := 15, ground := Ground.data }, { on := 7, ground := Ground.guard }], guard := some (7, false) }) (v := ?_) rfl ?_ (by assumption) ?_
   rotate_left 1
   ·
    intro w hSw; (try dsimp only at hSw); go_simp; try (with_reducible rfl)
   try simp only [Act.put, setIfInBounds_toArray, set_cons_zero, set_cons_succ]
   refine tkH (i := 17) (oi := { dst := some 24, op := Op.pick (Operand.tmp 14) (Operand.const (Value.bool true)) (Operand.tmp 23), type := 4, pos := "l05_lp.go:125", after := #[{ on := 7, ground := Ground.data }, { on := 16, ground := Ground.data }], guard := none }) (v := ?_) rfl ?_ (by assumption) ?_
   rotate_left 1
   ·
    intro w hSw; (try dsimp only at hSw); go_simp; try (with_reducible rfl)
   try simp only [Act.put, setIfInBounds_toArray, set_cons_zero, set_cons_succ]
   refine wpAnyH_done (by kernel_rfl) ?_ _
   go_wp2_with fail
   go_ret
   exact ⟨ret_bool Hr.out, (LK.out _ (by assumption)).1⟩
  | true =>
   have Hg2 : Hid ((Ve.dotK p.C Z && decide ((Ve.dotR p.C Z).1 < 0)) = g) := Hg.out
   refine wp_region_held_drew (S := (fun w' => w'.cell? ⟨w.heap.size, 0, none⟩ = some (.slice a p.A.length c1) ∧ w'.cell? ⟨w.heap.size, 1, none⟩ = some (.slice b p.B.length c2) ∧ w'.cell? ⟨w.heap.size, 2, none⟩ = some (.slice c p.C.length c3) ∧ w'.cell? ⟨w.heap.size + 1, 1, none⟩ = some (.slice ra X.length d1) ∧ w'.cell? ⟨w.heap.size + 1, 3, none⟩ = some (.slice rc Z.length d3) ∧ L w')) (by kernel_rfl) ?_ (fun hHeld => ?_)
   ·
    exact Cell.out _ hin
   refine tkH (i := 0) (oi := { dst := some 7, op := Op.load 28 (Operand.tmp 2), type := 28, pos := "l05_lp.go:125", after := #[], guard := none }) (v := ?_) rfl ?_ (by assumption) ?_
   rotate_left 1
   ·
    intro w hSw; (try dsimp only at hSw); go_simp; try (with_reducible rfl)
   try simp only [Act.put, setIfInBounds_toArray, set_cons_zero, set_cons_succ]
   refine tkH (i := 1) (oi := { dst := some 8, op := Op.fieldAddr 32 (Operand.tmp 3) 1, type := 0, pos := "l05_lp.go:125", after := #[], guard := none }) (v := ?_) rfl ?_ (by assumption) ?_
   rotate_left 1
   ·
    intro w hSw; (try dsimp only at hSw); go_simp; try (with_reducible rfl)
   try simp only [Act.put, setIfInBounds_toArray, set_cons_zero, set_cons_succ]
   refine tkH (i := 2) (oi := { dst := some 9, op := Op.load 26 (Operand.tmp 8), type := 26, pos := "l05_lp.go:125", after := #[{ on := 1, ground := Ground.data }], guard := none }) (v := ?_) rfl ?_ (by assumption) ?_
   rotate_left 1
   ·
    intro w hSw; (try dsimp only at hSw); go_simp; try (with_reducible rfl)
   try simp only [Act.put, setIfInBounds_toArray, set_cons_zero, set_cons_succ]
   refine tkH (i := 3) (oi := { dst := some 10, op := Op.fieldAddr 28 (Operand.tmp 2) 1, type := 0, pos := "l05_lp.go:125", after := #[], guard := none }) (v := ?_) rfl ?_ (by assumption) ?_
   rotate_left 1
   ·
    intro w hSw; (try dsimp only at hSw); go_simp; try (with_reducible rfl)
   try simp only [Act.put, setIfInBounds_toArray, set_cons_zero, set_cons_succ]
   refine tkH (i := 4) (oi := { dst := some 11, op := Op.load 25 (Operand.tmp 10), type := 25, pos := "l05_lp.go:125", after := #[{ on := 3, ground := Ground.data }], guard := none }) (v := ?_) rfl ?_ (by assumption) ?_
   rotate_left 1
   ·
    intro w hSw; (try dsimp only at hSw); go_simp; try (with_reducible rfl)
   try simp only [Act.put, setIfInBounds_toArray, set_cons_zero, set_cons_succ]
   refine wpAnyH_ready (rs := [5]) (by kernel_rfl) (by simp) ?_
   refine AllReadyH.cons (o := { dst := some 12, op := Op.call { callee := Callee.value (Operand.func 40), args := #[Operand.tmp 7, Operand.tmp 9, Operand.tmp 11], argTypes := #[28, 26, 25] }, type := 4, pos := "l05_lp.go:125", after := #[{ on := 0, ground := Ground.data }, { on := 2, ground := Ground.data }, { on := 4, ground := Ground.data }], guard := none }) (rs := []) rfl (fun K hK => ?_) AllReadyH.nil
   go_simp
   (go_at_call 40; refine (calls_k LS.out (Hso.out _ (by assumption)) (by assumption)).mono ?_; rintro e w' ⟨rfl, hk5, hin5⟩)
   refine hK.out _ _ ?_ (fun hHeld => ?_)
   ·
    exact Cell.out _ (by assumption)
   clear hK K
   try simp only [Act.put, setIfInBounds_toArray, set_cons_zero, set_cons_succ]
   refine tkH (i := 6) (oi := { dst := some 13, op := Op.unOp UnOp.not 4 (Operand.tmp 12), type := 4, pos := "l05_lp.go:125", after := #[{ on := 5, ground := Ground.data }], guard := none }) (v := ?_) rfl ?_ (by assumption) ?_
   rotate_left 1
   ·
    intro w hSw; (try dsimp only at hSw); go_simp; try (with_reducible rfl)
   try simp only [Act.put, setIfInBounds_toArray, set_cons_zero, set_cons_succ]
   refine tkH (i := 7) (oi := { dst := some 14, op := Op.move (Operand.tmp 13), type := 4, pos := "l05_lp.go:125", after := #[{ on := 6, ground := Ground.data }, { on := 5, ground := Ground.chain }], guard := none }) (v := ?_) rfl ?_ (by assumption) ?_
   rotate_left 1
   ·
    intro w hSw; (try dsimp only at hSw); go_simp; try (with_reducible rfl)
   try simp only [Act.put, setIfInBounds_toArray, set_cons_zero, set_cons_succ]
   refine tkH (i := 8) (oi := { dst := some 15, op := Op.load 28 (Operand.tmp 2), type := 28, pos := "l05_lp.go:125", after := #[{ on := 7, ground := Ground.guard }], guard := some (7, false) }) (v := ?_) rfl ?_ (by assumption) ?_
   rotate_left 1
   ·
    intro w hSw; (try dsimp only at hSw); go_simp; try (with_reducible rfl)
   try simp only [Act.put, setIfInBounds_toArray, set_cons_zero, set_cons_succ]
   refine tkH (i := 9) (oi := { dst := some 16, op := Op.fieldAddr 32 (Operand.tmp 3) 3, type := 0, pos := "l05_lp.go:125", after := #[{ on := 7, ground := Ground.guard }], guard := some (7, false) }) (v := ?_) rfl ?_ (by assumption) ?_
   rotate_left 1
   ·
    intro w hSw; (try dsimp only at hSw); go_simp; try (with_reducible rfl)
   try simp only [Act.put, setIfInBounds_toArray, set_cons_zero, set_cons_succ]
   refine tkH (i := 10) (oi := { dst := some 17, op := Op.load 26 (Operand.tmp 16), type := 26, pos := "l05_lp.go:125", after := #[{ on := 9, ground := Ground.data }, { on := 7, ground := Ground.guard }], guard := some (7, false) }) (v := ?_) rfl ?_ (by assumption) ?_
   rotate_left 1
   ·
    intro w hSw; (try dsimp only at hSw); go_simp; try (with_reducible rfl)
   try simp only [Act.put, setIfInBounds_toArray, set_cons_zero, set_cons_succ]
   refine tkH (i := 11) (oi := { dst := some 18, op := Op.fieldAddr 28 (Operand.tmp 2) 1, type := 0, pos := "l05_lp.go:125", after := #[{ on := 7, ground := Ground.guard }], guard := some (7, false) }) (v := ?_) rfl ?_ (by assumption) ?_
   rotate_left 1
   ·
    intro w hSw; (try dsimp only at hSw); go_simp; try (with_reducible rfl)
   try simp only [Act.put, setIfInBounds_toArray, set_cons_zero, set_cons_succ]
   refine tkH (i := 12) (oi := { dst := some 19, op := Op.load 25 (Operand.tmp 18), type := 25, pos := "l05_lp.go:125", after := #[{ on := 11, ground := Ground.data }, { on := 7, ground := Ground.guard }], guard := some (7, false) }) (v := ?_) rfl ?_ (by assumption) ?_
   rotate_left 1
   ·
    intro w hSw; (try dsimp only at hSw); go_simp; try (with_reducible rfl)
   try simp only [Act.put, setIfInBounds_toArray, set_cons_zero, set_cons_succ]
   refine tkH (i := 13) (oi := { dst := some 20, op := Op.call { callee := Callee.builtin Builtin.len, args := #[Operand.tmp 19], argTypes := #[25] }, type := 3, pos := "l05_lp.go:125", after := #[{ on := 12, ground := Ground.data }, { on := 7, ground := Ground.guard }], guard := some (7, false) }) (v := ?_) rfl ?_ (by assumption) ?_
   rotate_left 1
   ·
    intro w hSw; (try dsimp only at hSw); go_simp; try (with_reducible rfl)
   try simp only [Act.put, setIfInBounds_toArray, set_cons_zero, set_cons_succ]
   refine wpAnyH_ready (rs := [14]) (by kernel_rfl) (by simp) ?_
   refine AllReadyH.cons (o := { dst := some 21, op := Op.makeSlice 25 (Operand.tmp 20) (Operand.tmp 20), type := 25, pos := "l05_lp.go:125", after := #[{ on := 13, ground := Ground.data }, { on := 13, ground := Ground.data }, { on := 7, ground := Ground.guard }], guard := some (7, false) }) (rs := []) rfl (fun K hK => ?_) AllReadyH.nil
   (refine step_make_full (by kernel_rfl) (.tmp 20) (.tmp 20) 25 rfl _ 3 i0 (.int .i64 0) 1 Try.underlying25 HI.out HZ0.out HZ1.out rfl .i64 .i64 _ _ p.B.length rfl rfl rfl rfl (by rw [HZ2.out]; omega) (by unfold maxLen; omega) (Nat.le_refl _) ?_; intro w9 hown hgrow; have hin9 := LS.out _ _ (below_made hgrow) (by assumption : L _); have ho9 := zeros_own hown; obtain ⟨zb, zc, hzv, hzr, hza, _⟩ := own_reads ho9; obtain ⟨rfl, rfl⟩ := slice_inj hzv; have hzn := NumsIn.of_ints (B := w9.heap.size) hzr fun q hq => (hza q hq).2; clear hown hgrow ho9 hzr hza hzv)
   refine hK.out _ _ ?_ (fun hHeld => ?_)
   ·
    exact Cell.out _ (by assumption)
   clear hK K
   try simp only [Act.put, setIfInBounds_toArray, set_cons_zero, set_cons_succ]
   refine wpAnyH_ready (rs := [15]) (by kernel_rfl) (by simp) ?_
   refine AllReadyH.cons (o := { dst := some 22, op := Op.call { callee := Callee.value (Operand.func 40), args := #[Operand.tmp 15, Operand.tmp 17, Operand.tmp 21], argTypes := #[28, 26, 25] }, type := 4, pos := "l05_lp.go:125", after := #[{ on := 8, ground := Ground.data }, { on := 10, ground := Ground.data }, { on := 14, ground := Ground.data }, { on := 7, ground := Ground.chain }, { on := 7, ground := Ground.guard }], guard := some (7, false) }) (rs := []) rfl (fun K hK => ?_) AllReadyH.nil
   go_simp
   (go_at_call 40; refine (calls_k LS.out (Hs2.out _ (by assumption) _ _ (by assumption)) (by assumption)).mono ?_; rintro e w' ⟨rfl, hk7, hin7⟩)
   refine hK.out _ _ ?_ (fun hHeld => ?_)
   ·
    exact Cell.out _ (by assumption)
   clear hK K
   try simp only [Act.put, setIfInBounds_toArray, set_cons_zero, set_cons_succ]
   refine tkH (i := 16) (oi := { dst := some 23, op := Op.unOp UnOp.not 4 (Operand.tmp 22), type := 4, pos := "l05_lp.go:125", after := #[{ on := 15, ground := Ground.data }, { on := 7, ground := Ground.guard }], guard := some (7, false) }) (v := ?_) rfl ?_ (by assumption) ?_
   rotate_left 1
   ·
    intro w hSw; (try dsimp only at hSw); go_simp; try (with_reducible rfl)
   try simp only [Act.put, setIfInBounds_toArray, set_cons_zero, set_cons_succ]
   refine tkH (i := 17) (oi := { dst := some 24, op := Op.pick (Operand.tmp 14) (Operand.const (Value.bool true)) (Operand.tmp 23), type := 4, pos := "l05_lp.go:125", after := #[{ on := 7, ground := Ground.data }, { on := 16, ground := Ground.data }], guard := none }) (v := ?_) rfl ?_ (by assumption) ?_
   rotate_left 1
   ·
    intro w hSw; (try dsimp only at hSw); go_simp; try (with_reducible rfl)
   try simp only [Act.put, setIfInBounds_toArray, set_cons_zero, set_cons_succ]
   refine wpAnyH_done (by kernel_rfl) ?_ _
   clear hHeld
   have HX1 := Lib.hid (LK.out _ (by assumption))
   obtain ⟨x0, x1, x2, _⟩ := HX1.out.2.2.2.1.cells
   obtain ⟨⟨r0, r1, r2, r3, r4, r5, r6⟩, _⟩ := seven HX1.out.2.2.2.2
   go_wp2_with fail
   refine (impl_DotRat w.heap.size c rc c3 d3 p.C Z hC n3 _ HX1.out.1.size HX1.out.2.1.mC HX1.out.2.2.1.mR).mono ?_
   rintro e w3 ⟨rfl, k3⟩
   generalize Ve.dotR p.C Z = D at *
   generalize Ve.dotK p.C Z = K at *
   have hal3 : Below w3.heap.size w3 (w3.alloc (.cells #[.int .i64 D.1, .int .i64 D.2] 30)) := (Below.refl _ _).alloc (Nat.le_refl _) _
   have HX3 := Lib.hid ((HX1.out.up k3).up hal3)
   obtain ⟨q0, q1, _, _⟩ := (BoxAt.new w3 D).four
   clear k3 hal3 x0 x1 x2 r0 r1 r2 r3 r4 r5 r6
   cases K with
   | false =>
    have Hr := Lib.hid (show false = g by rw [← Hg2.out]; rfl)
    go_wp2_with fail
    go_ret
    exact ⟨ret_bool Hr.out, HX3.out.1⟩
   | true =>
    have Hr := Lib.hid (show decide (D.1 < 0) = g by rw [← Hg2.out]; rfl)
    go_wp2_with fail
    go_ret
    exact ⟨ret_bool Hr.out, HX3.out.1⟩
end Go.Proofs.Ytgnianjomjjfgaa

/- A map from integers to functions that the call makes; impl.certificateChecks. -/
namespace Go.Proofs.Ytgnianjomjjfgaa
open List (setIfInBounds_toArray set_cons_zero set_cons_succ)
open Go.RowKit
open Ve (R)
open Lp (P Res)
def asIs (v : Value) : Option (DataW Value × List MemPlace) := some (.held v, [])
def certs : DataW Value := .map [(.int .i64 1, .held (.func (.func 54) #[] #[])), (.int .i64 2, .held (.func (.func 55) #[] #[])), (.int .i64 3, .held (.func (.func 56) #[] #[]))]
def Certs (w : World) (b : Nat) : Prop := w.ownsMap Try.prog 3 asIs b 3 certs
theorem Certs.below {w w' : World} {b : Nat} (h : Certs w b) (hb : Below w.heap.size w w') : Certs w' b := by
 obtain ⟨es, cl, h1, h2, h3, h4⟩ := h
 exact ⟨es, cl, (hb.block b (Array.getElem?_eq_some_iff.1 h1).1).trans h1, h2, h3, h4⟩
theorem zero_check (w : World) : (zeroValue 52).run Try.prog w = .ok .nilFunc w := by kernel_rfl
theorem nil_held (f : Value) : (DataW.nil : DataW Value) ≠ .held f := by intro h; cases h
theorem certs_yes {w : World} {b : Nat} (h : Certs w b) {st : Int} {f : Value} (hw : (Lit.int .i64 st).wf = true) (hat : ∀ zd, certs.atKey (.int .i64 st) zd = .held f) :
  (Instr.lookup 54 (.map (some b)) (.int .i64 st) true).run Try.prog w = .ok (.tuple #[f, .bool true]) w := by
 obtain ⟨es, cl, h1, F, h3, h4⟩ := h
 rcases Maps.fit_look true (Maps.int_keyed Try.underlying3) Try.underlying54 (zero_check w) h1 F (Maps.keyOf_int_mk Try.underlying3 hw) with ⟨_, _, hn⟩ | ⟨e0, y, _, _, hrun, hR, ha, _⟩
 ·
  rw [← h4] at hn
  have h7 : (DataW.nil : DataW Value) = .held f := (hn .nil).symm.trans (hat .nil)
  exact absurd h7 (nil_held _)
 ·
  rw [← h4] at ha
  have h5 := (ha .nil).symm.trans (hat .nil)
  unfold asIs at hR
  have h6 := Option.some.inj hR
  rw [← h6] at h5
  have h7 : DataW.held e0.val = .held f := h5
  rw [hrun, DataW.held.inj h7]; rfl
theorem certs_no {w : World} {b : Nat} (h : Certs w b) {st : Int} (hw : (Lit.int .i64 st).wf = true) (hat : ∀ zd, certs.atKey (.int .i64 st) zd = zd) :
  (Instr.lookup 54 (.map (some b)) (.int .i64 st) true).run Try.prog w = .ok (.tuple #[.nilFunc, .bool false]) w := by
 obtain ⟨es, cl, h1, F, h3, h4⟩ := h
 rcases Maps.fit_look true (Maps.int_keyed Try.underlying3) Try.underlying54 (zero_check w) h1 F (Maps.keyOf_int_mk Try.underlying3 hw) with ⟨hrun, _, _⟩ | ⟨e0, y, _, _, hrun, hR, ha, _⟩
 ·
  rw [hrun]; rfl
 ·
  rw [← h4] at ha
  have h5 := (ha .nil).symm.trans (hat .nil)
  unfold asIs at hR
  have h6 := Option.some.inj hR
  rw [← h6] at h5
  have h7 : (DataW.held e0.val : DataW Value) = .nil := h5
  exact absurd h7.symm (nil_held _)
theorem at_one (zd : DataW Value) : certs.atKey (.int .i64 1) zd = .held (.func (.func 54) #[] #[]) := rfl
theorem at_two (zd : DataW Value) : certs.atKey (.int .i64 2) zd = .held (.func (.func 55) #[] #[]) := rfl
theorem at_three (zd : DataW Value) : certs.atKey (.int .i64 3) zd = .held (.func (.func 56) #[] #[]) := rfl
theorem at_other {st : Int} (h1 : st ≠ 1) (h2 : st ≠ 2) (h3 : st ≠ 3) (zd : DataW Value) : certs.atKey (.int .i64 st) zd = zd := by
 have e1 : (1 : Int) ≠ st := fun h => h1 h.symm
 have e2 : (2 : Int) ≠ st := fun h => h2 h.symm
 have e3 : (3 : Int) ≠ st := fun h => h3 h.symm
 simp [certs, DataW.atKey, Lit.sameKey, e1, e2, e3]
set_option maxHeartbeats 1000000 in
theorem impl_certificateChecks (w : World) : Calls Try.prog 25 #[] w fun e w' => (∃ b, e = .returned (.map (some b)) ∧ Certs w' b) ∧ Below w.heap.size w w' := by
 have m0 : (w.alloc (.map #[] 0)).ownsMap Try.prog 3 asIs w.heap.size 0 (.map []) := World.ownsMap_made w Try.prog 3 asIs
 have K := Maps.int_keyed (P := Try.prog) Try.underlying3
 obtain ⟨w1, r1, m1, g1⟩ := m0.update (val := .func (.func 54) #[] #[]) K Try.underlying54 (by unfold maxLen; omega) (Maps.keyOf_int_mk Try.underlying3 (q := .i64) (a := 1) (by decide)) rfl
 obtain ⟨w2, r2, m2, g2⟩ := m1.update (val := .func (.func 55) #[] #[]) K Try.underlying54 (by unfold maxLen; omega) (Maps.keyOf_int_mk Try.underlying3 (q := .i64) (a := 2) (by decide)) rfl
 obtain ⟨w3, r3, m3, g3⟩ := m2.update (val := .func (.func 56) #[] #[]) K Try.underlying54 (by unfold maxLen; omega) (Maps.keyOf_int_mk Try.underlying3 (q := .i64) (a := 3) (by decide)) rfl
 have hc : Hid (Certs w3 w.heap.size) := m3
 have hl : ∀ g, some w.heap.size = some g → w.heap.size ≤ g := fun g h => by injection h with h; omega
 have hb : Hid (Below w.heap.size w w3) :=
  ((((Below.refl w.heap.size w).alloc (Nat.le_refl _) (.map #[] 0)).grown g1 (by simp) hl).grown g2 (by have := g1.size; simp at this; omega) hl).grown g3 (by have := g1.size; have := g2.size; simp at *; omega) hl
 have hmm := @run_makeMap Try.prog
 clear m0 m1 m2 m3 g1 g2 g3 K hl
 go_enter Try.func25, Try.ntmps25
 go_wp2_with fail
 go_ret
 exact ⟨⟨_, rfl, hc.out⟩, hb.out⟩
end Go.Proofs.Ytgnianjomjjfgaa

/- impl.CheckLP; the walk of FnExactCheckLP. -/
namespace Go.Proofs.Ytgnianjomjjfgaa
open List (setIfInBounds_toArray set_cons_zero set_cons_succ)
open Go.RowKit
open Ve (R)
open Lp (P Res)
set_option maxRecDepth 100000 in
set_option maxHeartbeats 8000000 in
theorem impl_CheckLP0 (B : Nat) (a b c ra rb rc : Option Addr) (c1 c2 c3 d1 d2 d3 : Nat) (p : P) (st : Int) (X Y Z : List R) (nu de pv : Int) (hw : (Lit.int .i64 st).wf = true) (hn : LpFits p) (hf : ResFits ⟨st, X, Y, Z, (nu, de), pv⟩) (g : Bool) (hg : Lp.chk p ⟨st, X, Y, Z, (nu, de), pv⟩ = g) (w : World) (hBw : B ≤ w.heap.size) (hz : LpIn B w a b c p) (hr : ResIn B w ra rb rc ⟨st, X, Y, Z, (nu, de), pv⟩) :
  Calls Try.prog 7 #[.agg #[.slice a p.A.length c1, .slice b p.B.length c2, .slice c p.C.length c3], .agg #[.int .i64 st, .slice ra X.length d1, .slice rb Y.length d2, .slice rc Z.length d3, .int .i64 nu, .int .i64 de, .int .i64 pv]] w fun e w' => e = .returned (.bool g) ∧ Below w.heap.size w w' := by
 have HX := Lib.hid (ChkBox.start w a b c ra rb rc c1 c2 c3 d1 d2 d3 p ⟨st, X, Y, Z, (nu, de), pv⟩ 28 32 hBw hz hr)
 obtain ⟨vl, hvl⟩ : ∃ vl, Lp.vldP p = vl := ⟨_, rfl⟩
 have HV := Lib.hid (fun W (hB : w.heap.size ≤ W.heap.size) h => hvl ▸ impl_IsValidLP w.heap.size a b c c1 c2 c3 p hn W hB h)
 obtain ⟨L, hL⟩ : ∃ L : World → Prop, L = ChkBox w a b c ra rb rc c1 c2 c3 d1 d2 d3 p ⟨st, X, Y, Z, (nu, de), pv⟩ 28 32 := ⟨_, rfl⟩
 have hs : Stable L := hL ▸ stable_chk w a b c ra rb rc c1 c2 c3 d1 d2 d3 p ⟨st, X, Y, Z, (nu, de), pv⟩ 28 32
 have hk : ∀ W, L W → ChkBox w a b c ra rb rc c1 c2 c3 d1 d2 d3 p ⟨st, X, Y, Z, (nu, de), pv⟩ 28 32 W := fun W h => hL ▸ h
 have HL0 : Hid (L _) := hL ▸ HX.out
 have LS := Lib.hid hs
 have LK := Lib.hid hk
 have Cell := Lib.hid (fun w' (h : L w') => (show w'.cell? ⟨w.heap.size + 1, 0, none⟩ = some (.int .i64 st) ∧ L w' from ⟨(seven (hk w' h).2.2.2.2).1.1, h⟩))
 have hin := LS.out.drew HL0.out
 clear hz hr hs hk hL HX
 by_cases h1 : st = 1
 ·
  skip
  subst h1
  have Hp := Lib.hid (fun (h : vl = true) W (hB : w.heap.size ≤ W.heap.size) hz hr => impl_provesOptimal w.heap.size a b c ra rb rc c1 c2 c3 d1 d2 d3 p 1 X Y Z nu de pv hn hf (hvl.trans h) g (by rw [← hg]; unfold Lp.chk; rw [hvl, h]; rfl) W hB hz hr)
  have Hg := Lib.hid (fun (h : vl = false) => (show false = g by rw [← hg]; unfold Lp.chk; rw [hvl, h]; rfl))
  clear hg hvl hn hf
  go_enter Try.func7, Try.ntmps7
  go_upto_region 1 with fail
  refine wp_region_held_drew (S := (fun w' => w'.cell? ⟨w.heap.size + 1, 0, none⟩ = some (.int .i64 1) ∧ L w')) (by kernel_rfl) ?_ (fun hHeld => ?_)
  ·
   exact Cell.out _ hin
  refine tkH (i := 1) (oi := { dst := some 9, op := Op.fieldAddr 32 (Operand.tmp 3) 0, type := 0, pos := "l05_lp.go:106", after := #[], guard := none }) (v := ?_) rfl ?_ (by assumption) ?_
  rotate_left 1
  ·
   intro w hSw; (try dsimp only at hSw); go_simp; try (with_reducible rfl)
  try simp only [Act.put, setIfInBounds_toArray, set_cons_zero, set_cons_succ]
  refine tkH (i := 2) (oi := { dst := some 10, op := Op.load 3 (Operand.tmp 9), type := 3, pos := "l05_lp.go:106", after := #[{ on := 1, ground := Ground.data }], guard := none }) (v := ?_) rfl ?_ (by assumption) ?_
  rotate_left 1
  ·
   intro w hSw; (try dsimp only at hSw); go_simp; try (with_reducible rfl)
  try simp only [Act.put, setIfInBounds_toArray, set_cons_zero, set_cons_succ]
  refine wpAnyH_ready (rs := [0]) (by kernel_rfl) (by simp) ?_
  refine AllReadyH.cons (o := { dst := some 8, op := Op.call { callee := Callee.value (Operand.func 25), args := #[], argTypes := #[] }, type := 54, pos := "l05_lp.go:106", after := #[], guard := none }) (rs := []) rfl (fun K hK => ?_) AllReadyH.nil
  go_simp
  (go_at_call 25; refine (calls_k LS.out (impl_certificateChecks _) (by assumption)).mono ?_; rintro e w' ⟨⟨b', rfl, hm⟩, hk5, hin5⟩; have hlook := certs_yes hm (by decide) at_one)
  refine hK.out _ _ ?_ (fun hHeld => ?_)
  ·
   exact Cell.out _ (by assumption)
  clear hK K
  try simp only [Act.put, setIfInBounds_toArray, set_cons_zero, set_cons_succ]
  refine wpAnyH_ready (rs := [3]) (by kernel_rfl) (by simp) ?_
  refine AllReadyH.cons (o := { dst := some 11, op := Op.lookup 54 (Operand.tmp 8) (Operand.tmp 10) true, type := 53, pos := "l05_lp.go:106", after := #[{ on := 0, ground := Ground.data }, { on := 2, ground := Ground.data }], guard := none }) (rs := []) rfl (fun K hK => ?_) AllReadyH.nil
  go_simp
  skip
  refine hK.out _ _ ?_ (fun hHeld => ?_)
  ·
   exact Cell.out _ (by assumption)
  clear hK K
  try simp only [Act.put, setIfInBounds_toArray, set_cons_zero, set_cons_succ]
  refine tkH (i := 4) (oi := { dst := some 7, op := Op.move (Operand.tmp 11), type := 53, pos := "l05_lp.go:106", after := #[{ on := 3, ground := Ground.data }], guard := none }) (v := ?_) rfl ?_ (by assumption) ?_
  rotate_left 1
  ·
   intro w hSw; (try dsimp only at hSw); go_simp; try (with_reducible rfl)
  try simp only [Act.put, setIfInBounds_toArray, set_cons_zero, set_cons_succ]
  refine tkH (i := 5) (oi := { dst := some 12, op := Op.extract (Operand.tmp 7) 0, type := 52, pos := "l05_lp.go:106", after := #[{ on := 4, ground := Ground.data }], guard := none }) (v := ?_) rfl ?_ (by assumption) ?_
  rotate_left 1
  ·
   intro w hSw; (try dsimp only at hSw); go_simp; try (with_reducible rfl)
  try simp only [Act.put, setIfInBounds_toArray, set_cons_zero, set_cons_succ]
  refine tkH (i := 6) (oi := { dst := some 13, op := Op.extract (Operand.tmp 7) 1, type := 4, pos := "l05_lp.go:106", after := #[{ on := 4, ground := Ground.data }, { on := 7, ground := Ground.gcOnly Departure.lateStores }], guard := none }) (v := ?_) rfl ?_ (by assumption) ?_
  rotate_left 1
  ·
   intro w hSw; (try dsimp only at hSw); go_simp; try (with_reducible rfl)
  try simp only [Act.put, setIfInBounds_toArray, set_cons_zero, set_cons_succ]
  refine tkH (i := 7) (oi := { dst := some 5, op := Op.assign (Operand.tmp 12), type := 52, pos := "l05_lp.go:106", after := #[{ on := 5, ground := Ground.data }, { on := 0, ground := Ground.chain }, { on := 0, ground := Ground.phase }, { on := 1, ground := Ground.phase }, { on := 2, ground := Ground.phase }, { on := 3, ground := Ground.phase }, { on := 4, ground := Ground.phase }, { on := 5, ground := Ground.phase }, { on := 6, ground := Ground.textOnly Departure.lateStores }], guard := none }) (v := ?_) rfl ?_ (by assumption) ?_
  rotate_left 1
  ·
   intro w hSw; (try dsimp only at hSw); go_simp; try (with_reducible rfl)
  try simp only [Act.put, setIfInBounds_toArray, set_cons_zero, set_cons_succ]
  refine tkH (i := 8) (oi := { dst := some 6, op := Op.assign (Operand.tmp 13), type := 4, pos := "l05_lp.go:106", after := #[{ on := 6, ground := Ground.data }, { on := 7, ground := Ground.chain }, { on := 0, ground := Ground.phase }, { on := 1, ground := Ground.phase }, { on := 2, ground := Ground.phase }, { on := 3, ground := Ground.phase }, { on := 4, ground := Ground.phase }, { on := 5, ground := Ground.phase }, { on := 6, ground := Ground.phase }, { on := 7, ground := Ground.phase }], guard := none }) (v := ?_) rfl ?_ (by assumption) ?_
  rotate_left 1
  ·
   intro w hSw; (try dsimp only at hSw); go_simp; try (with_reducible rfl)
  try simp only [Act.put, setIfInBounds_toArray, set_cons_zero, set_cons_succ]
  refine wpAnyH_done (by kernel_rfl) ?_ _
  clear hlook hm hHeld
  have HX1 := Lib.hid (LK.out _ (by assumption))
  obtain ⟨x0, x1, x2, _⟩ := HX1.out.2.2.2.1.cells
  obtain ⟨⟨r0, r1, r2, r3, r4, r5, r6⟩, _⟩ := seven HX1.out.2.2.2.2
  go_wp2_with fail
  refine (HV.out _ HX1.out.1.size HX1.out.2.1).mono ?_
  rintro e w3 ⟨rfl, k3⟩
  have HX3 := Lib.hid (HX1.out.up k3)
  clear k3 x0 x1 x2 r0 r1 r2 r3 r4 r5 r6
  cases vl with
  | false =>
   have Hr := Lib.hid (Hg.out rfl)
   go_wp2_with fail
   go_ret
   exact ⟨ret_bool Hr.out, HX3.out.1⟩
  | true =>
   obtain ⟨x0, x1, x2, _⟩ := HX3.out.2.2.2.1.cells
   obtain ⟨⟨r0, r1, r2, r3, r4, r5, r6⟩, _⟩ := seven HX3.out.2.2.2.2
   go_wp2_with fail
   refine (Hp.out (by trivial) _ HX3.out.1.size HX3.out.2.1 HX3.out.2.2.1).mono ?_
   rintro e w4 ⟨rfl, k4⟩
   have HX4 := Lib.hid (HX3.out.up k4)
   clear k4
   go_wp2_with fail
   go_ret
   exact ⟨rfl, HX4.out.1⟩

 ·
  by_cases h2 : st = 2
  ·
   skip
   subst h2
   have Hp := Lib.hid (fun (h : vl = true) W (hB : w.heap.size ≤ W.heap.size) hz hr => impl_provesInfeasible w.heap.size a b c ra rb rc c1 c2 c3 d1 d2 d3 p 2 X Y Z nu de pv hn hf (hvl.trans h) g (by rw [← hg]; unfold Lp.chk; rw [hvl, h]; rfl) W hB hz hr)
   have Hg := Lib.hid (fun (h : vl = false) => (show false = g by rw [← hg]; unfold Lp.chk; rw [hvl, h]; rfl))
   clear hg hvl hn hf
   go_enter Try.func7, Try.ntmps7
   go_upto_region 1 with fail
   refine wp_region_held_drew (S := (fun w' => w'.cell? ⟨w.heap.size + 1, 0, none⟩ = some (.int .i64 2) ∧ L w')) (by kernel_rfl) ?_ (fun hHeld => ?_)
   ·
    exact Cell.out _ hin
   refine tkH (i := 1) (oi := { dst := some 9, op := Op.fieldAddr 32 (Operand.tmp 3) 0, type := 0, pos := "l05_lp.go:106", after := #[], guard := none }) (v := ?_) rfl ?_ (by assumption) ?_
   rotate_left 1
   ·
    intro w hSw; (try dsimp only at hSw); go_simp; try (with_reducible rfl)
   try simp only [Act.put, setIfInBounds_toArray, set_cons_zero, set_cons_succ]
   refine tkH (i := 2) (oi := { dst := some 10, op := Op.load 3 (Operand.tmp 9), type := 3, pos := "l05_lp.go:106", after := #[{ on := 1, ground := Ground.data }], guard := none }) (v := ?_) rfl ?_ (by assumption) ?_
   rotate_left 1
   ·
    intro w hSw; (try dsimp only at hSw); go_simp; try (with_reducible rfl)
   try simp only [Act.put, setIfInBounds_toArray, set_cons_zero, set_cons_succ]
   refine wpAnyH_ready (rs := [0]) (by kernel_rfl) (by simp) ?_
   refine AllReadyH.cons (o := { dst := some 8, op := Op.call { callee := Callee.value (Operand.func 25), args := #[], argTypes := #[] }, type := 54, pos := "l05_lp.go:106", after := #[], guard := none }) (rs := []) rfl (fun K hK => ?_) AllReadyH.nil
   go_simp
   (go_at_call 25; refine (calls_k LS.out (impl_certificateChecks _) (by assumption)).mono ?_; rintro e w' ⟨⟨b', rfl, hm⟩, hk5, hin5⟩; have hlook := certs_yes hm (by decide) at_two)
   refine hK.out _ _ ?_ (fun hHeld => ?_)
   ·
    exact Cell.out _ (by assumption)
   clear hK K
   try simp only [Act.put, setIfInBounds_toArray, set_cons_zero, set_cons_succ]
   refine wpAnyH_ready (rs := [3]) (by kernel_rfl) (by simp) ?_
   refine AllReadyH.cons (o := { dst := some 11, op := Op.lookup 54 (Operand.tmp 8) (Operand.tmp 10) true, type := 53, pos := "l05_lp.go:106", after := #[{ on := 0, ground := Ground.data }, { on := 2, ground := Ground.data }], guard := none }) (rs := []) rfl (fun K hK => ?_) AllReadyH.nil
   go_simp
   skip
   refine hK.out _ _ ?_ (fun hHeld => ?_)
   ·
    exact Cell.out _ (by assumption)
   clear hK K
   try simp only [Act.put, setIfInBounds_toArray, set_cons_zero, set_cons_succ]
   refine tkH (i := 4) (oi := { dst := some 7, op := Op.move (Operand.tmp 11), type := 53, pos := "l05_lp.go:106", after := #[{ on := 3, ground := Ground.data }], guard := none }) (v := ?_) rfl ?_ (by assumption) ?_
   rotate_left 1
   ·
    intro w hSw; (try dsimp only at hSw); go_simp; try (with_reducible rfl)
   try simp only [Act.put, setIfInBounds_toArray, set_cons_zero, set_cons_succ]
   refine tkH (i := 5) (oi := { dst := some 12, op := Op.extract (Operand.tmp 7) 0, type := 52, pos := "l05_lp.go:106", after := #[{ on := 4, ground := Ground.data }], guard := none }) (v := ?_) rfl ?_ (by assumption) ?_
   rotate_left 1
   ·
    intro w hSw; (try dsimp only at hSw); go_simp; try (with_reducible rfl)
   try simp only [Act.put, setIfInBounds_toArray, set_cons_zero, set_cons_succ]
   refine tkH (i := 6) (oi := { dst := some 13, op := Op.extract (Operand.tmp 7) 1, type := 4, pos := "l05_lp.go:106", after := #[{ on := 4, ground := Ground.data }, { on := 7, ground := Ground.gcOnly Departure.lateStores }], guard := none }) (v := ?_) rfl ?_ (by assumption) ?_
   rotate_left 1
   ·
    intro w hSw; (try dsimp only at hSw); go_simp; try (with_reducible rfl)
   try simp only [Act.put, setIfInBounds_toArray, set_cons_zero, set_cons_succ]
   refine tkH (i := 7) (oi := { dst := some 5, op := Op.assign (Operand.tmp 12), type := 52, pos := "l05_lp.go:106", after := #[{ on := 5, ground := Ground.data }, { on := 0, ground := Ground.chain }, { on := 0, ground := Ground.phase }, { on := 1, ground := Ground.phase }, { on := 2, ground := Ground.phase }, { on := 3, ground := Ground.phase }, { on := 4, ground := Ground.phase }, { on := 5, ground := Ground.phase }, { on := 6, ground := Ground.textOnly Departure.lateStores }], guard := none }) (v := ?_) rfl ?_ (by assumption) ?_
   rotate_left 1
   ·
    intro w hSw; (try dsimp only at hSw); go_simp; try (with_reducible rfl)
   try simp only [Act.put, setIfInBounds_toArray, set_cons_zero, set_cons_succ]
   refine tkH (i := 8) (oi := { dst := some 6, op := Op.assign (Operand.tmp 13), type := 4, pos := "l05_lp.go:106", after := #[{ on := 6, ground := Ground.data }, { on := 7, ground := Ground.chain }, { on := 0, ground := Ground.phase }, { on := 1, ground := Ground.phase }, { on := 2, ground := Ground.phase }, { on := 3, ground := Ground.phase }, { on := 4, ground := Ground.phase }, { on := 5, ground := Ground.phase }, { on := 6, ground := Ground.phase }, { on := 7, ground := Ground.phase }], guard := none }) (v := ?_) rfl ?_ (by assumption) ?_
   rotate_left 1
   ·
    intro w hSw; (try dsimp only at hSw); go_simp; try (with_reducible rfl)
   try simp only [Act.put, setIfInBounds_toArray, set_cons_zero, set_cons_succ]
   refine wpAnyH_done (by kernel_rfl) ?_ _
   clear hlook hm hHeld
   have HX1 := Lib.hid (LK.out _ (by assumption))
   obtain ⟨x0, x1, x2, _⟩ := HX1.out.2.2.2.1.cells
   obtain ⟨⟨r0, r1, r2, r3, r4, r5, r6⟩, _⟩ := seven HX1.out.2.2.2.2
   go_wp2_with fail
   refine (HV.out _ HX1.out.1.size HX1.out.2.1).mono ?_
   rintro e w3 ⟨rfl, k3⟩
   have HX3 := Lib.hid (HX1.out.up k3)
   clear k3 x0 x1 x2 r0 r1 r2 r3 r4 r5 r6
   cases vl with
   | false =>
    have Hr := Lib.hid (Hg.out rfl)
    go_wp2_with fail
    go_ret
    exact ⟨ret_bool Hr.out, HX3.out.1⟩
   | true =>
    obtain ⟨x0, x1, x2, _⟩ := HX3.out.2.2.2.1.cells
    obtain ⟨⟨r0, r1, r2, r3, r4, r5, r6⟩, _⟩ := seven HX3.out.2.2.2.2
    go_wp2_with fail
    refine (Hp.out (by trivial) _ HX3.out.1.size HX3.out.2.1 HX3.out.2.2.1).mono ?_
    rintro e w4 ⟨rfl, k4⟩
    have HX4 := Lib.hid (HX3.out.up k4)
    clear k4
    go_wp2_with fail
    go_ret
    exact ⟨rfl, HX4.out.1⟩

  ·
   by_cases h3 : st = 3
   ·
    skip
    subst h3
    have Hp := Lib.hid (fun (h : vl = true) W (hB : w.heap.size ≤ W.heap.size) hz hr => impl_provesUnbounded w.heap.size a b c ra rb rc c1 c2 c3 d1 d2 d3 p 3 X Y Z nu de pv hn hf (hvl.trans h) g (by rw [← hg]; unfold Lp.chk; rw [hvl, h]; rfl) W hB hz hr)
    have Hg := Lib.hid (fun (h : vl = false) => (show false = g by rw [← hg]; unfold Lp.chk; rw [hvl, h]; rfl))
    clear hg hvl hn hf
    go_enter Try.func7, Try.ntmps7
    go_upto_region 1 with fail
    refine wp_region_held_drew (S := (fun w' => w'.cell? ⟨w.heap.size + 1, 0, none⟩ = some (.int .i64 3) ∧ L w')) (by kernel_rfl) ?_ (fun hHeld => ?_)
    ·
     exact Cell.out _ hin
    refine tkH (i := 1) (oi := { dst := some 9, op := Op.fieldAddr 32 (Operand.tmp 3) 0, type := 0, pos := "l05_lp.go:106", after := #[], guard := none }) (v := ?_) rfl ?_ (by assumption) ?_
    rotate_left 1
    ·
     intro w hSw; (try dsimp only at hSw); go_simp; try (with_reducible rfl)
    try simp only [Act.put, setIfInBounds_toArray, set_cons_zero, set_cons_succ]
    refine tkH (i := 2) (oi := { dst := some 10, op := Op.load 3 (Operand.tmp 9), type := 3, pos := "l05_lp.go:106", after := #[{ on := 1, ground := Ground.data }], guard := none }) (v := ?_) rfl ?_ (by assumption) ?_
    rotate_left 1
    ·
     intro w hSw; (try dsimp only at hSw); go_simp; try (with_reducible rfl)
    try simp only [Act.put, setIfInBounds_toArray, set_cons_zero, set_cons_succ]
    refine wpAnyH_ready (rs := [0]) (by kernel_rfl) (by simp) ?_
    refine AllReadyH.cons (o := { dst := some 8, op := Op.call { callee := Callee.value (Operand.func 25), args := #[], argTypes := #[] }, type := 54, pos := "l05_lp.go:106", after := #[], guard := none }) (rs := []) rfl (fun K hK => ?_) AllReadyH.nil
    go_simp
    (go_at_call 25; refine (calls_k LS.out (impl_certificateChecks _) (by assumption)).mono ?_; rintro e w' ⟨⟨b', rfl, hm⟩, hk5, hin5⟩; have hlook := certs_yes hm (by decide) at_three)
    refine hK.out _ _ ?_ (fun hHeld => ?_)
    ·
     exact Cell.out _ (by assumption)
    clear hK K
    try simp only [Act.put, setIfInBounds_toArray, set_cons_zero, set_cons_succ]
    refine wpAnyH_ready (rs := [3]) (by kernel_rfl) (by simp) ?_
    refine AllReadyH.cons (o := { dst := some 11, op := Op.lookup 54 (Operand.tmp 8) (Operand.tmp 10) true, type := 53, pos := "l05_lp.go:106", after := #[{ on := 0, ground := Ground.data }, { on := 2, ground := Ground.data }], guard := none }) (rs := []) rfl (fun K hK => ?_) AllReadyH.nil
    go_simp
    skip
    refine hK.out _ _ ?_ (fun hHeld => ?_)
    ·
     exact Cell.out _ (by assumption)
    clear hK K
    try simp only [Act.put, setIfInBounds_toArray, set_cons_zero, set_cons_succ]
    refine tkH (i := 4) (oi := { dst := some 7, op := Op.move (Operand.tmp 11), type := 53, pos := "l05_lp.go:106", after := #[{ on := 3, ground := Ground.data }], guard := none }) (v := ?_) rfl ?_ (by assumption) ?_
    rotate_left 1
    ·
     intro w hSw; (try dsimp only at hSw); go_simp; try (with_reducible rfl)
    try simp only [Act.put, setIfInBounds_toArray, set_cons_zero, set_cons_succ]
    refine tkH (i := 5) (oi := { dst := some 12, op := Op.extract (Operand.tmp 7) 0, type := 52, pos := "l05_lp.go:106", after := #[{ on := 4, ground := Ground.data }], guard := none }) (v := ?_) rfl ?_ (by assumption) ?_
    rotate_left 1
    ·
     intro w hSw; (try dsimp only at hSw); go_simp; try (with_reducible rfl)
    try simp only [Act.put, setIfInBounds_toArray, set_cons_zero, set_cons_succ]
    refine tkH (i := 6) (oi := { dst := some 13, op := Op.extract (Operand.tmp 7) 1, type := 4, pos := "l05_lp.go:106", after := #[{ on := 4, ground := Ground.data }, { on := 7, ground := Ground.gcOnly Departure.lateStores }], guard := none }) (v := ?_) rfl ?_ (by assumption) ?_
    rotate_left 1
    ·
     intro w hSw; (try dsimp only at hSw); go_simp; try (with_reducible rfl)
    try simp only [Act.put, setIfInBounds_toArray, set_cons_zero, set_cons_succ]
    refine tkH (i := 7) (oi := { dst := some 5, op := Op.assign (Operand.tmp 12), type := 52, pos := "l05_lp.go:106", after := #[{ on := 5, ground := Ground.data }, { on := 0, ground := Ground.chain }, { on := 0, ground := Ground.phase }, { on := 1, ground := Ground.phase }, { on := 2, ground := Ground.phase }, { on := 3, ground := Ground.phase }, { on := 4, ground := Ground.phase }, { on := 5, ground := Ground.phase }, { on := 6, ground := Ground.textOnly Departure.lateStores }], guard := none }) (v := ?_) rfl ?_ (by assumption) ?_
    rotate_left 1
    ·
     intro w hSw; (try dsimp only at hSw); go_simp; try (with_reducible rfl)
    try simp only [Act.put, setIfInBounds_toArray, set_cons_zero, set_cons_succ]
    refine tkH (i := 8) (oi := { dst := some 6, op := Op.assign (Operand.tmp 13), type := 4, pos := "l05_lp.go:106", after := #[{ on := 6, ground := Ground.data }, { on := 7, ground := Ground.chain }, { on := 0, ground := Ground.phase }, { on := 1, ground := Ground.phase }, { on := 2, ground := Ground.phase }, { on := 3, ground := Ground.phase }, { on := 4, ground := Ground.phase }, { on := 5, ground := Ground.phase }, { on := 6, ground := Ground.phase }, { on := 7, ground := Ground.phase }], guard := none }) (v := ?_) rfl ?_ (by assumption) ?_
    rotate_left 1
    ·
     intro w hSw; (try dsimp only at hSw); go_simp; try (with_reducible rfl)
    try simp only [Act.put, setIfInBounds_toArray, set_cons_zero, set_cons_succ]
    refine wpAnyH_done (by kernel_rfl) ?_ _
    clear hlook hm hHeld
    have HX1 := Lib.hid (LK.out _ (by assumption))
    obtain ⟨x0, x1, x2, _⟩ := HX1.out.2.2.2.1.cells
    obtain ⟨⟨r0, r1, r2, r3, r4, r5, r6⟩, _⟩ := seven HX1.out.2.2.2.2
    go_wp2_with fail
    refine (HV.out _ HX1.out.1.size HX1.out.2.1).mono ?_
    rintro e w3 ⟨rfl, k3⟩
    have HX3 := Lib.hid (HX1.out.up k3)
    clear k3 x0 x1 x2 r0 r1 r2 r3 r4 r5 r6
    cases vl with
    | false =>
     have Hr := Lib.hid (Hg.out rfl)
     go_wp2_with fail
     go_ret
     exact ⟨ret_bool Hr.out, HX3.out.1⟩
    | true =>
     obtain ⟨x0, x1, x2, _⟩ := HX3.out.2.2.2.1.cells
     obtain ⟨⟨r0, r1, r2, r3, r4, r5, r6⟩, _⟩ := seven HX3.out.2.2.2.2
     go_wp2_with fail
     refine (Hp.out (by trivial) _ HX3.out.1.size HX3.out.2.1 HX3.out.2.2.1).mono ?_
     rintro e w4 ⟨rfl, k4⟩
     have HX4 := Lib.hid (HX3.out.up k4)
     clear k4
     go_wp2_with fail
     go_ret
     exact ⟨rfl, HX4.out.1⟩

   ·
    have Hr := Lib.hid (show false = g by rw [← hg]; unfold Lp.chk; simp [h1, h2, h3])
    have HA := Lib.hid (fun b' w' (hm : Certs w' b') => certs_no hm hw (at_other h1 h2 h3))
    clear hg hvl hn hf h1 h2 h3
    go_enter Try.func7, Try.ntmps7
    go_upto_region 1 with fail
    refine wp_region_held_drew (S := (fun w' => w'.cell? ⟨w.heap.size + 1, 0, none⟩ = some (.int .i64 st) ∧ L w')) (by kernel_rfl) ?_ (fun hHeld => ?_)
    ·
     exact Cell.out _ hin
    refine tkH (i := 1) (oi := { dst := some 9, op := Op.fieldAddr 32 (Operand.tmp 3) 0, type := 0, pos := "l05_lp.go:106", after := #[], guard := none }) (v := ?_) rfl ?_ (by assumption) ?_
    rotate_left 1
    ·
     intro w hSw; (try dsimp only at hSw); go_simp; try (with_reducible rfl)
    try simp only [Act.put, setIfInBounds_toArray, set_cons_zero, set_cons_succ]
    refine tkH (i := 2) (oi := { dst := some 10, op := Op.load 3 (Operand.tmp 9), type := 3, pos := "l05_lp.go:106", after := #[{ on := 1, ground := Ground.data }], guard := none }) (v := ?_) rfl ?_ (by assumption) ?_
    rotate_left 1
    ·
     intro w hSw; (try dsimp only at hSw); go_simp; try (with_reducible rfl)
    try simp only [Act.put, setIfInBounds_toArray, set_cons_zero, set_cons_succ]
    refine wpAnyH_ready (rs := [0]) (by kernel_rfl) (by simp) ?_
    refine AllReadyH.cons (o := { dst := some 8, op := Op.call { callee := Callee.value (Operand.func 25), args := #[], argTypes := #[] }, type := 54, pos := "l05_lp.go:106", after := #[], guard := none }) (rs := []) rfl (fun K hK => ?_) AllReadyH.nil
    go_simp
    (go_at_call 25; refine (calls_k LS.out (impl_certificateChecks _) (by assumption)).mono ?_; rintro e w' ⟨⟨b', rfl, hm⟩, hk5, hin5⟩; have hlook := HA.out _ _ hm)
    refine hK.out _ _ ?_ (fun hHeld => ?_)
    ·
     exact Cell.out _ (by assumption)
    clear hK K
    try simp only [Act.put, setIfInBounds_toArray, set_cons_zero, set_cons_succ]
    refine wpAnyH_ready (rs := [3]) (by kernel_rfl) (by simp) ?_
    refine AllReadyH.cons (o := { dst := some 11, op := Op.lookup 54 (Operand.tmp 8) (Operand.tmp 10) true, type := 53, pos := "l05_lp.go:106", after := #[{ on := 0, ground := Ground.data }, { on := 2, ground := Ground.data }], guard := none }) (rs := []) rfl (fun K hK => ?_) AllReadyH.nil
    go_simp
    skip
    refine hK.out _ _ ?_ (fun hHeld => ?_)
    ·
     exact Cell.out _ (by assumption)
    clear hK K
    try simp only [Act.put, setIfInBounds_toArray, set_cons_zero, set_cons_succ]
    refine tkH (i := 4) (oi := { dst := some 7, op := Op.move (Operand.tmp 11), type := 53, pos := "l05_lp.go:106", after := #[{ on := 3, ground := Ground.data }], guard := none }) (v := ?_) rfl ?_ (by assumption) ?_
    rotate_left 1
    ·
     intro w hSw; (try dsimp only at hSw); go_simp; try (with_reducible rfl)
    try simp only [Act.put, setIfInBounds_toArray, set_cons_zero, set_cons_succ]
    refine tkH (i := 5) (oi := { dst := some 12, op := Op.extract (Operand.tmp 7) 0, type := 52, pos := "l05_lp.go:106", after := #[{ on := 4, ground := Ground.data }], guard := none }) (v := ?_) rfl ?_ (by assumption) ?_
    rotate_left 1
    ·
     intro w hSw; (try dsimp only at hSw); go_simp; try (with_reducible rfl)
    try simp only [Act.put, setIfInBounds_toArray, set_cons_zero, set_cons_succ]
    refine tkH (i := 6) (oi := { dst := some 13, op := Op.extract (Operand.tmp 7) 1, type := 4, pos := "l05_lp.go:106", after := #[{ on := 4, ground := Ground.data }, { on := 7, ground := Ground.gcOnly Departure.lateStores }], guard := none }) (v := ?_) rfl ?_ (by assumption) ?_
    rotate_left 1
    ·
     intro w hSw; (try dsimp only at hSw); go_simp; try (with_reducible rfl)
    try simp only [Act.put, setIfInBounds_toArray, set_cons_zero, set_cons_succ]
    refine tkH (i := 7) (oi := { dst := some 5, op := Op.assign (Operand.tmp 12), type := 52, pos := "l05_lp.go:106", after := #[{ on := 5, ground := Ground.data }, { on := 0, ground := Ground.chain }, { on := 0, ground := Ground.phase }, { on := 1, ground := Ground.phase }, { on := 2, ground := Ground.phase }, { on := 3, ground := Ground.phase }, { on := 4, ground := Ground.phase }, { on := 5, ground := Ground.phase }, { on := 6, ground := Ground.textOnly Departure.lateStores }], guard := none }) (v := ?_) rfl ?_ (by assumption) ?_
    rotate_left 1
    ·
     intro w hSw; (try dsimp only at hSw); go_simp; try (with_reducible rfl)
    try simp only [Act.put, setIfInBounds_toArray, set_cons_zero, set_cons_succ]
    refine tkH (i := 8) (oi := { dst := some 6, op := Op.assign (Operand.tmp 13), type := 4, pos := "l05_lp.go:106", after := #[{ on := 6, ground := Ground.data }, { on := 7, ground := Ground.chain }, { on := 0, ground := Ground.phase }, { on := 1, ground := Ground.phase }, { on := 2, ground := Ground.phase }, { on := 3, ground := Ground.phase }, { on := 4, ground := Ground.phase }, { on := 5, ground := Ground.phase }, { on := 6, ground := Ground.phase }, { on := 7, ground := Ground.phase }], guard := none }) (v := ?_) rfl ?_ (by assumption) ?_
    rotate_left 1
    ·
     intro w hSw; (try dsimp only at hSw); go_simp; try (with_reducible rfl)
    try simp only [Act.put, setIfInBounds_toArray, set_cons_zero, set_cons_succ]
    refine wpAnyH_done (by kernel_rfl) ?_ _
    clear hlook hm hHeld
    have HX1 := Lib.hid (LK.out _ (by assumption))
    go_wp2_with fail
    go_ret
    exact ⟨ret_bool Hr.out, HX1.out.1⟩
theorem impl_CheckLP (B : Nat) (a b c ra rb rc : Option Addr) (c1 c2 c3 d1 d2 d3 : Nat) (p : P) (r : Res) (hw : (Lit.int .i64 r.status).wf = true) (hn : LpFits p) (hf : ResFits r) (g : Bool) (hg : Lp.chk p r = g) (w : World) (hBw : B ≤ w.heap.size) (hz : LpIn B w a b c p) (hr : ResIn B w ra rb rc r) :
  Calls Try.prog 7 #[.agg #[.slice a p.A.length c1, .slice b p.B.length c2, .slice c p.C.length c3], resV ra rb rc d1 d2 d3 r] w fun e w' => e = .returned (.bool g) ∧ Below w.heap.size w w' := by
 obtain ⟨st, X, Y, Z, ⟨nu, de⟩, pv⟩ := r
 exact impl_CheckLP0 B a b c ra rb rc c1 c2 c3 d1 d2 d3 p st X Y Z nu de pv hw hn hf g hg w hBw hz hr
end Go.Proofs.Ytgnianjomjjfgaa
