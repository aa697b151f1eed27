/- impl.boundsColumns. -/
import Derived.Test.YtfbhnjdbamahkaaLpF
import Derived.Test.YtfbhnjdbamahkaaLpI3
namespace Go.Proofs.Ytfbhnjdbamahkaa
open Go.RowKit
open Ve (R)
open Lp (P)
theorem two_comm (a b c d : Int) : Ra.two a b c d = Ra.two c d a b := by unfold Ra.two; exact Bool.and_comm _ _
/-- More one way round is less the other way round. -/
theorem cmp_turn (a b c d : Int) : decide (Ra.cmp a b c d > 0) = !Lp.notLess (c, d) (a, b) := by
  have e : (Ra.cmp a b c d > 0) ↔ Ra.cmp c d a b < 0 := by
    unfold Ra.cmp
    rw [two_comm c d a b]
    cases Ra.two a b c d
    · simp
    · simp only [if_true]
      by_cases h1 : a * d < c * b
      · have h2 : ¬ c * b < a * d := by omega
        simp [h1, h2]
      · by_cases h2 : c * b < a * d
        · simp [h1, h2]
        · simp [h1, h2]
  show decide (Ra.cmp a b c d > 0) = !decide (¬ Ra.cmp c d a b < 0)
  rw [decide_not, Bool.not_not]
  exact decide_eq_decide.2 e
theorem impl_compare (x y : R) (w : World) : Calls Try.prog 152 #[.agg #[.int .i64 x.1, .int .i64 x.2], .agg #[.int .i64 y.1, .int .i64 y.2]] w fun e w' => e = .returned (.int .i64 (Ra.cmp x.1 x.2 y.1 y.2)) ∧ Below w.heap.size w w' := impl_CompareRat x.1 x.2 y.1 y.2 w
set_option maxRecDepth 100000 in
set_option maxHeartbeats 4000000 in
theorem impl_boundsColumns (B : Nat) (a b c ya ca : Option Addr) (c1 c2 c3 yc cc : Nat) (p : P) (y cs : List R) (hn : LpFits p) (hvl : Lp.vldP p = true) (hy : y.length ≤ 1048576) (hcl : cs.length = p.C.length) (g : Bool) (hg : Lp.dual p y cs = g) (w : World) (hBw : B ≤ w.heap.size) (hz : LpIn B w a b c p) (hy1 : RatsIn B w ya y) (hc1 : RatsIn B w ca cs) :
    Calls Try.prog 144 #[.agg #[.slice a p.A.length c1, .slice b p.B.length c2, .slice c p.C.length c3], .slice ya y.length yc, .slice ca cs.length cc] w fun e w' => e = .returned (.bool g) ∧ Below w.heap.size w w' := by
  have hb := (Below.refl w.heap.size w).alloc (Nat.le_refl _) (.cells #[.slice a p.A.length c1, .slice b p.B.length c2, .slice c p.C.length c3] 38)
  have hsz : w.heap.size ≤ (w.alloc (.cells #[.slice a p.A.length c1, .slice b p.B.length c2, .slice c p.C.length c3] 38)).heap.size := by rw [size1]; omega
  have Hx := Lib.hid (Tri.new w (.slice a p.A.length c1) (.slice b p.B.length c2) (.slice c p.C.length c3) 38)
  have Hz := Lib.hid ((hz.mono hBw).below hb)
  have Hy := Lib.hid ((hy1.mono hBw).below hb)
  have Hc := Lib.hid ((hc1.mono hBw).below hb)
  have Hsz := Lib.hid hsz
  have HN := Lib.hid hn
  have HCL := Lib.hid hcl
  have hA := hn.A
  have hC : cs.length ≤ 1048576 := by rw [hcl]; exact hn.C
  have Hrow := Lib.hid (fun j (hj : j < cs.length) k (hk : k < p.A.length) => (show j < (rw_ p.A k).length by have := (Lp.rows_at (Lp.vld_parts hvl).1 hk).1; rw [show Lp.row p k = rw_ p.A k from rfl] at this; omega))
  have Hb := Lib.hid hb
  have Hg := Lib.hid hg
  have Hst := Lib.hid (Since.refl (w.alloc (.cells #[.slice a p.A.length c1, .slice b p.B.length c2, .slice c p.C.length c3] 38)))
  clear hz hy1 hc1 hb hg hsz hn hvl hcl
  go_enter Try.func144, Try.ntmps144
  go_wp2_with fail
  generalize hW0 : w.alloc (.cells #[.slice a p.A.length c1, .slice b p.B.length c2, .slice c p.C.length c3] 38) = W0 at *
  go_loopw [13] (fun i wr => ∃ k : Nat, k ≤ cs.length ∧ i = .int .i64 k ∧ Hid (∀ j, j < k → duOk p y cs j = true) ∧ Hid (Since W0 wr)) (fun i _ => cs.length - (intOf i).toNat)
  case atStart => exact ⟨0, Nat.zero_le _, rfl, fun j hj => absurd hj (by omega), Hst.out⟩
  case round =>
    obtain ⟨k, hk, rfl, hOk, hS⟩ := hrel
    have hlow := hS.out.low.mono Hsz.out
    by_cases hlt : k < cs.length
    · obtain ⟨b2, o2, rfl, hb2, q0, q1⟩ := (Hc.out.below hlow).at k hlt
      have Hbad := Lib.hid (fun (h : duOk p y cs k = false) => (show false = g from (du_bad (by rw [← HCL.out]; exact hlt) h).symm.trans Hg.out))
      have Hgood := Lib.hid (fun (h : duOk p y cs k = true) => (fun j (hj : j < k + 1) => (show duOk p y cs j = true from by
          by_cases e : j = k
          · subst e; exact h
          · exact hOk.out j (by omega))))
      have Hdef := Lib.hid (show duOk p y cs k = (Lp.idK (Lp.col p k) y && Lp.notLess (Ve.at_ cs k) (Lp.idR (Lp.col p k) y)) from rfl)
      have hcll : (Lp.col p k).length ≤ 1048576 := by rw [Lp.col_len]; exact hA
      have Hcol := Lib.hid (Hrow.out k hlt)
      generalize Ve.at_ cs k = z at *
      have hSz := hS.out.alloc (.cells #[.int .i64 z.1, .int .i64 z.2] 34)
      have HSz := Lib.hid hSz
      obtain ⟨x0, x1, x2, _⟩ := (Hx.out.below hSz.low).cells
      have Hbz := Lib.hid (BoxAt.new wr z)
      have hszr : w.heap.size ≤ (wr.alloc (.cells #[.int .i64 z.1, .int .i64 z.2] 34)).heap.size := Nat.le_trans Hsz.out hSz.low.size
      have hlow2 := hSz.low.mono Hsz.out
      have Hzr := Lib.hid (Hz.out.below hlow2)
      have Hyr := Lib.hid (Hy.out.below hlow2)
      clear hlow hlow2 hSz
      go_wp2_with fail
      refine (impl_columnOf w.heap.size a b c c1 c2 c3 p HN.out k Hcol.out _ hszr Hzr.out).mono ?_
      rintro e w1 ⟨u, rfl, ho, k1⟩
      obtain ⟨ua, uc, rfl, hr, hab, _⟩ := own_reads ho
      have HU := Lib.hid (NumsIn.of_ints (B := w1.heap.size) hr fun q hq => (hab q hq).2)
      have hsz1 : w.heap.size ≤ w1.heap.size := Nat.le_trans hszr k1.size
      have Hy1 := Lib.hid ((Hyr.out.below (k1.mono hszr)).mono hsz1)
      have HS1 := Lib.hid (HSz.out.trans k1)
      have Hbz1 := Lib.hid (Hbz.out.below k1)
      clear ho hr hab k1 q0 q1 x0 x1 x2
      go_wp2_with fail
      refine (impl_dotInts w1.heap.size ua ya uc yc (Lp.col p k) y hcll hy _ (Nat.le_refl _) HU.out Hy1.out).mono ?_
      rintro e w2 ⟨rfl, k2⟩
      generalize duOk p y cs k = ok at *
      generalize Lp.idR (Lp.col p k) y = D at *
      generalize Lp.idK (Lp.col p k) y = K at *
      have hS2 := (HS1.out.trans k2).alloc (.cells #[.int .i64 D.1, .int .i64 D.2] 34)
      have HS2 := Lib.hid hS2
      obtain ⟨z0, z1, _, _⟩ := ((Hbz1.out.below k2).alloc (.cells #[.int .i64 D.1, .int .i64 D.2] 34)).four
      obtain ⟨m0, m1, _, _⟩ := (BoxAt.new w2 D).four
      clear Hzr Hyr HU Hy1 hS2 k2
      rcases K with _ | _
      · have Hr := Lib.hid (Hbad.out (by rw [Hdef.out]; rfl))
        clear Hbad Hgood Hdef
        go_wp2_with fail
        go_ret
        exact ⟨ret_bool Hr.out, Hb.out.trans (HS2.out.low.mono Hsz.out)⟩
      · have Hcmp := Lib.hid (fun w => impl_compare D z w)
        rcases hv : Lp.notLess z D with _ | _
        · have Hr := Lib.hid (Hbad.out (by rw [Hdef.out, hv]; rfl))
          have hdec : decide (Ra.cmp D.1 D.2 z.1 z.2 > 0) = true := by rw [cmp_turn, show ((z.1, z.2) : R) = z from rfl, show ((D.1, D.2) : R) = D from rfl, hv]; rfl
          generalize Ra.cmp D.1 D.2 z.1 z.2 = s at *
          clear Hbad Hgood Hdef hv
          go_wp2_with fail
          refine (Hcmp.out _).mono ?_
          rintro e w3 ⟨rfl, k3⟩
          have Hend := Lib.hid (HS2.out.trans k3)
          clear k3 z0 z1 m0 m1
          go_wp2_with fail
          go_ret
          exact ⟨ret_bool Hr.out, Hb.out.trans (Hend.out.low.mono Hsz.out)⟩
        · have HOk2 := Lib.hid (Hgood.out (by rw [Hdef.out, hv]; rfl))
          have hdec : decide (Ra.cmp D.1 D.2 z.1 z.2 > 0) = false := by rw [cmp_turn, show ((z.1, z.2) : R) = z from rfl, show ((D.1, D.2) : R) = D from rfl, hv]; rfl
          generalize Ra.cmp D.1 D.2 z.1 z.2 = s at *
          clear Hbad Hgood Hdef hv
          go_wp2_with fail
          refine (Hcmp.out _).mono ?_
          rintro e w3 ⟨rfl, k3⟩
          have Hend := Lib.hid (HS2.out.trans k3)
          clear k3 z0 z1 m0 m1
          go_wp2_with fail
          go_roundw
          case rel => exact ⟨k + 1, by omega, by go_num, HOk2, Hend⟩
          case measure => simp [intOf]; omega
    · have Hr := Lib.hid (show true = g by rw [← Hg.out]; exact (du_good fun j hj => hOk.out j (by have := HCL.out; omega)).symm)
      go_wp2_with fail
      go_ret
      exact ⟨ret_bool Hr.out, Hb.out.trans (hS.out.low.mono Hsz.out)⟩
end Go.Proofs.Ytfbhnjdbamahkaa
