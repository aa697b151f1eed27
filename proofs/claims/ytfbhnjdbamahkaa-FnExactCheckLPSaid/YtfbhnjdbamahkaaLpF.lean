/- spec.l5Dual. -/
import Derived.Test.YtfbhnjdbamahkaaLpE2
namespace Go.Proofs.Ytfbhnjdbamahkaa
open Go.RowKit
open Ve (R)
open Lp (P)
/-- One column, as l5Dual looks at it. -/
def duOk (p : P) (y c : List R) (j : Nat) : Bool := Lp.idK (Lp.col p j) y && Lp.notLess (Ve.at_ c j) (Lp.idR (Lp.col p j) y)
theorem du_bad {p : P} {y c : List R} {j : Nat} (hj : j < p.C.length) (h : duOk p y c j = false) : Lp.dual p y c = false := by
  rw [Bool.eq_false_iff]
  intro h2
  unfold Lp.dual at h2
  rw [List.all_eq_true] at h2
  have h3 := h2 j (by simpa using hj)
  unfold duOk at h
  rw [h] at h3
  cases h3
theorem du_good {p : P} {y c : List R} (h : ∀ j, j < p.C.length → duOk p y c j = true) : Lp.dual p y c = true := by
  unfold Lp.dual
  rw [List.all_eq_true]
  intro k hk
  exact h k (by simpa using hk)
theorem compare_rat (x y : R) (w : World) : Calls Try.prog 125 #[.agg #[.int .i64 x.1, .int .i64 x.2], .agg #[.int .i64 y.1, .int .i64 y.2]] w fun e w' => e = .returned (.int .i64 (Ra.cmp x.1 x.2 y.1 y.2)) ∧ Below w.heap.size w w' := spec_CompareRat x.1 x.2 y.1 y.2 w
set_option maxRecDepth 100000 in
set_option maxHeartbeats 2000000 in
theorem spec_l5Dual (B : Nat) (a b c ya ca : Option Addr) (c1 c2 c3 yc cc : Nat) (p : P) (y cs : List R) (hn : LpFits p) (hvl : Lp.vldP p = true) (hy : y.length ≤ 1048576) (hcl : p.C.length ≤ cs.length) (hcm : cs.length ≤ 1048576) (g : Bool) (hg : Lp.dual p y cs = g) (w : World) (hBw : B ≤ w.heap.size) (hz : LpIn B w a b c p) (hy1 : RatsIn B w ya y) (hc1 : RatsIn B w ca cs) :
    Calls Try.prog 94 #[.agg #[.slice a p.A.length c1, .slice b p.B.length c2, .slice c p.C.length c3], .slice ya y.length yc, .slice ca cs.length cc] w fun e w' => e = .returned (.bool g) ∧ Below w.heap.size w w' := by
  have hb := (Below.refl w.heap.size w).alloc (Nat.le_refl _) (.cells #[.slice a p.A.length c1, .slice b p.B.length c2, .slice c p.C.length c3] 38)
  have hsz : w.heap.size ≤ (w.alloc (.cells #[.slice a p.A.length c1, .slice b p.B.length c2, .slice c p.C.length c3] 38)).heap.size := by rw [size1]; omega
  have Hx := Lib.hid (Tri.new w (.slice a p.A.length c1) (.slice b p.B.length c2) (.slice c p.C.length c3) 38)
  have Hz := Lib.hid ((hz.mono hBw).below hb)
  have Hy := Lib.hid ((hy1.mono hBw).below hb)
  have Hc := Lib.hid ((hc1.mono hBw).below hb)
  have Hsz := Lib.hid hsz
  have HN := Lib.hid hn
  have HV := Lib.hid hvl
  have hA := hn.A
  have hC := hn.C
  have Hb := Lib.hid hb
  have Hg := Lib.hid hg
  have Hst := Lib.hid (Since.refl (w.alloc (.cells #[.slice a p.A.length c1, .slice b p.B.length c2, .slice c p.C.length c3] 38)))
  clear hz hy1 hc1 hb hg hsz hn hvl
  go_enter Try.func94, Try.ntmps94
  go_wp2_with fail
  generalize hW0 : w.alloc (.cells #[.slice a p.A.length c1, .slice b p.B.length c2, .slice c p.C.length c3] 38) = W0 at *
  go_loopw [7] (fun i wr => ∃ k : Nat, k ≤ p.C.length ∧ i = .int .i64 k ∧ Hid (∀ j, j < k → duOk p y cs j = true) ∧ Hid (Since W0 wr)) (fun i _ => p.C.length - (intOf i).toNat)
  case atStart => exact ⟨0, Nat.zero_le _, rfl, fun j hj => absurd hj (by omega), Hst.out⟩
  case round =>
    obtain ⟨k, hk, rfl, hOk, hS⟩ := hrel
    obtain ⟨x0, x1, x2, _⟩ := (Hx.out.below hS.out.low).cells
    have hlow := hS.out.low.mono Hsz.out
    by_cases hlt : k < p.C.length
    · have hszr : w.heap.size ≤ wr.heap.size := Nat.le_trans Hsz.out hS.out.low.size
      have Hzr := Lib.hid (Hz.out.below hlow)
      have Hyr := Lib.hid (Hy.out.below hlow)
      have Hcr := Lib.hid (Hc.out.below hlow)
      have Hbad := Lib.hid (fun (h : duOk p y cs k = false) => (show false = g from (du_bad hlt h).symm.trans Hg.out))
      have Hgood := Lib.hid (fun (h : duOk p y cs k = true) => (fun j (hj : j < k + 1) => (show duOk p y cs j = true from by
          by_cases e : j = k
          · subst e; exact h
          · exact hOk.out j (by omega))))
      have Hdef := Lib.hid (show duOk p y cs k = (Lp.idK (Lp.col p k) y && Lp.notLess (Ve.at_ cs k) (Lp.idR (Lp.col p k) y)) from rfl)
      have Hcol := Lib.hid (col_yes HV.out hlt)
      have hcll : (Lp.col p k).length ≤ 1048576 := by rw [Lp.col_len]; exact hA
      clear hlow
      go_wp2_with fail
      refine (spec_ColumnOf w.heap.size a b c c1 c2 c3 p HN.out k _ hszr Hzr.out).mono ?_
      rintro e w1 ⟨u, rfl, ho, k1⟩
      rw [Hcol.out] at ho
      obtain ⟨ua, uc, rfl, hr, hab, _⟩ := own_reads ho
      have HU := Lib.hid (NumsIn.of_ints (B := w1.heap.size) hr fun q hq => (hab q hq).2)
      have hsz1 : w.heap.size ≤ w1.heap.size := Nat.le_trans hszr k1.size
      have Hy1 := Lib.hid ((Hyr.out.below (k1.mono hszr)).mono hsz1)
      have Hc1 := Lib.hid (Hcr.out.below (k1.mono hszr))
      have HS1 := Lib.hid (hS.out.trans k1)
      clear ho hr hab k1
      go_wp2_with fail
      refine (spec_l5Dot w1.heap.size ua ya uc yc (Lp.col p k) y hcll hy _ (Nat.le_refl _) HU.out Hy1.out).mono ?_
      rintro e w2 ⟨rfl, k2⟩
      obtain ⟨b2, o2, rfl, hb2, q0, q1⟩ := (Hc1.out.below (k2.mono hsz1)).at k (by omega)
      generalize duOk p y cs k = ok at *
      generalize Lp.idR (Lp.col p k) y = D at *
      generalize Lp.idK (Lp.col p k) y = K at *
      generalize Ve.at_ cs k = z at *
      have hS2 := (HS1.out.trans k2).alloc (.cells #[.int .i64 D.1, .int .i64 D.2] 34)
      have HS2 := Lib.hid hS2
      have hsz2 : w.heap.size ≤ w2.heap.size := Nat.le_trans hsz1 k2.size
      clear Hzr Hyr Hcr HU Hy1 Hc1 hS2 k2
      rcases K with _ | _
      · have Hr := Lib.hid (Hbad.out (by rw [Hdef.out]; rfl))
        clear Hbad Hgood Hdef
        go_wp2_with fail
        go_quiet (fail)
        go_wp2_with fail
        go_ret
        exact ⟨ret_bool Hr.out, below_drewN (Hb.out.trans (HS2.out.low.mono Hsz.out)) nq⟩
      · have hkb : k < cs.length := by omega
        have hkb2 : ((k : Int) < (cs.length : Int)) := by omega
        have hkb3 : (0 : Int) ≤ (k : Int) := by omega
        have hal : Below w2.heap.size w2 (w2.alloc (.cells #[.int .i64 D.1, .int .i64 D.2] 34)) := (Below.refl _ _).alloc (Nat.le_refl _) _
        have hb2' : b2 < w2.heap.size := by omega
        have HQ : Hid (Quad w2.heap.size 0 b2 (o2 + k * 2) D z (w2.alloc (.cells #[.int .i64 D.1, .int .i64 D.2] 34))) := by
          have hnew := (BoxAt.new w2 D).four
          exact ⟨hnew.1, hnew.2.1, by rw [hal.cell (p := ⟨b2, o2 + k * 2, none⟩) hb2']; exact q0, by rw [hal.cell (p := ⟨b2, o2 + k * 2 + 1, none⟩) hb2']; exact q1, by rw [size1]; omega, by rw [size1]; omega⟩
        have hin := Since.refl (w2.alloc (.cells #[.int .i64 D.1, .int .i64 D.2] 34))
        have Hcmp := Lib.hid (fun w => compare_rat z D w)
        rcases hv : Lp.notLess z D with _ | _
        · have Hr := Lib.hid (Hbad.out (by rw [Hdef.out, hv]; rfl))
          have hdec : decide (Ra.cmp z.1 z.2 D.1 D.2 < 0) = true := by unfold Lp.notLess at hv; simpa using hv
          generalize Ra.cmp z.1 z.2 D.1 D.2 = s at *
          clear Hbad Hgood Hdef hal hv
          go_wp2_with fail
          go_region_held3 (fun w' => w'.cell? ⟨w2.heap.size, 0, none⟩ = some (.int .i64 D.1) ∧ w'.cell? ⟨w2.heap.size, 0 + 1, none⟩ = some (.int .i64 D.2) ∧ w'.cell? ⟨b2, o2 + k * 2, none⟩ = some (.int .i64 z.1) ∧ w'.cell? ⟨b2, o2 + k * 2 + 1, none⟩ = some (.int .i64 z.2) ∧ Since (w2.alloc (.cells #[.int .i64 D.1, .int .i64 D.2] 34)) w') (first | exact Quad.five HQ (by assumption) | exact Quad.five HQ (Since.drew (by assumption)))
            (first | (go_at_call 125; refine (cmul_since (Hcmp.out _) (B := w2.alloc (.cells #[.int .i64 D.1, .int .i64 D.2] 34)) (by first | assumption | exact Since.drew (by assumption))).mono ?_; rintro e w' ⟨rfl, hin2⟩))
          all_goals
            have Hend := Lib.hid ((HS2.out.trans (Since.low (B := w2.alloc (.cells #[.int .i64 D.1, .int .i64 D.2] 34)) (wx := w') (by assumption))).low)
            clear HQ hin
            go_wp2_with fail
            go_ret
            exact ⟨ret_bool Hr.out, Hb.out.trans (Hend.out.mono Hsz.out)⟩
        · have HOk2 := Lib.hid (Hgood.out (by rw [Hdef.out, hv]; rfl))
          have hdec : decide (Ra.cmp z.1 z.2 D.1 D.2 < 0) = false := by unfold Lp.notLess at hv; simpa using hv
          generalize Ra.cmp z.1 z.2 D.1 D.2 = s at *
          clear Hbad Hgood Hdef hal hv
          go_wp2_with fail
          go_region_held3 (fun w' => w'.cell? ⟨w2.heap.size, 0, none⟩ = some (.int .i64 D.1) ∧ w'.cell? ⟨w2.heap.size, 0 + 1, none⟩ = some (.int .i64 D.2) ∧ w'.cell? ⟨b2, o2 + k * 2, none⟩ = some (.int .i64 z.1) ∧ w'.cell? ⟨b2, o2 + k * 2 + 1, none⟩ = some (.int .i64 z.2) ∧ Since (w2.alloc (.cells #[.int .i64 D.1, .int .i64 D.2] 34)) w') (first | exact Quad.five HQ (by assumption) | exact Quad.five HQ (Since.drew (by assumption)))
            (first | (go_at_call 125; refine (cmul_since (Hcmp.out _) (B := w2.alloc (.cells #[.int .i64 D.1, .int .i64 D.2] 34)) (by first | assumption | exact Since.drew (by assumption))).mono ?_; rintro e w' ⟨rfl, hin2⟩))
          all_goals
            have Hend := Lib.hid (HS2.out.trans (Since.low (B := w2.alloc (.cells #[.int .i64 D.1, .int .i64 D.2] 34)) (wx := w') (by assumption)))
            clear HQ hin
            go_wp2_with fail
            go_roundw
            case rel => exact ⟨k + 1, by omega, by go_num, HOk2, Hend⟩
            case measure => simp [intOf]; omega
    · have Hr := Lib.hid (show true = g by rw [← Hg.out]; exact (du_good fun j hj => hOk.out j (by omega)).symm)
      go_wp2_with fail
      go_ret
      exact ⟨ret_bool Hr.out, Hb.out.trans (hS.out.low.mono Hsz.out)⟩
end Go.Proofs.Ytfbhnjdbamahkaa
