/- impl: the sum of two games. -/
import Derived.Test.YtccgebnbpfliiaaGmD
namespace Go.Proofs.Ytccgebnbpfliiaa
open Go.RowKit
open Gm (G)
set_option maxRecDepth 100000 in
set_option maxHeartbeats 2000000 in
theorem impl_sum_value {w : World} {p x y x' y' : Value} {g g' : G} (h : GmC w x y g) (h' : GmC w x' y' g') (hf : GmOk g) (hf' : GmOk g') (hv : Gm.vld g = true) (hv' : Gm.vld g' = true) (s : Nat) (hs : s < g.v.length) (hs' : s < g'.v.length) :
    Calls Try.prog 43 #[.agg #[p, x, y, x', y'], .int .i64 s] w fun e w' => e = .returned (.int .i64 (Gm.addAt g g' s)) ∧ Below w.heap.size w w' := by
  have hb := (Below.refl w.heap.size w).alloc (Nat.le_refl _) (.cells #[p, x, y, x', y'] 60)
  have hc := CellsAt.new w #[p, x, y, x', y'] 60
  have hbd := Gm.add_bd hv hv' hs hs'
  have e1 := Gm.val_in hs
  have e2 := Gm.val_in hs'
  have hb1 := Gm.vld_at hv hs
  have hb2 := Gm.vld_at hv' hs'
  have hat : Gm.addAt g g' s = g.v.getD s 0 + g'.v.getD s 0 := rfl
  rw [hat] at hbd ⊢
  have HC := Lib.hid hc
  have HB := Lib.hid hb
  have HA := Lib.hid (fun w' (hb : Below w.heap.size w w') => impl_ValueOf (w := w') (s : Int) (h.up hb) hf)
  have HA' := Lib.hid (fun w' (hb : Below w.heap.size w w') => impl_ValueOf (w := w') (s : Int) (h'.up hb) hf')
  rw [e1] at HA
  rw [e2] at HA'
  clear e1 e2 hat hc hb h h' hf hf' hv hv' hs hs'
  generalize g.v.getD s 0 = z1 at *
  generalize g'.v.getD s 0 = z2 at *
  obtain ⟨W, hW⟩ : ∃ W, W = w.alloc (.cells #[p, x, y, x', y'] 60) := ⟨_, rfl⟩
  have HW := Lib.hid hW
  rw [← hW] at HC HB
  clear hW
  have HS1 : Hid (IntKind.i64.wrap (z1 + z2) = z1 + z2) := IntWalk.i64_in _ (by omega)
  have hin := (Since.refl W).drew
  have Cell := Lib.hid (fun w' (h : Since W w') => (show w'.cell? ⟨w.heap.size, 1, none⟩ = some x ∧ w'.cell? ⟨w.heap.size, 2, none⟩ = some y ∧ w'.cell? ⟨w.heap.size, 3, none⟩ = some x' ∧ w'.cell? ⟨w.heap.size, 4, none⟩ = some y' ∧ Since W w' from
    ⟨h.cell (p := ⟨w.heap.size, 1, none⟩) (lt_of_at HC.out) (HC.out.cell 1), h.cell (p := ⟨w.heap.size, 2, none⟩) (lt_of_at HC.out) (HC.out.cell 2), h.cell (p := ⟨w.heap.size, 3, none⟩) (lt_of_at HC.out) (HC.out.cell 3), h.cell (p := ⟨w.heap.size, 4, none⟩) (lt_of_at HC.out) (HC.out.cell 4), h⟩))
  go_enter Try.func43, Try.ntmps43
  go_upto_region 1 with fail
  rw [← HW.out]
  clear HW
  go_cut [4] (fun v wx => v = .int .i64 (z1 + z2) ∧ Since W wx)
  case first =>
    go_region_held3 (fun w' => w'.cell? ⟨w.heap.size, 1, none⟩ = some x ∧ w'.cell? ⟨w.heap.size, 2, none⟩ = some y ∧ w'.cell? ⟨w.heap.size, 3, none⟩ = some x' ∧ w'.cell? ⟨w.heap.size, 4, none⟩ = some y' ∧ Since W w') (first | exact Cell.out _ (by assumption) | exact Cell.out _ (Since.drew (by assumption)))
      (first
        | (go_at_call 23; (with_reducible refine (calls_since (HA.out _ (HB.out.trans ((Since.low (B := W) (by first | assumption | exact Since.drew (by assumption))).mono HB.out.size))) (B := W) (by first | assumption | exact Since.drew (by assumption))).mono ?_); rintro e w' ⟨⟨rfl, _⟩, hin2⟩)
        | (go_at_call 23; (with_reducible refine (calls_since (HA'.out _ (HB.out.trans ((Since.low (B := W) (by first | assumption | exact Since.drew (by assumption))).mono HB.out.size))) (B := W) (by first | assumption | exact Since.drew (by assumption))).mono ?_); rintro e w' ⟨⟨rfl, _⟩, hin3⟩))
    all_goals
      go_wp2_with fail
      go_meet
      exact ⟨by rw [HS1.out], by assumption⟩
  case rest =>
    obtain ⟨w1, rfl⟩ : ∃ q : World, q = wc := ⟨_, rfl⟩
    obtain ⟨rfl, hs⟩ := hcut
    have HE := Lib.hid (HB.out.trans (hs.low.mono HB.out.size))
    clear hs hin Cell HA HA'
    go_wp2_with fail
    go_ret
    exact ⟨rfl, HE.out⟩
theorem ResGm.kept {lo l s : Nat} {w w' : World} {v : Value} {g : G} (h : ResGm lo w.heap.size w v g) (ht : Turned s (s + 1) w w') (hs : s + 1 ≤ lo) (hl : l ≤ lo) : ResGm l w'.heap.size w' v g := by
  obtain ⟨vV, e, hr, _⟩ := h
  exact ⟨vV, e, (hr.turned ht (.inr hs)).wider hl ht.size, Nat.le_refl _⟩
set_option maxRecDepth 100000 in
set_option maxHeartbeats 4000000 in
theorem impl_AddGames {w : World} {x y x' y' : Value} {g g' : G} (h : GmC w x y g) (h' : GmC w x' y' g') (hf : GmOk g) (hf' : GmOk g') :
    Calls Try.prog 13 #[.agg #[x, y], .agg #[x', y']] w (MakesGm (Gm.add g g') w) := by
  obtain ⟨W, hW⟩ : ∃ W, W = ((w.alloc (.cells #[x, y] 26)).alloc (.cells #[x', y'] 26)).alloc (.cells #[.int .i64 0, .slice none 0 0] 26) := ⟨_, rfl⟩
  obtain ⟨q1, q2, q3, q4, q5⟩ := three_boxes w x y x' y' 26 W hW
  have HA := Lib.hid (h.up q4)
  have HA' := Lib.hid (h'.up q4)
  have HC1 := Lib.hid q1
  have HC2 := Lib.hid q2
  have HC3 := Lib.hid q3
  have HB := Lib.hid q4
  have HW := Lib.hid hW
  have HF := Lib.hid hf
  have HF' := Lib.hid hf'
  obtain ⟨R, hR⟩ : ∃ R, Gm.add g g' = R := ⟨_, rfl⟩
  have HR0 := Lib.hid hR
  rw [hR]
  clear q1 q2 q3 q4 h h' hW hf hf' hR
  rcases hv : Gm.vld g with _ | _
  · have Hr := Lib.hid (show (Gm.G0, false) = R by rw [← HR0.out]; exact (Gm.add_no (by unfold Gm.addOk; rw [hv]; rfl)).symm)
    have HV := Lib.hid hv
    clear hv HR0
    go_enter Try.func13, Try.ntmps13
    go_wp2_with fail
    rw [← HW.out]
    refine (impl_IsValidGame false HV.out HA.out HF.out).mono ?_
    rintro e w1 ⟨rfl, k⟩
    have HB1 := Lib.hid (HB.out.trans (k.mono (by omega)))
    have HC4 := Lib.hid (HC3.out.below k)
    clear k HW
    have HR := Lib.hid ((HC4.out.s0 (.int .i64 0)).s1 (.slice none 0 0))
    have HBz := Lib.hid ((HB1.out.setCell (p := ⟨w.heap.size + 1 + 1, 0, none⟩) (by simp only; omega) (.int .i64 0)).setCell (p := ⟨w.heap.size + 1 + 1, 1, none⟩) (by simp only; omega) (.slice none 0 0))
    obtain ⟨d0, d1, e0, e1⟩ := two' HC4.out
    go_wp2_with fail
    refine bodyPost_ret (v := .tuple #[.agg #[.int .i64 0, .slice none 0 0], .bool false]) (by
      obtain ⟨z0, z1⟩ := two HR.out
      revert z0 z1
      generalize ((w1.setCell ⟨w.heap.size + 1 + 1, 0, none⟩ (.int .i64 0)).setCell ⟨w.heap.size + 1 + 1, 1, none⟩ (.slice none 0 0)) = W4
      intro z0 z1
      simp [results, Try.results13, go_sem, z0, z1]) rfl (by rw [← Hr.out]; exact ⟨⟨_, _, rfl, ResGm.zero _ _⟩, HBz.out⟩)
  · have HV := Lib.hid hv
    rcases hv' : Gm.vld g' with _ | _
    · have Hr := Lib.hid (show (Gm.G0, false) = R by rw [← HR0.out]; exact (Gm.add_no (by unfold Gm.addOk; rw [hv']; simp)).symm)
      have HV' := Lib.hid hv'
      clear hv hv' HR0
      go_enter Try.func13, Try.ntmps13
      go_wp2_with fail
      rw [← HW.out]
      refine (impl_IsValidGame true HV.out HA.out HF.out).mono ?_
      rintro e w1 ⟨rfl, k⟩
      have HB1 := Lib.hid (HB.out.trans (k.mono (by omega)))
      have HC4 := Lib.hid (HC3.out.below k)
      have HA2 := Lib.hid (HA'.out.up k)
      have hs1 := k.size
      obtain ⟨m0, m1⟩ := two (HC2.out.below k)
      clear k HW
      go_wp2_with fail
      refine (impl_IsValidGame false HV'.out HA2.out HF'.out).mono ?_
      rintro e w2 ⟨rfl, k⟩
      have HB2 := Lib.hid (HB1.out.trans (k.mono HB1.out.size))
      have HC5 := Lib.hid (HC4.out.below k)
      clear k m0 m1
      have HR := Lib.hid ((HC5.out.s0 (.int .i64 0)).s1 (.slice none 0 0))
      have HBz := Lib.hid ((HB2.out.setCell (p := ⟨w.heap.size + 1 + 1, 0, none⟩) (by simp only; omega) (.int .i64 0)).setCell (p := ⟨w.heap.size + 1 + 1, 1, none⟩) (by simp only; omega) (.slice none 0 0))
      obtain ⟨d0, d1, e0, e1⟩ := two' HC5.out
      go_wp2_with fail
      refine bodyPost_ret (v := .tuple #[.agg #[.int .i64 0, .slice none 0 0], .bool false]) (by
        obtain ⟨z0, z1⟩ := two HR.out
        revert z0 z1
        generalize ((w2.setCell ⟨w.heap.size + 1 + 1, 0, none⟩ (.int .i64 0)).setCell ⟨w.heap.size + 1 + 1, 1, none⟩ (.slice none 0 0)) = W4
        intro z0 z1
        simp [results, Try.results13, go_sem, z0, z1]) rfl (by rw [← Hr.out]; exact ⟨⟨_, _, rfl, ResGm.zero _ _⟩, HBz.out⟩)
    · have HV' := Lib.hid hv'
      obtain ⟨x1, hx1⟩ : ∃ x1 : Int, g.n = x1 := ⟨_, rfl⟩
      obtain ⟨x2, hx2⟩ : ∃ x2 : Int, g'.n = x2 := ⟨_, rfl⟩
      obtain ⟨a, c, e1, e2, _⟩ := HA.out
      obtain ⟨a', c', e1', e2', _⟩ := HA'.out
      rw [hx1] at e1
      rw [hx2] at e1'
      have hl := Gm.vld_len hv
      have hl' := Gm.vld_len hv'
      have hn1 := Gm.vld_n hv
      have hn2 := Gm.vld_n hv'
      rw [hx1] at hn1
      rw [hx2] at hn2
      have ho1 : x.oneCell' = true ∧ y.oneCell' = true := HA.out.one
      have ho2 : x'.oneCell' = true ∧ y'.oneCell' = true := HA'.out.one
      by_cases hn : x1 = x2
      · subst hn
        obtain ⟨m, hm⟩ : ∃ m : Nat, x1 = m := ⟨x1.toNat, by omega⟩
        subst hm
        have hp1 := Gm.vld_pow hv
        have hp2 := Gm.vld_pow hv'
        rw [hx1] at hp1
        rw [hx2] at hp2
        simp only [Int.toNat_natCast] at hp1 hp2
        have Hr := Lib.hid (show Gm.keep (Gm.mk m (Gm.addAt g g') (2 ^ m)) = R by rw [← HR0.out, Gm.add_yes (by unfold Gm.addOk; rw [hv, hv']; simp [hx1, hx2]), hx1, hp1])
        have hq : ((m : Int) != (m : Int)) = false := by simp
        have hm1 : 1 ≤ m := by omega
        have hm5 : m ≤ 5 := by omega
        have HP1 := Lib.hid hp1
        have HP2 := Lib.hid hp2
        have hF : Enters Try.prog 43 := enters_of Try.func43 (by kernel_rfl) rfl
        have HF0 := Lib.hid hF
        have hmf : ∀ (fn : Fn) (first cap : Array Value) (w : World), (Instr.makeFunc fn first cap).run Try.prog w = .ok (.func fn first cap) w := fun _ _ _ _ => rfl
        subst e1 e1'
        have t1 := sto ho1.2
        have t2 := sto ho2.2
        clear hv hv' HR0 hx1 hx2 hn1 hn2 e2 e2' ho1 ho2 hp1 hp2 hF
        go_enter Try.func13, Try.ntmps13
        go_wp2_with fail
        rw [← HW.out]
        refine (impl_IsValidGame true HV.out HA.out HF.out).mono ?_
        rintro e w1 ⟨rfl, k⟩
        have HB1 := Lib.hid (HB.out.trans (k.mono (by omega)))
        have HK1 := Lib.hid k
        have HA2 := Lib.hid (HA'.out.up k)
        have hs1 := k.size
        obtain ⟨m0, m1⟩ := two (HC2.out.below k)
        clear k HW
        go_wp2_with fail
        refine (impl_IsValidGame true HV'.out HA2.out HF'.out).mono ?_
        rintro e w2 ⟨rfl, k⟩
        have HK2 := Lib.hid (HK1.out.trans (k.mono HK1.out.size))
        have hs2 := HK2.out.size
        have HB2 := Lib.hid (HB.out.trans (HK2.out.mono (by omega)))
        obtain ⟨m2, m3⟩ := two (HC1.out.below HK2.out)
        obtain ⟨m4, m5⟩ := two (HC2.out.below HK2.out)
        clear k m0 m1 HK1 HA2
        go_wp2_with fail
        have Hlow := Lib.hid ((Below.refl w2.heap.size w2).alloc (Nat.le_refl _) (.cells #[.int .i64 m, .int .i64 m, y, .int .i64 m, y'] 60))
        have hs3 := Hlow.out.size
        have HVal := Lib.hid (fun (w' : World) (s : Nat) (hs : s < 2 ^ m) (hb : Below (w2.alloc (.cells #[.int .i64 m, .int .i64 m, y, .int .i64 m, y'] 60)).heap.size (w2.alloc (.cells #[.int .i64 m, .int .i64 m, y, .int .i64 m, y'] 60)) w') =>
          impl_sum_value (p := .int .i64 m) ((HA.out.up HK2.out).up (Hlow.out.trans (hb.mono hs3))) ((HA'.out.up HK2.out).up (Hlow.out.trans (hb.mono hs3))) HF.out HF'.out HV.out HV'.out s (by have := HP1.out; omega) (by have := HP2.out; omega))
        refine (impl_build m hm1 hm5 (Gm.addAt g g') 43 HF0.out _ _ _ _ HVal.out).mono ?_
        rintro e w4 ⟨⟨x0, y0, rfl, hr⟩, kb⟩
        rw [Hr.out] at hr ⊢
        have HKb := Lib.hid (Hlow.out.trans (kb.mono hs3))
        have HB4 := Lib.hid (HB2.out.trans (HKb.out.mono (by omega)))
        have HC6 := Lib.hid (HC3.out.below (HK2.out.trans (HKb.out.mono hs2)))
        obtain ⟨ax, cx, e3, e4, _⟩ := hr.reads_c
        obtain ⟨xn, hxn⟩ : ∃ xn : Int, R.1.n = xn := ⟨_, rfl⟩
        obtain ⟨xl, hxl⟩ : ∃ xl : Nat, R.1.v.length = xl := ⟨_, rfl⟩
        obtain ⟨rk, hrk⟩ : ∃ rk : Bool, R.2 = rk := ⟨_, rfl⟩
        rw [hxn] at e3
        rw [hxl] at e4
        subst e3 e4
        have HRk := Lib.hid hrk
        have HRes := Lib.hid hr
        rw [hrk]
        have hs4 := kb.size
        obtain ⟨d0, d1, e0, e1⟩ := two' HC6.out
        have HR := Lib.hid ((HC6.out.s0 (.int .i64 xn)).s1 (.slice ax xl cx))
        have HB7 := Lib.hid ((HB4.out.setCell (p := ⟨w.heap.size + 1 + 1, 0, none⟩) (by simp only; omega) (.int .i64 xn)).setCell (p := ⟨w.heap.size + 1 + 1, 1, none⟩) (by simp only; omega) (.slice ax xl cx))
        clear hr kb hxn hxl hrk m2 m3 m4 m5 HVal HF0 HKb
        go_wp2_with fail
        refine bodyPost_ret (v := .tuple #[.agg #[.int .i64 xn, .slice ax xl cx], .bool rk]) (by
          obtain ⟨z0, z1⟩ := two HR.out
          revert z0 z1
          generalize ((w4.setCell ⟨w.heap.size + 1 + 1, 0, none⟩ (.int .i64 xn)).setCell ⟨w.heap.size + 1 + 1, 1, none⟩ (.slice ax xl cx)) = W4
          intro z0 z1
          simp [results, Try.results13, go_sem, z0, z1]) rfl (by exact ⟨⟨_, _, by rw [HRk.out], ResGm.kept HRes.out (((Turned.refl (w.heap.size + 1 + 1) (w.heap.size + 1 + 1 + 1) w4).setCell (p := ⟨w.heap.size + 1 + 1, 0, none⟩) (Nat.le_refl _) (Nat.lt_succ_self _) _).setCell (p := ⟨w.heap.size + 1 + 1, 1, none⟩) (Nat.le_refl _) (Nat.lt_succ_self _) _) (by omega) (by omega)⟩, HB7.out⟩)
      · have Hr := Lib.hid (show (Gm.G0, false) = R by rw [← HR0.out]; exact (Gm.add_no (by unfold Gm.addOk; simp [hx1, hx2, hn])).symm)
        have hq : (x1 != x2) = true := by simp [hn]
        subst e1 e1'
        clear hv hv' HR0 e2 e2' hx1 hx2
        go_enter Try.func13, Try.ntmps13
        go_wp2_with fail
        rw [← HW.out]
        refine (impl_IsValidGame true HV.out HA.out HF.out).mono ?_
        rintro e w1 ⟨rfl, k⟩
        have HB1 := Lib.hid (HB.out.trans (k.mono (by omega)))
        have HC4 := Lib.hid (HC3.out.below k)
        have HC6 := Lib.hid (HC1.out.below k)
        have HC7 := Lib.hid (HC2.out.below k)
        have HA2 := Lib.hid (HA'.out.up k)
        have hs1 := k.size
        obtain ⟨m0, m1⟩ := two (HC2.out.below k)
        clear k HW
        go_wp2_with fail
        refine (impl_IsValidGame true HV'.out HA2.out HF'.out).mono ?_
        rintro e w2 ⟨rfl, k⟩
        have HB2 := Lib.hid (HB1.out.trans (k.mono HB1.out.size))
        have HC5 := Lib.hid (HC4.out.below k)
        obtain ⟨m2, m3⟩ := two (HC6.out.below k)
        obtain ⟨m4, m5⟩ := two (HC7.out.below k)
        clear k m0 m1
        have HR := Lib.hid ((HC5.out.s0 (.int .i64 0)).s1 (.slice none 0 0))
        have HBz := Lib.hid ((HB2.out.setCell (p := ⟨w.heap.size + 1 + 1, 0, none⟩) (by simp only; omega) (.int .i64 0)).setCell (p := ⟨w.heap.size + 1 + 1, 1, none⟩) (by simp only; omega) (.slice none 0 0))
        obtain ⟨d0, d1, e0, e1⟩ := two' HC5.out
        go_wp2_with fail
        refine bodyPost_ret (v := .tuple #[.agg #[.int .i64 0, .slice none 0 0], .bool false]) (by
          obtain ⟨z0, z1⟩ := two HR.out
          revert z0 z1
          generalize ((w2.setCell ⟨w.heap.size + 1 + 1, 0, none⟩ (.int .i64 0)).setCell ⟨w.heap.size + 1 + 1, 1, none⟩ (.slice none 0 0)) = W4
          intro z0 z1
          simp [results, Try.results13, go_sem, z0, z1]) rfl (by rw [← Hr.out]; exact ⟨⟨_, _, rfl, ResGm.zero _ _⟩, HBz.out⟩)
end Go.Proofs.Ytccgebnbpfliiaa
