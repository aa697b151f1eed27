/- impl: scaled and restricted games. -/
import Derived.Test.YtccgebnbpfliiaaGmH
import Derived.Test.YtccgebnbpfliiaaGmG
namespace Go.Proofs.Ytccgebnbpfliiaa
open Go.RowKit
open Gm (G)
set_option maxRecDepth 100000 in
set_option maxHeartbeats 4000000 in
theorem impl_ScaleGame {w : World} {x y u : Value} {g : G} {kf : Int} {zs : List Int} (h : GmC w x y g) (hu : InInts w u zs) (hf : GmOk g) (hz : zs.length ≤ 1048576) :
    Calls Try.prog 16 #[.agg #[x, y], .int .i64 kf, u] w (MakesGm (Gm.scl g kf zs) w) := by
  obtain ⟨W, hW⟩ : ∃ W, W = (w.alloc (.cells #[x, y] 26)).alloc (.cells #[.int .i64 0, .slice none 0 0] 26) := ⟨_, rfl⟩
  obtain ⟨q1, q3, q4, q5⟩ := two_boxes w x y 26 W hW
  have HA := Lib.hid (h.up q4)
  have HC1 := Lib.hid q1
  have HC3 := Lib.hid q3
  have HB := Lib.hid q4
  have HW := Lib.hid hW
  have HF := Lib.hid hf
  obtain ⟨R, hR⟩ : ∃ R, Gm.scl g kf zs = R := ⟨_, rfl⟩
  have HR0 := Lib.hid hR
  rw [hR]
  have HU := Lib.hid (hu.up q4)
  obtain ⟨au, cu, rfl, hnu⟩ := hu
  have HUn := Lib.hid (hnu.below q4)
  clear q1 q3 q4 h hW hf hR hnu
  rcases hv : Gm.vld g with _ | _
  · have Hr := Lib.hid (show (Gm.G0, false) = R by rw [← HR0.out]; exact (Gm.scl_no (by unfold Gm.sclOk; rw [hv]; rfl)).symm)
    have HV := Lib.hid hv
    clear hv HR0
    go_enter Try.func16, Try.ntmps16
    go_wp2_with fail
    rw [← HW.out]
    refine (impl_IsValidGame false HV.out HA.out HF.out).mono ?_
    rintro e w1 ⟨rfl, k⟩
    have HB1 := Lib.hid (HB.out.trans (k.mono (by omega)))
    have HC4 := Lib.hid (HC3.out.below k)
    have HK1 := Lib.hid k
    have hs1 := k.size
    clear k HW
    have HR := Lib.hid ((HC4.out.s0 (.int .i64 0)).s1 (.slice none 0 0))
    have HBz := Lib.hid ((HB1.out.setCell (p := ⟨w.heap.size + 1, 0, none⟩) (by simp only; omega) (.int .i64 0)).setCell (p := ⟨w.heap.size + 1, 1, none⟩) (by simp only; omega) (.slice none 0 0))
    obtain ⟨d0, d1, e0, e1⟩ := two' HC4.out
    go_wp2_with fail
    refine bodyPost_ret (v := .tuple #[.agg #[.int .i64 0, .slice none 0 0], .bool false]) (by
      obtain ⟨z0, z1⟩ := two HR.out
      revert z0 z1
      generalize ((w1.setCell ⟨w.heap.size + 1, 0, none⟩ (.int .i64 0)).setCell ⟨w.heap.size + 1, 1, none⟩ (.slice none 0 0)) = W4
      intro z0 z1
      simp [results, Try.results16, go_sem, z0, z1]) rfl (by rw [← Hr.out]; exact ⟨⟨_, _, rfl, ResGm.zero _ _⟩, HBz.out⟩)
  · have HV := Lib.hid hv
    obtain ⟨x1, hx1⟩ : ∃ x1 : Int, g.n = x1 := ⟨_, rfl⟩
    obtain ⟨a, c, e1, e2, _⟩ := HA.out
    rw [hx1] at e1
    have hl := Gm.vld_len hv
    have hn1 := Gm.vld_n hv
    rw [hx1] at hn1
    have ho1 : x.oneCell' = true ∧ y.oneCell' = true := HA.out.one
    subst e1
    obtain ⟨m, hm⟩ : ∃ m : Nat, x1 = m := ⟨x1.toNat, by omega⟩
    subst hm
    by_cases hk : -500 ≤ kf ∧ kf ≤ 500
    · have Hd := Lib.hid (show decide (-500 ≤ kf ∧ kf ≤ 500) = true from decide_eq_true hk)
      by_cases hn : zs.length = m
      · have hq : ((zs.length : Int) != (m : Int)) = false := by rw [hn]; simp
        rcases hw : Gm.within 500 zs with _ | _
        · have Hr := Lib.hid (show (Gm.G0, false) = R by rw [← HR0.out]; exact (Gm.scl_no (by unfold Gm.sclOk; rw [hw]; simp)).symm)
          have HWi := Lib.hid hw
          clear hv HR0 hn hk hw e2 hx1
          go_enter Try.func16, Try.ntmps16
          go_wp2_with fail
          rw [← HW.out]
          refine (impl_IsValidGame true HV.out HA.out HF.out).mono ?_
          rintro e w1 ⟨rfl, k⟩
          have HB1 := Lib.hid (HB.out.trans (k.mono (by omega)))
          have HC4 := Lib.hid (HC3.out.below k)
          have HK1 := Lib.hid k
          have hs1 := k.size
          obtain ⟨m0, m1⟩ := two (HC1.out.below k)
          clear k HW
          go_wp2_with fail
          refine (impl_isWithin kf 500 true Hd.out (by decide) (by decide) _).mono ?_
          rintro e w9 ⟨rfl, rfl⟩
          go_wp2_with fail
          refine (impl_areWithin w.heap.size au cu zs 500 (by decide) (by decide) hz false HWi.out _ (HUn.out.below (HK1.out.mono (by omega)))).mono ?_
          rintro e w9 ⟨rfl, rfl⟩
          have HR := Lib.hid ((HC4.out.s0 (.int .i64 0)).s1 (.slice none 0 0))
          have HBz := Lib.hid ((HB1.out.setCell (p := ⟨w.heap.size + 1, 0, none⟩) (by simp only; omega) (.int .i64 0)).setCell (p := ⟨w.heap.size + 1, 1, none⟩) (by simp only; omega) (.slice none 0 0))
          obtain ⟨d0, d1, e0, e1⟩ := two' HC4.out
          go_wp2_with fail
          refine bodyPost_ret (v := .tuple #[.agg #[.int .i64 0, .slice none 0 0], .bool false]) (by
            obtain ⟨z0, z1⟩ := two HR.out
            revert z0 z1
            generalize ((w1.setCell ⟨w.heap.size + 1, 0, none⟩ (.int .i64 0)).setCell ⟨w.heap.size + 1, 1, none⟩ (.slice none 0 0)) = W4
            intro z0 z1
            simp [results, Try.results16, go_sem, z0, z1]) rfl (by rw [← Hr.out]; exact ⟨⟨_, _, rfl, ResGm.zero _ _⟩, HBz.out⟩)
        · have hok : Gm.sclOk g kf zs = true := by unfold Gm.sclOk; rw [hv, hw]; simp [hk, hx1, hn]
          have hp1 := Gm.vld_pow hv
          rw [hx1] at hp1
          simp only [Int.toNat_natCast] at hp1
          have Hr := Lib.hid (show Gm.keep (Gm.mk m (Gm.sclAt g kf zs) (2 ^ m)) = R by rw [← HR0.out, Gm.scl_yes hok, hx1, hp1])
          have HWi := Lib.hid hw
          have HOk := Lib.hid hok
          have HP1 := Lib.hid hp1
          have hm1 : 1 ≤ m := by omega
          have hm5 : m ≤ 5 := by omega
          have hF : Enters Try.prog 50 := enters_of Try.func50 (by kernel_rfl) rfl
          have HF0 := Lib.hid hF
          have hmf : ∀ (fn : Fn) (first cap : Array Value) (w : World), (Instr.makeFunc fn first cap).run Try.prog w = .ok (.func fn first cap) w := fun _ _ _ _ => rfl
          have t1 := sto ho1.2
          clear hv HR0 hn hk hw e2 hx1 hok hp1 hF ho1
          go_enter Try.func16, Try.ntmps16
          go_wp2_with fail
          rw [← HW.out]
          refine (impl_IsValidGame true HV.out HA.out HF.out).mono ?_
          rintro e w1 ⟨rfl, k⟩
          have HB1 := Lib.hid (HB.out.trans (k.mono (by omega)))
          have HC4 := Lib.hid (HC3.out.below k)
          have HK1 := Lib.hid k
          have hs1 := k.size
          obtain ⟨m0, m1⟩ := two (HC1.out.below k)
          clear k HW
          go_wp2_with fail
          refine (impl_isWithin kf 500 true Hd.out (by decide) (by decide) _).mono ?_
          rintro e w9 ⟨rfl, rfl⟩
          go_wp2_with fail
          refine (impl_areWithin w.heap.size au cu zs 500 (by decide) (by decide) hz true HWi.out _ (HUn.out.below (HK1.out.mono (by omega)))).mono ?_
          rintro e w9 ⟨rfl, rfl⟩
          have HK2 := HK1
          have hs2 := hs1
          have HB2 := HB1
          have Hlow := Lib.hid ((Below.refl w1.heap.size w1).alloc (Nat.le_refl _) (.cells #[.int .i64 m, .int .i64 m, y, .int .i64 kf, .slice au zs.length cu] 68))
          have hs3 := Hlow.out.size
          have HVal := Lib.hid (fun (w' : World) (s : Nat) (hs : s < 2 ^ m) (hb : Below (w1.alloc (.cells #[.int .i64 m, .int .i64 m, y, .int .i64 kf, .slice au zs.length cu] 68)).heap.size (w1.alloc (.cells #[.int .i64 m, .int .i64 m, y, .int .i64 kf, .slice au zs.length cu] 68)) w') =>
            impl_scl_value (p := .int .i64 m) ((HA.out.up HK2.out).up (Hlow.out.trans (hb.mono hs3))) ((HU.out.up HK2.out).up (Hlow.out.trans (hb.mono hs3))) HF.out HOk.out s (by have := HP1.out; omega))
          go_wp2_with fail
          refine (impl_build m hm1 hm5 (Gm.sclAt g kf zs) 50 HF0.out _ _ _ _ HVal.out).mono ?_
          rintro e w4 ⟨⟨x0, y0, rfl, hr⟩, kb⟩
          rw [Hr.out] at hr ⊢
          have HKb := Lib.hid (Hlow.out.trans (kb.mono hs3))
          have HB4 := Lib.hid (HB2.out.trans (HKb.out.mono (by omega)))
          have HC6 := Lib.hid (HC3.out.below (HK2.out.trans (HKb.out.mono hs2)))
          obtain ⟨ax, cx, e3, e4, _⟩ := hr.reads_c
          obtain ⟨xn, hxn⟩ : ∃ xn : Int, R.1.n = xn := ⟨_, rfl⟩
          obtain ⟨xl, hxl⟩ : ∃ xl : Nat, R.1.v.length = xl := ⟨_, rfl⟩
          obtain ⟨rk, hrk⟩ : ∃ rk : Bool, R.2 = rk := ⟨_, rfl⟩
          rw [hxn] at e3
          rw [hxl] at e4
          subst e3 e4
          have HRk := Lib.hid hrk
          have HRes := Lib.hid hr
          rw [hrk]
          have hs4 := kb.size
          obtain ⟨d0, d1, e0, e1⟩ := two' HC6.out
          have HR := Lib.hid ((HC6.out.s0 (.int .i64 xn)).s1 (.slice ax xl cx))
          have HB7 := Lib.hid ((HB4.out.setCell (p := ⟨w.heap.size + 1, 0, none⟩) (by simp only; omega) (.int .i64 xn)).setCell (p := ⟨w.heap.size + 1, 1, none⟩) (by simp only; omega) (.slice ax xl cx))
          clear hr kb hxn hxl hrk HVal HF0 HKb
          go_wp2_with fail
          refine bodyPost_ret (v := .tuple #[.agg #[.int .i64 xn, .slice ax xl cx], .bool rk]) (by
            obtain ⟨z0, z1⟩ := two HR.out
            revert z0 z1
            generalize ((w4.setCell ⟨w.heap.size + 1, 0, none⟩ (.int .i64 xn)).setCell ⟨w.heap.size + 1, 1, none⟩ (.slice ax xl cx)) = W4
            intro z0 z1
            simp [results, Try.results16, go_sem, z0, z1]) rfl (by exact ⟨⟨_, _, by rw [HRk.out], ResGm.kept HRes.out (((Turned.refl (w.heap.size + 1) (w.heap.size + 1 + 1) w4).setCell (p := ⟨w.heap.size + 1, 0, none⟩) (Nat.le_refl _) (Nat.lt_succ_self _) _).setCell (p := ⟨w.heap.size + 1, 1, none⟩) (Nat.le_refl _) (Nat.lt_succ_self _) _) (by omega) (by omega)⟩, HB7.out⟩)
      · have Hr := Lib.hid (show (Gm.G0, false) = R by rw [← HR0.out]; exact (Gm.scl_no (by unfold Gm.sclOk; rw [hx1, show decide ((zs.length : Int) = (m : Int)) = false from decide_eq_false (by omega)]; simp)).symm)
        have hq : ((zs.length : Int) != (m : Int)) = true := (len_no hn).2
        clear hv HR0 hn hk e2 hx1
        go_enter Try.func16, Try.ntmps16
        go_wp2_with fail
        rw [← HW.out]
        refine (impl_IsValidGame true HV.out HA.out HF.out).mono ?_
        rintro e w1 ⟨rfl, k⟩
        have HB1 := Lib.hid (HB.out.trans (k.mono (by omega)))
        have HC4 := Lib.hid (HC3.out.below k)
        have HK1 := Lib.hid k
        have hs1 := k.size
        obtain ⟨m0, m1⟩ := two (HC1.out.below k)
        clear k HW
        go_wp2_with fail
        refine (impl_isWithin kf 500 true Hd.out (by decide) (by decide) _).mono ?_
        rintro e w9 ⟨rfl, rfl⟩
        have HR := Lib.hid ((HC4.out.s0 (.int .i64 0)).s1 (.slice none 0 0))
        have HBz := Lib.hid ((HB1.out.setCell (p := ⟨w.heap.size + 1, 0, none⟩) (by simp only; omega) (.int .i64 0)).setCell (p := ⟨w.heap.size + 1, 1, none⟩) (by simp only; omega) (.slice none 0 0))
        obtain ⟨d0, d1, e0, e1⟩ := two' HC4.out
        go_wp2_with fail
        refine bodyPost_ret (v := .tuple #[.agg #[.int .i64 0, .slice none 0 0], .bool false]) (by
          obtain ⟨z0, z1⟩ := two HR.out
          revert z0 z1
          generalize ((w1.setCell ⟨w.heap.size + 1, 0, none⟩ (.int .i64 0)).setCell ⟨w.heap.size + 1, 1, none⟩ (.slice none 0 0)) = W4
          intro z0 z1
          simp [results, Try.results16, go_sem, z0, z1]) rfl (by rw [← Hr.out]; exact ⟨⟨_, _, rfl, ResGm.zero _ _⟩, HBz.out⟩)
    · have Hr := Lib.hid (show (Gm.G0, false) = R by rw [← HR0.out]; exact (Gm.scl_no (by unfold Gm.sclOk; simp [hk])).symm)
      have Hd := Lib.hid (show decide (-500 ≤ kf ∧ kf ≤ 500) = false from decide_eq_false hk)
      clear hv HR0 hk e2 hx1
      go_enter Try.func16, Try.ntmps16
      go_wp2_with fail
      rw [← HW.out]
      refine (impl_IsValidGame true HV.out HA.out HF.out).mono ?_
      rintro e w1 ⟨rfl, k⟩
      have HB1 := Lib.hid (HB.out.trans (k.mono (by omega)))
      have HC4 := Lib.hid (HC3.out.below k)
      have HK1 := Lib.hid k
      have hs1 := k.size
      obtain ⟨m0, m1⟩ := two (HC1.out.below k)
      clear k HW
      go_wp2_with fail
      refine (impl_isWithin kf 500 false Hd.out (by decide) (by decide) _).mono ?_
      rintro e w9 ⟨rfl, rfl⟩
      have HR := Lib.hid ((HC4.out.s0 (.int .i64 0)).s1 (.slice none 0 0))
      have HBz := Lib.hid ((HB1.out.setCell (p := ⟨w.heap.size + 1, 0, none⟩) (by simp only; omega) (.int .i64 0)).setCell (p := ⟨w.heap.size + 1, 1, none⟩) (by simp only; omega) (.slice none 0 0))
      obtain ⟨d0, d1, e0, e1⟩ := two' HC4.out
      go_wp2_with fail
      refine bodyPost_ret (v := .tuple #[.agg #[.int .i64 0, .slice none 0 0], .bool false]) (by
        obtain ⟨z0, z1⟩ := two HR.out
        revert z0 z1
        generalize ((w1.setCell ⟨w.heap.size + 1, 0, none⟩ (.int .i64 0)).setCell ⟨w.heap.size + 1, 1, none⟩ (.slice none 0 0)) = W4
        intro z0 z1
        simp [results, Try.results16, go_sem, z0, z1]) rfl (by rw [← Hr.out]; exact ⟨⟨_, _, rfl, ResGm.zero _ _⟩, HBz.out⟩)
set_option maxRecDepth 100000 in
set_option maxHeartbeats 4000000 in
theorem impl_Restrict {w : World} {x y : Value} {g : G} {s : Int} (h : GmC w x y g) (hf : GmOk g) :
    Calls Try.prog 21 #[.agg #[x, y], .int .i64 s] w (MakesGm (Gm.res g s) w) := by
  obtain ⟨W, hW⟩ : ∃ W, W = (w.alloc (.cells #[x, y] 26)).alloc (.cells #[.int .i64 0, .slice none 0 0] 26) := ⟨_, rfl⟩
  obtain ⟨q1, q3, q4, q5⟩ := two_boxes w x y 26 W hW
  have HA := Lib.hid (h.up q4)
  have HC1 := Lib.hid q1
  have HC3 := Lib.hid q3
  have HB := Lib.hid q4
  have HW := Lib.hid hW
  have HF := Lib.hid hf
  obtain ⟨R, hR⟩ : ∃ R, Gm.res g s = R := ⟨_, rfl⟩
  have HR0 := Lib.hid hR
  rw [hR]
  clear q1 q3 q4 h hW hf hR
  rcases hv : Gm.vld g with _ | _
  · have Hr := Lib.hid (show (Gm.G0, false) = R by rw [← HR0.out]; exact (Gm.res_no (by unfold Gm.resOk; rw [hv]; rfl)).symm)
    have HV := Lib.hid hv
    clear hv HR0
    go_enter Try.func21, Try.ntmps21
    go_wp2_with fail
    rw [← HW.out]
    refine (impl_IsValidGame false HV.out HA.out HF.out).mono ?_
    rintro e w1 ⟨rfl, k⟩
    have HB1 := Lib.hid (HB.out.trans (k.mono (by omega)))
    have HC4 := Lib.hid (HC3.out.below k)
    have HK1 := Lib.hid k
    have hs1 := k.size
    clear k HW
    have HR := Lib.hid ((HC4.out.s0 (.int .i64 0)).s1 (.slice none 0 0))
    have HBz := Lib.hid ((HB1.out.setCell (p := ⟨w.heap.size + 1, 0, none⟩) (by simp only; omega) (.int .i64 0)).setCell (p := ⟨w.heap.size + 1, 1, none⟩) (by simp only; omega) (.slice none 0 0))
    obtain ⟨d0, d1, e0, e1⟩ := two' HC4.out
    go_wp2_with fail
    refine bodyPost_ret (v := .tuple #[.agg #[.int .i64 0, .slice none 0 0], .bool false]) (by
      obtain ⟨z0, z1⟩ := two HR.out
      revert z0 z1
      generalize ((w1.setCell ⟨w.heap.size + 1, 0, none⟩ (.int .i64 0)).setCell ⟨w.heap.size + 1, 1, none⟩ (.slice none 0 0)) = W4
      intro z0 z1
      simp [results, Try.results21, go_sem, z0, z1]) rfl (by rw [← Hr.out]; exact ⟨⟨_, _, rfl, ResGm.zero _ _⟩, HBz.out⟩)
  · have HV := Lib.hid hv
    obtain ⟨x1, hx1⟩ : ∃ x1 : Int, g.n = x1 := ⟨_, rfl⟩
    obtain ⟨a, c, e1, e2, _⟩ := HA.out
    rw [hx1] at e1
    have hl := Gm.vld_len hv
    have hn1 := Gm.vld_n hv
    rw [hx1] at hn1
    have ho1 : x.oneCell' = true ∧ y.oneCell' = true := HA.out.one
    subst e1
    obtain ⟨m, hm⟩ : ∃ m : Nat, x1 = m := ⟨x1.toNat, by omega⟩
    subst hm
    have hm5 : m ≤ 5 := by omega
    have hp1 := Gm.vld_pow hv
    rw [hx1] at hp1
    simp only [Int.toNat_natCast] at hp1
    by_cases hs0 : s ≤ 0
    · have Hr := Lib.hid (show (Gm.G0, false) = R by rw [← HR0.out]; exact (Gm.res_no (by unfold Gm.resOk; rw [show decide (1 ≤ s ∧ s < (g.v.length : Int)) = false from decide_eq_false (by omega)]; simp)).symm)
      have hd0 : decide (s ≤ 0) = true := decide_eq_true hs0
      clear hv HR0 e2 hx1
      go_enter Try.func21, Try.ntmps21
      go_wp2_with fail
      rw [← HW.out]
      refine (impl_IsValidGame true HV.out HA.out HF.out).mono ?_
      rintro e w1 ⟨rfl, k⟩
      have HB1 := Lib.hid (HB.out.trans (k.mono (by omega)))
      have HC4 := Lib.hid (HC3.out.below k)
      have HK1 := Lib.hid k
      have hs1 := k.size
      obtain ⟨m0, m1⟩ := two (HC1.out.below k)
      clear k HW
      have HR := Lib.hid ((HC4.out.s0 (.int .i64 0)).s1 (.slice none 0 0))
      have HBz := Lib.hid ((HB1.out.setCell (p := ⟨w.heap.size + 1, 0, none⟩) (by simp only; omega) (.int .i64 0)).setCell (p := ⟨w.heap.size + 1, 1, none⟩) (by simp only; omega) (.slice none 0 0))
      obtain ⟨d0, d1, e0, e1⟩ := two' HC4.out
      go_wp2_with fail
      refine bodyPost_ret (v := .tuple #[.agg #[.int .i64 0, .slice none 0 0], .bool false]) (by
        obtain ⟨z0, z1⟩ := two HR.out
        revert z0 z1
        generalize ((w1.setCell ⟨w.heap.size + 1, 0, none⟩ (.int .i64 0)).setCell ⟨w.heap.size + 1, 1, none⟩ (.slice none 0 0)) = W4
        intro z0 z1
        simp [results, Try.results21, go_sem, z0, z1]) rfl (by rw [← Hr.out]; exact ⟨⟨_, _, rfl, ResGm.zero _ _⟩, HBz.out⟩)
    · have hd0 : decide (s ≤ 0) = false := decide_eq_false hs0
      have HCnt := Lib.hid (fun W => impl_CountCoalitions m hm5 W)
      have hpl : g.v.length = 2 ^ m := hp1
      obtain ⟨N, hN⟩ : ∃ N, 2 ^ m = N := ⟨_, rfl⟩
      rw [hN] at HCnt hp1
      by_cases hsN : s < (N : Int)
      · have hdN : decide (s ≥ (N : Int)) = false := decide_eq_false (by omega)
        have hok : Gm.resOk g s = true := by unfold Gm.resOk; rw [hv]; simp only [Bool.true_and, decide_eq_true_iff]; omega
        have hmg := memR_good (s := s) (by omega)
        have hml : (Co.mem s 5).length ≤ 5 := Co.mem_len s 5
        have hml1 : 1 ≤ (Co.mem s 5).length := by
          have hss : s = ((⟨s.toNat, by omega⟩ : Fin 32).val : Int) := by show s = ((s.toNat : Nat) : Int); omega
          have := Gm.mem_pos ⟨s.toNat, by omega⟩ (by simp only; omega)
          rw [← hss] at this
          exact this.1
        have Hr := Lib.hid (show Gm.keep (Gm.mk ((Co.mem s 5).length : Nat) (Gm.resAt g s) (2 ^ (Co.mem s 5).length)) = R by rw [← HR0.out, Gm.res_yes hok]; exact Gm.keep_yes (Gm.res_vld hok))
        have HVs := Lib.hid (fun (w' : World) (u : Value) (x : GmC w' (.int .i64 m) y g) (hu : InInts w' u (Co.mem s 5)) (t : Nat) (ht : t < 2 ^ (Co.mem s 5).length) => impl_sub_value (p := .int .i64 (Co.mem s 5).length) x hu HF.out hok t ht)
        generalize Gm.resAt g s = f at *
        generalize Co.mem s 5 = mm at *
        have HMem := Lib.hid hmg
        have hF : Enters Try.prog 57 := enters_of Try.func57 (by kernel_rfl) rfl
        have HF0 := Lib.hid hF
        have hmf : ∀ (fn : Fn) (first cap : Array Value) (w : World), (Instr.makeFunc fn first cap).run Try.prog w = .ok (.func fn first cap) w := fun _ _ _ _ => rfl
        have t1 := sto ho1.2
        clear hv HR0 e2 hx1 hok hF ho1 hmg hp1 hpl hN
        go_enter Try.func21, Try.ntmps21
        go_wp2_with fail
        rw [← HW.out]
        refine (impl_IsValidGame true HV.out HA.out HF.out).mono ?_
        rintro e w1 ⟨rfl, k⟩
        have HB1 := Lib.hid (HB.out.trans (k.mono (by omega)))
        have HC4 := Lib.hid (HC3.out.below k)
        have HK1 := Lib.hid k
        have hs1 := k.size
        obtain ⟨m0, m1⟩ := two (HC1.out.below k)
        clear k HW
        go_wp2_with fail
        refine (HCnt.out _).mono ?_
        rintro e w9 ⟨rfl, rfl⟩
        go_wp2_with fail
        refine (impl_MembersOf s w1).mono ?_
        rintro e w2 ⟨vm, rfl, hom, k⟩
        rw [HMem.out] at hom
        obtain ⟨am, cm, rfl, rm, pm, _⟩ := own_reads hom
        have hs2' := k.size
        have HK2 := Lib.hid (HK1.out.trans (k.mono hs1))
        have hs2 := HK2.out.size
        have HB2 := Lib.hid (HB.out.trans (HK2.out.mono (by omega)))
        have HMm : Hid (InInts w2 (.slice am mm.length cm) mm) := ⟨am, cm, rfl, NumsIn.of_ints (B := w2.heap.size) rm fun p hp => (pm p hp).2⟩
        obtain ⟨m2, m3⟩ := two (HC1.out.below HK2.out)
        have Hlow := Lib.hid ((Below.refl w2.heap.size w2).alloc (Nat.le_refl _) (.cells #[.int .i64 mm.length, .int .i64 m, y, .slice am mm.length cm] 72))
        have hs3 := Hlow.out.size
        have HVal := Lib.hid (fun (w' : World) (t : Nat) (ht : t < 2 ^ mm.length) (hb : Below (w2.alloc (.cells #[.int .i64 mm.length, .int .i64 m, y, .slice am mm.length cm] 72)).heap.size (w2.alloc (.cells #[.int .i64 mm.length, .int .i64 m, y, .slice am mm.length cm] 72)) w') =>
          HVs.out w' (.slice am mm.length cm) ((HA.out.up HK2.out).up (Hlow.out.trans (hb.mono hs3))) (HMm.out.up (Hlow.out.trans (hb.mono hs3))) t ht)
        clear k hom rm pm HVs HMem m0 m1
        go_wp2_with fail
        refine (impl_build mm.length hml1 hml f 57 HF0.out _ _ _ _ HVal.out).mono ?_
        rintro e w4 ⟨⟨x0, y0, rfl, hr⟩, kb⟩
        rw [Hr.out] at hr ⊢
        have HKb := Lib.hid (Hlow.out.trans (kb.mono hs3))
        have HB4 := Lib.hid (HB2.out.trans (HKb.out.mono (by omega)))
        have HC6 := Lib.hid (HC3.out.below (HK2.out.trans (HKb.out.mono hs2)))
        obtain ⟨ax, cx, e3, e4, _⟩ := hr.reads_c
        obtain ⟨xn, hxn⟩ : ∃ xn : Int, R.1.n = xn := ⟨_, rfl⟩
        obtain ⟨xl, hxl⟩ : ∃ xl : Nat, R.1.v.length = xl := ⟨_, rfl⟩
        obtain ⟨rk, hrk⟩ : ∃ rk : Bool, R.2 = rk := ⟨_, rfl⟩
        rw [hxn] at e3
        rw [hxl] at e4
        subst e3 e4
        have HRk := Lib.hid hrk
        have HRes := Lib.hid hr
        rw [hrk]
        have hs4 := kb.size
        obtain ⟨d0, d1, e0, e1⟩ := two' HC6.out
        have HR := Lib.hid ((HC6.out.s0 (.int .i64 xn)).s1 (.slice ax xl cx))
        have HB7 := Lib.hid ((HB4.out.setCell (p := ⟨w.heap.size + 1, 0, none⟩) (by simp only; omega) (.int .i64 xn)).setCell (p := ⟨w.heap.size + 1, 1, none⟩) (by simp only; omega) (.slice ax xl cx))
        clear m2 m3 hr kb hxn hxl hrk HVal HF0 HKb
        go_wp2_with fail
        refine bodyPost_ret (v := .tuple #[.agg #[.int .i64 xn, .slice ax xl cx], .bool rk]) (by
          obtain ⟨z0, z1⟩ := two HR.out
          revert z0 z1
          generalize ((w4.setCell ⟨w.heap.size + 1, 0, none⟩ (.int .i64 xn)).setCell ⟨w.heap.size + 1, 1, none⟩ (.slice ax xl cx)) = W4
          intro z0 z1
          simp [results, Try.results21, go_sem, z0, z1]) rfl (by exact ⟨⟨_, _, by rw [HRk.out], ResGm.kept HRes.out (((Turned.refl (w.heap.size + 1) (w.heap.size + 1 + 1) w4).setCell (p := ⟨w.heap.size + 1, 0, none⟩) (Nat.le_refl _) (Nat.lt_succ_self _) _).setCell (p := ⟨w.heap.size + 1, 1, none⟩) (Nat.le_refl _) (Nat.lt_succ_self _) _) (by omega) (by omega)⟩, HB7.out⟩)
      · have hdN : decide (s ≥ (N : Int)) = true := decide_eq_true (by omega)
        have Hr := Lib.hid (show (Gm.G0, false) = R by rw [← HR0.out]; exact (Gm.res_no (by unfold Gm.resOk; rw [show decide (1 ≤ s ∧ s < (g.v.length : Int)) = false from decide_eq_false (by omega)]; simp)).symm)
        clear hv HR0 e2 hx1 hp1 hpl hN
        go_enter Try.func21, Try.ntmps21
        go_wp2_with fail
        rw [← HW.out]
        refine (impl_IsValidGame true HV.out HA.out HF.out).mono ?_
        rintro e w1 ⟨rfl, k⟩
        have HB1 := Lib.hid (HB.out.trans (k.mono (by omega)))
        have HC4 := Lib.hid (HC3.out.below k)
        have HK1 := Lib.hid k
        have hs1 := k.size
        obtain ⟨m0, m1⟩ := two (HC1.out.below k)
        clear k HW
        go_wp2_with fail
        refine (HCnt.out _).mono ?_
        rintro e w9 ⟨rfl, rfl⟩
        have HR := Lib.hid ((HC4.out.s0 (.int .i64 0)).s1 (.slice none 0 0))
        have HBz := Lib.hid ((HB1.out.setCell (p := ⟨w.heap.size + 1, 0, none⟩) (by simp only; omega) (.int .i64 0)).setCell (p := ⟨w.heap.size + 1, 1, none⟩) (by simp only; omega) (.slice none 0 0))
        obtain ⟨d0, d1, e0, e1⟩ := two' HC4.out
        go_wp2_with fail
        refine bodyPost_ret (v := .tuple #[.agg #[.int .i64 0, .slice none 0 0], .bool false]) (by
          obtain ⟨z0, z1⟩ := two HR.out
          revert z0 z1
          generalize ((w1.setCell ⟨w.heap.size + 1, 0, none⟩ (.int .i64 0)).setCell ⟨w.heap.size + 1, 1, none⟩ (.slice none 0 0)) = W4
          intro z0 z1
          simp [results, Try.results21, go_sem, z0, z1]) rfl (by rw [← Hr.out]; exact ⟨⟨_, _, rfl, ResGm.zero _ _⟩, HBz.out⟩)
end Go.Proofs.Ytccgebnbpfliiaa
