/- impl.SolutionOf. -/
import Derived.Test.YtfbhnjdbamahkaaGTd
import Derived.Test.YtfbhnjdbamahkaaGTd
import Derived.Test.YtfbhnjdbamahkaaQTail
import Derived.Test.YtfbhnjdbamahkaaLpR4
namespace Go.Proofs.Ytfbhnjdbamahkaa
open Go.RowKit
open Ve (R)
open Ta (T)
theorem cellsM_const : ∀ (L : List (List R)) (m : Nat), (∀ k, k < L.length → (rr L k).length = m) → cellsM L = L.length * m
  | [], m, _ => by simp [cellsM]
  | r :: L, m, h => by
    have h0 : r.length = m := h 0 (by simp)
    have := cellsM_const L m (fun k hk => by
      have e : rr (r :: L) (k + 1) = rr L k := by simp [rr]
      rw [← e]; exact h (k + 1) (by simpa using hk))
    simp only [cellsM, this, h0, List.length_cons, Nat.succ_mul]
    omega
/-- A tableau of the right form that is small enough has few columns. -/
theorem good_small {t : T} (h : Ta.good t = true) (hn : tabN t ≤ 1048576) : t.cols + (t.rows.length : Int) ≤ 2100 := by
  obtain ⟨g0, g1, g2, g3⟩ := Ta.good_parts h
  have hc := cellsM_const t.rows (t.cols + t.rows.length + 1).toNat (fun k hk => by have h4 := (g3 k hk).1; have h5 : Ta.row t k = rr t.rows k := rfl; rw [h5] at h4; omega)
  unfold tabN at hn
  rw [hc] at hn
  by_cases hl : t.rows.length ≤ 1030
  · omega
  · have h1 : 1031 * 1031 ≤ t.rows.length * (t.cols + t.rows.length + 1).toNat := Nat.mul_le_mul (by omega) (by omega)
    omega
set_option maxRecDepth 100000 in
set_option maxHeartbeats 4000000 in
theorem impl_SolutionOf (B : Nat) (a b : Option Addr) (c1 c2 : Nat) (t : T) (hn : TabFits t) (hc : Ta.good t = true → t.cols + (t.rows.length : Int) ≤ 2100) (w : World) (hBw : B ≤ w.heap.size) (hz : TabIn B w a b t) :
    Calls Try.prog 22 #[tabV a b c1 c2 t] w (MakesRats (Ta.solR t) w) := by
  have hb := (Below.refl w.heap.size w).alloc (Nat.le_refl _) (.cells #[.slice a t.rows.length c1, .slice b t.basis.length c2, .int .i64 t.cols] 27)
  have hx := Tri.new w (.slice a t.rows.length c1) (.slice b t.basis.length c2) (.int .i64 t.cols) 27
  have HT : Hid (TabBox w.heap.size (w.alloc (.cells #[.slice a t.rows.length c1, .slice b t.basis.length c2, .int .i64 t.cols] 27)) w.heap.size a b c1 c2 t) := ⟨hx, (hz.mono hBw).below hb⟩
  have HZ := Lib.hid (hz.mono hBw)
  have Hb := Lib.hid hb
  have Hc := Lib.hid hc
  rw [show tabV a b c1 c2 t = .agg #[.slice a t.rows.length c1, .slice b t.basis.length c2, .int .i64 t.cols] from rfl]
  obtain ⟨g, hg⟩ : ∃ g, Ta.good t = g := ⟨_, rfl⟩
  have HG := Lib.hid (fun W h => impl_hasForm w.heap.size w.heap.size a b c1 c2 t hn g hg W h)
  have Hg := Lib.hid hg
  have hn1 := hn.rows
  clear hz hb hx hn hg hc
  go_enter Try.func22, Try.ntmps22
  go_wp2_with fail
  refine (HG.out _ HT.out).mono ?_
  rintro e w1 ⟨rfl, d, rfl⟩
  clear HG
  cases g with
  | false =>
    have He := Lib.hid (show [] = Ta.solR t by unfold Ta.solR; rw [Hg.out]; rfl)
    go_wp2_with fail
    go_ret
    exact ⟨_, rfl, He.out ▸ OwnRats.nil _ _, below_drewN Hb.out d⟩
  | true =>
    obtain ⟨g0, g1, g2, g3⟩ := Ta.good_parts Hg.out
    have G3 := Lib.hid g3
    have He := Lib.hid (show Ta.sol t t.rows.length = Ta.solR t by unfold Ta.solR; rw [Hg.out]; rfl)
    generalize Ta.solR t = out at *
    have hcs := Hc.out Hg.out
    have HC := Lib.hid (fun W h => impl_columns w.heap.size w.heap.size a b c1 c2 t g0 g1 hn1 W h)
    clear g3 Hc
    obtain ⟨L, B1, C⟩ := t
    simp only at g0 g1 g2 hn1 hcs
    obtain ⟨n, hcn⟩ : ∃ n : Nat, C + (L.length : Int) = n := ⟨(C + (L.length : Int)).toNat, by omega⟩
    have hnb : n ≤ 2100 := by omega
    have hnL : L.length ≤ n := by omega
    have Hcn := Lib.hid hcn
    have G2 := Lib.hid g2
    have HC2 : Hid (∀ W, TabBox w.heap.size W w.heap.size a b c1 c2 ⟨L, B1, C⟩ → Calls Try.prog 67 #[.pointer (some ⟨w.heap.size, 0, none⟩)] W fun e w' => e = .returned (.int .i64 (n : Int)) ∧ ∃ d, w' = W.drewN d) := fun W h => by rw [← Hcn.out]; exact HC.out W h
    clear g2 hcn HC
    go_wp2_with fail
    refine (HC2.out _ (HT.out.drewN d)).mono ?_
    rintro e w1 ⟨rfl, d2, rfl⟩
    have HZr := Lib.hid (fun W => impl_zeroRats n hnb W)
    go_wp2_with fail
    refine (HZr.out _).mono ?_
    rintro e w1 ⟨v, rfl, ho, hb1⟩
    obtain ⟨av, cv, rfl, _⟩ := own_rats ho
    have hzl := zeros_len n
    rw [hzl] at ho ⊢
    have HO : Hid (OwnRats (w.heap.size + 1) w1 (.slice av n cv) (Ta.sol ⟨L, B1, C⟩ 0)) := by
      show OwnRats _ _ _ (Lp.zerosR (C + (L.length : Int)).toNat)
      rw [Hcn.out]
      have h := ho
      rw [show ((w.alloc (.cells #[.slice a L.length c1, .slice b B1.length c2, .int .i64 C] 27)).drewN (d + d2)).heap.size = w.heap.size + 1 from size1 _ _] at h
      exact h
    have HB1 := Lib.hid ((below_drewN Hb.out (d + d2)).trans (hb1.mono (below_drewN Hb.out (d + d2)).size))
    have HX : Hid (Tri w1 w.heap.size (.slice a L.length c1) (.slice b B1.length c2) (.int .i64 C) 27) := (HT.out.drewN (d + d2)).box.below hb1
    obtain ⟨x0, x1, x2, _⟩ := HX.out.cells
    clear ho hb1 HZr hzl
    go_wp2_with fail
    go_loopw [13] (fun i wr => ∃ j : Nat, j ≤ B1.length ∧ i = .int .i64 j ∧ Hid (OwnRats (w.heap.size + 1) wr (.slice av n cv) (Ta.sol ⟨L, B1, C⟩ j)) ∧ Hid (Tri wr w.heap.size (.slice a L.length c1) (.slice b B1.length c2) (.int .i64 C) 27) ∧ Hid (Below w.heap.size w wr)) (fun i _ => B1.length - (intOf i).toNat)
    case atStart => exact ⟨0, Nat.zero_le _, rfl, HO, HX, HB1⟩
    case round =>
      clear x0 x1 x2 HO HX HB1
      obtain ⟨j, hj, rfl, hO, hX, hB⟩ := hrel
      obtain ⟨x0, x1, x2, _⟩ := hX.out.cells
      by_cases hlt : j < B1.length
      · have hltL : j < L.length := by have := G2.out; omega
        have hkn : n ≠ 0 := by omega
        obtain ⟨gv, rfl, hq9, hg1, hg2⟩ := OwnRats.block hO.out (by rw [Ta.sol_len]; show (C + (L.length : Int)).toNat ≠ 0; rw [Hcn.out]; simpa using hkn)
        clear hq9
        have hTw := HZ.out.below hB.out
        have HTB : Hid (TabBox w.heap.size wr w.heap.size a b c1 c2 ⟨L, B1, C⟩) := ⟨hX.out, hTw⟩
        obtain ⟨b1, o1, a1, k1, rfl, hl1, hrow, hRr⟩ := hTw.mR j hltL
        obtain ⟨b2, o2, rfl, _, hbas⟩ := hTw.mB j hlt
        obtain ⟨g31, g32, g33⟩ := G3.out j hltL
        simp only at hrow hbas hRr
        have g31' : ((rr L j).length : Int) = C + (L.length : Int) + 1 := g31
        obtain ⟨m, hm⟩ : ∃ m : Nat, B1.getD j 0 = m := ⟨(B1.getD j 0).toNat, by have : 0 ≤ B1.getD j 0 := g32; omega⟩
        have hmk : m < n := by have h1 : B1.getD j 0 ≤ C + (L.length : Int) - 1 := g33; have := Hcn.out; omega
        have hrl : (rr L j).length = n + 1 := by have := Hcn.out; omega
        obtain ⟨b3, o3, rfl, hl3, p0, p1⟩ := hRr.at n (by omega)
        rw [hm] at hbas
        rw [hrl] at hrow
        have hlS : (Ta.sol ⟨L, B1, C⟩ j).length = n := by rw [Ta.sol_len]; show (C + (L.length : Int)).toNat = n; rw [Hcn.out]; simp
        have hO' : OwnRats (w.heap.size + 1) wr (.slice (some ⟨gv, 0, none⟩) (Ta.sol ⟨L, B1, C⟩ j).length cv) (Ta.sol ⟨L, B1, C⟩ j) := by rw [hlS]; exact hO.out
        obtain ⟨⟨v0, s0⟩, f0, ⟨v1, s1⟩, f1⟩ := hO'.spots m (by omega)
        have HOn : Hid (OwnRats (w.heap.size + 1) ((wr.setCell ⟨gv, m * 2, none⟩ (.int .i64 (Ve.at_ (rr L j) n).1)).setCell ⟨gv, m * 2 + 1, none⟩ (.int .i64 (Ve.at_ (rr L j) n).2)) (.slice (some ⟨gv, 0, none⟩) n cv) (Ta.sol ⟨L, B1, C⟩ (j + 1))) := by
          have h := hO'.put m (Ve.at_ (rr L j) n) (by omega)
          rw [hlS] at h
          have e : Ta.sol ⟨L, B1, C⟩ (j + 1) = (Ta.sol ⟨L, B1, C⟩ j).set m (Ve.at_ (rr L j) n) := by
            rw [Ta.sol_at]
            show List.set _ (B1.getD j 0).toNat (Ve.at_ (rr L j) (C + (L.length : Int)).toNat) = _
            rw [hm, Hcn.out]
            simp
          show OwnRats _ _ _ _
          rw [e]; exact h
        have HXn : Hid (Tri ((wr.setCell ⟨gv, m * 2, none⟩ (.int .i64 (Ve.at_ (rr L j) n).1)).setCell ⟨gv, m * 2 + 1, none⟩ (.int .i64 (Ve.at_ (rr L j) n).2)) w.heap.size (.slice (some ⟨b1, o1, none⟩) L.length c1) (.slice (some ⟨b2, o2, none⟩) B1.length c2) (.int .i64 C) 27) :=
          (hX.out.other (p := ⟨gv, m * 2, none⟩) (show gv ≠ w.heap.size by omega) _).other (p := ⟨gv, m * 2 + 1, none⟩) (show gv ≠ w.heap.size by omega) _
        have HBn := Lib.hid (low_put hB.out (show w.heap.size ≤ gv by omega) (m * 2) (m * 2 + 1) (.int .i64 (Ve.at_ (rr L j) n).1) (.int .i64 (Ve.at_ (rr L j) n).2))
        generalize Ve.at_ (rr L j) n = x at *
        have n1 : (j : Int) < (L.length : Int) := by omega
        have n2 : (j : Int) < (B1.length : Int) := by omega
        have n3 : (m : Int) < (n : Int) := by omega
        have n4 : (n : Int) < ((n + 1 : Nat) : Int) := by omega
        have n5 : (n : Int) < (n : Int) + 1 := by omega
        clear hO' hlS g31 g31' g32 g33 hRr hTw
        go_wp2_with fail
        refine region_quiet_tail 11 (by kernel_rfl) (by kernel_rfl) ?_
        simp only [List.take_succ_cons, List.take_zero, List.drop_succ_cons, List.drop_zero]
        repeat (go_big_quiet_step ((go_at_call 67; exact Calls.quiet_of (HC2.out _ (HTB.out.drewN _)))))
        refine wpQuiet_nil ?_
        intro _ hw'
        obtain ⟨nq, hw''⟩ := hw'
        subst hw''
        go_wp2_with fail
        go_roundw
        case rel => exact ⟨j + 1, by omega, by go_num, HOn, HXn, below_drewN HBn.out nq⟩
        case measure => simp [intOf]; omega
      · have hje : j = L.length := by have := G2.out; omega
        have HF : Hid (OwnRats (w.heap.size + 1) wr (.slice av n cv) out) := by rw [hje] at hO; exact He.out ▸ hO.out
        go_wp2_with fail
        go_ret
        exact ⟨_, rfl, HF.out.lower (Nat.le_succ _), hB.out⟩
end Go.Proofs.Ytfbhnjdbamahkaa
