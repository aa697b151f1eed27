/- impl.isSolution, IsFeasible. -/
import Derived.Test.YtfbhnjdbamahkaaLpI3
namespace Go.Proofs.Ytfbhnjdbamahkaa
open Go.RowKit
open Ve (R)
open Lp (P)
/-- What isSolution answers. -/
def solP (p : P) (x : List R) (bs : List Int) : Bool := decide (x.length = p.C.length) && (Lp.nonneg x && Lp.gives p x bs)
theorem feas_sol (p : P) (x : List R) : Lp.feas p x = (Lp.vldP p && solP p x p.B) := rfl
set_option maxRecDepth 100000 in
set_option maxHeartbeats 4000000 in
theorem impl_isSolution (B : Nat) (a b c va ba : Option Addr) (c1 c2 c3 vc bc : Nat) (p : P) (v : List R) (bs : List Int) (hn : LpFits p) (hv : v.length ≤ 1048576) (hbl : p.A.length ≤ bs.length) (hbm : bs.length ≤ 1048576) (g : Bool) (hg : solP p v bs = g) (w : World) (hBw : B ≤ w.heap.size) (hz : LpIn B w a b c p) (hv1 : RatsIn B w va v) (hb1 : NumsIn B w ba bs) :
    Calls Try.prog 90 #[.agg #[.slice a p.A.length c1, .slice b p.B.length c2, .slice c p.C.length c3], .slice va v.length vc, .slice ba bs.length bc] w fun e w' => e = .returned (.bool g) ∧ Below w.heap.size w w' := by
  have hb := (Below.refl w.heap.size w).alloc (Nat.le_refl _) (.cells #[.slice a p.A.length c1, .slice b p.B.length c2, .slice c p.C.length c3] 38)
  have hsz : w.heap.size ≤ (w.alloc (.cells #[.slice a p.A.length c1, .slice b p.B.length c2, .slice c p.C.length c3] 38)).heap.size := by rw [size1]; omega
  have Hx := Lib.hid (Tri.new w (.slice a p.A.length c1) (.slice b p.B.length c2) (.slice c p.C.length c3) 38)
  have Hz := Lib.hid ((hz.mono hBw).below hb)
  have Hv := Lib.hid ((hv1.mono hBw).below hb)
  have HBs := Lib.hid ((hb1.mono hBw).below hb)
  have Hsz := Lib.hid hsz
  have HR := Lib.hid hn.row
  have hA := hn.A
  have hC := hn.C
  have Hb := Lib.hid hb
  have Hst := Lib.hid (Since.refl (w.alloc (.cells #[.slice a p.A.length c1, .slice b p.B.length c2, .slice c p.C.length c3] 38)))
  have heq := eq_rat
  have hneq := ne_rat
  have hgeq := eqg_rat
  clear hz hv1 hb1 hb hsz hn
  by_cases hl : v.length = p.C.length
  · have hnl : ((v.length : Int) != (p.C.length : Int)) = false := by rw [hl]; simp
    have Hl := Lib.hid hl
    rcases hgo : Ve.good v with _ | _
    · have Hr := Lib.hid (show false = g by rw [← hg]; unfold solP; rw [nonneg_split, hgo]; simp)
      have HV := Lib.hid (impl_AllValid w.heap.size va vc v hv _ Hsz.out Hv.out)
      rw [hgo] at HV
      clear hg hgo hl
      go_enter Try.func90, Try.ntmps90
      go_wp2_with fail
      refine HV.out.mono ?_
      rintro e w1 ⟨rfl, k1⟩
      have Hb1 := Lib.hid (Hb.out.trans (k1.mono Hsz.out))
      clear k1
      go_wp2_with fail
      go_ret
      exact ⟨ret_bool Hr.out, Hb1.out⟩
    · have HV := Lib.hid (impl_AllValid w.heap.size va vc v hv _ Hsz.out Hv.out)
      rw [hgo] at HV
      rcases hne : anyNeg v with _ | _
      · have Hg := Lib.hid (show Lp.gives p v bs = g by rw [← hg]; unfold solP; rw [nonneg_split, hgo, hne, hl]; simp)
        have Hne := Lib.hid hne
        clear hg hgo hl hne
        go_enter Try.func90, Try.ntmps90
        go_wp2_with fail
        refine HV.out.mono ?_
        rintro e w1 ⟨rfl, k1⟩
        have HS1 := Lib.hid (Hst.out.trans k1)
        have Hv1 := Lib.hid (Hv.out.below (k1.mono Hsz.out))
        have hsz1 : w.heap.size ≤ w1.heap.size := Nat.le_trans Hsz.out k1.size
        clear k1
        go_wp2_with fail
        refine (impl_hasNegative w.heap.size va vc v hv _ hsz1 Hv1.out).mono ?_
        rintro e w2 ⟨rfl, k2⟩
        have HS2 := Lib.hid (HS1.out.trans k2)
        obtain ⟨x0, x1, x2, _⟩ := (Hx.out.below HS2.out.low).cells
        have hneg := Hne.out
        clear k2 Hv1
        go_wp2_with fail
        clear x0 x1 x2
        generalize hW0 : w.alloc (.cells #[.slice a p.A.length c1, .slice b p.B.length c2, .slice c p.C.length c3] 38) = W0 at *
        go_loopw [29] (fun i wr => ∃ k : Nat, k ≤ p.A.length ∧ i = .int .i64 k ∧ Hid (∀ j, j < k → gvOk p v bs j = true) ∧ Hid (Since W0 wr)) (fun i _ => p.A.length - (intOf i).toNat)
        case atStart => exact ⟨0, Nat.zero_le _, rfl, fun j hj => absurd hj (by omega), HS2.out⟩
        case round =>
          obtain ⟨k, hk, rfl, hOk, hS⟩ := hrel
          obtain ⟨x0, x1, x2, _⟩ := (Hx.out.below hS.out.low).cells
          have hlow := hS.out.low.mono Hsz.out
          by_cases hlt : k < p.A.length
          · obtain ⟨b1, o1, a', c', rfl, _, hcell, hN⟩ := (Hz.out.below hlow).mA k hlt
            obtain ⟨b2, o2, rfl, hb2, hbc⟩ := (HBs.out.below hlow) k (by omega)
            have hszr : w.heap.size ≤ wr.heap.size := Nat.le_trans Hsz.out hS.out.low.size
            have HNr := Lib.hid hN
            have Hvr := Lib.hid (Hv.out.below hlow)
            have hrl := HR.out k hlt
            have Hbad := Lib.hid (fun (h : gvOk p v bs k = false) => (show false = g from (gv_bad hlt h).symm.trans Hg.out))
            have Hgood := Lib.hid (fun (h : gvOk p v bs k = true) => (fun j (hj : j < k + 1) => (show gvOk p v bs j = true from by
                by_cases e : j = k
                · subst e; exact h
                · exact hOk.out j (by omega))))
            have Hdef := Lib.hid (show gvOk p v bs k = (Lp.idK (rw_ p.A k) v && decide (Lp.idR (rw_ p.A k) v = (bs.getD k 0, 1))) from rfl)
            clear hN hlow
            go_wp2_with fail
            refine (impl_dotInts w.heap.size a' va c' vc (rw_ p.A k) v hrl hv _ hszr HNr.out Hvr.out).mono ?_
            rintro e w1 ⟨rfl, k1⟩
            generalize gvOk p v bs k = ok at *
            generalize Lp.idR (rw_ p.A k) v = D at *
            generalize Lp.idK (rw_ p.A k) v = K at *
            generalize bs.getD k 0 = z at *
            have hS2 := (hS.out.trans k1).alloc (.cells #[.int .i64 D.1, .int .i64 D.2] 34)
            have HS2 := Lib.hid hS2
            have hbc1 : w1.cell? ⟨b2, o2 + k, none⟩ = some (.int .i64 z) := by rw [k1.cell (p := ⟨b2, o2 + k, none⟩) (by show b2 < _; omega)]; exact hbc
            have hsz1 : w.heap.size ≤ w1.heap.size := Nat.le_trans hszr k1.size
            clear HNr Hvr hS2
            rcases K with _ | _
            · have Hr := Lib.hid (Hbad.out (by rw [Hdef.out]; rfl))
              clear Hbad Hgood Hdef k1
              go_wp2_with fail
              go_quiet (fail)
              go_wp2_with fail
              go_ret
              exact ⟨ret_bool Hr.out, below_drewN (Hb.out.trans (HS2.out.low.mono Hsz.out)) nq⟩
            · have hkb : k < bs.length := by omega
              have hkb2 : ((k : Int) < (bs.length : Int)) := by omega
              have hkb3 : (0 : Int) ≤ (k : Int) := by omega
              have hal : Below w1.heap.size w1 (w1.alloc (.cells #[.int .i64 D.1, .int .i64 D.2] 34)) := (Below.refl _ _).alloc (Nat.le_refl _) _
              have q2 : (w1.alloc (.cells #[.int .i64 D.1, .int .i64 D.2] 34)).cell? ⟨b2, o2 + k, none⟩ = some (.int .i64 z) := by rw [hal.cell (p := ⟨b2, o2 + k, none⟩) (by show b2 < _; omega)]; exact hbc1
              rcases hvv : (D.1 == z && D.2 == 1) with _ | _
              · have Hr := Lib.hid (Hbad.out (by
                  rw [Hdef.out, Bool.true_and, decide_eq_false_iff_not]
                  rintro rfl
                  simp at hvv))
                clear Hbad Hgood Hdef k1 hbc hbc1 hal
                go_wp2_with fail
                go_quiet (fail)
                go_wp2_with fail
                go_ret
                exact ⟨ret_bool Hr.out, below_drewN (Hb.out.trans (HS2.out.low.mono Hsz.out)) nq⟩
              · have HOk2 := Lib.hid (Hgood.out (by
                  rw [Hdef.out, Bool.true_and, decide_eq_true_iff]
                  rw [Bool.and_eq_true, beq_iff_eq, beq_iff_eq] at hvv
                  exact Prod.ext hvv.1 hvv.2))
                clear Hbad Hgood Hdef k1 hbc hbc1 hal
                go_wp2_with fail
                go_quiet (fail)
                go_wp2_with fail
                go_roundw
                case rel => exact ⟨k + 1, by omega, by go_num, HOk2, HS2.out.drewN nq⟩
                case measure => simp [intOf]; omega
          · have Hr := Lib.hid (show true = g by rw [← Hg.out]; exact (gv_good fun j hj => hOk.out j (by omega)).symm)
            go_wp2_with fail
            go_ret
            exact ⟨ret_bool Hr.out, Hb.out.trans (hS.out.low.mono Hsz.out)⟩
      · have Hr := Lib.hid (show false = g by rw [← hg]; unfold solP; rw [nonneg_split, hne]; simp)
        have Hne := Lib.hid hne
        clear hg hgo hl hne
        go_enter Try.func90, Try.ntmps90
        go_wp2_with fail
        refine HV.out.mono ?_
        rintro e w1 ⟨rfl, k1⟩
        have HS1 := Lib.hid (Hst.out.trans k1)
        have Hv1 := Lib.hid (Hv.out.below (k1.mono Hsz.out))
        have hsz1 : w.heap.size ≤ w1.heap.size := Nat.le_trans Hsz.out k1.size
        clear k1
        go_wp2_with fail
        refine (impl_hasNegative w.heap.size va vc v hv _ hsz1 Hv1.out).mono ?_
        rintro e w2 ⟨rfl, k2⟩
        have HS2 := Lib.hid (HS1.out.trans k2)
        have hneg := Hne.out
        clear k2 Hv1
        go_wp2_with fail
        go_ret
        exact ⟨ret_bool Hr.out, Hb.out.trans (HS2.out.low.mono Hsz.out)⟩
  · have Hr := Lib.hid (show false = g by rw [← hg]; unfold solP; simp [hl])
    obtain ⟨l1, l2⟩ := len_no hl
    clear hg
    go_enter Try.func90, Try.ntmps90
    go_wp2_with fail
    go_ret
    exact ⟨ret_bool Hr.out, Hb.out⟩
set_option maxRecDepth 100000 in
set_option maxHeartbeats 2000000 in
theorem impl_IsFeasible (B : Nat) (a b c va : Option Addr) (c1 c2 c3 vc : Nat) (p : P) (v : List R) (hn : LpFits p) (hv : v.length ≤ 1048576) (g : Bool) (hg : Lp.feas p v = g) (w : World) (hBw : B ≤ w.heap.size) (hz : LpIn B w a b c p) (hv1 : RatsIn B w va v) :
    Calls Try.prog 38 #[.agg #[.slice a p.A.length c1, .slice b p.B.length c2, .slice c p.C.length c3], .slice va v.length vc] w fun e w' => e = .returned (.bool g) ∧ Below w.heap.size w w' := by
  have hb := (Below.refl w.heap.size w).alloc (Nat.le_refl _) (.cells #[.slice a p.A.length c1, .slice b p.B.length c2, .slice c p.C.length c3] 38)
  have Hx := Lib.hid (Tri.new w (.slice a p.A.length c1) (.slice b p.B.length c2) (.slice c p.C.length c3) 38)
  have Hz := Lib.hid ((hz.mono hBw).below hb)
  have Hv := Lib.hid ((hv1.mono hBw).below hb)
  have HN := Lib.hid hn
  have Hb := Lib.hid hb
  have hBl := hn.B
  rw [feas_sol] at hg
  clear hz hv1 hb hn
  rcases hvl : Lp.vldP p with _ | _
  · have Hr := Lib.hid (show false = g by rw [← hg, hvl]; rfl)
    have HV := Lib.hid (impl_IsValidLP w.heap.size a b c c1 c2 c3 p HN.out _ Hb.out.size Hz.out)
    rw [hvl] at HV
    clear hvl hg
    go_enter Try.func38, Try.ntmps38
    go_wp2_with fail
    refine HV.out.mono ?_
    rintro e w1 ⟨rfl, k1⟩
    have Hb1 := Lib.hid (Hb.out.trans (k1.mono Hb.out.size))
    clear k1
    go_wp2_with fail
    go_ret
    exact ⟨ret_bool Hr.out, Hb1.out⟩
  · have Hg := Lib.hid (show solP p v p.B = g by rw [← hg, hvl]; rfl)
    have HL := Lib.hid (b_len hvl)
    have HV := Lib.hid (impl_IsValidLP w.heap.size a b c c1 c2 c3 p HN.out _ Hb.out.size Hz.out)
    rw [hvl] at HV
    clear hvl hg
    go_enter Try.func38, Try.ntmps38
    go_wp2_with fail
    refine HV.out.mono ?_
    rintro e w1 ⟨rfl, k1⟩
    obtain ⟨x0, x1, x2, _⟩ := (Hx.out.below k1).cells
    have Hb1 := Lib.hid (Hb.out.trans (k1.mono Hb.out.size))
    have Hz1 := Lib.hid (Hz.out.below (k1.mono Hb.out.size))
    have Hv1 := Lib.hid (Hv.out.below (k1.mono Hb.out.size))
    clear k1
    go_wp2_with fail
    refine (impl_isSolution w.heap.size a b c va b c1 c2 c3 vc c2 p v p.B HN.out hv HL.out hBl g Hg.out _ Hb1.out.size Hz1.out Hv1.out Hz1.out.mB).mono ?_
    rintro e w2 ⟨rfl, k2⟩
    have Hb2 := Lib.hid (Hb1.out.trans (k2.mono Hb1.out.size))
    clear k2
    go_wp2_with fail
    go_ret
    exact ⟨rfl, Hb2.out⟩
end Go.Proofs.Ytfbhnjdbamahkaa
