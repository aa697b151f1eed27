/- spec.l5Gives, IsFeasible. -/
import Derived.Test.YtfbhnjdbamahkaaLpD
import Derived.Test.YtfbhnjdbamahkaaGRa
import Derived.Deep.RegionHeld3
namespace Go.Proofs.Ytfbhnjdbamahkaa
open Go.RowKit
open Ve (R)
open Lp (P)
theorem cmul_since {P : Program} {f : FuncId} {args : Array Value} {wx : World} {v : Value} (h : Calls P f args wx fun e w' => e = .returned v ∧ Below wx.heap.size wx w') {B : World} (hB : Since B wx) :
    Calls P f args wx fun e w' => e = .returned v ∧ Since B w' := h.mono fun _ _ ⟨he, hb⟩ => ⟨he, hB.trans hb⟩
/-- One row, as l5Gives looks at it. -/
def gvOk (p : P) (v : List R) (b : List Int) (k : Nat) : Bool := Lp.idK (rw_ p.A k) v && decide (Lp.idR (rw_ p.A k) v = (b.getD k 0, 1))
theorem gv_bad {p : P} {v : List R} {b : List Int} {k : Nat} (hk : k < p.A.length) (h : gvOk p v b k = false) : Lp.gives p v b = false := by
  rw [Bool.eq_false_iff]
  intro h2
  unfold Lp.gives at h2
  rw [List.all_eq_true] at h2
  have h3 := h2 k (by simpa using hk)
  unfold gvOk at h
  rw [← rows_row] at h
  rw [h] at h3
  cases h3
theorem gv_good {p : P} {v : List R} {b : List Int} (h : ∀ k, k < p.A.length → gvOk p v b k = true) : Lp.gives p v b = true := by
  unfold Lp.gives
  rw [List.all_eq_true]
  intro k hk
  exact h k (by simpa using hk)
/-- A pair's two cells and a number's one, read later. -/
def PairNum (q bb k : Nat) (x : R) (z : Int) (B : World) : Prop :=
  B.cell? ⟨q, 0, none⟩ = some (.int .i64 x.1) ∧ B.cell? ⟨q, 1, none⟩ = some (.int .i64 x.2) ∧ B.cell? ⟨bb, k, none⟩ = some (.int .i64 z) ∧ q < B.heap.size ∧ bb < B.heap.size
theorem PairNum.four {q bb k : Nat} {x : R} {z : Int} {B wx : World} (H : Hid (PairNum q bb k x z B)) (h : Since B wx) :
    wx.cell? ⟨q, 0, none⟩ = some (.int .i64 x.1) ∧ wx.cell? ⟨q, 1, none⟩ = some (.int .i64 x.2) ∧ wx.cell? ⟨bb, k, none⟩ = some (.int .i64 z) ∧ Since B wx :=
  ⟨h.cell H.out.2.2.2.1 H.out.1, h.cell H.out.2.2.2.1 H.out.2.1, h.cell (p := ⟨bb, k, none⟩) H.out.2.2.2.2 H.out.2.2.1, h⟩
set_option maxRecDepth 100000 in
set_option maxHeartbeats 2000000 in
theorem spec_l5Gives (B : Nat) (a b c va ba : Option Addr) (c1 c2 c3 vc bc : Nat) (p : P) (v : List R) (bs : List Int) (hn : LpFits p) (hv : v.length ≤ 1048576) (hbl : p.A.length ≤ bs.length) (hbm : bs.length ≤ 1048576) (g : Bool) (hg : Lp.gives p v bs = g) (w : World) (hBw : B ≤ w.heap.size) (hz : LpIn B w a b c p) (hv1 : RatsIn B w va v) (hb1 : NumsIn B w ba bs) :
    Calls Try.prog 88 #[.agg #[.slice a p.A.length c1, .slice b p.B.length c2, .slice c p.C.length c3], .slice va v.length vc, .slice ba bs.length bc] w fun e w' => e = .returned (.bool g) ∧ Below w.heap.size w w' := by
  have hb := (Below.refl w.heap.size w).alloc (Nat.le_refl _) (.cells #[.slice a p.A.length c1, .slice b p.B.length c2, .slice c p.C.length c3] 38)
  have hsz : w.heap.size ≤ (w.alloc (.cells #[.slice a p.A.length c1, .slice b p.B.length c2, .slice c p.C.length c3] 38)).heap.size := by rw [size1]; omega
  have Hx := Lib.hid (Tri.new w (.slice a p.A.length c1) (.slice b p.B.length c2) (.slice c p.C.length c3) 38)
  have Hz := Lib.hid ((hz.mono hBw).below hb)
  have Hv := Lib.hid ((hv1.mono hBw).below hb)
  have HBs := Lib.hid ((hb1.mono hBw).below hb)
  have Hsz := Lib.hid hsz
  have HR := Lib.hid hn.row
  have hA := hn.A
  have Hb := Lib.hid hb
  have Hg := Lib.hid hg
  have Hst := Lib.hid (Since.refl (w.alloc (.cells #[.slice a p.A.length c1, .slice b p.B.length c2, .slice c p.C.length c3] 38)))
  have heq := eq_rat
  have hneq := ne_rat
  have hgeq := eqg_rat
  clear hz hv1 hb1 hb hg hsz hn
  go_enter Try.func88, Try.ntmps88
  go_wp2_with fail
  generalize hW0 : w.alloc (.cells #[.slice a p.A.length c1, .slice b p.B.length c2, .slice c p.C.length c3] 38) = W0 at *
  go_loopw [7] (fun i wr => ∃ k : Nat, k ≤ p.A.length ∧ i = .int .i64 k ∧ Hid (∀ j, j < k → gvOk p v bs j = true) ∧ Hid (Since W0 wr)) (fun i _ => p.A.length - (intOf i).toNat)
  case atStart => exact ⟨0, Nat.zero_le _, rfl, fun j hj => absurd hj (by omega), Hst.out⟩
  case round =>
    obtain ⟨k, hk, rfl, hOk, hS⟩ := hrel
    obtain ⟨x0, x1, x2, _⟩ := (Hx.out.below hS.out.low).cells
    have hlow := hS.out.low.mono Hsz.out
    by_cases hlt : k < p.A.length
    · obtain ⟨b1, o1, a', c', rfl, _, hcell, hN⟩ := (Hz.out.below hlow).mA k hlt
      obtain ⟨b2, o2, rfl, hb2, hbc⟩ := (HBs.out.below hlow) k (by omega)
      have hszr : w.heap.size ≤ wr.heap.size := Nat.le_trans Hsz.out hS.out.low.size
      have HNr := Lib.hid hN
      have Hvr := Lib.hid (Hv.out.below hlow)
      have hrl := HR.out k hlt
      have Hbad := Lib.hid (fun (h : gvOk p v bs k = false) => (show false = g from (gv_bad hlt h).symm.trans Hg.out))
      have Hgood := Lib.hid (fun (h : gvOk p v bs k = true) => (fun j (hj : j < k + 1) => (show gvOk p v bs j = true from by
          by_cases e : j = k
          · subst e; exact h
          · exact hOk.out j (by omega))))
      have Hdef := Lib.hid (show gvOk p v bs k = (Lp.idK (rw_ p.A k) v && decide (Lp.idR (rw_ p.A k) v = (bs.getD k 0, 1))) from rfl)
      clear hN hlow
      go_wp2_with fail
      refine (spec_l5Dot w.heap.size a' va c' vc (rw_ p.A k) v hrl hv _ hszr HNr.out Hvr.out).mono ?_
      rintro e w1 ⟨rfl, k1⟩
      generalize gvOk p v bs k = ok at *
      generalize Lp.idR (rw_ p.A k) v = D at *
      generalize Lp.idK (rw_ p.A k) v = K at *
      generalize bs.getD k 0 = z at *
      have hS2 := (hS.out.trans k1).alloc (.cells #[.int .i64 D.1, .int .i64 D.2] 34)
      have HS2 := Lib.hid hS2
      have hbc1 : w1.cell? ⟨b2, o2 + k, none⟩ = some (.int .i64 z) := by rw [k1.cell (p := ⟨b2, o2 + k, none⟩) (by show b2 < _; omega)]; exact hbc
      have hsz1 : w.heap.size ≤ w1.heap.size := Nat.le_trans hszr k1.size
      clear HNr Hvr hS2
      rcases K with _ | _
      · have Hr := Lib.hid (Hbad.out (by rw [Hdef.out]; rfl))
        clear Hbad Hgood Hdef k1
        go_wp2_with fail
        go_quiet (fail)
        go_wp2_with fail
        go_ret
        exact ⟨ret_bool Hr.out, below_drewN (Hb.out.trans (HS2.out.low.mono Hsz.out)) nq⟩
      · have hkb : k < bs.length := by omega
        have hkb2 : ((k : Int) < (bs.length : Int)) := by omega
        have hkb3 : (0 : Int) ≤ (k : Int) := by omega
        have HQ : Hid (PairNum w1.heap.size b2 (o2 + k) D z (w1.alloc (.cells #[.int .i64 D.1, .int .i64 D.2] 34))) := by
          have hnew := (BoxAt.new w1 D).four
          have hal : Below w1.heap.size w1 (w1.alloc (.cells #[.int .i64 D.1, .int .i64 D.2] 34)) := (Below.refl _ _).alloc (Nat.le_refl _) _
          exact ⟨hnew.1, hnew.2.1, by rw [hal.cell (p := ⟨b2, o2 + k, none⟩) (by show b2 < _; omega)]; exact hbc1, by rw [size1]; omega, by rw [size1]; omega⟩
        have hin := Since.refl (w1.alloc (.cells #[.int .i64 D.1, .int .i64 D.2] 34))
        rcases hv : (D.1 == z && D.2 == 1) with _ | _
        · have Hr := Lib.hid (Hbad.out (by
            rw [Hdef.out, Bool.true_and, decide_eq_false_iff_not]
            rintro rfl
            simp at hv))
          clear Hbad Hgood Hdef k1 hbc hbc1
          go_wp2_with fail
          go_region_held3 (fun w' => w'.cell? ⟨w1.heap.size, 0, none⟩ = some (.int .i64 D.1) ∧ w'.cell? ⟨w1.heap.size, 1, none⟩ = some (.int .i64 D.2) ∧ w'.cell? ⟨b2, o2 + k, none⟩ = some (.int .i64 z) ∧ Since (w1.alloc (.cells #[.int .i64 D.1, .int .i64 D.2] 34)) w') (first | exact PairNum.four HQ (by assumption) | exact PairNum.four HQ (Since.drew (by assumption)))
            (first | (go_at_call 60; refine (cmul_since (spec_l3Int z _) (B := w1.alloc (.cells #[.int .i64 D.1, .int .i64 D.2] 34)) (by first | assumption | exact Since.drew (by assumption))).mono ?_; rintro e w' ⟨rfl, hin2⟩))
          all_goals
            have Hend := Lib.hid ((HS2.out.trans (Since.low (B := w1.alloc (.cells #[.int .i64 D.1, .int .i64 D.2] 34)) (wx := w') (by assumption))).low)
            clear HQ hin
            go_wp2_with fail
            go_ret
            exact ⟨ret_bool Hr.out, Hb.out.trans (Hend.out.mono Hsz.out)⟩
        · have HOk2 := Lib.hid (Hgood.out (by
            rw [Hdef.out, Bool.true_and, decide_eq_true_iff]
            rw [Bool.and_eq_true, beq_iff_eq, beq_iff_eq] at hv
            exact Prod.ext hv.1 hv.2))
          clear Hbad Hgood Hdef k1 hbc hbc1
          go_wp2_with fail
          go_region_held3 (fun w' => w'.cell? ⟨w1.heap.size, 0, none⟩ = some (.int .i64 D.1) ∧ w'.cell? ⟨w1.heap.size, 1, none⟩ = some (.int .i64 D.2) ∧ w'.cell? ⟨b2, o2 + k, none⟩ = some (.int .i64 z) ∧ Since (w1.alloc (.cells #[.int .i64 D.1, .int .i64 D.2] 34)) w') (first | exact PairNum.four HQ (by assumption) | exact PairNum.four HQ (Since.drew (by assumption)))
            (first | (go_at_call 60; refine (cmul_since (spec_l3Int z _) (B := w1.alloc (.cells #[.int .i64 D.1, .int .i64 D.2] 34)) (by first | assumption | exact Since.drew (by assumption))).mono ?_; rintro e w' ⟨rfl, hin2⟩))
          all_goals
            have Hend := Lib.hid (HS2.out.trans (Since.low (B := w1.alloc (.cells #[.int .i64 D.1, .int .i64 D.2] 34)) (wx := w') (by assumption)))
            clear HQ hin
            go_wp2_with fail
            go_roundw
            case rel => exact ⟨k + 1, by omega, by go_num, HOk2, Hend⟩
            case measure => simp [intOf]; omega
    · have Hr := Lib.hid (show true = g by rw [← Hg.out]; exact (gv_good fun j hj => hOk.out j (by omega)).symm)
      go_wp2_with fail
      go_ret
      exact ⟨ret_bool Hr.out, Hb.out.trans (hS.out.low.mono Hsz.out)⟩
end Go.Proofs.Ytfbhnjdbamahkaa
