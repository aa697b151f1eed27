/- spec.CheckCore; impl: evidenceOf, proves, CheckCore. -/
import Derived.Test.YtjkofijchdibdaaCrC
import Derived.Test.YtjkofijchdibdaaLkCo
import Derived.Test.YtjkofijchdibdaaPyG
import Derived.Test.YtjkofijchdibdaaPyC2
import Derived.Test.YtjkofijchdibdaaGLi
set_option maxRecDepth 100000
namespace Go.Proofs.Ytjkofijchdibdaa
open Go.RowKit
open Ve (R)
open Gm (G)
open Cr (Cor)
theorem NumsIn.drop1 {B : Nat} {w : World} {b o : Nat} {xs : List Int} (h : NumsIn B w (some ⟨b, o, none⟩) xs) : NumsIn B w (some ⟨b, o + 1, none⟩) (xs.drop 1) := fun j hj => by
 rw [List.length_drop] at hj
 obtain ⟨b', o', e, h2, h3⟩ := h (j + 1) (by omega)
 simp only [Option.some.injEq, Addr.mk.injEq] at e
 obtain ⟨rfl, rfl, _⟩ := e
 refine ⟨b, o + 1, rfl, h2, ?_⟩
 rw [show o + 1 + j = o + (j + 1) by omega, h3, List.getD_eq_getElem?_getD, List.getD_eq_getElem?_getD, List.getElem?_drop, Nat.add_comm 1 j]
theorem Since.join {A B C : World} (h : Since A B) (k : Since B C) : Since A C := ⟨h.low.trans (k.low.mono h.low.size)⟩
def CdFive (p q s : Nat) (n code : Int) (sl y z : Value) (B : World) : Prop :=
 B.cell? ⟨p, 0, none⟩ = some (.int .i64 n) ∧ B.cell? ⟨p, 1, none⟩ = some sl ∧ B.cell? ⟨q, 2, none⟩ = some z ∧ p < B.heap.size ∧ q < B.heap.size ∧ s = s ∧ code = code ∧ y = y
theorem CdFive.all {p q s : Nat} {n code : Int} {sl y z : Value} {B wx : World} (H : Hid (CdFive p q s n code sl y z B)) (h : Since B wx) :
  wx.cell? ⟨p, 0, none⟩ = some (.int .i64 n) ∧ wx.cell? ⟨p, 1, none⟩ = some sl ∧ wx.cell? ⟨q, 2, none⟩ = some z ∧ Since B wx :=
 have k := H.out
 ⟨h.cell (p := ⟨p, 0, none⟩) k.2.2.2.1 k.1, h.cell (p := ⟨p, 1, none⟩) k.2.2.2.1 k.2.1, h.cell (p := ⟨q, 2, none⟩) k.2.2.2.2.1 k.2.2.1, h⟩
set_option maxHeartbeats 4000000 in
theorem spec_CheckCore {w : World} {x y u0 u1 u2 : Value} {g : G} {r : Cor} (res : Bool) (hres : Cr.chkC g r = res) (h : GmX w x y g) (hc : CorC w u0 u1 u2 r) (hf : GmOk g) (hfr : CorOk r) :
  Calls Try.prog 22 #[.agg #[x, y], .agg #[u0, u1, u2]] w fun e w' => e = .returned (.bool res) ∧ Below w.heap.size w w' := by
 obtain ⟨gn, gv⟩ := g
 obtain ⟨⟨a, c, rfl, rfl, hi⟩, hroom⟩ := h
 have hcap : gv.length ≤ c := hroom _ _ _ rfl
 obtain ⟨rfl, hP, hW⟩ := hc
 obtain ⟨rc, rp, rw⟩ := r
 dsimp only at hi hP hW ⊢
 have hl : gv.length ≤ 1048576 := hf.1
 have hfp := hfr.p
 have hfw := hfr.w
 dsimp only at hfp hfw
 obtain ⟨W0, hW0⟩ : ∃ W0, W0 = w.alloc (.cells #[.int .i64 gn, .slice a gv.length c] 32) := ⟨_, rfl⟩
 obtain ⟨W1, hW1⟩ : ∃ W1, W1 = W0.alloc (.cells #[.int .i64 rc, u1, u2] 50) := ⟨_, rfl⟩
 have hs0 : W0.heap.size = w.heap.size + 1 := by rw [hW0]; exact size1 _ _
 have hb0 : Below w.heap.size w W0 := by rw [hW0]; exact (Below.refl _ _).alloc (Nat.le_refl _) _
 have hb1 : Below W0.heap.size W0 W1 := by rw [hW1]; exact (Below.refl _ _).alloc (Nat.le_refl _) _
 have hb : Below w.heap.size w W1 := hb0.trans (hb1.mono (by omega))
 have hbox0 : CellsAt W1 w.heap.size #[.int .i64 gn, .slice a gv.length c] 32 := by
  have h0 : CellsAt W0 w.heap.size #[.int .i64 gn, .slice a gv.length c] 32 := by rw [hW0]; exact CellsAt.new _ _ _
  exact h0.below hb1
 have hbox1 : CellsAt W1 (w.heap.size + 1) #[.int .i64 rc, u1, u2] 50 := by rw [← hs0, hW1]; exact CellsAt.new _ _ _
 have hgm : GmC W1 (.int .i64 gn) (.slice a gv.length c) ⟨gn, gv⟩ := GmC.up (g := ⟨gn, gv⟩) ⟨a, c, rfl, rfl, hi⟩ hb
 have HF := zH hf
 have HGM := zH hgm
 have HB0 := zH hbox0
 have HB1 := zH hbox1
 have HB := zH hb
 have HI := zH (hi.below hb)
 have HP := zH (hP.up hb)
 have HWt := zH (hW.up hb)
 have HR := zH hres
 have HW : Hid ((w.alloc (.cells #[.int .i64 gn, .slice a gv.length c] 32)).alloc (.cells #[.int .i64 rc, u1, u2] 50) = W1) := by show _ = _; rw [hW1, hW0]
 obtain ⟨ap, cp, ep, _⟩ := hP
 obtain ⟨aw, cw, ew, _⟩ := hW
 subst ep ew
 have hsz1 : w.heap.size + 2 ≤ W1.heap.size := by rw [hW1, size1]; omega
 clear hf hgm hbox0 hbox1 hb0 hb1 hb hi hs0 hW1 hW0 hroom hres hfr
 have eg := eqg_rat
 rcases hv : Gm.vld ⟨gn, gv⟩ with _ | _
 ·
  have HV := zH hv
  have Hr := zH ((Cr.chk_bad (r := ⟨rc, rp, rw⟩) hv).symm.trans HR.out)
  obtain ⟨b0, b1⟩ := two HB0.out
  clear hv
  go_enter Try.func22, Try.ntmps22
  go_upto_region 1 with fail
  rw [HW.out]
  go_wp2_with fail
  refine (spec_IsValidGame false HV.out HGM.out HF.out).mono ?_
  rintro e w2 ⟨rfl, k2⟩
  have HE := zH (HB.out.trans (k2.mono HB.out.size))
  clear k2 b0 b1
  go_wp2_with fail
  go_ret
  exact ⟨ret_bool Hr.out, HE.out⟩
 ·
  have HV := zH hv
  have hlen := Gm.vld_len hv
  dsimp only at hlen
  obtain ⟨b0, b1⟩ := two HB0.out
  by_cases hc1 : rc = 1
  ·
   have Hr := zH ((Cr.chk_point (r := ⟨rc, rp, rw⟩) hv hc1).symm.trans HR.out)
   subst hc1
   clear hv
   go_enter Try.func22, Try.ntmps22
   go_upto_region 1 with fail
   rw [HW.out]
   go_wp2_with fail
   refine (spec_IsValidGame true HV.out HGM.out HF.out).mono ?_
   rintro e w2 ⟨rfl, k2⟩
   have HE := zH (HB.out.trans (k2.mono HB.out.size))
   have HG2 := zH (HGM.out.up k2)
   have HP2 := zH (HP.out.up k2)
   have HB2 := zH (HB0.out.below k2)
   have HB3 := zH (HB1.out.below k2)
   clear k2 b0 b1 HGM HP HB0 HB1
   obtain ⟨b0, b1⟩ := two HB2.out
   obtain ⟨q0, q1, q2⟩ := three HB3.out
   go_wp2_with fail
   refine (spec_InCore res Hr.out HG2.out HP2.out HF.out hfp).mono ?_
   rintro e w3 ⟨rfl, k3⟩
   have HE3 := zH (HE.out.trans (k3.mono HE.out.size))
   clear k3 b0 b1 q0 q1 q2
   go_wp2_with fail
   go_ret
   exact ⟨rfl, HE3.out⟩
  ·
   have n1 : (rc == 1) = false := by rw [beq_eq_false_iff_ne]; exact hc1
   by_cases hc2 : rc = 2
   ·
    have Hr := zH ((Cr.chk_empty (r := ⟨rc, rp, rw⟩) hv hc2).symm.trans HR.out)
    subst hc2
    obtain ⟨bb, oo, rfl, _, _⟩ := HI.out 0 (by show 0 < gv.length; omega)
    have hcc1 : (c = 1) = False := eq_false (by omega)
    have n3 : (1 : Int) ≤ (gv.length : Int) := by omega
    have n4 : (1 : Int) ≤ (c : Int) := by omega
    have n5 : (gv.length : Int) ≤ (c : Int) := by omega
    have hdl : (gv.drop 1).length = gv.length - 1 := by simp
    have HDot : Hid (∀ W', Since W1 W' → Calls Try.prog 48 #[.slice (some ⟨bb, oo + 1, none⟩) (gv.length - 1) (c - 1), .slice aw rw.length cw] W' (OneRat (Lp.idR (gv.drop 1) rw) (Lp.idK (gv.drop 1) rw) W')) := fun W' hs => by
     have hb2 := hs.low
     have hn := (HI.out.below (hb2.mono (by omega))).drop1.mono (show w.heap.size ≤ W'.heap.size by have := hb2.size; omega)
     obtain ⟨aw', cw', e, hr⟩ := HWt.out.up hb2
     injection e with e1 e2 e3
     subst e1
     have h9 := spec_l5Dot W'.heap.size (some ⟨bb, oo + 1, none⟩) aw (c - 1) cw (gv.drop 1) rw (by omega) hfw W' (Nat.le_refl _) hn hr
     rw [hdl] at h9
     exact h9
    have HBl : Hid (∀ W', Since W1 W' → Calls Try.prog 17 #[.int .i64 gn, .slice aw rw.length cw] W' fun e w' => e = .returned (.bool (Cr.blc gn rw)) ∧ Below W'.heap.size W' w') := fun W' hs => spec_IsBalancedCollection gn _ rfl (HWt.out.up hs.low) hfw
    have HGr : Hid (∀ W', Since W1 W' → Calls Try.prog 55 #[.agg #[.int .i64 gn, .slice (some ⟨bb, oo, none⟩) gv.length c]] W' fun e w' => e = .returned (.int .i64 (Gm.grand ⟨gn, gv⟩)) ∧ Below W'.heap.size W' w') := fun W' hs => spec_GrandValue (HGM.out.up hs.low) HF.out
    have HDef : Hid ((Cr.blc gn rw && (Lp.idK (gv.drop 1) rw && decide (0 < Py.cmp (Lp.idR (gv.drop 1) rw) (Py.whole (Gm.grand ⟨gn, gv⟩))))) = res) := Hr.out
    have HQ : Hid (CdFive w.heap.size (w.heap.size + 1) 0 gn 2 (.slice (some ⟨bb, oo, none⟩) gv.length c) (.slice ap rp.length cp) (.slice aw rw.length cw) W1) := ⟨b0, b1, (three HB1.out).2.2, by omega, by omega, rfl, rfl, rfl⟩
    have HIV := zH (spec_IsValidGame true HV.out HGM.out HF.out)
    have HQ0 := zH (three HB1.out).1
    generalize Lp.idR (gv.drop 1) rw = D at *
    generalize Lp.idK (gv.drop 1) rw = K at *
    generalize Cr.blc gn rw = BL at *
    generalize Gm.grand ⟨gn, gv⟩ = gr at *
    clear hv Hr HI HP HWt HGM HF HR HV
    go_enter Try.func22, Try.ntmps22
    go_upto_region 1 with fail
    rw [HW.out]
    go_wp2_with fail
    refine HIV.out.mono ?_
    rintro e w2 ⟨rfl, k2⟩
    have hs2 : Since W1 w2 := (Since.refl W1).trans k2
    have HB2 := zH (HB0.out.below k2)
    have HB3 := zH (HB1.out.below k2)
    have HS2 := zH hs2
    clear k2 b0 b1 HIV HQ0
    obtain ⟨b0, b1⟩ := two HB2.out
    obtain ⟨q0, q1, q2⟩ := three HB3.out
    have HQ2 : Hid (CdFive w.heap.size (w.heap.size + 1) 0 gn 2 (.slice (some ⟨bb, oo, none⟩) gv.length c) (.slice ap rp.length cp) (.slice aw rw.length cw) w2) := ⟨b0, b1, q2, lt_of_at HB2.out, lt_of_at HB3.out, rfl, rfl, rfl⟩
    have hx0 := Since.refl w2
    go_upto_region 7 with fail
    go_cut [5, 6] (fun p b wx => Got w2 D.1 D.2 K p b wx)
    case first =>
     clear b0 b1 q0 q1 q2
     go_region_held3 (fun w' => w'.cell? ⟨w.heap.size, 0, none⟩ = some (.int .i64 gn) ∧ w'.cell? ⟨w.heap.size, 1, none⟩ = some (.slice (some ⟨bb, oo, none⟩) gv.length c) ∧ w'.cell? ⟨w.heap.size + 1, 2, none⟩ = some (.slice aw rw.length cw) ∧ Since w2 w') (first | exact CdFive.all HQ2 (by assumption) | exact CdFive.all HQ2 (Since.drew (by assumption)) | exact CdFive.all HQ2 (Own2.since (by assumption)) | exact CdFive.all HQ2 (Since.drew (Own2.since (by assumption))) | exact CdFive.all HQ2 (Since.alloc (by assumption) _) | exact CdFive.all HQ2 (Since.drew (Since.alloc (by assumption) _)) | exact CdFive.all HQ2 (Own2.set2 (by assumption) _ _) | exact CdFive.all HQ2 (Since.drew (Own2.set2 (by assumption) _ _)))
      (first | (go_at_call 48; refine (calls_own (HDot.out _ (Since.join HS2.out (by first | assumption | exact Since.drew (by assumption) | exact Own2.since (by assumption) | exact Own2.since (Own2.drew (by assumption)) | exact Own2.since (Since.new (by assumption) _ _ _) | exact Own2.since (Own2.drew (Since.new (by assumption) _ _ _))))) (B := w2) (x := .int .i64 0) (y := .int .i64 0) (t := 59) (by first | assumption | exact Own2.drew (by assumption) | exact Since.new (by assumption) _ _ _ | exact Own2.drew (Since.new (by assumption) _ _ _))).mono ?_; rintro e w' ⟨⟨rfl, _⟩, hin3⟩; obtain ⟨z0, z1, f0, f1⟩ := Own2.own hin3) | (go_at_call 48; refine (calls_since (HDot.out _ (Since.join HS2.out (by first | assumption | exact Since.drew (by assumption) | exact Own2.since (by assumption) | exact Own2.since (Own2.drew (by assumption)) | exact Own2.since (Since.new (by assumption) _ _ _) | exact Own2.since (Own2.drew (Since.new (by assumption) _ _ _))))) (B := w2) (by first | assumption | exact Since.drew (by assumption))).mono ?_; rintro e w' ⟨⟨rfl, _⟩, hin2⟩))
     all_goals
      go_wp2_with fail
      go_meet
      first
      | exact Got.last (by assumption) _ _ _ _
      | exact Got.set (by assumption) _ _ _
      | exact Got.drew (Got.last (by assumption) _ _ _ _)
      | exact Got.drew (Got.set (by assumption) _ _ _)
    case rest =>
     obtain ⟨wf, hwf⟩ : ∃ q : World, q = wc := ⟨_, rfl⟩
     subst hwf
     obtain ⟨q, rfl, rfl, m0, m1, hq, hqh, hs3⟩ := hcut
     have HB4 := zH (HB2.out.below hs3.low)
     have HB5 := zH (HB3.out.below hs3.low)
     have HS3 := zH (HS2.out.join hs3)
     obtain ⟨c0, c1⟩ := two HB4.out
     obtain ⟨_, _, d2⟩ := three HB5.out
     have Cell : Hid (∀ w', Since wf w' → w'.cell? ⟨w.heap.size, 0, none⟩ = some (.int .i64 gn) ∧ w'.cell? ⟨w.heap.size, 1, none⟩ = some (.slice (some ⟨bb, oo, none⟩) gv.length c) ∧ w'.cell? ⟨w.heap.size + 1, 2, none⟩ = some (.slice aw rw.length cw) ∧ w'.cell? ⟨q, 0, none⟩ = some (.int .i64 D.1) ∧ w'.cell? ⟨q, 1, none⟩ = some (.int .i64 D.2) ∧ Since wf w') := fun w' h =>
      ⟨h.cell (p := ⟨w.heap.size, 0, none⟩) (lt_of_at HB4.out) c0, h.cell (p := ⟨w.heap.size, 1, none⟩) (lt_of_at HB4.out) c1, h.cell (p := ⟨w.heap.size + 1, 2, none⟩) (lt_of_at HB5.out) d2, h.cell (p := ⟨q, 0, none⟩) hq m0, h.cell (p := ⟨q, 1, none⟩) hq m1, h⟩
     have hin := (Since.refl wf).drew
     have hszw : w.heap.size ≤ W1.heap.size := by omega
     clear b0 b1 q0 q1 q2 HQ HQ2 HB0 HB1 HB2 HB3 HDot hs2 hx0 hs3 HS2 m0 m1 c0 c1 d2
     rcases BL with _ | _
     ·
      have Hr : Hid (false = res) := HDef.out
      go_upto_region 8 with fail
      refine wp_region_T_drew (S := (fun w' => w'.cell? ⟨w.heap.size, 0, none⟩ = some (.int .i64 gn) ∧ w'.cell? ⟨w.heap.size, 1, none⟩ = some (.slice (some ⟨bb, oo, none⟩) gv.length c) ∧ w'.cell? ⟨w.heap.size + 1, 2, none⟩ = some (.slice aw rw.length cw) ∧ w'.cell? ⟨q, 0, none⟩ = some (.int .i64 D.1) ∧ w'.cell? ⟨q, 1, none⟩ = some (.int .i64 D.2) ∧ Since wf w')) 16 (by kernel_rfl) ?_ (fun hHeld => ?_)
      ·
       exact Cell.out _ hin
      refine tk2 0 ⟨some 29, .fieldAddr 32 (.tmp 2) 0, 0, "l12_core.go:75", #[], none⟩ ?_
      refine tk2 1 ⟨some 30, .load 3 (.tmp 29), 3, "l12_core.go:75", #[⟨0, .data⟩], none⟩ ?_
      refine tk2 2 ⟨some 31, .fieldAddr 50 (.tmp 3) 2, 0, "l12_core.go:75", #[], none⟩ ?_
      refine tk2 3 ⟨some 32, .load 27 (.tmp 31), 27, "l12_core.go:75", #[⟨2, .data⟩], none⟩ ?_
      try simp only [Act.put, zA, zB, zC]
      refine rd2 4 ⟨some 33, .call { callee := .value (.func 17), args := #[.tmp 30, .tmp 32], argTypes := #[3, 27] }, 4, "l12_core.go:75", #[⟨1, .data⟩, ⟨3, .data⟩], none⟩ fun K hK => ?_
      go_simp
      (go_at_call 17; refine (HBl.out _ (HS3.out.join hin)).mono ?_; rintro e w5 ⟨rfl, k5⟩; have hin5 := hin.trans k5)
      refine hK.out _ _ ?_ (fun hHeld => ?_)
      ·
       exact Cell.out _ hin5
      clear hK K
      refine tk2 5 ⟨some 34, .move (.tmp 33), 4, "l12_core.go:75", #[⟨4, .data⟩, ⟨4, .chain⟩], none⟩ ?_
      try simp only [Act.put, zA, zB, zC]
      refine tkTu (i := 6) (oi := ⟨some 35, .move (.tmp 6), 4, "l12_core.go:75", #[⟨5, .guard⟩], some (5, true)⟩) rfl (by assumption) ?_
      refine tk2 7 ⟨some 36, .pick (.tmp 34) (.tmp 35) (.const (Value.bool false)), 4, "l12_core.go:75", #[⟨5, .data⟩, ⟨6, .data⟩], none⟩ ?_
      refine tk2 8 ⟨some 37, .move (.tmp 36), 4, "l12_core.go:75", #[⟨7, .data⟩, ⟨5, .chain⟩], none⟩ ?_
      try simp only [Act.put, zA, zB, zC]
      refine tkTu (i := 9) (oi := ⟨some 38, .load 59 (.tmp 5), 59, "l12_core.go:75", #[⟨8, .guard⟩], some (8, true)⟩) rfl (by assumption) ?_
      try simp only [Act.put, zA, zB, zC]
      refine tkTu (i := 10) (oi := ⟨some 39, .load 32 (.tmp 2), 32, "l12_core.go:75", #[⟨8, .guard⟩], some (8, true)⟩) rfl (by assumption) ?_
      try simp only [Act.put, zA, zB, zC]
      refine tkTu (i := 11) (oi := ⟨some 40, .call { callee := .value (.func 55), args := #[.tmp 39], argTypes := #[32] }, 3, "l12_core.go:75", #[⟨10, .data⟩, ⟨8, .chain⟩, ⟨8, .guard⟩], some (8, true)⟩) rfl (by assumption) ?_
      try simp only [Act.put, zA, zB, zC]
      refine tkTu (i := 12) (oi := ⟨some 41, .call { callee := .value (.func 30), args := #[.tmp 40], argTypes := #[3] }, 59, "l12_core.go:75", #[⟨11, .data⟩, ⟨11, .chain⟩, ⟨8, .guard⟩], some (8, true)⟩) rfl (by assumption) ?_
      try simp only [Act.put, zA, zB, zC]
      refine tkTu (i := 13) (oi := ⟨some 42, .call { callee := .value (.func 54), args := #[.tmp 38, .tmp 41], argTypes := #[59, 59] }, 3, "l12_core.go:75", #[⟨9, .data⟩, ⟨12, .data⟩, ⟨12, .chain⟩, ⟨8, .guard⟩], some (8, true)⟩) rfl (by assumption) ?_
      try simp only [Act.put, zA, zB, zC]
      refine tkTu (i := 14) (oi := ⟨some 43, .binOp .gtr 3 (.tmp 42) (.const (Value.int IntKind.i64 0)) 3, 4, "l12_core.go:75", #[⟨13, .data⟩, ⟨8, .guard⟩], some (8, true)⟩) rfl (by assumption) ?_
      refine tk2 15 ⟨some 44, .pick (.tmp 37) (.tmp 43) (.const (Value.bool false)), 4, "l12_core.go:75", #[⟨8, .data⟩, ⟨14, .data⟩], none⟩ ?_
      try simp only [Act.put, zA, zB, zC]
      refine rd3 16 ⟨some 4, .assign (.tmp 44), 4, "l12_core.go:75", #[⟨15, .data⟩, ⟨13, .chain⟩, ⟨0, .phase⟩, ⟨1, .phase⟩, ⟨2, .phase⟩, ⟨3, .phase⟩, ⟨4, .phase⟩, ⟨5, .phase⟩, ⟨6, .phase⟩, ⟨7, .phase⟩, ⟨8, .phase⟩, ⟨9, .phase⟩, ⟨10, .phase⟩, ⟨11, .phase⟩, ⟨12, .phase⟩, ⟨13, .phase⟩, ⟨14, .phase⟩, ⟨15, .phase⟩], none⟩ fun K hK => ?_
      go_simp
      refine hK.out _ _ ?_
      clear hK K
      try simp only [Act.put, zA, zB, zC]
      refine wpAnyT_done (by kernel_rfl) ?_ _
      have HE := zH (HB.out.trans ((HS3.out.join hin5).low.mono hszw))
      clear Cell hin hin5 k5
      go_wp2_with fail
      go_ret
      exact ⟨ret_bool Hr.out, HE.out⟩
     ·
      rcases K with _ | _
      ·
       have Hr : Hid (false = res) := HDef.out
       go_upto_region 8 with fail
       refine wp_region_T_drew (S := (fun w' => w'.cell? ⟨w.heap.size, 0, none⟩ = some (.int .i64 gn) ∧ w'.cell? ⟨w.heap.size, 1, none⟩ = some (.slice (some ⟨bb, oo, none⟩) gv.length c) ∧ w'.cell? ⟨w.heap.size + 1, 2, none⟩ = some (.slice aw rw.length cw) ∧ w'.cell? ⟨q, 0, none⟩ = some (.int .i64 D.1) ∧ w'.cell? ⟨q, 1, none⟩ = some (.int .i64 D.2) ∧ Since wf w')) 16 (by kernel_rfl) ?_ (fun hHeld => ?_)
       ·
        exact Cell.out _ hin
       refine tk2 0 ⟨some 29, .fieldAddr 32 (.tmp 2) 0, 0, "l12_core.go:75", #[], none⟩ ?_
       refine tk2 1 ⟨some 30, .load 3 (.tmp 29), 3, "l12_core.go:75", #[⟨0, .data⟩], none⟩ ?_
       refine tk2 2 ⟨some 31, .fieldAddr 50 (.tmp 3) 2, 0, "l12_core.go:75", #[], none⟩ ?_
       refine tk2 3 ⟨some 32, .load 27 (.tmp 31), 27, "l12_core.go:75", #[⟨2, .data⟩], none⟩ ?_
       try simp only [Act.put, zA, zB, zC]
       refine rd2 4 ⟨some 33, .call { callee := .value (.func 17), args := #[.tmp 30, .tmp 32], argTypes := #[3, 27] }, 4, "l12_core.go:75", #[⟨1, .data⟩, ⟨3, .data⟩], none⟩ fun K hK => ?_
       go_simp
       (go_at_call 17; refine (HBl.out _ (HS3.out.join hin)).mono ?_; rintro e w5 ⟨rfl, k5⟩; have hin5 := hin.trans k5)
       refine hK.out _ _ ?_ (fun hHeld => ?_)
       ·
        exact Cell.out _ hin5
       clear hK K
       refine tk2 5 ⟨some 34, .move (.tmp 33), 4, "l12_core.go:75", #[⟨4, .data⟩, ⟨4, .chain⟩], none⟩ ?_
       try simp only [Act.put, zA, zB, zC]
       refine tk2 6 ⟨some 35, .move (.tmp 6), 4, "l12_core.go:75", #[⟨5, .guard⟩], some (5, true)⟩ ?_
       refine tk2 7 ⟨some 36, .pick (.tmp 34) (.tmp 35) (.const (Value.bool false)), 4, "l12_core.go:75", #[⟨5, .data⟩, ⟨6, .data⟩], none⟩ ?_
       refine tk2 8 ⟨some 37, .move (.tmp 36), 4, "l12_core.go:75", #[⟨7, .data⟩, ⟨5, .chain⟩], none⟩ ?_
       try simp only [Act.put, zA, zB, zC]
       refine tkTu (i := 9) (oi := ⟨some 38, .load 59 (.tmp 5), 59, "l12_core.go:75", #[⟨8, .guard⟩], some (8, true)⟩) rfl (by assumption) ?_
       try simp only [Act.put, zA, zB, zC]
       refine tkTu (i := 10) (oi := ⟨some 39, .load 32 (.tmp 2), 32, "l12_core.go:75", #[⟨8, .guard⟩], some (8, true)⟩) rfl (by assumption) ?_
       try simp only [Act.put, zA, zB, zC]
       refine tkTu (i := 11) (oi := ⟨some 40, .call { callee := .value (.func 55), args := #[.tmp 39], argTypes := #[32] }, 3, "l12_core.go:75", #[⟨10, .data⟩, ⟨8, .chain⟩, ⟨8, .guard⟩], some (8, true)⟩) rfl (by assumption) ?_
       try simp only [Act.put, zA, zB, zC]
       refine tkTu (i := 12) (oi := ⟨some 41, .call { callee := .value (.func 30), args := #[.tmp 40], argTypes := #[3] }, 59, "l12_core.go:75", #[⟨11, .data⟩, ⟨11, .chain⟩, ⟨8, .guard⟩], some (8, true)⟩) rfl (by assumption) ?_
       try simp only [Act.put, zA, zB, zC]
       refine tkTu (i := 13) (oi := ⟨some 42, .call { callee := .value (.func 54), args := #[.tmp 38, .tmp 41], argTypes := #[59, 59] }, 3, "l12_core.go:75", #[⟨9, .data⟩, ⟨12, .data⟩, ⟨12, .chain⟩, ⟨8, .guard⟩], some (8, true)⟩) rfl (by assumption) ?_
       try simp only [Act.put, zA, zB, zC]
       refine tkTu (i := 14) (oi := ⟨some 43, .binOp .gtr 3 (.tmp 42) (.const (Value.int IntKind.i64 0)) 3, 4, "l12_core.go:75", #[⟨13, .data⟩, ⟨8, .guard⟩], some (8, true)⟩) rfl (by assumption) ?_
       refine tk2 15 ⟨some 44, .pick (.tmp 37) (.tmp 43) (.const (Value.bool false)), 4, "l12_core.go:75", #[⟨8, .data⟩, ⟨14, .data⟩], none⟩ ?_
       try simp only [Act.put, zA, zB, zC]
       refine rd3 16 ⟨some 4, .assign (.tmp 44), 4, "l12_core.go:75", #[⟨15, .data⟩, ⟨13, .chain⟩, ⟨0, .phase⟩, ⟨1, .phase⟩, ⟨2, .phase⟩, ⟨3, .phase⟩, ⟨4, .phase⟩, ⟨5, .phase⟩, ⟨6, .phase⟩, ⟨7, .phase⟩, ⟨8, .phase⟩, ⟨9, .phase⟩, ⟨10, .phase⟩, ⟨11, .phase⟩, ⟨12, .phase⟩, ⟨13, .phase⟩, ⟨14, .phase⟩, ⟨15, .phase⟩], none⟩ fun K hK => ?_
       go_simp
       refine hK.out _ _ ?_
       clear hK K
       try simp only [Act.put, zA, zB, zC]
       refine wpAnyT_done (by kernel_rfl) ?_ _
       have HE := zH (HB.out.trans ((HS3.out.join hin5).low.mono hszw))
       clear Cell hin hin5 k5
       go_wp2_with fail
       go_ret
       exact ⟨ret_bool Hr.out, HE.out⟩
      ·
       have Hr : Hid (decide (0 < Py.cmp D (Py.whole gr)) = res) := HDef.out
       go_upto_region 8 with fail
       refine wp_region_T_drew (S := (fun w' => w'.cell? ⟨w.heap.size, 0, none⟩ = some (.int .i64 gn) ∧ w'.cell? ⟨w.heap.size, 1, none⟩ = some (.slice (some ⟨bb, oo, none⟩) gv.length c) ∧ w'.cell? ⟨w.heap.size + 1, 2, none⟩ = some (.slice aw rw.length cw) ∧ w'.cell? ⟨q, 0, none⟩ = some (.int .i64 D.1) ∧ w'.cell? ⟨q, 1, none⟩ = some (.int .i64 D.2) ∧ Since wf w')) 16 (by kernel_rfl) ?_ (fun hHeld => ?_)
       ·
        exact Cell.out _ hin
       refine tk2 0 ⟨some 29, .fieldAddr 32 (.tmp 2) 0, 0, "l12_core.go:75", #[], none⟩ ?_
       refine tk2 1 ⟨some 30, .load 3 (.tmp 29), 3, "l12_core.go:75", #[⟨0, .data⟩], none⟩ ?_
       refine tk2 2 ⟨some 31, .fieldAddr 50 (.tmp 3) 2, 0, "l12_core.go:75", #[], none⟩ ?_
       refine tk2 3 ⟨some 32, .load 27 (.tmp 31), 27, "l12_core.go:75", #[⟨2, .data⟩], none⟩ ?_
       try simp only [Act.put, zA, zB, zC]
       refine rd2 4 ⟨some 33, .call { callee := .value (.func 17), args := #[.tmp 30, .tmp 32], argTypes := #[3, 27] }, 4, "l12_core.go:75", #[⟨1, .data⟩, ⟨3, .data⟩], none⟩ fun K hK => ?_
       go_simp
       (go_at_call 17; refine (HBl.out _ (HS3.out.join hin)).mono ?_; rintro e w5 ⟨rfl, k5⟩; have hin5 := hin.trans k5)
       refine hK.out _ _ ?_ (fun hHeld => ?_)
       ·
        exact Cell.out _ hin5
       clear hK K
       refine tk2 5 ⟨some 34, .move (.tmp 33), 4, "l12_core.go:75", #[⟨4, .data⟩, ⟨4, .chain⟩], none⟩ ?_
       try simp only [Act.put, zA, zB, zC]
       refine tk2 6 ⟨some 35, .move (.tmp 6), 4, "l12_core.go:75", #[⟨5, .guard⟩], some (5, true)⟩ ?_
       refine tk2 7 ⟨some 36, .pick (.tmp 34) (.tmp 35) (.const (Value.bool false)), 4, "l12_core.go:75", #[⟨5, .data⟩, ⟨6, .data⟩], none⟩ ?_
       refine tk2 8 ⟨some 37, .move (.tmp 36), 4, "l12_core.go:75", #[⟨7, .data⟩, ⟨5, .chain⟩], none⟩ ?_
       try simp only [Act.put, zA, zB, zC]
       refine tk2 9 ⟨some 38, .load 59 (.tmp 5), 59, "l12_core.go:75", #[⟨8, .guard⟩], some (8, true)⟩ ?_
       try simp only [Act.put, zA, zB, zC]
       refine tk2 10 ⟨some 39, .load 32 (.tmp 2), 32, "l12_core.go:75", #[⟨8, .guard⟩], some (8, true)⟩ ?_
       try simp only [Act.put, zA, zB, zC]
       refine rd2 11 ⟨some 40, .call { callee := .value (.func 55), args := #[.tmp 39], argTypes := #[32] }, 3, "l12_core.go:75", #[⟨10, .data⟩, ⟨8, .chain⟩, ⟨8, .guard⟩], some (8, true)⟩ fun K hK => ?_
       go_simp
       (go_at_call 55; refine (HGr.out _ (HS3.out.join hin5)).mono ?_; rintro e w6 ⟨rfl, k6⟩; have hin6 := hin5.trans k6)
       refine hK.out _ _ ?_ (fun hHeld => ?_)
       ·
        exact Cell.out _ hin6
       clear hK K
       try simp only [Act.put, zA, zB, zC]
       refine rd2 12 ⟨some 41, .call { callee := .value (.func 30), args := #[.tmp 40], argTypes := #[3] }, 59, "l12_core.go:75", #[⟨11, .data⟩, ⟨11, .chain⟩, ⟨8, .guard⟩], some (8, true)⟩ fun K hK => ?_
       go_simp
       (go_at_call 30; refine (spec_l3Int gr _).mono ?_; rintro e w7 ⟨rfl, k7⟩; have hin7 := hin6.trans k7)
       refine hK.out _ _ ?_ (fun hHeld => ?_)
       ·
        exact Cell.out _ hin7
       clear hK K
       try simp only [Act.put, zA, zB, zC]
       refine rd2 13 ⟨some 42, .call { callee := .value (.func 54), args := #[.tmp 38, .tmp 41], argTypes := #[59, 59] }, 3, "l12_core.go:75", #[⟨9, .data⟩, ⟨12, .data⟩, ⟨12, .chain⟩, ⟨8, .guard⟩], some (8, true)⟩ fun K hK => ?_
       go_simp
       (go_at_call 54; refine (spec_cmpX D (Py.whole gr) _).mono ?_; rintro e w8 ⟨rfl, k8⟩; have hin8 := hin7.trans k8)
       refine hK.out _ _ ?_ (fun hHeld => ?_)
       ·
        exact Cell.out _ hin8
       clear hK K
       try simp only [Act.put, zA, zB, zC]
       refine tk2 14 ⟨some 43, .binOp .gtr 3 (.tmp 42) (.const (Value.int IntKind.i64 0)) 3, 4, "l12_core.go:75", #[⟨13, .data⟩, ⟨8, .guard⟩], some (8, true)⟩ ?_
       refine tk2 15 ⟨some 44, .pick (.tmp 37) (.tmp 43) (.const (Value.bool false)), 4, "l12_core.go:75", #[⟨8, .data⟩, ⟨14, .data⟩], none⟩ ?_
       try simp only [Act.put, zA, zB, zC]
       refine rd3 16 ⟨some 4, .assign (.tmp 44), 4, "l12_core.go:75", #[⟨15, .data⟩, ⟨13, .chain⟩, ⟨0, .phase⟩, ⟨1, .phase⟩, ⟨2, .phase⟩, ⟨3, .phase⟩, ⟨4, .phase⟩, ⟨5, .phase⟩, ⟨6, .phase⟩, ⟨7, .phase⟩, ⟨8, .phase⟩, ⟨9, .phase⟩, ⟨10, .phase⟩, ⟨11, .phase⟩, ⟨12, .phase⟩, ⟨13, .phase⟩, ⟨14, .phase⟩, ⟨15, .phase⟩], none⟩ fun K hK => ?_
       go_simp
       refine hK.out _ _ ?_
       clear hK K
       try simp only [Act.put, zA, zB, zC]
       refine wpAnyT_done (by kernel_rfl) ?_ _
       have HE := zH (HB.out.trans ((HS3.out.join hin8).low.mono hszw))
       clear Cell hin hin5 k5 hin6 k6 hin7 k7 hin8 k8
       go_wp2_with fail
       go_ret
       exact ⟨ret_bool Hr.out, HE.out⟩
   ·
    have n2 : (rc == 2) = false := by rw [beq_eq_false_iff_ne]; exact hc2
    have Hr := zH ((Cr.chk_other (g := ⟨gn, gv⟩) (r := ⟨rc, rp, rw⟩) hc1 hc2).symm.trans HR.out)
    clear hv hc1 hc2
    go_enter Try.func22, Try.ntmps22
    go_upto_region 1 with fail
    rw [HW.out]
    go_wp2_with fail
    refine (spec_IsValidGame true HV.out HGM.out HF.out).mono ?_
    rintro e w2 ⟨rfl, k2⟩
    have HE := zH (HB.out.trans (k2.mono HB.out.size))
    have HB3 := zH (HB1.out.below k2)
    clear k2 b0 b1 HB1 HB0
    obtain ⟨q0, q1, q2⟩ := three HB3.out
    go_wp2_with fail
    go_ret
    exact ⟨ret_bool Hr.out, HE.out⟩
set_option maxHeartbeats 4000000 in
theorem impl_pointProves {w : World} {x y v : Value} {g : G} {xs : List R} (res : Bool) (hres : Py.inC g xs = res) (h : GmC w x y g) (hv : InRats w v xs) (hf : GmOk g) (hx : xs.length ≤ 1048576) :
  Calls Try.prog 117 #[v, .agg #[x, y]] w fun e w' => e = .returned (.bool res) ∧ Below w.heap.size w w' := by
 have hb := (Below.refl w.heap.size w).alloc (Nat.le_refl _) (.cells #[x, y] 32)
 have HG := zH (h.up hb)
 have HV := zH (hv.up hb)
 have HB := zH hb
 have HF := zH hf
 have HR := zH hres
 obtain ⟨b0, b1⟩ := two (CellsAt.new w #[x, y] 32)
 obtain ⟨a, c, rfl, _⟩ := hv
 obtain ⟨a', c', rfl, rfl, _⟩ := h
 clear hb hf hres
 go_enter Try.func117, Try.ntmps117
 go_wp2_with fail
 refine (impl_InCore res HR.out HG.out HV.out HF.out hx).mono ?_
 rintro e w1 ⟨rfl, k1⟩
 have HE := zH (HB.out.trans (k1.mono HB.out.size))
 clear k1 b0 b1
 go_wp2_with fail
 go_ret
 exact ⟨rfl, HE.out⟩
set_option maxHeartbeats 4000000 in
theorem impl_emptyProves {w : World} {x y v : Value} {g : G} {xs : List R} (res : Bool) (hres : (Gm.vld g && Cr.more g xs) = res) (h : GmX w x y g) (hv : InRats w v xs) (hf : GmOk g) (hx : xs.length ≤ 1048576) :
  Calls Try.prog 128 #[v, .agg #[x, y]] w fun e w' => e = .returned (.bool res) ∧ Below w.heap.size w w' := by
 obtain ⟨gn, gv⟩ := g
 obtain ⟨⟨a, c, rfl, rfl, hi⟩, hroom⟩ := h
 have hcap : gv.length ≤ c := hroom _ _ _ rfl
 dsimp only at hi ⊢
 have hl : gv.length ≤ 1048576 := hf.1
 have hn64 := hf.n
 dsimp only at hn64
 have hb := (Below.refl w.heap.size w).alloc (Nat.le_refl _) (.cells #[.int .i64 gn, .slice a gv.length c] 32)
 have hbox := CellsAt.new w #[.int .i64 gn, .slice a gv.length c] 32
 obtain ⟨W1, hW1⟩ : ∃ W1, W1 = w.alloc (.cells #[.int .i64 gn, .slice a gv.length c] 32) := ⟨_, rfl⟩
 rw [← hW1] at hb hbox
 have hgm : GmC W1 (.int .i64 gn) (.slice a gv.length c) ⟨gn, gv⟩ := GmC.up (g := ⟨gn, gv⟩) ⟨a, c, rfl, rfl, hi⟩ hb
 have HF := zH hf
 have HGM := zH hgm
 have HB0 := zH hbox
 have HB := zH hb
 have HI := zH (hi.below hb)
 have HWt := zH (hv.up hb)
 have HR := zH hres
 have HW := zH hW1
 obtain ⟨aw, cw, ew, _⟩ := hv
 subst ew
 have hsz1 : w.heap.size + 1 ≤ W1.heap.size := by rw [hW1, size1]; omega
 clear hf hgm hbox hb hi hW1 hroom hres
 obtain ⟨b0, b1⟩ := two HB0.out
 rcases hv : Gm.vld ⟨gn, gv⟩ with _ | _
 ·
  have HV := zH hv
  have Hr : Hid (false = res) := by show _ = _; rw [← HR.out, hv]; rfl
  clear hv
  go_enter Try.func128, Try.ntmps128
  go_upto_region 1 with fail
  rw [← HW.out]
  go_wp2_with fail
  refine (impl_IsValidGame false HV.out HGM.out HF.out).mono ?_
  rintro e w2 ⟨rfl, k2⟩
  have HE := zH (HB.out.trans (k2.mono HB.out.size))
  clear k2 b0 b1
  go_wp2_with fail
  go_ret
  exact ⟨ret_bool Hr.out, HE.out⟩
 ·
  have HV := zH hv
  have hlen := Gm.vld_len hv
  dsimp only at hlen
  have HDef : Hid ((Cr.blc gn xs && (Lp.idK (gv.drop 1) xs && decide (0 < Py.cmp (Lp.idR (gv.drop 1) xs) (Py.whole (Gm.grand ⟨gn, gv⟩))))) = res) := by
   show _ = _
   rw [← HR.out, hv]
   rfl
  have HIV := zH (impl_IsValidGame true HV.out HGM.out HF.out)
  rcases hbl : Cr.blc gn xs with _ | _
  ·
   have Hr : Hid (false = res) := by have h9 := HDef.out; rw [hbl] at h9; exact h9
   have HBl : Hid (∀ W', Since W1 W' → Calls Try.prog 19 #[.int .i64 gn, .slice aw xs.length cw] W' fun e w' => e = .returned (.bool false) ∧ Below W'.heap.size W' w') := fun W' hs => impl_IsBalancedCollection gn hn64.1 hn64.2 false hbl (HWt.out.up hs.low) hx
   clear hv hbl HDef
   go_enter Try.func128, Try.ntmps128
   go_upto_region 1 with fail
   rw [← HW.out]
   go_wp2_with fail
   refine HIV.out.mono ?_
   rintro e w2 ⟨rfl, k2⟩
   have HE := zH (HB.out.trans (k2.mono HB.out.size))
   have HB2 := zH (HB0.out.below k2)
   have HS2 : Hid (Since W1 w2) := (Since.refl W1).trans k2
   clear k2 b0 b1
   obtain ⟨b0, b1⟩ := two HB2.out
   go_wp2_with fail
   refine (HBl.out _ HS2.out).mono ?_
   rintro e w3 ⟨rfl, k3⟩
   have HE3 := zH (HE.out.trans (k3.mono HE.out.size))
   clear k3 b0 b1
   go_wp2_with fail
   go_ret
   exact ⟨ret_bool Hr.out, HE3.out⟩
  ·
   have HBl : Hid (∀ W', Since W1 W' → Calls Try.prog 19 #[.int .i64 gn, .slice aw xs.length cw] W' fun e w' => e = .returned (.bool true) ∧ Below W'.heap.size W' w') := fun W' hs => impl_IsBalancedCollection gn hn64.1 hn64.2 true hbl (HWt.out.up hs.low) hx
   have HDf2 : Hid ((Lp.idK (gv.drop 1) xs && decide (0 < Py.cmp (Lp.idR (gv.drop 1) xs) (Py.whole (Gm.grand ⟨gn, gv⟩)))) = res) := by have h9 := HDef.out; rw [hbl] at h9; exact h9
   obtain ⟨bb, oo, rfl, _, _⟩ := HI.out 0 (by show 0 < gv.length; omega)
   have hcc1 : (c = 1) = False := eq_false (by omega)
   have n3 : (1 : Int) ≤ (gv.length : Int) := by omega
   have n4 : (1 : Int) ≤ (c : Int) := by omega
   have n5 : (gv.length : Int) ≤ (c : Int) := by omega
   have hdl : (gv.drop 1).length = gv.length - 1 := by simp
   have HDot : Hid (∀ W', Since W1 W' → Calls Try.prog 75 #[.slice (some ⟨bb, oo + 1, none⟩) (gv.length - 1) (c - 1), .slice aw xs.length cw] W' (OneRat (Lp.idR (gv.drop 1) xs) (Lp.idK (gv.drop 1) xs) W')) := fun W' hs => by
    have hb2 := hs.low
    have hn := (HI.out.below (hb2.mono (by omega))).drop1.mono (show w.heap.size ≤ W'.heap.size by have := hb2.size; omega)
    obtain ⟨aw', cw', e, hr⟩ := HWt.out.up hb2
    injection e with e1 e2 e3
    subst e1
    have h9 := impl_dotInts W'.heap.size (some ⟨bb, oo + 1, none⟩) aw (c - 1) cw (gv.drop 1) xs (by omega) hx W' (Nat.le_refl _) hn hr
    rw [hdl] at h9
    exact h9
   have HGr : Hid (∀ W', Since W1 W' → Calls Try.prog 124 #[.agg #[.int .i64 gn, .slice (some ⟨bb, oo, none⟩) gv.length c]] W' fun e w' => e = .returned (.int .i64 (Gm.grand ⟨gn, gv⟩)) ∧ Below W'.heap.size W' w') := fun W' hs => impl_GrandValue (HGM.out.up hs.low) HF.out
   generalize Lp.idR (gv.drop 1) xs = D at *
   generalize Lp.idK (gv.drop 1) xs = K at *
   generalize Gm.grand ⟨gn, gv⟩ = gr at *
   clear hv hbl HDef HI HWt HGM HF HR HV
   go_enter Try.func128, Try.ntmps128
   go_upto_region 1 with fail
   rw [← HW.out]
   go_wp2_with fail
   refine HIV.out.mono ?_
   rintro e w2 ⟨rfl, k2⟩
   have HB2 := zH (HB0.out.below k2)
   have HS2 : Hid (Since W1 w2) := (Since.refl W1).trans k2
   clear k2 b0 b1
   obtain ⟨b0, b1⟩ := two HB2.out
   go_wp2_with fail
   refine (HBl.out _ HS2.out).mono ?_
   rintro e w3 ⟨rfl, k3⟩
   have HB3 := zH (HB2.out.below k3)
   have HS3 := zH (HS2.out.trans k3)
   clear k3 b0 b1 HB2 HS2
   obtain ⟨b0, b1⟩ := two HB3.out
   go_wp2_with fail
   refine (HDot.out _ HS3.out).mono ?_
   rintro e w4 ⟨rfl, k4⟩
   have HB4 := zH ((HB3.out.below k4).more (.cells #[.int .i64 D.1, .int .i64 D.2] 59))
   have HS4 := zH ((HS3.out.trans k4).alloc (.cells #[.int .i64 D.1, .int .i64 D.2] 59))
   have HRt := zH (BoxAt.new w4 D).four
   clear k4 b0 b1 HB3 HS3
   go_upto_region 4 with fail
   generalize hq : w4.heap.size = q at *
   have hqlt : q < (w4.alloc (.cells #[.int .i64 D.1, .int .i64 D.2] 59)).heap.size := by rw [size1, hq]; omega
   generalize w4.alloc (.cells #[.int .i64 D.1, .int .i64 D.2] 59) = wf at *
   clear hq
   have Cell : Hid (∀ w', Since wf w' → w'.cell? ⟨w.heap.size, 0, none⟩ = some (.int .i64 gn) ∧ w'.cell? ⟨w.heap.size, 1, none⟩ = some (.slice (some ⟨bb, oo, none⟩) gv.length c) ∧ w'.cell? ⟨q, 0, none⟩ = some (.int .i64 D.1) ∧ w'.cell? ⟨q, 1, none⟩ = some (.int .i64 D.2) ∧ Since wf w') := fun w' h =>
    ⟨h.cell (p := ⟨w.heap.size, 0, none⟩) (lt_of_at HB4.out) (two HB4.out).1, h.cell (p := ⟨w.heap.size, 1, none⟩) (lt_of_at HB4.out) (two HB4.out).2, h.cell (p := ⟨q, 0, none⟩) hqlt HRt.out.1, h.cell (p := ⟨q, 1, none⟩) hqlt HRt.out.2.1, h⟩
   have hin := (Since.refl wf).drew
   have hszw : w.heap.size ≤ W1.heap.size := by omega
   rcases K with _ | _
   ·
    have Hr : Hid (false = res) := HDf2.out
    refine wp_region_T_drew (S := (fun w' => w'.cell? ⟨w.heap.size, 0, none⟩ = some (.int .i64 gn) ∧ w'.cell? ⟨w.heap.size, 1, none⟩ = some (.slice (some ⟨bb, oo, none⟩) gv.length c) ∧ w'.cell? ⟨q, 0, none⟩ = some (.int .i64 D.1) ∧ w'.cell? ⟨q, 1, none⟩ = some (.int .i64 D.2) ∧ Since wf w')) 9 (by kernel_rfl) ?_ (fun hHeld => ?_)
    ·
     exact Cell.out _ hin
    refine tk2 0 ⟨some 25, .move (.tmp 6), 4, "l12_core.go:65", #[], none⟩ ?_
    refine tk2 1 ⟨some 26, .move (.tmp 25), 4, "l12_core.go:65", #[⟨0, .data⟩], none⟩ ?_
    try simp only [Act.put, zA, zB, zC]
    refine tkTu (i := 2) (oi := ⟨some 27, .load 59 (.tmp 5), 59, "l12_core.go:65", #[⟨1, .guard⟩], some (1, true)⟩) rfl (by assumption) ?_
    try simp only [Act.put, zA, zB, zC]
    refine tkTu (i := 3) (oi := ⟨some 28, .load 32 (.tmp 3), 32, "l12_core.go:65", #[⟨1, .guard⟩], some (1, true)⟩) rfl (by assumption) ?_
    try simp only [Act.put, zA, zB, zC]
    refine tkTu (i := 4) (oi := ⟨some 29, .call { callee := .value (.func 124), args := #[.tmp 28], argTypes := #[32] }, 3, "l12_core.go:65", #[⟨3, .data⟩, ⟨1, .chain⟩, ⟨1, .guard⟩], some (1, true)⟩) rfl (by assumption) ?_
    try simp only [Act.put, zA, zB, zC]
    refine tkTu (i := 5) (oi := ⟨some 30, .call { callee := .value (.func 36), args := #[.tmp 29], argTypes := #[3] }, 59, "l12_core.go:65", #[⟨4, .data⟩, ⟨4, .chain⟩, ⟨1, .guard⟩], some (1, true)⟩) rfl (by assumption) ?_
    try simp only [Act.put, zA, zB, zC]
    refine tkTu (i := 6) (oi := ⟨some 31, .call { callee := .value (.func 129), args := #[.tmp 27, .tmp 30], argTypes := #[59, 59] }, 3, "l12_core.go:65", #[⟨2, .data⟩, ⟨5, .data⟩, ⟨5, .chain⟩, ⟨1, .guard⟩], some (1, true)⟩) rfl (by assumption) ?_
    try simp only [Act.put, zA, zB, zC]
    refine tkTu (i := 7) (oi := ⟨some 32, .binOp .gtr 3 (.tmp 31) (.const (Value.int IntKind.i64 0)) 3, 4, "l12_core.go:65", #[⟨6, .data⟩, ⟨1, .guard⟩], some (1, true)⟩) rfl (by assumption) ?_
    refine tk2 8 ⟨some 33, .pick (.tmp 26) (.tmp 32) (.const (Value.bool false)), 4, "l12_core.go:65", #[⟨1, .data⟩, ⟨7, .data⟩], none⟩ ?_
    try simp only [Act.put, zA, zB, zC]
    refine rd3 9 ⟨some 4, .assign (.tmp 33), 4, "l12_core.go:65", #[⟨8, .data⟩, ⟨6, .chain⟩, ⟨0, .phase⟩, ⟨1, .phase⟩, ⟨2, .phase⟩, ⟨3, .phase⟩, ⟨4, .phase⟩, ⟨5, .phase⟩, ⟨6, .phase⟩, ⟨7, .phase⟩, ⟨8, .phase⟩], none⟩ fun K hK => ?_
    go_simp
    refine hK.out _ _ ?_
    clear hK K
    try simp only [Act.put, zA, zB, zC]
    refine wpAnyT_done (by kernel_rfl) ?_ _
    have HE := zH (HB.out.trans ((HS4.out.join hin).low.mono hszw))
    clear Cell hin
    go_wp2_with fail
    go_ret
    exact ⟨ret_bool Hr.out, HE.out⟩
   ·
    have Hr : Hid (decide (0 < Py.cmp D (Py.whole gr)) = res) := HDf2.out
    refine wp_region_T_drew (S := (fun w' => w'.cell? ⟨w.heap.size, 0, none⟩ = some (.int .i64 gn) ∧ w'.cell? ⟨w.heap.size, 1, none⟩ = some (.slice (some ⟨bb, oo, none⟩) gv.length c) ∧ w'.cell? ⟨q, 0, none⟩ = some (.int .i64 D.1) ∧ w'.cell? ⟨q, 1, none⟩ = some (.int .i64 D.2) ∧ Since wf w')) 9 (by kernel_rfl) ?_ (fun hHeld => ?_)
    ·
     exact Cell.out _ hin
    refine tk2 0 ⟨some 25, .move (.tmp 6), 4, "l12_core.go:65", #[], none⟩ ?_
    refine tk2 1 ⟨some 26, .move (.tmp 25), 4, "l12_core.go:65", #[⟨0, .data⟩], none⟩ ?_
    try simp only [Act.put, zA, zB, zC]
    refine tk2 2 ⟨some 27, .load 59 (.tmp 5), 59, "l12_core.go:65", #[⟨1, .guard⟩], some (1, true)⟩ ?_
    try simp only [Act.put, zA, zB, zC]
    refine tk2 3 ⟨some 28, .load 32 (.tmp 3), 32, "l12_core.go:65", #[⟨1, .guard⟩], some (1, true)⟩ ?_
    try simp only [Act.put, zA, zB, zC]
    refine rd2 4 ⟨some 29, .call { callee := .value (.func 124), args := #[.tmp 28], argTypes := #[32] }, 3, "l12_core.go:65", #[⟨3, .data⟩, ⟨1, .chain⟩, ⟨1, .guard⟩], some (1, true)⟩ fun K hK => ?_
    go_simp
    (go_at_call 124; refine (HGr.out _ (HS4.out.join hin)).mono ?_; rintro e w6 ⟨rfl, k6⟩; have hin6 := hin.trans k6)
    refine hK.out _ _ ?_ (fun hHeld => ?_)
    ·
     exact Cell.out _ hin6
    clear hK K
    try simp only [Act.put, zA, zB, zC]
    refine rd2 5 ⟨some 30, .call { callee := .value (.func 36), args := #[.tmp 29], argTypes := #[3] }, 59, "l12_core.go:65", #[⟨4, .data⟩, ⟨4, .chain⟩, ⟨1, .guard⟩], some (1, true)⟩ fun K hK => ?_
    go_simp
    (go_at_call 36; refine (impl_wholeRat gr _).mono ?_; rintro e w7 ⟨rfl, k7⟩; have hin7 := hin6.trans k7)
    refine hK.out _ _ ?_ (fun hHeld => ?_)
    ·
     exact Cell.out _ hin7
    clear hK K
    try simp only [Act.put, zA, zB, zC]
    refine rd2 6 ⟨some 31, .call { callee := .value (.func 129), args := #[.tmp 27, .tmp 30], argTypes := #[59, 59] }, 3, "l12_core.go:65", #[⟨2, .data⟩, ⟨5, .data⟩, ⟨5, .chain⟩, ⟨1, .guard⟩], some (1, true)⟩ fun K hK => ?_
    go_simp
    (go_at_call 129; refine (impl_cmpX D (Py.whole gr) _).mono ?_; rintro e w8 ⟨rfl, k8⟩; have hin8 := hin7.trans k8)
    refine hK.out _ _ ?_ (fun hHeld => ?_)
    ·
     exact Cell.out _ hin8
    clear hK K
    try simp only [Act.put, zA, zB, zC]
    refine tk2 7 ⟨some 32, .binOp .gtr 3 (.tmp 31) (.const (Value.int IntKind.i64 0)) 3, 4, "l12_core.go:65", #[⟨6, .data⟩, ⟨1, .guard⟩], some (1, true)⟩ ?_
    refine tk2 8 ⟨some 33, .pick (.tmp 26) (.tmp 32) (.const (Value.bool false)), 4, "l12_core.go:65", #[⟨1, .data⟩, ⟨7, .data⟩], none⟩ ?_
    try simp only [Act.put, zA, zB, zC]
    refine rd3 9 ⟨some 4, .assign (.tmp 33), 4, "l12_core.go:65", #[⟨8, .data⟩, ⟨6, .chain⟩, ⟨0, .phase⟩, ⟨1, .phase⟩, ⟨2, .phase⟩, ⟨3, .phase⟩, ⟨4, .phase⟩, ⟨5, .phase⟩, ⟨6, .phase⟩, ⟨7, .phase⟩, ⟨8, .phase⟩], none⟩ fun K hK => ?_
    go_simp
    refine hK.out _ _ ?_
    clear hK K
    try simp only [Act.put, zA, zB, zC]
    refine wpAnyT_done (by kernel_rfl) ?_ _
    have HE := zH (HB.out.trans ((HS4.out.join hin8).low.mono hszw))
    clear Cell hin hin6 k6 hin7 k7 hin8 k8
    go_wp2_with fail
    go_ret
    exact ⟨ret_bool Hr.out, HE.out⟩
def evV (r : Cor) (u1 u2 : Value) : Value := if r.code = 1 then .iface 94 u1 else if r.code = 2 then .iface 95 u2 else .nilIface
set_option maxHeartbeats 4000000 in
theorem impl_evidenceOf {w : World} {u0 u1 u2 : Value} {r : Cor} (v : Value) (hv : evV r u1 u2 = v) (hc : CorC w u0 u1 u2 r) :
  Calls Try.prog 56 #[.agg #[u0, u1, u2]] w fun e w' => e = .returned v ∧ Below w.heap.size w w' := by
 obtain ⟨rfl, ⟨ap, cp, rfl, _⟩, ⟨aw, cw, rfl, _⟩⟩ := hc
 obtain ⟨rc, rp, rw⟩ := r
 dsimp only at hv ⊢
 obtain ⟨q0, q1, q2⟩ := three (CellsAt.new w #[.int .i64 rc, .slice ap rp.length cp, .slice aw rw.length cw] 50)
 have HB := zH ((Below.refl w.heap.size w).alloc (Nat.le_refl _) (.cells #[.int .i64 rc, .slice ap rp.length cp, .slice aw rw.length cw] 50))
 unfold evV at hv
 dsimp only at hv
 by_cases h1 : rc = 1
 ·
  rw [if_pos h1] at hv
  subst h1 hv
  go_enter Try.func56, Try.ntmps56
  go_wp2_with fail
  go_ret
  exact ⟨rfl, HB.out⟩
 ·
  rw [if_neg h1] at hv
  have b1 : (rc == 1) = false := by rw [beq_eq_false_iff_ne]; exact h1
  by_cases h2 : rc = 2
  ·
   rw [if_pos h2] at hv
   subst h2 hv
   clear h1 b1
   go_enter Try.func56, Try.ntmps56
   go_wp2_with fail
   go_ret
   exact ⟨rfl, HB.out⟩
  ·
   rw [if_neg h2] at hv
   have b2 : (rc == 2) = false := by rw [beq_eq_false_iff_ne]; exact h2
   subst hv
   clear h1 h2
   go_enter Try.func56, Try.ntmps56
   go_wp2_with fail
   go_ret
   exact ⟨rfl, HB.out⟩
set_option maxHeartbeats 4000000 in
theorem impl_CheckCore {w : World} {x y u0 u1 u2 : Value} {g : G} {r : Cor} (res : Bool) (hres : Cr.chkC g r = res) (h : GmX w x y g) (hc : CorC w u0 u1 u2 r) (hf : GmOk g) (hfr : CorOk r) :
  Calls Try.prog 24 #[.agg #[x, y], .agg #[u0, u1, u2]] w fun e w' => e = .returned (.bool res) ∧ Below w.heap.size w w' := by
 have hb0 := (Below.refl w.heap.size w).alloc (Nat.le_refl _) (.cells #[x, y] 32)
 have hb := hb0.alloc (by rw [size1]; omega) (.cells #[u0, u1, u2] 50)
 have hbox0 := (CellsAt.new w #[x, y] 32).more (.cells #[u0, u1, u2] 50)
 have hbox1 := CellsAt.new (w.alloc (.cells #[x, y] 32)) #[u0, u1, u2] 50
 rw [size1] at hbox1
 have HG := zH (h.up hb)
 have HC := zH (hc.up hb)
 have HB := zH hb
 have HB0 := zH hbox0
 have HB1 := zH hbox1
 have HF := zH hf
 have HR := zH hres
 have hfp := hfr.p
 have hfw := hfr.w
 have HP := zH hc.2.1
 have HWt := zH hc.2.2
 obtain ⟨b0, b1⟩ := two hbox0
 obtain ⟨q0, q1, q2⟩ := three hbox1
 obtain ⟨rfl, ⟨ap, cp, rfl, _⟩, ⟨aw, cw, rfl, _⟩⟩ := hc
 obtain ⟨⟨a, c, rfl, rfl, _⟩, _⟩ := h
 have hm1 : ∀ (v : Value) (w : World), (method 233 94 v "loop.example/g00520/impl.proves").run Try.prog w = .ok (117, v) w := fun _ _ => by kernel_rfl
 have hm2 : ∀ (v : Value) (w : World), (method 233 95 v "loop.example/g00520/impl.proves").run Try.prog w = .ok (128, v) w := fun _ _ => by kernel_rfl
 clear hb0 hb hbox0 hbox1 hf hres hfr
 by_cases h1 : r.code = 1
 ·
  have hev : evV r (.slice ap r.point.length cp) (.slice aw r.weights.length cw) = .iface 94 (.slice ap r.point.length cp) := by unfold evV; rw [if_pos h1]
  have HEv := zH (impl_evidenceOf _ hev HC.out)
  have hres2 : Py.inC g r.point = res := by
   rw [← HR.out]
   rcases hv : Gm.vld g with _ | _
   ·
    rw [Cr.chk_bad hv, Cr.inC_vld hv]
   ·
    rw [Cr.chk_point hv h1]
  have HR2 := zH hres2
  clear hev hres2 h1
  go_enter Try.func24, Try.ntmps24
  go_wp2_with fail
  generalize (w.alloc (.cells #[.int .i64 g.n, .slice a g.v.length c] 32)).alloc (.cells #[.int .i64 r.code, .slice ap r.point.length cp, .slice aw r.weights.length cw] 50) = W at *
  refine HEv.out.mono ?_
  rintro e w2 ⟨rfl, k2⟩
  have HE := zH (HB.out.trans (k2.mono HB.out.size))
  have HG2 := zH (HG.out.up k2)
  have HP2 := zH (HP.out.up HE.out)
  have HB2 := zH (HB0.out.below k2)
  clear k2 b0 b1 q0 q1 q2
  obtain ⟨b0, b1⟩ := two HB2.out
  go_wp2_with fail
  refine (impl_pointProves res HR2.out HG2.out.1 HP2.out HF.out hfp).mono ?_
  rintro e w3 ⟨rfl, k3⟩
  have HE3 := zH (HE.out.trans (k3.mono HE.out.size))
  clear k3 b0 b1
  go_wp2_with fail
  go_ret
  exact ⟨rfl, HE3.out⟩
 ·
  by_cases h2 : r.code = 2
  ·
   have hev : evV r (.slice ap r.point.length cp) (.slice aw r.weights.length cw) = .iface 95 (.slice aw r.weights.length cw) := by unfold evV; rw [if_neg h1, if_pos h2]
   have HEv := zH (impl_evidenceOf _ hev HC.out)
   have hres2 : (Gm.vld g && Cr.more g r.weights) = res := by
    rw [← HR.out]
    rcases hv : Gm.vld g with _ | _
    ·
     rw [Cr.chk_bad hv]; rfl
    ·
     rw [Cr.chk_empty hv h2]; rfl
   have HR2 := zH hres2
   clear hev hres2 h1 h2
   go_enter Try.func24, Try.ntmps24
   go_wp2_with fail
   generalize (w.alloc (.cells #[.int .i64 g.n, .slice a g.v.length c] 32)).alloc (.cells #[.int .i64 r.code, .slice ap r.point.length cp, .slice aw r.weights.length cw] 50) = W at *
   refine HEv.out.mono ?_
   rintro e w2 ⟨rfl, k2⟩
   have HE := zH (HB.out.trans (k2.mono HB.out.size))
   have HG2 := zH (HG.out.up k2)
   have HP2 := zH (HWt.out.up HE.out)
   have HB2 := zH (HB0.out.below k2)
   clear k2 b0 b1 q0 q1 q2
   obtain ⟨b0, b1⟩ := two HB2.out
   go_wp2_with fail
   refine (impl_emptyProves res HR2.out HG2.out HP2.out HF.out hfw).mono ?_
   rintro e w3 ⟨rfl, k3⟩
   have HE3 := zH (HE.out.trans (k3.mono HE.out.size))
   clear k3 b0 b1
   go_wp2_with fail
   go_ret
   exact ⟨rfl, HE3.out⟩
  ·
   have hev : evV r (.slice ap r.point.length cp) (.slice aw r.weights.length cw) = .nilIface := by unfold evV; rw [if_neg h1, if_neg h2]
   have HEv := zH (impl_evidenceOf _ hev HC.out)
   have HR2 := zH ((Cr.chk_other (g := g) h1 h2).symm.trans HR.out)
   clear hev h1 h2
   go_enter Try.func24, Try.ntmps24
   go_wp2_with fail
   generalize (w.alloc (.cells #[.int .i64 g.n, .slice a g.v.length c] 32)).alloc (.cells #[.int .i64 r.code, .slice ap r.point.length cp, .slice aw r.weights.length cw] 50) = W at *
   refine HEv.out.mono ?_
   rintro e w2 ⟨rfl, k2⟩
   have HE := zH (HB.out.trans (k2.mono HB.out.size))
   clear k2 b0 b1 q0 q1 q2
   go_wp2_with fail
   go_ret
   exact ⟨ret_bool HR2.out, HE.out⟩
end Go.Proofs.Ytjkofijchdibdaa
