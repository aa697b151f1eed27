/- spec.l11All. -/
import Derived.Test.YtjkofijchdibdaaPyC
import Derived.Test.YtjkofijchdibdaaGVb
namespace Go.Proofs.Ytjkofijchdibdaa
open Go.RowKit
open Ve (R)
open Gm (G)
theorem made_nil (B : Nat) (w : World) (h : B ≤ w.heap.size) : OwnRats B (w.alloc (.cells #[] 59)) (.slice (some ⟨w.heap.size, 0, none⟩) 0 0) [] := World.ownsRow_made w #[] 0 h (Nat.zero_le _) rfl
theorem pre_next {g : G} {x : List R} {m : Nat} (h : 1 ≤ m) : Py.pre g x (m + 1 - 1) = Py.pre g x (m - 1) ++ [(Py.exc g x (m : Int)).1] := by
 have := Py.pre_more g x (m - 1)
 rw [show m - 1 + 1 = m + 1 - 1 by omega, show ((m - 1 : Nat) : Int) + 1 = (m : Int) by omega] at this
 exact this
theorem fits_next {g : G} {x : List R} {m : Nat} (h : 1 ≤ m) (h1 : Py.fitsTo g x (m - 1) = true) (h2 : (Py.exc g x (m : Int)).2 = true) : Py.fitsTo g x (m + 1 - 1) = true := by
 rw [show m + 1 - 1 = m - 1 + 1 by omega, Py.fitsTo, h1, show ((m - 1 : Nat) : Int) + 1 = (m : Int) by omega, h2]; rfl
theorem fits_fail {g : G} {x : List R} {m n : Nat} (h : 1 ≤ m) (h2 : (Py.exc g x (m : Int)).2 = false) (hn : m - 1 < n) : Py.fitsTo g x n = false :=
 Py.fitsTo_no (k := m - 1) (by rw [show ((m - 1 : Nat) : Int) + 1 = (m : Int) by omega]; exact h2) hn
set_option maxRecDepth 100000 in
set_option maxHeartbeats 4000000 in
theorem spec_l11All {w : World} {x y v : Value} {g : G} {xs : List R} (h : GmC w x y g) (hv : InRats w v xs) (hf : GmOk g) (hx : xs.length ≤ 1048576) :
  Calls Try.prog 66 #[.agg #[x, y], v] w (MakesRatsK (Py.lst g xs) (Py.okE g xs) w) := by
 obtain ⟨gn, gv⟩ := g
 obtain ⟨D, hD⟩ : ∃ D, Py.lst ⟨gn, gv⟩ xs = D := ⟨_, rfl⟩
 obtain ⟨K, hK⟩ : ∃ K, Py.okE ⟨gn, gv⟩ xs = K := ⟨_, rfl⟩
 rw [hD, hK]
 have HD := zH hD
 have HK := zH hK
 obtain ⟨a, c, rfl, rfl, hi⟩ := h
 obtain ⟨i0, hii, hz0, hz1, hz2⟩ := info_parts info_rat
 have HI := zH hii
 have HZ0 := zH hz0
 have HZ1 := zH hz1
 have HZ2 := zH hz2
 obtain ⟨W, hW⟩ : ∃ W, W = w.alloc (.cells #[.int .i64 gn, .slice a gv.length c] 32) := ⟨_, rfl⟩
 have hc := CellsAt.new w #[.int .i64 gn, .slice a gv.length c] 32
 have hb := (Below.refl w.heap.size w).alloc (Nat.le_refl _) (.cells #[.int .i64 gn, .slice a gv.length c] 32)
 rw [← hW] at hc hb
 have hX : GmC W (.int .i64 gn) (.slice a gv.length c) ⟨gn, gv⟩ := GmC.up ⟨a, c, rfl, rfl, hi⟩ hb
 have hV := hv.up hb
 have hlv : gv.length ≤ 1048576 := hf.1
 have HW := zH hW
 have HC := zH hc
 have HB := zH hb
 have HX := zH hX
 have HV := zH hV
 have HF := zH hf
 have hlo := hb.size
 have HO0 : Hid (OwnRats W.heap.size (W.alloc (.cells #[] 59)) (.slice (some ⟨w.heap.size + 1, 0, none⟩) 0 0) []) := by
  have hs : w.heap.size + 1 = W.heap.size := by rw [hW, size1]
  show OwnRats _ _ _ _
  rw [hs]
  exact made_nil _ _ (Nat.le_refl _)
 have HBe := zH ((Below.refl W.heap.size W).alloc (Nat.le_refl _) (.cells #[] 59))
 have HXe := zH (hX.up HBe.out)
 have HVe := zH (hV.up HBe.out)
 clear hii hz0 hz1 hz2 hD hK hW hc hb hX hV hv hi hf
 rcases hp : Py.isPay ⟨gn, gv⟩ xs with _ | _
 ·
  have HP := zH hp
  have hok := Py.okE_pay hp
  have hls := Py.lst_no hok
  rw [HD.out] at hls
  rw [HK.out] at hok
  have HE1 := zH hls
  have HE2 := zH hok
  clear hp hok hls
  go_enter Try.func66, Try.ntmps66
  go_wp2_with fail
  rw [← HW.out]
  refine (spec_IsPayoff false HP.out HXe.out HVe.out HF.out hx).mono ?_
  rintro e w1 ⟨rfl, hb1⟩
  have HB1 := zH (HBe.out.trans (hb1.mono HBe.out.size))
  have Hown1 := zH (HO0.out.below hb1)
  clear hb1
  go_wp2_with fail
  go_ret2
  refine ⟨_, ret_two HE2.out.symm, ?_, HB.out.trans (HB1.out.mono hlo)⟩
  rw [HE1.out]
  exact OwnRats.lower Hown1.out hlo
 ·
  have HP := zH hp
  have hvl := (Py.isPay_parts hp).1
  have hl2 := (Gm.vld_len hvl).1
  have hl3 := (Gm.vld_len hvl).2
  dsimp only at hl2 hl3
  have Hok := zH ((Py.okE_is hp).symm.trans HK.out)
  have Hls := zH HD.out
  dsimp only at Hok
  clear hp hvl
  go_enter Try.func66, Try.ntmps66
  go_wp2_with fail
  rw [← HW.out]
  refine (spec_IsPayoff true HP.out HXe.out HVe.out HF.out hx).mono ?_
  rintro e w1 ⟨rfl, hb1⟩
  have HO1 := zH (HO0.out.below hb1)
  have HB1 := zH (HBe.out.trans (hb1.mono HBe.out.size))
  clear HO0 HBe HXe HVe
  clear hb1
  go_wp2_with fail
  go_loopw [6, 7] (fun v i wr => ∃ m : Nat, 1 ≤ m ∧ m ≤ gv.length - 1 ∧ i = .int .i64 m ∧ Hid (OwnRats W.heap.size wr v (Py.pre ⟨gn, gv⟩ xs (m - 1))) ∧ Hid (Py.fitsTo ⟨gn, gv⟩ xs (m - 1) = true) ∧ Hid (Below W.heap.size W wr)) (fun _ i _ => gv.length - (intOf i).toNat)
  case atStart => exact ⟨1, Nat.le_refl _, by omega, rfl, HO1, rfl, HB1⟩
  case round =>
   obtain ⟨m, hm1, hm2, rfl, hO, hA, hB⟩ := hrel
   obtain ⟨x0, x1⟩ := two (HC.out.below hB.out)
   have hsz := hB.out.size
   by_cases hlt : m < gv.length - 1
   ·
    have d1 : decide ((m : Int) < (gv.length : Int) - 1) = true := by rw [decide_eq_true_iff]; omega
    have n1 : (m : Int) < (gv.length : Int) - 1 := by omega
    have He := zH (pre_next (g := ⟨gn, gv⟩) (x := xs) hm1)
    have HA2 := zH (fun h => fits_next hm1 hA.out h)
    have HN := zH (fun h => fits_fail (g := ⟨gn, gv⟩) (x := xs) (n := gv.length - 2) hm1 h (by omega))
    have hlen := Nat.le_of_eq (Py.pre_len ⟨gn, gv⟩ xs (m - 1))
    have HCall := zH (spec_ExcessOf (m : Int) (HX.out.up hB.out) (HV.out.up hB.out) HF.out hx)
    have Hstart := zH (show Py.pre ⟨gn, gv⟩ xs (m - 1) = Py.pre ⟨gn, gv⟩ xs (m - 1) from rfl)
    clear Hstart
    generalize Py.pre ⟨gn, gv⟩ xs (m - 1) = ls at *
    obtain ⟨E, hE⟩ : ∃ E, Py.exc ⟨gn, gv⟩ xs (m : Int) = E := ⟨_, rfl⟩
    obtain ⟨E, ek⟩ := E
    rw [hE] at HCall He HA2 HN
    clear hE
    dsimp only at He HA2 HN
    go_wp2_with fail
    refine HCall.out.mono ?_
    rintro e w2 ⟨rfl, hb2⟩
    have HB2 := zH (hB.out.trans (hb2.mono hsz))
    have hsz2 := HB2.out.size
    have Hown1 := zH (hO.out.below hb2)
    clear hb2 HCall
    rcases ek with _ | _
    ·
     have hok := Hok.out
     rw [HN.out rfl] at hok
     have hls : Py.lst ⟨gn, gv⟩ xs = [] := Py.lst_no (HK.out.trans hok.symm)
     rw [Hls.out] at hls
     have HE1 := zH hls
     have HE2 := zH hok
     have HB3 := zH ((HB2.out.alloc hsz2 (.cells #[.int .i64 E.1, .int .i64 E.2] 59)))
     have hsz3 := HB3.out.size
     clear hok hls Hok HA2 HN
     go_wp2_with fail
     go_ret2
     refine ⟨_, ret_two HE2.out, ?_, HB.out.trans ((HB3.out.alloc hsz3 _).mono hlo)⟩
     rw [HE1.out]
     have hmn := made_nil w.heap.size (w2.alloc (.cells #[.int .i64 E.1, .int .i64 E.2] 59)) (Nat.le_trans hlo hsz3)
     rw [size1] at hmn
     exact hmn
    ·
     have Hown := zH (World.ownsRow.alloc (World.ownsRow.alloc Hown1.out (.cells #[.int .i64 E.1, .int .i64 E.2] 59)) (.cells #[.int .i64 E.1, .int .i64 E.2] 59))
     have HA3 : Hid (Py.fitsTo ⟨gn, gv⟩ xs (m + 1 - 1) = true) := HA2.out rfl
     clear HN HA2
     go_wp2_with (at_builtin; refine wpList_append_own _ rfl _ _ 27 rfl W.heap.size 59 i0 (.agg #[.int .i64 0, .int .i64 0]) 2 16 Try.underlying27 HI.out HZ0.out HZ1.out HZ2.out rfl (by decide) _ _ _ rfl Hown.out ⟨w2.heap.size + 1, 0, none⟩ 1 1 [.int .i64 E.1, .int .i64 E.2] rfl rfl ?c1 ?c2 ?c3 ?c4 ?c5 ?_)
     case c1 =>
      intro j u hj
      match j, hj with
      | 0, hj => simp at hj; subst hj; simp [Addr.add]
      | 1, hj => simp at hj; subst hj; simp [Addr.add]
     case c2 => intro u hu; simp at hu; rcases hu with rfl | rfl <;> rfl
     case c3 => unfold maxLen; omega
     case c4 => omega
     case c5 => simp; omega
     intro v' w3 hown' hgrow _
     have hne := Hown.out.lt
     have Ho1 := zH (OwnRats.more (x := E) hown')
     have Hb1 := zH (((HB2.out.alloc hsz2 (.cells #[.int .i64 E.1, .int .i64 E.2] 59)).alloc (by rw [size1]; omega) (.cells #[.int .i64 E.1, .int .i64 E.2] 59)).grown hgrow (by simp; omega) (fun g hg => (hne g hg).1))
     rw [← He.out] at Ho1
     clear hown' hgrow hne
     go_wp2_with fail
     go_roundw
     case rel => exact ⟨m + 1, by omega, by omega, by go_num, Ho1, HA3, Hb1⟩
     case measure => simp [intOf]; omega
   ·
    have he : m - 1 = gv.length - 2 := by omega
    have d1 : decide ((m : Int) < (gv.length : Int) - 1) = false := by rw [decide_eq_false_iff_not]; omega
    have n1 : ¬ (m : Int) < (gv.length : Int) - 1 := by omega
    have HE : Hid (Py.pre ⟨gn, gv⟩ xs (m - 1) = D ∧ true = K) := by
     have hok : Py.okE ⟨gn, gv⟩ xs = true := by rw [HK.out, ← Hok.out, ← he]; exact hA.out
     have := Py.lst_yes hok
     rw [HD.out] at this
     rw [HK.out] at hok
     rw [he]
     exact ⟨this.symm, hok.symm⟩
    clear he
    go_wp2_with fail
    go_ret2
    refine ⟨_, ret_two HE.out.2, ?_, HB.out.trans (hB.out.mono hlo)⟩
    rw [← HE.out.1]
    exact OwnRats.lower hO.out hlo
end Go.Proofs.Ytjkofijchdibdaa
