/- The walk of FnGameText: whatever the code, the law returns true. -/
import Derived.Test.YtambneapofaclaaGreatDoorGtT
import Derived.Test.YtambneapofaclaaGreatDoorGtW2
import Derived.Test.YtambneapofaclaaGreatDoorBig
import Derived.Test.YtambneapofaclaaGreatDoorRow
namespace Go.Proofs.YtambneapofaclaaGreatDoor
open Go.RowKit
open Gm (G G0)
theorem eqG_same (g : G) : Gm.eqG g g = true := by unfold Gm.eqG; simp
set_option maxRecDepth 100000 in
set_option maxHeartbeats 16000000 in
theorem fnGameText.walk0 (a : Option Addr) (len cap : Nat) (w : World) (hcode : CodeAt w.heap.size w a len) (he : Env w) :
    Calls Tryz.prog 3 #[.slice a len cap] w fun e w' => e = .returned (.bool true) ∧ Below w.heap.size w w' := by
  have Hc := Lib.hid hcode
  have HEn := Lib.hid he
  clear hcode he
  by_cases hbig : 1048576 < len
  · go_enter Tryz.func3, Tryz.ntmps3
    go_wp2_with fail
    refine (big_yes a len cap hbig w).mono ?_
    rintro e w1 ⟨rfl, rfl⟩
    go_wp2_with fail
    go_ret
    exact ⟨rfl, Below.refl _ _⟩
  · go_enter Tryz.func3, Tryz.ntmps3
    go_wp2_with fail
    refine (big_no a len cap (by omega) w).mono ?_
    rintro e wz ⟨rfl, rfl⟩
    go_wp2_with fail
    refine (spec_DrawFormatGame a len cap w Hc.out).mono ?_
    rintro e w1 ⟨g, y, rfl, hres, hn, hl, k⟩
    have HB := Lib.hid k
    obtain ⟨a1, c1, _, rfl, hin1⟩ := ResGm.reads_c hres
    have GA := Lib.hid (show GmC w1 (.int .i64 g.n) (.slice a1 g.v.length c1) g from ⟨a1, c1, rfl, rfl, hin1⟩)
    have FA : Hid (GmOk g) := ⟨by omega, WalkArith.wf_i64 (by omega)⟩
    have HSz := Lib.hid (gtext_size g)
    have HP : Hid ((Gm.vld g = true ∧ Gt.parse (Gt.text g) = (g, -1)) ∨ (Gm.vld g = false ∧ Gt.parse (Gt.text g) = (G0, 0))) := by
      rcases h : Gm.vld g with _ | _
      · exact .inr ⟨rfl, by rw [Gt.text_no h]; exact Gt.parse_empty⟩
      · exact .inl ⟨rfl, Gt.parse_text h⟩
    have HFi := Lib.hid (fun (w : World) (x y : Value) (h : GmC w x y g) (e : Env w) => impl_FormatGame h e.tabs.pow FA.out)
    have HFs := Lib.hid (fun (w : World) (x y : Value) (h : GmC w x y g) => spec_FormatGame h FA.out)
    have HPi := Lib.hid (fun (w : World) (e : Env w) => impl_ParseGame (Gt.text g) (by have := HSz.out; omega) w e)
    have HVs := Lib.hid (fun (b : Bool) (hb : Gm.vld g = b) (w : World) (x y : Value) (h : GmC w x y g) => spec_IsValidGame b hb h FA.out)
    have HEq := Lib.hid (fun (w : World) (x y x2 y2 : Value) (h : GmC w x y g) (h2 : GmC w x2 y2 g) => spec_EqualGame true (eqG_same g) h h2 FA.out FA.out)
    generalize Gt.text g = tx at *
    have hq1 : (tx.toList == tx.toList) = true := by simp
    have hq2 : (tx.toList != tx.toList) = false := by simp
    obtain ⟨gn, hgn⟩ : ∃ gn, g.n = gn := ⟨_, rfl⟩
    obtain ⟨gl, hgl⟩ : ∃ gl, g.v.length = gl := ⟨_, rfl⟩
    rw [hgn, hgl] at GA
    rw [hgn, hgl]
    clear hres hn hl k hin1 hgn hgl
    replace GA := Lib.hid (GA.out.up ((Below.refl _ _).alloc (Nat.le_refl _) (.cells #[.int .i64 gn, .slice a1 gl c1] 26)))
    replace HB := Lib.hid (HB.out.alloc HB.out.size (.cells #[.int .i64 gn, .slice a1 gl c1] 26))
    have BX1 := Lib.hid (CellsAt.new w1 #[.int .i64 gn, .slice a1 gl c1] 26)
    go_wp2_with fail
    generalize hW2 : (w1.alloc (.cells #[.int .i64 gn, .slice a1 gl c1] 26)) = w2 at *
    obtain ⟨q1, hq⟩ : ∃ q1, w1.heap.size = q1 := ⟨_, rfl⟩
    rw [hq] at BX1 ⊢
    clear hW2 hq
    refine (HFi.out _ _ _ GA.out (HEn.out.below HB.out)).mono ?_
    rintro e w3 ⟨rfl, k⟩
    replace GA := Lib.hid (GA.out.up k)
    replace BX1 := Lib.hid (BX1.out.below k)
    replace HB := Lib.hid (HB.out.trans (k.mono HB.out.size))
    clear k
    clear HFi
    go_wp2_with fail
    refine (HPi.out _ (HEn.out.below HB.out)).mono ?_
    rintro e w4 ⟨⟨x5, y5, rfl, hr⟩, k⟩
    replace GA := Lib.hid (GA.out.up k)
    replace BX1 := Lib.hid (BX1.out.below k)
    replace HB := Lib.hid (HB.out.trans (k.mono HB.out.size))
    clear k
    clear HPi
    rcases HP.out with ⟨hv, hpe⟩ | ⟨hv, hpe⟩
    · rw [hpe] at hr
      clear HP
      obtain ⟨a5, c5, rfl, rfl, hin5⟩ := ResGm.reads_c hr
      have G5 := Lib.hid (show GmC w4 (.int .i64 g.n) (.slice a5 g.v.length c5) g from ⟨a5, c5, rfl, rfl, hin5⟩)
      rw [hpe]
      try dsimp only
      obtain ⟨n5, hn5⟩ : ∃ n5, g.n = n5 := ⟨_, rfl⟩
      obtain ⟨l5, hl5⟩ : ∃ l5, g.v.length = l5 := ⟨_, rfl⟩
      rw [hn5, hl5] at G5
      rw [hn5, hl5]
      clear hr hin5 hn5 hl5 hpe
      replace GA := Lib.hid (GA.out.up ((Below.refl _ _).alloc (Nat.le_refl _) (.cells #[.int .i64 n5, .slice a5 l5 c5] 26)))
      replace BX1 := Lib.hid (BX1.out.below ((Below.refl _ _).alloc (Nat.le_refl _) (.cells #[.int .i64 n5, .slice a5 l5 c5] 26)))
      replace G5 := Lib.hid (G5.out.up ((Below.refl _ _).alloc (Nat.le_refl _) (.cells #[.int .i64 n5, .slice a5 l5 c5] 26)))
      replace HB := Lib.hid (HB.out.alloc HB.out.size (.cells #[.int .i64 n5, .slice a5 l5 c5] 26))
      have BX5 := Lib.hid (CellsAt.new w4 #[.int .i64 n5, .slice a5 l5 c5] 26)
      obtain ⟨m0, m1⟩ := two BX1.out
      go_wp2_with fail
      clear m0 m1
      generalize hW5 : (w4.alloc (.cells #[.int .i64 n5, .slice a5 l5 c5] 26)) = w5 at *
      obtain ⟨q5, hq⟩ : ∃ q5, w4.heap.size = q5 := ⟨_, rfl⟩
      rw [hq] at BX5 ⊢
      clear hW5 hq
      refine (HFs.out _ _ _ GA.out).mono ?_
      rintro e w6 ⟨rfl, k⟩
      replace GA := Lib.hid (GA.out.up k)
      replace BX1 := Lib.hid (BX1.out.below k)
      replace G5 := Lib.hid (G5.out.up k)
      replace BX5 := Lib.hid (BX5.out.below k)
      replace HB := Lib.hid (HB.out.trans (k.mono HB.out.size))
      clear k
      clear HFs
      obtain ⟨m0, m1⟩ := two BX1.out
      go_wp2_with fail
      clear m0 m1
      refine (HVs.out true hv _ _ _ GA.out).mono ?_
      rintro e w6b ⟨rfl, k⟩
      replace GA := Lib.hid (GA.out.up k)
      replace BX1 := Lib.hid (BX1.out.below k)
      replace G5 := Lib.hid (G5.out.up k)
      replace BX5 := Lib.hid (BX5.out.below k)
      replace HB := Lib.hid (HB.out.trans (k.mono HB.out.size))
      clear k
      clear HVs hv
      obtain ⟨m0, m1⟩ := two BX1.out
      obtain ⟨m2, m3⟩ := two BX5.out
      go_wp2_with fail
      clear m0 m1 m2 m3
      refine (HEq.out _ _ _ _ _ G5.out GA.out).mono ?_
      rintro e w6c ⟨rfl, k⟩
      replace GA := Lib.hid (GA.out.up k)
      replace BX1 := Lib.hid (BX1.out.below k)
      replace G5 := Lib.hid (G5.out.up k)
      replace BX5 := Lib.hid (BX5.out.below k)
      replace HB := Lib.hid (HB.out.trans (k.mono HB.out.size))
      clear k
      clear HEq
      go_wp2_with fail
      refine (spec_DrawParseGame a len cap _ (Hc.out.below HB.out |>.mono HB.out.size)).mono ?_
      rintro e w7 ⟨t, rfl, ht, k⟩
      replace HB := Lib.hid (HB.out.trans (k.mono HB.out.size))
      clear k
      have ht1 : t.size ≤ 1048576 := by omega
      have HPi2 := Lib.hid (fun (w : World) (e : Env w) => impl_ParseGame t ht1 w e)
      have HPs2 := Lib.hid (fun (w : World) => spec_ParseGame t ht1 w)
      have FOk := Lib.hid (parse_ok t)
      have HSo := Lib.hid (Gt.parse_sound t)
      obtain ⟨⟨g9, r9⟩, hR⟩ : ∃ R, Gt.parse t = R := ⟨_, rfl⟩
      rw [hR] at HPi2 HPs2 FOk HSo
      clear hR ht ht1
      have he9 : (r9 == r9) = true := by simp
      go_wp2_with fail
      refine (HPi2.out _ (HEn.out.below HB.out)).mono ?_
      rintro e w8 ⟨⟨x8, y8, rfl, hr8⟩, k⟩
      replace HB := Lib.hid (HB.out.trans (k.mono HB.out.size))
      clear k HPi2
      obtain ⟨a8, c8, rfl, rfl, hin8⟩ := ResGm.reads_c hr8
      have G8 := Lib.hid (show GmC w8 (.int .i64 g9.n) (.slice a8 g9.v.length c8) g9 from ⟨a8, c8, rfl, rfl, hin8⟩)
      clear hr8 hin8
      obtain ⟨n8, hn8⟩ : ∃ n8, g9.n = n8 := ⟨_, rfl⟩
      obtain ⟨l8, hl8⟩ : ∃ l8, g9.v.length = l8 := ⟨_, rfl⟩
      try dsimp only
      rw [hn8, hl8] at G8
      rw [hn8, hl8]
      clear hn8 hl8
      replace G8 := Lib.hid (G8.out.up ((Below.refl _ _).alloc (Nat.le_refl _) (.cells #[.int .i64 n8, .slice a8 l8 c8] 26)))
      replace HB := Lib.hid (HB.out.alloc HB.out.size (.cells #[.int .i64 n8, .slice a8 l8 c8] 26))
      have BX8 := Lib.hid (CellsAt.new w8 #[.int .i64 n8, .slice a8 l8 c8] 26)
      go_wp2_with fail
      generalize hW9 : (w8.alloc (.cells #[.int .i64 n8, .slice a8 l8 c8] 26)) = w9 at *
      obtain ⟨q8, hq⟩ : ∃ q8, w8.heap.size = q8 := ⟨_, rfl⟩
      rw [hq] at BX8 ⊢
      clear hW9 hq
      refine (HPs2.out _).mono ?_
      rintro e wa ⟨⟨xa, ya, rfl, hra⟩, k⟩
      replace G8 := Lib.hid (G8.out.up k)
      replace BX8 := Lib.hid (BX8.out.below k)
      replace HB := Lib.hid (HB.out.trans (k.mono HB.out.size))
      clear k
      clear HPs2
      obtain ⟨aa, ca, rfl, rfl, _⟩ := ResGm.reads_c hra
      clear hra
      try dsimp only
      obtain ⟨na, hna⟩ : ∃ na, g9.n = na := ⟨_, rfl⟩
      obtain ⟨la, hla⟩ : ∃ la, g9.v.length = la := ⟨_, rfl⟩
      rw [hna, hla]
      clear hna hla
      replace G8 := Lib.hid (G8.out.up ((Below.refl _ _).alloc (Nat.le_refl _) (.cells #[.int .i64 na, .slice aa la ca] 26)))
      replace BX8 := Lib.hid (BX8.out.below ((Below.refl _ _).alloc (Nat.le_refl _) (.cells #[.int .i64 na, .slice aa la ca] 26)))
      replace HB := Lib.hid (HB.out.alloc HB.out.size (.cells #[.int .i64 na, .slice aa la ca] 26))
      rcases HSo.out with ⟨hneg, htx⟩ | ⟨_, hpos⟩
      · try dsimp only at hneg htx
        subst hneg
        have HFi9 := Lib.hid (fun (w : World) (x y : Value) (h : GmC w x y g9) (e : Env w) => impl_FormatGame h e.tabs.pow FOk.out)
        rw [htx] at HFi9
        have hq5 : (t.toList == t.toList) = true := by simp
        clear htx HSo
        obtain ⟨m0, m1⟩ := two BX8.out
        go_wp2_with fail
        refine (HFi9.out _ _ _ G8.out (HEn.out.below HB.out)).mono ?_
        rintro e wb ⟨rfl, k⟩
        replace HB := Lib.hid (HB.out.trans (k.mono HB.out.size))
        clear k
        go_wp2_with fail
        go_ret
        exact ⟨rfl, HB.out⟩
      · try dsimp only at hpos
        clear HSo
        have hd1 : decide (0 ≤ r9) = true := decide_eq_true hpos
        go_wp2_with fail
        go_ret
        exact ⟨rfl, HB.out⟩
    · rw [hpe] at hr
      clear HP
      obtain ⟨a5, c5, rfl, rfl, hin5⟩ := ResGm.reads_c hr
      have G5 := Lib.hid (show GmC w4 (.int .i64 (G0 : G).n) (.slice a5 (G0 : G).v.length c5) (G0 : G) from ⟨a5, c5, rfl, rfl, hin5⟩)
      rw [hpe]
      try dsimp only
      obtain ⟨n5, hn5⟩ : ∃ n5, (G0 : G).n = n5 := ⟨_, rfl⟩
      obtain ⟨l5, hl5⟩ : ∃ l5, (G0 : G).v.length = l5 := ⟨_, rfl⟩
      rw [hn5, hl5] at G5
      rw [hn5, hl5]
      clear hr hin5 hn5 hl5 hpe
      replace GA := Lib.hid (GA.out.up ((Below.refl _ _).alloc (Nat.le_refl _) (.cells #[.int .i64 n5, .slice a5 l5 c5] 26)))
      replace BX1 := Lib.hid (BX1.out.below ((Below.refl _ _).alloc (Nat.le_refl _) (.cells #[.int .i64 n5, .slice a5 l5 c5] 26)))
      replace G5 := Lib.hid (G5.out.up ((Below.refl _ _).alloc (Nat.le_refl _) (.cells #[.int .i64 n5, .slice a5 l5 c5] 26)))
      replace HB := Lib.hid (HB.out.alloc HB.out.size (.cells #[.int .i64 n5, .slice a5 l5 c5] 26))
      have BX5 := Lib.hid (CellsAt.new w4 #[.int .i64 n5, .slice a5 l5 c5] 26)
      obtain ⟨m0, m1⟩ := two BX1.out
      go_wp2_with fail
      clear m0 m1
      generalize hW5 : (w4.alloc (.cells #[.int .i64 n5, .slice a5 l5 c5] 26)) = w5 at *
      obtain ⟨q5, hq⟩ : ∃ q5, w4.heap.size = q5 := ⟨_, rfl⟩
      rw [hq] at BX5 ⊢
      clear hW5 hq
      refine (HFs.out _ _ _ GA.out).mono ?_
      rintro e w6 ⟨rfl, k⟩
      replace GA := Lib.hid (GA.out.up k)
      replace BX1 := Lib.hid (BX1.out.below k)
      replace G5 := Lib.hid (G5.out.up k)
      replace BX5 := Lib.hid (BX5.out.below k)
      replace HB := Lib.hid (HB.out.trans (k.mono HB.out.size))
      clear k
      clear HFs
      obtain ⟨m0, m1⟩ := two BX1.out
      go_wp2_with fail
      clear m0 m1
      refine (HVs.out false hv _ _ _ GA.out).mono ?_
      rintro e w6b ⟨rfl, k⟩
      replace GA := Lib.hid (GA.out.up k)
      replace BX1 := Lib.hid (BX1.out.below k)
      replace G5 := Lib.hid (G5.out.up k)
      replace BX5 := Lib.hid (BX5.out.below k)
      replace HB := Lib.hid (HB.out.trans (k.mono HB.out.size))
      clear k
      clear HVs hv
      go_wp2_with fail
      refine (spec_DrawParseGame a len cap _ (Hc.out.below HB.out |>.mono HB.out.size)).mono ?_
      rintro e w7 ⟨t, rfl, ht, k⟩
      replace HB := Lib.hid (HB.out.trans (k.mono HB.out.size))
      clear k
      have ht1 : t.size ≤ 1048576 := by omega
      have HPi2 := Lib.hid (fun (w : World) (e : Env w) => impl_ParseGame t ht1 w e)
      have HPs2 := Lib.hid (fun (w : World) => spec_ParseGame t ht1 w)
      have FOk := Lib.hid (parse_ok t)
      have HSo := Lib.hid (Gt.parse_sound t)
      obtain ⟨⟨g9, r9⟩, hR⟩ : ∃ R, Gt.parse t = R := ⟨_, rfl⟩
      rw [hR] at HPi2 HPs2 FOk HSo
      clear hR ht ht1
      have he9 : (r9 == r9) = true := by simp
      go_wp2_with fail
      refine (HPi2.out _ (HEn.out.below HB.out)).mono ?_
      rintro e w8 ⟨⟨x8, y8, rfl, hr8⟩, k⟩
      replace HB := Lib.hid (HB.out.trans (k.mono HB.out.size))
      clear k HPi2
      obtain ⟨a8, c8, rfl, rfl, hin8⟩ := ResGm.reads_c hr8
      have G8 := Lib.hid (show GmC w8 (.int .i64 g9.n) (.slice a8 g9.v.length c8) g9 from ⟨a8, c8, rfl, rfl, hin8⟩)
      clear hr8 hin8
      obtain ⟨n8, hn8⟩ : ∃ n8, g9.n = n8 := ⟨_, rfl⟩
      obtain ⟨l8, hl8⟩ : ∃ l8, g9.v.length = l8 := ⟨_, rfl⟩
      try dsimp only
      rw [hn8, hl8] at G8
      rw [hn8, hl8]
      clear hn8 hl8
      replace G8 := Lib.hid (G8.out.up ((Below.refl _ _).alloc (Nat.le_refl _) (.cells #[.int .i64 n8, .slice a8 l8 c8] 26)))
      replace HB := Lib.hid (HB.out.alloc HB.out.size (.cells #[.int .i64 n8, .slice a8 l8 c8] 26))
      have BX8 := Lib.hid (CellsAt.new w8 #[.int .i64 n8, .slice a8 l8 c8] 26)
      go_wp2_with fail
      generalize hW9 : (w8.alloc (.cells #[.int .i64 n8, .slice a8 l8 c8] 26)) = w9 at *
      obtain ⟨q8, hq⟩ : ∃ q8, w8.heap.size = q8 := ⟨_, rfl⟩
      rw [hq] at BX8 ⊢
      clear hW9 hq
      refine (HPs2.out _).mono ?_
      rintro e wa ⟨⟨xa, ya, rfl, hra⟩, k⟩
      replace G8 := Lib.hid (G8.out.up k)
      replace BX8 := Lib.hid (BX8.out.below k)
      replace HB := Lib.hid (HB.out.trans (k.mono HB.out.size))
      clear k
      clear HPs2
      obtain ⟨aa, ca, rfl, rfl, _⟩ := ResGm.reads_c hra
      clear hra
      try dsimp only
      obtain ⟨na, hna⟩ : ∃ na, g9.n = na := ⟨_, rfl⟩
      obtain ⟨la, hla⟩ : ∃ la, g9.v.length = la := ⟨_, rfl⟩
      rw [hna, hla]
      clear hna hla
      replace G8 := Lib.hid (G8.out.up ((Below.refl _ _).alloc (Nat.le_refl _) (.cells #[.int .i64 na, .slice aa la ca] 26)))
      replace BX8 := Lib.hid (BX8.out.below ((Below.refl _ _).alloc (Nat.le_refl _) (.cells #[.int .i64 na, .slice aa la ca] 26)))
      replace HB := Lib.hid (HB.out.alloc HB.out.size (.cells #[.int .i64 na, .slice aa la ca] 26))
      rcases HSo.out with ⟨hneg, htx⟩ | ⟨_, hpos⟩
      · try dsimp only at hneg htx
        subst hneg
        have HFi9 := Lib.hid (fun (w : World) (x y : Value) (h : GmC w x y g9) (e : Env w) => impl_FormatGame h e.tabs.pow FOk.out)
        rw [htx] at HFi9
        have hq5 : (t.toList == t.toList) = true := by simp
        clear htx HSo
        obtain ⟨m0, m1⟩ := two BX8.out
        go_wp2_with fail
        refine (HFi9.out _ _ _ G8.out (HEn.out.below HB.out)).mono ?_
        rintro e wb ⟨rfl, k⟩
        replace HB := Lib.hid (HB.out.trans (k.mono HB.out.size))
        clear k
        go_wp2_with fail
        go_ret
        exact ⟨rfl, HB.out⟩
      · try dsimp only at hpos
        clear HSo
        have hd1 : decide (0 ≤ r9) = true := decide_eq_true hpos
        go_wp2_with fail
        go_ret
        exact ⟨rfl, HB.out⟩
theorem fnGameText.walk (a : Option Addr) (len cap : Nat) (zs : List Int) (w : World) (h : IntsAt .u8 w.heap.size w a len zs) (he : Env w) :
    Calls Tryz.prog 3 #[.slice a len cap] w fun e w' => e = .returned (.bool true) ∧ Below w.heap.size w w' := fnGameText.walk0 a len cap w (code_of h) he
end Go.Proofs.YtambneapofaclaaGreatDoor
