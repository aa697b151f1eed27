/- SubRat of the specification, CompareRat, FloorRat, IsInteger on both sides: what each returns; what was there stays. -/
import Derived.Test.YtheggkeoheneiaaRaE
namespace Go.Proofs.Ytheggkeoheneiaa
open Go.RowKit
theorem low3 {w wx : World} {o1 o2 o3 : Obj} (hb : Below (((w.alloc o1).alloc o2).alloc o3).heap.size (((w.alloc o1).alloc o2).alloc o3) wx) : Below w.heap.size w wx :=
  ((((Below.refl w.heap.size w).alloc (Nat.le_refl _) o1).alloc (by simp) o2).alloc (by simp; omega) o3).trans (hb.mono (by simp; omega))
theorem free3 {w wx : World} {x0 x1 y0 y1 u0 u1 : Value} {t1 t2 t3 : TypeId} (hb : Below (((w.alloc (.cells #[x0, x1] t1)).alloc (.cells #[y0, y1] t2)).alloc (.cells #[u0, u1] t3)).heap.size (((w.alloc (.cells #[x0, x1] t1)).alloc (.cells #[y0, y1] t2)).alloc (.cells #[u0, u1] t3)) wx) :
    wx.frozen? ⟨w.heap.size + 1, 0, none⟩ = false := by
  have e : (((w.alloc (.cells #[x0, x1] t1)).alloc (.cells #[y0, y1] t2)).alloc (.cells #[u0, u1] t3)).heap = ((w.heap.push (.cells #[x0, x1] t1)).push (.cells #[y0, y1] t2)).push (.cells #[u0, u1] t3) := rfl
  have hk := hb.block
  rw [e] at hk
  simp only [Array.size_push] at hk
  have B1 : wx.heap[w.heap.size + 1]? = some (.cells #[y0, y1] t2) := by rw [hk _ (by omega), Array.getElem?_push, if_neg (by simp only [Array.size_push]; omega), Array.getElem?_push, if_pos (by simp only [Array.size_push])]
  exact (cells2_of B1).2.2.1
theorem low2 {w wx : World} {o1 o2 : Obj} (hb : Below ((w.alloc o1).alloc o2).heap.size ((w.alloc o1).alloc o2) wx) : Below w.heap.size w wx :=
  (((Below.refl w.heap.size w).alloc (Nat.le_refl _) o1).alloc (by simp) o2).trans (hb.mono (by simp; omega))
theorem low1 {w wx : World} {o1 : Obj} (hb : Below (w.alloc o1).heap.size (w.alloc o1) wx) : Below w.heap.size w wx :=
  ((Below.refl w.heap.size w).alloc (Nat.le_refl _) o1).trans (hb.mono (by simp))
theorem kept2 {w wx : World} {x0 x1 y0 y1 : Value} {t1 t2 : TypeId} (hb : Below ((w.alloc (.cells #[x0, x1] t1)).alloc (.cells #[y0, y1] t2)).heap.size ((w.alloc (.cells #[x0, x1] t1)).alloc (.cells #[y0, y1] t2)) wx) :
    wx.cell? ⟨w.heap.size, 0, none⟩ = some x0 ∧ wx.cell? ⟨w.heap.size, 1, none⟩ = some x1 ∧ wx.cell? ⟨w.heap.size + 1, 0, none⟩ = some y0 ∧ wx.cell? ⟨w.heap.size + 1, 1, none⟩ = some y1 ∧ w.heap.size + 1 < wx.heap.size := by
  have e : ((w.alloc (.cells #[x0, x1] t1)).alloc (.cells #[y0, y1] t2)).heap = (w.heap.push (.cells #[x0, x1] t1)).push (.cells #[y0, y1] t2) := rfl
  have hz := hb.size
  have hk := hb.block
  rw [e] at hz hk
  simp only [Array.size_push] at hz hk
  have B0 : wx.heap[w.heap.size]? = some (.cells #[x0, x1] t1) := by rw [hk _ (by omega), Array.getElem?_push, if_neg (by simp only [Array.size_push]; omega), Array.getElem?_push, if_pos rfl]
  have B1 : wx.heap[w.heap.size + 1]? = some (.cells #[y0, y1] t2) := by rw [hk _ (by omega), Array.getElem?_push, if_pos (by simp only [Array.size_push])]
  obtain ⟨a0, a1, -, -⟩ := cells2_of B0
  obtain ⟨b0, b1, -, -⟩ := cells2_of B1
  exact ⟨a0, a1, b0, b1, by omega⟩
theorem kept1 {w wx : World} {x0 x1 : Value} {t1 : TypeId} (hb : Below (w.alloc (.cells #[x0, x1] t1)).heap.size (w.alloc (.cells #[x0, x1] t1)) wx) :
    wx.cell? ⟨w.heap.size, 0, none⟩ = some x0 ∧ wx.cell? ⟨w.heap.size, 1, none⟩ = some x1 ∧ w.heap.size < wx.heap.size := by
  have e : (w.alloc (.cells #[x0, x1] t1)).heap = w.heap.push (.cells #[x0, x1] t1) := rfl
  have hz := hb.size
  have hk := hb.block
  rw [e] at hz hk
  simp only [Array.size_push] at hz hk
  have B0 : wx.heap[w.heap.size]? = some (.cells #[x0, x1] t1) := by rw [hk _ (by omega), Array.getElem?_push, if_pos rfl]
  obtain ⟨a0, a1, -, -⟩ := cells2_of B0
  exact ⟨a0, a1, by omega⟩
set_option maxHeartbeats 1000000 in
theorem spec_SubRat (an ad bn bd : Int) (w : World) :
    Calls Try.prog 29 #[.agg #[.int .i64 an, .int .i64 ad], .agg #[.int .i64 bn, .int .i64 bd]] w fun e w' => e = .returned (.tuple #[.agg #[.int .i64 (Ra.opN (Ra.two an ad bn bd) (an * bd - bn * ad) (ad * bd)), .int .i64 (Ra.opD (Ra.two an ad bn bd) (an * bd - bn * ad) (ad * bd))], .bool (Ra.opK (Ra.two an ad bn bd) (an * bd - bn * ad) (ad * bd))]) ∧ Below w.heap.size w w' := by
  rcases h2 : Ra.vld bn bd with _ | _
  · have e : Ra.two an ad bn bd = false := by unfold Ra.two; rw [h2]; simp
    rw [e, (Ra.op_no _ _).1, (Ra.op_no _ _).2.1, (Ra.op_no _ _).2.2]
    have H2 := Lib.hid h2
    clear h2 e
    go_enter Try.func29, Try.ntmps29
    go_wp2_with fail
    refine (spec_IsValidRat bn bd false H2.out _).mono ?_
    rintro e w1 ⟨rfl, hb1⟩
    have Hb := Lib.hid hb1
    obtain ⟨a0, a1, b0, b1, r0, r1, z0, z1, hz⟩ := kept3 hb1
    clear hb1
    go_wp2_with fail
    exact bodyPost_ret (v := .tuple #[.agg #[.int .i64 0, .int .i64 0], .bool false]) (by simp [results, Try.results29, go_sem, (pair_set r0 r1).1, (pair_set r0 r1).2]) rfl ⟨rfl, low3_set Hb.out _ _⟩
  · have v := Ra.vld_yes h2
    have n0 := v.2.2.1
    have n1 := v.2.2.2.1
    have hc : ∀ w : World, Calls Try.prog 16 #[.agg #[.int .i64 an, .int .i64 ad], .agg #[.int .i64 (-bn), .int .i64 bd]] w fun e w' => e = .returned (.tuple #[.agg #[.int .i64 (Ra.opN (Ra.two an ad bn bd) (an * bd - bn * ad) (ad * bd)), .int .i64 (Ra.opD (Ra.two an ad bn bd) (an * bd - bn * ad) (ad * bd))], .bool (Ra.opK (Ra.two an ad bn bd) (an * bd - bn * ad) (ad * bd))]) ∧ Below w.heap.size w w' := fun w => by
      have := spec_AddRat an ad (-bn) bd w
      rw [Ra.two_neg, show an * bd + -bn * ad = an * bd - bn * ad by grind] at this
      exact this
    generalize Ra.opN (Ra.two an ad bn bd) (an * bd - bn * ad) (ad * bd) = N at *
    generalize Ra.opD (Ra.two an ad bn bd) (an * bd - bn * ad) (ad * bd) = D at *
    generalize Ra.opK (Ra.two an ad bn bd) (an * bd - bn * ad) (ad * bd) = k at *
    have H2 := Lib.hid h2
    have Hc := Lib.hid hc
    clear h2 v hc
    go_enter Try.func29, Try.ntmps29
    go_wp2_with fail
    refine (spec_IsValidRat bn bd true H2.out _).mono ?_
    rintro e w1 ⟨rfl, hb1⟩
    have Hb := Lib.hid hb1
    obtain ⟨a0, a1, b0, b1, r0, r1, z0, z1, hz⟩ := kept3 hb1
    have zb := free3 hb1
    clear hb1
    go_wp2_with fail
    refine (Hc.out _).mono ?_
    rintro e w2 ⟨rfl, hb2⟩
    have hsz : (w1.setCell ⟨w.heap.size + 1, 0, none⟩ (.int .i64 (-bn))).heap.size = w1.heap.size := by simp [World.setCell]
    have Hb2 := Lib.hid (((low3 Hb.out).setCell (p := ⟨w.heap.size + 1, 0, none⟩) (by simp) (.int .i64 (-bn))).trans (hb2.mono (by rw [hsz]; omega)))
    have s0 : w2.cell? ⟨w.heap.size + 2, 0, none⟩ = some (.int .i64 0) := by
      rw [hb2.cell (p := ⟨w.heap.size + 2, 0, none⟩) (by rw [hsz]; exact hz), World.cell?_setCell_other _ _ _ _ (by simp)]; exact r0
    have s1 : w2.cell? ⟨w.heap.size + 2, 1, none⟩ = some (.int .i64 0) := by
      rw [hb2.cell (p := ⟨w.heap.size + 2, 1, none⟩) (by rw [hsz]; exact hz), World.cell?_setCell_other _ _ _ _ (by simp)]; exact r1
    have y0 : w2.frozen? ⟨w.heap.size + 2, 0, none⟩ = false := by
      rw [hb2.frozen (p := ⟨w.heap.size + 2, 0, none⟩) (by rw [hsz]; exact hz), World.frozen?_setCell]; exact z0
    have y1 : w2.frozen? ⟨w.heap.size + 2, 1, none⟩ = false := by
      rw [hb2.frozen (p := ⟨w.heap.size + 2, 1, none⟩) (by rw [hsz]; exact hz), World.frozen?_setCell]; exact z1
    clear a0 a1 b0 b1 r0 r1 z0 z1 zb hb2 hsz
    go_wp2_with fail
    exact bodyPost_ret (v := .tuple #[.agg #[.int .i64 N, .int .i64 D], .bool k]) (by simp [results, Try.results29, go_sem, (pair_set s0 s1).1, (pair_set s0 s1).2]) rfl ⟨rfl, (Hb2.out.setCell (p := ⟨w.heap.size + 2, 0, none⟩) (by simp) _).setCell (p := ⟨w.heap.size + 2, 1, none⟩) (by simp) _⟩
theorem spec_CompareRat (an ad bn bd : Int) (w : World) :
    Calls Try.prog 21 #[.agg #[.int .i64 an, .int .i64 ad], .agg #[.int .i64 bn, .int .i64 bd]] w fun e w' => e = .returned (.int .i64 (Ra.cmp an ad bn bd)) ∧ Below w.heap.size w w' := by
  rcases h1 : Ra.vld an ad with _ | _
  · have e : Ra.two an ad bn bd = false := by unfold Ra.two; rw [h1]; rfl
    rw [Ra.cmp_no e]
    have H1 := Lib.hid h1
    clear h1 e
    go_enter Try.func21, Try.ntmps21
    go_wp2_with fail
    refine (spec_IsValidRat an ad false H1.out _).mono ?_
    rintro e w1 ⟨rfl, hb1⟩
    have Hb := Lib.hid (low2 hb1)
    clear hb1
    go_wp2_with fail
    go_ret
    exact ⟨rfl, Hb.out⟩
  · rcases h2 : Ra.vld bn bd with _ | _
    · have e : Ra.two an ad bn bd = false := by unfold Ra.two; rw [h2]; simp
      rw [Ra.cmp_no e]
      have H1 := Lib.hid h1
      have H2 := Lib.hid h2
      clear h1 h2 e
      go_enter Try.func21, Try.ntmps21
      go_wp2_with fail
      refine (spec_IsValidRat an ad true H1.out _).mono ?_
      rintro e w1 ⟨rfl, hb1⟩
      have Hb := Lib.hid (low2 hb1)
      obtain ⟨a0, a1, b0, b1, hz⟩ := kept2 hb1
      clear hb1
      go_wp2_with fail
      refine (spec_IsValidRat bn bd false H2.out _).mono ?_
      rintro e w2 ⟨rfl, hb2⟩
      have Hb2 := Lib.hid (Hb.out.trans (hb2.mono Hb.out.size))
      clear hb2
      go_wp2_with fail
      go_ret
      exact ⟨rfl, Hb2.out⟩
    · have e : Ra.two an ad bn bd = true := by unfold Ra.two; rw [h1, h2]; rfl
      obtain ⟨⟨p1, p2⟩, ⟨p3, p4⟩, ⟨p5, p6⟩, ⟨p7, p8⟩, ⟨p9, p10⟩⟩ := Ra.prods h1 h2
      have H1 := Lib.hid h1
      have H2 := Lib.hid h2
      have key : ∃ r : Int, Hid (Ra.cmp an ad bn bd = r) ∧ ((decide (an * bd < bn * ad) = true ∧ r = -1) ∨ (decide (an * bd < bn * ad) = false ∧ decide (bn * ad < an * bd) = true ∧ r = 1) ∨ (decide (an * bd < bn * ad) = false ∧ decide (bn * ad < an * bd) = false ∧ r = 0)) := by
        rcases Int.lt_trichotomy (an * bd) (bn * ad) with h | h | h
        · exact ⟨-1, Ra.cmp_lt e h, .inl ⟨by rw [decide_eq_true_iff]; exact h, rfl⟩⟩
        · exact ⟨0, Ra.cmp_eq h, .inr (.inr ⟨by rw [decide_eq_false_iff_not]; omega, by rw [decide_eq_false_iff_not]; omega, rfl⟩)⟩
        · exact ⟨1, Ra.cmp_gt e h, .inr (.inl ⟨by rw [decide_eq_false_iff_not]; omega, by rw [decide_eq_true_iff]; exact h, rfl⟩)⟩
      clear h1 h2 e
      obtain ⟨r, Hr, ⟨k1, rfl⟩ | ⟨k1, k2, rfl⟩ | ⟨k1, k2, rfl⟩⟩ := key
      all_goals
        go_enter Try.func21, Try.ntmps21
        go_wp2_with fail
        refine (spec_IsValidRat an ad true H1.out _).mono ?_
        rintro e w1 ⟨rfl, hb1⟩
        have Hb := Lib.hid hb1
        obtain ⟨a0, a1, b0, b1, hz⟩ := kept2 hb1
        clear hb1
        go_wp2_with fail
        refine (spec_IsValidRat bn bd true H2.out _).mono ?_
        rintro e w2 ⟨rfl, hb2⟩
        have Hb2 := Lib.hid (Hb.out.trans (hb2.mono Hb.out.size))
        clear Hb a0 a1 b0 b1 hz hb2
        obtain ⟨a0, a1, b0, b1, hz⟩ := kept2 Hb2.out
        go_wp2_with fail
        go_ret
        exact ⟨ret_int Hr.out.symm, low2 Hb2.out⟩
theorem impl_CompareRat (an ad bn bd : Int) (w : World) :
    Calls Try.prog 20 #[.agg #[.int .i64 an, .int .i64 ad], .agg #[.int .i64 bn, .int .i64 bd]] w fun e w' => e = .returned (.int .i64 (Ra.cmp an ad bn bd)) ∧ Below w.heap.size w w' := by
  have he := eq_rat
  have hg := eqg_rat
  rcases h0 : (an == bn && ad == bd) with _ | _
  · rcases h : Ra.two an ad bn bd with _ | _
    · rw [Ra.cmp_no h]
      have H := Lib.hid h
      clear h
      go_enter Try.func20, Try.ntmps20
      go_wp2_with fail
      refine (impl_areValidRats an ad bn bd false H.out _).mono ?_
      rintro e w1 ⟨rfl, hb1⟩
      have Hb := Lib.hid (low2 hb1)
      clear hb1
      go_wp2_with fail
      go_ret
      exact ⟨rfl, Hb.out⟩
    · obtain ⟨h1, h2⟩ := Ra.two_yes h
      obtain ⟨⟨p1, p2⟩, ⟨p3, p4⟩, ⟨p5, p6⟩, ⟨p7, p8⟩, ⟨p9, p10⟩⟩ := Ra.prods h1 h2
      have key : ∃ r : Int, Hid (Ra.cmp an ad bn bd = r) ∧ ((decide (an * bd < bn * ad) = true ∧ r = -1) ∨ (decide (an * bd < bn * ad) = false ∧ r = 1)) := by
        rcases Int.lt_trichotomy (an * bd) (bn * ad) with h3 | h3 | h3
        · exact ⟨-1, Ra.cmp_lt h h3, .inl ⟨by rw [decide_eq_true_iff]; exact h3, rfl⟩⟩
        · exfalso
          obtain ⟨c1, c2⟩ := Ra.canon h1 h2 h3
          rw [c1, c2] at h0
          simp at h0
        · exact ⟨1, Ra.cmp_gt h h3, .inr ⟨by rw [decide_eq_false_iff_not]; omega, rfl⟩⟩
      have H := Lib.hid h
      clear h h1 h2
      obtain ⟨r, Hr, ⟨k1, rfl⟩ | ⟨k1, rfl⟩⟩ := key
      all_goals
        go_enter Try.func20, Try.ntmps20
        go_wp2_with fail
        refine (impl_areValidRats an ad bn bd true H.out _).mono ?_
        rintro e w1 ⟨rfl, hb1⟩
        have Hb := Lib.hid (low2 hb1)
        obtain ⟨a0, a1, b0, b1, hz⟩ := kept2 hb1
        clear hb1
        go_wp2_with fail
        go_ret
        exact ⟨ret_int Hr.out.symm, Hb.out⟩
  · have e : Ra.cmp an ad bn bd = 0 := by
      simp only [Bool.and_eq_true, beq_iff_eq] at h0
      rw [h0.1, h0.2]; exact Ra.cmp_eq rfl
    rw [e]
    clear e
    go_enter Try.func20, Try.ntmps20
    go_wp2_with fail
    go_ret
    exact ⟨rfl, by (repeat' (first | exact Below.refl _ _ | exact Nat.le_refl _ | refine Below.setCell ?_ ?_ _ | refine Below.alloc ?_ ?_ _ | refine below_drewN ?_ _ | refine Below.drew ?_ | (simp; done) | (simp; omega)))⟩
theorem flo_key (n d : Int) (h : Ra.vld n d = true) : -1000000000 ≤ n.tdiv d ∧ n.tdiv d ≤ 1000000000 ∧ 1 ≤ d ∧ ((decide (n.tmod d < 0) = true ∧ n.tdiv d - 1 = Ra.flo n d) ∨ (decide (n.tmod d < 0) = false ∧ n.tdiv d = Ra.flo n d)) := by
  have v := Ra.vld_yes h
  have hb := Ra.tdiv_bd n d
  refine ⟨by omega, by omega, v.1, ?_⟩
  rw [Ra.flo_yes h]
  by_cases hm : n.tmod d < 0
  · exact .inl ⟨by rw [decide_eq_true_iff]; exact hm, Ra.floor_neg v.1 hm⟩
  · exact .inr ⟨by rw [decide_eq_false_iff_not]; exact hm, Ra.floor_pos v.1 hm⟩
theorem spec_FloorRat (n d : Int) (w : World) : Calls Try.prog 32 #[.agg #[.int .i64 n, .int .i64 d]] w fun e w' => e = .returned (.int .i64 (Ra.flo n d)) ∧ Below w.heap.size w w' := by
  rcases h : Ra.vld n d with _ | _
  · rw [Ra.flo_no h]
    have H := Lib.hid h
    clear h
    go_enter Try.func32, Try.ntmps32
    go_wp2_with fail
    refine (spec_IsValidRat n d false H.out _).mono ?_
    rintro e w1 ⟨rfl, hb1⟩
    have Hb := Lib.hid (low1 hb1)
    clear hb1
    go_wp2_with fail
    go_ret
    exact ⟨rfl, Hb.out⟩
  · obtain ⟨q1, q2, q3, key⟩ := flo_key n d h
    have v := Ra.vld_yes h
    have v1 := v.2.2.1
    have v2 := v.2.2.2.1
    have H := Lib.hid h
    clear h v
    obtain ⟨k1, k2⟩ | ⟨k1, k2⟩ := key
    all_goals
      have K2 := Lib.hid k2
      clear k2
      go_enter Try.func32, Try.ntmps32
      go_wp2_with fail
      refine (spec_IsValidRat n d true H.out _).mono ?_
      rintro e w1 ⟨rfl, hb1⟩
      have Hb := Lib.hid (low1 hb1)
      obtain ⟨a0, a1, hz⟩ := kept1 hb1
      clear hb1
      go_wp2_with fail
      go_ret
      exact ⟨ret_int K2.out, Hb.out⟩
theorem spec_IsInteger (n d : Int) (w : World) : Calls Try.prog 34 #[.agg #[.int .i64 n, .int .i64 d]] w fun e w' => e = .returned (.bool (Ra.vld n d && d == 1)) ∧ Below w.heap.size w w' := by
  rcases h : Ra.vld n d with _ | _
  · have H := Lib.hid h
    clear h
    go_enter Try.func34, Try.ntmps34
    go_wp2_with fail
    refine (spec_IsValidRat n d false H.out _).mono ?_
    rintro e w1 ⟨rfl, hb1⟩
    have Hb := Lib.hid (low1 hb1)
    clear hb1
    go_wp2_with fail
    go_ret
    exact ⟨ret_bool (by simp), Hb.out⟩
  · have H := Lib.hid h
    clear h
    go_enter Try.func34, Try.ntmps34
    go_wp2_with fail
    refine (spec_IsValidRat n d true H.out _).mono ?_
    rintro e w1 ⟨rfl, hb1⟩
    have Hb := Lib.hid (low1 hb1)
    obtain ⟨a0, a1, hz⟩ := kept1 hb1
    clear hb1
    go_wp2_with fail
    go_ret
    exact ⟨ret_bool (by simp), Hb.out⟩
theorem impl_FloorRat (n d : Int) (w : World) : Calls Try.prog 33 #[.agg #[.int .i64 n, .int .i64 d]] w fun e w' => e = .returned (.int .i64 (Ra.flo n d)) ∧ Below w.heap.size w w' := by
  rcases h : Ra.vld n d with _ | _
  · rw [Ra.flo_no h]
    have H := Lib.hid h
    clear h
    go_enter Try.func33, Try.ntmps33
    go_wp2_with fail
    refine (impl_IsValidRat n d false H.out _).mono ?_
    rintro e w1 ⟨rfl, hb1⟩
    have Hb := Lib.hid (low1 hb1)
    clear hb1
    go_wp2_with fail
    go_ret
    exact ⟨rfl, Hb.out⟩
  · obtain ⟨q1, q2, q3, key⟩ := flo_key n d h
    have v := Ra.vld_yes h
    have v1 := v.2.2.1
    have v2 := v.2.2.2.1
    have H := Lib.hid h
    clear h v
    obtain ⟨k1, k2⟩ | ⟨k1, k2⟩ := key
    all_goals
      have K2 := Lib.hid k2
      clear k2
      go_enter Try.func33, Try.ntmps33
      go_wp2_with fail
      refine (impl_IsValidRat n d true H.out _).mono ?_
      rintro e w1 ⟨rfl, hb1⟩
      have Hb := Lib.hid (low1 hb1)
      obtain ⟨a0, a1, hz⟩ := kept1 hb1
      clear hb1
      go_wp2_with fail
      go_ret
      exact ⟨ret_int K2.out, Hb.out⟩
theorem impl_IsInteger (n d : Int) (w : World) : Calls Try.prog 35 #[.agg #[.int .i64 n, .int .i64 d]] w fun e w' => e = .returned (.bool (Ra.vld n d && d == 1)) ∧ Below w.heap.size w w' := by
  rcases h : Ra.vld n d with _ | _
  · have H := Lib.hid h
    clear h
    go_enter Try.func35, Try.ntmps35
    go_wp2_with fail
    refine (impl_IsValidRat n d false H.out _).mono ?_
    rintro e w1 ⟨rfl, hb1⟩
    have Hb := Lib.hid (low1 hb1)
    clear hb1
    go_wp2_with fail
    go_ret
    exact ⟨ret_bool (by simp), Hb.out⟩
  · have H := Lib.hid h
    clear h
    go_enter Try.func35, Try.ntmps35
    go_wp2_with fail
    refine (impl_IsValidRat n d true H.out _).mono ?_
    rintro e w1 ⟨rfl, hb1⟩
    have Hb := Lib.hid (low1 hb1)
    obtain ⟨a0, a1, hz⟩ := kept1 hb1
    clear hb1
    go_wp2_with fail
    go_ret
    exact ⟨ret_bool (by simp), Hb.out⟩
end Go.Proofs.Ytheggkeoheneiaa
