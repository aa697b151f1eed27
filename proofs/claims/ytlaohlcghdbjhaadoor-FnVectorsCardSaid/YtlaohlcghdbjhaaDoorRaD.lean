/- Sums, differences, products, quotients of fractions on both sides: what each returns; what was there stays. -/
import Derived.Test.YtlaohlcghdbjhaaDoorRaC
import Derived.Test.YtlaohlcghdbjhaaDoorSince
namespace Go.Proofs.YtlaohlcghdbjhaaDoor
open Go.RowKit
theorem kept3 {w wx : World} {x0 x1 y0 y1 u0 u1 : Value} {t1 t2 t3 : TypeId} (hb : Below (((w.alloc (.cells #[x0, x1] t1)).alloc (.cells #[y0, y1] t2)).alloc (.cells #[u0, u1] t3)).heap.size (((w.alloc (.cells #[x0, x1] t1)).alloc (.cells #[y0, y1] t2)).alloc (.cells #[u0, u1] t3)) wx) :
    wx.cell? ⟨w.heap.size, 0, none⟩ = some x0 ∧ wx.cell? ⟨w.heap.size, 1, none⟩ = some x1 ∧ wx.cell? ⟨w.heap.size + 1, 0, none⟩ = some y0 ∧ wx.cell? ⟨w.heap.size + 1, 1, none⟩ = some y1 ∧
    wx.cell? ⟨w.heap.size + 2, 0, none⟩ = some u0 ∧ wx.cell? ⟨w.heap.size + 2, 1, none⟩ = some u1 ∧ wx.frozen? ⟨w.heap.size + 2, 0, none⟩ = false ∧ wx.frozen? ⟨w.heap.size + 2, 1, none⟩ = false ∧ w.heap.size + 2 < wx.heap.size := by
  have e : (((w.alloc (.cells #[x0, x1] t1)).alloc (.cells #[y0, y1] t2)).alloc (.cells #[u0, u1] t3)).heap = ((w.heap.push (.cells #[x0, x1] t1)).push (.cells #[y0, y1] t2)).push (.cells #[u0, u1] t3) := rfl
  have hz := hb.size
  have hk := hb.block
  rw [e] at hz hk
  simp only [Array.size_push] at hz hk
  have B0 : wx.heap[w.heap.size]? = some (.cells #[x0, x1] t1) := by rw [hk _ (by omega), Array.getElem?_push, if_neg (by simp only [Array.size_push]; omega), Array.getElem?_push, if_neg (by simp only [Array.size_push]; omega), Array.getElem?_push, if_pos rfl]
  have B1 : wx.heap[w.heap.size + 1]? = some (.cells #[y0, y1] t2) := by rw [hk _ (by omega), Array.getElem?_push, if_neg (by simp only [Array.size_push]; omega), Array.getElem?_push, if_pos (by simp only [Array.size_push])]
  have B2 : wx.heap[w.heap.size + 2]? = some (.cells #[u0, u1] t3) := by rw [hk _ (by omega), Array.getElem?_push, if_pos (by simp only [Array.size_push])]
  obtain ⟨a0, a1, -, -⟩ := cells2_of B0
  obtain ⟨b0, b1, -, -⟩ := cells2_of B1
  obtain ⟨c0, c1, f0, f1⟩ := cells2_of B2
  exact ⟨a0, a1, b0, b1, c0, c1, f0, f1, by omega⟩
theorem low3_set {w wx : World} {o1 o2 o3 : Obj} (hb : Below (((w.alloc o1).alloc o2).alloc o3).heap.size (((w.alloc o1).alloc o2).alloc o3) wx) (x y : Value) :
    Below w.heap.size w ((wx.setCell ⟨w.heap.size + 2, 0, none⟩ x).setCell ⟨w.heap.size + 2, 1, none⟩ y) :=
  ((((((Below.refl w.heap.size w).alloc (Nat.le_refl _) o1).alloc (by simp) o2).alloc (by simp; omega) o3).trans (hb.mono (by simp; omega))).setCell (p := ⟨w.heap.size + 2, 0, none⟩) (by simp) x).setCell (p := ⟨w.heap.size + 2, 1, none⟩) (by simp) y
set_option maxHeartbeats 1000000 in
theorem spec_AddRat (an ad bn bd : Int) (w : World) :
    Calls Tryd.prog 32 #[.agg #[.int .i64 an, .int .i64 ad], .agg #[.int .i64 bn, .int .i64 bd]] w fun e w' => e = .returned (.tuple #[.agg #[.int .i64 (Ra.opN (Ra.two an ad bn bd) (an * bd + bn * ad) (ad * bd)), .int .i64 (Ra.opD (Ra.two an ad bn bd) (an * bd + bn * ad) (ad * bd))], .bool (Ra.opK (Ra.two an ad bn bd) (an * bd + bn * ad) (ad * bd))]) ∧ Below w.heap.size w w' := by
  rcases h1 : Ra.vld an ad with _ | _
  · have e : Ra.two an ad bn bd = false := by unfold Ra.two; rw [h1]; rfl
    rw [e, (Ra.op_no _ _).1, (Ra.op_no _ _).2.1, (Ra.op_no _ _).2.2]
    have H1 := Lib.hid h1
    clear h1 e
    go_enter Tryd.func32, Tryd.ntmps32
    go_wp2_with fail
    refine (spec_IsValidRat an ad false H1.out _).mono ?_
    rintro e w1 ⟨rfl, hb1⟩
    have Hb := Lib.hid hb1
    obtain ⟨a0, a1, b0, b1, r0, r1, z0, z1, hz⟩ := kept3 hb1
    clear hb1
    go_wp2_with fail
    exact bodyPost_ret (v := .tuple #[.agg #[.int .i64 0, .int .i64 0], .bool false]) (by simp [results, Tryd.results32, go_sem, (pair_set r0 r1).1, (pair_set r0 r1).2]) rfl ⟨rfl, low3_set Hb.out _ _⟩
  · rcases h2 : Ra.vld bn bd with _ | _
    · have e : Ra.two an ad bn bd = false := by unfold Ra.two; rw [h2]; simp
      rw [e, (Ra.op_no _ _).1, (Ra.op_no _ _).2.1, (Ra.op_no _ _).2.2]
      have H1 := Lib.hid h1
      have H2 := Lib.hid h2
      clear h1 h2 e
      go_enter Tryd.func32, Tryd.ntmps32
      go_wp2_with fail
      refine (spec_IsValidRat an ad true H1.out _).mono ?_
      rintro e w1 ⟨rfl, hb1⟩
      have Hb := Lib.hid hb1
      obtain ⟨a0, a1, b0, b1, r0, r1, z0, z1, hz⟩ := kept3 hb1
      clear hb1
      go_wp2_with fail
      refine (spec_IsValidRat bn bd false H2.out _).mono ?_
      rintro e w2 ⟨rfl, hb2⟩
      have Hb2 := Lib.hid (Hb.out.trans (hb2.mono Hb.out.size))
      clear Hb a0 a1 b0 b1 r0 r1 z0 z1 hz hb2
      obtain ⟨a0, a1, b0, b1, r0, r1, z0, z1, hz⟩ := kept3 Hb2.out
      go_wp2_with fail
      exact bodyPost_ret (v := .tuple #[.agg #[.int .i64 0, .int .i64 0], .bool false]) (by simp [results, Tryd.results32, go_sem, (pair_set r0 r1).1, (pair_set r0 r1).2]) rfl ⟨rfl, low3_set Hb2.out _ _⟩
    · have e : Ra.two an ad bn bd = true := by unfold Ra.two; rw [h1, h2]; rfl
      rw [e, (Ra.op_yes _ _).1, (Ra.op_yes _ _).2.1, (Ra.op_yes _ _).2.2]
      obtain ⟨⟨p1, p2⟩, ⟨p3, p4⟩, ⟨p5, p6⟩, ⟨p7, p8⟩, ⟨p9, p10⟩⟩ := Ra.prods h1 h2
      have H1 := Lib.hid h1
      have H2 := Lib.hid h2
      clear h1 h2 e
      go_enter Tryd.func32, Tryd.ntmps32
      go_wp2_with fail
      refine (spec_IsValidRat an ad true H1.out _).mono ?_
      rintro e w1 ⟨rfl, hb1⟩
      have Hb := Lib.hid hb1
      obtain ⟨a0, a1, b0, b1, r0, r1, z0, z1, hz⟩ := kept3 hb1
      clear hb1
      go_wp2_with fail
      refine (spec_IsValidRat bn bd true H2.out _).mono ?_
      rintro e w2 ⟨rfl, hb2⟩
      have Hb2 := Lib.hid (Hb.out.trans (hb2.mono Hb.out.size))
      clear Hb a0 a1 b0 b1 r0 r1 z0 z1 hz hb2
      obtain ⟨a0, a1, b0, b1, r0, r1, z0, z1, hz⟩ := kept3 Hb2.out
      go_wp2_with fail
      refine (spec_RatOf (an * bd + bn * ad) (ad * bd) _).mono ?_
      rintro e w3 ⟨rfl, hb3⟩
      have Hb3 := Lib.hid (Hb2.out.trans (hb3.mono Hb2.out.size))
      clear Hb2 a0 a1 b0 b1 r0 r1 z0 z1 hz hb3
      obtain ⟨a0, a1, b0, b1, r0, r1, z0, z1, hz⟩ := kept3 Hb3.out
      go_wp2_with fail
      exact bodyPost_ret (v := .tuple #[.agg #[.int .i64 (Ra.rn (an * bd + bn * ad) (ad * bd)), .int .i64 (Ra.rd (an * bd + bn * ad) (ad * bd))], .bool (Ra.fits (an * bd + bn * ad) (ad * bd))]) (by simp [results, Tryd.results32, go_sem, (pair_set r0 r1).1, (pair_set r0 r1).2]) rfl ⟨rfl, low3_set Hb3.out _ _⟩
set_option maxHeartbeats 1000000 in
theorem spec_MulRat (an ad bn bd : Int) (w : World) :
    Calls Tryd.prog 31 #[.agg #[.int .i64 an, .int .i64 ad], .agg #[.int .i64 bn, .int .i64 bd]] w fun e w' => e = .returned (.tuple #[.agg #[.int .i64 (Ra.opN (Ra.two an ad bn bd) (an * bn) (ad * bd)), .int .i64 (Ra.opD (Ra.two an ad bn bd) (an * bn) (ad * bd))], .bool (Ra.opK (Ra.two an ad bn bd) (an * bn) (ad * bd))]) ∧ Below w.heap.size w w' := by
  rcases h1 : Ra.vld an ad with _ | _
  · have e : Ra.two an ad bn bd = false := by unfold Ra.two; rw [h1]; rfl
    rw [e, (Ra.op_no _ _).1, (Ra.op_no _ _).2.1, (Ra.op_no _ _).2.2]
    have H1 := Lib.hid h1
    clear h1 e
    go_enter Tryd.func31, Tryd.ntmps31
    go_wp2_with fail
    refine (spec_IsValidRat an ad false H1.out _).mono ?_
    rintro e w1 ⟨rfl, hb1⟩
    have Hb := Lib.hid hb1
    obtain ⟨a0, a1, b0, b1, r0, r1, z0, z1, hz⟩ := kept3 hb1
    clear hb1
    go_wp2_with fail
    exact bodyPost_ret (v := .tuple #[.agg #[.int .i64 0, .int .i64 0], .bool false]) (by simp [results, Tryd.results31, go_sem, (pair_set r0 r1).1, (pair_set r0 r1).2]) rfl ⟨rfl, low3_set Hb.out _ _⟩
  · rcases h2 : Ra.vld bn bd with _ | _
    · have e : Ra.two an ad bn bd = false := by unfold Ra.two; rw [h2]; simp
      rw [e, (Ra.op_no _ _).1, (Ra.op_no _ _).2.1, (Ra.op_no _ _).2.2]
      have H1 := Lib.hid h1
      have H2 := Lib.hid h2
      clear h1 h2 e
      go_enter Tryd.func31, Tryd.ntmps31
      go_wp2_with fail
      refine (spec_IsValidRat an ad true H1.out _).mono ?_
      rintro e w1 ⟨rfl, hb1⟩
      have Hb := Lib.hid hb1
      obtain ⟨a0, a1, b0, b1, r0, r1, z0, z1, hz⟩ := kept3 hb1
      clear hb1
      go_wp2_with fail
      refine (spec_IsValidRat bn bd false H2.out _).mono ?_
      rintro e w2 ⟨rfl, hb2⟩
      have Hb2 := Lib.hid (Hb.out.trans (hb2.mono Hb.out.size))
      clear Hb a0 a1 b0 b1 r0 r1 z0 z1 hz hb2
      obtain ⟨a0, a1, b0, b1, r0, r1, z0, z1, hz⟩ := kept3 Hb2.out
      go_wp2_with fail
      exact bodyPost_ret (v := .tuple #[.agg #[.int .i64 0, .int .i64 0], .bool false]) (by simp [results, Tryd.results31, go_sem, (pair_set r0 r1).1, (pair_set r0 r1).2]) rfl ⟨rfl, low3_set Hb2.out _ _⟩
    · have e : Ra.two an ad bn bd = true := by unfold Ra.two; rw [h1, h2]; rfl
      rw [e, (Ra.op_yes _ _).1, (Ra.op_yes _ _).2.1, (Ra.op_yes _ _).2.2]
      obtain ⟨⟨p1, p2⟩, ⟨p3, p4⟩, ⟨p5, p6⟩, ⟨p7, p8⟩, ⟨p9, p10⟩⟩ := Ra.prods h1 h2
      have H1 := Lib.hid h1
      have H2 := Lib.hid h2
      clear h1 h2 e
      go_enter Tryd.func31, Tryd.ntmps31
      go_wp2_with fail
      refine (spec_IsValidRat an ad true H1.out _).mono ?_
      rintro e w1 ⟨rfl, hb1⟩
      have Hb := Lib.hid hb1
      obtain ⟨a0, a1, b0, b1, r0, r1, z0, z1, hz⟩ := kept3 hb1
      clear hb1
      go_wp2_with fail
      refine (spec_IsValidRat bn bd true H2.out _).mono ?_
      rintro e w2 ⟨rfl, hb2⟩
      have Hb2 := Lib.hid (Hb.out.trans (hb2.mono Hb.out.size))
      clear Hb a0 a1 b0 b1 r0 r1 z0 z1 hz hb2
      obtain ⟨a0, a1, b0, b1, r0, r1, z0, z1, hz⟩ := kept3 Hb2.out
      go_wp2_with fail
      refine (spec_RatOf (an * bn) (ad * bd) _).mono ?_
      rintro e w3 ⟨rfl, hb3⟩
      have Hb3 := Lib.hid (Hb2.out.trans (hb3.mono Hb2.out.size))
      clear Hb2 a0 a1 b0 b1 r0 r1 z0 z1 hz hb3
      obtain ⟨a0, a1, b0, b1, r0, r1, z0, z1, hz⟩ := kept3 Hb3.out
      go_wp2_with fail
      exact bodyPost_ret (v := .tuple #[.agg #[.int .i64 (Ra.rn (an * bn) (ad * bd)), .int .i64 (Ra.rd (an * bn) (ad * bd))], .bool (Ra.fits (an * bn) (ad * bd))]) (by simp [results, Tryd.results31, go_sem, (pair_set r0 r1).1, (pair_set r0 r1).2]) rfl ⟨rfl, low3_set Hb3.out _ _⟩
end Go.Proofs.YtlaohlcghdbjhaaDoor
