/- impl's sums, differences, products, quotients of fractions: what each returns; what was there stays. -/
import Derived.Test.YtlaohlcghdbjhaaDoorRaD
namespace Go.Proofs.YtlaohlcghdbjhaaDoor
open Go.RowKit
theorem impl_areValidRats (an ad bn bd : Int) (b : Bool) (h : Ra.two an ad bn bd = b) (w : World) :
    Calls Tryd.prog 35 #[.agg #[.int .i64 an, .int .i64 ad], .agg #[.int .i64 bn, .int .i64 bd]] w fun e w' => e = .returned (.bool b) ∧ Below w.heap.size w w' := by
  rcases h1 : Ra.vld an ad with _ | _
  · have H := Lib.hid (show false = b by rw [← h]; unfold Ra.two; rw [h1]; rfl)
    have H1 := Lib.hid h1
    clear h h1
    go_enter Tryd.func35, Tryd.ntmps35
    go_wp2_with fail
    refine (impl_IsValidRat an ad false H1.out _).mono ?_
    rintro e w1 ⟨rfl, hb1⟩
    have Hb := Lib.hid hb1
    clear hb1
    go_wp2_with fail
    go_ret
    exact ⟨ret_bool H.out, (((Below.refl w.heap.size w).alloc (Nat.le_refl _) _).alloc (by simp) _).trans (Hb.out.mono (by simp; omega))⟩
  · have H := Lib.hid (show Ra.vld bn bd = b by rw [← h]; unfold Ra.two; rw [h1]; rfl)
    have H1 := Lib.hid h1
    clear h h1
    go_enter Tryd.func35, Tryd.ntmps35
    go_wp2_with fail
    refine (impl_IsValidRat an ad true H1.out _).mono ?_
    rintro e w1 ⟨rfl, hb1⟩
    have b0 := cell_after hb1 (p := ⟨w.heap.size + 1, 0, none⟩) (v := .int .i64 bn) (by simp) (by simp)
    have b1 := cell_after hb1 (p := ⟨w.heap.size + 1, 1, none⟩) (v := .int .i64 bd) (by simp) (by simp)
    have Hb := Lib.hid ((((Below.refl w.heap.size w).alloc (Nat.le_refl _) _).alloc (by simp) _).trans (hb1.mono (by simp; omega)))
    clear hb1
    go_wp2_with fail
    refine (impl_IsValidRat bn bd b H.out _).mono ?_
    rintro e w2 ⟨rfl, hb2⟩
    have Hb2 := Lib.hid (Hb.out.trans (hb2.mono Hb.out.size))
    clear hb2
    go_wp2_with fail
    go_ret
    exact ⟨rfl, Hb2.out⟩
set_option maxHeartbeats 1000000 in
theorem impl_AddRat (an ad bn bd : Int) (w : World) :
    Calls Tryd.prog 12 #[.agg #[.int .i64 an, .int .i64 ad], .agg #[.int .i64 bn, .int .i64 bd]] w fun e w' => e = .returned (.tuple #[.agg #[.int .i64 (Ra.opN (Ra.two an ad bn bd) (an * bd + bn * ad) (ad * bd)), .int .i64 (Ra.opD (Ra.two an ad bn bd) (an * bd + bn * ad) (ad * bd))], .bool (Ra.opK (Ra.two an ad bn bd) (an * bd + bn * ad) (ad * bd))]) ∧ Below w.heap.size w w' := by
  rcases h : Ra.two an ad bn bd with _ | _
  · rw [(Ra.op_no _ _).1, (Ra.op_no _ _).2.1, (Ra.op_no _ _).2.2]
    have H := Lib.hid h
    clear h
    go_enter Tryd.func12, Tryd.ntmps12
    go_wp2_with fail
    refine (impl_areValidRats an ad bn bd false H.out _).mono ?_
    rintro e w1 ⟨rfl, hb1⟩
    have Hb := Lib.hid hb1
    obtain ⟨a0, a1, b0, b1, r0, r1, z0, z1, hz⟩ := kept3 hb1
    clear hb1
    go_wp2_with fail
    exact bodyPost_ret (v := .tuple #[.agg #[.int .i64 0, .int .i64 0], .bool false]) (by simp [results, Tryd.results12, go_sem, (pair_set r0 r1).1, (pair_set r0 r1).2]) rfl ⟨rfl, low3_set Hb.out _ _⟩
  · have hv := h
    unfold Ra.two at hv
    rw [Bool.and_eq_true] at hv
    rw [(Ra.op_yes _ _).1, (Ra.op_yes _ _).2.1, (Ra.op_yes _ _).2.2]
    obtain ⟨⟨p1, p2⟩, ⟨p3, p4⟩, ⟨p5, p6⟩, ⟨p7, p8⟩, ⟨p9, p10⟩⟩ := Ra.prods hv.1 hv.2
    have H := Lib.hid h
    clear h hv
    go_enter Tryd.func12, Tryd.ntmps12
    go_wp2_with fail
    refine (impl_areValidRats an ad bn bd true H.out _).mono ?_
    rintro e w1 ⟨rfl, hb1⟩
    have Hb := Lib.hid hb1
    obtain ⟨a0, a1, b0, b1, r0, r1, z0, z1, hz⟩ := kept3 hb1
    clear hb1
    go_wp2_with fail
    refine (impl_RatOf (an * bd + bn * ad) (ad * bd) _).mono ?_
    rintro e w3 ⟨rfl, hb3⟩
    have Hb3 := Lib.hid (Hb.out.trans (hb3.mono Hb.out.size))
    clear Hb a0 a1 b0 b1 r0 r1 z0 z1 hz hb3
    obtain ⟨a0, a1, b0, b1, r0, r1, z0, z1, hz⟩ := kept3 Hb3.out
    go_wp2_with fail
    exact bodyPost_ret (v := .tuple #[.agg #[.int .i64 (Ra.rn (an * bd + bn * ad) (ad * bd)), .int .i64 (Ra.rd (an * bd + bn * ad) (ad * bd))], .bool (Ra.fits (an * bd + bn * ad) (ad * bd))]) (by simp [results, Tryd.results12, go_sem, (pair_set r0 r1).1, (pair_set r0 r1).2]) rfl ⟨rfl, low3_set Hb3.out _ _⟩
set_option maxHeartbeats 1000000 in
theorem impl_MulRat (an ad bn bd : Int) (w : World) :
    Calls Tryd.prog 11 #[.agg #[.int .i64 an, .int .i64 ad], .agg #[.int .i64 bn, .int .i64 bd]] w fun e w' => e = .returned (.tuple #[.agg #[.int .i64 (Ra.opN (Ra.two an ad bn bd) (an * bn) (ad * bd)), .int .i64 (Ra.opD (Ra.two an ad bn bd) (an * bn) (ad * bd))], .bool (Ra.opK (Ra.two an ad bn bd) (an * bn) (ad * bd))]) ∧ Below w.heap.size w w' := by
  rcases h : Ra.two an ad bn bd with _ | _
  · rw [(Ra.op_no _ _).1, (Ra.op_no _ _).2.1, (Ra.op_no _ _).2.2]
    have H := Lib.hid h
    clear h
    go_enter Tryd.func11, Tryd.ntmps11
    go_wp2_with fail
    refine (impl_areValidRats an ad bn bd false H.out _).mono ?_
    rintro e w1 ⟨rfl, hb1⟩
    have Hb := Lib.hid hb1
    obtain ⟨a0, a1, b0, b1, r0, r1, z0, z1, hz⟩ := kept3 hb1
    clear hb1
    go_wp2_with fail
    exact bodyPost_ret (v := .tuple #[.agg #[.int .i64 0, .int .i64 0], .bool false]) (by simp [results, Tryd.results11, go_sem, (pair_set r0 r1).1, (pair_set r0 r1).2]) rfl ⟨rfl, low3_set Hb.out _ _⟩
  · have hv := h
    unfold Ra.two at hv
    rw [Bool.and_eq_true] at hv
    rw [(Ra.op_yes _ _).1, (Ra.op_yes _ _).2.1, (Ra.op_yes _ _).2.2]
    obtain ⟨⟨p1, p2⟩, ⟨p3, p4⟩, ⟨p5, p6⟩, ⟨p7, p8⟩, ⟨p9, p10⟩⟩ := Ra.prods hv.1 hv.2
    have H := Lib.hid h
    clear h hv
    go_enter Tryd.func11, Tryd.ntmps11
    go_wp2_with fail
    refine (impl_areValidRats an ad bn bd true H.out _).mono ?_
    rintro e w1 ⟨rfl, hb1⟩
    have Hb := Lib.hid hb1
    obtain ⟨a0, a1, b0, b1, r0, r1, z0, z1, hz⟩ := kept3 hb1
    clear hb1
    go_wp2_with fail
    refine (impl_RatOf (an * bn) (ad * bd) _).mono ?_
    rintro e w3 ⟨rfl, hb3⟩
    have Hb3 := Lib.hid (Hb.out.trans (hb3.mono Hb.out.size))
    clear Hb a0 a1 b0 b1 r0 r1 z0 z1 hz hb3
    obtain ⟨a0, a1, b0, b1, r0, r1, z0, z1, hz⟩ := kept3 Hb3.out
    go_wp2_with fail
    exact bodyPost_ret (v := .tuple #[.agg #[.int .i64 (Ra.rn (an * bn) (ad * bd)), .int .i64 (Ra.rd (an * bn) (ad * bd))], .bool (Ra.fits (an * bn) (ad * bd))]) (by simp [results, Tryd.results11, go_sem, (pair_set r0 r1).1, (pair_set r0 r1).2]) rfl ⟨rfl, low3_set Hb3.out _ _⟩
end Go.Proofs.YtlaohlcghdbjhaaDoor
