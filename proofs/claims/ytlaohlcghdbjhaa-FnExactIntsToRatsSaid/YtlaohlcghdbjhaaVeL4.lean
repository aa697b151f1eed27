/- The walk of FnExactIntsToRats: for every input the law returns true. -/
import Derived.Test.YtlaohlcghdbjhaaVeL1
import Derived.Test.YtlaohlcghdbjhaaVeI
import Derived.Test.YtlaohlcghdbjhaaVeAS
namespace Go.Proofs.Ytlaohlcghdbjhaa
open Go.RowKit
open Ve (R)
set_option maxRecDepth 100000 in
set_option maxHeartbeats 8000000 in
theorem fnExactIntsToRats.small (a : Option Addr) (cap : Nat) (zs : List Int) (w wB : World) (hbig : zs.length ≤ 1048576) (hw : wB = w) (hN : NumsIn w.heap.size wB a zs) :
    Calls Try.prog 6 #[.slice a zs.length cap] wB fun e w' => e = .returned (.bool true) ∧ Below w.heap.size w w' := by
  have HL0 := Lib.hid (AllS.start wB)
  have HS0 := Lib.hid (Since.refl wB)
  have HN0 := Lib.hid hN
  have HS := Lib.hid (fun B a c w hBw h1 => spec_IntsToRats B a c zs hbig w hBw h1)
  have HJ := Lib.hid (fun B a c w hBw h1 => impl_IntsToRats B a c zs hbig w hBw h1)
  have hDl := Ve.out_len (Ve.ofI zs) zs.length
  have hzB : w.heap.size ≤ wB.heap.size := by rw [hw]; exact Nat.le_refl _
  have hzC : wB.heap.size ≤ w.heap.size := by rw [hw]; exact Nat.le_refl _
  generalize Ve.outR (Ve.ofI zs) zs.length = D at *
  generalize Ve.allK (Ve.ofI zs) zs.length = K at *
  have HW := Lib.hid hw
  clear hN hw
  go_enter Try.func6, Try.ntmps6
  go_wp2_with fail
  refine (laws_toIntS _ a cap zs hbig _ (by omega) HN0.out).mono ?_
  rintro e w1 ⟨v1, rfl, ho1, hb1⟩
  obtain ⟨a1, c1, rfl, hr1, ha1, _⟩ := own_reads ho1
  have HR1 := Lib.hid (NumsIn.of_ints hr1 (fun p hp => (ha1 p hp).2))
  have HI1 := Lib.hid hr1
  clear ho1 hr1 ha1
  have HN1 := Lib.hid (HN0.out.below (hb1.mono (by omega)))
  clear HN0
  have hz1 := hb1.size
  have HS1 := Lib.hid (HS0.out.trans hb1)
  have HL1 := Lib.hid (HL0.out.below hb1)
  clear hb1 HS0 HL0
  go_wp2_with fail
  refine (HS.out _ a1 c1 _ (Nat.le_refl _) HR1.out).mono ?_
  rintro e w2 ⟨v2, rfl, ho2, hb2⟩
  obtain ⟨a2, c2, rfl, hr2, ha2, _⟩ := own_rats ho2
  have HN2 := Lib.hid (HN1.out.below (hb2.mono (by omega)))
  clear HN1
  have hz2 := hb2.size
  have HS2 := Lib.hid (HS1.out.trans hb2)
  have HL2 := Lib.hid ((HL1.out.below hb2).add (lo := w1.heap.size) (hi := w2.heap.size) hr2 (fun p hp => (ha2 p hp).1) (Nat.le_refl _))
  clear hb2 HS1 HL1  ho2 hr2 ha2
  go_wp2_with fail
  refine (laws_toIntS _ a cap zs hbig _ (by omega) HN2.out).mono ?_
  rintro e w3 ⟨v3, rfl, ho3, hb3⟩
  obtain ⟨a3, c3, rfl, hr3, ha3, _⟩ := own_reads ho3
  have HR3 := Lib.hid (NumsIn.of_ints hr3 (fun p hp => (ha3 p hp).2))
  have HI3 := Lib.hid hr3
  have HZ3 := Lib.hid ho3
  have HY3 := Lib.hid (World.ownsRow.lt ho3)
  clear ho3 hr3 ha3
  have HN3 := Lib.hid (HN2.out.below (hb3.mono (by omega)))
  clear HN2
  have hz3 := hb3.size
  have HS3 := Lib.hid (HS2.out.trans hb3)
  have HL3 := Lib.hid (HL2.out.below hb3)
  clear hb3 HS2 HL2
  go_wp2_with fail
  refine (HJ.out _ a3 c3 _ (Nat.le_refl _) HR3.out).mono ?_
  rintro e w4 ⟨v4, rfl, ho4, hb4⟩
  obtain ⟨a4, c4, rfl, hr4, ha4, _⟩ := own_rats ho4
  have HN4 := Lib.hid (HN3.out.below (hb4.mono (by omega)))
  clear HN3
  have HZ4 := Lib.hid (HZ3.out.below hb4)
  clear HZ3
  have hz4 := hb4.size
  have HS4 := Lib.hid (HS3.out.trans hb4)
  have HL4 := Lib.hid ((HL3.out.below hb4).add (lo := w3.heap.size) (hi := w4.heap.size) hr4 (fun p hp => (ha4 p hp).1) (Nat.le_refl _))
  have HO4x4 := Lib.hid ho4
  have HK4 := Lib.hid (own_block ho4)
  clear hb4 HS3 HL3  ho4 hr4 ha4
  go_wp2_with fail
  refine (laws_eqRatS _ a4 a2 c4 c2 D (by omega) _ (Nat.le_refl _) (HL4.out.get a4 D w3.heap.size w4.heap.size (by simp)) (HL4.out.get a2 D w1.heap.size w2.heap.size (by simp))).mono ?_
  rintro e w5 ⟨rfl, hb5⟩
  have HN5 := Lib.hid (HN4.out.below (hb5.mono (by omega)))
  clear HN4
  have HZ5 := Lib.hid (HZ4.out.below hb5)
  clear HZ4
  have hz5 := hb5.size
  have HS5 := Lib.hid (HS4.out.trans hb5)
  have HL5 := Lib.hid (HL4.out.below hb5)
  have HO4x5 := Lib.hid (HO4x4.out.below hb5)
  clear hb5 HS4 HL4 HO4x4
  go_wp2_with fail
  refine (laws_toIntS _ a cap zs hbig _ (by omega) HN5.out).mono ?_
  rintro e w6 ⟨v6, rfl, ho6, hb6⟩
  obtain ⟨a6, c6, rfl, hr6, ha6, _⟩ := own_reads ho6
  have HR6 := Lib.hid (NumsIn.of_ints hr6 (fun p hp => (ha6 p hp).2))
  have HI6 := Lib.hid hr6
  clear ho6 hr6 ha6
  have HN6 := Lib.hid (HN5.out.below (hb6.mono (by omega)))
  clear HN5
  have HZ6 := Lib.hid (HZ5.out.below hb6)
  clear HZ5
  have hz6 := hb6.size
  have HS6 := Lib.hid (HS5.out.trans hb6)
  have HL6 := Lib.hid (HL5.out.below hb6)
  have HO4x6 := Lib.hid (HO4x5.out.below hb6)
  clear hb6 HS5 HL5 HO4x5
  go_wp2_with fail
  have hx0 := (own_reads HZ6.out)
  obtain ⟨ax, cx, hxe, hxr, _, _⟩ := hx0
  obtain ⟨rfl, rfl⟩ : a3 = ax ∧ c3 = cx := by injection hxe with h1 h2 h3; exact ⟨h1, h3⟩
  clear hxe
  refine (drawn_below (laws_eqIntS a3 a6 c3 c6 zs (by omega) _ hxr HI6.out)).mono ?_
  rintro e w7 ⟨rfl, hb7⟩
  have HN7 := Lib.hid (HN6.out.below (hb7.mono (by omega)))
  clear HN6
  have HZ7 := Lib.hid (HZ6.out.below hb7)
  clear HZ6
  have hz7 := hb7.size
  have HS7 := Lib.hid (HS6.out.trans hb7)
  have HL7 := Lib.hid (HL6.out.below hb7)
  have HO4x7 := Lib.hid (HO4x6.out.below hb7)
  clear hb7 HS6 HL6 HO4x6
  go_wp2_with fail
  refine (laws_markIntS _ _ 1 zs (by omega) (by omega) _ HZ7.out).mono ?_
  rintro e w8 ⟨rfl, ho8, hg8⟩
  have hz8 := hg8.size
  have HS8 := Lib.hid (HS7.out.grown hg8 (fun g hg => by have := HY3.out g hg; omega))
  have HL8 := Lib.hid (HL7.out.grown hg8 (fun p hp g hg => by
    have hk := HY3.out g hg
    simp only [List.mem_cons, List.not_mem_nil, or_false] at hp
    rcases hp with rfl | rfl <;> (dsimp only; omega)))
  have HN8 := Lib.hid (HN7.out.grown hg8 (by omega) (fun g hg => by have := HY3.out g hg; omega))
  have HO4x8 := Lib.hid (HO4x7.out.grown hg8 (fun g h1 h2 => by have := HK4.out g h1; have := HY3.out g h2; omega))
  clear ho8 hg8 HS7 HL7 HN7 HO4x7 HZ7 hxr
  go_wp2_with fail
  refine (laws_eqRatS _ a4 a2 c4 c2 D (by omega) _ (Nat.le_refl _) (HL8.out.get a4 D w3.heap.size w4.heap.size (by simp)) (HL8.out.get a2 D w1.heap.size w2.heap.size (by simp))).mono ?_
  rintro e w9 ⟨rfl, hb9⟩
  have HN9 := Lib.hid (HN8.out.below (hb9.mono (by omega)))
  clear HN8
  have hz9 := hb9.size
  have HS9 := Lib.hid (HS8.out.trans hb9)
  have HL9 := Lib.hid (HL8.out.below hb9)
  have HO4x9 := Lib.hid (HO4x8.out.below hb9)
  clear hb9 HS8 HL8 HO4x8
  go_wp2_with fail
  refine (laws_markFrom _ _ (1) (1) (by omega) D (by omega) (by omega) _ HO4x9.out).mono ?_
  rintro e w10 ⟨rfl, ho10, hg10⟩
  have hz10 := hg10.size
  have HS10 := Lib.hid (HS9.out.grown hg10 (fun g hg => by have := HK4.out g hg; omega))
  have hl10 := (HL9.out.sub (L' := [(a2, D, w1.heap.size, w2.heap.size)]) (fun p hp => by simp only [List.mem_cons, List.not_mem_nil, or_false] at hp ⊢; simp [hp])).grown hg10 (fun p hp g hg => by
    have hk := HK4.out g hg
    simp only [List.mem_cons, List.not_mem_nil, or_false] at hp
    rcases hp with rfl <;> (dsimp only; omega))
  have hr10 := (marked_reads ho10).1.narrow (fun p hp => (block_of HK4.out p hp).2)
  have HL10 := Lib.hid (hl10.add (lo := w3.heap.size) (hi := w4.heap.size) hr10 (fun p hp => (block_of HK4.out p hp).1) (by omega))
  have HN10 := Lib.hid (HN9.out.grown hg10 (by omega) (fun g hg => by have := HK4.out g hg; omega))
  clear HN9
  clear ho10 hg10 hl10 HS9 HL9 hr10 HO4x9
  go_wp2_with fail
  refine (laws_heldFrom _ a4 c4 (1) (1) D.length (by omega) (by omega) (by omega) _ (HL10.out.get a4 (marksR (1) D.length) w3.heap.size w4.heap.size (by simp))).mono ?_
  rintro e wh ⟨rfl, rfl⟩
  go_wp2_with fail
  refine (laws_toIntS _ a cap zs hbig _ (by omega) HN10.out).mono ?_
  rintro e w11 ⟨v11, rfl, ho11, hb11⟩
  obtain ⟨a11, c11, rfl, hr11, ha11, _⟩ := own_reads ho11
  have HR11 := Lib.hid (NumsIn.of_ints hr11 (fun p hp => (ha11 p hp).2))
  have HI11 := Lib.hid hr11
  clear ho11 hr11 ha11
  have HN11 := Lib.hid (HN10.out.below (hb11.mono (by omega)))
  clear HN10
  have hz11 := hb11.size
  have HS11 := Lib.hid (HS10.out.trans hb11)
  have HL11 := Lib.hid (HL10.out.below hb11)
  clear hb11 HS10 HL10
  go_wp2_with fail
  refine (HJ.out _ a11 c11 _ (Nat.le_refl _) HR11.out).mono ?_
  rintro e w12 ⟨v12, rfl, ho12, hb12⟩
  obtain ⟨a12, c12, rfl, hr12, ha12, _⟩ := own_rats ho12
  have HN12 := Lib.hid (HN11.out.below (hb12.mono (by omega)))
  clear HN11
  have hz12 := hb12.size
  have HS12 := Lib.hid (HS11.out.trans hb12)
  have HL12 := Lib.hid ((HL11.out.below hb12).add (lo := w11.heap.size) (hi := w12.heap.size) hr12 (fun p hp => (ha12 p hp).1) (Nat.le_refl _))
  clear hb12 HS11 HL11  ho12 hr12 ha12
  go_wp2_with fail
  refine (laws_eqRatS _ a12 a2 c12 c2 D (by omega) _ (Nat.le_refl _) (HL12.out.get a12 D w11.heap.size w12.heap.size (by simp)) (HL12.out.get a2 D w1.heap.size w2.heap.size (by simp))).mono ?_
  rintro e w13 ⟨rfl, hb13⟩
  have HN13 := Lib.hid (HN12.out.below (hb13.mono (by omega)))
  clear HN12
  have hz13 := hb13.size
  have HS13 := Lib.hid (HS12.out.trans hb13)
  have HL13 := Lib.hid (HL12.out.below hb13)
  clear hb13 HS12 HL12
  go_wp2_with fail
  refine (laws_heldFrom _ a4 c4 (1) (1) D.length (by omega) (by omega) (by omega) _ (HL13.out.get a4 (marksR (1) D.length) w3.heap.size w4.heap.size (by simp))).mono ?_
  rintro e wh ⟨rfl, rfl⟩
  go_wp2_with fail
  go_ret
  exact ⟨rfl, by have h := HS13.out.low; rw [HW.out] at h; exact h⟩
theorem fnExactIntsToRats.walk (a : Option Addr) (len cap : Nat) (zs : List Int) (w : World) (hx : IntsAt .i64 w.heap.size w a len zs) :
    Calls Try.prog 6 #[.slice a len cap] w fun e w' => e = .returned (.bool true) ∧ Below w.heap.size w w' := by
  obtain rfl := hx.2.1
  have hm := hx.1
  by_cases hbig : zs.length ≤ 1048576
  · exact fnExactIntsToRats.small a cap zs w w hbig rfl (NumsIn.of_at hx)
  · clear hx
    go_enter Try.func6, Try.ntmps6
    go_wp2_with fail
    go_ret
    exact ⟨rfl, Below.refl _ _⟩
end Go.Proofs.Ytlaohlcghdbjhaa
