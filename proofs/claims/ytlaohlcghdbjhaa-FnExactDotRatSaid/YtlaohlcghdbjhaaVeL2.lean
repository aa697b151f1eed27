/- The walk of FnExactDotRat: for every input the law returns true. -/
import Derived.Test.YtlaohlcghdbjhaaVeL1
import Derived.Test.YtlaohlcghdbjhaaVeDot
import Derived.Test.YtlaohlcghdbjhaaVeC
namespace Go.Proofs.Ytlaohlcghdbjhaa
open Go.RowKit
open Ve (R)
set_option maxRecDepth 100000 in
set_option maxHeartbeats 4000000 in
theorem fnExactDotRat.small (a : Option Addr) (cap : Nat) (xs : List R) (b : Option Addr) (cbp : Nat) (ys : List R) (w w0 : World) (hbig : ys.length + xs.length ≤ 1048576) (hw : w0 = w) (hL : AllIn w0 [(b, ys), (a, xs)]) :
    Calls Try.prog 4 #[.slice a xs.length cap, .slice b ys.length cbp] w0 fun e w' => e = .returned (.bool true) ∧ Below w.heap.size w w' := by
  have HL0 := Lib.hid hL
  have Hb0 : Hid (Below w.heap.size w w0) := by rw [hw]; exact Below.refl _ _
  have HS := Lib.hid (fun B a1 a2 c1 c2 w hBw h1 h2 => spec_DotRat B a1 a2 c1 c2 xs ys (by omega) (by omega) w hBw h1 h2)
  have HI := Lib.hid (fun B a1 a2 c1 c2 w hBw h1 h2 => impl_DotRat B a1 a2 c1 c2 xs ys (by omega) (by omega) w hBw h1 h2)
  generalize Ve.dotR xs ys = D at *
  generalize Ve.dotK xs ys = K at *
  clear hL hw
  have hbx : xs.length ≤ 1048576 := by omega
  have hby : ys.length ≤ 1048576 := by omega
  go_enter Try.func4, Try.ntmps4
  go_wp2_with fail
  refine (sz_ok a xs.length cap 1048576 (by omega) (by omega) w0).mono ?_
  rintro e w1 ⟨rfl, rfl⟩
  go_wp2_with fail
  refine (sz_ok b ys.length cbp _ (by omega) (by omega) w0).mono ?_
  rintro e w1 ⟨rfl, rfl⟩
  go_wp2_with fail
  refine (laws_toRatS _ a cap xs (by omega) _ (Nat.le_refl _) (HL0.out.get a xs (by simp))).mono ?_
  rintro e w1 hc
  obtain ⟨a1, c1, rfl, hr1, ha1, ho1, hb1⟩ := copied hc
  have Hb1 := Lib.hid (Hb0.out.trans (hb1.mono Hb0.out.size))
  have HL1 := Lib.hid ((HL0.out.below hb1).add hr1)
  clear hr1 ha1 ho1 hb1 hc HL0 Hb0
  go_wp2_with fail
  refine (laws_toRatS _ b cbp ys (by omega) _ (Nat.le_refl _) (HL1.out.get b ys (by simp))).mono ?_
  rintro e w2 hc
  obtain ⟨a2, c2, rfl, hr2, ha2, ho2, hb2⟩ := copied hc
  have Hb2 := Lib.hid (Hb1.out.trans (hb2.mono Hb1.out.size))
  have HL2 := Lib.hid ((HL1.out.below hb2).add hr2)
  clear hr2 ha2 ho2 hb2 hc HL1 Hb1
  go_wp2_with fail
  refine (HS.out w2.heap.size a1 a2 c1 c2 _ (Nat.le_refl _) (HL2.out.get a1 xs (by simp)) (HL2.out.get a2 ys (by simp))).mono ?_
  rintro e v3 ⟨rfl, hb3⟩
  have hbb3 := hb3.alloc hb3.size (.cells #[.int .i64 D.1, .int .i64 D.2] 30)
  have Hb3 := Lib.hid (Hb2.out.trans (hbb3.mono Hb2.out.size))
  have HL3 := Lib.hid (HL2.out.below hbb3)
  have HXs3 := Lib.hid (BoxAt.new v3 D)
  clear hb3 hbb3 HL2 Hb2
  obtain ⟨sx0, sx1, -, -⟩ := HXs3.out.four
  go_wp2_with fail
  refine (laws_toRatS _ a cap xs (by omega) _ (Nat.le_refl _) (HL3.out.get a xs (by simp))).mono ?_
  rintro e w4 hc
  obtain ⟨a4, c4, rfl, hr4, ha4, ho4, hb4⟩ := copied hc
  have Hb4 := Lib.hid (Hb3.out.trans (hb4.mono Hb3.out.size))
  have HL4 := Lib.hid ((HL3.out.below hb4).add hr4)
  have HXs4 := Lib.hid (HXs3.out.below hb4)
  clear hr4 ha4 ho4 hb4 hc HL3 Hb3 HXs3 sx0 sx1
  obtain ⟨sx0, sx1, -, -⟩ := HXs4.out.four
  go_wp2_with fail
  refine (laws_toRatS _ b cbp ys (by omega) _ (Nat.le_refl _) (HL4.out.get b ys (by simp))).mono ?_
  rintro e w5 hc
  obtain ⟨a5, c5, rfl, hr5, ha5, ho5, hb5⟩ := copied hc
  have Hb5 := Lib.hid (Hb4.out.trans (hb5.mono Hb4.out.size))
  have HL5 := Lib.hid ((HL4.out.below hb5).add hr5)
  have HXs5 := Lib.hid (HXs4.out.below hb5)
  clear hr5 ha5 ho5 hb5 hc HL4 Hb4 HXs4 sx0 sx1
  obtain ⟨sx0, sx1, -, -⟩ := HXs5.out.four
  go_wp2_with fail
  refine (HI.out w5.heap.size a4 a5 c4 c5 _ (Nat.le_refl _) (HL5.out.get a4 xs (by simp)) (HL5.out.get a5 ys (by simp))).mono ?_
  rintro e v6 ⟨rfl, hb6⟩
  have hbb6 := hb6.alloc hb6.size (.cells #[.int .i64 D.1, .int .i64 D.2] 30)
  have Hb6 := Lib.hid (Hb5.out.trans (hbb6.mono Hb5.out.size))
  have HL6 := Lib.hid (HL5.out.below hbb6)
  have HXs6 := Lib.hid (HXs5.out.below hbb6)
  have HXg6 := Lib.hid (BoxAt.new v6 D)
  clear hb6 hbb6 HL5 Hb5 HXs5 sx0 sx1
  obtain ⟨sx0, sx1, -, -⟩ := HXs6.out.four
  obtain ⟨gx0, gx1, -, -⟩ := HXg6.out.four
  go_wp2_with fail
  refine (laws_eqRat D.1 D.2 _).mono ?_
  rintro e w7 ⟨rfl, hb7⟩
  have Hb7 := Lib.hid (Hb6.out.trans (hb7.mono Hb6.out.size))
  have HL7 := Lib.hid (HL6.out.below hb7)
  have HXs7 := Lib.hid (HXs6.out.below hb7)
  have HXg7 := Lib.hid (HXg6.out.below hb7)
  clear hb7 HL6 Hb6 HXs6 HXg6 sx0 sx1 gx0 gx1
  obtain ⟨sx0, sx1, -, -⟩ := HXs7.out.four
  obtain ⟨gx0, gx1, -, -⟩ := HXg7.out.four
  go_wp2_with fail
  refine (laws_toRatS _ a cap xs (by omega) _ (Nat.le_refl _) (HL7.out.get a xs (by simp))).mono ?_
  rintro e w8 hc
  obtain ⟨a8, c8, rfl, hr8, ha8, ho8, hb8⟩ := copied hc
  have Hb8 := Lib.hid (Hb7.out.trans (hb8.mono Hb7.out.size))
  have HL8 := Lib.hid ((HL7.out.below hb8).add hr8)
  have HXs8 := Lib.hid (HXs7.out.below hb8)
  have HXg8 := Lib.hid (HXg7.out.below hb8)
  clear hr8 ha8 ho8 hb8 hc HL7 Hb7 HXs7 HXg7 sx0 sx1 gx0 gx1
  obtain ⟨sx0, sx1, -, -⟩ := HXs8.out.four
  obtain ⟨gx0, gx1, -, -⟩ := HXg8.out.four
  go_wp2_with fail
  refine (laws_eqRatS _ a4 a8 c4 c8 xs (by omega) _ (Nat.le_refl _) (HL8.out.get a4 xs (by simp)) (HL8.out.get a8 xs (by simp))).mono ?_
  rintro e w9 ⟨rfl, hb9⟩
  have Hb9 := Lib.hid (Hb8.out.trans (hb9.mono Hb8.out.size))
  have HL9 := Lib.hid (HL8.out.below hb9)
  have HXs9 := Lib.hid (HXs8.out.below hb9)
  have HXg9 := Lib.hid (HXg8.out.below hb9)
  clear hb9 HL8 Hb8 HXs8 HXg8 sx0 sx1 gx0 gx1
  obtain ⟨sx0, sx1, -, -⟩ := HXs9.out.four
  obtain ⟨gx0, gx1, -, -⟩ := HXg9.out.four
  go_wp2_with fail
  refine (laws_toRatS _ b cbp ys (by omega) _ (Nat.le_refl _) (HL9.out.get b ys (by simp))).mono ?_
  rintro e w10 hc
  obtain ⟨a10, c10, rfl, hr10, ha10, ho10, hb10⟩ := copied hc
  have Hb10 := Lib.hid (Hb9.out.trans (hb10.mono Hb9.out.size))
  have HL10 := Lib.hid ((HL9.out.below hb10).add hr10)
  have HXs10 := Lib.hid (HXs9.out.below hb10)
  have HXg10 := Lib.hid (HXg9.out.below hb10)
  clear hr10 ha10 ho10 hb10 hc HL9 Hb9 HXs9 HXg9 sx0 sx1 gx0 gx1
  obtain ⟨sx0, sx1, -, -⟩ := HXs10.out.four
  obtain ⟨gx0, gx1, -, -⟩ := HXg10.out.four
  go_wp2_with fail
  refine (laws_eqRatS _ a5 a10 c5 c10 ys (by omega) _ (Nat.le_refl _) (HL10.out.get a5 ys (by simp)) (HL10.out.get a10 ys (by simp))).mono ?_
  rintro e w11 ⟨rfl, hb11⟩
  have Hb11 := Lib.hid (Hb10.out.trans (hb11.mono Hb10.out.size))
  have HL11 := Lib.hid (HL10.out.below hb11)
  have HXs11 := Lib.hid (HXs10.out.below hb11)
  have HXg11 := Lib.hid (HXg10.out.below hb11)
  clear hb11 HL10 Hb10 HXs10 HXg10 sx0 sx1 gx0 gx1
  obtain ⟨sx0, sx1, -, -⟩ := HXs11.out.four
  obtain ⟨gx0, gx1, -, -⟩ := HXg11.out.four
  go_wp2_with fail
  go_ret
  exact ⟨rfl, Hb11.out⟩
theorem fnExactDotRat.walk (a : Option Addr) (cap : Nat) (xs : List R) (b : Option Addr) (cbp : Nat) (ys : List R) (w : World) (hm : xs.length ≤ 9223372036854775807) (hx : RatsIn w.heap.size w a xs) (hm2 : ys.length ≤ 9223372036854775807) (hy : RatsIn w.heap.size w b ys) :
    Calls Try.prog 4 #[.slice a xs.length cap, .slice b ys.length cbp] w fun e w' => e = .returned (.bool true) ∧ Below w.heap.size w w' := by
  by_cases hbig : ys.length + xs.length ≤ 1048576
  · exact fnExactDotRat.small a cap xs b cbp ys w w hbig rfl (((AllIn.start w).add hx).add hy)
  · clear hx hy
    by_cases hbig2 : xs.length ≤ 1048576
    · go_enter Try.func4, Try.ntmps4
      go_wp2_with fail
      refine (sz_ok a xs.length cap 1048576 (by omega) (by omega) w).mono ?_
      rintro e w1 ⟨rfl, rfl⟩
      go_wp2_with fail
      refine (sz_no b ys.length cbp _ (by omega) (by omega) (by omega) (by omega) w).mono ?_
      rintro e w1 ⟨rfl, rfl⟩
      go_wp2_with fail
      go_ret
      exact ⟨rfl, Below.refl _ _⟩
    · go_enter Try.func4, Try.ntmps4
      go_wp2_with fail
      refine (sz_no a xs.length cap 1048576 (by omega) hm (by omega) (by omega) w).mono ?_
      rintro e w1 ⟨rfl, rfl⟩
      go_wp2_with fail
      go_ret
      exact ⟨rfl, Below.refl _ _⟩
end Go.Proofs.Ytlaohlcghdbjhaa
