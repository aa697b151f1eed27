/- The walk of FnExactFormatVector: for every list of fractions the law returns true. -/
import Derived.Test.YtlaohlcghdbjhaaDoorVeF
import Derived.Test.YtlaohlcghdbjhaaDoorVeL1
import Derived.Test.YtlaohlcghdbjhaaDoorPowTab
namespace Go.Proofs.YtlaohlcghdbjhaaDoor
open Go.RowKit
open Ve (R)
set_option maxRecDepth 100000 in
set_option maxHeartbeats 4000000 in
theorem fnExactFormatVector.small (a : Option Addr) (cap : Nat) (xs : List R) (w w0 : World) (hbig : xs.length ≤ 1048576) (hw : w0 = w) (hL : AllIn w0 [(a, xs)]) (hp : PowAt w) :
    Calls Tryd.prog 4 #[.slice a xs.length cap] w0 fun e w' => e = .returned (.bool true) ∧ Below w.heap.size w w' := by
  have HL0 := Lib.hid hL
  have HP := Lib.hid hp
  have Hb0 : Hid (Below w.heap.size w w0) := by rw [hw]; exact Below.refl _ _
  have HS := Lib.hid (fun B a c w hBw h1 => spec_FormatVector B a c xs hbig w hBw h1)
  have HI := Lib.hid (fun B a c w hp hBw h1 => impl_FormatVector B a c xs hbig w hp hBw h1)
  obtain ⟨tx, htx⟩ : ∃ tx : ByteArray, (⟨(Lib.join ((xs.map txtB).map (·.data.toList)) (ByteArray.mk #[32]).data.toList).toArray⟩ : ByteArray) = tx := ⟨_, rfl⟩
  unfold JoinPost at HS HI
  rw [htx] at HS HI
  have hl : (tx.toList == tx.toList) = true := by simp
  clear hL hw hp htx
  go_enter Tryd.func4, Tryd.ntmps4
  go_wp2_with fail
  refine (sz_ok a xs.length cap 1048576 (by omega) (by omega) w0).mono ?_
  rintro e w1 ⟨rfl, rfl⟩
  go_wp2_with fail
  refine (laws_toRatS _ a cap xs (by omega) _ (Nat.le_refl _) (HL0.out.get a xs (by simp))).mono ?_
  rintro e w1 hc
  obtain ⟨a1, c1, rfl, hr1, ha1, ho1, hb1⟩ := copied hc
  have Hb1 := Lib.hid (Hb0.out.trans (hb1.mono Hb0.out.size))
  have HL1 := Lib.hid ((HL0.out.below hb1).add hr1)
  clear hr1 ha1 ho1 hb1 hc HL0 Hb0
  go_wp2_with fail
  refine (HS.out _ a1 c1 _ (Nat.le_refl _) (HL1.out.get a1 xs (by simp))).mono ?_
  rintro e w2 ⟨rfl, hb2⟩
  have Hb2 := Lib.hid (Hb1.out.trans (hb2.mono Hb1.out.size))
  have HL2 := Lib.hid (HL1.out.below hb2)
  clear hb2 HL1 Hb1
  go_wp2_with fail
  refine (laws_toRatS _ a cap xs (by omega) _ (Nat.le_refl _) (HL2.out.get a xs (by simp))).mono ?_
  rintro e w3 hc
  obtain ⟨a3, c3, rfl, hr3, ha3, ho3, hb3⟩ := copied hc
  have Hb3 := Lib.hid (Hb2.out.trans (hb3.mono Hb2.out.size))
  have HL3 := Lib.hid ((HL2.out.below hb3).add hr3)
  clear hr3 ha3 ho3 hb3 hc HL2 Hb2
  go_wp2_with fail
  refine (HI.out _ a3 c3 _ (HP.out.below Hb3.out) (Nat.le_refl _) (HL3.out.get a3 xs (by simp))).mono ?_
  rintro e w4 ⟨rfl, hb4⟩
  have Hb4 := Lib.hid (Hb3.out.trans (hb4.mono Hb3.out.size))
  have HL4 := Lib.hid (HL3.out.below hb4)
  clear hb4 HL3 Hb3
  go_wp2_with fail
  refine (laws_toRatS _ a cap xs (by omega) _ (Nat.le_refl _) (HL4.out.get a xs (by simp))).mono ?_
  rintro e w5 hc
  obtain ⟨a5, c5, rfl, hr5, ha5, ho5, hb5⟩ := copied hc
  have Hb5 := Lib.hid (Hb4.out.trans (hb5.mono Hb4.out.size))
  have HL5 := Lib.hid ((HL4.out.below hb5).add hr5)
  clear hr5 ha5 ho5 hb5 hc HL4 Hb4
  go_wp2_with fail
  refine (laws_eqRatS _ a3 a5 c3 c5 xs (by omega) _ (Nat.le_refl _) (HL5.out.get a3 xs (by simp)) (HL5.out.get a5 xs (by simp))).mono ?_
  rintro e w6 ⟨rfl, hb6⟩
  have Hb6 := Lib.hid (Hb5.out.trans (hb6.mono Hb5.out.size))
  have HL6 := Lib.hid (HL5.out.below hb6)
  clear hb6 HL5 Hb5
  go_wp2_with fail
  go_ret
  exact ⟨rfl, Hb6.out⟩
theorem fnExactFormatVector.walk (a : Option Addr) (cap : Nat) (xs : List R) (w : World) (hm : xs.length ≤ 9223372036854775807) (hx : RatsIn w.heap.size w a xs) (hp : PowAt w) :
    Calls Tryd.prog 4 #[.slice a xs.length cap] w fun e w' => e = .returned (.bool true) ∧ Below w.heap.size w w' := by
  by_cases hbig : xs.length ≤ 1048576
  · exact fnExactFormatVector.small a cap xs w w hbig rfl ((AllIn.start w).add hx) hp
  · clear hx hp
    go_enter Tryd.func4, Tryd.ntmps4
    go_wp2_with fail
    refine (sz_no a xs.length cap 1048576 (by omega) hm (by omega) (by omega) w).mono ?_
    rintro e w1 ⟨rfl, rfl⟩
    go_wp2_with fail
    go_ret
    exact ⟨rfl, Below.refl _ _⟩
end Go.Proofs.YtlaohlcghdbjhaaDoor
