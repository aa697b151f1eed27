/- The walks of FnExactAllValid and FnExactEqualVector: for every input the law returns true. -/
import Derived.Test.YtlaohlcghdbjhaaVeB
import Derived.Test.YtlaohlcghdbjhaaVeA
namespace Go.Proofs.Ytlaohlcghdbjhaa
open Go.RowKit
open Ve (R)
/-- A copy of the call's own, and how it reads. -/
theorem copied {xs : List R} {w w' : World} {e : Ending} (h : MakesRats xs w e w') : ∃ a c, e = .returned (.slice a xs.length c) ∧ RatsIn w'.heap.size w' a xs ∧ (∀ p, a = some p → w.heap.size ≤ p.block ∧ p.block < w'.heap.size) ∧ OwnRats w.heap.size w' (.slice a xs.length c) xs ∧ Below w.heap.size w w' := by
  obtain ⟨v, rfl, ho, hb⟩ := h
  obtain ⟨a, c, rfl, hr, ha, _⟩ := own_rats ho
  exact ⟨a, c, rfl, hr, ha, ho, hb⟩
set_option maxRecDepth 100000 in
set_option maxHeartbeats 2000000 in
theorem fnExactAllValid.walk (a : Option Addr) (cap : Nat) (xs : List R) (w : World) (hm : xs.length ≤ 9223372036854775807) (hx : RatsIn w.heap.size w a xs) :
    Calls Try.prog 3 #[.slice a xs.length cap] w fun e w' => e = .returned (.bool true) ∧ Below w.heap.size w w' := by
  have HX := Lib.hid hx
  clear hx
  by_cases hbig : xs.length ≤ 1048576
  · have HG := Lib.hid (fun (b : Bool) (h : Ve.good xs = b) => h)
    have HS := Lib.hid (fun B a c w h1 h2 => spec_AllValid B a c xs hbig w h1 h2)
    have HI := Lib.hid (fun B a c w h1 h2 => impl_AllValid B a c xs hbig w h1 h2)
    generalize Ve.good xs = g at *
    clear HG
    go_enter Try.func3, Try.ntmps3
    go_wp2_with fail
    refine (sz_ok a xs.length cap 1048576 (by omega) (by omega) w).mono ?_
    rintro e w1 ⟨rfl, rfl⟩
    go_wp2_with fail
    refine (laws_toRatS w.heap.size a cap xs hbig w (Nat.le_refl _) HX.out).mono ?_
    rintro e w1 hc
    obtain ⟨a1, c1, rfl, hr1, ha1, ho1, hb1⟩ := copied hc
    have Hb1 := Lib.hid hb1
    have HX1 := Lib.hid (HX.out.below hb1)
    have HR1 := Lib.hid hr1
    clear hr1 ha1 ho1 hb1 hc HX
    go_wp2_with fail
    refine (HS.out w1.heap.size a1 c1 w1 (Nat.le_refl _) HR1.out).mono ?_
    rintro e w2 ⟨rfl, hb2⟩
    have Hb2 := Lib.hid (Hb1.out.trans (hb2.mono Hb1.out.size))
    have HX2 := Lib.hid (HX1.out.below (hb2.mono Hb1.out.size))
    clear hb2 HR1 HX1 Hb1
    go_wp2_with fail
    refine (laws_toRatS w.heap.size a cap xs hbig w2 Hb2.out.size HX2.out).mono ?_
    rintro e w3 hc
    obtain ⟨a3, c3, rfl, hr3, ha3, ho3, hb3⟩ := copied hc
    have Hb3 := Lib.hid (Hb2.out.trans (hb3.mono Hb2.out.size))
    have HX3 := Lib.hid (HX2.out.below (hb3.mono Hb2.out.size))
    have HR3 := Lib.hid hr3
    clear hr3 ha3 ho3 hb3 hc HX2 Hb2
    go_wp2_with fail
    refine (HI.out w3.heap.size a3 c3 w3 (Nat.le_refl _) HR3.out).mono ?_
    rintro e w4 ⟨rfl, hb4⟩
    have Hb4 := Lib.hid (Hb3.out.trans (hb4.mono Hb3.out.size))
    have HX4 := Lib.hid (HX3.out.below (hb4.mono Hb3.out.size))
    have HR4 := Lib.hid (HR3.out.below hb4)
    have Hz4 := Lib.hid hb4.size
    clear hb4 HX3 Hb3 HR3
    go_wp2_with fail
    refine (laws_toRatS w.heap.size a cap xs hbig w4 Hb4.out.size HX4.out).mono ?_
    rintro e w5 hc
    obtain ⟨a5, c5, rfl, hr5, ha5, ho5, hb5⟩ := copied hc
    have Hb5 := Lib.hid (Hb4.out.trans (hb5.mono Hb4.out.size))
    have HR5 := Lib.hid hr5
    have HR45 := Lib.hid ((HR4.out.below (hb5.mono Hz4.out)).mono (Nat.le_trans Hz4.out hb5.size))
    clear hr5 ha5 ho5 hb5 hc HX4 Hb4 HR4 Hz4
    go_wp2_with fail
    refine (laws_eqRatS w5.heap.size a3 a5 c3 c5 xs (by omega) w5 (Nat.le_refl _) HR45.out HR5.out).mono ?_
    rintro e w6 ⟨rfl, hb6⟩
    have Hb6 := Lib.hid (Hb5.out.trans (hb6.mono Hb5.out.size))
    clear hb6
    go_wp2_with fail
    go_ret
    exact ⟨rfl, Hb6.out⟩
  · go_enter Try.func3, Try.ntmps3
    go_wp2_with fail
    refine (sz_no a xs.length cap 1048576 (by omega) hm (by omega) (by omega) w).mono ?_
    rintro e w1 ⟨rfl, rfl⟩
    go_wp2_with fail
    go_ret
    exact ⟨rfl, Below.refl _ _⟩
end Go.Proofs.Ytlaohlcghdbjhaa
