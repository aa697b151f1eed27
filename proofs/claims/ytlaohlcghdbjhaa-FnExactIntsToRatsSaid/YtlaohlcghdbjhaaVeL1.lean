/- The walks of FnExactAllValid and FnExactEqualVector: for every input the law returns true. -/
import Derived.Test.YtlaohlcghdbjhaaVeB
import Derived.Test.YtlaohlcghdbjhaaVeA
namespace Go.Proofs.Ytlaohlcghdbjhaa
open Go.RowKit
open Ve (R)
/-- A copy of the call's own, and how it reads. -/
theorem copied {xs : List R} {w w' : World} {e : Ending} (h : MakesRats xs w e w') : ∃ a c, e = .returned (.slice a xs.length c) ∧ RatsIn w'.heap.size w' a xs ∧ (∀ p, a = some p → w.heap.size ≤ p.block ∧ p.block < w'.heap.size) ∧ OwnRats w.heap.size w' (.slice a xs.length c) xs ∧ Below w.heap.size w w' := by
  obtain ⟨v, rfl, ho, hb⟩ := h
  obtain ⟨a, c, rfl, hr, ha, _⟩ := own_rats ho
  exact ⟨a, c, rfl, hr, ha, ho, hb⟩
/-- Slices that read as lists, all of them. -/
def AllIn (w : World) (L : List (Option Addr × List R)) : Prop := ∀ p, p ∈ L → RatsIn w.heap.size w p.1 p.2
theorem AllIn.below {w w' : World} {L : List (Option Addr × List R)} (h : AllIn w L) (hb : Below w.heap.size w w') : AllIn w' L := fun p hp => ((h p hp).below hb).mono hb.size
theorem AllIn.add {w : World} {L : List (Option Addr × List R)} (h : AllIn w L) {a : Option Addr} {xs : List R} (h2 : RatsIn w.heap.size w a xs) : AllIn w ((a, xs) :: L) := fun p hp => by
  rcases List.mem_cons.1 hp with rfl | hp
  · exact h2
  · exact h p hp
theorem AllIn.get {w : World} {L : List (Option Addr × List R)} (h : AllIn w L) (a : Option Addr) (xs : List R) (hm : (a, xs) ∈ L) : RatsIn w.heap.size w a xs := h _ hm
theorem AllIn.start (w : World) : AllIn w [] := fun p hp => by cases hp
theorem AllIn.sub {w : World} {L L' : List (Option Addr × List R)} (h : AllIn w L) (hs : ∀ p, p ∈ L' → p ∈ L) : AllIn w L' := fun p hp => h p (hs p hp)
set_option maxRecDepth 100000 in
set_option maxHeartbeats 2000000 in
theorem fnExactAllValid.walk (a : Option Addr) (cap : Nat) (xs : List R) (w : World) (hm : xs.length ≤ 9223372036854775807) (hx : RatsIn w.heap.size w a xs) :
    Calls Try.prog 3 #[.slice a xs.length cap] w fun e w' => e = .returned (.bool true) ∧ Below w.heap.size w w' := by
  have HX := Lib.hid hx
  clear hx
  by_cases hbig : xs.length ≤ 1048576
  · have HG := Lib.hid (fun (b : Bool) (h : Ve.good xs = b) => h)
    have HS := Lib.hid (fun B a c w h1 h2 => spec_AllValid B a c xs hbig w h1 h2)
    have HI := Lib.hid (fun B a c w h1 h2 => impl_AllValid B a c xs hbig w h1 h2)
    generalize Ve.good xs = g at *
    clear HG
    go_enter Try.func3, Try.ntmps3
    go_wp2_with fail
    refine (sz_ok a xs.length cap 1048576 (by omega) (by omega) w).mono ?_
    rintro e w1 ⟨rfl, rfl⟩
    go_wp2_with fail
    refine (laws_toRatS w.heap.size a cap xs hbig w (Nat.le_refl _) HX.out).mono ?_
    rintro e w1 hc
    obtain ⟨a1, c1, rfl, hr1, ha1, ho1, hb1⟩ := copied hc
    have Hb1 := Lib.hid hb1
    have HX1 := Lib.hid (HX.out.below hb1)
    have HR1 := Lib.hid hr1
    clear hr1 ha1 ho1 hb1 hc HX
    go_wp2_with fail
    refine (HS.out w1.heap.size a1 c1 w1 (Nat.le_refl _) HR1.out).mono ?_
    rintro e w2 ⟨rfl, hb2⟩
    have Hb2 := Lib.hid (Hb1.out.trans (hb2.mono Hb1.out.size))
    have HX2 := Lib.hid (HX1.out.below (hb2.mono Hb1.out.size))
    clear hb2 HR1 HX1 Hb1
    go_wp2_with fail
    refine (laws_toRatS w.heap.size a cap xs hbig w2 Hb2.out.size HX2.out).mono ?_
    rintro e w3 hc
    obtain ⟨a3, c3, rfl, hr3, ha3, ho3, hb3⟩ := copied hc
    have Hb3 := Lib.hid (Hb2.out.trans (hb3.mono Hb2.out.size))
    have HX3 := Lib.hid (HX2.out.below (hb3.mono Hb2.out.size))
    have HR3 := Lib.hid hr3
    clear hr3 ha3 ho3 hb3 hc HX2 Hb2
    go_wp2_with fail
    refine (HI.out w3.heap.size a3 c3 w3 (Nat.le_refl _) HR3.out).mono ?_
    rintro e w4 ⟨rfl, hb4⟩
    have Hb4 := Lib.hid (Hb3.out.trans (hb4.mono Hb3.out.size))
    have HX4 := Lib.hid (HX3.out.below (hb4.mono Hb3.out.size))
    have HR4 := Lib.hid (HR3.out.below hb4)
    have Hz4 := Lib.hid hb4.size
    clear hb4 HX3 Hb3 HR3
    go_wp2_with fail
    refine (laws_toRatS w.heap.size a cap xs hbig w4 Hb4.out.size HX4.out).mono ?_
    rintro e w5 hc
    obtain ⟨a5, c5, rfl, hr5, ha5, ho5, hb5⟩ := copied hc
    have Hb5 := Lib.hid (Hb4.out.trans (hb5.mono Hb4.out.size))
    have HR5 := Lib.hid hr5
    have HR45 := Lib.hid ((HR4.out.below (hb5.mono Hz4.out)).mono (Nat.le_trans Hz4.out hb5.size))
    clear hr5 ha5 ho5 hb5 hc HX4 Hb4 HR4 Hz4
    go_wp2_with fail
    refine (laws_eqRatS w5.heap.size a3 a5 c3 c5 xs (by omega) w5 (Nat.le_refl _) HR45.out HR5.out).mono ?_
    rintro e w6 ⟨rfl, hb6⟩
    have Hb6 := Lib.hid (Hb5.out.trans (hb6.mono Hb5.out.size))
    clear hb6
    go_wp2_with fail
    go_ret
    exact ⟨rfl, Hb6.out⟩
  · go_enter Try.func3, Try.ntmps3
    go_wp2_with fail
    refine (sz_no a xs.length cap 1048576 (by omega) hm (by omega) (by omega) w).mono ?_
    rintro e w1 ⟨rfl, rfl⟩
    go_wp2_with fail
    go_ret
    exact ⟨rfl, Below.refl _ _⟩
theorem drawn_below {P : Program} {f : FuncId} {args : Array Value} {w : World} {v : Value} (h : Calls P f args w fun e w' => e = .returned v ∧ ∃ d, w' = w.drewN d) : Calls P f args w fun e w' => e = .returned v ∧ Below w.heap.size w w' :=
  h.mono fun _ _ ⟨he, d, hd⟩ => ⟨he, by rw [hd]; exact below_drewN (Below.refl _ _) d⟩
set_option maxRecDepth 100000 in
set_option maxHeartbeats 4000000 in
theorem fnExactEqualVector.small (a : Option Addr) (cap : Nat) (xs : List R) (b : Option Addr) (cbp : Nat) (ys : List R) (w w0 : World) (hbig : ys.length + xs.length ≤ 1048576) (hw : w0 = w) (hL : AllIn w0 [(b, ys), (a, xs)]) :
    Calls Try.prog 7 #[.slice a xs.length cap, .slice b ys.length cbp] w0 fun e w' => e = .returned (.bool true) ∧ Below w.heap.size w w' := by
  have HL0 := Lib.hid hL
  have Hb0 : Hid (Below w.heap.size w w0) := by rw [hw]; exact Below.refl _ _
  have HS := Lib.hid (fun B a1 a2 c1 c2 w h1 h2 => drawn_below (spec_EqualVector B a1 a2 c1 c2 xs ys (by omega) (by omega) w h1 h2))
  have HI := Lib.hid (fun B a1 a2 c1 c2 w h1 h2 => drawn_below (impl_EqualVector B a1 a2 c1 c2 xs ys (by omega) (by omega) w h1 h2))
  generalize eqV xs ys = g at *
  clear hL hw
  have hbx : xs.length ≤ 1048576 := by omega
  have hby : ys.length ≤ 1048576 := by omega
  go_enter Try.func7, Try.ntmps7
  go_wp2_with fail
  refine (sz_ok a xs.length cap 1048576 (by omega) (by omega) w0).mono ?_
  rintro e w1 ⟨rfl, rfl⟩
  go_wp2_with fail
  refine (sz_ok b ys.length cbp _ (by omega) (by omega) w0).mono ?_
  rintro e w1 ⟨rfl, rfl⟩
  go_wp2_with fail
  refine (laws_toRatS _ a cap xs (by omega) w0 (Nat.le_refl _) (HL0.out.get a xs (by simp))).mono ?_
  rintro e w1 hc
  obtain ⟨a1, c1, rfl, hr1, ha1, ho1, hb1⟩ := copied hc
  have Hb1 := Lib.hid (Hb0.out.trans (hb1.mono Hb0.out.size))
  have HL1 := Lib.hid ((HL0.out.below hb1).add hr1)
  clear hr1 ha1 ho1 hb1 hc HL0 Hb0
  go_wp2_with fail
  refine (laws_toRatS _ b cbp ys (by omega) w1 (Nat.le_refl _) (HL1.out.get b ys (by simp))).mono ?_
  rintro e w2 hc
  obtain ⟨a2, c2, rfl, hr2, ha2, ho2, hb2⟩ := copied hc
  have Hb2 := Lib.hid (Hb1.out.trans (hb2.mono Hb1.out.size))
  have HL2 := Lib.hid ((HL1.out.below hb2).add hr2)
  clear hr2 ha2 ho2 hb2 hc HL1 Hb1
  go_wp2_with fail
  refine (HS.out w2.heap.size a1 a2 c1 c2 w2 (HL2.out.get a1 xs (by simp)) (HL2.out.get a2 ys (by simp))).mono ?_
  rintro e w3 ⟨rfl, hb3⟩
  have Hb3 := Lib.hid (Hb2.out.trans (hb3.mono Hb2.out.size))
  have HL3 := Lib.hid (HL2.out.below hb3)
  clear hb3 HL2 Hb2
  go_wp2_with fail
  refine (laws_toRatS _ a cap xs (by omega) w3 (Nat.le_refl _) (HL3.out.get a xs (by simp))).mono ?_
  rintro e w4 hc
  obtain ⟨a4, c4, rfl, hr4, ha4, ho4, hb4⟩ := copied hc
  have Hb4 := Lib.hid (Hb3.out.trans (hb4.mono Hb3.out.size))
  have HL4 := Lib.hid ((HL3.out.below hb4).add hr4)
  clear hr4 ha4 ho4 hb4 hc HL3 Hb3
  go_wp2_with fail
  refine (laws_toRatS _ b cbp ys (by omega) w4 (Nat.le_refl _) (HL4.out.get b ys (by simp))).mono ?_
  rintro e w5 hc
  obtain ⟨a5, c5, rfl, hr5, ha5, ho5, hb5⟩ := copied hc
  have Hb5 := Lib.hid (Hb4.out.trans (hb5.mono Hb4.out.size))
  have HL5 := Lib.hid ((HL4.out.below hb5).add hr5)
  clear hr5 ha5 ho5 hb5 hc HL4 Hb4
  go_wp2_with fail
  refine (HI.out w5.heap.size a4 a5 c4 c5 w5 (HL5.out.get a4 xs (by simp)) (HL5.out.get a5 ys (by simp))).mono ?_
  rintro e w6 ⟨rfl, hb6⟩
  have Hb6 := Lib.hid (Hb5.out.trans (hb6.mono Hb5.out.size))
  have HL6 := Lib.hid (HL5.out.below hb6)
  clear hb6 HL5 Hb5
  go_wp2_with fail
  refine (laws_toRatS _ a cap xs (by omega) w6 (Nat.le_refl _) (HL6.out.get a xs (by simp))).mono ?_
  rintro e w7 hc
  obtain ⟨a7, c7, rfl, hr7, ha7, ho7, hb7⟩ := copied hc
  have Hb7 := Lib.hid (Hb6.out.trans (hb7.mono Hb6.out.size))
  have HL7 := Lib.hid ((HL6.out.below hb7).add hr7)
  clear hr7 ha7 ho7 hb7 hc HL6 Hb6
  go_wp2_with fail
  refine (laws_eqRatS w7.heap.size a4 a7 c4 c7 xs (by omega) w7 (Nat.le_refl _) (HL7.out.get a4 xs (by simp)) (HL7.out.get a7 xs (by simp))).mono ?_
  rintro e w8 ⟨rfl, hb8⟩
  have Hb8 := Lib.hid (Hb7.out.trans (hb8.mono Hb7.out.size))
  have HL8 := Lib.hid (HL7.out.below hb8)
  clear hb8 HL7 Hb7
  go_wp2_with fail
  refine (laws_toRatS _ b cbp ys (by omega) w8 (Nat.le_refl _) (HL8.out.get b ys (by simp))).mono ?_
  rintro e w9 hc
  obtain ⟨a9, c9, rfl, hr9, ha9, ho9, hb9⟩ := copied hc
  have Hb9 := Lib.hid (Hb8.out.trans (hb9.mono Hb8.out.size))
  have HL9 := Lib.hid ((HL8.out.below hb9).add hr9)
  clear hr9 ha9 ho9 hb9 hc HL8 Hb8
  go_wp2_with fail
  refine (laws_eqRatS w9.heap.size a5 a9 c5 c9 ys (by omega) w9 (Nat.le_refl _) (HL9.out.get a5 ys (by simp)) (HL9.out.get a9 ys (by simp))).mono ?_
  rintro e w10 ⟨rfl, hb10⟩
  have Hb10 := Lib.hid (Hb9.out.trans (hb10.mono Hb9.out.size))
  have HL10 := Lib.hid (HL9.out.below hb10)
  clear hb10 HL9 Hb9
  go_wp2_with fail
  go_ret
  exact ⟨rfl, Hb10.out⟩
theorem fnExactEqualVector.walk (a : Option Addr) (cap : Nat) (xs : List R) (b : Option Addr) (cbp : Nat) (ys : List R) (w : World) (hm : xs.length ≤ 9223372036854775807) (hx : RatsIn w.heap.size w a xs) (hm2 : ys.length ≤ 9223372036854775807) (hy : RatsIn w.heap.size w b ys) :
    Calls Try.prog 7 #[.slice a xs.length cap, .slice b ys.length cbp] w fun e w' => e = .returned (.bool true) ∧ Below w.heap.size w w' := by
  by_cases hbig : ys.length + xs.length ≤ 1048576
  · exact fnExactEqualVector.small a cap xs b cbp ys w w hbig rfl (((AllIn.start w).add hx).add hy)
  · clear hx hy
    by_cases hbig2 : xs.length ≤ 1048576
    · go_enter Try.func7, Try.ntmps7
      go_wp2_with fail
      refine (sz_ok a xs.length cap 1048576 (by omega) (by omega) w).mono ?_
      rintro e w1 ⟨rfl, rfl⟩
      go_wp2_with fail
      refine (sz_no b ys.length cbp _ (by omega) (by omega) (by omega) (by omega) w).mono ?_
      rintro e w1 ⟨rfl, rfl⟩
      go_wp2_with fail
      go_ret
      exact ⟨rfl, Below.refl _ _⟩
    · go_enter Try.func7, Try.ntmps7
      go_wp2_with fail
      refine (sz_no a xs.length cap 1048576 (by omega) hm (by omega) (by omega) w).mono ?_
      rintro e w1 ⟨rfl, rfl⟩
      go_wp2_with fail
      go_ret
      exact ⟨rfl, Below.refl _ _⟩
end Go.Proofs.Ytlaohlcghdbjhaa
