/- impl's AddScaled and IntsToRats. -/
import Derived.Test.YtlaohlcghdbjhaaDoorVeVec
namespace Go.Proofs.YtlaohlcghdbjhaaDoor
open Go.RowKit Go.Shelf
open Ve (R)
theorem len_ne {m n : Nat} (h : m ≠ n) : ((m : Int) == (n : Int)) = false ∧ ((m : Int) != (n : Int)) = true := by
  have h1 : ((m : Int) == (n : Int)) = false := by rw [beq_eq_false_iff_ne]; omega
  exact ⟨h1, by rw [bne, h1]; rfl⟩
theorem impl_scaledSums (a1 a2 : Option Addr) (n1 n2 c1 c2 : Nat) (u : R) (w : World) : Calls Tryd.prog 30 #[.slice a1 n1 c1, .agg #[.int .i64 u.1, .int .i64 u.2], .slice a2 n2 c2] w fun e w' =>
    e = .returned (.func (.func 51) #[] #[.pointer (some ⟨w.heap.size, 0, none⟩), .pointer (some ⟨w.heap.size + 1, 0, none⟩), .pointer (some ⟨w.heap.size + 1 + 1, 0, none⟩)]) ∧ ((w.alloc (.cells #[.slice a1 n1 c1] 24)).alloc (.cells #[.int .i64 u.1, .int .i64 u.2] 26)).alloc (.cells #[.slice a2 n2 c2] 24) = w' := by
  go_enter Tryd.func30, Tryd.ntmps30
  go_wp2_with fail
  go_ret
  exact ⟨rfl, rfl⟩
theorem scaled_gives {Ba Bk Bb : Nat} (w : World) (a1 a2 : Option Addr) (c1 c2 : Nat) (xs : List R) (u : R) (ys : List R) (hl : xs.length = ys.length) (hn : ys.length ≤ 1048576) (h1 : RatsIn w.heap.size w a1 xs) (h2 : RatsIn w.heap.size w a2 ys)
    (b4 : Boxed w Ba 24 (.slice a1 xs.length c1)) (b5 : BoxAt w Bk u) (b6 : Boxed w Bb 24 (.slice a2 ys.length c2)) :
    Gives w 51 #[.pointer (some ⟨Ba, 0, none⟩), .pointer (some ⟨Bk, 0, none⟩), .pointer (some ⟨Bb, 0, none⟩)] (Ve.sc xs u ys) xs.length := by
  intro W0 hB0 l J Jx W hW hJ hJx hY h0
  have hb := hB0.trans (hW.mono hB0.size)
  have l1 := b4.lt
  have l2 := b5.lt
  have l3 := b6.lt
  have hs := hb.size
  exact scaledSums1 2 (by omega) l Ba Bk Bb w.heap.size 0 w.heap.size a1 a2 c1 c2 xs u ys (by omega) hn W.heap.size J Jx hJ hY W hs hs (by omega) (by omega) (by omega) (by omega) (by omega) (by omega)
    ((hb.cell (p := ⟨Ba, 0, none⟩) l1).trans b4.cell) (b5.below hb) ((hb.cell (p := ⟨Bb, 0, none⟩) l3).trans b6.cell) (h1.below hb) (h2.below hb) h0
set_option maxRecDepth 100000 in
set_option maxHeartbeats 4000000 in
theorem impl_AddScaled (B : Nat) (a1 a2 : Option Addr) (c1 c2 : Nat) (xs : List R) (u : R) (ys : List R) (_hn : xs.length ≤ 1048576) (hn2 : ys.length ≤ 1048576) (w : World) (hBw : B ≤ w.heap.size) (h1 : RatsIn B w a1 xs) (h2 : RatsIn B w a2 ys) :
    Calls Tryd.prog 7 #[.slice a1 xs.length c1, .agg #[.int .i64 u.1, .int .i64 u.2], .slice a2 ys.length c2] w (MakesRatsK (Ve.scR xs u ys) (Ve.scK xs u ys) w) := by
  by_cases hl : xs.length = ys.length
  · obtain ⟨e1, e2⟩ := Ve.sc_same (k := u) hl
    rw [e1, e2]
    have hb0 : Below w.heap.size w ((((w.alloc (.cells #[.int .i64 u.1, .int .i64 u.2] 26)).alloc (.cells #[.slice a1 xs.length c1] 24)).alloc (.cells #[.int .i64 u.1, .int .i64 u.2] 26)).alloc (.cells #[.slice a2 ys.length c2] 24)) := by (repeat' (first | exact Below.refl _ _ | exact Nat.le_refl _ | refine Below.setCell ?_ ?_ _ | refine Below.alloc ?_ ?_ _ | refine below_drewN ?_ _ | refine Below.drew ?_ | (simp; done) | (simp; omega)))
    have b4 := ((Boxed.new (w.alloc (.cells #[.int .i64 u.1, .int .i64 u.2] 26)) 24 (.slice a1 xs.length c1)).alloc (.cells #[.int .i64 u.1, .int .i64 u.2] 26)).alloc (.cells #[.slice a2 ys.length c2] 24)
    have b5 := (BoxAt.new ((w.alloc (.cells #[.int .i64 u.1, .int .i64 u.2] 26)).alloc (.cells #[.slice a1 xs.length c1] 24)) u).alloc (.cells #[.slice a2 ys.length c2] 24)
    have b6 := Boxed.new (((w.alloc (.cells #[.int .i64 u.1, .int .i64 u.2] 26)).alloc (.cells #[.slice a1 xs.length c1] 24)).alloc (.cells #[.int .i64 u.1, .int .i64 u.2] 26)) 24 (.slice a2 ys.length c2)
    simp only [World.size_alloc] at b4 b5 b6
    have hG := scaled_gives _ a1 a2 c1 c2 xs u ys hl hn2 (((h1.mono hBw).below hb0).mono hb0.size) (((h2.mono hBw).below hb0).mono hb0.size) b4 b5 b6
    have HV := Lib.hid (callsIn_wide.1 (impl_vectorOf_in _ _ (enters_of Tryd.func51 (by kernel_rfl) rfl) (Ve.sc xs u ys) xs.length (by omega) _ hG))
    have HB0 := Lib.hid hb0
    have hlb : ((xs.length : Int) == (ys.length : Int)) = true ∧ ((xs.length : Int) != (ys.length : Int)) = false := by rw [hl]; simp
    obtain ⟨l1, l2⟩ := hlb
    clear e1 e2 h1 h2 hl hG b4 b5 b6 hb0
    go_enter Tryd.func7, Tryd.ntmps7
    go_wp2_with fail
    refine (impl_scaledSums _ _ _ _ _ _ u _).mono ?_
    rintro e w1 ⟨rfl, rfl⟩
    go_wp2_with fail
    refine HV.out.mono ?_
    rintro e w2 ⟨v, rfl, ho, hb2⟩
    have HO := Lib.hid (ho.lower HB0.out.size)
    have HB2 := Lib.hid (HB0.out.trans (hb2.mono HB0.out.size))
    clear ho hb2
    go_wp2_with fail
    go_ret2
    exact ⟨_, rfl, HO.out, HB2.out⟩
  · obtain ⟨e1, e2⟩ := Ve.sc_len (k := u) hl
    rw [e1, e2]
    obtain ⟨l1, l2⟩ := len_ne hl
    clear e1 e2 h1 h2
    go_enter Tryd.func7, Tryd.ntmps7
    go_wp2_with fail
    go_ret2
    exact ⟨_, rfl, OwnRats.nil _ _, by (repeat' (first | exact Below.refl _ _ | exact Nat.le_refl _ | refine Below.setCell ?_ ?_ _ | refine Below.alloc ?_ ?_ _ | refine below_drewN ?_ _ | refine Below.drew ?_ | (simp; done) | (simp; omega)))⟩
theorem impl_integers (a : Option Addr) (n c : Nat) (w : World) : Calls Tryd.prog 37 #[.slice a n c] w fun e w' =>
    e = .returned (.func (.func 55) #[] #[.pointer (some ⟨w.heap.size, 0, none⟩)]) ∧ w.alloc (.cells #[.slice a n c] 35) = w' := by
  go_enter Tryd.func37, Tryd.ntmps37
  go_wp2_with fail
  go_ret
  exact ⟨rfl, rfl⟩
theorem integers_gives {Ba : Nat} (w : World) (a : Option Addr) (c : Nat) (zs : List Int) (hn : zs.length ≤ 1048576) (h1 : NumsIn w.heap.size w a zs) (b4 : Boxed w Ba 35 (.slice a zs.length c)) :
    Gives w 55 #[.pointer (some ⟨Ba, 0, none⟩)] (Ve.ofI zs) zs.length := by
  intro W0 hB0 l J Jx W hW hJ hJx hY h0
  have hb := hB0.trans (hW.mono hB0.size)
  have l1 := b4.lt
  have hs := hb.size
  exact integers1 2 (by omega) l Ba w.heap.size 0 w.heap.size a c zs hn W.heap.size J Jx hJ hY W hs hs ((hb.cell (p := ⟨Ba, 0, none⟩) l1).trans b4.cell) (h1.below hb) h0
set_option maxRecDepth 100000 in
set_option maxHeartbeats 4000000 in
theorem impl_IntsToRats (B : Nat) (a : Option Addr) (c : Nat) (zs : List Int) (hn : zs.length ≤ 1048576) (w : World) (hBw : B ≤ w.heap.size) (h1 : NumsIn B w a zs) :
    Calls Tryd.prog 14 #[.slice a zs.length c] w (MakesRatsK (Ve.outR (Ve.ofI zs) zs.length) (Ve.allK (Ve.ofI zs) zs.length) w) := by
  have hb0 : Below w.heap.size w (w.alloc (.cells #[.slice a zs.length c] 35)) := by (repeat' (first | exact Below.refl _ _ | exact Nat.le_refl _ | refine Below.setCell ?_ ?_ _ | refine Below.alloc ?_ ?_ _ | refine below_drewN ?_ _ | refine Below.drew ?_ | (simp; done) | (simp; omega)))
  have b4 := Boxed.new w 35 (.slice a zs.length c)
  have hG := integers_gives _ a c zs hn (((h1.mono hBw).below hb0).mono hb0.size) b4
  have HV := Lib.hid (callsIn_wide.1 (impl_vectorOf_in _ _ (enters_of Tryd.func55 (by kernel_rfl) rfl) (Ve.ofI zs) zs.length hn _ hG))
  have HB0 := Lib.hid hb0
  clear h1 hG b4 hb0
  go_enter Tryd.func14, Tryd.ntmps14
  go_wp2_with fail
  refine (impl_integers _ _ _ _).mono ?_
  rintro e w1 ⟨rfl, rfl⟩
  go_wp2_with fail
  refine HV.out.mono ?_
  rintro e w2 ⟨v, rfl, ho, hb2⟩
  have HO := Lib.hid (ho.lower HB0.out.size)
  have HB2 := Lib.hid (HB0.out.trans (hb2.mono HB0.out.size))
  clear ho hb2
  go_wp2_with fail
  go_ret2
  exact ⟨_, rfl, HO.out, HB2.out⟩
end Go.Proofs.YtlaohlcghdbjhaaDoor
