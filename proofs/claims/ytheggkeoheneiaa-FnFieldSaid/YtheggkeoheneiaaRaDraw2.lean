/- The draws of two fractions, and of RatOf's arguments. -/
import Derived.Test.YtheggkeoheneiaaRaDraw
import Derived.Test.YtheggkeoheneiaaRaF
namespace Go.Proofs.Ytheggkeoheneiaa
open Go.RowKit

def TwoRats (w : World) (e : Ending) (w' : World) : Prop :=
  ∃ an ad bn bd : Int, e = .returned (.tuple #[.agg #[.int .i64 an, .int .i64 ad], .agg #[.int .i64 bn, .int .i64 bd]]) ∧ Below w.heap.size w w'
theorem alloc_at {w : World} {p : Nat} {o : Obj} (h : w.heap[p]? = some o) (o2 : Obj) : (w.alloc o2).heap[p]? = some o := by
  rw [Below.heap_alloc _ _ _ (lt_of_at h)]; exact h
theorem quad_set {w1 : World} {p q : Nat} (hpq : p ≠ q) {x y u v a b c d : Value} (h0 : w1.cell? ⟨p, 0, none⟩ = some a) (h1 : w1.cell? ⟨p, 1, none⟩ = some b) (h2 : w1.cell? ⟨q, 0, none⟩ = some c) (h3 : w1.cell? ⟨q, 1, none⟩ = some d) :
    ((((w1.setCell ⟨p, 0, none⟩ x).setCell ⟨p, 1, none⟩ y).setCell ⟨q, 0, none⟩ u).setCell ⟨q, 1, none⟩ v).cell? ⟨p, 0, none⟩ = some x ∧
    ((((w1.setCell ⟨p, 0, none⟩ x).setCell ⟨p, 1, none⟩ y).setCell ⟨q, 0, none⟩ u).setCell ⟨q, 1, none⟩ v).cell? ⟨p, 1, none⟩ = some y ∧
    ((((w1.setCell ⟨p, 0, none⟩ x).setCell ⟨p, 1, none⟩ y).setCell ⟨q, 0, none⟩ u).setCell ⟨q, 1, none⟩ v).cell? ⟨q, 0, none⟩ = some u ∧
    ((((w1.setCell ⟨p, 0, none⟩ x).setCell ⟨p, 1, none⟩ y).setCell ⟨q, 0, none⟩ u).setCell ⟨q, 1, none⟩ v).cell? ⟨q, 1, none⟩ = some v := by
  obtain ⟨k0, k1⟩ := pair_set (x := x) (y := y) h0 h1
  have g2 : ((w1.setCell ⟨p, 0, none⟩ x).setCell ⟨p, 1, none⟩ y).cell? ⟨q, 0, none⟩ = some c := by
    rw [World.cell?_setCell_other _ _ _ _ (by intro e; injection e; omega), World.cell?_setCell_other _ _ _ _ (by intro e; injection e; omega)]; exact h2
  have g3 : ((w1.setCell ⟨p, 0, none⟩ x).setCell ⟨p, 1, none⟩ y).cell? ⟨q, 1, none⟩ = some d := by
    rw [World.cell?_setCell_other _ _ _ _ (by intro e; injection e; omega), World.cell?_setCell_other _ _ _ _ (by intro e; injection e; omega)]; exact h3
  obtain ⟨k2, k3⟩ := pair_set (x := u) (y := v) g2 g3
  refine ⟨?_, ?_, k2, k3⟩
  · rw [World.cell?_setCell_other _ _ _ _ (by intro e; injection e; omega), World.cell?_setCell_other _ _ _ _ (by intro e; injection e; omega)]; exact k0
  · rw [World.cell?_setCell_other _ _ _ _ (by intro e; injection e; omega), World.cell?_setCell_other _ _ _ _ (by intro e; injection e; omega)]; exact k1
set_option maxRecDepth 100000 in
set_option maxHeartbeats 2000000 in
theorem spec_l3Two (a : Option Addr) (len cap : Nat) (w : World) (hcode : CodeAt w.heap.size w a len) :
    Calls Try.prog 36 #[.slice a len cap] w (TwoRats w) := by
  have hb0 : Below w.heap.size w ((w.alloc (.cells #[.int .i64 0, .int .i64 0] 25)).alloc (.cells #[.int .i64 0, .int .i64 0] 25)) := ((Below.refl _ _).alloc (Nat.le_refl _) _).alloc (by rw [size1]; omega) _
  have Hs0 := Lib.hid (size2 w (.cells #[.int .i64 0, .int .i64 0] 25) (.cells #[.int .i64 0, .int .i64 0] 25))
  have Hb0 := Lib.hid hb0
  have Hc0 := Lib.hid (hcode.below hb0)
  have Ha0 := Lib.hid (alloc_at (new_at w (.cells #[.int .i64 0, .int .i64 0] 25)) (.cells #[.int .i64 0, .int .i64 0] 25))
  have Hd0 := Lib.hid (show ((w.alloc (.cells #[.int .i64 0, .int .i64 0] 25)).alloc (.cells #[.int .i64 0, .int .i64 0] 25)).heap[w.heap.size + 1]? = some (.cells #[.int .i64 0, .int .i64 0] 25) by
    have := new_at (w.alloc (.cells #[.int .i64 0, .int .i64 0] 25)) (.cells #[.int .i64 0, .int .i64 0] 25)
    rw [size1] at this; exact this)
  clear hb0 hcode
  go_enter Try.func36, Try.ntmps36
  go_wp2_with fail
  refine (spec_l1New w.heap.size a len cap _ Hc0.out).mono ?_
  rintro e w1 ⟨rfl, hc1, hb1, hsz⟩
  rw [Hs0.out] at hc1 hb1 hsz ⊢
  have Hb1 := Lib.hid (Hb0.out.trans (hb1.mono (by omega)))
  have Hc1 := Lib.hid (Hc0.out.below (hb1.mono (by omega)))
  have Hu1 := Lib.hid hc1
  have Ha1 := Lib.hid ((hb1.block w.heap.size (by omega)).trans Ha0.out)
  have Hd1 := Lib.hid ((hb1.block (w.heap.size + 1) (by omega)).trans Hd0.out)
  clear hc1 hb1 Hb0 Hc0 Ha0 Hd0 Hs0
  go_wp2_with fail
  refine (spec_l3Draw w.heap.size (w.heap.size + 2) a len cap w1 (by omega) Hu1.out Hc1.out).mono ?_
  rintro e w2 ⟨an, ad, rfl, hc2, ho2⟩
  have hz2 : w.heap.size + 3 ≤ w2.heap.size := by have := ho2.low.size; omega
  have Hb2 := Lib.hid ((Hb1.out.trans (ho2.below (by omega))).alloc (by omega) (.cells #[.int .i64 an, .int .i64 ad] 25))
  have Hc2 := Lib.hid ((Hc1.out.below (ho2.below (by omega))).below ((Below.refl w.heap.size w2).alloc (by omega) (.cells #[.int .i64 an, .int .i64 ad] 25)))
  have Hu2 := Lib.hid (hc2.alloc (.cells #[.int .i64 an, .int .i64 ad] 25))
  have Ha2 := Lib.hid (alloc_at ((ho2.block (by omega) (lt_of_at Ha1.out)).trans Ha1.out) (.cells #[.int .i64 an, .int .i64 ad] 25))
  have Hd2 := Lib.hid (alloc_at ((ho2.block (by omega) (lt_of_at Hd1.out)).trans Hd1.out) (.cells #[.int .i64 an, .int .i64 ad] 25))
  have Hm2 := Lib.hid (new_at w2 (.cells #[.int .i64 an, .int .i64 ad] 25))
  obtain ⟨q0, q1, _, _⟩ := cells2_of Hm2.out
  have Hcall := Lib.hid (show Calls Try.prog 44 #[.pointer (some ⟨w.heap.size + 2, 0, none⟩)] (w2.alloc (.cells #[.int .i64 an, .int .i64 ad] 25)).drew fun e w' => ∃ bn bd : Int, (e = .returned (.agg #[.int .i64 bn, .int .i64 bd]) ∧ True) ∧ w'.cell? ⟨w2.heap.size, 0, none⟩ = some (.int .i64 an) ∧ w'.cell? ⟨w2.heap.size, 1, none⟩ = some (.int .i64 ad) ∧
      w'.heap[w.heap.size]? = some (.cells #[.int .i64 0, .int .i64 0] 25) ∧ w'.heap[w.heap.size + 1]? = some (.cells #[.int .i64 0, .int .i64 0] 25) ∧ Below w.heap.size w w' from
    (spec_l3Draw w.heap.size (w.heap.size + 2) a len cap _ (by omega) (show Cur (w2.alloc (.cells #[.int .i64 an, .int .i64 ad] 25)).drew _ _ _ _ from Hu2.out) (show CodeAt _ (w2.alloc (.cells #[.int .i64 an, .int .i64 ad] 25)).drew _ _ from Hc2.out)).mono fun e w' ⟨bn, bd, he, _, ho⟩ => by
      have hm := (ho.block (by omega) (lt_of_at Hm2.out)).trans Hm2.out
      obtain ⟨c0, c1, _, _⟩ := cells2_of hm
      exact ⟨bn, bd, ⟨he, trivial⟩, c0, c1, (ho.block (by omega) (lt_of_at Ha2.out)).trans Ha2.out, (ho.block (by omega) (lt_of_at Hd2.out)).trans Hd2.out, (Hb2.out.drew).trans (ho.below (by omega))⟩)
  clear hc2 ho2 Hb1 Hc1 Hu1 Ha1 Hd1 Hb2 Hc2 Hu2 Ha2 Hd2 Hm2
  go_wp2_with fail
  go_region_with (go_at_call 44; refine Hcall.out.mono ?_; rintro e w3 ⟨bn, bd, ⟨rfl, _⟩, q0, q1, ha3, hd3, hb3⟩; obtain ⟨a0, a1, fa0, fa1⟩ := cells2_of ha3; obtain ⟨b0, b1, fb0, fb1⟩ := cells2_of hd3; have Hb3 := Lib.hid hb3; clear hb3)
  all_goals
    have Q := quad_set (p := w.heap.size) (q := w.heap.size + 1) (by omega) (x := .int .i64 an) (y := .int .i64 ad) (u := .int .i64 bn) (v := .int .i64 bd) a0 a1 b0 b1
    go_wp2_with fail
    exact bodyPost_ret (v := .tuple #[.agg #[.int .i64 an, .int .i64 ad], .agg #[.int .i64 bn, .int .i64 bd]]) (by simp [results, Try.results36, go_sem, Q.1, Q.2.1, Q.2.2.1, Q.2.2.2]) rfl ⟨an, ad, bn, bd, rfl, by have h := Hb3.out; exact (((h.setCell (p := ⟨w.heap.size, 0, none⟩) (Nat.le_refl _) _).setCell (p := ⟨w.heap.size, 1, none⟩) (Nat.le_refl _) _).setCell (p := ⟨w.heap.size + 1, 0, none⟩) (Nat.le_succ _) _).setCell (p := ⟨w.heap.size + 1, 1, none⟩) (Nat.le_succ _) _⟩
theorem code_alloc {w : World} {a : Option Addr} {len : Nat} (h : CodeAt w.heap.size w a len) (o1 o2 : Obj) : CodeAt ((w.alloc o1).alloc o2).heap.size ((w.alloc o1).alloc o2) a len :=
  (h.below (((Below.refl w.heap.size w).alloc (Nat.le_refl _) o1).alloc (by rw [size1]; omega) o2)).mono (by rw [size2]; omega)
set_option maxHeartbeats 1000000 in
theorem spec_DrawAddRat (a : Option Addr) (len cap : Nat) (w : World) (hcode : CodeAt w.heap.size w a len) :
    Calls Try.prog 14 #[.slice a len cap] w (TwoRats w) := by
  have Hc0 := Lib.hid (code_alloc hcode (.cells #[.int .i64 0, .int .i64 0] 25) (.cells #[.int .i64 0, .int .i64 0] 25))
  clear hcode
  go_enter Try.func14, Try.ntmps14
  go_wp2_with fail
  refine (spec_l3Two a len cap _ Hc0.out).mono ?_
  rintro e w1 ⟨an, ad, bn, bd, rfl, hb1⟩
  obtain ⟨a0, a1, b0, b1, _⟩ := kept2 hb1
  have f1 := free_after hb1 (p := ⟨w.heap.size, 0, none⟩) (by rw [size2]; show w.heap.size < _; omega) (by simp)
  have f2 := free_after hb1 (p := ⟨w.heap.size, 1, none⟩) (by rw [size2]; show w.heap.size < _; omega) (by simp)
  have f3 := free_after hb1 (p := ⟨w.heap.size + 1, 0, none⟩) (by rw [size2]; show w.heap.size + 1 < _; omega) (by simp)
  have f4 := free_after hb1 (p := ⟨w.heap.size + 1, 1, none⟩) (by rw [size2]; show w.heap.size + 1 < _; omega) (by simp)
  have Q := quad_set (p := w.heap.size) (q := w.heap.size + 1) (by omega) (x := .int .i64 an) (y := .int .i64 ad) (u := .int .i64 bn) (v := .int .i64 bd) a0 a1 b0 b1
  have Hb := Lib.hid (low2 hb1)
  clear hb1
  go_wp2_with fail
  exact bodyPost_ret (v := .tuple #[.agg #[.int .i64 an, .int .i64 ad], .agg #[.int .i64 bn, .int .i64 bd]]) (by simp [results, Try.results14, go_sem, Q.1, Q.2.1, Q.2.2.1, Q.2.2.2]) rfl ⟨an, ad, bn, bd, rfl, by have h := Hb.out; exact (((h.setCell (p := ⟨w.heap.size, 0, none⟩) (Nat.le_refl _) _).setCell (p := ⟨w.heap.size, 1, none⟩) (Nat.le_refl _) _).setCell (p := ⟨w.heap.size + 1, 0, none⟩) (Nat.le_succ _) _).setCell (p := ⟨w.heap.size + 1, 1, none⟩) (Nat.le_succ _) _⟩

def ofN : List Int := [0, 6, -6, 1000000000000000000, 1000000000000000001, 14, -9223372036854775808]
def ofD : List Int := [0, 1, 4, -4, 2000000000, 7, 1000000000]
theorem ofN_cells : (ofN.map (Value.int .i64)).toArray = #[.int .i64 0, .int .i64 6, .int .i64 (-6), .int .i64 1000000000000000000, .int .i64 1000000000000000001, .int .i64 14, .int .i64 (-9223372036854775808)] := rfl
theorem ofD_cells : (ofD.map (Value.int .i64)).toArray = #[.int .i64 0, .int .i64 1, .int .i64 4, .int .i64 (-4), .int .i64 2000000000, .int .i64 7, .int .i64 1000000000] := rfl
def TwoNums (w : World) (e : Ending) (w' : World) : Prop := ∃ x y : Int, e = .returned (.tuple #[.int .i64 x, .int .i64 y]) ∧ Below w.heap.size w w'
set_option maxHeartbeats 1000000 in
theorem spec_DrawRatOf (a : Option Addr) (len cap : Nat) (w : World) (hcode : CodeAt w.heap.size w a len) :
    Calls Try.prog 22 #[.slice a len cap] w (TwoNums w) := by
  have Hc := Lib.hid hcode
  clear hcode
  go_enter Try.func22, Try.ntmps22
  go_wp2_with fail
  refine (spec_l1New w.heap.size a len cap w Hc.out).mono ?_
  rintro e w1 ⟨rfl, hc1, hb1, hsz⟩
  have Hc1 := Lib.hid (Hc.out.below hb1)
  have Hu1 := Lib.hid hc1
  have Hb1 := Lib.hid hb1
  clear hc1 hb1 hsz
  go_wp2_with fail
  refine (pick_new w.heap.size w.heap.size a len cap 7 ofN _ ofN_cells 7 rfl (by decide) (by decide) _ (Nat.le_refl _) Hu1.out Hc1.out _ (by simp)).mono ?_
  rintro e w2 ⟨x, rfl, hc2, ho2⟩
  have Hc2 := Lib.hid (Hc1.out.below (ho2.below (Nat.le_refl _)))
  have Hu2 := Lib.hid hc2
  have Hb2 := Lib.hid (Hb1.out.trans (ho2.below (Nat.le_refl _)))
  clear hc2 ho2 Hc1 Hu1 Hb1
  go_wp2_with fail
  refine (pick_new w.heap.size w.heap.size a len cap 7 ofD _ ofD_cells 7 rfl (by decide) (by decide) _ (Nat.le_refl _) Hu2.out Hc2.out _ (by simp)).mono ?_
  rintro e w3 ⟨y, rfl, hc3, ho3⟩
  have Hb3 := Lib.hid (Hb2.out.trans (ho3.below (Nat.le_refl _)))
  clear hc3 ho3
  go_wp2_with fail
  go_ret2
  exact ⟨x, y, rfl, Hb3.out⟩
end Go.Proofs.Ytheggkeoheneiaa
