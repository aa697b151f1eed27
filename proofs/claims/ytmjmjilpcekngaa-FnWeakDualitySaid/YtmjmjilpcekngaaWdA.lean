/- Linear programs and results that are drawn, by their cells; the specification's SolveLP in closed words; at0. -/
import Derived.Test.YtmjmjilpcekngaaSxG
import Derived.Test.YtmjmjilpcekngaaGDl
import Derived.Test.YtmjmjilpcekngaaVeDraw
import Derived.Test.YtmjmjilpcekngaaLkRats
namespace Go.Proofs.Ytmjmjilpcekngaa
open Go.RowKit
open Ve (R)
open Ta (T)
open Lp (P Res)
theorem own_inR {B : Nat} {w : World} {v : Value} {xs : List R} (h : OwnRats B w v xs) : InRats w v xs := by
 obtain ⟨a, c, rfl, hr, _, _⟩ := own_rats h
 exact ⟨a, c, rfl, hr⟩
theorem own_nums {B : Nat} {w : World} {v : Value} {xs : List Int} (h : OwnInts B w v xs) : ∃ (a : Option Addr) (c : Nat), v = .slice a xs.length c ∧ NumsIn w.heap.size w a xs := by
 obtain ⟨a, c, rfl, hi, hb, _⟩ := own_reads h
 exact ⟨a, c, rfl, NumsIn.of_ints hi fun p hp => (hb p hp).2⟩
theorem drawn_lp {lo lo' : Nat} {w : World} {vA vB vC : Value} {A : List (List Int)} {B : List Int} {C : List R} (h : OwnAB lo w vA vB A B) (hc : OwnRats lo' w vC C) : LpC w vA vB vC ⟨A, B, C⟩ := by
 obtain ⟨b, c2, e2, hB⟩ := own_nums h.b
 obtain ⟨a, c1, rfl, hA⟩ := h.reads
 obtain ⟨c, c3, rfl, hC, _, _⟩ := own_rats hc
 exact ⟨a, b, c, c1, c2, c3, rfl, e2, rfl, ⟨hA, hB, hC⟩⟩
theorem cells_7 (A : List (List Int)) (h : ∀ j, j < A.length → (rw_ A j).length ≤ 7) : ∀ k, k ≤ A.length → cellsOf (A.take k) ≤ 7 * k
 | 0, _ => by simp [cellsOf]
 | k + 1, hk => by
  have h1 := cells_7 A h k (by omega)
  have h2 := h k (by omega)
  rw [cellsOf_take A k (by omega)]
  omega
theorem mid_fits {A : List (List Int)} {B : List Int} {C : List R} (h : LpMid A B C) : LpFits ⟨A, B, C⟩ := by
 have h1 := cells_7 A (fun j hj => (h.row j hj).2) A.length (Nat.le_refl _)
 rw [List.take_length] at h1
 have h2 := h.a3; have h3 := h.b4; have h4 := h.c6
 refine lpFits ?_
 unfold lpN
 show A.length + cellsOf A + B.length + C.length ≤ 1048576
 omega
theorem solve_fits (p : P) : ResFits (Ta.solve p) := by
 rcases hv : Lp.vldP p with _ | _
 ·
  rw [solve_no hv]; exact resFits (by simp [resN])
 ·
  rcases hr : Ta.run1 p with _ | r
  ·
   rw [solve_lim hv hr]; exact resFits (by simp [resN])
  ·
   rcases hc : Lp.chk p r with _ | _
   ·
    rw [solve_chk_no hv hr hc]; exact resFits (by simp [resN])
   ·
    rw [solve_chk_yes hv hr hc]; exact run1_fits hv hr
theorem spec_Solve_c {w : World} {x y z : Value} {p : P} (h : LpC w x y z p) (hn : LpFits p) :
  Calls Try.prog 8 #[.agg #[x, y, z]] w fun e w' => (∃ u0 u1 u2 u3 u4 u5 u6 : Value, e = .returned (.agg #[u0, u1, u2, u3, u4, u5, u6]) ∧ ResC w' u0 u1 u2 u3 u4 u5 u6 (Ta.solve p) ∧ OwnRats w.heap.size w' u1 (Ta.solve p).X ∧ OwnRats w.heap.size w' u2 (Ta.solve p).Y ∧ OwnRats w.heap.size w' u3 (Ta.solve p).ray ∧ ApX u1 u2 u3) ∧ Below w.heap.size w w' := by
 have h' := h
 obtain ⟨a, b, c, c1, c2, c3, rfl, rfl, rfl, hi⟩ := h
 refine (spec_SolveLP a b c c1 c2 c3 p hn w hi (fun q hq => lpIn_c c1 c2 c3 h'.rg hq)).mono fun e w' hm => ?_
 obtain ⟨⟨a', b', c', d1, d2, d3, rfl, h1, h2, h3, h4⟩, hb⟩ := hm
 exact ⟨⟨_, _, _, _, _, _, _, rfl, ⟨a', b', c', d1, d2, d3, rfl, rfl, rfl, rfl, rfl, rfl, rfl, ⟨(own_readsR h1).2, (own_readsR h2).2, (own_readsR h3).2⟩⟩, h1, h2, h3, h4⟩, hb⟩
set_option maxRecDepth 100000 in
set_option maxHeartbeats 1000000 in
theorem laws_at0 (B : Nat) (a : Option Addr) (len cap i : Nat) (hi : i ≤ 100) (hl : len ≤ 1048576) (w : World) (h : CodeAt B w a len) :
  Calls Try.prog 9 #[.slice a len cap, .int .i64 i] w fun e w' => (∃ x : Int, e = .returned (.int .i64 x) ∧ 0 ≤ x ∧ x ≤ 255) ∧ w = w' := by
 by_cases hlt : i < len
 ·
  obtain ⟨b, o, z, rfl, hb, hz0, hz1, hc⟩ := h.2 i hlt
  go_enter Try.func9, Try.ntmps9
  go_wp2_with fail
  go_ret
  exact ⟨⟨_, rfl, by omega, by omega⟩, rfl⟩
 ·
  go_enter Try.func9, Try.ntmps9
  go_wp2_with fail
  go_ret
  exact ⟨⟨_, rfl, by omega, by omega⟩, rfl⟩
end Go.Proofs.Ytmjmjilpcekngaa
