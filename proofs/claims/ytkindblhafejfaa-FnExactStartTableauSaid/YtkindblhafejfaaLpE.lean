/- spec.l5Gives, IsFeasible. -/
import Derived.Test.YtkindblhafejfaaLpD
import Derived.Test.YtkindblhafejfaaGRa
import Derived.Deep.RegionHeld3
namespace Go.Proofs.Ytkindblhafejfaa
open Go.RowKit
open Ve (R)
open Lp (P)
theorem cmul_since {P : Program} {f : FuncId} {args : Array Value} {wx : World} {v : Value} (h : Calls P f args wx fun e w' => e = .returned v ∧ Below wx.heap.size wx w') {B : World} (hB : Since B wx) :
    Calls P f args wx fun e w' => e = .returned v ∧ Since B w' := h.mono fun _ _ ⟨he, hb⟩ => ⟨he, hB.trans hb⟩
/-- One row, as l5Gives looks at it. -/
def gvOk (p : P) (v : List R) (b : List Int) (k : Nat) : Bool := Lp.idK (rw_ p.A k) v && decide (Lp.idR (rw_ p.A k) v = (b.getD k 0, 1))
theorem gv_bad {p : P} {v : List R} {b : List Int} {k : Nat} (hk : k < p.A.length) (h : gvOk p v b k = false) : Lp.gives p v b = false := by
  rw [Bool.eq_false_iff]
  intro h2
  unfold Lp.gives at h2
  rw [List.all_eq_true] at h2
  have h3 := h2 k (by simpa using hk)
  unfold gvOk at h
  rw [← rows_row] at h
  rw [h] at h3
  cases h3
theorem gv_good {p : P} {v : List R} {b : List Int} (h : ∀ k, k < p.A.length → gvOk p v b k = true) : Lp.gives p v b = true := by
  unfold Lp.gives
  rw [List.all_eq_true]
  intro k hk
  exact h k (by simpa using hk)
/-- A pair's two cells and a number's one, read later. -/
def PairNum (q bb k : Nat) (x : R) (z : Int) (B : World) : Prop :=
  B.cell? ⟨q, 0, none⟩ = some (.int .i64 x.1) ∧ B.cell? ⟨q, 1, none⟩ = some (.int .i64 x.2) ∧ B.cell? ⟨bb, k, none⟩ = some (.int .i64 z) ∧ q < B.heap.size ∧ bb < B.heap.size
theorem PairNum.four {q bb k : Nat} {x : R} {z : Int} {B wx : World} (H : Hid (PairNum q bb k x z B)) (h : Since B wx) :
    wx.cell? ⟨q, 0, none⟩ = some (.int .i64 x.1) ∧ wx.cell? ⟨q, 1, none⟩ = some (.int .i64 x.2) ∧ wx.cell? ⟨bb, k, none⟩ = some (.int .i64 z) ∧ Since B wx :=
  ⟨h.cell H.out.2.2.2.1 H.out.1, h.cell H.out.2.2.2.1 H.out.2.1, h.cell (p := ⟨bb, k, none⟩) H.out.2.2.2.2 H.out.2.2.1, h⟩
end Go.Proofs.Ytkindblhafejfaa
