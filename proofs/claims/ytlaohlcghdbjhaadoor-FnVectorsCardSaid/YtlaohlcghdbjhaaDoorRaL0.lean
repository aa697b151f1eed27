/- laws.toRat and laws.eqRat: what they return; what was there stays. Two boxes of fractions, read later. -/
import Derived.Test.YtlaohlcghdbjhaaDoorRaF
import Derived.Test.YtlaohlcghdbjhaaDoorSince
namespace Go.Proofs.YtlaohlcghdbjhaaDoor
open Go.RowKit

theorem laws_toRat (n d : Int) (w : World) : Calls Tryd.prog 46 #[.agg #[.int .i64 n, .int .i64 d]] w fun e w' => e = .returned (.agg #[.int .i64 n, .int .i64 d]) ∧ Below w.heap.size w w' := by
  go_enter Tryd.func46, Tryd.ntmps46
  go_wp2_with fail
  exact bodyPost_ret (v := .agg #[.int .i64 n, .int .i64 d]) (by simp [results, Tryd.results46, go_sem]) rfl ⟨rfl, by (repeat' (first | exact Below.refl _ _ | exact Nat.le_refl _ | refine Below.setCell ?_ ?_ _ | refine Below.alloc ?_ ?_ _ | refine below_drewN ?_ _ | refine Below.drew ?_ | (simp; done) | (simp; omega)))⟩
theorem laws_eqRat (n d : Int) (w : World) : Calls Tryd.prog 47 #[.agg #[.int .i64 n, .int .i64 d], .agg #[.int .i64 n, .int .i64 d]] w fun e w' => e = .returned (.bool true) ∧ Below w.heap.size w w' := by
  go_enter Tryd.func47, Tryd.ntmps47
  go_wp2_with fail
  go_ret
  exact ⟨rfl, by (repeat' (first | exact Below.refl _ _ | exact Nat.le_refl _ | refine Below.setCell ?_ ?_ _ | refine Below.alloc ?_ ?_ _ | refine below_drewN ?_ _ | refine Below.drew ?_ | (simp; done) | (simp; omega)))⟩
theorem calls_since {P : Program} {f : FuncId} {args : Array Value} {wx : World} {v : Value} (h : Calls P f args wx fun e w' => e = .returned v ∧ Below wx.heap.size wx w') {B : World} (hB : Since B wx) :
    Calls P f args wx fun e w' => (e = .returned v ∧ True) ∧ Since B w' := h.mono fun _ _ ⟨he, hb⟩ => ⟨⟨he, trivial⟩, hB.trans hb⟩
theorem calls_own {P : Program} {f : FuncId} {args : Array Value} {wx : World} {v : Value} (h : Calls P f args wx fun e w' => e = .returned v ∧ Below wx.heap.size wx w') {B : World} {x y : Value} {t : TypeId} {q : Nat} (hB : Own2 B x y t q wx) :
    Calls P f args wx fun e w' => (e = .returned v ∧ True) ∧ Own2 B x y t q w' := h.mono fun _ _ ⟨he, hb⟩ => ⟨⟨he, trivial⟩, hB.trans hb⟩
theorem toRat_since (B : World) (n d : Int) (wx : World) (h : Since B wx) : Calls Tryd.prog 46 #[.agg #[.int .i64 n, .int .i64 d]] wx fun e w' => e = .returned (.agg #[.int .i64 n, .int .i64 d]) ∧ Since B w' :=
  (laws_toRat n d wx).mono fun _ _ ⟨he, hb⟩ => ⟨he, h.trans hb⟩
theorem toRat_own (B : World) (x y : Value) (t : TypeId) (n d : Int) (q : Nat) (wx : World) (h : Own2 B x y t q wx) : Calls Tryd.prog 46 #[.agg #[.int .i64 n, .int .i64 d]] wx fun e w' => e = .returned (.agg #[.int .i64 n, .int .i64 d]) ∧ Own2 B x y t q w' :=
  (laws_toRat n d wx).mono fun _ _ ⟨he, hb⟩ => ⟨he, h.trans hb⟩
/-- The four cells of two fractions' boxes. -/
def Boxes (p q : Nat) (an ad bn bd : Int) (B : World) : Prop :=
  B.cell? ⟨p, 0, none⟩ = some (.int .i64 an) ∧ B.cell? ⟨p, 1, none⟩ = some (.int .i64 ad) ∧ B.cell? ⟨q, 0, none⟩ = some (.int .i64 bn) ∧ B.cell? ⟨q, 1, none⟩ = some (.int .i64 bd) ∧ p < B.heap.size ∧ q < B.heap.size
theorem boxes_start (w : World) (an ad bn bd : Int) (t1 t2 : TypeId) : Boxes w.heap.size (w.heap.size + 1) an ad bn bd ((w.alloc (.cells #[.int .i64 an, .int .i64 ad] t1)).alloc (.cells #[.int .i64 bn, .int .i64 bd] t2)) := by
  obtain ⟨a, b, c, d, _⟩ := kept2 (Below.refl _ ((w.alloc (.cells #[.int .i64 an, .int .i64 ad] t1)).alloc (.cells #[.int .i64 bn, .int .i64 bd] t2)))
  exact ⟨a, b, c, d, by rw [size2]; omega, by rw [size2]; omega⟩
theorem Boxes.since {p q : Nat} {an ad bn bd : Int} {B wx : World} (H : Boxes p q an ad bn bd B) (h : Since B wx) : Boxes p q an ad bn bd wx :=
  ⟨h.cell H.2.2.2.2.1 H.1, h.cell H.2.2.2.2.1 H.2.1, h.cell H.2.2.2.2.2 H.2.2.1, h.cell H.2.2.2.2.2 H.2.2.2.1, Nat.lt_of_lt_of_le H.2.2.2.2.1 h.low.size, Nat.lt_of_lt_of_le H.2.2.2.2.2 h.low.size⟩
theorem Boxes.five {p q : Nat} {an ad bn bd : Int} {B wx : World} (H : Hid (Boxes p q an ad bn bd B)) (h : Since B wx) :
    wx.cell? ⟨p, 0, none⟩ = some (.int .i64 an) ∧ wx.cell? ⟨p, 1, none⟩ = some (.int .i64 ad) ∧ wx.cell? ⟨q, 0, none⟩ = some (.int .i64 bn) ∧ wx.cell? ⟨q, 1, none⟩ = some (.int .i64 bd) ∧ Since B wx :=
  ⟨(H.out.since h).1, (H.out.since h).2.1, (H.out.since h).2.2.1, (H.out.since h).2.2.2.1, h⟩
end Go.Proofs.YtlaohlcghdbjhaaDoor
