/- The parts RaEq, RaA, RaB, RaC, RaD, RaE, RaF, RaL0. -/
import Derived.Test.YtpjnjidbdpfdcaaGB
import Derived.Test.YtpjnjidbdpfdcaaGM
namespace Go.Proofs.Ytpjnjidbdpfdcaa
open Go.RowKit
theorem st_rat : Try.prog.underlying 46 = some (.struct (Try.prog.fieldsOf 46)) := by kernel_rfl
theorem held_rat : Try.prog.stoodInHeld 46 = false := by kernel_rfl
theorem guard_rat : Try.prog.eqGuardType Try.prog.depth 46 = false := by kernel_rfl
theorem fields_rat : (Try.prog.fieldsOf 46).toList.map (fun f => (f.name, f.type, f.offset)) = [("Num", 3, 0), ("Den", 3, 1)] := by kernel_rfl
theorem eqs_rat (a b c d : Int) (w : World) : (Op.equalIn 10000 46 (.agg #[.int .i64 a, .int .i64 b]) (.agg #[.int .i64 c, .int .i64 d])).run Try.prog w = .ok (a == c && b == d) w := by
 have hf := fields_rat
 rw [run_equalIn_agg _ _ _ _ _ st_rat held_rat]
 generalize (Try.prog.fieldsOf 46).toList = fs at hf
 obtain ⟨f0, f1, rfl⟩ : ∃ f0 f1, fs = [f0, f1] := by
  have hl : fs.length = 2 := by have := congrArg List.length hf; rw [List.length_map] at this; exact this
  exact ⟨fs[0], fs[1], List.ext_getElem (by simp [hl]) (fun i h1 h2 => by
   have : i = 0 ∨ i = 1 := by omega
   rcases this with rfl | rfl <;> rfl)⟩
 simp at hf
 obtain ⟨⟨n0, t0, o0⟩, n1, t1, o1⟩ := hf
 unfold Op.eqFields
 simp [n0, t0, o0, n1, t1, o1, go_sem, Op.eqFields]
 by_cases h1 : a = c <;> by_cases h2 : b = d <;> simp [h1, h2]
theorem eq_rat (a b c d : Int) (w : World) : (binOp .eql 46 (.agg #[.int .i64 a, .int .i64 b]) (.agg #[.int .i64 c, .int .i64 d])).run Try.prog w = .ok (.bool (a == c && b == d)) w := by
 rw [run_eql_struct, eqs_rat]; rfl
theorem ne_rat (a b c d : Int) (w : World) : (binOp .neq 46 (.agg #[.int .i64 a, .int .i64 b]) (.agg #[.int .i64 c, .int .i64 d])).run Try.prog w = .ok (.bool (!(a == c && b == d))) w := by
 rw [run_neq_struct, eqs_rat]; rfl
theorem eqg_rat (op : BinOp) (x y : Operand) (xs ys : Array Value) (w : World) : (eqGuard op 46 x y (.agg xs) (.agg ys)).run Try.prog w = .ok () w := run_eqGuard_agg w op _ x y xs ys guard_rat
theorem impl_wholeRat (n : Int) (w : World) : Calls Try.prog 28 #[.int .i64 n] w fun e w' => e = .returned (.agg #[.int .i64 n, .int .i64 1]) ∧ Below w.heap.size w w' := by
 go_enter Try.func28, Try.ntmps28
 go_wp2_with fail
 exact bodyPost_ret (v := .agg #[.int .i64 n, .int .i64 1]) (by simp [results, Try.results28, go_sem]) rfl ⟨rfl, by (repeat' (first | exact Below.refl _ _ | exact Nat.le_refl _ | refine Below.setCell ?_ ?_ _ | refine Below.alloc ?_ ?_ _ | refine below_drewN ?_ _ | refine Below.drew ?_ | (simp; done) | (simp; omega)))⟩
end Go.Proofs.Ytpjnjidbdpfdcaa

namespace Go.Proofs.Ytpjnjidbdpfdcaa
open Go.RowKit

def ratV (n d : Int) (k : Bool) : Value := .tuple #[.agg #[.int .i64 n, .int .i64 d], .bool k]
theorem ret_rat {n d n' d' : Int} {k k' : Bool} (h1 : n = n') (h2 : d = d') (h3 : k = k') : Ending.returned (.tuple #[.agg #[.int .i64 n, .int .i64 d], .bool k]) = .returned (.tuple #[.agg #[.int .i64 n', .int .i64 d'], .bool k']) := by rw [h1, h2, h3]
end Go.Proofs.Ytpjnjidbdpfdcaa

namespace Go.Proofs.Ytpjnjidbdpfdcaa
open Go.RowKit

end Go.Proofs.Ytpjnjidbdpfdcaa

namespace Go.Proofs.Ytpjnjidbdpfdcaa
open Go.RowKit

theorem rat_case (n d : Int) : (d = 0 ∨ Ra.wide n = false ∨ Ra.wide d = false) ∨ (d ≠ 0 ∧ Ra.wide n = true ∧ Ra.wide d = true) := by
 by_cases h : d = 0
 ·
  exact .inl (.inl h)
 ·
  rcases hn : Ra.wide n with _ | _
  ·
   exact .inl (.inr (.inl rfl))
  ·
   rcases hd : Ra.wide d with _ | _
   ·
    exact .inl (.inr (.inr rfl))
   ·
    exact .inr ⟨h, rfl, rfl⟩
theorem rat_bad {n d : Int} (h : d = 0 ∨ Ra.wide n = false ∨ Ra.wide d = false) : Ra.fits n d = false := by
 rcases h with rfl | h | h
 ·
  exact Ra.fits_zero n
 ·
  exact Ra.fits_nwide h
 ·
  exact Ra.fits_dwide h
end Go.Proofs.Ytpjnjidbdpfdcaa

namespace Go.Proofs.Ytpjnjidbdpfdcaa
open Go.RowKit
theorem kept3 {w wx : World} {x0 x1 y0 y1 u0 u1 : Value} {t1 t2 t3 : TypeId} (hb : Below (((w.alloc (.cells #[x0, x1] t1)).alloc (.cells #[y0, y1] t2)).alloc (.cells #[u0, u1] t3)).heap.size (((w.alloc (.cells #[x0, x1] t1)).alloc (.cells #[y0, y1] t2)).alloc (.cells #[u0, u1] t3)) wx) :
  wx.cell? ⟨w.heap.size, 0, none⟩ = some x0 ∧ wx.cell? ⟨w.heap.size, 1, none⟩ = some x1 ∧ wx.cell? ⟨w.heap.size + 1, 0, none⟩ = some y0 ∧ wx.cell? ⟨w.heap.size + 1, 1, none⟩ = some y1 ∧
  wx.cell? ⟨w.heap.size + 2, 0, none⟩ = some u0 ∧ wx.cell? ⟨w.heap.size + 2, 1, none⟩ = some u1 ∧ wx.frozen? ⟨w.heap.size + 2, 0, none⟩ = false ∧ wx.frozen? ⟨w.heap.size + 2, 1, none⟩ = false ∧ w.heap.size + 2 < wx.heap.size := by
 have e : (((w.alloc (.cells #[x0, x1] t1)).alloc (.cells #[y0, y1] t2)).alloc (.cells #[u0, u1] t3)).heap = ((w.heap.push (.cells #[x0, x1] t1)).push (.cells #[y0, y1] t2)).push (.cells #[u0, u1] t3) := rfl
 have hz := hb.size
 have hk := hb.block
 rw [e] at hz hk
 simp only [Array.size_push] at hz hk
 have B0 : wx.heap[w.heap.size]? = some (.cells #[x0, x1] t1) := by rw [hk _ (by omega), Array.getElem?_push, if_neg (by simp only [Array.size_push]; omega), Array.getElem?_push, if_neg (by simp only [Array.size_push]; omega), Array.getElem?_push, if_pos rfl]
 have B1 : wx.heap[w.heap.size + 1]? = some (.cells #[y0, y1] t2) := by rw [hk _ (by omega), Array.getElem?_push, if_neg (by simp only [Array.size_push]; omega), Array.getElem?_push, if_pos (by simp only [Array.size_push])]
 have B2 : wx.heap[w.heap.size + 2]? = some (.cells #[u0, u1] t3) := by rw [hk _ (by omega), Array.getElem?_push, if_pos (by simp only [Array.size_push])]
 obtain ⟨a0, a1, -, -⟩ := cells2_of B0
 obtain ⟨b0, b1, -, -⟩ := cells2_of B1
 obtain ⟨c0, c1, f0, f1⟩ := cells2_of B2
 exact ⟨a0, a1, b0, b1, c0, c1, f0, f1, by omega⟩
theorem low3_set {w wx : World} {o1 o2 o3 : Obj} (hb : Below (((w.alloc o1).alloc o2).alloc o3).heap.size (((w.alloc o1).alloc o2).alloc o3) wx) (x y : Value) :
  Below w.heap.size w ((wx.setCell ⟨w.heap.size + 2, 0, none⟩ x).setCell ⟨w.heap.size + 2, 1, none⟩ y) :=
 ((((((Below.refl w.heap.size w).alloc (Nat.le_refl _) o1).alloc (by simp) o2).alloc (by simp; omega) o3).trans (hb.mono (by simp; omega))).setCell (p := ⟨w.heap.size + 2, 0, none⟩) (by simp) x).setCell (p := ⟨w.heap.size + 2, 1, none⟩) (by simp) y
end Go.Proofs.Ytpjnjidbdpfdcaa

namespace Go.Proofs.Ytpjnjidbdpfdcaa
open Go.RowKit
end Go.Proofs.Ytpjnjidbdpfdcaa

namespace Go.Proofs.Ytpjnjidbdpfdcaa
open Go.RowKit
theorem low3 {w wx : World} {o1 o2 o3 : Obj} (hb : Below (((w.alloc o1).alloc o2).alloc o3).heap.size (((w.alloc o1).alloc o2).alloc o3) wx) : Below w.heap.size w wx :=
 ((((Below.refl w.heap.size w).alloc (Nat.le_refl _) o1).alloc (by simp) o2).alloc (by simp; omega) o3).trans (hb.mono (by simp; omega))
theorem free3 {w wx : World} {x0 x1 y0 y1 u0 u1 : Value} {t1 t2 t3 : TypeId} (hb : Below (((w.alloc (.cells #[x0, x1] t1)).alloc (.cells #[y0, y1] t2)).alloc (.cells #[u0, u1] t3)).heap.size (((w.alloc (.cells #[x0, x1] t1)).alloc (.cells #[y0, y1] t2)).alloc (.cells #[u0, u1] t3)) wx) :
  wx.frozen? ⟨w.heap.size + 1, 0, none⟩ = false := by
 have e : (((w.alloc (.cells #[x0, x1] t1)).alloc (.cells #[y0, y1] t2)).alloc (.cells #[u0, u1] t3)).heap = ((w.heap.push (.cells #[x0, x1] t1)).push (.cells #[y0, y1] t2)).push (.cells #[u0, u1] t3) := rfl
 have hk := hb.block
 rw [e] at hk
 simp only [Array.size_push] at hk
 have B1 : wx.heap[w.heap.size + 1]? = some (.cells #[y0, y1] t2) := by rw [hk _ (by omega), Array.getElem?_push, if_neg (by simp only [Array.size_push]; omega), Array.getElem?_push, if_pos (by simp only [Array.size_push])]
 exact (cells2_of B1).2.2.1
theorem low2 {w wx : World} {o1 o2 : Obj} (hb : Below ((w.alloc o1).alloc o2).heap.size ((w.alloc o1).alloc o2) wx) : Below w.heap.size w wx :=
 (((Below.refl w.heap.size w).alloc (Nat.le_refl _) o1).alloc (by simp) o2).trans (hb.mono (by simp; omega))
theorem low1 {w wx : World} {o1 : Obj} (hb : Below (w.alloc o1).heap.size (w.alloc o1) wx) : Below w.heap.size w wx :=
 ((Below.refl w.heap.size w).alloc (Nat.le_refl _) o1).trans (hb.mono (by simp))
theorem kept2 {w wx : World} {x0 x1 y0 y1 : Value} {t1 t2 : TypeId} (hb : Below ((w.alloc (.cells #[x0, x1] t1)).alloc (.cells #[y0, y1] t2)).heap.size ((w.alloc (.cells #[x0, x1] t1)).alloc (.cells #[y0, y1] t2)) wx) :
  wx.cell? ⟨w.heap.size, 0, none⟩ = some x0 ∧ wx.cell? ⟨w.heap.size, 1, none⟩ = some x1 ∧ wx.cell? ⟨w.heap.size + 1, 0, none⟩ = some y0 ∧ wx.cell? ⟨w.heap.size + 1, 1, none⟩ = some y1 ∧ w.heap.size + 1 < wx.heap.size := by
 have e : ((w.alloc (.cells #[x0, x1] t1)).alloc (.cells #[y0, y1] t2)).heap = (w.heap.push (.cells #[x0, x1] t1)).push (.cells #[y0, y1] t2) := rfl
 have hz := hb.size
 have hk := hb.block
 rw [e] at hz hk
 simp only [Array.size_push] at hz hk
 have B0 : wx.heap[w.heap.size]? = some (.cells #[x0, x1] t1) := by rw [hk _ (by omega), Array.getElem?_push, if_neg (by simp only [Array.size_push]; omega), Array.getElem?_push, if_pos rfl]
 have B1 : wx.heap[w.heap.size + 1]? = some (.cells #[y0, y1] t2) := by rw [hk _ (by omega), Array.getElem?_push, if_pos (by simp only [Array.size_push])]
 obtain ⟨a0, a1, -, -⟩ := cells2_of B0
 obtain ⟨b0, b1, -, -⟩ := cells2_of B1
 exact ⟨a0, a1, b0, b1, by omega⟩
theorem kept1 {w wx : World} {x0 x1 : Value} {t1 : TypeId} (hb : Below (w.alloc (.cells #[x0, x1] t1)).heap.size (w.alloc (.cells #[x0, x1] t1)) wx) :
  wx.cell? ⟨w.heap.size, 0, none⟩ = some x0 ∧ wx.cell? ⟨w.heap.size, 1, none⟩ = some x1 ∧ w.heap.size < wx.heap.size := by
 have e : (w.alloc (.cells #[x0, x1] t1)).heap = w.heap.push (.cells #[x0, x1] t1) := rfl
 have hz := hb.size
 have hk := hb.block
 rw [e] at hz hk
 simp only [Array.size_push] at hz hk
 have B0 : wx.heap[w.heap.size]? = some (.cells #[x0, x1] t1) := by rw [hk _ (by omega), Array.getElem?_push, if_pos rfl]
 obtain ⟨a0, a1, -, -⟩ := cells2_of B0
 exact ⟨a0, a1, by omega⟩
theorem flo_key (n d : Int) (h : Ra.vld n d = true) : -1000000000 ≤ n.tdiv d ∧ n.tdiv d ≤ 1000000000 ∧ 1 ≤ d ∧ ((decide (n.tmod d < 0) = true ∧ n.tdiv d - 1 = Ra.flo n d) ∨ (decide (n.tmod d < 0) = false ∧ n.tdiv d = Ra.flo n d)) := by
 have v := Ra.vld_yes h
 have hb := Ra.tdiv_bd n d
 refine ⟨by omega, by omega, v.1, ?_⟩
 rw [Ra.flo_yes h]
 by_cases hm : n.tmod d < 0
 ·
  exact .inl ⟨by rw [decide_eq_true_iff]; exact hm, Ra.floor_neg v.1 hm⟩
 ·
  exact .inr ⟨by rw [decide_eq_false_iff_not]; exact hm, Ra.floor_pos v.1 hm⟩
end Go.Proofs.Ytpjnjidbdpfdcaa

namespace Go.Proofs.Ytpjnjidbdpfdcaa
open Go.RowKit

theorem laws_toRat (n d : Int) (w : World) : Calls Try.prog 41 #[.agg #[.int .i64 n, .int .i64 d]] w fun e w' => e = .returned (.agg #[.int .i64 n, .int .i64 d]) ∧ Below w.heap.size w w' := by
 go_enter Try.func41, Try.ntmps41
 go_wp2_with fail
 exact bodyPost_ret (v := .agg #[.int .i64 n, .int .i64 d]) (by simp [results, Try.results41, go_sem]) rfl ⟨rfl, by (repeat' (first | exact Below.refl _ _ | exact Nat.le_refl _ | refine Below.setCell ?_ ?_ _ | refine Below.alloc ?_ ?_ _ | refine below_drewN ?_ _ | refine Below.drew ?_ | (simp; done) | (simp; omega)))⟩
theorem laws_eqRat (n d : Int) (w : World) : Calls Try.prog 44 #[.agg #[.int .i64 n, .int .i64 d], .agg #[.int .i64 n, .int .i64 d]] w fun e w' => e = .returned (.bool true) ∧ Below w.heap.size w w' := by
 go_enter Try.func44, Try.ntmps44
 go_wp2_with fail
 go_ret
 exact ⟨rfl, by (repeat' (first | exact Below.refl _ _ | exact Nat.le_refl _ | refine Below.setCell ?_ ?_ _ | refine Below.alloc ?_ ?_ _ | refine below_drewN ?_ _ | refine Below.drew ?_ | (simp; done) | (simp; omega)))⟩
theorem calls_own {P : Program} {f : FuncId} {args : Array Value} {wx : World} {v : Value} (h : Calls P f args wx fun e w' => e = .returned v ∧ Below wx.heap.size wx w') {B : World} {x y : Value} {t : TypeId} {q : Nat} (hB : Own2 B x y t q wx) :
  Calls P f args wx fun e w' => (e = .returned v ∧ True) ∧ Own2 B x y t q w' := h.mono fun _ _ ⟨he, hb⟩ => ⟨⟨he, trivial⟩, hB.trans hb⟩
theorem toRat_since (B : World) (n d : Int) (wx : World) (h : Since B wx) : Calls Try.prog 41 #[.agg #[.int .i64 n, .int .i64 d]] wx fun e w' => e = .returned (.agg #[.int .i64 n, .int .i64 d]) ∧ Since B w' :=
 (laws_toRat n d wx).mono fun _ _ ⟨he, hb⟩ => ⟨he, h.trans hb⟩
theorem toRat_own (B : World) (x y : Value) (t : TypeId) (n d : Int) (q : Nat) (wx : World) (h : Own2 B x y t q wx) : Calls Try.prog 41 #[.agg #[.int .i64 n, .int .i64 d]] wx fun e w' => e = .returned (.agg #[.int .i64 n, .int .i64 d]) ∧ Own2 B x y t q w' :=
 (laws_toRat n d wx).mono fun _ _ ⟨he, hb⟩ => ⟨he, h.trans hb⟩
def Boxes (p q : Nat) (an ad bn bd : Int) (B : World) : Prop :=
 B.cell? ⟨p, 0, none⟩ = some (.int .i64 an) ∧ B.cell? ⟨p, 1, none⟩ = some (.int .i64 ad) ∧ B.cell? ⟨q, 0, none⟩ = some (.int .i64 bn) ∧ B.cell? ⟨q, 1, none⟩ = some (.int .i64 bd) ∧ p < B.heap.size ∧ q < B.heap.size
theorem boxes_start (w : World) (an ad bn bd : Int) (t1 t2 : TypeId) : Boxes w.heap.size (w.heap.size + 1) an ad bn bd ((w.alloc (.cells #[.int .i64 an, .int .i64 ad] t1)).alloc (.cells #[.int .i64 bn, .int .i64 bd] t2)) := by
 obtain ⟨a, b, c, d, _⟩ := kept2 (Below.refl _ ((w.alloc (.cells #[.int .i64 an, .int .i64 ad] t1)).alloc (.cells #[.int .i64 bn, .int .i64 bd] t2)))
 exact ⟨a, b, c, d, by rw [size2]; omega, by rw [size2]; omega⟩
theorem Boxes.since {p q : Nat} {an ad bn bd : Int} {B wx : World} (H : Boxes p q an ad bn bd B) (h : Since B wx) : Boxes p q an ad bn bd wx :=
 ⟨h.cell H.2.2.2.2.1 H.1, h.cell H.2.2.2.2.1 H.2.1, h.cell H.2.2.2.2.2 H.2.2.1, h.cell H.2.2.2.2.2 H.2.2.2.1, Nat.lt_of_lt_of_le H.2.2.2.2.1 h.low.size, Nat.lt_of_lt_of_le H.2.2.2.2.2 h.low.size⟩
theorem Boxes.five {p q : Nat} {an ad bn bd : Int} {B wx : World} (H : Hid (Boxes p q an ad bn bd B)) (h : Since B wx) :
  wx.cell? ⟨p, 0, none⟩ = some (.int .i64 an) ∧ wx.cell? ⟨p, 1, none⟩ = some (.int .i64 ad) ∧ wx.cell? ⟨q, 0, none⟩ = some (.int .i64 bn) ∧ wx.cell? ⟨q, 1, none⟩ = some (.int .i64 bd) ∧ Since B wx :=
 ⟨(H.out.since h).1, (H.out.since h).2.1, (H.out.since h).2.2.1, (H.out.since h).2.2.2.1, h⟩
end Go.Proofs.Ytpjnjidbdpfdcaa
