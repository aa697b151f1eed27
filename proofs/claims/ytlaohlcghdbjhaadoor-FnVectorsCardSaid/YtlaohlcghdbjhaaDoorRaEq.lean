/- '==' and '!=' of two fractions as structs: both fields. -/
import Derived.Test.YtlaohlcghdbjhaaDoorBase
namespace Go.Proofs.YtlaohlcghdbjhaaDoor
open Go.RowKit
theorem st_rat : Tryd.prog.underlying 26 = some (.struct (Tryd.prog.fieldsOf 26)) := by kernel_rfl
theorem held_rat : Tryd.prog.stoodInHeld 26 = false := by kernel_rfl
theorem guard_rat : Tryd.prog.eqGuardType Tryd.prog.depth 26 = false := by kernel_rfl
theorem fields_rat : (Tryd.prog.fieldsOf 26).toList.map (fun f => (f.name, f.type, f.offset)) = [("Num", 3, 0), ("Den", 3, 1)] := by kernel_rfl
theorem eqs_rat (a b c d : Int) (w : World) : (Op.equalIn 10000 26 (.agg #[.int .i64 a, .int .i64 b]) (.agg #[.int .i64 c, .int .i64 d])).run Tryd.prog w = .ok (a == c && b == d) w := by
  have hf := fields_rat
  rw [run_equalIn_agg _ _ _ _ _ st_rat held_rat]
  generalize (Tryd.prog.fieldsOf 26).toList = fs at hf
  obtain ⟨f0, f1, rfl⟩ : ∃ f0 f1, fs = [f0, f1] := by
    have hl : fs.length = 2 := by have := congrArg List.length hf; rw [List.length_map] at this; exact this
    exact ⟨fs[0], fs[1], List.ext_getElem (by simp [hl]) (fun i h1 h2 => by
      have : i = 0 ∨ i = 1 := by omega
      rcases this with rfl | rfl <;> rfl)⟩
  simp at hf
  obtain ⟨⟨n0, t0, o0⟩, n1, t1, o1⟩ := hf
  unfold Op.eqFields
  simp [n0, t0, o0, n1, t1, o1, go_sem, Op.eqFields]
  by_cases h1 : a = c <;> by_cases h2 : b = d <;> simp [h1, h2]
theorem eq_rat (a b c d : Int) (w : World) : (binOp .eql 26 (.agg #[.int .i64 a, .int .i64 b]) (.agg #[.int .i64 c, .int .i64 d])).run Tryd.prog w = .ok (.bool (a == c && b == d)) w := by
  rw [run_eql_struct, eqs_rat]; rfl
theorem ne_rat (a b c d : Int) (w : World) : (binOp .neq 26 (.agg #[.int .i64 a, .int .i64 b]) (.agg #[.int .i64 c, .int .i64 d])).run Tryd.prog w = .ok (.bool (!(a == c && b == d))) w := by
  rw [run_neq_struct, eqs_rat]; rfl
theorem eqg_rat (op : BinOp) (x y : Operand) (xs ys : Array Value) (w : World) : (eqGuard op 26 x y (.agg xs) (.agg ys)).run Tryd.prog w = .ok () w := run_eqGuard_agg w op _ x y xs ys guard_rat
end Go.Proofs.YtlaohlcghdbjhaaDoor
