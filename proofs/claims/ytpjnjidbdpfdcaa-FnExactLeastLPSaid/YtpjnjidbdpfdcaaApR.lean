/- append at slices of fractions, whole slices too. -/
import Derived.Test.YtpjnjidbdpfdcaaGrI
import Derived.Test.YtpjnjidbdpfdcaaGVb
namespace Go.Proofs.Ytpjnjidbdpfdcaa
open Go.RowKit
open Ve (R)
theorem ratsIn_cells {n : Nat} {w : World} {b o : Nat} {ys : List R} (h : RatsIn n w (some ⟨b, o, none⟩) ys) : ∀ j u, (cellsR ys)[j]? = some u → w.cell? ((⟨b, o, none⟩ : Addr).add j) = some u := fun j u hu => by
 have hlt : j < ys.length * 2 := by have := (List.getElem?_eq_some_iff.1 hu).1; rw [cellsR_len] at this; exact this
 obtain ⟨b', o', e, _, c0, c1⟩ := h.at (j / 2) (by omega)
 obtain ⟨rfl, rfl⟩ : b = b' ∧ o = o' := by injection e with e; injection e with e1 e2; exact ⟨e1, e2⟩
 obtain ⟨e0, e1⟩ := cellsR_at ys (j / 2) _ (Ve.at_get (by omega : j / 2 < ys.length))
 rw [Addr.add_lit]
 rcases Nat.mod_two_eq_zero_or_one j with hm | hm
 ·
  rw [show j / 2 * 2 = j by omega] at e0 c0
  rw [e0] at hu
  rw [c0, ← hu]
 ·
  rw [show j / 2 * 2 + 1 = j by omega] at e1
  rw [show o + j / 2 * 2 + 1 = o + j by omega] at c1
  rw [e1] at hu
  rw [c1, ← hu]
theorem cells_append : ∀ (xs ys : List R), cellsR (xs ++ ys) = cellsR xs ++ cellsR ys
 | [], _ => rfl
 | x :: xs, ys => by simp only [cellsR, List.cons_append, cells_append xs ys]
theorem cells_one : ∀ (xs : List R) (v : Value), v ∈ cellsR xs → v.oneCell' = true
 | [], v, h => by simp [cellsR] at h
 | x :: xs, v, h => by
  simp only [cellsR, List.mem_cons] at h
  rcases h with rfl | rfl | h
  ·
   rfl
  ·
   rfl
  ·
   exact cells_one xs v h
theorem wpList_append_rats {w : World} {ops : Array Oper} {rest : List Oper} {o : Oper} {a : Act} {Q : Exit → Act → World → Prop} (hg : o.guard = none) (s x : Operand)
  (hop : o.op = Op.call { callee := Callee.builtin Builtin.append, args := #[s, x], argTypes := #[27, 27] }) (B : Nat) (v : Value) (xs : List R) (hs : a.eval s = v) (hown : OwnRats B w v xs) (ad : Option Addr) (ys : List R) (n c : Nat) (hn : n = ys.length) (hx : a.eval x = .slice ad n c)
  (n0 : Nat) (hr : RatsIn n0 w ad ys) (hlen : xs.length + ys.length ≤ 4000000) (hB : B ≤ w.heap.size) (hK : ∀ v' w', OwnRats B w' v' (xs ++ ys) → w.grownBy w' v.ownBlock → wpList Try.prog ops Q rest (a.put o.dst v') w') : wpList Try.prog ops Q (o :: rest) a w := by
 subst hn
 obtain ⟨i0, hi, hz0, hz1, hz2⟩ := info_parts info_rat
 cases ad with
 | none =>
  have h0 : ys = [] := by
   cases ys with
   | nil => rfl
   | cons y ys => obtain ⟨b, o, e, _⟩ := hr 0 y rfl; cases e
  subst h0
  refine wpList_plain hg fun K hK' => ?_
  have hrun := run_append_none (P := Try.prog) (w := w) B 27 o.type 46 i0 2 Try.underlying27 hi v xs.length _ c hown
  unfold Oper.wp
  simp only [List.length_nil] at hx
  simp [execOp, hop, resolve, invoke, builtin, hs, hx, hrun, Result.andThen]
  exact hK' _ _ (hK v w (by simpa using hown) (World.grownBy.refl _ _))
 | some q =>
  obtain ⟨b, o1, sp⟩ := q
  refine wpList_append_own _ hg s x 27 hop B 46 i0 (.agg #[.int .i64 0, .int .i64 0]) 2 16 Try.underlying27 hi hz0 hz1 hz2 rfl (by decide) v xs.length (cellsR xs) hs hown ⟨b, o1, sp⟩ ys.length c (cellsR ys) hx (cellsR_len ys) ?_ (fun u hu => cells_one ys u hu) (by unfold maxLen; omega) (by omega) hB ?_
  ·
   intro j u hj
   have hlt : j < ys.length * 2 := by have := (List.getElem?_eq_some_iff.1 hj).1; rw [cellsR_len] at this; exact this
   obtain ⟨b', o', e, _⟩ := hr.at (j / 2) (by omega)
   have e2 : sp = none := by
    simp only [Option.some.injEq, Addr.mk.injEq] at e
    exact e.2.2
   subst e2
   exact ratsIn_cells hr j u hj
  ·
   intro v' w' h1 h2 _
   refine hK v' w' ?_ h2
   unfold OwnRats
   rw [List.length_append, cells_append]
   exact h1
theorem one_rat (w : World) (x : R) : RatsIn (w.heap.size + 1) (w.alloc (.cells #[.int .i64 x.1, .int .i64 x.2] 46)) (some ⟨w.heap.size, 0, none⟩) [x] := fun j y hj => by
 match j with
 | 0 =>
  simp at hj
  subst hj
  have h := (BoxAt.new w x).four
  exact ⟨w.heap.size, 0, rfl, Nat.lt_succ_self _, h.1, h.2.1⟩
 | j + 1 => simp at hj
end Go.Proofs.Ytpjnjidbdpfdcaa
