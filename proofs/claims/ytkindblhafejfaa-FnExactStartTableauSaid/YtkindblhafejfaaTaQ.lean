/- slices.Clone at ints, at fractions, at rows of fractions. -/
import Derived.Test.YtkindblhafejfaaTaJ
import Derived.Test.YtkindblhafejfaaTaD
import Derived.Test.YtkindblhafejfaaGr
import Derived.Lib.SliceRun
namespace Go.Proofs.Ytkindblhafejfaa
open Go.RowKit
open Ve (R)
open Ta (T)
/-- 'append(s, x...)' at ints: s of the call's own, x read wherever it lies. -/
theorem wpList_append_ints {w : World} {ops : Array Oper} {rest : List Oper} {o : Oper} {a : Act} {Q : Exit → Act → World → Prop} (hg : o.guard = none) (s x : Operand)
    (hop : o.op = Op.call { callee := Callee.builtin Builtin.append, args := #[s, x], argTypes := #[23, 23] }) (B : Nat) (v : Value) (xs : List Int) (hs : a.eval s = v) (hown : OwnInts B w v xs) (ad : Option Addr) (ys : List Int) (n c : Nat) (hn : n = ys.length) (hx : a.eval x = .slice ad n c)
    (n0 : Nat) (hr : NumsIn n0 w ad ys) (hlen : xs.length + ys.length ≤ 4000000) (hB : B ≤ w.heap.size) (hK : ∀ v' w', OwnInts B w' v' (xs ++ ys) → w.grownBy w' v.ownBlock → wpList Try.prog ops Q rest (a.put o.dst v') w') : wpList Try.prog ops Q (o :: rest) a w := by
  subst hn
  obtain ⟨i0, hi, hz0, hz1, hz2⟩ := info_parts info_int
  cases ad with
  | none =>
    have h0 : ys = [] := by
      cases ys with
      | nil => rfl
      | cons y ys => obtain ⟨b, o, e, _⟩ := hr 0 (by simp); cases e
    subst h0
    refine wpList_plain hg fun K hK' => ?_
    have hrun := run_append_none (P := Try.prog) (w := w) B 23 o.type 3 i0 1 Try.underlying23 hi v xs.length _ c hown
    unfold Oper.wp
    simp only [List.length_nil] at hx
    simp [execOp, hop, resolve, invoke, builtin, hs, hx, hrun, Result.andThen]
    exact hK' _ _ (hK v w (by simpa using hown) (World.grownBy.refl _ _))
  | some q =>
    obtain ⟨b, o1, sp⟩ := q
    refine wpList_append_own _ hg s x 23 hop B 3 i0 (.int .i64 0) 1 8 Try.underlying23 hi hz0 hz1 hz2 rfl (by decide) v xs.length (xs.map (Value.int .i64)) hs hown ⟨b, o1, sp⟩ ys.length c (ys.map (Value.int .i64)) hx (by simp) ?_ (fun u hu => ints_oneCell .i64 ys u hu) (by unfold maxLen; omega) (by omega) hB ?_
    · intro j u hj
      have hlt : j < ys.length := by have := (List.getElem?_eq_some_iff.1 hj).1; simpa using this
      obtain ⟨b', o', e, _⟩ := hr j hlt
      have e2 : sp = none := by
        simp only [Option.some.injEq, Addr.mk.injEq] at e
        exact e.2.2
      subst e2
      exact numsIn_cells hr j u hj
    · intro v' w' h1 h2 _
      refine hK v' w' ?_ h2
      unfold OwnInts
      rw [List.length_append, List.map_append]
      exact h1
/-- The rows as values. -/
def RowVals (w : World) (a : Option Addr) (us : List Value) : Prop := ∀ j u, us[j]? = some u → ∃ b o : Nat, a = some ⟨b, o, none⟩ ∧ w.cell? ⟨b, o + j, none⟩ = some u ∧ u.oneCell' = true
/-- 'append(rows, x...)' at slices of fractions: s of the call's own, its elements as values. -/
theorem wpList_append_rows {w : World} {ops : Array Oper} {rest : List Oper} {o : Oper} {a : Act} {Q : Exit → Act → World → Prop} (hg : o.guard = none) (s x : Operand)
    (hop : o.op = Op.call { callee := Callee.builtin Builtin.append, args := #[s, x], argTypes := #[28, 28] }) (B : Nat) (v : Value) (hs : a.eval s = v) (hown : w.ownsRow B 32 1 v 0 []) (ad : Option Addr) (us : List Value) (n c : Nat) (hn : n = us.length) (hx : a.eval x = .slice ad n c)
    (hr : RowVals w ad us) (hlen : us.length ≤ 4000000) (hB : B ≤ w.heap.size) (hK : ∀ v' w', w'.ownsRow B 32 1 v' us.length us → w.grownBy w' v.ownBlock → wpList Try.prog ops Q rest (a.put o.dst v') w') : wpList Try.prog ops Q (o :: rest) a w := by
  subst hn
  obtain ⟨i0, hi, hz0, hz1, hz2⟩ := info_parts info_rows
  cases ad with
  | none =>
    have h0 : us = [] := by
      cases us with
      | nil => rfl
      | cons y ys => obtain ⟨b, o, e, _⟩ := hr 0 y rfl; cases e
    subst h0
    refine wpList_plain hg fun K hK' => ?_
    have hrun := run_append_none (P := Try.prog) (w := w) B 28 o.type 32 i0 1 Try.underlying28 hi v 0 _ c hown
    unfold Oper.wp
    simp only [List.length_nil] at hx
    simp [execOp, hop, resolve, invoke, builtin, hs, hx, hrun, Result.andThen]
    exact hK' _ _ (hK v w (by simpa using hown) (World.grownBy.refl _ _))
  | some q =>
    obtain ⟨b, o1, sp⟩ := q
    refine wpList_append_own _ hg s x 28 hop B 32 i0 (.slice none 0 0) 1 24 Try.underlying28 hi hz0 hz1 hz2 rfl (by decide) v 0 [] hs hown ⟨b, o1, sp⟩ us.length c us hx (by simp) ?_ ?_ (by unfold maxLen; omega) (by omega) hB ?_
    · intro j u hj
      obtain ⟨b', o', e, e3, _⟩ := hr j u hj
      simp only [Option.some.injEq, Addr.mk.injEq] at e
      obtain ⟨rfl, rfl, rfl⟩ := e
      rw [Addr.add_lit]; exact e3
    · intro u hu
      obtain ⟨j, hj⟩ := List.getElem?_of_mem hu
      obtain ⟨_, _, _, _, h⟩ := hr j u hj
      exact h
    · intro v' w' h1 h2 _
      refine hK v' w' ?_ h2
      simpa using h1
set_option maxRecDepth 100000 in
set_option maxHeartbeats 1000000 in
theorem clone_ints (B : Nat) (a : Option Addr) (c : Nat) (xs : List Int) (hn : xs.length ≤ 2000000) (w : World) (hBw : B ≤ w.heap.size) (h1 : NumsIn B w a xs) :
    Calls Try.prog 76 #[.slice a xs.length c] w fun e w' => (∃ v, e = .returned v ∧ OwnInts w.heap.size w' v xs) ∧ Below w.heap.size w w' := by
  have qT : ∀ (w : World) (a : Option Addr) (n c n' c' : Nat), (binOp .eql 23 (.slice a n c) (.slice none n' c')).run Try.prog w = .ok (.bool a.isNone) w := fun w a n c n' c' => Lib.run_eql_slice_nil w _ _ a n c n' c' Try.underlying23
  cases a with
  | none =>
    have h0 : xs = [] := by
      cases xs with
      | nil => rfl
      | cons y ys => obtain ⟨b, o, e, _⟩ := h1 0 (by simp); cases e
    subst h0
    clear h1
    go_enter Try.func76, Try.ntmps76
    go_wp2_with fail
    go_ret
    exact ⟨⟨_, rfl, World.ownsRow_nil _ _ _ _⟩, Below.refl _ _⟩
  | some q =>
    have hb := (Below.refl w.heap.size w).alloc (Nat.le_refl _) (.cells #[] 3)
    have HO1 : Hid (OwnInts w.heap.size (w.alloc (.cells #[] 3)) (.slice (some ⟨w.heap.size, 0, none⟩) 0 0) []) := own_new_ints w
    have H1 := Lib.hid ((h1.mono hBw).below hb)
    have Hb := Lib.hid hb
    clear h1 hb
    go_enter Try.func76, Try.ntmps76
    go_wp2_with (at_builtin; refine wpList_append_ints rfl _ _ rfl w.heap.size _ [] rfl HO1.out _ xs _ c rfl rfl _ H1.out (by simp; omega) Hb.out.size ?_)
    intro v' w3 hown hgrow
    have HO := Lib.hid hown
    have HB := Lib.hid (Hb.out.grown hgrow Hb.out.size (fun g hg => (World.ownsRow.lt HO1.out g hg).1))
    clear hown hgrow
    go_wp2_with fail
    go_ret
    exact ⟨⟨_, rfl, HO.out⟩, HB.out⟩
set_option maxRecDepth 100000 in
set_option maxHeartbeats 1000000 in
theorem clone_rats (B : Nat) (a : Option Addr) (c : Nat) (xs : List R) (hn : xs.length ≤ 2000000) (w : World) (hBw : B ≤ w.heap.size) (h1 : RatsIn B w a xs) :
    Calls Try.prog 75 #[.slice a xs.length c] w fun e w' => (∃ v, e = .returned v ∧ OwnRats w.heap.size w' v xs) ∧ Below w.heap.size w w' := by
  have qT : ∀ (w : World) (a : Option Addr) (n c n' c' : Nat), (binOp .eql 32 (.slice a n c) (.slice none n' c')).run Try.prog w = .ok (.bool a.isNone) w := fun w a n c n' c' => Lib.run_eql_slice_nil w _ _ a n c n' c' Try.underlying32
  cases a with
  | none =>
    have h0 : xs = [] := by
      cases xs with
      | nil => rfl
      | cons y ys => obtain ⟨b, o, e, _⟩ := h1 0 y rfl; cases e
    subst h0
    clear h1
    go_enter Try.func75, Try.ntmps75
    go_wp2_with fail
    go_ret
    exact ⟨⟨_, rfl, OwnRats.nil _ _⟩, Below.refl _ _⟩
  | some q =>
    have hb := (Below.refl w.heap.size w).alloc (Nat.le_refl _) (.cells #[] 59)
    have HO1 : Hid (OwnRats w.heap.size (w.alloc (.cells #[] 59)) (.slice (some ⟨w.heap.size, 0, none⟩) 0 0) []) := World.ownsRow_made w #[] 0 (Nat.le_refl _) (Nat.zero_le _) rfl
    have H1 := Lib.hid ((h1.mono hBw).below hb)
    have Hb := Lib.hid hb
    clear h1 hb
    go_enter Try.func75, Try.ntmps75
    go_wp2_with (at_builtin; refine wpList_append_rats rfl _ _ rfl w.heap.size _ [] rfl HO1.out _ xs _ c rfl rfl _ H1.out (by simp; omega) Hb.out.size ?_)
    intro v' w3 hown hgrow
    have HO := Lib.hid hown
    have HB := Lib.hid (Hb.out.grown hgrow Hb.out.size (fun g hg => (World.ownsRow.lt HO1.out g hg).1))
    clear hown hgrow
    go_wp2_with fail
    go_ret
    exact ⟨⟨_, rfl, HO.out⟩, HB.out⟩
set_option maxRecDepth 100000 in
set_option maxHeartbeats 1000000 in
theorem clone_rows (a : Option Addr) (c n : Nat) (us : List Value) (hul : us.length = n) (hn : n ≤ 2000000) (w : World) (h1 : ∀ w', Below w.heap.size w w' → RowVals w' a us) :
    Calls Try.prog 74 #[.slice a n c] w fun e w' => (∃ v, e = .returned v ∧ w'.ownsRow w.heap.size 32 1 v n us) ∧ Below w.heap.size w w' := by
  subst hul
  have qT : ∀ (w : World) (a : Option Addr) (n c n' c' : Nat), (binOp .eql 28 (.slice a n c) (.slice none n' c')).run Try.prog w = .ok (.bool a.isNone) w := fun w a n c n' c' => Lib.run_eql_slice_nil w _ _ a n c n' c' Try.underlying28
  cases a with
  | none =>
    have h0 : us = [] := by
      cases us with
      | nil => rfl
      | cons y ys => obtain ⟨b, o, e, _⟩ := h1 w (Below.refl _ _) 0 y rfl; cases e
    subst h0
    clear h1
    go_enter Try.func74, Try.ntmps74
    go_wp2_with fail
    go_ret
    exact ⟨⟨_, rfl, World.ownsRow_nil _ _ _ _⟩, Below.refl _ _⟩
  | some q =>
    have hb := (Below.refl w.heap.size w).alloc (Nat.le_refl _) (.cells #[] 32)
    have HO1 : Hid ((w.alloc (.cells #[] 32)).ownsRow w.heap.size 32 1 (.slice (some ⟨w.heap.size, 0, none⟩) 0 0) 0 []) := World.ownsRow_made w #[] 0 (Nat.le_refl _) (Nat.zero_le _) rfl
    have H1 := Lib.hid (h1 _ hb)
    have Hb := Lib.hid hb
    clear h1 hb
    go_enter Try.func74, Try.ntmps74
    go_wp2_with (at_builtin; refine wpList_append_rows rfl _ _ rfl w.heap.size _ rfl HO1.out _ us _ c rfl rfl H1.out (by omega) Hb.out.size ?_)
    intro v' w3 hown hgrow
    have HO := Lib.hid hown
    have HB := Lib.hid (Hb.out.grown hgrow Hb.out.size (fun g hg => (World.ownsRow.lt HO1.out g hg).1))
    clear hown hgrow
    go_wp2_with fail
    go_ret
    exact ⟨⟨_, rfl, HO.out⟩, HB.out⟩
end Go.Proofs.Ytkindblhafejfaa
