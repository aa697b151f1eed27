/- Worlds in which at most one block has turned; blocks by their types; append at ints as one step of a region. -/
import Derived.Test.YtpjnjidbdpfdcaaNumI
import Derived.Test.YtpjnjidbdpfdcaaLkBase
import Derived.Laws.AppendOwnNone
import Derived.OwnWalk
namespace Go.Proofs.Ytpjnjidbdpfdcaa
open Go.RowKit
theorem owns_same {B : Nat} {T : TypeId} {s n : Nat} {w w' : World} {v : Value} {vs : List Value} (h : w.ownsRow B T s v n vs) (hs : ∀ g, v.ownBlock = some g → w'.heap[g]? = w.heap[g]?) : w'.ownsRow B T s v n vs := by
 obtain ⟨h1, h2 | ⟨g, cap, cur, rfl, hg, hh, hr⟩⟩ := h
 ·
  exact ⟨h1, .inl h2⟩
 ·
  exact ⟨h1, .inr ⟨g, cap, cur, rfl, hg, (hs g rfl).trans hh, hr⟩⟩
def TyAt (w : World) (b : Nat) (T : TypeId) : Prop := ∃ cs, w.heap[b]? = some (.cells cs T)
theorem TyAt.ne {w : World} {b b' : Nat} {T T' : TypeId} (h : TyAt w b T) (h' : TyAt w b' T') (hT : T ≠ T') : b ≠ b' := fun e => by
 subst e
 obtain ⟨cs, h⟩ := h
 obtain ⟨cs', h'⟩ := h'
 rw [h] at h'
 injection h' with h'
 injection h' with e1 e2
 exact hT e2
theorem TyAt.same {w w' : World} {b : Nat} {T : TypeId} (h : TyAt w b T) (hs : w'.heap[b]? = w.heap[b]?) : TyAt w' b T := by
 obtain ⟨cs, h⟩ := h
 exact ⟨cs, hs.trans h⟩
theorem owns_ty {w : World} {B s n : Nat} {T : TypeId} {v : Value} {xs : List Value} (h : w.ownsRow B T s v n xs) {g : Nat} (hg : v.ownBlock = some g) : TyAt w g T := by
 obtain ⟨_, ⟨rfl, _⟩ | ⟨g1, c1, cur1, rfl, _, hh1, _⟩⟩ := h
 ·
  cases hg
 ·
  obtain rfl : g1 = g := by simpa [Value.ownBlock] using hg
  exact ⟨_, hh1⟩
theorem gr_below {W w w' : World} {row : Option Nat} (h : W.grownBy w row) (hb : Below w.heap.size w w') : W.grownBy w' row :=
 ⟨hb.os.trans h.os, hb.tape.trans h.tape, hb.output.trans h.output, Nat.le_trans h.size hb.size, fun k h1 h2 => (hb.block k (by have := h.size; omega)).trans (h.block k h1 h2)⟩
theorem gr_trans {W w w' : World} {row : Option Nat} (h : W.grownBy w row) (k : w.grownBy w' row) : W.grownBy w' row :=
 ⟨k.os.trans h.os, k.tape.trans h.tape, k.output.trans h.output, Nat.le_trans h.size k.size, fun i h1 h2 => (k.block i (by have := h.size; omega) h2).trans (h.block i h1 h2)⟩
theorem gr_drew {W w : World} {row : Option Nat} (h : W.grownBy w row) : W.grownBy w.drew row := gr_below h (Below.refl _ _).drew
theorem gr_alloc {W w : World} {row : Option Nat} (h : W.grownBy w row) (o : Obj) : W.grownBy (w.alloc o) row := gr_below h ((Below.refl _ _).alloc (Nat.le_refl _) o)
theorem gr_since {W w w' : World} {row : Option Nat} (h : W.grownBy w row) (hs : Since w w') : W.grownBy w' row := gr_below h hs.low
theorem gr_cell {W w : World} {row : Option Nat} (h : W.grownBy w row) {p : Addr} {u : Value} (hp : p.block < W.heap.size) (hr : row ≠ some p.block) (hu : W.cell? p = some u) : w.cell? p = some u := by
 rw [World.cell?_of_block (w := W) (a := p) (h.block _ hp (fun e => hr e.symm))]; exact hu
theorem calls_gr {P : Program} {f : FuncId} {args : Array Value} {W wx : World} {row : Option Nat} {G : Ending → World → Prop} (h : Calls P f args wx fun e w' => G e w' ∧ Below wx.heap.size wx w') (hg : W.grownBy wx row) :
  Calls P f args wx fun e w' => G e w' ∧ Below wx.heap.size wx w' ∧ W.grownBy w' row := h.mono fun _ _ ⟨h1, h2⟩ => ⟨h1, h2, gr_below hg h2⟩
theorem below_gr {B : Nat} {a W w : World} {row : Option Nat} (h : Below B a W) (hg : W.grownBy w row) (hB : B ≤ W.heap.size) (hr : ∀ g, row = some g → B ≤ g) : Below B a w := h.grown hg hB hr
theorem owns_set {w : World} {B s n q i : Nat} {T : TypeId} {v u : Value} {xs : List Value} (h : w.ownsRow B T s v n xs) (hq : v.ownBlock ≠ some q) : (w.setCell ⟨q, i, none⟩ u).ownsRow B T s v n xs :=
 owns_same h fun g hg => Below.heap_setCell _ _ _ _ (fun e => hq (by rw [hg, e]))
theorem not_ty {w : World} {q : Nat} {t t' : TypeId} (h : TyAt w q t) (hT : t ≠ t') : ¬ TyAt w q t' := fun h' => TyAt.ne h h' hT rfl
theorem ints_shape {B : Nat} {w : World} {v : Value} {xs : List Int} (h : OwnInts B w v xs) : ∃ (a : Option Addr) (c : Nat), v = .slice a xs.length c := by
 obtain ⟨a, c, e, _⟩ := own_reads h
 exact ⟨a, c, e⟩
theorem Since.grown {B w w' : World} {row : Option Nat} (h : Since B w) (hg : w.grownBy w' row) (hr : ∀ g, row = some g → B.heap.size ≤ g) : Since B w' := ⟨h.low.grown hg h.low.size hr⟩
theorem one_num (w : World) (x : Int) : NumsIn (w.heap.size + 1) (w.alloc (.cells #[.int .i64 x] 3)) (some ⟨w.heap.size, 0, none⟩) [x] := fun j hj => by
 match j with
 | 0 => exact ⟨w.heap.size, 0, rfl, Nat.lt_succ_self _, (CellsAt.new w #[.int .i64 x] 3).cell 0⟩
 | j + 1 => simp at hj
theorem run_append_none {P : Program} {w : World} (base : Nat) (t ty e : TypeId) (i : TypeInfo) (size : Nat) (ht : P.underlying t = some (.slice e)) (hi : P.info? e = some i) (v : Value) (n : Nat) (xs : List Value) (c : Nat) (hown : w.ownsRow base e size v n xs) :
  (Builtin.append_ #[t, t] ty #[v, .slice none 0 c]).run P w = .ok v w := by
 rcases hown.2 with ⟨rfl, rfl⟩ | ⟨g, cap, cur, rfl, _, _, hnc, _⟩
 ·
  simp [Builtin.append_, run_underlying ht, sizeOf, typeInfo, hi, Builtin.lenOf, Builtin.firstCells]
 ·
  simp [Builtin.append_, run_underlying ht, sizeOf, typeInfo, hi, Builtin.lenOf, Builtin.firstCells, hnc, storeCells]
theorem numsIn_cells {n : Nat} {w : World} {b o : Nat} {ys : List Int} (h : NumsIn n w (some ⟨b, o, none⟩) ys) : ∀ j u, (ys.map (Value.int .i64))[j]? = some u → w.cell? ((⟨b, o, none⟩ : Addr).add j) = some u := fun j u hu => by
 have hlt : j < ys.length := by have := (List.getElem?_eq_some_iff.1 hu).1; simpa using this
 obtain ⟨b', o', e, _, c0⟩ := h j hlt
 obtain ⟨rfl, rfl⟩ : b = b' ∧ o = o' := by simp only [Option.some.injEq, Addr.mk.injEq] at e; exact ⟨e.1, e.2.1⟩
 rw [Addr.add_lit, c0, ← hu]
 simp [hlt]
theorem step_append_ints {w : World} {ops : Array Oper} {o : Oper} {a : Act} {K : Act → World → Prop} {Q : Exit → Act → World → Prop} {E : Prop} (hgd : o.guard = none) (s x : Operand)
  (hop : o.op = Op.call { callee := Callee.builtin Builtin.append, args := #[s, x], argTypes := #[22, 22] }) (B : Nat) (v : Value) (xs : List Int) (hs : a.eval s = v) (hown : OwnInts B w v xs) (ad : Option Addr) (ys : List Int) (n c : Nat) (hn : n = ys.length) (hx : a.eval x = .slice ad n c)
  (n0 : Nat) (hr : NumsIn n0 w ad ys) (hlen : xs.length + ys.length ≤ 4000000) (hB : B ≤ w.heap.size) (hK : ∀ v' w', OwnInts B w' v' (xs ++ ys) → w.grownBy w' v.ownBlock → K (a.put o.dst v') w') : if Region.wanted o (yielded ops a.tmps) = true then Oper.wp Try.prog o a w K Q else E := by
 have hw : Region.wanted o (yielded ops a.tmps) = true := by simp [Region.wanted, hgd]
 rw [if_pos hw]
 subst hn
 obtain ⟨i0, hi, hz0, hz1, hz2⟩ := info_parts info_int
 cases ad with
 | none =>
  have h0 : ys = [] := by
   cases ys with
   | nil => rfl
   | cons y ys => obtain ⟨b, o, e, _⟩ := hr 0 (by simp); cases e
  subst h0
  have hrun := run_append_none (P := Try.prog) (w := w) B 22 o.type 3 i0 1 Try.underlying22 hi v xs.length _ c hown
  unfold Oper.wp
  simp only [List.length_nil] at hx
  simp [execOp, hop, resolve, invoke, builtin, hs, hx, hrun, Result.andThen]
  exact hK v w (by simpa using hown) (World.grownBy.refl _ _)
 | some q =>
  obtain ⟨b, o1, sp⟩ := q
  refine wp_append_own w s x 22 hop B 3 i0 (.int .i64 0) 1 8 Try.underlying22 hi hz0 hz1 hz2 rfl (by decide) v xs.length (xs.map (Value.int .i64)) hs hown ⟨b, o1, sp⟩ ys.length c (ys.map (Value.int .i64)) hx (by simp) ?_ (fun u hu => ints_oneCell .i64 ys u hu) (by unfold maxLen; omega) (by omega) hB ?_
  ·
   intro j u hj
   have hlt : j < ys.length := by have := (List.getElem?_eq_some_iff.1 hj).1; simpa using this
   obtain ⟨b', o', e, _⟩ := hr j hlt
   have e2 : sp = none := by
    simp only [Option.some.injEq, Addr.mk.injEq] at e
    exact e.2.2
   subst e2
   exact numsIn_cells hr j u hj
  ·
   intro v' w' h1 h2 _
   refine hK v' w' ?_ h2
   unfold OwnInts
   rw [List.length_append, List.map_append]
   exact h1
theorem own_new_ints (w : World) : OwnInts w.heap.size (w.alloc (.cells #[] 3)) (.slice (some ⟨w.heap.size, 0, none⟩) 0 0) [] := World.ownsRow_made w #[] 0 (Nat.le_refl _) (Nat.zero_le _) rfl
theorem CellsAt.ty {w : World} {q : Nat} {cs : Array Value} {t : TypeId} (h : CellsAt w q cs t) : TyAt w q t := ⟨_, h⟩
theorem own_away {w : World} {B s n q : Nat} {T t : TypeId} {v : Value} {xs : List Value} (h : w.ownsRow B T s v n xs) (hx : TyAt w q t) (hT : T ≠ t) : v.ownBlock ≠ some q := fun hq => (TyAt.ne (owns_ty h hq) hx hT) rfl
end Go.Proofs.Ytpjnjidbdpfdcaa
