/- A kind of arguments and results of exact laws: tableaus. -/
import Derived.Test.YtfbhnjdbamahkaaLkBase
import Derived.Test.YtfbhnjdbamahkaaLkIn
import Derived.Test.YtfbhnjdbamahkaaTaF
namespace Go.Proofs.Ytfbhnjdbamahkaa
open Go.RowKit
open Ve (R)
open Ta (T)
/-- Small enough. -/
def TabOk (t : T) : Prop := TabFits t ∧ tabN t ≤ 1048576
theorem tabOk {t : T} (hw : TabLens' t) (h : tabN t ≤ 1048576) : TabOk t := ⟨tabFits' hw h, h⟩
theorem ResTab.size {lo hi : Nat} {w : World} {v : Value} {t : T} (h : ResTab lo hi w v t) : hi ≤ w.heap.size := by
  obtain ⟨_, _, _, h1, _⟩ := h.ex
  exact h1.size
/-- A tableau that is read, below n: a fact of these blocks. -/
theorem RMatIn.same {n : Nat} {w w' : World} {a : Option Addr} {L : List (List R)} (h : RMatIn n w a L) (hk : ∀ k, k < n → w'.heap[k]? = w.heap[k]?) : RMatIn n w' a L := fun j hj => by
  obtain ⟨b, o, a', c', e1, h2, h3, h4⟩ := h j hj
  have hc : ∀ b i, b < n → w'.cell? ⟨b, i, none⟩ = w.cell? ⟨b, i, none⟩ := fun b i hb => World.cell?_of_block (w := w) (a := ⟨b, i, none⟩) (hk b hb)
  refine ⟨b, o, a', c', e1, h2, by rw [hc _ _ h2]; exact h3, fun j x hx => ?_⟩
  obtain ⟨b, o, e1, h2, h3, h4⟩ := h4 j x hx
  exact ⟨b, o, e1, h2, by rw [hc _ _ h2]; exact h3, by rw [hc _ _ h2]; exact h4⟩
theorem TabC.rg {w : World} {x y z : Value} {t : T} (h : TabC w x y z t) : Rg (fun w' => TabC w' x y z t) 0 w.heap.size w :=
  ⟨h, Nat.le_refl _, fun w' hs hk => by
    obtain ⟨a, b, c1, c2, e1, e2, e3, hi⟩ := h
    exact ⟨a, b, c1, c2, e1, e2, e3, TabIn.mono ⟨hi.mR.same fun k h => hk k (Nat.zero_le _) h, hi.mB.same fun k h => hk k (Nat.zero_le _) h⟩ hs⟩⟩
theorem ResTab.reads_c {lo hi : Nat} {w : World} {x y z : Value} {t : T} (h : ResTab lo hi w (.agg #[x, y, z]) t) : TabC w x y z t := by
  obtain ⟨a, b, c1, c2, e, hi, hh⟩ := h.reads
  unfold tabV at e
  injection e with e
  have e1 : x = .slice a t.rows.length c1 := by have := congrArg (fun q => q[0]?) e; simpa using this
  have e2 : y = .slice b t.basis.length c2 := by have := congrArg (fun q => q[1]?) e; simpa using this
  have e3 : z = .int .i64 t.cols := by have := congrArg (fun q => q[2]?) e; simpa using this
  exact ⟨a, b, c1, c2, e1, e2, e3, hi.mono hh⟩
theorem ResTab.rg {lo hi : Nat} {w : World} {v : Value} {t : T} (h : ResTab lo hi w v t) : Rg (fun w' => ResTab lo hi w' v t) lo hi w := by
  refine ⟨h, h.size, fun w' hs hk => ?_⟩
  obtain ⟨vR, vB, rfl, ⟨a, cap, us, rfl, hh, k1, k2⟩, h2⟩ := h
  refine ⟨_, vB, rfl, ⟨a, cap, us, rfl, Nat.le_trans hh hs, ⟨fun j hj => ?_, k1.apart⟩, fun j hj => (k2 j hj).same fun b hb => ?_⟩, h2.same fun b hb => ?_⟩
  · obtain ⟨g, o, e, h3, h4, h5, h6⟩ := k1.out j hj
    exact ⟨g, o, e, h3, h4, by rw [World.cell?_of_block (w := w) (a := ⟨g, o + j, none⟩) (hk g h3 h4)]; exact h5, h6.same (hk g h3 h4)⟩
  · have := (k2 j hj).blk hb
    exact hk b this.1 this.2.1
  · have := h2.blk hb
    exact hk b this.1 this.2.1
theorem eqTab_k {w : World} {x y z x' y' z' : Value} {t : T} (h : TabC w x y z t) (h' : TabC w x' y' z' t) (hf : TabOk t) :
    Calls Try.prog 45 #[.agg #[x, y, z], .agg #[x', y', z']] w fun e w' => e = .returned (.bool true) ∧ Below w.heap.size w w' := eqTab_c h h' hf.1
theorem markTab_k {lo hi : Nat} {w : World} {x y z : Value} {t : T} (h : ResTab lo hi w (.agg #[x, y, z]) t) (hf : TabOk t) :
    Calls Try.prog 46 #[.agg #[x, y, z], .int .i64 1] w fun e w' => e = .returned (.int .i64 (markN t)) ∧ ResTab lo hi w' (.agg #[x, y, z]) (marksT t) ∧ Turned lo hi w w' :=
  (markTab lo hi _ t hf.2 w h).mono fun _ _ ⟨h1, h2, h3⟩ => ⟨h1, h3, h2⟩
theorem markN_le {t : T} (hf : TabOk t) : 1 ≤ markN t ∧ markN t ≤ 4194304 := by
  have h := tab_cells hf.2
  unfold markN
  omega
theorem heldTab_k {w : World} {x y z : Value} {t : T} (h : TabC w x y z (marksT t)) (hf : TabOk t) :
    Calls Try.prog 47 #[.agg #[x, y, z], .int .i64 1] w fun e w' => e = .returned (.int .i64 (markN t)) ∧ Below w.heap.size w w' := by
  obtain ⟨a, b, c1, c2, rfl, rfl, rfl, hi⟩ := h
  have := heldTab w.heap.size a b c1 c2 t hf.2 w (Nat.le_refl _) hi
  rw [← tabV_marks] at this
  exact this
end Go.Proofs.Ytfbhnjdbamahkaa
