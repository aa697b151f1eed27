/- Games in memory; a kind of arguments and results of exact laws: laws.szGame, toGame, eqGame, markGame, heldGame. -/
import Derived.Test.YtambneapofaclaaGreatDoorLkI
import Derived.Test.YtambneapofaclaaGreatDoorGmM
namespace Go.Proofs.YtambneapofaclaaGreatDoor
open Go.RowKit
open Gm (G)

theorem two {w : World} {q : Nat} {x y : Value} {t : TypeId} (h : CellsAt w q #[x, y] t) : w.cell? ⟨q, 0, none⟩ = some x ∧ w.cell? ⟨q, 1, none⟩ = some y := ⟨h.cell 0, h.cell 1⟩
theorem two' {w : World} {q : Nat} {x y : Value} {t : TypeId} (h : CellsAt w q #[x, y] t) : w.cell? ⟨q, 0, none⟩ = some x ∧ w.cell? ⟨q, 1, none⟩ = some y ∧ w.frozen? ⟨q, 0, none⟩ = false ∧ w.frozen? ⟨q, 1, none⟩ = false := ⟨h.cell 0, h.cell 1, h.free 0, h.free 1⟩
theorem CellsAt.s0 {w : World} {q : Nat} {x y : Value} {t : TypeId} (h : CellsAt w q #[x, y] t) (u : Value) : CellsAt (w.setCell ⟨q, 0, none⟩ u) q #[u, y] t := by
  have := h.set 0 u
  simpa using this
theorem CellsAt.s1 {w : World} {q : Nat} {x y : Value} {t : TypeId} (h : CellsAt w q #[x, y] t) (u : Value) : CellsAt (w.setCell ⟨q, 1, none⟩ u) q #[x, u] t := by
  have := h.set 1 u
  simpa using this
/-- Go's lengths; small enough for all that walks over it. -/
def GmLens (g : G) : Prop := g.v.length ≤ 9223372036854775807 ∧ (Lit.int .i64 g.n).wf = true
def GmOk (g : G) : Prop := g.v.length ≤ 1048576 ∧ (Lit.int .i64 g.n).wf = true
theorem gmOk {g : G} (hw : GmLens g) (h : g.v.length ≤ 1048576) : GmOk g := ⟨h, hw.2⟩
theorem GmOk.n {g : G} (h : GmOk g) : -9223372036854775808 ≤ g.n ∧ g.n ≤ 9223372036854775807 := by
  have h2 := h.2
  have e1 : IntKind.i64.min = -9223372036854775808 := rfl
  have e2 : IntKind.i64.max = 9223372036854775807 := rfl
  simp [Lit.wf, e1, e2] at h2
  exact h2
/-- The cells of a game that is read; one of the call's own. -/
def GmC (w : World) (x y : Value) (g : G) : Prop := ∃ (a : Option Addr) (c : Nat), x = .int .i64 g.n ∧ y = .slice a g.v.length c ∧ NumsIn w.heap.size w a g.v
def ResGm (lo hi : Nat) (w : World) (v : Value) (g : G) : Prop := ∃ vV : Value, v = .agg #[.int .i64 g.n, vV] ∧ RowAtI lo hi w vV g.v ∧ hi ≤ w.heap.size
theorem GmC.up {w w' : World} {x y : Value} {g : G} (h : GmC w x y g) (hb : Below w.heap.size w w') : GmC w' x y g := by
  obtain ⟨a, c, e0, e1, hi⟩ := h
  exact ⟨a, c, e0, e1, (hi.below hb).mono hb.size⟩
theorem GmC.one {w : World} {x y : Value} {g : G} (h : GmC w x y g) : x.oneCell' = true ∧ y.oneCell' = true := by
  obtain ⟨a, c, rfl, rfl, _⟩ := h
  exact ⟨rfl, rfl⟩
theorem stable_gm (x y : Value) (g : G) : Stable fun w => GmC w x y g := fun _ _ hb h => h.up hb
theorem GmC.rg {w : World} {x y : Value} {g : G} (h : GmC w x y g) : Rg (fun w' => GmC w' x y g) 0 w.heap.size w :=
  ⟨h, Nat.le_refl _, fun w' hs hk => by
    obtain ⟨a, c, e0, e1, hi⟩ := h
    exact ⟨a, c, e0, e1, NumsIn.mono (hi.same fun k h => hk k (Nat.zero_le _) h) hs⟩⟩
theorem ResGm.size {lo hi : Nat} {w : World} {v : Value} {g : G} (h : ResGm lo hi w v g) : hi ≤ w.heap.size := by
  obtain ⟨_, _, _, h⟩ := h
  exact h
theorem ResGm.reads_c {lo hi : Nat} {w : World} {x y : Value} {g : G} (h : ResGm lo hi w (.agg #[x, y]) g) : GmC w x y g := by
  obtain ⟨vV, e, hr, hs⟩ := h
  obtain ⟨a, c, rfl, hn⟩ := hr.reads
  injection e with e
  have e0 : x = .int .i64 g.n := by have := congrArg (fun q => q[0]?) e; simpa using this
  have e1 : y = .slice a g.v.length c := by have := congrArg (fun q => q[1]?) e; simpa using this
  exact ⟨a, c, e0, e1, hn.mono hs⟩
theorem ResGm.rg {lo hi : Nat} {w : World} {v : Value} {g : G} (h : ResGm lo hi w v g) : Rg (fun w' => ResGm lo hi w' v g) lo hi w := by
  refine ⟨h, h.size, fun w' hs hk => ?_⟩
  obtain ⟨vV, rfl, hr, hh⟩ := h
  exact ⟨vV, rfl, hr.same fun b hb => by have := hr.blk hb; exact hk b this.1 this.2.1, Nat.le_trans hh hs⟩
theorem ResGm.of_own {lo : Nat} {w : World} {vV : Value} {g : G} (h : OwnInts lo w vV g.v) : ResGm lo w.heap.size w (.agg #[.int .i64 g.n, vV]) g :=
  ⟨vV, rfl, RowAtI.of_own h fun g hg => (World.ownsRow.lt h g hg).2, Nat.le_refl _⟩
set_option maxRecDepth 100000 in
set_option maxHeartbeats 1000000 in
theorem eqGm_k {w : World} {x y x' y' : Value} {g : G} (h : GmC w x y g) (h' : GmC w x' y' g) (hf : GmOk g) :
    Calls Tryz.prog 14 #[.agg #[x, y], .agg #[x', y']] w fun e w' => e = .returned (.bool true) ∧ Below w.heap.size w w' := by
  obtain ⟨a, c, rfl, rfl, hi⟩ := h
  obtain ⟨a', c', rfl, rfl, hi'⟩ := h'
  have hl := hf.1
  have hb := ((Below.refl w.heap.size w).alloc (Nat.le_refl _) (.cells #[.int .i64 g.n, .slice a g.v.length c] 26)).alloc (by rw [size1]; omega) (.cells #[.int .i64 g.n, .slice a' g.v.length c'] 26)
  have HI := Lib.hid (hi.below hb).ints
  have HI' := Lib.hid (hi'.below hb).ints
  have HB := Lib.hid hb
  have hne : (g.n != g.n) = false := by simp
  clear hi hi' hb hf
  go_enter Tryz.func14, Tryz.ntmps14
  go_wp2_with fail
  refine (laws_eqIntS a a' c c' g.v (by omega) _ HI.out HI'.out).mono ?_
  rintro e w1 ⟨rfl, d, rfl⟩
  go_wp2_with fail
  go_ret
  exact ⟨rfl, below_drewN HB.out d⟩
set_option maxRecDepth 100000 in
set_option maxHeartbeats 1000000 in
/-- Marked from kk on. -/
theorem markGm_k {lo hi : Nat} {w : World} {x y : Value} {g : G} (h : ResGm lo hi w (.agg #[x, y]) g) (hf : GmOk g) (kk : Int) (h0 : 0 ≤ kk) (h1 : kk ≤ 4194304) :
    Calls Tryz.prog 15 #[.agg #[x, y], .int .i64 kk] w fun e w' => e = .returned (.int .i64 (kk + g.v.length)) ∧ ResGm lo hi w' (.agg #[x, y]) ⟨g.n, marksI kk.toNat g.v.length⟩ ∧ Turned lo hi w w' := by
  obtain ⟨vV, e, hr, hs⟩ := h
  injection e with e
  have e0 : x = .int .i64 g.n := by have := congrArg (fun q => q[0]?) e; simpa using this
  have e1 : y = vV := by have := congrArg (fun q => q[1]?) e; simpa using this
  subst e0 e1
  have hl := hf.1
  have hb := (Below.refl w.heap.size w).alloc (Nat.le_refl _) (.cells #[.int .i64 g.n, y] 26)
  have HR := Lib.hid (hr.below hb)
  obtain ⟨a, c, rfl, _⟩ := hr
  have HT := Lib.hid (Turned.of_below (lo := lo) (hi := hi) hb)
  have hsz := hb.size
  clear hf hb e
  go_enter Tryz.func15, Tryz.ntmps15
  go_wp2_with fail
  refine (mark_rowI lo hi _ kk kk.toNat (by omega) g.v (by omega) (by omega) _ HR.out).mono ?_
  rintro e w1 ⟨rfl, h3, row, h4, h5⟩
  have HT1 := Lib.hid (HT.out.trans (Turned.of_grown h4 fun b hb => by have := HR.out.blk (h5 b hb); omega))
  have H3 := Lib.hid h3
  have hsz2 := h4.size
  clear h3 h4 h5
  go_wp2_with fail
  go_ret
  exact ⟨rfl, ⟨_, rfl, H3.out, by omega⟩, HT1.out⟩
set_option maxRecDepth 100000 in
set_option maxHeartbeats 1000000 in
theorem heldGm_k {w : World} {x y : Value} {m : Int} {n : Nat} (kk : Int) (h : GmC w x y ⟨m, marksI kk.toNat n⟩) (hf : n ≤ 1048576) (h0 : 0 ≤ kk) (h1 : kk ≤ 4194304) :
    Calls Tryz.prog 16 #[.agg #[x, y], .int .i64 kk] w fun e w' => e = .returned (.int .i64 (kk + n)) ∧ Below w.heap.size w w' := by
  obtain ⟨a, c, rfl, e1, hi⟩ := h
  have e2 : y = .slice a n c := by rw [e1]; show Value.slice a (marksI kk.toNat n).length c = _; rw [marksI_len]
  subst e2
  obtain ⟨k, hk⟩ : ∃ k : Nat, kk.toNat = k := ⟨_, rfl⟩
  obtain rfl : kk = (k : Int) := by omega
  have hb := (Below.refl w.heap.size w).alloc (Nat.le_refl _) (.cells #[.int .i64 m, .slice a n c] 26)
  have hi2 : NumsIn w.heap.size w a (marksI k n) := hi
  have HI := Lib.hid (hi2.below hb).ints
  have HB := Lib.hid hb
  have hneg : decide ((k : Int) + (n : Int) < 0) = false := by rw [decide_eq_false_iff_not]; omega
  clear hi hi2 hb hk e1
  go_enter Tryz.func16, Tryz.ntmps16
  go_wp2_with fail
  refine (laws_heldIntS2 a c k n (by omega) (by omega) _ HI.out).mono ?_
  rintro e w1 ⟨rfl, rfl⟩
  go_wp2_with fail
  go_ret
  exact ⟨rfl, HB.out⟩
end Go.Proofs.YtambneapofaclaaGreatDoor
