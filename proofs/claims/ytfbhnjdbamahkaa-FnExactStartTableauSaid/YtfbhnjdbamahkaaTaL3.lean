/- Tableaus as the laws count, copy, compare, mark them; one that came in. -/
import Derived.Test.YtfbhnjdbamahkaaTaL2
import Derived.Test.YtfbhnjdbamahkaaGLr
namespace Go.Proofs.Ytfbhnjdbamahkaa
open Go.RowKit Go.Deep Go.ChangeShapes Go.WideShapes
open Ve (R)
open Ta (T)
/-- All the numbers and rows. -/
def tabN (t : T) : Nat := t.rows.length + cellsM t.rows + t.basis.length
def TabLens (t : T) : Prop := t.rows.length ≤ 9223372036854775807 ∧ LensM t.rows ∧ t.basis.length ≤ 9223372036854775807
theorem tabFits {t : T} (h : tabN t ≤ 1048576) (hw : (Lit.int .i64 t.cols).wf = true) : TabFits t := by
  unfold tabN at h
  exact ⟨by omega, fun k hk => by have := cellsM_row t.rows k hk; omega, by omega, hw⟩
theorem tab_cells {t : T} (h : tabN t ≤ 1048576) : cellsM t.rows ≤ 1048576 ∧ t.basis.length ≤ 1048576 := by
  unfold tabN at h
  omega
/-- A tableau in blocks from lo to hi - 1, all of them apart. -/
structure ResTab (lo hi : Nat) (w : World) (v : Value) (t : T) : Prop where
  ex : ∃ vR vB : Value, v = .agg #[vR, vB, .int .i64 t.cols] ∧ ResM lo hi w vR t.rows ∧ RowAtI lo hi w vB t.basis
theorem ResTab.below {lo hi : Nat} {w w' : World} {v : Value} {t : T} (h : ResTab lo hi w v t) (hb : Below w.heap.size w w') : ResTab lo hi w' v t := by
  obtain ⟨vR, vB, rfl, h1, h2⟩ := h
  exact ⟨vR, vB, rfl, h1.below hb, h2.below hb⟩
theorem ResTab.turned {lo hi l2 h2 : Nat} {w w' : World} {v : Value} {t : T} (h : ResTab lo hi w v t) (ht : Turned l2 h2 w w') (ha : hi ≤ l2 ∨ h2 ≤ lo) : ResTab lo hi w' v t := by
  obtain ⟨vR, vB, rfl, h1, h2⟩ := h
  exact ⟨vR, vB, rfl, h1.turned ht ha, h2.turned ht ha⟩
theorem ResTab.reads {lo hi : Nat} {w : World} {v : Value} {t : T} (h : ResTab lo hi w v t) : ∃ (a b : Option Addr) (c1 c2 : Nat), v = tabV a b c1 c2 t ∧ TabIn hi w a b t ∧ hi ≤ w.heap.size := by
  obtain ⟨vR, vB, rfl, h1, h2⟩ := h
  have hh := h1.size
  obtain ⟨a, c1, rfl, r1⟩ := h1.reads
  obtain ⟨b, c2, rfl, r2⟩ := h2.reads
  exact ⟨a, b, c1, c2, rfl, ⟨r1, r2⟩, hh⟩
/-- What a function of the code that makes a tableau returns. -/
def MakesRes (t : T) (w : World) (e : Ending) (w' : World) : Prop := ∃ v, e = .returned v ∧ ResTab w.heap.size w'.heap.size w' v t ∧ Below w.heap.size w w'
def MakesResK (t : T) (k : Bool) (w : World) (e : Ending) (w' : World) : Prop := ∃ v, e = .returned (.tuple #[v, .bool k]) ∧ ResTab w.heap.size w'.heap.size w' v t ∧ Below w.heap.size w w'
/-- The two made, and the boxes turned: a tableau. -/
theorem tab_made {s n0 : Nat} {w1 w1' w2 w4 : World} {vA vB : Value} {t : T} (h0 : s + 3 ≤ n0) (e1 : w1'.heap.size = w1.heap.size) (h1 : n0 ≤ w1.heap.size) (hA : OwnRMat n0 w1.heap.size w1 vA t.rows) (hB : OwnInts w1'.heap.size w2 vB t.basis)
    (t1 : Turned s (s + 3) w1 w1') (kB : Below w1'.heap.size w1' w2) (t2 : Turned s (s + 3) w2 w4) : ResTab s w4.heap.size w4 (.agg #[vA, vB, .int .i64 t.cols]) t := by
  have hs2 := kB.size
  have hs4 := t2.size
  have T1 := (t1.step kB).trans t2
  have lB : ∀ g, vB.ownBlock = some g → w1'.heap.size ≤ g ∧ g < w2.heap.size := World.ownsRow.lt hB
  exact ⟨vA, vB, rfl, ((hA.res (Nat.le_refl _)).turned T1 (.inr h0)).wider (by omega) (by omega) (Nat.le_refl _), ((RowAtI.of_own (hi := w2.heap.size) hB fun g hg => (lB g hg).2).turned t2 (.inr (by omega))).wider (by omega) (by omega)⟩
set_option maxRecDepth 100000 in
set_option maxHeartbeats 1000000 in
theorem eqTab (B : Nat) (a b a' b' : Option Addr) (c1 c2 d1 d2 : Nat) (t : T) (hn : TabFits t) (w : World) (hBw : B ≤ w.heap.size) (hz : TabIn B w a b t) (hy : TabIn B w a' b' t) :
    Calls Try.prog 45 #[tabV a b c1 c2 t, tabV a' b' d1 d2 t] w fun e w' => e = .returned (.bool true) ∧ Below w.heap.size w w' := by
  have HN := Lib.hid hn
  rw [show tabV a b c1 c2 t = .agg #[.slice a t.rows.length c1, .slice b t.basis.length c2, .int .i64 t.cols] from rfl, show tabV a' b' d1 d2 t = .agg #[.slice a' t.rows.length d1, .slice b' t.basis.length d2, .int .i64 t.cols] from rfl]
  have hb := ((Below.refl w.heap.size w).alloc (Nat.le_refl _) (.cells #[.slice a t.rows.length c1, .slice b t.basis.length c2, .int .i64 t.cols] 27)).alloc (by rw [size1]; omega) (.cells #[.slice a' t.rows.length d1, .slice b' t.basis.length d2, .int .i64 t.cols] 27)
  have hx := (Tri.new w (.slice a t.rows.length c1) (.slice b t.basis.length c2) (.int .i64 t.cols) 27).more (.cells #[.slice a' t.rows.length d1, .slice b' t.basis.length d2, .int .i64 t.cols] 27)
  have hx' := Tri.new (w.alloc (.cells #[.slice a t.rows.length c1, .slice b t.basis.length c2, .int .i64 t.cols] 27)) (.slice a' t.rows.length d1) (.slice b' t.basis.length d2) (.int .i64 t.cols) 27
  rw [size1] at hx'
  have Hz := Lib.hid ((hz.mono hBw).below hb)
  have Hy := Lib.hid ((hy.mono hBw).below hb)
  have Hb := Lib.hid hb
  have Hx := Lib.hid hx
  have Hx' := Lib.hid hx'
  clear hz hy hn hb hx hx'
  go_enter Try.func45, Try.ntmps45
  go_wp2_with fail
  refine (laws_eqRatSS w.heap.size a a' c1 d1 t.rows HN.out.rows (fun k hk => by have := HN.out.row k hk; omega) _ Hb.out.size Hz.out.mR Hy.out.mR).mono ?_
  rintro e w1 ⟨rfl, hb1⟩
  have Hs := Lib.hid (Hb.out.trans (hb1.mono Hb.out.size))
  obtain ⟨x0, x1, x2, _⟩ := (Hx.out.below hb1).cells
  obtain ⟨y0, y1, y2, _⟩ := (Hx'.out.below hb1).cells
  have Hb1 := Lib.hid (hb1.mono Hb.out.size)
  clear hb1
  go_wp2_with fail
  refine (laws_eqIntS b b' c2 d2 t.basis (by have := HN.out.basis; omega) _ (Hz.out.mB.below Hb1.out).ints (Hy.out.mB.below Hb1.out).ints).mono ?_
  rintro e w2 ⟨rfl, d, rfl⟩
  go_wp2_with fail
  go_ret
  exact ⟨rfl, below_drewN Hs.out d⟩
/-- The marks of a tableau, from 1 on. -/
def marksT (t : T) : T := ⟨marksM 1 t.rows, marksI (1 + 2 * cellsM t.rows) t.basis.length, t.cols⟩
theorem tabV_marks (a b : Option Addr) (c1 c2 : Nat) (t : T) : tabV a b c1 c2 (marksT t) = tabV a b c1 c2 t := by
  unfold tabV marksT
  simp only [marksM_len, marksI_len]
def markN (t : T) : Int := 1 + 2 * (cellsM t.rows : Int) + (t.basis.length : Int)
set_option maxRecDepth 100000 in
set_option maxHeartbeats 1000000 in
theorem markTab (lo hi : Nat) (v : Value) (t : T) (hn : tabN t ≤ 1048576) (w : World) (h1 : ResTab lo hi w v t) :
    Calls Try.prog 46 #[v, .int .i64 1] w fun e w' => e = .returned (.int .i64 (markN t)) ∧ Turned lo hi w w' ∧ ResTab lo hi w' v (marksT t) := by
  obtain ⟨vR, vB, rfl, hR, hB⟩ := h1
  have hb := (Below.refl w.heap.size w).alloc (Nat.le_refl _) (.cells #[vR, vB, .int .i64 t.cols] 27)
  have hx := Tri.new w vR vB (.int .i64 t.cols) 27
  have ht := Turned.of_below (lo := lo) (hi := hi) hb
  have HR := Lib.hid (hR.below hb)
  have HB := Lib.hid (hB.below hb)
  have hh := hR.size
  have hh2 := Lib.hid hh
  obtain ⟨a, c1, rfl, _⟩ := hR.reads
  obtain ⟨b, c2, rfl, _⟩ := hB.reads
  have Hx := Lib.hid hx
  have HT := Lib.hid ht
  have HN := Lib.hid (tab_cells hn)
  have HNr : Hid (t.rows.length ≤ 1048576) := by unfold tabN at hn; show _ ≤ _; omega
  clear hR hB hb hx ht hn
  go_enter Try.func46, Try.ntmps46
  go_wp2_with fail
  refine (laws_markRatSS lo hi _ 1 1 rfl t.rows HNr.out (by have := HN.out.1; omega) _ HR.out).mono ?_
  rintro e w1 ⟨rfl, t1, k1, hR1⟩
  have HB1 := Lib.hid (HB.out.kept k1 (fun e => rat_ne_int e.symm))
  have HR1 := Lib.hid hR1
  have hx1 : Tri w1 w.heap.size (.slice a t.rows.length c1) (.slice b t.basis.length c2) (.int .i64 t.cols) 27 := (t1.block _ (lt_of_at Hx.out) (.inr hh2.out)).trans Hx.out
  obtain ⟨x0, x1, x2, _⟩ := hx1.cells
  have HT1 := Lib.hid (HT.out.trans t1)
  clear t1 k1 hx1 hR1
  go_wp2_with fail
  refine (mark_rowI lo hi _ _ (1 + 2 * cellsM t.rows) (by omega) t.basis (by have := HN.out.2; omega) (by have := HN.out.1; omega) _ HB1.out).mono ?_
  rintro e w2 ⟨rfl, hB2, row, g2, hrow⟩
  have HK := Lib.hid (KeptBut.of_grown g2 fun b hb => HB1.out.ty (hrow b hb))
  have HT2 := Lib.hid (HT1.out.trans (Turned.of_grown g2 fun b hb => by have := HB1.out.blk (hrow b hb); omega))
  have HR2 := Lib.hid (HR1.out.kept g2.size HK.out rat_ne_int row_ne_int)
  have HB2 := Lib.hid hB2
  clear g2 hrow hB2
  go_wp2_with fail
  go_ret
  exact ⟨ret_int (by unfold markN; omega), HT2.out, _, _, rfl, HR2.out, HB2.out⟩
theorem held_rowI (a : Option Addr) (c : Nat) (kk : Int) (k n : Nat) (hkk : kk = k) (hn : n ≤ 2097152) (hk2 : k ≤ 8388608) (w : World) (h1 : IntsIn w a (marksI k n)) :
    Calls Try.prog 34 #[.slice a n c, .int .i64 kk] w fun e w' => e = .returned (.int .i64 (kk + n)) ∧ w = w' := by
  subst hkk
  exact laws_heldIntS2 a c k n hn hk2 w h1
set_option maxRecDepth 100000 in
set_option maxHeartbeats 1000000 in
theorem heldTab (B : Nat) (a b : Option Addr) (c1 c2 : Nat) (t : T) (hn : tabN t ≤ 1048576) (w : World) (hBw : B ≤ w.heap.size) (h1 : TabIn B w a b (marksT t)) :
    Calls Try.prog 47 #[tabV a b c1 c2 t, .int .i64 1] w fun e w' => e = .returned (.int .i64 (markN t)) ∧ Below w.heap.size w w' := by
  have hb := (Below.refl w.heap.size w).alloc (Nat.le_refl _) (.cells #[.slice a t.rows.length c1, .slice b t.basis.length c2, .int .i64 t.cols] 27)
  have Hb := Lib.hid hb
  have Hz := Lib.hid ((h1.mono hBw).below hb)
  have HN := Lib.hid (tab_cells hn)
  have HNr : Hid (t.rows.length ≤ 1048576) := by unfold tabN at hn; show _ ≤ _; omega
  have hn1 : decide (1 + 2 * (cellsM t.rows : Int) < 0) = false := by rw [decide_eq_false_iff_not]; omega
  have hn2 : decide (1 + 2 * (cellsM t.rows : Int) + (t.basis.length : Int) < 0) = false := by rw [decide_eq_false_iff_not]; omega
  clear hb h1 hn
  rw [show tabV a b c1 c2 t = .agg #[.slice a t.rows.length c1, .slice b t.basis.length c2, .int .i64 t.cols] from rfl]
  go_enter Try.func47, Try.ntmps47
  go_wp2_with fail
  refine (laws_heldRatSS _ a c1 1 1 rfl t.rows HNr.out (by have := HN.out.1; omega) _ Hz.out.mR).mono ?_
  rintro e w1 ⟨rfl, rfl⟩
  go_wp2_with fail
  refine (held_rowI b c2 _ (1 + 2 * cellsM t.rows) t.basis.length (by omega) (by have := HN.out.2; omega) (by have := HN.out.1; omega) _ Hz.out.mB.ints).mono ?_
  rintro e w1 ⟨rfl, rfl⟩
  go_wp2_with fail
  go_ret
  exact ⟨ret_int (by unfold markN; omega), Hb.out⟩
end Go.Proofs.Ytfbhnjdbamahkaa
