/- Tableaus as the laws count, copy, compare, mark them; one that came in. -/
import Derived.Test.YtkindblhafejfaaTaL2
import Derived.Test.YtkindblhafejfaaGLr
namespace Go.Proofs.Ytkindblhafejfaa
open Go.RowKit Go.Deep Go.ChangeShapes Go.WideShapes
open Ve (R)
open Ta (T)
theorem rmat_open {H : Type} {enc : TypeId × Value → H} {W : World} {fuel : Nat} {v : Value} {x : DataW H × List MemPlace}
    (h : DataW.trod enc Try.prog W 0 (fun _ => true) true fuel 41 [v] = some x) : ∃ (a : Option Addr) (c : Nat) (L : List (List R)), v = .slice a L.length c ∧ L.length ≤ 9223372036854775807 ∧ LensM L ∧ RMatIn W.heap.size W a L := by
  rcases open_slice1 Try.underlying41 (by kernel_rfl) h with ⟨hcs, _⟩ | ⟨a, len, cap, m, n, V, D, Pl, hcs, hb, hl, hm, hmm, _, hx⟩
  · simp at hcs
    subst hcs
    exact ⟨none, 0, [], rfl, by decide, fun k hk => by simp at hk, fun j hj => by simp at hj⟩
  · simp at hcs
    subst hcs
    simp only [if_true] at hmm
    have each : ∀ r, r < len → ∃ y : Option Addr × Nat × List R, V r = .slice y.1 y.2.2.length y.2.1 ∧ y.2.2.length ≤ 9223372036854775807 ∧ RatsIn W.heap.size W y.1 y.2.2 := fun r hr => by
      obtain ⟨a', c', l, h1, h2, h3⟩ := rats_open1 (hx r (by omega)).2
      exact ⟨(a', c', l), h1, h2, h3⟩
    obtain ⟨y, hy⟩ := choose_lt each
    have hlen : ((List.range len).map fun r => (y r).2.2).length = len := by simp
    have hrow : ∀ r, r < len → rr ((List.range len).map fun r => (y r).2.2) r = (y r).2.2 := fun r hr => by simp [rr, hr]
    unfold maxLen at hm
    refine ⟨some a, cap, (List.range len).map fun r => (y r).2.2, by rw [hlen], by rw [hlen]; omega, fun k hk => ?_, fun j hj => ?_⟩
    · rw [hlen] at hk
      rw [hrow k hk]
      exact (hy k hk).2.1
    · rw [hlen] at hj
      obtain ⟨b, o, rfl⟩ := plain_of (hx 0 (by omega)).1
      have r0 := (hx j (by omega)).1
      rw [add_at] at r0
      rw [hrow j hj]
      exact ⟨b, o, (y j).1, (y j).2.1, rfl, block_lt_of_cell (a := ⟨b, o + j, none⟩) r0, by rw [r0, (hy j hj).1], (hy j hj).2.2⟩
/-- All the numbers and rows. -/
def tabN (t : T) : Nat := t.rows.length + cellsM t.rows + t.basis.length
def TabLens (t : T) : Prop := t.rows.length ≤ 9223372036854775807 ∧ LensM t.rows ∧ t.basis.length ≤ 9223372036854775807
theorem tabFits {t : T} (h : tabN t ≤ 1048576) (hw : (Lit.int .i64 t.cols).wf = true) : TabFits t := by
  unfold tabN at h
  exact ⟨by omega, fun k hk => by have := cellsM_row t.rows k hk; omega, by omega, hw⟩
theorem tab_cells {t : T} (h : tabN t ≤ 1048576) : cellsM t.rows ≤ 1048576 ∧ t.basis.length ≤ 1048576 := by
  unfold tabN at h
  omega
set_option maxRecDepth 100000 in
theorem tab_open {H : Type} {enc : TypeId × Value → H} {W : World} {base : Nat} {v : Value} {d : DataW H} {ps : List MemPlace} (hv : Value.okWide Try.prog W .any base 43 v)
    (h : DataW.Trod enc Try.prog W 0 (fun _ => true) true 43 v d ps) :
    ∃ (a b : Option Addr) (c1 c2 : Nat) (t : T), v = tabV a b c1 c2 t ∧ TabLens t ∧ TabIn W.heap.size W a b t ∧ (Lit.int .i64 t.cols).wf = true := by
  obtain ⟨v0, v1, v2, y0, y1, y2, n, rfl, _, _, h0, h1, h2⟩ := Joins.open_agg3 Try.underlying43 (by kernel_rfl) (by kernel_rfl) hv h
  obtain ⟨a, c1, L, rfl, l1, l2, m⟩ := rmat_open h0
  obtain ⟨b, c2, l, rfl, l3, m2⟩ := ints_open h1
  obtain ⟨s, a0, _, ws⟩ := DataW.trod_int Try.underlying3 h2
  simp only [List.cons.injEq, and_true] at a0
  subst a0
  exact ⟨a, b, c1, c2, ⟨L, l, s⟩, rfl, ⟨l1, l2, l3⟩, ⟨m, m2⟩, ws⟩
set_option maxHeartbeats 1000000 in
theorem szTab (B : Nat) (a b : Option Addr) (c1 c2 : Nat) (t : T) (left : Int) (hn : TabLens t) (hl0 : 0 ≤ left) (hl1 : left ≤ 1048576) (w : World) (hBw : B ≤ w.heap.size) (hz : TabIn B w a b t) :
    Calls Try.prog 16 #[tabV a b c1 c2 t, .int .i64 left] w
      fun e w' => ∃ r : Int, e = .returned (.int .i64 r) ∧ -1 ≤ r ∧ r ≤ 1048576 ∧ (0 ≤ r → (tabN t : Int) + r = left) ∧ Below w.heap.size w w' := by
  obtain ⟨n1, n2, n3⟩ := hn
  have Hz := Lib.hid (hz.mono hBw)
  have Hn2 := Lib.hid n2
  clear hz n2
  rw [show tabV a b c1 c2 t = .agg #[.slice a t.rows.length c1, .slice b t.basis.length c2, .int .i64 t.cols] from rfl]
  go_enter Try.func16, Try.ntmps16
  go_wp2_with fail
  have Hb := Lib.hid ((Below.refl w.heap.size w).alloc (Nat.le_refl _) (.cells #[.slice a t.rows.length c1, .slice b t.basis.length c2, .int .i64 t.cols] 43))
  refine (szRM w.heap.size a c1 t.rows left n1 Hn2.out hl0 hl1 _ (Hz.out.mR.below Hb.out)).mono ?_
  rintro e w1 ⟨r, rfl, hr0, hr1, hr2, rfl⟩
  by_cases hneg : r < 0
  · have hb2 : decide (r < 0) = true := by rw [decide_eq_true_iff]; exact hneg
    go_wp2_with fail
    go_ret
    exact ⟨-1, rfl, by omega, by omega, fun h => by omega, Hb.out⟩
  · have hb2 : decide (r < 0) = false := by rw [decide_eq_false_iff_not]; exact hneg
    go_wp2_with fail
    refine (szI b t.basis.length c2 r n3 (by omega) hr1 _).mono ?_
    rintro e w1 ⟨s, rfl, hs0, hs1, hs2, rfl⟩
    by_cases hneg2 : s < 0
    · have hb3 : decide (s < 0) = true := by rw [decide_eq_true_iff]; exact hneg2
      go_wp2_with fail
      go_ret
      exact ⟨-1, rfl, by omega, by omega, fun h => by omega, Hb.out⟩
    · have hb3 : decide (s < 0) = false := by rw [decide_eq_false_iff_not]; exact hneg2
      go_wp2_with fail
      go_ret
      refine ⟨s, rfl, by omega, by omega, fun h => ?_, Hb.out⟩
      have := hr2 (by omega)
      have := hs2 (by omega)
      unfold tabN
      omega
/-- A tableau in blocks from lo to hi - 1, all of them apart. -/
structure ResTab (lo hi : Nat) (w : World) (v : Value) (t : T) : Prop where
  ex : ∃ vR vB : Value, v = .agg #[vR, vB, .int .i64 t.cols] ∧ ResM lo hi w vR t.rows ∧ RowAtI lo hi w vB t.basis
theorem ResTab.below {lo hi : Nat} {w w' : World} {v : Value} {t : T} (h : ResTab lo hi w v t) (hb : Below w.heap.size w w') : ResTab lo hi w' v t := by
  obtain ⟨vR, vB, rfl, h1, h2⟩ := h
  exact ⟨vR, vB, rfl, h1.below hb, h2.below hb⟩
theorem ResTab.turned {lo hi l2 h2 : Nat} {w w' : World} {v : Value} {t : T} (h : ResTab lo hi w v t) (ht : Turned l2 h2 w w') (ha : hi ≤ l2 ∨ h2 ≤ lo) : ResTab lo hi w' v t := by
  obtain ⟨vR, vB, rfl, h1, h2⟩ := h
  exact ⟨vR, vB, rfl, h1.turned ht ha, h2.turned ht ha⟩
theorem ResTab.reads {lo hi : Nat} {w : World} {v : Value} {t : T} (h : ResTab lo hi w v t) : ∃ (a b : Option Addr) (c1 c2 : Nat), v = tabV a b c1 c2 t ∧ TabIn hi w a b t ∧ hi ≤ w.heap.size := by
  obtain ⟨vR, vB, rfl, h1, h2⟩ := h
  have hh := h1.size
  obtain ⟨a, c1, rfl, r1⟩ := h1.reads
  obtain ⟨b, c2, rfl, r2⟩ := h2.reads
  exact ⟨a, b, c1, c2, rfl, ⟨r1, r2⟩, hh⟩
/-- What a function of the code that makes a tableau returns. -/
def MakesRes (t : T) (w : World) (e : Ending) (w' : World) : Prop := ∃ v, e = .returned v ∧ ResTab w.heap.size w'.heap.size w' v t ∧ Below w.heap.size w w'
def MakesResK (t : T) (k : Bool) (w : World) (e : Ending) (w' : World) : Prop := ∃ v, e = .returned (.tuple #[v, .bool k]) ∧ ResTab w.heap.size w'.heap.size w' v t ∧ Below w.heap.size w w'
/-- toTableau's three boxes. -/
structure TabBoxes (W w : World) (s : Nat) (a b c x y z : Value) : Prop where
  arg : Tri w s a b c 43
  res : Tri w (s + 1) (.slice none 0 0) (.slice none 0 0) (.int .i64 0) 30
  out : Tri w (s + 1 + 1) x y z 30
  low : Below s W w
  size : s + 3 ≤ w.heap.size
theorem TabBoxes.start (w : World) (a b c : Value) :
    TabBoxes w (((w.alloc (.cells #[a, b, c] 43)).alloc (.cells #[.slice none 0 0, .slice none 0 0, .int .i64 0] 30)).alloc (.cells #[.slice none 0 0, .slice none 0 0, .int .i64 0] 30)) w.heap.size a b c (.slice none 0 0) (.slice none 0 0) (.int .i64 0) := by
  have e1 : (w.alloc (.cells #[a, b, c] 43)).heap.size = w.heap.size + 1 := size1 _ _
  have e2 := size2 w (.cells #[a, b, c] 43) (.cells #[.slice none 0 0, .slice none 0 0, .int .i64 0] 30)
  have h1 := Tri.new w a b c 43
  have h2 := Tri.new (w.alloc (.cells #[a, b, c] 43)) (.slice none 0 0) (.slice none 0 0) (.int .i64 0) 30
  have h3 := Tri.new ((w.alloc (.cells #[a, b, c] 43)).alloc (.cells #[.slice none 0 0, .slice none 0 0, .int .i64 0] 30)) (.slice none 0 0) (.slice none 0 0) (.int .i64 0) 30
  rw [e1] at h2
  rw [e2] at h3
  refine ⟨(h1.more _).more _, h2.more _, h3, (((Below.refl _ w).alloc (Nat.le_refl _) _).alloc (by rw [e1]; omega) _).alloc (by rw [e2]; omega) _, by rw [size1, e2]; omega⟩
theorem TabBoxes.below {W w w' : World} {s : Nat} {a b c x y z : Value} (h : TabBoxes W w s a b c x y z) (hb : Below w.heap.size w w') : TabBoxes W w' s a b c x y z :=
  ⟨h.arg.below hb, h.res.below hb, h.out.below hb, h.low.trans (hb.mono (by have := h.size; omega)), by have := h.size; have := hb.size; omega⟩
theorem TabBoxes.set0 {W w : World} {s : Nat} {a b c x y z : Value} (h : TabBoxes W w s a b c x y z) (u : Value) : TabBoxes W (w.setCell ⟨s + 1 + 1, 0, none⟩ u) s a b c u y z :=
  ⟨h.arg.other (p := ⟨s + 1 + 1, 0, none⟩) (show s + 1 + 1 ≠ s by omega) u, h.res.other (p := ⟨s + 1 + 1, 0, none⟩) (show s + 1 + 1 ≠ s + 1 by omega) u, h.out.set0 u, h.low.setCell (p := ⟨s + 1 + 1, 0, none⟩) (show s ≤ s + 1 + 1 by omega) u, by have := h.size; simpa [World.setCell] using this⟩
theorem TabBoxes.set1 {W w : World} {s : Nat} {a b c x y z : Value} (h : TabBoxes W w s a b c x y z) (u : Value) : TabBoxes W (w.setCell ⟨s + 1 + 1, 1, none⟩ u) s a b c x u z :=
  ⟨h.arg.other (p := ⟨s + 1 + 1, 1, none⟩) (show s + 1 + 1 ≠ s by omega) u, h.res.other (p := ⟨s + 1 + 1, 1, none⟩) (show s + 1 + 1 ≠ s + 1 by omega) u, h.out.set1 u, h.low.setCell (p := ⟨s + 1 + 1, 1, none⟩) (show s ≤ s + 1 + 1 by omega) u, by have := h.size; simpa [World.setCell] using this⟩
theorem TabBoxes.set2 {W w : World} {s : Nat} {a b c x y z : Value} (h : TabBoxes W w s a b c x y z) (u : Value) : TabBoxes W (w.setCell ⟨s + 1 + 1, 2, none⟩ u) s a b c x y u :=
  ⟨h.arg.other (p := ⟨s + 1 + 1, 2, none⟩) (show s + 1 + 1 ≠ s by omega) u, h.res.other (p := ⟨s + 1 + 1, 2, none⟩) (show s + 1 + 1 ≠ s + 1 by omega) u, h.out.set2 u, h.low.setCell (p := ⟨s + 1 + 1, 2, none⟩) (show s ≤ s + 1 + 1 by omega) u, by have := h.size; simpa [World.setCell] using this⟩

/-- The two made, and the boxes turned: a tableau. -/
theorem tab_made {s n0 : Nat} {w1 w1' w2 w4 : World} {vA vB : Value} {t : T} (h0 : s + 3 ≤ n0) (e1 : w1'.heap.size = w1.heap.size) (h1 : n0 ≤ w1.heap.size) (hA : OwnRMat n0 w1.heap.size w1 vA t.rows) (hB : OwnInts w1'.heap.size w2 vB t.basis)
    (t1 : Turned s (s + 3) w1 w1') (kB : Below w1'.heap.size w1' w2) (t2 : Turned s (s + 3) w2 w4) : ResTab s w4.heap.size w4 (.agg #[vA, vB, .int .i64 t.cols]) t := by
  have hs2 := kB.size
  have hs4 := t2.size
  have T1 := (t1.step kB).trans t2
  have lB : ∀ g, vB.ownBlock = some g → w1'.heap.size ≤ g ∧ g < w2.heap.size := World.ownsRow.lt hB
  exact ⟨vA, vB, rfl, ((hA.res (Nat.le_refl _)).turned T1 (.inr h0)).wider (by omega) (by omega) (Nat.le_refl _), ((RowAtI.of_own (hi := w2.heap.size) hB fun g hg => (lB g hg).2).turned t2 (.inr (by omega))).wider (by omega) (by omega)⟩
set_option maxRecDepth 100000 in
set_option maxHeartbeats 1000000 in
theorem toTab (B : Nat) (a b : Option Addr) (c1 c2 : Nat) (t : T) (hn : TabFits t) (w : World) (hBw : B ≤ w.heap.size) (hz : TabIn B w a b t) :
    Calls Try.prog 18 #[tabV a b c1 c2 t] w (MakesRes t w) := by
  have Hz := Lib.hid (hz.mono hBw)
  have HN := Lib.hid hn
  have hb0 := TabBoxes.start w (.slice a t.rows.length c1) (.slice b t.basis.length c2) (.int .i64 t.cols)
  have Hb0 := Lib.hid hb0
  clear hz hn hb0
  rw [show tabV a b c1 c2 t = .agg #[.slice a t.rows.length c1, .slice b t.basis.length c2, .int .i64 t.cols] from rfl]
  go_enter Try.func18, Try.ntmps18
  go_wp2_with fail
  refine (laws_toRatSS _ a c1 t.rows HN.out.rows HN.out.row _ (Nat.le_refl _) (((Hz.out.below Hb0.out.low).mono (by have := Hb0.out.size; omega)).mR)).mono ?_
  rintro e w1 ⟨vA, rfl, oA, kA⟩
  have hb1 := Hb0.out.below kA
  obtain ⟨r0, r1, r2, _, _, _⟩ := hb1.arg.cells
  obtain ⟨o0, o1, o2, f0, f1, f2⟩ := hb1.out.cells
  have Hb1 := Lib.hid (hb1.set0 vA)
  have HA := Lib.hid oA
  obtain ⟨aA, cA, rfl, _⟩ := oA.reads
  have KA := Lib.hid kA
  clear hb1 oA kA
  go_wp2_with fail
  have e1 : (w1.setCell ⟨w.heap.size + 1 + 1, 0, none⟩ (.slice aA t.rows.length cA)).heap.size = w1.heap.size := by simp [World.setCell]
  refine (laws_toIntS _ b c2 t.basis HN.out.basis _ (Nat.le_refl _) (((Hz.out.below Hb1.out.low).mono (by have := Hb1.out.size; omega)).mB)).mono ?_
  rintro e w2 ⟨vB, rfl, oB, kB⟩
  have hb1 := Hb1.out.below kB
  obtain ⟨r0, r1, r2, _, _, _⟩ := hb1.arg.cells
  obtain ⟨o0, o1, o2, f0, f1, f2⟩ := hb1.out.cells
  have hb2 := hb1.set1 vB
  have HB := Lib.hid oB
  have KB := Lib.hid kB
  obtain ⟨aB, cB, rfl, _⟩ := own_reads oB
  obtain ⟨s0, s1, s2, _, _, _⟩ := hb2.arg.cells
  obtain ⟨t0, t1, t2, g0, g1, g2⟩ := hb2.out.cells
  have hb3 := hb2.set2 (.int .i64 t.cols)
  obtain ⟨x0, x1, x2, i0, i1, i2⟩ := hb3.res.cells
  obtain ⟨y0, y1, y2, _, _, _⟩ := hb3.out.cells
  have Hb3 := Lib.hid hb3
  clear hb1 hb2 oB kB hb3
  go_wp2_with fail
  refine bodyPost_ret (v := .agg #[.slice aA t.rows.length cA, .slice aB t.basis.length cB, .int .i64 t.cols]) (by
    obtain ⟨z0, z1, z2, _⟩ := (((Hb3.out.res.set0 (.slice aA t.rows.length cA)).set1 (.slice aB t.basis.length cB)).set2 (.int .i64 t.cols)).cells
    revert z0 z1 z2
    generalize (World.setCell _ (⟨w.heap.size + 1, 2, none⟩ : Addr) (.int .i64 t.cols)) = W4
    intro z0 z1 z2
    simp [results, Try.results18, go_sem, z0, z1, z2]) rfl ⟨_, rfl, ?_, ?_⟩
  · refine tab_made Hb0.out.size e1 KA.out.size HA.out HB.out ((Turned.refl _ _ _).setCell ?_ ?_ _) KB.out ((((((Turned.refl _ _ _).setCell ?_ ?_ _).setCell ?_ ?_ _).setCell ?_ ?_ _).setCell ?_ ?_ _).setCell ?_ ?_ _) <;> simp only <;> omega
  · exact ((Hb3.out.low.setCell (p := ⟨w.heap.size + 1, 0, none⟩) (Nat.le_succ _) _).setCell (p := ⟨w.heap.size + 1, 1, none⟩) (Nat.le_succ _) _).setCell (p := ⟨w.heap.size + 1, 2, none⟩) (Nat.le_succ _) _
set_option maxRecDepth 100000 in
set_option maxHeartbeats 1000000 in
theorem eqTab (B : Nat) (a b a' b' : Option Addr) (c1 c2 d1 d2 : Nat) (t : T) (hn : TabFits t) (w : World) (hBw : B ≤ w.heap.size) (hz : TabIn B w a b t) (hy : TabIn B w a' b' t) :
    Calls Try.prog 11 #[tabV a b c1 c2 t, tabV a' b' d1 d2 t] w fun e w' => e = .returned (.bool true) ∧ Below w.heap.size w w' := by
  have HN := Lib.hid hn
  rw [show tabV a b c1 c2 t = .agg #[.slice a t.rows.length c1, .slice b t.basis.length c2, .int .i64 t.cols] from rfl, show tabV a' b' d1 d2 t = .agg #[.slice a' t.rows.length d1, .slice b' t.basis.length d2, .int .i64 t.cols] from rfl]
  have hb := ((Below.refl w.heap.size w).alloc (Nat.le_refl _) (.cells #[.slice a t.rows.length c1, .slice b t.basis.length c2, .int .i64 t.cols] 30)).alloc (by rw [size1]; omega) (.cells #[.slice a' t.rows.length d1, .slice b' t.basis.length d2, .int .i64 t.cols] 30)
  have hx := (Tri.new w (.slice a t.rows.length c1) (.slice b t.basis.length c2) (.int .i64 t.cols) 30).more (.cells #[.slice a' t.rows.length d1, .slice b' t.basis.length d2, .int .i64 t.cols] 30)
  have hx' := Tri.new (w.alloc (.cells #[.slice a t.rows.length c1, .slice b t.basis.length c2, .int .i64 t.cols] 30)) (.slice a' t.rows.length d1) (.slice b' t.basis.length d2) (.int .i64 t.cols) 30
  rw [size1] at hx'
  have Hz := Lib.hid ((hz.mono hBw).below hb)
  have Hy := Lib.hid ((hy.mono hBw).below hb)
  have Hb := Lib.hid hb
  have Hx := Lib.hid hx
  have Hx' := Lib.hid hx'
  clear hz hy hn hb hx hx'
  go_enter Try.func11, Try.ntmps11
  go_wp2_with fail
  refine (laws_eqRatSS w.heap.size a a' c1 d1 t.rows HN.out.rows (fun k hk => by have := HN.out.row k hk; omega) _ Hb.out.size Hz.out.mR Hy.out.mR).mono ?_
  rintro e w1 ⟨rfl, hb1⟩
  have Hs := Lib.hid (Hb.out.trans (hb1.mono Hb.out.size))
  obtain ⟨x0, x1, x2, _⟩ := (Hx.out.below hb1).cells
  obtain ⟨y0, y1, y2, _⟩ := (Hx'.out.below hb1).cells
  have Hb1 := Lib.hid (hb1.mono Hb.out.size)
  clear hb1
  go_wp2_with fail
  refine (laws_eqIntS b b' c2 d2 t.basis (by have := HN.out.basis; omega) _ (Hz.out.mB.below Hb1.out).ints (Hy.out.mB.below Hb1.out).ints).mono ?_
  rintro e w2 ⟨rfl, d, rfl⟩
  go_wp2_with fail
  go_ret
  exact ⟨rfl, below_drewN Hs.out d⟩
/-- The marks of a tableau, from 1 on. -/
def marksT (t : T) : T := ⟨marksM 1 t.rows, marksI (1 + 2 * cellsM t.rows) t.basis.length, t.cols⟩
theorem tabV_marks (a b : Option Addr) (c1 c2 : Nat) (t : T) : tabV a b c1 c2 (marksT t) = tabV a b c1 c2 t := by
  unfold tabV marksT
  simp only [marksM_len, marksI_len]
def markN (t : T) : Int := 1 + 2 * (cellsM t.rows : Int) + (t.basis.length : Int)
set_option maxRecDepth 100000 in
set_option maxHeartbeats 1000000 in
theorem markTab (lo hi : Nat) (v : Value) (t : T) (hn : tabN t ≤ 1048576) (w : World) (h1 : ResTab lo hi w v t) :
    Calls Try.prog 14 #[v, .int .i64 1] w fun e w' => e = .returned (.int .i64 (markN t)) ∧ Turned lo hi w w' ∧ ResTab lo hi w' v (marksT t) := by
  obtain ⟨vR, vB, rfl, hR, hB⟩ := h1
  have hb := (Below.refl w.heap.size w).alloc (Nat.le_refl _) (.cells #[vR, vB, .int .i64 t.cols] 30)
  have hx := Tri.new w vR vB (.int .i64 t.cols) 30
  have ht := Turned.of_below (lo := lo) (hi := hi) hb
  have HR := Lib.hid (hR.below hb)
  have HB := Lib.hid (hB.below hb)
  have hh := hR.size
  have hh2 := Lib.hid hh
  obtain ⟨a, c1, rfl, _⟩ := hR.reads
  obtain ⟨b, c2, rfl, _⟩ := hB.reads
  have Hx := Lib.hid hx
  have HT := Lib.hid ht
  have HN := Lib.hid (tab_cells hn)
  have HNr : Hid (t.rows.length ≤ 1048576) := by unfold tabN at hn; show _ ≤ _; omega
  clear hR hB hb hx ht hn
  go_enter Try.func14, Try.ntmps14
  go_wp2_with fail
  refine (laws_markRatSS lo hi _ 1 1 rfl t.rows HNr.out (by have := HN.out.1; omega) _ HR.out).mono ?_
  rintro e w1 ⟨rfl, t1, k1, hR1⟩
  have HB1 := Lib.hid (HB.out.kept k1 (fun e => rat_ne_int e.symm))
  have HR1 := Lib.hid hR1
  have hx1 : Tri w1 w.heap.size (.slice a t.rows.length c1) (.slice b t.basis.length c2) (.int .i64 t.cols) 30 := (t1.block _ (lt_of_at Hx.out) (.inr hh2.out)).trans Hx.out
  obtain ⟨x0, x1, x2, _⟩ := hx1.cells
  have HT1 := Lib.hid (HT.out.trans t1)
  clear t1 k1 hx1 hR1
  go_wp2_with fail
  refine (mark_rowI lo hi _ _ (1 + 2 * cellsM t.rows) (by omega) t.basis (by have := HN.out.2; omega) (by have := HN.out.1; omega) _ HB1.out).mono ?_
  rintro e w2 ⟨rfl, hB2, row, g2, hrow⟩
  have HK := Lib.hid (KeptBut.of_grown g2 fun b hb => HB1.out.ty (hrow b hb))
  have HT2 := Lib.hid (HT1.out.trans (Turned.of_grown g2 fun b hb => by have := HB1.out.blk (hrow b hb); omega))
  have HR2 := Lib.hid (HR1.out.kept g2.size HK.out rat_ne_int row_ne_int)
  have HB2 := Lib.hid hB2
  clear g2 hrow hB2
  go_wp2_with fail
  go_ret
  exact ⟨ret_int (by unfold markN; omega), HT2.out, _, _, rfl, HR2.out, HB2.out⟩
theorem held_rowI (a : Option Addr) (c : Nat) (kk : Int) (k n : Nat) (hkk : kk = k) (hn : n ≤ 2097152) (hk2 : k ≤ 8388608) (w : World) (h1 : IntsIn w a (marksI k n)) :
    Calls Try.prog 44 #[.slice a n c, .int .i64 kk] w fun e w' => e = .returned (.int .i64 (kk + n)) ∧ w = w' := by
  subst hkk
  exact laws_heldIntS2 a c k n hn hk2 w h1
set_option maxRecDepth 100000 in
set_option maxHeartbeats 1000000 in
theorem heldTab (B : Nat) (a b : Option Addr) (c1 c2 : Nat) (t : T) (hn : tabN t ≤ 1048576) (w : World) (hBw : B ≤ w.heap.size) (h1 : TabIn B w a b (marksT t)) :
    Calls Try.prog 15 #[tabV a b c1 c2 t, .int .i64 1] w fun e w' => e = .returned (.int .i64 (markN t)) ∧ Below w.heap.size w w' := by
  have hb := (Below.refl w.heap.size w).alloc (Nat.le_refl _) (.cells #[.slice a t.rows.length c1, .slice b t.basis.length c2, .int .i64 t.cols] 30)
  have Hb := Lib.hid hb
  have Hz := Lib.hid ((h1.mono hBw).below hb)
  have HN := Lib.hid (tab_cells hn)
  have HNr : Hid (t.rows.length ≤ 1048576) := by unfold tabN at hn; show _ ≤ _; omega
  have hn1 : decide (1 + 2 * (cellsM t.rows : Int) < 0) = false := by rw [decide_eq_false_iff_not]; omega
  have hn2 : decide (1 + 2 * (cellsM t.rows : Int) + (t.basis.length : Int) < 0) = false := by rw [decide_eq_false_iff_not]; omega
  clear hb h1 hn
  rw [show tabV a b c1 c2 t = .agg #[.slice a t.rows.length c1, .slice b t.basis.length c2, .int .i64 t.cols] from rfl]
  go_enter Try.func15, Try.ntmps15
  go_wp2_with fail
  refine (laws_heldRatSS _ a c1 1 1 rfl t.rows HNr.out (by have := HN.out.1; omega) _ Hz.out.mR).mono ?_
  rintro e w1 ⟨rfl, rfl⟩
  go_wp2_with fail
  refine (held_rowI b c2 _ (1 + 2 * cellsM t.rows) t.basis.length (by omega) (by have := HN.out.2; omega) (by have := HN.out.1; omega) _ Hz.out.mB.ints).mono ?_
  rintro e w1 ⟨rfl, rfl⟩
  go_wp2_with fail
  go_ret
  exact ⟨ret_int (by unfold markN; omega), Hb.out⟩
end Go.Proofs.Ytkindblhafejfaa
