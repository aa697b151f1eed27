/- The specification's l8Copy, AddGames. -/
import Derived.Test.YtccgebnbpfliiaaGmB
import Derived.Test.YtccgebnbpfliiaaGrI
import Derived.Test.YtccgebnbpfliiaaHeldT
import Derived.StillTailTactics
namespace Go.Proofs.Ytccgebnbpfliiaa
open Go.RowKit
open Gm (G)
/-- A game and whether there is one. -/
def MakesGm (r : G × Bool) (w : World) (e : Ending) (w' : World) : Prop := (∃ x y : Value, e = .returned (.tuple #[.agg #[x, y], .bool r.2]) ∧ ResGm w.heap.size w'.heap.size w' (.agg #[x, y]) r.1) ∧ Below w.heap.size w w'
theorem ResGm.zero (lo : Nat) (w : World) : ResGm lo w.heap.size w (.agg #[.int .i64 0, .slice none 0 0]) Gm.G0 := ⟨_, rfl, ⟨none, 0, rfl, fun h => absurd rfl h⟩, Nat.le_refl _⟩
theorem ResGm.of_own' {lo : Nat} {w : World} {vV : Value} {g : G} {n : Int} (hn : g.n = n) (h : OwnInts lo w vV g.v) : ResGm lo w.heap.size w (.agg #[.int .i64 n, vV]) g := by subst hn; exact ResGm.of_own h
set_option maxRecDepth 100000 in
set_option maxHeartbeats 2000000 in
theorem spec_l8Copy {w : World} {x y : Value} {g : G} (h : GmC w x y g) (hf : GmOk g) :
    Calls Try.prog 44 #[.agg #[x, y]] w fun e w' => (∃ v, e = .returned (.agg #[.int .i64 g.n, v]) ∧ OwnInts w.heap.size w' v g.v) ∧ Below w.heap.size w w' := by
  obtain ⟨gn, gv⟩ := g
  obtain ⟨a, c, rfl, rfl, hi⟩ := h
  have hl : gv.length ≤ 1048576 := hf.1
  dsimp only at hi ⊢
  obtain ⟨W, hW⟩ : ∃ W, W = (w.alloc (.cells #[.int .i64 gn, .slice a gv.length c] 26)).alloc (.cells #[.int .i64 0, .slice none 0 0] 26) := ⟨_, rfl⟩
  have hc1 := (CellsAt.new w #[.int .i64 gn, .slice a gv.length c] 26).more (.cells #[.int .i64 0, .slice none 0 0] 26)
  have hc2 := CellsAt.new (w.alloc (.cells #[.int .i64 gn, .slice a gv.length c] 26)) #[.int .i64 0, .slice none 0 0] 26
  rw [← hW] at hc1
  rw [size1, ← hW] at hc2
  have hb := ((Below.refl w.heap.size w).alloc (Nat.le_refl _) (.cells #[.int .i64 gn, .slice a gv.length c] 26)).alloc (by rw [size1]; omega) (.cells #[.int .i64 0, .slice none 0 0] 26)
  rw [← hW] at hb
  have hsz : w.heap.size + 2 = W.heap.size := by rw [hW, size2]
  have HSz := Lib.hid hsz
  have HI := Lib.hid (hi.below hb)
  have HB := Lib.hid hb
  have HC1 := Lib.hid hc1
  have HC2 := Lib.hid hc2
  have HW := Lib.hid hW
  clear hi hc1 hc2 hb hf hW hsz
  go_enter Try.func44, Try.ntmps44
  go_upto_region 1 with fail
  rw [← HW.out]
  obtain ⟨m0, m1, _⟩ := two' HC1.out
  have hin := (Since.refl W).drew
  have Cell := Lib.hid (fun w' (h : Since W w') => (show w'.cell? ⟨w.heap.size, 0, none⟩ = some (.int .i64 gn) ∧ w'.cell? ⟨w.heap.size, 1, none⟩ = some (.slice a gv.length c) ∧ Since W w' from
    ⟨h.cell (p := ⟨w.heap.size, 0, none⟩) (lt_of_at HC1.out) m0, h.cell (p := ⟨w.heap.size, 1, none⟩) (lt_of_at HC1.out) m1, h⟩))
  have HZ1 : Hid (∀ w', Since W w' → NumsIn w.heap.size w' a gv) := fun w' h => HI.out.below (h.low.mono (by have := HSz.out; omega))
  have own1 : Hid (OwnInts W.heap.size (W.drew.alloc (.cells #[] 3)) (.slice (some ⟨W.heap.size, 0, none⟩) 0 0) []) := own_new_ints W.drew
  have hA1 : Since W (W.drew.alloc (.cells #[] 3)) := Since.alloc hin _
  clear HW
  go_cut [] (fun wx => ∃ v : Value, Hid (CellsAt wx (w.heap.size + 1) #[.int .i64 gn, v] 26) ∧ Hid (OwnInts W.heap.size wx v gv) ∧ Hid (Below w.heap.size w wx))
  case first =>
    refine wp_region_T_drew (S := (fun w' => w'.cell? ⟨w.heap.size, 0, none⟩ = some (.int .i64 gn) ∧ w'.cell? ⟨w.heap.size, 1, none⟩ = some (.slice a gv.length c) ∧ Since W w')) 7 (by kernel_rfl) ?_ (fun hHeld => ?_)
    · exact Cell.out _ hin
    refine wpAnyT_take (i := 0) (oi := { dst := some 3, op := Op.fieldAddr 26 (Operand.tmp 1) 0, type := 0, pos := "l08_game.go:45", after := #[], guard := none }) (v := ?_) rfl (by kernel_rfl) (fun _ _ _ h => h) (Or.inl ⟨by rfl, ?_⟩) (by assumption) ?_
    rotate_left 1
    · intro w hSw; (try dsimp only at hSw); go_simp; try (with_reducible rfl)
    try simp only [Act.put, List.setIfInBounds_toArray, List.set_cons_zero, List.set_cons_succ]
    refine wpAnyT_take (i := 1) (oi := { dst := some 4, op := Op.load 3 (Operand.tmp 3), type := 3, pos := "l08_game.go:45", after := #[{ on := 0, ground := Ground.data }], guard := none }) (v := ?_) rfl (by kernel_rfl) (fun _ _ _ h => h) (Or.inl ⟨by rfl, ?_⟩) (by assumption) ?_
    rotate_left 1
    · intro w hSw; (try dsimp only at hSw); go_simp; try (with_reducible rfl)
    try simp only [Act.put, List.setIfInBounds_toArray, List.set_cons_zero, List.set_cons_succ]
    refine wpAnyT_take (i := 3) (oi := { dst := some 6, op := Op.fieldAddr 26 (Operand.tmp 1) 1, type := 0, pos := "l08_game.go:45", after := #[], guard := none }) (v := ?_) rfl (by kernel_rfl) (fun _ _ _ h => h) (Or.inl ⟨by rfl, ?_⟩) (by assumption) ?_
    rotate_left 1
    · intro w hSw; (try dsimp only at hSw); go_simp; try (with_reducible rfl)
    try simp only [Act.put, List.setIfInBounds_toArray, List.set_cons_zero, List.set_cons_succ]
    refine wpAnyT_take (i := 4) (oi := { dst := some 7, op := Op.load 24 (Operand.tmp 6), type := 24, pos := "l08_game.go:45", after := #[{ on := 3, ground := Ground.data }], guard := none }) (v := ?_) rfl (by kernel_rfl) (fun _ _ _ h => h) (Or.inl ⟨by rfl, ?_⟩) (by assumption) ?_
    rotate_left 1
    · intro w hSw; (try dsimp only at hSw); go_simp; try (with_reducible rfl)
    try simp only [Act.put, List.setIfInBounds_toArray, List.set_cons_zero, List.set_cons_succ]
    refine wpAnyT_ready (rs := [2]) (by kernel_rfl) (by simp) ?_
    refine (AllReadyT.cons (o := { dst := some 5, op := Op.buildSlice 24 0 #[], type := 24, pos := "l08_game.go:45", after := #[], guard := none }) (rs := []) rfl (fun K hK => ?_) AllReadyT.nil)
    go_simp
    refine hK.out _ _ ?_ (fun hHeld => ?_)
    · exact Cell.out _ hA1
    clear hK K
    try simp only [Act.put, List.setIfInBounds_toArray, List.set_cons_zero, List.set_cons_succ]
    refine wpAnyT_ready (rs := [5]) (by kernel_rfl) (by simp) ?_
    refine (AllReadyT.cons (o := { dst := some 8, op := Op.call { callee := Callee.builtin Builtin.append, args := #[Operand.tmp 5, Operand.tmp 7], argTypes := #[24, 24] }, type := 24, pos := "l08_game.go:45", after := #[{ on := 2, ground := Ground.data }, { on := 4, ground := Ground.data }], guard := none }) (rs := []) rfl (fun K hK => ?_) AllReadyT.nil)
    (refine step_append_ints rfl _ _ rfl W.heap.size (.slice (some ⟨W.heap.size, 0, none⟩) 0 0) [] rfl own1.out a gv _ _ rfl rfl w.heap.size (HZ1.out _ hA1) (by simp; omega) (by simp) ?_; intro v' w' hown hgrow; simp only [List.nil_append] at hown; obtain ⟨ai, ci, rfl⟩ := ints_shape hown; have hin2 := Since.grown hA1 hgrow (fun g hg => by simp [Value.ownBlock] at hg; omega); have hbx := HC2.out.below hin2.low; obtain ⟨d0, d1, e0, e1⟩ := two' hbx)
    refine hK.out _ _ ?_ (fun hHeld => ?_)
    · exact Cell.out _ hin2
    clear hK K
    try simp only [Act.put, List.setIfInBounds_toArray, List.set_cons_zero, List.set_cons_succ]
    refine wpAnyT_take (i := 6) (oi := { dst := some 9, op := Op.build 26 #[(0, Operand.tmp 4), (1, Operand.tmp 8)], type := 26, pos := "l08_game.go:45", after := #[{ on := 1, ground := Ground.data }, { on := 5, ground := Ground.data }], guard := none }) (v := ?_) rfl (by kernel_rfl) (fun _ _ _ h => h) (Or.inl ⟨by rfl, ?_⟩) (by assumption) ?_
    rotate_left 1
    · intro w hSw; (try dsimp only at hSw); go_simp; try (with_reducible rfl)
    try simp only [Act.put, List.setIfInBounds_toArray, List.set_cons_zero, List.set_cons_succ]
    refine wpAnyT_ready (rs := [7]) (by kernel_rfl) (by simp) ?_
    refine (AllReadyT.last (o := { dst := none, op := Op.store 26 (Operand.tmp 2) (Operand.tmp 9), type := 0, pos := "l08_game.go:45", after := #[{ on := 6, ground := Ground.data }, { on := 5, ground := Ground.chain }, { on := 0, ground := Ground.phase }, { on := 1, ground := Ground.phase }, { on := 2, ground := Ground.phase }, { on := 3, ground := Ground.phase }, { on := 4, ground := Ground.phase }, { on := 5, ground := Ground.phase }, { on := 6, ground := Ground.phase }], guard := none }) (rs := []) rfl (by rfl) (fun K hK => ?_) AllReadyT.nil)
    go_simp
    refine hK.out _ _ ?_
    clear hK K
    refine wpAnyT_done (by kernel_rfl) ?_ _
    have hne : (Value.slice ai gv.length ci).ownBlock ≠ some (w.heap.size + 1) := own_apart hown hbx.ty (by decide)
    go_wp2_with fail
    go_meet
    exact ⟨_, (hbx.s0 _).s1 _, owns_set (owns_set hown hne) hne, (HB.out.trans (hin2.low.mono HB.out.size)).setCell (p := ⟨w.heap.size + 1, 0, none⟩) (Nat.le_succ _) _ |>.setCell (p := ⟨w.heap.size + 1, 1, none⟩) (Nat.le_succ _) _⟩
  case rest =>
    obtain ⟨w1, rfl⟩ : ∃ q : World, q = wc := ⟨_, rfl⟩
    obtain ⟨v, hC, hO, hB⟩ := hcut
    obtain ⟨d0, d1, _⟩ := two' hC.out
    clear hin Cell HZ1 own1 hA1 m0 m1
    go_wp2_with fail
    refine bodyPost_ret (v := .agg #[.int .i64 gn, v]) (by simp [results, Try.results44, go_sem, d0, d1]) rfl ⟨⟨_, rfl, ?_⟩, hB.out⟩
    exact hO.out.raise2 (by have := HSz.out; omega)
theorem GmC.of_own {B : Nat} {w : World} {a : Option Addr} {n c : Nat} {g : G} (h : OwnInts B w (.slice a n c) g.v) : GmC w (.int .i64 g.n) (.slice a n c) g := by
  obtain ⟨a', c', e, hr, ha, _⟩ := own_reads h
  injection e with e1 e2 e3
  subst e1 e2 e3
  exact ⟨_, _, rfl, rfl, NumsIn.of_ints hr fun p hp => (ha p hp).2⟩
theorem three_boxes (w : World) (x y x' y' : Value) (t : TypeId) (W : World) (hW : W = ((w.alloc (.cells #[x, y] t)).alloc (.cells #[x', y'] t)).alloc (.cells #[.int .i64 0, .slice none 0 0] t)) :
    CellsAt W w.heap.size #[x, y] t ∧ CellsAt W (w.heap.size + 1) #[x', y'] t ∧ CellsAt W (w.heap.size + 1 + 1) #[.int .i64 0, .slice none 0 0] t ∧ Below w.heap.size w W ∧ w.heap.size + 3 ≤ W.heap.size := by
  have h1 := ((CellsAt.new w #[x, y] t).more (.cells #[x', y'] t)).more (.cells #[.int .i64 0, .slice none 0 0] t)
  have h2 := (CellsAt.new (w.alloc (.cells #[x, y] t)) #[x', y'] t).more (.cells #[.int .i64 0, .slice none 0 0] t)
  have h3 := CellsAt.new ((w.alloc (.cells #[x, y] t)).alloc (.cells #[x', y'] t)) #[.int .i64 0, .slice none 0 0] t
  rw [size1] at h2
  rw [size2] at h3
  subst hW
  exact ⟨h1, h2, h3, ((((Below.refl w.heap.size w).alloc (Nat.le_refl _) _).alloc (by rw [size1]; omega) _).alloc (by rw [size2]; omega) _), by rw [size1, size2]; omega⟩
set_option maxRecDepth 100000 in
set_option maxHeartbeats 4000000 in
theorem spec_AddGames {w : World} {x y x' y' : Value} {g g' : G} (h : GmC w x y g) (h' : GmC w x' y' g') (hf : GmOk g) (hf' : GmOk g') :
    Calls Try.prog 14 #[.agg #[x, y], .agg #[x', y']] w (MakesGm (Gm.add g g') w) := by
  obtain ⟨W, hW⟩ : ∃ W, W = ((w.alloc (.cells #[x, y] 26)).alloc (.cells #[x', y'] 26)).alloc (.cells #[.int .i64 0, .slice none 0 0] 26) := ⟨_, rfl⟩
  obtain ⟨q1, q2, q3, q4, q5⟩ := three_boxes w x y x' y' 26 W hW
  have hA := h.up (q4.mono (Nat.le_refl _))
  have hA' := h'.up q4
  have HA := Lib.hid hA
  have HA' := Lib.hid hA'
  have HC1 := Lib.hid q1
  have HC2 := Lib.hid q2
  have HC3 := Lib.hid q3
  have HB := Lib.hid q4
  have HW := Lib.hid hW
  have HF := Lib.hid hf
  have HF' := Lib.hid hf'
  obtain ⟨R, hR⟩ : ∃ R, Gm.add g g' = R := ⟨_, rfl⟩
  have HR0 := Lib.hid hR
  rw [hR]
  clear q1 q2 q3 q4 hA hA' h h' hW hf hf' hR
  rcases hv : Gm.vld g with _ | _
  · have Hr := Lib.hid (show (Gm.G0, false) = R by rw [← HR0.out]; exact (Gm.add_no (by unfold Gm.addOk; rw [hv]; rfl)).symm)
    have HV := Lib.hid hv
    clear hv HR0
    rw [← Hr.out]
    go_enter Try.func14, Try.ntmps14
    go_wp2_with fail
    rw [← HW.out]
    refine (spec_IsValidGame false HV.out HA.out HF.out).mono ?_
    rintro e w1 ⟨rfl, k⟩
    have HB1 := Lib.hid (HB.out.trans (k.mono (by omega)))
    have HC4 := Lib.hid (HC3.out.below k)
    clear k HW
    have HR := Lib.hid ((HC4.out.s0 (.int .i64 0)).s1 (.slice none 0 0))
    have HB2 := Lib.hid ((HB1.out.setCell (p := ⟨w.heap.size + 1 + 1, 0, none⟩) (by simp only; omega) (.int .i64 0)).setCell (p := ⟨w.heap.size + 1 + 1, 1, none⟩) (by simp only; omega) (.slice none 0 0))
    obtain ⟨d0, d1, e0, e1⟩ := two' HC4.out
    go_wp2_with fail
    refine bodyPost_ret (v := .tuple #[.agg #[.int .i64 0, .slice none 0 0], .bool false]) (by
      obtain ⟨z0, z1⟩ := two HR.out
      revert z0 z1
      generalize ((w1.setCell ⟨w.heap.size + 1 + 1, 0, none⟩ (.int .i64 0)).setCell ⟨w.heap.size + 1 + 1, 1, none⟩ (.slice none 0 0)) = W4
      intro z0 z1
      simp [results, Try.results14, go_sem, z0, z1]) rfl ⟨⟨_, _, rfl, ResGm.zero _ _⟩, HB2.out⟩
  · have HV := Lib.hid hv
    rcases hv' : Gm.vld g' with _ | _
    · have Hr := Lib.hid (show (Gm.G0, false) = R by rw [← HR0.out]; exact (Gm.add_no (by unfold Gm.addOk; rw [hv']; simp)).symm)
      have HV' := Lib.hid hv'
      clear hv hv' HR0
      rw [← Hr.out]
      go_enter Try.func14, Try.ntmps14
      go_wp2_with fail
      rw [← HW.out]
      refine (spec_IsValidGame true HV.out HA.out HF.out).mono ?_
      rintro e w1 ⟨rfl, k⟩
      have HB1 := Lib.hid (HB.out.trans (k.mono (by omega)))
      have HC4 := Lib.hid (HC3.out.below k)
      have HA2 := Lib.hid (HA'.out.up k)
      have hs1 := k.size
      obtain ⟨m0, m1⟩ := two (HC2.out.below k)
      clear k HW
      go_wp2_with fail
      refine (spec_IsValidGame false HV'.out HA2.out HF'.out).mono ?_
      rintro e w2 ⟨rfl, k⟩
      have HB2 := Lib.hid (HB1.out.trans (k.mono HB1.out.size))
      have HC5 := Lib.hid (HC4.out.below k)
      clear k m0 m1
      have HR := Lib.hid ((HC5.out.s0 (.int .i64 0)).s1 (.slice none 0 0))
      have HB3 := Lib.hid ((HB2.out.setCell (p := ⟨w.heap.size + 1 + 1, 0, none⟩) (by simp only; omega) (.int .i64 0)).setCell (p := ⟨w.heap.size + 1 + 1, 1, none⟩) (by simp only; omega) (.slice none 0 0))
      obtain ⟨d0, d1, e0, e1⟩ := two' HC5.out
      go_wp2_with fail
      refine bodyPost_ret (v := .tuple #[.agg #[.int .i64 0, .slice none 0 0], .bool false]) (by
        obtain ⟨z0, z1⟩ := two HR.out
        revert z0 z1
        generalize ((w2.setCell ⟨w.heap.size + 1 + 1, 0, none⟩ (.int .i64 0)).setCell ⟨w.heap.size + 1 + 1, 1, none⟩ (.slice none 0 0)) = W4
        intro z0 z1
        simp [results, Try.results14, go_sem, z0, z1]) rfl ⟨⟨_, _, rfl, ResGm.zero _ _⟩, HB3.out⟩
    · have HV' := Lib.hid hv'
      obtain ⟨gn, gv⟩ := g
      obtain ⟨gm, gu⟩ := g'
      obtain ⟨a, c, rfl, rfl, hi⟩ := HA.out
      obtain ⟨a', c', rfl, rfl, hi'⟩ := HA'.out
      have hl := Gm.vld_len hv
      have hl' := Gm.vld_len hv'
      have hn1 := Gm.vld_n hv
      have hn2 := Gm.vld_n hv'
      dsimp only at hl hl' hn1 hn2
      by_cases hn : gn = gm
      · have Hok := Lib.hid (show Gm.add ⟨gn, gv⟩ ⟨gm, gu⟩ = Gm.keep (Gm.mk gn (Gm.addAt ⟨gn, gv⟩ ⟨gm, gu⟩) gv.length) from Gm.add_yes (by unfold Gm.addOk; rw [hv, hv']; simp [hn]))
        have hll : gv.length = gu.length := by have e1 := Gm.vld_pow hv; have e2 := Gm.vld_pow hv'; dsimp only at e1 e2; rw [e1, e2, hn]
        have Hbd := Lib.hid (fun k (h1 : k < gv.length) => Gm.add_bd hv hv' (show k < (Gm.G.mk gn gv).v.length from h1) (show k < (Gm.G.mk gm gu).v.length by dsimp only; omega))
        have Hat := Lib.hid (fun k => show Gm.addAt ⟨gn, gv⟩ ⟨gm, gu⟩ k = gv.getD k 0 + gu.getD k 0 from rfl)
        have hq : (gn != gm) = false := by rw [hn]; simp
        have Hll := Lib.hid hll
        obtain ⟨f, hfe⟩ : ∃ f, Gm.addAt ⟨gn, gv⟩ ⟨gm, gu⟩ = f := ⟨_, rfl⟩
        rw [hfe] at Hok Hbd Hat
        have Hr := Lib.hid (Hok.out.symm.trans HR0.out)
        clear hv hv' HR0 hn hll Hok hfe
        dsimp only at hi hi'
        have HN := Lib.hid hi
        have HN' := Lib.hid hi'
        clear hi hi'
        go_enter Try.func14, Try.ntmps14
        go_wp2_with fail
        rw [← HW.out]
        refine (spec_IsValidGame true HV.out HA.out HF.out).mono ?_
        rintro e w1 ⟨rfl, k⟩
        have HB1 := Lib.hid (HB.out.trans (k.mono (by omega)))
        have HK1 := Lib.hid k
        have HA2 := Lib.hid (HA'.out.up k)
        have hs1 := k.size
        obtain ⟨m0, m1⟩ := two (HC2.out.below k)
        clear k HW
        go_wp2_with fail
        refine (spec_IsValidGame true HV'.out HA2.out HF'.out).mono ?_
        rintro e w2 ⟨rfl, k⟩
        have HK2 := Lib.hid (HK1.out.trans (k.mono HK1.out.size))
        have hs2 := HK2.out.size
        obtain ⟨m2, m3⟩ := two (HC1.out.below HK2.out)
        obtain ⟨m4, m5⟩ := two (HC2.out.below HK2.out)
        have HA3 := Lib.hid (HA.out.up HK2.out)
        clear k m0 m1 HK1 HA2
        go_wp2_with fail
        refine (spec_l8Copy HA3.out HF.out).mono ?_
        rintro e w3 ⟨⟨v, rfl, ho⟩, k⟩
        obtain ⟨av, cv, rfl, _, hab, hag⟩ := own_reads ho
        obtain ⟨b, rfl⟩ := hag (by intro e; rw [show gv = [] from e] at hl; simp at hl)
        have hbl := hab _ rfl
        have hs3 := k.size
        have HO := Lib.hid ho
        have HK3 := Lib.hid k
        have HQ := Lib.hid (CellsAt.new w3 #[.int .i64 gn, .slice (some ⟨b, 0, none⟩) gv.length cv] 26)
        have HK4 := Lib.hid (k.alloc hs3 (.cells #[.int .i64 gn, .slice (some ⟨b, 0, none⟩) gv.length cv] 26))
        have HO4 : Hid (OwnInts w2.heap.size (w3.alloc (.cells #[.int .i64 gn, .slice (some ⟨b, 0, none⟩) gv.length cv] 26)) (.slice (some ⟨b, 0, none⟩) gv.length cv) (Gm.part f gv 0)) := by rw [Gm.part_zero]; exact ho.alloc _
        clear k ho hab hag m2 m3 m4 m5
        go_wp2_with fail
        go_loopw [7] (fun i wr => ∃ k : Nat, k ≤ gv.length ∧ i = .int .i64 k ∧ Hid (CellsAt wr w3.heap.size #[.int .i64 gn, .slice (some ⟨b, 0, none⟩) gv.length cv] 26) ∧ Hid (OwnInts w2.heap.size wr (.slice (some ⟨b, 0, none⟩) gv.length cv) (Gm.part f gv k)) ∧ Hid (Below w2.heap.size w2 wr)) (fun i _ => gv.length - (intOf i).toNat)
        case atStart => exact ⟨0, Nat.zero_le _, rfl, HQ, HO4, HK4⟩
        case round =>
          obtain ⟨k, hk, rfl, hQ, hO, hK⟩ := hrel
          have hKW := (HK2.out.mono (Nat.le_refl _)).trans (hK.out.mono hs2)
          obtain ⟨o0, o1⟩ := two hQ.out
          by_cases hlt : k < gv.length
          · obtain ⟨m2, m3⟩ := two (HC1.out.below hKW)
            obtain ⟨m4, m5⟩ := two (HC2.out.below hKW)
            obtain ⟨b1, u1, rfl, _, c1⟩ := (HN.out.below hKW) k hlt
            obtain ⟨b2, u2, rfl, _, c2⟩ := (HN'.out.below hKW) k (by have := Hll.out; omega)
            have hbd := Hbd.out k hlt
            rw [Hat.out] at hbd
            have hpl := Gm.part_len f (l := gv) (k := k) hk
            have h0 : OwnInts w2.heap.size wr (.slice (some ⟨b, 0, none⟩) (Gm.part f gv k).length cv) (Gm.part f gv k) := by rw [hpl]; exact hO.out
            have c3 : ∃ x, wr.cell? ⟨b, k, none⟩ = some (.int .i64 x) := by
              have hj' : k < (Gm.part f gv k).length := by omega
              rw [World.ownsRow.cellAt h0 k (by omega), List.getElem?_map, List.getElem?_eq_getElem hj']
              exact ⟨_, rfl⟩
            obtain ⟨xo, c3⟩ := c3
            have f3 : wr.frozen? ⟨b, k, none⟩ = false := World.ownsRow.frozenAt h0 k
            have HO2 : Hid (OwnInts w2.heap.size (wr.setCell ⟨b, k, none⟩ (.int .i64 (gv.getD k 0 + gu.getD k 0))) (.slice (some ⟨b, 0, none⟩) gv.length cv) (Gm.part f gv (k + 1))) := by
              have h3 := own_set h0 k (f k)
              rw [Gm.part_set f hlt, Gm.part_len f (by omega)] at h3
              rw [← Hat.out]
              exact h3
            have hne : b ≠ w3.heap.size := by omega
            have HQ2 := Lib.hid (hQ.out.other (p := ⟨b, k, none⟩) hne (.int .i64 (gv.getD k 0 + gu.getD k 0)))
            have HK5 := Lib.hid (hK.out.setCell (p := ⟨b, k, none⟩) hbl.1 (.int .i64 (gv.getD k 0 + gu.getD k 0)))
            have hl1 : (k : Int) < (gv.length : Int) := by omega
            have hl2 : (k : Int) < (gu.length : Int) := by have := Hll.out; omega
            have hll2 : gu.length ≤ 32 := hl'.2
            clear hpl hKW h0
            generalize gv.getD k 0 = z1 at *
            generalize gu.getD k 0 = z2 at *
            go_wp2_with fail
            go_still_tail 15, (by kernel_rfl)
            change wpList _ _ _ _ _ wr.drew
            go_wp2_with fail
            go_roundw
            case rel => exact ⟨k + 1, by omega, by go_num, HQ2, HO2, HK5.out.drew⟩
            case measure => simp [intOf]; omega
          · have hke : k = gv.length := by omega
            have HX : Hid (OwnInts w2.heap.size wr (.slice (some ⟨b, 0, none⟩) gv.length cv) (Gm.mk gn f gv.length).v) := by
              have := hO.out
              rw [hke, Gm.part_all gn] at this
              exact this
            have HGX := Lib.hid (GmC.of_own HX.out)
            have HFX : Hid (GmOk (Gm.mk gn f gv.length)) := ⟨by rw [Gm.mk_len]; omega, HF.out.2⟩
            have HC5 := Lib.hid (HC3.out.below hKW)
            have HB5 := Lib.hid (HB.out.trans (hKW.mono (by omega)))
            have hsr := hK.out.size
            clear hke
            obtain ⟨X, hX⟩ : ∃ X, Gm.mk gn f gv.length = X := ⟨_, rfl⟩
            have hXn : X.n = gn := by rw [← hX]; rfl
            rw [hX] at HX HGX HFX Hr
            subst hXn
            rcases hvx : Gm.vld X with _ | _
            · have HVX := Lib.hid hvx
              have Hr2 := Lib.hid ((Gm.keep_no hvx).symm.trans Hr.out)
              clear hvx
              go_wp2_with fail
              refine (spec_IsValidGame false HVX.out HGX.out HFX.out).mono ?_
              rintro e w5 ⟨rfl, k5⟩
              have HB6 := Lib.hid (HB5.out.trans (k5.mono HB5.out.size))
              have HC6 := Lib.hid (HC5.out.below k5)
              clear k5 o0 o1
              have HR := Lib.hid ((HC6.out.s0 (.int .i64 0)).s1 (.slice none 0 0))
              have HB2 := Lib.hid ((HB6.out.setCell (p := ⟨w.heap.size + 1 + 1, 0, none⟩) (by simp only; omega) (.int .i64 0)).setCell (p := ⟨w.heap.size + 1 + 1, 1, none⟩) (by simp only; omega) (.slice none 0 0))
              obtain ⟨d0, d1, e0, e1⟩ := two' HC6.out
              go_wp2_with fail
              refine bodyPost_ret (v := .tuple #[.agg #[.int .i64 0, .slice none 0 0], .bool false]) (by
                obtain ⟨z0, z1⟩ := two HR.out
                revert z0 z1
                generalize ((w5.setCell ⟨w.heap.size + 1 + 1, 0, none⟩ (.int .i64 0)).setCell ⟨w.heap.size + 1 + 1, 1, none⟩ (.slice none 0 0)) = W4
                intro z0 z1
                simp [results, Try.results14, go_sem, z0, z1]) rfl (by rw [← Hr2.out]; exact ⟨⟨_, _, rfl, ResGm.zero _ _⟩, HB2.out⟩)
            · have HVX := Lib.hid hvx
              have Hr2 := Lib.hid ((Gm.keep_yes hvx).symm.trans Hr.out)
              clear hvx
              go_wp2_with fail
              refine (spec_IsValidGame true HVX.out HGX.out HFX.out).mono ?_
              rintro e w5 ⟨rfl, k5⟩
              have HB6 := Lib.hid (HB5.out.trans (k5.mono HB5.out.size))
              have HC6 := Lib.hid (HC5.out.below k5)
              have HX6 := Lib.hid (HX.out.below k5)
              obtain ⟨o2, o3⟩ := two (hQ.out.below k5)
              obtain ⟨d0, d1, e0, e1⟩ := two' HC6.out
              have HR := Lib.hid ((HC6.out.s0 (.int .i64 X.n)).s1 (.slice (some ⟨b, 0, none⟩) gv.length cv))
              have hne : b ≠ w.heap.size + 1 + 1 := by omega
              have hne2 : (Value.slice (some ⟨b, 0, none⟩) gv.length cv).ownBlock ≠ some (w.heap.size + 1 + 1) := by simp [Value.ownBlock]; omega
              have HY := Lib.hid (owns_set (i := 1) (u := .slice (some ⟨b, 0, none⟩) gv.length cv) (owns_set (i := 0) (u := .int .i64 X.n) HX6.out hne2) hne2)
              have HB7 := Lib.hid ((HB6.out.setCell (p := ⟨w.heap.size + 1 + 1, 0, none⟩) (by simp only; omega) (.int .i64 X.n)).setCell (p := ⟨w.heap.size + 1 + 1, 1, none⟩) (by simp only; omega) (.slice (some ⟨b, 0, none⟩) gv.length cv))
              clear k5 o0 o1 hne hne2
              go_wp2_with fail
              refine bodyPost_ret (v := .tuple #[.agg #[.int .i64 X.n, .slice (some ⟨b, 0, none⟩) gv.length cv], .bool true]) (by
                obtain ⟨z0, z1⟩ := two HR.out
                revert z0 z1
                generalize ((w5.setCell ⟨w.heap.size + 1 + 1, 0, none⟩ (.int .i64 X.n)).setCell ⟨w.heap.size + 1 + 1, 1, none⟩ (.slice (some ⟨b, 0, none⟩) gv.length cv)) = W4
                intro z0 z1
                simp [results, Try.results14, go_sem, z0, z1]) rfl (by rw [← Hr2.out]; exact ⟨⟨_, _, rfl, ResGm.of_own (OwnInts.raise2 HY.out (by omega))⟩, HB7.out⟩)
      · have Hr := Lib.hid (show (Gm.G0, false) = R by rw [← HR0.out]; exact (Gm.add_no (by unfold Gm.addOk; simp [hn])).symm)
        have hq : (gn != gm) = true := by simp [hn]
        clear hv hv' HR0 hi hi'
        rw [← Hr.out]
        go_enter Try.func14, Try.ntmps14
        go_wp2_with fail
        rw [← HW.out]
        refine (spec_IsValidGame true HV.out HA.out HF.out).mono ?_
        rintro e w1 ⟨rfl, k⟩
        have HB1 := Lib.hid (HB.out.trans (k.mono (by omega)))
        have HC4 := Lib.hid (HC3.out.below k)
        have HC6 := Lib.hid (HC1.out.below k)
        have HC7 := Lib.hid (HC2.out.below k)
        have HA2 := Lib.hid (HA'.out.up k)
        have hs1 := k.size
        obtain ⟨m0, m1⟩ := two (HC2.out.below k)
        clear k HW
        go_wp2_with fail
        refine (spec_IsValidGame true HV'.out HA2.out HF'.out).mono ?_
        rintro e w2 ⟨rfl, k⟩
        have HB2 := Lib.hid (HB1.out.trans (k.mono HB1.out.size))
        have HC5 := Lib.hid (HC4.out.below k)
        obtain ⟨m2, m3⟩ := two (HC6.out.below k)
        obtain ⟨m4, m5⟩ := two (HC7.out.below k)
        clear k m0 m1
        have HR := Lib.hid ((HC5.out.s0 (.int .i64 0)).s1 (.slice none 0 0))
        have HB3 := Lib.hid ((HB2.out.setCell (p := ⟨w.heap.size + 1 + 1, 0, none⟩) (by simp only; omega) (.int .i64 0)).setCell (p := ⟨w.heap.size + 1 + 1, 1, none⟩) (by simp only; omega) (.slice none 0 0))
        obtain ⟨d0, d1, e0, e1⟩ := two' HC5.out
        go_wp2_with fail
        refine bodyPost_ret (v := .tuple #[.agg #[.int .i64 0, .slice none 0 0], .bool false]) (by
          obtain ⟨z0, z1⟩ := two HR.out
          revert z0 z1
          generalize ((w2.setCell ⟨w.heap.size + 1 + 1, 0, none⟩ (.int .i64 0)).setCell ⟨w.heap.size + 1 + 1, 1, none⟩ (.slice none 0 0)) = W4
          intro z0 z1
          simp [results, Try.results14, go_sem, z0, z1]) rfl ⟨⟨_, _, rfl, ResGm.zero _ _⟩, HB3.out⟩
end Go.Proofs.Ytccgebnbpfliiaa
