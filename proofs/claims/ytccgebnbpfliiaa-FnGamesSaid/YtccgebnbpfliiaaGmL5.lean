/- FnExactAddGames: the walk, from the two contracts in closed words (law.py). -/
import Derived.Test.YtccgebnbpfliiaaGmA
namespace Go.Proofs.Ytccgebnbpfliiaa
open Go.RowKit
open Gm (G)
set_option maxRecDepth 100000 in
set_option maxHeartbeats 16000000 in
theorem fnExactAddGames.walk_c (p0 : G) (p1 : G) (X0 : G) (g1 : Bool) (hX : GmOk p0 → GmOk p1 → GmOk X0) (hS : GmOk p0 → GmOk p1 → ∀ (w : World) (u0a u0b u1a u1b : Value), GmC w u0a u0b p0 → GmC w u1a u1b p1 → Calls Try.prog 14 #[(.agg #[u0a, u0b]), (.agg #[u1a, u1b])] w fun e w' => (∃ ya yb : Value, e = .returned (.tuple #[(.agg #[ya, yb]), .bool g1]) ∧ ResGm w.heap.size w'.heap.size w' (.agg #[ya, yb]) X0) ∧ Below w.heap.size w w') (hI : GmOk p0 → GmOk p1 → ∀ (w : World) (u0a u0b u1a u1b : Value), GmC w u0a u0b p0 → GmC w u1a u1b p1 → Calls Try.prog 13 #[(.agg #[u0a, u0b]), (.agg #[u1a, u1b])] w fun e w' => (∃ ya yb : Value, e = .returned (.tuple #[(.agg #[ya, yb]), .bool g1]) ∧ ResGm w.heap.size w'.heap.size w' (.agg #[ya, yb]) X0) ∧ Below w.heap.size w w')
    (w : World) (u0a u0b u1a u1b : Value) (n0 : GmLens p0) (n1 : GmLens p1) (h0 : GmC w u0a u0b p0) (h1 : GmC w u1a u1b p1) :
    Calls Try.prog 8 #[(.agg #[u0a, u0b]), (.agg #[u1a, u1b])] w fun e w' => e = .returned (.bool true) ∧ Below w.heap.size w w' := by
  have HS := Lib.hid hS
  have HI := Lib.hid hI
  have HX := Lib.hid hX
  have N0 := Lib.hid n0
  have N1 := Lib.hid n1
  have B0 := Lib.hid (rg_new w #[u0a, u0b] 42)
  replace B0 := Lib.hid (B0.out.more (.cells #[u1a, u1b] 42))
  have hbx := rg_new ((w.alloc (.cells #[u0a, u0b] 42))) #[u1a, u1b] 42
  rw [size1] at hbx
  have B1 := Lib.hid hbx
  clear hbx
  have A0 := Lib.hid ((h0.rg.more (.cells #[u0a, u0b] 42)).more (.cells #[u1a, u1b] 42))
  have A1 := Lib.hid ((h1.rg.more (.cells #[u0a, u0b] 42)).more (.cells #[u1a, u1b] 42))
  have HB : Hid (Below w.heap.size w ((w.alloc (.cells #[u0a, u0b] 42)).alloc (.cells #[u1a, u1b] 42))) := ((((Below.refl w.heap.size w).alloc (by simp) (.cells #[u0a, u0b] 42))).alloc (by rw [size1]; omega) (.cells #[u1a, u1b] 42))
  have HSZ : Hid (((w.alloc (.cells #[u0a, u0b] 42)).alloc (.cells #[u1a, u1b] 42)).heap.size = w.heap.size + 2) := by show _ = _; exact size2 _ _ _
  clear hS hI hX n0 h0 n1 h1
  go_enter Try.func8, Try.ntmps8
  go_wp2_with fail
  generalize hW : ((w.alloc (.cells #[u0a, u0b] 42)).alloc (.cells #[u1a, u1b] 42)) = W0 at *
  refine (szGm_k A0.out.get N0.out 1048576 (by omega) (by omega)).mono ?_
  rintro e w1 ⟨⟨r0, rfl, r0l, r0u, r0e⟩, k⟩
  replace B0 := Lib.hid (B0.out.below k)
  replace B1 := Lib.hid (B1.out.below k)
  replace A0 := Lib.hid (A0.out.below k)
  replace A1 := Lib.hid (A1.out.below k)
  replace HB := Lib.hid (HB.out.trans (k.mono HB.out.size))
  replace HSZ := Lib.hid (And.intro HSZ.out k.size)
  clear k
  by_cases r0n : r0 < 0
  · have hb2 : decide (r0 < 0) = true := by rw [decide_eq_true_iff]; exact r0n
    go_wp2_with fail
    go_ret
    exact ⟨rfl, HB.out⟩
  · have hb_r0 : decide (r0 < 0) = false := by rw [decide_eq_false_iff_not]; exact r0n
    obtain ⟨m1_0, m1_1⟩ := two B1.out.get
    go_wp2_with fail
    refine (szGm_k A1.out.get N1.out r0 (by omega) (by omega)).mono ?_
    rintro e w2 ⟨⟨r1, rfl, r1l, r1u, r1e⟩, k⟩
    clear m1_0 m1_1
    replace B0 := Lib.hid (B0.out.below k)
    replace B1 := Lib.hid (B1.out.below k)
    replace A0 := Lib.hid (A0.out.below k)
    replace A1 := Lib.hid (A1.out.below k)
    replace HB := Lib.hid (HB.out.trans (k.mono HB.out.size))
    replace HSZ := Lib.hid (And.intro HSZ.out k.size)
    clear k
    by_cases r1n : r1 < 0
    · have hb2 : decide (r1 < 0) = true := by rw [decide_eq_true_iff]; exact r1n
      go_wp2_with fail
      go_ret
      exact ⟨rfl, HB.out⟩
    · have hb_r1 : decide (r1 < 0) = false := by rw [decide_eq_false_iff_not]; exact r1n
      have F0 := Lib.hid (gmOk N0.out (by have := r0e (by omega); have := r1e (by omega); omega))
      have F1 := Lib.hid (gmOk N1.out (by have := r0e (by omega); have := r1e (by omega); omega))
      clear r0e r1e N0 N1
      have FX := Lib.hid (HX.out F0.out F1.out)
      clear HX
      obtain ⟨K_cz, hKe⟩ : ∃ K : World → Prop, K = fun w' => (Rg (fun w' => CellsAt w' w.heap.size #[u0a, u0b] 42) w.heap.size (w.heap.size + 1) w') ∧ (Rg (fun w' => CellsAt w' (w.heap.size + 1) #[u1a, u1b] 42) (w.heap.size + 1) (w.heap.size + 2) w') ∧ (Rg (fun w' => GmC w' u0a u0b p0) 0 w.heap.size w') ∧ (Rg (fun w' => GmC w' u1a u1b p1) 0 w.heap.size w') ∧ Below w.heap.size w w' ∧ w2.heap.size ≤ w'.heap.size := ⟨_, rfl⟩
      have KS_cz : Hid (Stable K_cz) := by show Stable _; rw [hKe]; exact (stable_rg _ _ _).and ((stable_rg _ _ _).and ((stable_rg _ _ _).and ((stable_rg _ _ _).and ((stable_low w).and (fun w1 w2 hb h => Nat.le_trans h hb.size)))))
      have KC_cz : Hid (∀ w', K_cz w' → (Rg (fun w' => CellsAt w' w.heap.size #[u0a, u0b] 42) w.heap.size (w.heap.size + 1) w') ∧ (Rg (fun w' => CellsAt w' (w.heap.size + 1) #[u1a, u1b] 42) (w.heap.size + 1) (w.heap.size + 2) w') ∧ (Rg (fun w' => GmC w' u0a u0b p0) 0 w.heap.size w') ∧ (Rg (fun w' => GmC w' u1a u1b p1) 0 w.heap.size w') ∧ Below w.heap.size w w' ∧ w2.heap.size ≤ w'.heap.size) := by show ∀ w', K_cz w' → _; intro w' h; rw [hKe] at h; exact h
      have HK_cz : Hid (K_cz w2) := by show K_cz w2; rw [hKe]; exact ⟨B0.out, B1.out, A0.out, A1.out, HB.out, Nat.le_refl _⟩
      clear hKe HB B0 B1 A0 A1
      have hin := KS_cz.out.drew HK_cz.out
      have Cell_cz := Lib.hid (fun w' (h : K_cz w') => (show w'.cell? ⟨w.heap.size, 0, none⟩ = some u0a ∧ w'.cell? ⟨w.heap.size, 1, none⟩ = some u0b ∧ w'.cell? ⟨(w.heap.size + 1), 0, none⟩ = some u1a ∧ w'.cell? ⟨(w.heap.size + 1), 1, none⟩ = some u1b ∧ K_cz w' from ⟨(two (KC_cz.out w' h).1.get).1, (two (KC_cz.out w' h).1.get).2, (two (KC_cz.out w' h).2.1.get).1, (two (KC_cz.out w' h).2.1.get).2, h⟩))
      go_upto_region 8 with fail
      obtain ⟨R_cz, hRe⟩ : ∃ R : Value → Value → World → Prop, R = fun v v0 wx => ∃ (q lo hi : Nat) (za zb : Value), v = .pointer (some ⟨q, 0, none⟩) ∧ v0 = .bool g1 ∧ w2.heap.size ≤ lo ∧ w2.heap.size ≤ q ∧ lo ≤ hi ∧ (q < lo ∨ hi ≤ q) ∧ hi ≤ wx.heap.size ∧ q < wx.heap.size ∧ Rg (fun w' => ResGm lo hi w' (.agg #[za, zb]) X0) lo hi wx ∧ Rg (fun w' => CellsAt w' q #[za, zb] 26) q (q + 1) wx ∧ K_cz wx := ⟨_, rfl⟩
      have HR_cz := Lib.hid hRe
      clear hRe
      go_cut [6, 7] (fun v v0 wx => R_cz v v0 wx)
      case first =>
        refine wp_region_held_drew (S := fun w' => w'.cell? ⟨w.heap.size, 0, none⟩ = some u0a ∧ w'.cell? ⟨w.heap.size, 1, none⟩ = some u0b ∧ w'.cell? ⟨(w.heap.size + 1), 0, none⟩ = some u1a ∧ w'.cell? ⟨(w.heap.size + 1), 1, none⟩ = some u1b ∧ K_cz w') (by kernel_rfl) ?_ (fun hHeld => ?_)
        · exact Cell_cz.out _ hin
        refine wpAnyH_take (i := 0) (oi := { dst := some 28, op := Op.load 42 (Operand.tmp 2), type := 42, pos := "exact.go:2124", after := #[], guard := none }) (v := ?_) rfl (by kernel_rfl) (by kernel_rfl) (by kernel_rfl) (fun _ _ _ h => h) (Or.inl ⟨by rfl, ?_⟩) (by assumption) ?_
        rotate_left 1
        · intro w hSw; (try dsimp only at hSw); go_simp; try (with_reducible rfl)
        try simp only [Act.put, List.setIfInBounds_toArray, List.set_cons_zero, List.set_cons_succ]
        refine wpAnyH_take (i := 2) (oi := { dst := some 30, op := Op.load 42 (Operand.tmp 3), type := 42, pos := "exact.go:2124", after := #[], guard := none }) (v := ?_) rfl (by kernel_rfl) (by kernel_rfl) (by kernel_rfl) (fun _ _ _ h => h) (Or.inl ⟨by rfl, ?_⟩) (by assumption) ?_
        rotate_left 1
        · intro w hSw; (try dsimp only at hSw); go_simp; try (with_reducible rfl)
        try simp only [Act.put, List.setIfInBounds_toArray, List.set_cons_zero, List.set_cons_succ]
        have hh := hin
        refine wpAnyH_ready (rs := [1, 8]) (by kernel_rfl) (by simp) ?_
        refine AllReadyH.cons (o := { dst := some 29, op := Op.call { callee := Callee.value (Operand.func 29), args := #[Operand.tmp 28], argTypes := #[42] }, type := 26, pos := "exact.go:2124", after := #[{ on := 0, ground := Ground.data }], guard := none }) (rs := [8]) rfl (fun K hK => ?_) (AllReadyH.cons (o := { dst := some 6, op := Op.alloc 26, type := 0, pos := "exact.go:2124", after := #[], guard := none }) (rs := []) rfl (fun K hK => ?_) AllReadyH.nil)
        · go_simp
          (go_at_call 29; refine (calls_k KS_cz.out (toGm_c ((KC_cz.out _ hh).2.2.1.get) F0.out) hh).mono ?_; rintro e wc0 ⟨⟨s0a, s0b, rfl, hr0⟩, hb0, hk0⟩; have hh := hk0)
          refine hK.out _ _ ?_ (fun hHeld => ?_)
          · exact Cell_cz.out _ hh
          clear hK K
          try simp only [Act.put, List.setIfInBounds_toArray, List.set_cons_zero, List.set_cons_succ]
          refine wpAnyH_ready (rs := [3, 8]) (by kernel_rfl) (by simp) ?_
          refine AllReadyH.cons (o := { dst := some 31, op := Op.call { callee := Callee.value (Operand.func 29), args := #[Operand.tmp 30], argTypes := #[42] }, type := 26, pos := "exact.go:2124", after := #[{ on := 2, ground := Ground.data }, { on := 1, ground := Ground.chain }], guard := none }) (rs := [8]) rfl (fun K hK => ?_) (AllReadyH.cons (o := { dst := some 6, op := Op.alloc 26, type := 0, pos := "exact.go:2124", after := #[], guard := none }) (rs := []) rfl (fun K hK => ?_) AllReadyH.nil)
          · go_simp
            (go_at_call 29; refine (calls_k KS_cz.out (toGm_c ((KC_cz.out _ hh).2.2.2.1.get) F1.out) hh).mono ?_; rintro e wc1 ⟨⟨s1a, s1b, rfl, hr1⟩, hb1, hk1⟩; have hh := hk1)
            refine hK.out _ _ ?_ (fun hHeld => ?_)
            · exact Cell_cz.out _ hh
            clear hK K
            try simp only [Act.put, List.setIfInBounds_toArray, List.set_cons_zero, List.set_cons_succ]
            refine wpAnyH_ready (rs := [4, 8]) (by kernel_rfl) (by simp) ?_
            refine AllReadyH.cons (o := { dst := some 32, op := Op.call { callee := Callee.value (Operand.func 14), args := #[Operand.tmp 29, Operand.tmp 31], argTypes := #[26, 26] }, type := 29, pos := "exact.go:2124", after := #[{ on := 1, ground := Ground.data }, { on := 3, ground := Ground.data }, { on := 3, ground := Ground.chain }], guard := none }) (rs := [8]) rfl (fun K hK => ?_) (AllReadyH.cons (o := { dst := some 6, op := Op.alloc 26, type := 0, pos := "exact.go:2124", after := #[], guard := none }) (rs := []) rfl (fun K hK => ?_) AllReadyH.nil)
            · go_simp
              (go_at_call 14; refine (calls_k KS_cz.out (HS.out F0.out F1.out _ _ _ _ _ (hr0.up hb1) hr1) hh).mono ?_; rintro e wc2 ⟨⟨za, zb, rfl, hz5⟩, hb2, hk2⟩; have hh := hk2; obtain ⟨o0, o1⟩ := (ResGm.reads_c hz5).one; have t0 := sto o0; have t1 := sto o1; clear o0 o1)
              refine hK.out _ _ ?_ (fun hHeld => ?_)
              · exact Cell_cz.out _ hh
              clear hK K
              try simp only [Act.put, List.setIfInBounds_toArray, List.set_cons_zero, List.set_cons_succ]
              refine wpAnyH_take (i := 5) (oi := { dst := some 27, op := Op.move (Operand.tmp 32), type := 29, pos := "exact.go:2124", after := #[{ on := 4, ground := Ground.data }], guard := none }) (v := ?_) rfl (by kernel_rfl) (by kernel_rfl) (by kernel_rfl) (fun _ _ _ h => h) (Or.inl ⟨by rfl, ?_⟩) (by assumption) ?_
              rotate_left 1
              · intro w hSw; (try dsimp only at hSw); go_simp; try (with_reducible rfl)
              try simp only [Act.put, List.setIfInBounds_toArray, List.set_cons_zero, List.set_cons_succ]
              refine wpAnyH_take (i := 6) (oi := { dst := some 33, op := Op.extract (Operand.tmp 27) 0, type := 26, pos := "exact.go:2124", after := #[{ on := 5, ground := Ground.data }], guard := none }) (v := ?_) rfl (by kernel_rfl) (by kernel_rfl) (by kernel_rfl) (fun _ _ _ h => h) (Or.inl ⟨by rfl, ?_⟩) (by assumption) ?_
              rotate_left 1
              · intro w hSw; (try dsimp only at hSw); go_simp; try (with_reducible rfl)
              try simp only [Act.put, List.setIfInBounds_toArray, List.set_cons_zero, List.set_cons_succ]
              refine wpAnyH_take (i := 7) (oi := { dst := some 34, op := Op.extract (Operand.tmp 27) 1, type := 4, pos := "exact.go:2124", after := #[{ on := 5, ground := Ground.data }, { on := 9, ground := Ground.gcOnly Departure.lateStores }], guard := none }) (v := ?_) rfl (by kernel_rfl) (by kernel_rfl) (by kernel_rfl) (fun _ _ _ h => h) (Or.inl ⟨by rfl, ?_⟩) (by assumption) ?_
              rotate_left 1
              · intro w hSw; (try dsimp only at hSw); go_simp; try (with_reducible rfl)
              try simp only [Act.put, List.setIfInBounds_toArray, List.set_cons_zero, List.set_cons_succ]
              refine wpAnyH_ready (rs := [8]) (by kernel_rfl) (by simp) ?_
              refine AllReadyH.cons (o := { dst := some 6, op := Op.alloc 26, type := 0, pos := "exact.go:2124", after := #[], guard := none }) (rs := []) rfl (fun K hK => ?_) AllReadyH.nil
              go_simp
              skip
              refine hK.out _ _ ?_ (fun hHeld => ?_)
              · exact Cell_cz.out _ (KS_cz.out.alloc hh _)
              clear hK K
              try simp only [Act.put, List.setIfInBounds_toArray, List.set_cons_zero, List.set_cons_succ]
              refine wpAnyH_ready (rs := [9]) (by kernel_rfl) (by simp) ?_
              refine AllReadyH.cons (o := { dst := none, op := Op.store 26 (Operand.tmp 6) (Operand.tmp 33), type := 0, pos := "exact.go:2124", after := #[{ on := 8, ground := Ground.data }, { on := 6, ground := Ground.data }, { on := 4, ground := Ground.chain }, { on := 0, ground := Ground.phase }, { on := 1, ground := Ground.phase }, { on := 2, ground := Ground.phase }, { on := 3, ground := Ground.phase }, { on := 4, ground := Ground.phase }, { on := 5, ground := Ground.phase }, { on := 6, ground := Ground.phase }, { on := 7, ground := Ground.textOnly Departure.lateStores }, { on := 8, ground := Ground.phase }], guard := none }) (rs := []) rfl (fun K hK => ?_) AllReadyH.nil
              go_simp
              skip
              refine hK.out _ _ ?_ (fun hHeld => ?_)
              · exact Cell_cz.out _ (KS_cz.out.alloc hh _)
              clear hK K
              try simp only [Act.put, List.setIfInBounds_toArray, List.set_cons_zero, List.set_cons_succ]
              refine wpAnyH_take (i := 10) (oi := { dst := some 7, op := Op.assign (Operand.tmp 34), type := 4, pos := "exact.go:2124", after := #[{ on := 7, ground := Ground.data }, { on := 9, ground := Ground.chain }, { on := 0, ground := Ground.phase }, { on := 1, ground := Ground.phase }, { on := 2, ground := Ground.phase }, { on := 3, ground := Ground.phase }, { on := 4, ground := Ground.phase }, { on := 5, ground := Ground.phase }, { on := 6, ground := Ground.phase }, { on := 7, ground := Ground.phase }, { on := 8, ground := Ground.phase }, { on := 9, ground := Ground.phase }], guard := none }) (v := ?_) rfl (by kernel_rfl) (by kernel_rfl) (by kernel_rfl) (fun _ _ _ h => h) (Or.inl ⟨by rfl, ?_⟩) (by assumption) ?_
              rotate_left 1
              · intro w hSw; (try dsimp only at hSw); go_simp; try (with_reducible rfl)
              try simp only [Act.put, List.setIfInBounds_toArray, List.set_cons_zero, List.set_cons_succ]
              refine wpAnyH_done (by kernel_rfl) ?_ _
              go_wp2_with fail
              go_meet
              rw [HR_cz.out]
              refine ⟨_, _, _, _, _, rfl, rfl, ?_, ?_, ?_, .inr (Nat.le_refl _), ?_, ?_, hz5.rg.more _, rg_new _ _ _, KS_cz.out.alloc hh _⟩
              · have h1 := (KC_cz.out _ hk1).2.2.2.2.2; omega
              · have h1 := (KC_cz.out _ hk2).2.2.2.2.2; omega
              · exact hb2.size
              · rw [size1]; omega
              · rw [size1]; omega
            · go_simp
              skip
              refine hK.out _ _ ?_ (fun hHeld => ?_)
              · exact Cell_cz.out _ (KS_cz.out.alloc hh _)
              clear hK K
              try simp only [Act.put, List.setIfInBounds_toArray, List.set_cons_zero, List.set_cons_succ]
              have hh := KS_cz.out.alloc hh (.cells #[.int .i64 0, .slice none 0 0] 26)
              have hqn : CellsAt (wc1.alloc (.cells #[.int .i64 0, .slice none 0 0] 26)) wc1.heap.size #[.int .i64 0, .slice none 0 0] 26 := CellsAt.new wc1 #[.int .i64 0, .slice none 0 0] 26
              have hr0 := GmC.up hr0 hb1
              have hr0 := hr0.up ((Below.refl _ _).alloc (Nat.le_refl _) (.cells #[.int .i64 0, .slice none 0 0] 26))
              have hr1 := hr1.up ((Below.refl _ _).alloc (Nat.le_refl _) (.cells #[.int .i64 0, .slice none 0 0] 26))
              refine wpAnyH_ready (rs := [4]) (by kernel_rfl) (by simp) ?_
              refine AllReadyH.cons (o := { dst := some 32, op := Op.call { callee := Callee.value (Operand.func 14), args := #[Operand.tmp 29, Operand.tmp 31], argTypes := #[26, 26] }, type := 29, pos := "exact.go:2124", after := #[{ on := 1, ground := Ground.data }, { on := 3, ground := Ground.data }, { on := 3, ground := Ground.chain }], guard := none }) (rs := []) rfl (fun K hK => ?_) AllReadyH.nil
              go_simp
              (go_at_call 14; refine (calls_k KS_cz.out (HS.out F0.out F1.out _ _ _ _ _ hr0 hr1) hh).mono ?_; rintro e wc2 ⟨⟨za, zb, rfl, hz5⟩, hb2, hk2⟩; have hh := hk2; obtain ⟨o0, o1⟩ := (ResGm.reads_c hz5).one; have t0 := sto o0; have t1 := sto o1; clear o0 o1)
              refine hK.out _ _ ?_ (fun hHeld => ?_)
              · exact Cell_cz.out _ hh
              clear hK K
              try simp only [Act.put, List.setIfInBounds_toArray, List.set_cons_zero, List.set_cons_succ]
              refine wpAnyH_take (i := 5) (oi := { dst := some 27, op := Op.move (Operand.tmp 32), type := 29, pos := "exact.go:2124", after := #[{ on := 4, ground := Ground.data }], guard := none }) (v := ?_) rfl (by kernel_rfl) (by kernel_rfl) (by kernel_rfl) (fun _ _ _ h => h) (Or.inl ⟨by rfl, ?_⟩) (by assumption) ?_
              rotate_left 1
              · intro w hSw; (try dsimp only at hSw); go_simp; try (with_reducible rfl)
              try simp only [Act.put, List.setIfInBounds_toArray, List.set_cons_zero, List.set_cons_succ]
              refine wpAnyH_take (i := 6) (oi := { dst := some 33, op := Op.extract (Operand.tmp 27) 0, type := 26, pos := "exact.go:2124", after := #[{ on := 5, ground := Ground.data }], guard := none }) (v := ?_) rfl (by kernel_rfl) (by kernel_rfl) (by kernel_rfl) (fun _ _ _ h => h) (Or.inl ⟨by rfl, ?_⟩) (by assumption) ?_
              rotate_left 1
              · intro w hSw; (try dsimp only at hSw); go_simp; try (with_reducible rfl)
              try simp only [Act.put, List.setIfInBounds_toArray, List.set_cons_zero, List.set_cons_succ]
              refine wpAnyH_take (i := 7) (oi := { dst := some 34, op := Op.extract (Operand.tmp 27) 1, type := 4, pos := "exact.go:2124", after := #[{ on := 5, ground := Ground.data }, { on := 9, ground := Ground.gcOnly Departure.lateStores }], guard := none }) (v := ?_) rfl (by kernel_rfl) (by kernel_rfl) (by kernel_rfl) (fun _ _ _ h => h) (Or.inl ⟨by rfl, ?_⟩) (by assumption) ?_
              rotate_left 1
              · intro w hSw; (try dsimp only at hSw); go_simp; try (with_reducible rfl)
              try simp only [Act.put, List.setIfInBounds_toArray, List.set_cons_zero, List.set_cons_succ]
              have hq0 := hqn
              have hq1 := hq0.below hb2
              obtain ⟨d0, d1, f0, f1⟩ := two' hq1
              have hbf : Below wc1.heap.size wc1 wc2 := (((Below.refl _ _).alloc (Nat.le_refl _) (.cells #[.int .i64 0, .slice none 0 0] 26)).trans (hb2.mono (by have e0 := size1 wc1 (.cells #[.int .i64 0, .slice none 0 0] 26); omega)))
              have hbs := ((hbf.setCell (p := ⟨wc1.heap.size, 0, none⟩) (Nat.le_refl _) za).setCell (p := ⟨wc1.heap.size, 1, none⟩) (Nat.le_refl _) zb)
              have hkf := KS_cz.out _ _ hbs hk1
              refine wpAnyH_ready (rs := [9]) (by kernel_rfl) (by simp) ?_
              refine AllReadyH.cons (o := { dst := none, op := Op.store 26 (Operand.tmp 6) (Operand.tmp 33), type := 0, pos := "exact.go:2124", after := #[{ on := 8, ground := Ground.data }, { on := 6, ground := Ground.data }, { on := 4, ground := Ground.chain }, { on := 0, ground := Ground.phase }, { on := 1, ground := Ground.phase }, { on := 2, ground := Ground.phase }, { on := 3, ground := Ground.phase }, { on := 4, ground := Ground.phase }, { on := 5, ground := Ground.phase }, { on := 6, ground := Ground.phase }, { on := 7, ground := Ground.textOnly Departure.lateStores }, { on := 8, ground := Ground.phase }], guard := none }) (rs := []) rfl (fun K hK => ?_) AllReadyH.nil
              go_simp
              skip
              refine hK.out _ _ ?_ (fun hHeld => ?_)
              · exact Cell_cz.out _ hkf
              clear hK K
              try simp only [Act.put, List.setIfInBounds_toArray, List.set_cons_zero, List.set_cons_succ]
              refine wpAnyH_take (i := 10) (oi := { dst := some 7, op := Op.assign (Operand.tmp 34), type := 4, pos := "exact.go:2124", after := #[{ on := 7, ground := Ground.data }, { on := 9, ground := Ground.chain }, { on := 0, ground := Ground.phase }, { on := 1, ground := Ground.phase }, { on := 2, ground := Ground.phase }, { on := 3, ground := Ground.phase }, { on := 4, ground := Ground.phase }, { on := 5, ground := Ground.phase }, { on := 6, ground := Ground.phase }, { on := 7, ground := Ground.phase }, { on := 8, ground := Ground.phase }, { on := 9, ground := Ground.phase }], guard := none }) (v := ?_) rfl (by kernel_rfl) (by kernel_rfl) (by kernel_rfl) (fun _ _ _ h => h) (Or.inl ⟨by rfl, ?_⟩) (by assumption) ?_
              rotate_left 1
              · intro w hSw; (try dsimp only at hSw); go_simp; try (with_reducible rfl)
              try simp only [Act.put, List.setIfInBounds_toArray, List.set_cons_zero, List.set_cons_succ]
              refine wpAnyH_done (by kernel_rfl) ?_ _
              go_wp2_with fail
              go_meet
              rw [HR_cz.out]
              refine ⟨_, _, _, _, _, rfl, rfl, ?_, ?_, ?_, .inl ?_, ?_, ?_, hz5.rg.turned (((Turned.refl wc1.heap.size (wc1.heap.size + 1) wc2).setCell (p := ⟨wc1.heap.size, 0, none⟩) (Nat.le_refl _) (Nat.lt_succ_self _) za).setCell (p := ⟨wc1.heap.size, 1, none⟩) (Nat.le_refl _) (Nat.lt_succ_self _) zb) (.inr ?_), rg_cells ((hq1.s0 _).s1 _), hkf⟩
              all_goals (have e0 := size1 wc1 (.cells #[.int .i64 0, .slice none 0 0] 26); have e3 := hb2.size; have h1 := (KC_cz.out _ hk1).2.2.2.2.2; first | omega | (simp only [World.setCell, Array.size_modify]; omega))
          · go_simp
            skip
            refine hK.out _ _ ?_ (fun hHeld => ?_)
            · exact Cell_cz.out _ (KS_cz.out.alloc hh _)
            clear hK K
            try simp only [Act.put, List.setIfInBounds_toArray, List.set_cons_zero, List.set_cons_succ]
            have hh := KS_cz.out.alloc hh (.cells #[.int .i64 0, .slice none 0 0] 26)
            have hqn : CellsAt (wc0.alloc (.cells #[.int .i64 0, .slice none 0 0] 26)) wc0.heap.size #[.int .i64 0, .slice none 0 0] 26 := CellsAt.new wc0 #[.int .i64 0, .slice none 0 0] 26
            have hr0 := hr0.up ((Below.refl _ _).alloc (Nat.le_refl _) (.cells #[.int .i64 0, .slice none 0 0] 26))
            refine wpAnyH_ready (rs := [3]) (by kernel_rfl) (by simp) ?_
            refine AllReadyH.cons (o := { dst := some 31, op := Op.call { callee := Callee.value (Operand.func 29), args := #[Operand.tmp 30], argTypes := #[42] }, type := 26, pos := "exact.go:2124", after := #[{ on := 2, ground := Ground.data }, { on := 1, ground := Ground.chain }], guard := none }) (rs := []) rfl (fun K hK => ?_) AllReadyH.nil
            go_simp
            (go_at_call 29; refine (calls_k KS_cz.out (toGm_c ((KC_cz.out _ hh).2.2.2.1.get) F1.out) hh).mono ?_; rintro e wc1 ⟨⟨s1a, s1b, rfl, hr1⟩, hb1, hk1⟩; have hh := hk1)
            refine hK.out _ _ ?_ (fun hHeld => ?_)
            · exact Cell_cz.out _ hh
            clear hK K
            try simp only [Act.put, List.setIfInBounds_toArray, List.set_cons_zero, List.set_cons_succ]
            refine wpAnyH_ready (rs := [4]) (by kernel_rfl) (by simp) ?_
            refine AllReadyH.cons (o := { dst := some 32, op := Op.call { callee := Callee.value (Operand.func 14), args := #[Operand.tmp 29, Operand.tmp 31], argTypes := #[26, 26] }, type := 29, pos := "exact.go:2124", after := #[{ on := 1, ground := Ground.data }, { on := 3, ground := Ground.data }, { on := 3, ground := Ground.chain }], guard := none }) (rs := []) rfl (fun K hK => ?_) AllReadyH.nil
            go_simp
            (go_at_call 14; refine (calls_k KS_cz.out (HS.out F0.out F1.out _ _ _ _ _ (hr0.up hb1) hr1) hh).mono ?_; rintro e wc2 ⟨⟨za, zb, rfl, hz5⟩, hb2, hk2⟩; have hh := hk2; obtain ⟨o0, o1⟩ := (ResGm.reads_c hz5).one; have t0 := sto o0; have t1 := sto o1; clear o0 o1)
            refine hK.out _ _ ?_ (fun hHeld => ?_)
            · exact Cell_cz.out _ hh
            clear hK K
            try simp only [Act.put, List.setIfInBounds_toArray, List.set_cons_zero, List.set_cons_succ]
            refine wpAnyH_take (i := 5) (oi := { dst := some 27, op := Op.move (Operand.tmp 32), type := 29, pos := "exact.go:2124", after := #[{ on := 4, ground := Ground.data }], guard := none }) (v := ?_) rfl (by kernel_rfl) (by kernel_rfl) (by kernel_rfl) (fun _ _ _ h => h) (Or.inl ⟨by rfl, ?_⟩) (by assumption) ?_
            rotate_left 1
            · intro w hSw; (try dsimp only at hSw); go_simp; try (with_reducible rfl)
            try simp only [Act.put, List.setIfInBounds_toArray, List.set_cons_zero, List.set_cons_succ]
            refine wpAnyH_take (i := 6) (oi := { dst := some 33, op := Op.extract (Operand.tmp 27) 0, type := 26, pos := "exact.go:2124", after := #[{ on := 5, ground := Ground.data }], guard := none }) (v := ?_) rfl (by kernel_rfl) (by kernel_rfl) (by kernel_rfl) (fun _ _ _ h => h) (Or.inl ⟨by rfl, ?_⟩) (by assumption) ?_
            rotate_left 1
            · intro w hSw; (try dsimp only at hSw); go_simp; try (with_reducible rfl)
            try simp only [Act.put, List.setIfInBounds_toArray, List.set_cons_zero, List.set_cons_succ]
            refine wpAnyH_take (i := 7) (oi := { dst := some 34, op := Op.extract (Operand.tmp 27) 1, type := 4, pos := "exact.go:2124", after := #[{ on := 5, ground := Ground.data }, { on := 9, ground := Ground.gcOnly Departure.lateStores }], guard := none }) (v := ?_) rfl (by kernel_rfl) (by kernel_rfl) (by kernel_rfl) (fun _ _ _ h => h) (Or.inl ⟨by rfl, ?_⟩) (by assumption) ?_
            rotate_left 1
            · intro w hSw; (try dsimp only at hSw); go_simp; try (with_reducible rfl)
            try simp only [Act.put, List.setIfInBounds_toArray, List.set_cons_zero, List.set_cons_succ]
            have hq0 := hqn
            have hq1 := hq0.below hb1
            have hq2 := hq1.below hb2
            obtain ⟨d0, d1, f0, f1⟩ := two' hq2
            have hbf : Below wc0.heap.size wc0 wc2 := ((((Below.refl _ _).alloc (Nat.le_refl _) (.cells #[.int .i64 0, .slice none 0 0] 26)).trans (hb1.mono (by have e0 := size1 wc0 (.cells #[.int .i64 0, .slice none 0 0] 26); omega))).trans (hb2.mono (by have e0 := size1 wc0 (.cells #[.int .i64 0, .slice none 0 0] 26); have e2 := hb1.size; omega)))
            have hbs := ((hbf.setCell (p := ⟨wc0.heap.size, 0, none⟩) (Nat.le_refl _) za).setCell (p := ⟨wc0.heap.size, 1, none⟩) (Nat.le_refl _) zb)
            have hkf := KS_cz.out _ _ hbs hk0
            refine wpAnyH_ready (rs := [9]) (by kernel_rfl) (by simp) ?_
            refine AllReadyH.cons (o := { dst := none, op := Op.store 26 (Operand.tmp 6) (Operand.tmp 33), type := 0, pos := "exact.go:2124", after := #[{ on := 8, ground := Ground.data }, { on := 6, ground := Ground.data }, { on := 4, ground := Ground.chain }, { on := 0, ground := Ground.phase }, { on := 1, ground := Ground.phase }, { on := 2, ground := Ground.phase }, { on := 3, ground := Ground.phase }, { on := 4, ground := Ground.phase }, { on := 5, ground := Ground.phase }, { on := 6, ground := Ground.phase }, { on := 7, ground := Ground.textOnly Departure.lateStores }, { on := 8, ground := Ground.phase }], guard := none }) (rs := []) rfl (fun K hK => ?_) AllReadyH.nil
            go_simp
            skip
            refine hK.out _ _ ?_ (fun hHeld => ?_)
            · exact Cell_cz.out _ hkf
            clear hK K
            try simp only [Act.put, List.setIfInBounds_toArray, List.set_cons_zero, List.set_cons_succ]
            refine wpAnyH_take (i := 10) (oi := { dst := some 7, op := Op.assign (Operand.tmp 34), type := 4, pos := "exact.go:2124", after := #[{ on := 7, ground := Ground.data }, { on := 9, ground := Ground.chain }, { on := 0, ground := Ground.phase }, { on := 1, ground := Ground.phase }, { on := 2, ground := Ground.phase }, { on := 3, ground := Ground.phase }, { on := 4, ground := Ground.phase }, { on := 5, ground := Ground.phase }, { on := 6, ground := Ground.phase }, { on := 7, ground := Ground.phase }, { on := 8, ground := Ground.phase }, { on := 9, ground := Ground.phase }], guard := none }) (v := ?_) rfl (by kernel_rfl) (by kernel_rfl) (by kernel_rfl) (fun _ _ _ h => h) (Or.inl ⟨by rfl, ?_⟩) (by assumption) ?_
            rotate_left 1
            · intro w hSw; (try dsimp only at hSw); go_simp; try (with_reducible rfl)
            try simp only [Act.put, List.setIfInBounds_toArray, List.set_cons_zero, List.set_cons_succ]
            refine wpAnyH_done (by kernel_rfl) ?_ _
            go_wp2_with fail
            go_meet
            rw [HR_cz.out]
            refine ⟨_, _, _, _, _, rfl, rfl, ?_, ?_, ?_, .inl ?_, ?_, ?_, hz5.rg.turned (((Turned.refl wc0.heap.size (wc0.heap.size + 1) wc2).setCell (p := ⟨wc0.heap.size, 0, none⟩) (Nat.le_refl _) (Nat.lt_succ_self _) za).setCell (p := ⟨wc0.heap.size, 1, none⟩) (Nat.le_refl _) (Nat.lt_succ_self _) zb) (.inr ?_), rg_cells ((hq2.s0 _).s1 _), hkf⟩
            all_goals (have e0 := size1 wc0 (.cells #[.int .i64 0, .slice none 0 0] 26); have e2 := hb1.size; have e3 := hb2.size; have h1 := (KC_cz.out _ hk0).2.2.2.2.2; first | omega | (simp only [World.setCell, Array.size_modify]; omega))
        · go_simp
          skip
          refine hK.out _ _ ?_ (fun hHeld => ?_)
          · exact Cell_cz.out _ (KS_cz.out.alloc hh _)
          clear hK K
          try simp only [Act.put, List.setIfInBounds_toArray, List.set_cons_zero, List.set_cons_succ]
          have hh := KS_cz.out.alloc hh (.cells #[.int .i64 0, .slice none 0 0] 26)
          have hqn : CellsAt (w2.drew.alloc (.cells #[.int .i64 0, .slice none 0 0] 26)) w2.heap.size #[.int .i64 0, .slice none 0 0] 26 := CellsAt.new w2.drew #[.int .i64 0, .slice none 0 0] 26
          refine wpAnyH_ready (rs := [1]) (by kernel_rfl) (by simp) ?_
          refine AllReadyH.cons (o := { dst := some 29, op := Op.call { callee := Callee.value (Operand.func 29), args := #[Operand.tmp 28], argTypes := #[42] }, type := 26, pos := "exact.go:2124", after := #[{ on := 0, ground := Ground.data }], guard := none }) (rs := []) rfl (fun K hK => ?_) AllReadyH.nil
          go_simp
          (go_at_call 29; refine (calls_k KS_cz.out (toGm_c ((KC_cz.out _ hh).2.2.1.get) F0.out) hh).mono ?_; rintro e wc0 ⟨⟨s0a, s0b, rfl, hr0⟩, hb0, hk0⟩; have hh := hk0)
          refine hK.out _ _ ?_ (fun hHeld => ?_)
          · exact Cell_cz.out _ hh
          clear hK K
          try simp only [Act.put, List.setIfInBounds_toArray, List.set_cons_zero, List.set_cons_succ]
          refine wpAnyH_ready (rs := [3]) (by kernel_rfl) (by simp) ?_
          refine AllReadyH.cons (o := { dst := some 31, op := Op.call { callee := Callee.value (Operand.func 29), args := #[Operand.tmp 30], argTypes := #[42] }, type := 26, pos := "exact.go:2124", after := #[{ on := 2, ground := Ground.data }, { on := 1, ground := Ground.chain }], guard := none }) (rs := []) rfl (fun K hK => ?_) AllReadyH.nil
          go_simp
          (go_at_call 29; refine (calls_k KS_cz.out (toGm_c ((KC_cz.out _ hh).2.2.2.1.get) F1.out) hh).mono ?_; rintro e wc1 ⟨⟨s1a, s1b, rfl, hr1⟩, hb1, hk1⟩; have hh := hk1)
          refine hK.out _ _ ?_ (fun hHeld => ?_)
          · exact Cell_cz.out _ hh
          clear hK K
          try simp only [Act.put, List.setIfInBounds_toArray, List.set_cons_zero, List.set_cons_succ]
          refine wpAnyH_ready (rs := [4]) (by kernel_rfl) (by simp) ?_
          refine AllReadyH.cons (o := { dst := some 32, op := Op.call { callee := Callee.value (Operand.func 14), args := #[Operand.tmp 29, Operand.tmp 31], argTypes := #[26, 26] }, type := 29, pos := "exact.go:2124", after := #[{ on := 1, ground := Ground.data }, { on := 3, ground := Ground.data }, { on := 3, ground := Ground.chain }], guard := none }) (rs := []) rfl (fun K hK => ?_) AllReadyH.nil
          go_simp
          (go_at_call 14; refine (calls_k KS_cz.out (HS.out F0.out F1.out _ _ _ _ _ (hr0.up hb1) hr1) hh).mono ?_; rintro e wc2 ⟨⟨za, zb, rfl, hz5⟩, hb2, hk2⟩; have hh := hk2; obtain ⟨o0, o1⟩ := (ResGm.reads_c hz5).one; have t0 := sto o0; have t1 := sto o1; clear o0 o1)
          refine hK.out _ _ ?_ (fun hHeld => ?_)
          · exact Cell_cz.out _ hh
          clear hK K
          try simp only [Act.put, List.setIfInBounds_toArray, List.set_cons_zero, List.set_cons_succ]
          refine wpAnyH_take (i := 5) (oi := { dst := some 27, op := Op.move (Operand.tmp 32), type := 29, pos := "exact.go:2124", after := #[{ on := 4, ground := Ground.data }], guard := none }) (v := ?_) rfl (by kernel_rfl) (by kernel_rfl) (by kernel_rfl) (fun _ _ _ h => h) (Or.inl ⟨by rfl, ?_⟩) (by assumption) ?_
          rotate_left 1
          · intro w hSw; (try dsimp only at hSw); go_simp; try (with_reducible rfl)
          try simp only [Act.put, List.setIfInBounds_toArray, List.set_cons_zero, List.set_cons_succ]
          refine wpAnyH_take (i := 6) (oi := { dst := some 33, op := Op.extract (Operand.tmp 27) 0, type := 26, pos := "exact.go:2124", after := #[{ on := 5, ground := Ground.data }], guard := none }) (v := ?_) rfl (by kernel_rfl) (by kernel_rfl) (by kernel_rfl) (fun _ _ _ h => h) (Or.inl ⟨by rfl, ?_⟩) (by assumption) ?_
          rotate_left 1
          · intro w hSw; (try dsimp only at hSw); go_simp; try (with_reducible rfl)
          try simp only [Act.put, List.setIfInBounds_toArray, List.set_cons_zero, List.set_cons_succ]
          refine wpAnyH_take (i := 7) (oi := { dst := some 34, op := Op.extract (Operand.tmp 27) 1, type := 4, pos := "exact.go:2124", after := #[{ on := 5, ground := Ground.data }, { on := 9, ground := Ground.gcOnly Departure.lateStores }], guard := none }) (v := ?_) rfl (by kernel_rfl) (by kernel_rfl) (by kernel_rfl) (fun _ _ _ h => h) (Or.inl ⟨by rfl, ?_⟩) (by assumption) ?_
          rotate_left 1
          · intro w hSw; (try dsimp only at hSw); go_simp; try (with_reducible rfl)
          try simp only [Act.put, List.setIfInBounds_toArray, List.set_cons_zero, List.set_cons_succ]
          have hq0 := hqn
          have hq1 := hq0.below hb0
          have hq2 := hq1.below hb1
          have hq3 := hq2.below hb2
          obtain ⟨d0, d1, f0, f1⟩ := two' hq3
          have hbf : Below w2.drew.heap.size w2.drew wc2 := (((((Below.refl _ _).alloc (Nat.le_refl _) (.cells #[.int .i64 0, .slice none 0 0] 26)).trans (hb0.mono (by have e0 := size1 w2.drew (.cells #[.int .i64 0, .slice none 0 0] 26); omega))).trans (hb1.mono (by have e0 := size1 w2.drew (.cells #[.int .i64 0, .slice none 0 0] 26); have e1 := hb0.size; omega))).trans (hb2.mono (by have e0 := size1 w2.drew (.cells #[.int .i64 0, .slice none 0 0] 26); have e1 := hb0.size; have e2 := hb1.size; omega)))
          have hbs := ((hbf.setCell (p := ⟨w2.heap.size, 0, none⟩) (Nat.le_refl _) za).setCell (p := ⟨w2.heap.size, 1, none⟩) (Nat.le_refl _) zb)
          have hkf := KS_cz.out _ _ hbs hin
          refine wpAnyH_ready (rs := [9]) (by kernel_rfl) (by simp) ?_
          refine AllReadyH.cons (o := { dst := none, op := Op.store 26 (Operand.tmp 6) (Operand.tmp 33), type := 0, pos := "exact.go:2124", after := #[{ on := 8, ground := Ground.data }, { on := 6, ground := Ground.data }, { on := 4, ground := Ground.chain }, { on := 0, ground := Ground.phase }, { on := 1, ground := Ground.phase }, { on := 2, ground := Ground.phase }, { on := 3, ground := Ground.phase }, { on := 4, ground := Ground.phase }, { on := 5, ground := Ground.phase }, { on := 6, ground := Ground.phase }, { on := 7, ground := Ground.textOnly Departure.lateStores }, { on := 8, ground := Ground.phase }], guard := none }) (rs := []) rfl (fun K hK => ?_) AllReadyH.nil
          go_simp
          skip
          refine hK.out _ _ ?_ (fun hHeld => ?_)
          · exact Cell_cz.out _ hkf
          clear hK K
          try simp only [Act.put, List.setIfInBounds_toArray, List.set_cons_zero, List.set_cons_succ]
          refine wpAnyH_take (i := 10) (oi := { dst := some 7, op := Op.assign (Operand.tmp 34), type := 4, pos := "exact.go:2124", after := #[{ on := 7, ground := Ground.data }, { on := 9, ground := Ground.chain }, { on := 0, ground := Ground.phase }, { on := 1, ground := Ground.phase }, { on := 2, ground := Ground.phase }, { on := 3, ground := Ground.phase }, { on := 4, ground := Ground.phase }, { on := 5, ground := Ground.phase }, { on := 6, ground := Ground.phase }, { on := 7, ground := Ground.phase }, { on := 8, ground := Ground.phase }, { on := 9, ground := Ground.phase }], guard := none }) (v := ?_) rfl (by kernel_rfl) (by kernel_rfl) (by kernel_rfl) (fun _ _ _ h => h) (Or.inl ⟨by rfl, ?_⟩) (by assumption) ?_
          rotate_left 1
          · intro w hSw; (try dsimp only at hSw); go_simp; try (with_reducible rfl)
          try simp only [Act.put, List.setIfInBounds_toArray, List.set_cons_zero, List.set_cons_succ]
          refine wpAnyH_done (by kernel_rfl) ?_ _
          go_wp2_with fail
          go_meet
          rw [HR_cz.out]
          refine ⟨_, _, _, _, _, rfl, rfl, ?_, ?_, ?_, .inl ?_, ?_, ?_, hz5.rg.turned (((Turned.refl w2.heap.size (w2.heap.size + 1) wc2).setCell (p := ⟨w2.heap.size, 0, none⟩) (Nat.le_refl _) (Nat.lt_succ_self _) za).setCell (p := ⟨w2.heap.size, 1, none⟩) (Nat.le_refl _) (Nat.lt_succ_self _) zb) (.inr ?_), rg_cells ((hq3.s0 _).s1 _), hkf⟩
          all_goals (have e0 := size1 w2.drew (.cells #[.int .i64 0, .slice none 0 0] 26); have e1 := hb0.size; have e2 := hb1.size; have e3 := hb2.size; have h1 := (KC_cz.out _ hin).2.2.2.2.2; have h9 : w2.drew.heap.size = w2.heap.size := rfl; first | omega | (simp only [World.setCell, Array.size_modify]; omega))
      case rest =>
      clear hin HK_cz Cell_cz
      obtain ⟨w3, rfl⟩ : ∃ q : World, q = wc := ⟨_, rfl⟩
      rw [HR_cz.out] at hcut
      clear HR_cz
      obtain ⟨qz, loz, hiz, za, zb, rfl, rfl, hl1, hl1b, hl2, hl3, hl3b, hl4, hl5, hl6, hk7⟩ := hcut
      obtain ⟨q_B0, q_B1, q_A0, q_A1, hB, hsz⟩ := KC_cz.out _ hk7
      have B0 := Lib.hid q_B0
      have B1 := Lib.hid q_B1
      have A0 := Lib.hid q_A0
      have A1 := Lib.hid q_A1
      have HB := Lib.hid hB
      replace HSZ := Lib.hid (And.intro HSZ.out hsz)
      clear hB hsz hk7 KC_cz KS_cz q_B0 q_B1 q_A0 q_A1
      replace HSZ := Lib.hid (And.intro HSZ.out (And.intro hl1 (And.intro hl1b (And.intro hl2 (And.intro hl3 (And.intro hl3b hl4))))))
      have Z_f := Lib.hid hl5
      have ZB := Lib.hid hl6
      clear hl1 hl1b hl2 hl3 hl3b hl4 hl5 hl6
      clear HS
      obtain ⟨m2_0, m2_1⟩ := two B0.out.get
      go_wp2_with fail
      clear m2_0 m2_1
      refine (toGm_k A0.out.get F0.out).mono ?_
      rintro e w4 ⟨⟨x0a, x0b, rfl, hs⟩, k⟩
      replace B0 := Lib.hid (B0.out.below k)
      replace B1 := Lib.hid (B1.out.below k)
      replace A0 := Lib.hid (A0.out.below k)
      replace A1 := Lib.hid (A1.out.below k)
      replace Z_f := Lib.hid (Z_f.out.below k)
      replace ZB := Lib.hid (ZB.out.below k)
      replace HB := Lib.hid (HB.out.trans (k.mono HB.out.size))
      replace HSZ := Lib.hid (And.intro HSZ.out k.size)
      clear k
      have X0_f := Lib.hid hs.rg
      clear hs
      obtain ⟨o0, o1⟩ := (ResGm.reads_c X0_f.out.get).one
      have t0 := sto o0
      have t1 := sto o1
      replace B0 := Lib.hid (B0.out.more (.cells #[x0a, x0b] 26))
      replace B1 := Lib.hid (B1.out.more (.cells #[x0a, x0b] 26))
      replace A0 := Lib.hid (A0.out.more (.cells #[x0a, x0b] 26))
      replace A1 := Lib.hid (A1.out.more (.cells #[x0a, x0b] 26))
      replace Z_f := Lib.hid (Z_f.out.more (.cells #[x0a, x0b] 26))
      replace ZB := Lib.hid (ZB.out.more (.cells #[x0a, x0b] 26))
      replace X0_f := Lib.hid (X0_f.out.more (.cells #[x0a, x0b] 26))
      replace HB := Lib.hid (HB.out.alloc HB.out.size (.cells #[x0a, x0b] 26))
      replace HSZ := Lib.hid (And.intro HSZ.out (size1 w4 (.cells #[x0a, x0b] 26)))
      have XB0 := Lib.hid (rg_new w4 #[x0a, x0b] 26)
      clear o0 o1
      obtain ⟨m3_0, m3_1⟩ := two B1.out.get
      go_wp2_with fail
      clear t0 t1
      generalize hWx1 : (w4.alloc (.cells #[x0a, x0b] 26)) = Wx1 at *
      clear m3_0 m3_1
      refine (toGm_k A1.out.get F1.out).mono ?_
      rintro e w5 ⟨⟨x1a, x1b, rfl, hs⟩, k⟩
      replace B0 := Lib.hid (B0.out.below k)
      replace B1 := Lib.hid (B1.out.below k)
      replace A0 := Lib.hid (A0.out.below k)
      replace A1 := Lib.hid (A1.out.below k)
      replace Z_f := Lib.hid (Z_f.out.below k)
      replace ZB := Lib.hid (ZB.out.below k)
      replace X0_f := Lib.hid (X0_f.out.below k)
      replace XB0 := Lib.hid (XB0.out.below k)
      replace HB := Lib.hid (HB.out.trans (k.mono HB.out.size))
      replace HSZ := Lib.hid (And.intro HSZ.out k.size)
      clear k
      have X1_f := Lib.hid hs.rg
      clear hs
      obtain ⟨o0, o1⟩ := (ResGm.reads_c X1_f.out.get).one
      have t0 := sto o0
      have t1 := sto o1
      replace B0 := Lib.hid (B0.out.more (.cells #[x1a, x1b] 26))
      replace B1 := Lib.hid (B1.out.more (.cells #[x1a, x1b] 26))
      replace A0 := Lib.hid (A0.out.more (.cells #[x1a, x1b] 26))
      replace A1 := Lib.hid (A1.out.more (.cells #[x1a, x1b] 26))
      replace Z_f := Lib.hid (Z_f.out.more (.cells #[x1a, x1b] 26))
      replace ZB := Lib.hid (ZB.out.more (.cells #[x1a, x1b] 26))
      replace X0_f := Lib.hid (X0_f.out.more (.cells #[x1a, x1b] 26))
      replace XB0 := Lib.hid (XB0.out.more (.cells #[x1a, x1b] 26))
      replace X1_f := Lib.hid (X1_f.out.more (.cells #[x1a, x1b] 26))
      replace HB := Lib.hid (HB.out.alloc HB.out.size (.cells #[x1a, x1b] 26))
      replace HSZ := Lib.hid (And.intro HSZ.out (size1 w5 (.cells #[x1a, x1b] 26)))
      have XB1 := Lib.hid (rg_new w5 #[x1a, x1b] 26)
      clear o0 o1
      obtain ⟨m4_0, m4_1⟩ := two XB0.out.get
      obtain ⟨m5_0, m5_1⟩ := two XB1.out.get
      go_wp2_with fail
      clear t0 t1
      generalize hWg : (w5.alloc (.cells #[x1a, x1b] 26)) = Wg at *
      clear m4_0 m4_1 m5_0 m5_1
      refine (HI.out F0.out F1.out _ _ _ _ _ X0_f.out.get.reads_c X1_f.out.get.reads_c).mono ?_
      rintro e w6 ⟨⟨ga, gb, rfl, hs⟩, k⟩
      replace B0 := Lib.hid (B0.out.below k)
      replace B1 := Lib.hid (B1.out.below k)
      replace A0 := Lib.hid (A0.out.below k)
      replace A1 := Lib.hid (A1.out.below k)
      replace Z_f := Lib.hid (Z_f.out.below k)
      replace ZB := Lib.hid (ZB.out.below k)
      replace X0_f := Lib.hid (X0_f.out.below k)
      replace XB0 := Lib.hid (XB0.out.below k)
      replace X1_f := Lib.hid (X1_f.out.below k)
      replace XB1 := Lib.hid (XB1.out.below k)
      replace HB := Lib.hid (HB.out.trans (k.mono HB.out.size))
      replace HSZ := Lib.hid (And.intro HSZ.out k.size)
      clear k
      have G_f := Lib.hid hs.rg
      clear hs
      have hne_g1 := ne_selfb g1
      obtain ⟨o0, o1⟩ := (ResGm.reads_c G_f.out.get).one
      have t0 := sto o0
      have t1 := sto o1
      replace B0 := Lib.hid (B0.out.more (.cells #[ga, gb] 26))
      replace B1 := Lib.hid (B1.out.more (.cells #[ga, gb] 26))
      replace A0 := Lib.hid (A0.out.more (.cells #[ga, gb] 26))
      replace A1 := Lib.hid (A1.out.more (.cells #[ga, gb] 26))
      replace Z_f := Lib.hid (Z_f.out.more (.cells #[ga, gb] 26))
      replace ZB := Lib.hid (ZB.out.more (.cells #[ga, gb] 26))
      replace X0_f := Lib.hid (X0_f.out.more (.cells #[ga, gb] 26))
      replace XB0 := Lib.hid (XB0.out.more (.cells #[ga, gb] 26))
      replace X1_f := Lib.hid (X1_f.out.more (.cells #[ga, gb] 26))
      replace XB1 := Lib.hid (XB1.out.more (.cells #[ga, gb] 26))
      replace G_f := Lib.hid (G_f.out.more (.cells #[ga, gb] 26))
      replace HB := Lib.hid (HB.out.alloc HB.out.size (.cells #[ga, gb] 26))
      replace HSZ := Lib.hid (And.intro HSZ.out (size1 w6 (.cells #[ga, gb] 26)))
      have GB := Lib.hid (rg_new w6 #[ga, gb] 26)
      clear o0 o1
      obtain ⟨m6_0, m6_1⟩ := two GB.out.get
      obtain ⟨m7_0, m7_1⟩ := two ZB.out.get
      go_wp2_with fail
      clear t0 t1
      generalize hWe1 : (w6.alloc (.cells #[ga, gb] 26)) = We1 at *
      clear m6_0 m6_1 m7_0 m7_1
      refine (eqGm_k G_f.out.get.reads_c Z_f.out.get.reads_c FX.out).mono ?_
      rintro e w7 ⟨rfl, k⟩
      replace B0 := Lib.hid (B0.out.below k)
      replace B1 := Lib.hid (B1.out.below k)
      replace A0 := Lib.hid (A0.out.below k)
      replace A1 := Lib.hid (A1.out.below k)
      replace Z_f := Lib.hid (Z_f.out.below k)
      replace ZB := Lib.hid (ZB.out.below k)
      replace X0_f := Lib.hid (X0_f.out.below k)
      replace XB0 := Lib.hid (XB0.out.below k)
      replace X1_f := Lib.hid (X1_f.out.below k)
      replace XB1 := Lib.hid (XB1.out.below k)
      replace G_f := Lib.hid (G_f.out.below k)
      replace GB := Lib.hid (GB.out.below k)
      replace HB := Lib.hid (HB.out.trans (k.mono HB.out.size))
      replace HSZ := Lib.hid (And.intro HSZ.out k.size)
      clear k
      obtain ⟨K_0, hKe⟩ : ∃ K : World → Prop, K = fun w' => (Rg (fun w' => CellsAt w' w.heap.size #[u0a, u0b] 42) w.heap.size (w.heap.size + 1) w') ∧ (Rg (fun w' => CellsAt w' (w.heap.size + 1) #[u1a, u1b] 42) (w.heap.size + 1) (w.heap.size + 2) w') ∧ (Rg (fun w' => GmC w' u0a u0b p0) 0 w.heap.size w') ∧ (Rg (fun w' => GmC w' u1a u1b p1) 0 w.heap.size w') ∧ (Rg (fun w' => ResGm loz hiz w' (.agg #[za, zb]) X0) loz hiz w') ∧ (Rg (fun w' => CellsAt w' qz #[za, zb] 26) qz (qz + 1) w') ∧ (Rg (fun w' => ResGm w3.heap.size w4.heap.size w' (.agg #[x0a, x0b]) p0) w3.heap.size w4.heap.size w') ∧ (Rg (fun w' => CellsAt w' w4.heap.size #[x0a, x0b] 26) w4.heap.size (w4.heap.size + 1) w') ∧ (Rg (fun w' => ResGm Wx1.heap.size w5.heap.size w' (.agg #[x1a, x1b]) p1) Wx1.heap.size w5.heap.size w') ∧ (Rg (fun w' => CellsAt w' w5.heap.size #[x1a, x1b] 26) w5.heap.size (w5.heap.size + 1) w') ∧ (Rg (fun w' => ResGm Wg.heap.size w6.heap.size w' (.agg #[ga, gb]) X0) Wg.heap.size w6.heap.size w') ∧ (Rg (fun w' => CellsAt w' w6.heap.size #[ga, gb] 26) w6.heap.size (w6.heap.size + 1) w') ∧ Below w.heap.size w w' ∧ w7.heap.size ≤ w'.heap.size := ⟨_, rfl⟩
      have KS_0 : Hid (Stable K_0) := by show Stable _; rw [hKe]; exact (stable_rg _ _ _).and ((stable_rg _ _ _).and ((stable_rg _ _ _).and ((stable_rg _ _ _).and ((stable_rg _ _ _).and ((stable_rg _ _ _).and ((stable_rg _ _ _).and ((stable_rg _ _ _).and ((stable_rg _ _ _).and ((stable_rg _ _ _).and ((stable_rg _ _ _).and ((stable_rg _ _ _).and ((stable_low w).and (fun w1 w2 hb h => Nat.le_trans h hb.size)))))))))))))
      have KC_0 : Hid (∀ w', K_0 w' → (Rg (fun w' => CellsAt w' w.heap.size #[u0a, u0b] 42) w.heap.size (w.heap.size + 1) w') ∧ (Rg (fun w' => CellsAt w' (w.heap.size + 1) #[u1a, u1b] 42) (w.heap.size + 1) (w.heap.size + 2) w') ∧ (Rg (fun w' => GmC w' u0a u0b p0) 0 w.heap.size w') ∧ (Rg (fun w' => GmC w' u1a u1b p1) 0 w.heap.size w') ∧ (Rg (fun w' => ResGm loz hiz w' (.agg #[za, zb]) X0) loz hiz w') ∧ (Rg (fun w' => CellsAt w' qz #[za, zb] 26) qz (qz + 1) w') ∧ (Rg (fun w' => ResGm w3.heap.size w4.heap.size w' (.agg #[x0a, x0b]) p0) w3.heap.size w4.heap.size w') ∧ (Rg (fun w' => CellsAt w' w4.heap.size #[x0a, x0b] 26) w4.heap.size (w4.heap.size + 1) w') ∧ (Rg (fun w' => ResGm Wx1.heap.size w5.heap.size w' (.agg #[x1a, x1b]) p1) Wx1.heap.size w5.heap.size w') ∧ (Rg (fun w' => CellsAt w' w5.heap.size #[x1a, x1b] 26) w5.heap.size (w5.heap.size + 1) w') ∧ (Rg (fun w' => ResGm Wg.heap.size w6.heap.size w' (.agg #[ga, gb]) X0) Wg.heap.size w6.heap.size w') ∧ (Rg (fun w' => CellsAt w' w6.heap.size #[ga, gb] 26) w6.heap.size (w6.heap.size + 1) w') ∧ Below w.heap.size w w' ∧ w7.heap.size ≤ w'.heap.size) := by show ∀ w', K_0 w' → _; intro w' h; rw [hKe] at h; exact h
      have HK_0 : Hid (K_0 w7) := by show K_0 w7; rw [hKe]; exact ⟨B0.out, B1.out, A0.out, A1.out, Z_f.out, ZB.out, X0_f.out, XB0.out, X1_f.out, XB1.out, G_f.out, GB.out, HB.out, Nat.le_refl _⟩
      clear hKe HB B0 B1 A0 A1 Z_f ZB X0_f XB0 X1_f XB1 G_f GB
      have hin := KS_0.out.drew HK_0.out
      have Cell_0 := Lib.hid (fun w' (h : K_0 w') => (show w'.cell? ⟨w4.heap.size, 0, none⟩ = some x0a ∧ w'.cell? ⟨w4.heap.size, 1, none⟩ = some x0b ∧ w'.cell? ⟨w.heap.size, 0, none⟩ = some u0a ∧ w'.cell? ⟨w.heap.size, 1, none⟩ = some u0b ∧ K_0 w' from ⟨(two (KC_0.out w' h).2.2.2.2.2.2.2.1.get).1, (two (KC_0.out w' h).2.2.2.2.2.2.2.1.get).2, (two (KC_0.out w' h).1.get).1, (two (KC_0.out w' h).1.get).2, h⟩))
      go_upto_region 14 with fail
      go_cut [58] (fun v wx => v = .bool false ∧ K_0 wx)
      case first =>
        go_region_held3 (fun w' => w'.cell? ⟨w4.heap.size, 0, none⟩ = some x0a ∧ w'.cell? ⟨w4.heap.size, 1, none⟩ = some x0b ∧ w'.cell? ⟨w.heap.size, 0, none⟩ = some u0a ∧ w'.cell? ⟨w.heap.size, 1, none⟩ = some u0b ∧ K_0 w') (first | exact Cell_0.out _ (by assumption) | exact Cell_0.out _ (KS_0.out.drew (by assumption)))
          (first
            | (go_at_call 29; (with_reducible refine (calls_k KS_0.out (toGm_k ((KC_0.out _ (by first | assumption | exact KS_0.out.drew (by assumption))).2.2.1.get) F0.out) (by first | assumption | exact KS_0.out.drew (by assumption))).mono ?_); rintro e w' ⟨⟨y0, y1, rfl, hr3⟩, hk3, hin3⟩)
            | (go_at_call 30; refine (calls_k KS_0.out (eqGm_k ((KC_0.out _ (by first | assumption | exact KS_0.out.drew (by assumption))).2.2.2.2.2.2.1.get.reads_c) (ResGm.reads_c (by assumption)) F0.out) (by assumption)).mono ?_; rintro e w' ⟨rfl, hk4, hin4⟩))
        all_goals
          go_wp2_with fail
          go_meet
          exact ⟨rfl, by assumption⟩
      case rest =>
      clear hin HK_0 Cell_0
      obtain ⟨w8, rfl⟩ : ∃ q : World, q = wc := ⟨_, rfl⟩
      obtain ⟨rfl, hk7⟩ := hcut
      obtain ⟨q_B0, q_B1, q_A0, q_A1, q_Z_f, q_ZB, q_X0_f, q_XB0, q_X1_f, q_XB1, q_G_f, q_GB, hB, hsz⟩ := KC_0.out _ hk7
      have B0 := Lib.hid q_B0
      have B1 := Lib.hid q_B1
      have A0 := Lib.hid q_A0
      have A1 := Lib.hid q_A1
      have Z_f := Lib.hid q_Z_f
      have ZB := Lib.hid q_ZB
      have X0_f := Lib.hid q_X0_f
      have XB0 := Lib.hid q_XB0
      have X1_f := Lib.hid q_X1_f
      have XB1 := Lib.hid q_XB1
      have G_f := Lib.hid q_G_f
      have GB := Lib.hid q_GB
      have HB := Lib.hid hB
      replace HSZ := Lib.hid (And.intro HSZ.out hsz)
      clear hB hsz hk7 KC_0 KS_0 q_B0 q_B1 q_A0 q_A1 q_Z_f q_ZB q_X0_f q_XB0 q_X1_f q_XB1 q_G_f q_GB
      obtain ⟨K_1, hKe⟩ : ∃ K : World → Prop, K = fun w' => (Rg (fun w' => CellsAt w' w.heap.size #[u0a, u0b] 42) w.heap.size (w.heap.size + 1) w') ∧ (Rg (fun w' => CellsAt w' (w.heap.size + 1) #[u1a, u1b] 42) (w.heap.size + 1) (w.heap.size + 2) w') ∧ (Rg (fun w' => GmC w' u0a u0b p0) 0 w.heap.size w') ∧ (Rg (fun w' => GmC w' u1a u1b p1) 0 w.heap.size w') ∧ (Rg (fun w' => ResGm loz hiz w' (.agg #[za, zb]) X0) loz hiz w') ∧ (Rg (fun w' => CellsAt w' qz #[za, zb] 26) qz (qz + 1) w') ∧ (Rg (fun w' => ResGm w3.heap.size w4.heap.size w' (.agg #[x0a, x0b]) p0) w3.heap.size w4.heap.size w') ∧ (Rg (fun w' => CellsAt w' w4.heap.size #[x0a, x0b] 26) w4.heap.size (w4.heap.size + 1) w') ∧ (Rg (fun w' => ResGm Wx1.heap.size w5.heap.size w' (.agg #[x1a, x1b]) p1) Wx1.heap.size w5.heap.size w') ∧ (Rg (fun w' => CellsAt w' w5.heap.size #[x1a, x1b] 26) w5.heap.size (w5.heap.size + 1) w') ∧ (Rg (fun w' => ResGm Wg.heap.size w6.heap.size w' (.agg #[ga, gb]) X0) Wg.heap.size w6.heap.size w') ∧ (Rg (fun w' => CellsAt w' w6.heap.size #[ga, gb] 26) w6.heap.size (w6.heap.size + 1) w') ∧ Below w.heap.size w w' ∧ w8.heap.size ≤ w'.heap.size := ⟨_, rfl⟩
      have KS_1 : Hid (Stable K_1) := by show Stable _; rw [hKe]; exact (stable_rg _ _ _).and ((stable_rg _ _ _).and ((stable_rg _ _ _).and ((stable_rg _ _ _).and ((stable_rg _ _ _).and ((stable_rg _ _ _).and ((stable_rg _ _ _).and ((stable_rg _ _ _).and ((stable_rg _ _ _).and ((stable_rg _ _ _).and ((stable_rg _ _ _).and ((stable_rg _ _ _).and ((stable_low w).and (fun w1 w2 hb h => Nat.le_trans h hb.size)))))))))))))
      have KC_1 : Hid (∀ w', K_1 w' → (Rg (fun w' => CellsAt w' w.heap.size #[u0a, u0b] 42) w.heap.size (w.heap.size + 1) w') ∧ (Rg (fun w' => CellsAt w' (w.heap.size + 1) #[u1a, u1b] 42) (w.heap.size + 1) (w.heap.size + 2) w') ∧ (Rg (fun w' => GmC w' u0a u0b p0) 0 w.heap.size w') ∧ (Rg (fun w' => GmC w' u1a u1b p1) 0 w.heap.size w') ∧ (Rg (fun w' => ResGm loz hiz w' (.agg #[za, zb]) X0) loz hiz w') ∧ (Rg (fun w' => CellsAt w' qz #[za, zb] 26) qz (qz + 1) w') ∧ (Rg (fun w' => ResGm w3.heap.size w4.heap.size w' (.agg #[x0a, x0b]) p0) w3.heap.size w4.heap.size w') ∧ (Rg (fun w' => CellsAt w' w4.heap.size #[x0a, x0b] 26) w4.heap.size (w4.heap.size + 1) w') ∧ (Rg (fun w' => ResGm Wx1.heap.size w5.heap.size w' (.agg #[x1a, x1b]) p1) Wx1.heap.size w5.heap.size w') ∧ (Rg (fun w' => CellsAt w' w5.heap.size #[x1a, x1b] 26) w5.heap.size (w5.heap.size + 1) w') ∧ (Rg (fun w' => ResGm Wg.heap.size w6.heap.size w' (.agg #[ga, gb]) X0) Wg.heap.size w6.heap.size w') ∧ (Rg (fun w' => CellsAt w' w6.heap.size #[ga, gb] 26) w6.heap.size (w6.heap.size + 1) w') ∧ Below w.heap.size w w' ∧ w8.heap.size ≤ w'.heap.size) := by show ∀ w', K_1 w' → _; intro w' h; rw [hKe] at h; exact h
      have HK_1 : Hid (K_1 w8) := by show K_1 w8; rw [hKe]; exact ⟨B0.out, B1.out, A0.out, A1.out, Z_f.out, ZB.out, X0_f.out, XB0.out, X1_f.out, XB1.out, G_f.out, GB.out, HB.out, Nat.le_refl _⟩
      clear hKe HB B0 B1 A0 A1 Z_f ZB X0_f XB0 X1_f XB1 G_f GB
      have hin := KS_1.out.drew HK_1.out
      have Cell_1 := Lib.hid (fun w' (h : K_1 w') => (show w'.cell? ⟨w5.heap.size, 0, none⟩ = some x1a ∧ w'.cell? ⟨w5.heap.size, 1, none⟩ = some x1b ∧ w'.cell? ⟨(w.heap.size + 1), 0, none⟩ = some u1a ∧ w'.cell? ⟨(w.heap.size + 1), 1, none⟩ = some u1b ∧ K_1 w' from ⟨(two (KC_1.out w' h).2.2.2.2.2.2.2.2.2.1.get).1, (two (KC_1.out w' h).2.2.2.2.2.2.2.2.2.1.get).2, (two (KC_1.out w' h).2.1.get).1, (two (KC_1.out w' h).2.1.get).2, h⟩))
      go_upto_region 16 with fail
      go_cut [63] (fun v wx => v = .bool false ∧ K_1 wx)
      case first =>
        go_region_held3 (fun w' => w'.cell? ⟨w5.heap.size, 0, none⟩ = some x1a ∧ w'.cell? ⟨w5.heap.size, 1, none⟩ = some x1b ∧ w'.cell? ⟨(w.heap.size + 1), 0, none⟩ = some u1a ∧ w'.cell? ⟨(w.heap.size + 1), 1, none⟩ = some u1b ∧ K_1 w') (first | exact Cell_1.out _ (by assumption) | exact Cell_1.out _ (KS_1.out.drew (by assumption)))
          (first
            | (go_at_call 29; (with_reducible refine (calls_k KS_1.out (toGm_k ((KC_1.out _ (by first | assumption | exact KS_1.out.drew (by assumption))).2.2.2.1.get) F1.out) (by first | assumption | exact KS_1.out.drew (by assumption))).mono ?_); rintro e w' ⟨⟨y0, y1, rfl, hr3⟩, hk3, hin3⟩)
            | (go_at_call 30; refine (calls_k KS_1.out (eqGm_k ((KC_1.out _ (by first | assumption | exact KS_1.out.drew (by assumption))).2.2.2.2.2.2.2.2.1.get.reads_c) (ResGm.reads_c (by assumption)) F1.out) (by assumption)).mono ?_; rintro e w' ⟨rfl, hk4, hin4⟩))
        all_goals
          go_wp2_with fail
          go_meet
          exact ⟨rfl, by assumption⟩
      case rest =>
      clear hin HK_1 Cell_1
      obtain ⟨w9, rfl⟩ : ∃ q : World, q = wc := ⟨_, rfl⟩
      obtain ⟨rfl, hk7⟩ := hcut
      obtain ⟨q_B0, q_B1, q_A0, q_A1, q_Z_f, q_ZB, q_X0_f, q_XB0, q_X1_f, q_XB1, q_G_f, q_GB, hB, hsz⟩ := KC_1.out _ hk7
      have B0 := Lib.hid q_B0
      have B1 := Lib.hid q_B1
      have A0 := Lib.hid q_A0
      have A1 := Lib.hid q_A1
      have Z_f := Lib.hid q_Z_f
      have ZB := Lib.hid q_ZB
      have X0_f := Lib.hid q_X0_f
      have XB0 := Lib.hid q_XB0
      have X1_f := Lib.hid q_X1_f
      have XB1 := Lib.hid q_XB1
      have G_f := Lib.hid q_G_f
      have GB := Lib.hid q_GB
      have HB := Lib.hid hB
      replace HSZ := Lib.hid (And.intro HSZ.out hsz)
      clear hB hsz hk7 KC_1 KS_1 q_B0 q_B1 q_A0 q_A1 q_Z_f q_ZB q_X0_f q_XB0 q_X1_f q_XB1 q_G_f q_GB
      obtain ⟨m8_0, m8_1⟩ := two XB0.out.get
      go_wp2_with fail
      clear m8_0 m8_1
      refine (markGm_k X0_f.out.get F0.out (1) (by skip; omega) (by skip; omega)).mono ?_
      rintro e w10 ⟨rfl, hs, ht⟩
      clear hs
      clear X0_f XB0
      replace B0 := Lib.hid (B0.out.turned ht (by have h := HSZ.out; omega))
      replace B1 := Lib.hid (B1.out.turned ht (by have h := HSZ.out; omega))
      replace A0 := Lib.hid (A0.out.turned ht (by have h := HSZ.out; omega))
      replace A1 := Lib.hid (A1.out.turned ht (by have h := HSZ.out; omega))
      replace Z_f := Lib.hid (Z_f.out.turned ht (by have h := HSZ.out; omega))
      replace ZB := Lib.hid (ZB.out.turned ht (by have h := HSZ.out; omega))
      replace X1_f := Lib.hid (X1_f.out.turned ht (by have h := HSZ.out; omega))
      replace XB1 := Lib.hid (XB1.out.turned ht (by have h := HSZ.out; omega))
      replace G_f := Lib.hid (G_f.out.turned ht (by have h := HSZ.out; omega))
      replace GB := Lib.hid (GB.out.turned ht (by have h := HSZ.out; omega))
      replace HB := Lib.hid (HB.out.trans ((ht.low (by have h := HSZ.out; omega)).mono (by have h := HSZ.out; omega)))
      replace HSZ := Lib.hid (And.intro HSZ.out ht.size)
      clear ht
      obtain ⟨m9_0, m9_1⟩ := two XB1.out.get
      go_wp2_with fail
      clear m9_0 m9_1
      refine (markGm_k X1_f.out.get F1.out (1 + (p0.v.length : Int)) (by have hbn0 := (F0.out).1; omega) (by have hbn0 := (F0.out).1; omega)).mono ?_
      rintro e w11 ⟨rfl, hs, ht⟩
      clear hs
      clear X1_f XB1
      replace B0 := Lib.hid (B0.out.turned ht (by have h := HSZ.out; omega))
      replace B1 := Lib.hid (B1.out.turned ht (by have h := HSZ.out; omega))
      replace A0 := Lib.hid (A0.out.turned ht (by have h := HSZ.out; omega))
      replace A1 := Lib.hid (A1.out.turned ht (by have h := HSZ.out; omega))
      replace Z_f := Lib.hid (Z_f.out.turned ht (by have h := HSZ.out; omega))
      replace ZB := Lib.hid (ZB.out.turned ht (by have h := HSZ.out; omega))
      replace G_f := Lib.hid (G_f.out.turned ht (by have h := HSZ.out; omega))
      replace GB := Lib.hid (GB.out.turned ht (by have h := HSZ.out; omega))
      replace HB := Lib.hid (HB.out.trans ((ht.low (by have h := HSZ.out; omega)).mono (by have h := HSZ.out; omega)))
      replace HSZ := Lib.hid (And.intro HSZ.out ht.size)
      clear ht
      have hkk : decide (1 + (p0.v.length : Int) + (p1.v.length : Int) < 0) = false := by rw [decide_eq_false_iff_not]; have hbn0 := (F0.out).1; have hbn1 := (F1.out).1; omega
      obtain ⟨m10_0, m10_1⟩ := two GB.out.get
      obtain ⟨m11_0, m11_1⟩ := two ZB.out.get
      go_wp2_with fail
      clear m10_0 m10_1 m11_0 m11_1
      refine (eqGm_k G_f.out.get.reads_c Z_f.out.get.reads_c FX.out).mono ?_
      rintro e w12 ⟨rfl, k⟩
      replace B0 := Lib.hid (B0.out.below k)
      replace B1 := Lib.hid (B1.out.below k)
      replace A0 := Lib.hid (A0.out.below k)
      replace A1 := Lib.hid (A1.out.below k)
      replace Z_f := Lib.hid (Z_f.out.below k)
      replace ZB := Lib.hid (ZB.out.below k)
      replace G_f := Lib.hid (G_f.out.below k)
      replace GB := Lib.hid (GB.out.below k)
      replace HB := Lib.hid (HB.out.trans (k.mono HB.out.size))
      replace HSZ := Lib.hid (And.intro HSZ.out k.size)
      clear k
      obtain ⟨m12_0, m12_1⟩ := two GB.out.get
      go_wp2_with fail
      clear m12_0 m12_1
      refine (markGm_k G_f.out.get FX.out (1) (by skip; omega) (by skip; omega)).mono ?_
      rintro e w13 ⟨rfl, hs, ht⟩
      clear G_f
      replace B0 := Lib.hid (B0.out.turned ht (by have h := HSZ.out; omega))
      replace B1 := Lib.hid (B1.out.turned ht (by have h := HSZ.out; omega))
      replace A0 := Lib.hid (A0.out.turned ht (by have h := HSZ.out; omega))
      replace A1 := Lib.hid (A1.out.turned ht (by have h := HSZ.out; omega))
      replace Z_f := Lib.hid (Z_f.out.turned ht (by have h := HSZ.out; omega))
      replace ZB := Lib.hid (ZB.out.turned ht (by have h := HSZ.out; omega))
      replace GB := Lib.hid (GB.out.turned ht (by have h := HSZ.out; omega))
      replace HB := Lib.hid (HB.out.trans ((ht.low (by have h := HSZ.out; omega)).mono (by have h := HSZ.out; omega)))
      replace HSZ := Lib.hid (And.intro HSZ.out ht.size)
      clear ht
      have G_f := Lib.hid hs.rg
      clear hs
      have hvx : decide (1 + (X0.v.length : Int) < 0) = false := by rw [decide_eq_false_iff_not]; have hbn := (FX.out).1; omega
      obtain ⟨m13_0, m13_1⟩ := two GB.out.get
      go_wp2_with fail
      clear m13_0 m13_1
      refine (heldGm_k (1) G_f.out.get.reads_c FX.out.1 (by skip; omega) (by skip; omega)).mono ?_
      rintro e w14 ⟨rfl, k⟩
      replace B0 := Lib.hid (B0.out.below k)
      replace B1 := Lib.hid (B1.out.below k)
      replace A0 := Lib.hid (A0.out.below k)
      replace A1 := Lib.hid (A1.out.below k)
      replace Z_f := Lib.hid (Z_f.out.below k)
      replace ZB := Lib.hid (ZB.out.below k)
      replace GB := Lib.hid (GB.out.below k)
      replace G_f := Lib.hid (G_f.out.below k)
      replace HB := Lib.hid (HB.out.trans (k.mono HB.out.size))
      replace HSZ := Lib.hid (And.intro HSZ.out k.size)
      clear k
      obtain ⟨K_ch, hKe⟩ : ∃ K : World → Prop, K = fun w' => (Rg (fun w' => CellsAt w' w.heap.size #[u0a, u0b] 42) w.heap.size (w.heap.size + 1) w') ∧ (Rg (fun w' => CellsAt w' (w.heap.size + 1) #[u1a, u1b] 42) (w.heap.size + 1) (w.heap.size + 2) w') ∧ (Rg (fun w' => GmC w' u0a u0b p0) 0 w.heap.size w') ∧ (Rg (fun w' => GmC w' u1a u1b p1) 0 w.heap.size w') ∧ (Rg (fun w' => ResGm loz hiz w' (.agg #[za, zb]) X0) loz hiz w') ∧ (Rg (fun w' => CellsAt w' qz #[za, zb] 26) qz (qz + 1) w') ∧ (Rg (fun w' => CellsAt w' w6.heap.size #[ga, gb] 26) w6.heap.size (w6.heap.size + 1) w') ∧ (Rg (fun w' => ResGm Wg.heap.size w6.heap.size w' (.agg #[ga, gb]) (⟨X0.n, marksI (1 : Int).toNat X0.v.length⟩ : G)) Wg.heap.size w6.heap.size w') ∧ Below w.heap.size w w' ∧ w14.heap.size ≤ w'.heap.size := ⟨_, rfl⟩
      have KS_ch : Hid (Stable K_ch) := by show Stable _; rw [hKe]; exact (stable_rg _ _ _).and ((stable_rg _ _ _).and ((stable_rg _ _ _).and ((stable_rg _ _ _).and ((stable_rg _ _ _).and ((stable_rg _ _ _).and ((stable_rg _ _ _).and ((stable_rg _ _ _).and ((stable_low w).and (fun w1 w2 hb h => Nat.le_trans h hb.size)))))))))
      have KC_ch : Hid (∀ w', K_ch w' → (Rg (fun w' => CellsAt w' w.heap.size #[u0a, u0b] 42) w.heap.size (w.heap.size + 1) w') ∧ (Rg (fun w' => CellsAt w' (w.heap.size + 1) #[u1a, u1b] 42) (w.heap.size + 1) (w.heap.size + 2) w') ∧ (Rg (fun w' => GmC w' u0a u0b p0) 0 w.heap.size w') ∧ (Rg (fun w' => GmC w' u1a u1b p1) 0 w.heap.size w') ∧ (Rg (fun w' => ResGm loz hiz w' (.agg #[za, zb]) X0) loz hiz w') ∧ (Rg (fun w' => CellsAt w' qz #[za, zb] 26) qz (qz + 1) w') ∧ (Rg (fun w' => CellsAt w' w6.heap.size #[ga, gb] 26) w6.heap.size (w6.heap.size + 1) w') ∧ (Rg (fun w' => ResGm Wg.heap.size w6.heap.size w' (.agg #[ga, gb]) (⟨X0.n, marksI (1 : Int).toNat X0.v.length⟩ : G)) Wg.heap.size w6.heap.size w') ∧ Below w.heap.size w w' ∧ w14.heap.size ≤ w'.heap.size) := by show ∀ w', K_ch w' → _; intro w' h; rw [hKe] at h; exact h
      have HK_ch : Hid (K_ch w14) := by show K_ch w14; rw [hKe]; exact ⟨B0.out, B1.out, A0.out, A1.out, Z_f.out, ZB.out, GB.out, G_f.out, HB.out, Nat.le_refl _⟩
      clear hKe HB B0 B1 A0 A1 Z_f ZB GB G_f
      have hin := KS_ch.out.drew HK_ch.out
      have Cell_ch := Lib.hid (fun w' (h : K_ch w') => (show w'.cell? ⟨w.heap.size, 0, none⟩ = some u0a ∧ w'.cell? ⟨w.heap.size, 1, none⟩ = some u0b ∧ w'.cell? ⟨(w.heap.size + 1), 0, none⟩ = some u1a ∧ w'.cell? ⟨(w.heap.size + 1), 1, none⟩ = some u1b ∧ K_ch w' from ⟨(two (KC_ch.out w' h).1.get).1, (two (KC_ch.out w' h).1.get).2, (two (KC_ch.out w' h).2.1.get).1, (two (KC_ch.out w' h).2.1.get).2, h⟩))
      go_upto_region 31 with fail
      obtain ⟨R_ch, hRe⟩ : ∃ R : Value → Value → World → Prop, R = fun v v0 wx => ∃ (q lo hi : Nat) (ha hb : Value), v = .pointer (some ⟨q, 0, none⟩) ∧ v0 = .bool g1 ∧ w14.heap.size ≤ lo ∧ w14.heap.size ≤ q ∧ lo ≤ hi ∧ (q < lo ∨ hi ≤ q) ∧ hi ≤ wx.heap.size ∧ q < wx.heap.size ∧ Rg (fun w' => ResGm lo hi w' (.agg #[ha, hb]) X0) lo hi wx ∧ Rg (fun w' => CellsAt w' q #[ha, hb] 26) q (q + 1) wx ∧ K_ch wx := ⟨_, rfl⟩
      have HR_ch := Lib.hid hRe
      clear hRe
      go_cut [15, 16] (fun v v0 wx => R_ch v v0 wx)
      case first =>
        refine wp_region_held_drew (S := fun w' => w'.cell? ⟨w.heap.size, 0, none⟩ = some u0a ∧ w'.cell? ⟨w.heap.size, 1, none⟩ = some u0b ∧ w'.cell? ⟨(w.heap.size + 1), 0, none⟩ = some u1a ∧ w'.cell? ⟨(w.heap.size + 1), 1, none⟩ = some u1b ∧ K_ch w') (by kernel_rfl) ?_ (fun hHeld => ?_)
        · exact Cell_ch.out _ hin
        refine wpAnyH_take (i := 0) (oi := { dst := some 95, op := Op.load 42 (Operand.tmp 2), type := 42, pos := "exact.go:2153", after := #[], guard := none }) (v := ?_) rfl (by kernel_rfl) (by kernel_rfl) (by kernel_rfl) (fun _ _ _ h => h) (Or.inl ⟨by rfl, ?_⟩) (by assumption) ?_
        rotate_left 1
        · intro w hSw; (try dsimp only at hSw); go_simp; try (with_reducible rfl)
        try simp only [Act.put, List.setIfInBounds_toArray, List.set_cons_zero, List.set_cons_succ]
        refine wpAnyH_take (i := 2) (oi := { dst := some 97, op := Op.load 42 (Operand.tmp 3), type := 42, pos := "exact.go:2153", after := #[], guard := none }) (v := ?_) rfl (by kernel_rfl) (by kernel_rfl) (by kernel_rfl) (fun _ _ _ h => h) (Or.inl ⟨by rfl, ?_⟩) (by assumption) ?_
        rotate_left 1
        · intro w hSw; (try dsimp only at hSw); go_simp; try (with_reducible rfl)
        try simp only [Act.put, List.setIfInBounds_toArray, List.set_cons_zero, List.set_cons_succ]
        have hh := hin
        refine wpAnyH_ready (rs := [1, 8]) (by kernel_rfl) (by simp) ?_
        refine AllReadyH.cons (o := { dst := some 96, op := Op.call { callee := Callee.value (Operand.func 29), args := #[Operand.tmp 95], argTypes := #[42] }, type := 26, pos := "exact.go:2153", after := #[{ on := 0, ground := Ground.data }], guard := none }) (rs := [8]) rfl (fun K hK => ?_) (AllReadyH.cons (o := { dst := some 15, op := Op.alloc 26, type := 0, pos := "exact.go:2153", after := #[], guard := none }) (rs := []) rfl (fun K hK => ?_) AllReadyH.nil)
        · go_simp
          (go_at_call 29; refine (calls_k KS_ch.out (toGm_c ((KC_ch.out _ hh).2.2.1.get) F0.out) hh).mono ?_; rintro e wc0 ⟨⟨s0a, s0b, rfl, hr0⟩, hb0, hk0⟩; have hh := hk0)
          refine hK.out _ _ ?_ (fun hHeld => ?_)
          · exact Cell_ch.out _ hh
          clear hK K
          try simp only [Act.put, List.setIfInBounds_toArray, List.set_cons_zero, List.set_cons_succ]
          refine wpAnyH_ready (rs := [3, 8]) (by kernel_rfl) (by simp) ?_
          refine AllReadyH.cons (o := { dst := some 98, op := Op.call { callee := Callee.value (Operand.func 29), args := #[Operand.tmp 97], argTypes := #[42] }, type := 26, pos := "exact.go:2153", after := #[{ on := 2, ground := Ground.data }, { on := 1, ground := Ground.chain }], guard := none }) (rs := [8]) rfl (fun K hK => ?_) (AllReadyH.cons (o := { dst := some 15, op := Op.alloc 26, type := 0, pos := "exact.go:2153", after := #[], guard := none }) (rs := []) rfl (fun K hK => ?_) AllReadyH.nil)
          · go_simp
            (go_at_call 29; refine (calls_k KS_ch.out (toGm_c ((KC_ch.out _ hh).2.2.2.1.get) F1.out) hh).mono ?_; rintro e wc1 ⟨⟨s1a, s1b, rfl, hr1⟩, hb1, hk1⟩; have hh := hk1)
            refine hK.out _ _ ?_ (fun hHeld => ?_)
            · exact Cell_ch.out _ hh
            clear hK K
            try simp only [Act.put, List.setIfInBounds_toArray, List.set_cons_zero, List.set_cons_succ]
            refine wpAnyH_ready (rs := [4, 8]) (by kernel_rfl) (by simp) ?_
            refine AllReadyH.cons (o := { dst := some 99, op := Op.call { callee := Callee.value (Operand.func 13), args := #[Operand.tmp 96, Operand.tmp 98], argTypes := #[26, 26] }, type := 29, pos := "exact.go:2153", after := #[{ on := 1, ground := Ground.data }, { on := 3, ground := Ground.data }, { on := 3, ground := Ground.chain }], guard := none }) (rs := [8]) rfl (fun K hK => ?_) (AllReadyH.cons (o := { dst := some 15, op := Op.alloc 26, type := 0, pos := "exact.go:2153", after := #[], guard := none }) (rs := []) rfl (fun K hK => ?_) AllReadyH.nil)
            · go_simp
              (go_at_call 13; refine (calls_k KS_ch.out (HI.out F0.out F1.out _ _ _ _ _ (hr0.up hb1) hr1) hh).mono ?_; rintro e wc2 ⟨⟨ha, hb, rfl, hz5⟩, hb2, hk2⟩; have hh := hk2; obtain ⟨o0, o1⟩ := (ResGm.reads_c hz5).one; have t0 := sto o0; have t1 := sto o1; clear o0 o1)
              refine hK.out _ _ ?_ (fun hHeld => ?_)
              · exact Cell_ch.out _ hh
              clear hK K
              try simp only [Act.put, List.setIfInBounds_toArray, List.set_cons_zero, List.set_cons_succ]
              refine wpAnyH_take (i := 5) (oi := { dst := some 94, op := Op.move (Operand.tmp 99), type := 29, pos := "exact.go:2153", after := #[{ on := 4, ground := Ground.data }], guard := none }) (v := ?_) rfl (by kernel_rfl) (by kernel_rfl) (by kernel_rfl) (fun _ _ _ h => h) (Or.inl ⟨by rfl, ?_⟩) (by assumption) ?_
              rotate_left 1
              · intro w hSw; (try dsimp only at hSw); go_simp; try (with_reducible rfl)
              try simp only [Act.put, List.setIfInBounds_toArray, List.set_cons_zero, List.set_cons_succ]
              refine wpAnyH_take (i := 6) (oi := { dst := some 100, op := Op.extract (Operand.tmp 94) 0, type := 26, pos := "exact.go:2153", after := #[{ on := 5, ground := Ground.data }], guard := none }) (v := ?_) rfl (by kernel_rfl) (by kernel_rfl) (by kernel_rfl) (fun _ _ _ h => h) (Or.inl ⟨by rfl, ?_⟩) (by assumption) ?_
              rotate_left 1
              · intro w hSw; (try dsimp only at hSw); go_simp; try (with_reducible rfl)
              try simp only [Act.put, List.setIfInBounds_toArray, List.set_cons_zero, List.set_cons_succ]
              refine wpAnyH_take (i := 7) (oi := { dst := some 101, op := Op.extract (Operand.tmp 94) 1, type := 4, pos := "exact.go:2153", after := #[{ on := 5, ground := Ground.data }, { on := 9, ground := Ground.gcOnly Departure.lateStores }], guard := none }) (v := ?_) rfl (by kernel_rfl) (by kernel_rfl) (by kernel_rfl) (fun _ _ _ h => h) (Or.inl ⟨by rfl, ?_⟩) (by assumption) ?_
              rotate_left 1
              · intro w hSw; (try dsimp only at hSw); go_simp; try (with_reducible rfl)
              try simp only [Act.put, List.setIfInBounds_toArray, List.set_cons_zero, List.set_cons_succ]
              refine wpAnyH_ready (rs := [8]) (by kernel_rfl) (by simp) ?_
              refine AllReadyH.cons (o := { dst := some 15, op := Op.alloc 26, type := 0, pos := "exact.go:2153", after := #[], guard := none }) (rs := []) rfl (fun K hK => ?_) AllReadyH.nil
              go_simp
              skip
              refine hK.out _ _ ?_ (fun hHeld => ?_)
              · exact Cell_ch.out _ (KS_ch.out.alloc hh _)
              clear hK K
              try simp only [Act.put, List.setIfInBounds_toArray, List.set_cons_zero, List.set_cons_succ]
              refine wpAnyH_ready (rs := [9]) (by kernel_rfl) (by simp) ?_
              refine AllReadyH.cons (o := { dst := none, op := Op.store 26 (Operand.tmp 15) (Operand.tmp 100), type := 0, pos := "exact.go:2153", after := #[{ on := 8, ground := Ground.data }, { on := 6, ground := Ground.data }, { on := 4, ground := Ground.chain }, { on := 0, ground := Ground.phase }, { on := 1, ground := Ground.phase }, { on := 2, ground := Ground.phase }, { on := 3, ground := Ground.phase }, { on := 4, ground := Ground.phase }, { on := 5, ground := Ground.phase }, { on := 6, ground := Ground.phase }, { on := 7, ground := Ground.textOnly Departure.lateStores }, { on := 8, ground := Ground.phase }], guard := none }) (rs := []) rfl (fun K hK => ?_) AllReadyH.nil
              go_simp
              skip
              refine hK.out _ _ ?_ (fun hHeld => ?_)
              · exact Cell_ch.out _ (KS_ch.out.alloc hh _)
              clear hK K
              try simp only [Act.put, List.setIfInBounds_toArray, List.set_cons_zero, List.set_cons_succ]
              refine wpAnyH_take (i := 10) (oi := { dst := some 16, op := Op.assign (Operand.tmp 101), type := 4, pos := "exact.go:2153", after := #[{ on := 7, ground := Ground.data }, { on := 9, ground := Ground.chain }, { on := 0, ground := Ground.phase }, { on := 1, ground := Ground.phase }, { on := 2, ground := Ground.phase }, { on := 3, ground := Ground.phase }, { on := 4, ground := Ground.phase }, { on := 5, ground := Ground.phase }, { on := 6, ground := Ground.phase }, { on := 7, ground := Ground.phase }, { on := 8, ground := Ground.phase }, { on := 9, ground := Ground.phase }], guard := none }) (v := ?_) rfl (by kernel_rfl) (by kernel_rfl) (by kernel_rfl) (fun _ _ _ h => h) (Or.inl ⟨by rfl, ?_⟩) (by assumption) ?_
              rotate_left 1
              · intro w hSw; (try dsimp only at hSw); go_simp; try (with_reducible rfl)
              try simp only [Act.put, List.setIfInBounds_toArray, List.set_cons_zero, List.set_cons_succ]
              refine wpAnyH_done (by kernel_rfl) ?_ _
              go_wp2_with fail
              go_meet
              rw [HR_ch.out]
              refine ⟨_, _, _, _, _, rfl, rfl, ?_, ?_, ?_, .inr (Nat.le_refl _), ?_, ?_, hz5.rg.more _, rg_new _ _ _, KS_ch.out.alloc hh _⟩
              · have h1 := (KC_ch.out _ hk1).2.2.2.2.2.2.2.2.2; omega
              · have h1 := (KC_ch.out _ hk2).2.2.2.2.2.2.2.2.2; omega
              · exact hb2.size
              · rw [size1]; omega
              · rw [size1]; omega
            · go_simp
              skip
              refine hK.out _ _ ?_ (fun hHeld => ?_)
              · exact Cell_ch.out _ (KS_ch.out.alloc hh _)
              clear hK K
              try simp only [Act.put, List.setIfInBounds_toArray, List.set_cons_zero, List.set_cons_succ]
              have hh := KS_ch.out.alloc hh (.cells #[.int .i64 0, .slice none 0 0] 26)
              have hqn : CellsAt (wc1.alloc (.cells #[.int .i64 0, .slice none 0 0] 26)) wc1.heap.size #[.int .i64 0, .slice none 0 0] 26 := CellsAt.new wc1 #[.int .i64 0, .slice none 0 0] 26
              have hr0 := GmC.up hr0 hb1
              have hr0 := hr0.up ((Below.refl _ _).alloc (Nat.le_refl _) (.cells #[.int .i64 0, .slice none 0 0] 26))
              have hr1 := hr1.up ((Below.refl _ _).alloc (Nat.le_refl _) (.cells #[.int .i64 0, .slice none 0 0] 26))
              refine wpAnyH_ready (rs := [4]) (by kernel_rfl) (by simp) ?_
              refine AllReadyH.cons (o := { dst := some 99, op := Op.call { callee := Callee.value (Operand.func 13), args := #[Operand.tmp 96, Operand.tmp 98], argTypes := #[26, 26] }, type := 29, pos := "exact.go:2153", after := #[{ on := 1, ground := Ground.data }, { on := 3, ground := Ground.data }, { on := 3, ground := Ground.chain }], guard := none }) (rs := []) rfl (fun K hK => ?_) AllReadyH.nil
              go_simp
              (go_at_call 13; refine (calls_k KS_ch.out (HI.out F0.out F1.out _ _ _ _ _ hr0 hr1) hh).mono ?_; rintro e wc2 ⟨⟨ha, hb, rfl, hz5⟩, hb2, hk2⟩; have hh := hk2; obtain ⟨o0, o1⟩ := (ResGm.reads_c hz5).one; have t0 := sto o0; have t1 := sto o1; clear o0 o1)
              refine hK.out _ _ ?_ (fun hHeld => ?_)
              · exact Cell_ch.out _ hh
              clear hK K
              try simp only [Act.put, List.setIfInBounds_toArray, List.set_cons_zero, List.set_cons_succ]
              refine wpAnyH_take (i := 5) (oi := { dst := some 94, op := Op.move (Operand.tmp 99), type := 29, pos := "exact.go:2153", after := #[{ on := 4, ground := Ground.data }], guard := none }) (v := ?_) rfl (by kernel_rfl) (by kernel_rfl) (by kernel_rfl) (fun _ _ _ h => h) (Or.inl ⟨by rfl, ?_⟩) (by assumption) ?_
              rotate_left 1
              · intro w hSw; (try dsimp only at hSw); go_simp; try (with_reducible rfl)
              try simp only [Act.put, List.setIfInBounds_toArray, List.set_cons_zero, List.set_cons_succ]
              refine wpAnyH_take (i := 6) (oi := { dst := some 100, op := Op.extract (Operand.tmp 94) 0, type := 26, pos := "exact.go:2153", after := #[{ on := 5, ground := Ground.data }], guard := none }) (v := ?_) rfl (by kernel_rfl) (by kernel_rfl) (by kernel_rfl) (fun _ _ _ h => h) (Or.inl ⟨by rfl, ?_⟩) (by assumption) ?_
              rotate_left 1
              · intro w hSw; (try dsimp only at hSw); go_simp; try (with_reducible rfl)
              try simp only [Act.put, List.setIfInBounds_toArray, List.set_cons_zero, List.set_cons_succ]
              refine wpAnyH_take (i := 7) (oi := { dst := some 101, op := Op.extract (Operand.tmp 94) 1, type := 4, pos := "exact.go:2153", after := #[{ on := 5, ground := Ground.data }, { on := 9, ground := Ground.gcOnly Departure.lateStores }], guard := none }) (v := ?_) rfl (by kernel_rfl) (by kernel_rfl) (by kernel_rfl) (fun _ _ _ h => h) (Or.inl ⟨by rfl, ?_⟩) (by assumption) ?_
              rotate_left 1
              · intro w hSw; (try dsimp only at hSw); go_simp; try (with_reducible rfl)
              try simp only [Act.put, List.setIfInBounds_toArray, List.set_cons_zero, List.set_cons_succ]
              have hq0 := hqn
              have hq1 := hq0.below hb2
              obtain ⟨d0, d1, f0, f1⟩ := two' hq1
              have hbf : Below wc1.heap.size wc1 wc2 := (((Below.refl _ _).alloc (Nat.le_refl _) (.cells #[.int .i64 0, .slice none 0 0] 26)).trans (hb2.mono (by have e0 := size1 wc1 (.cells #[.int .i64 0, .slice none 0 0] 26); omega)))
              have hbs := ((hbf.setCell (p := ⟨wc1.heap.size, 0, none⟩) (Nat.le_refl _) ha).setCell (p := ⟨wc1.heap.size, 1, none⟩) (Nat.le_refl _) hb)
              have hkf := KS_ch.out _ _ hbs hk1
              refine wpAnyH_ready (rs := [9]) (by kernel_rfl) (by simp) ?_
              refine AllReadyH.cons (o := { dst := none, op := Op.store 26 (Operand.tmp 15) (Operand.tmp 100), type := 0, pos := "exact.go:2153", after := #[{ on := 8, ground := Ground.data }, { on := 6, ground := Ground.data }, { on := 4, ground := Ground.chain }, { on := 0, ground := Ground.phase }, { on := 1, ground := Ground.phase }, { on := 2, ground := Ground.phase }, { on := 3, ground := Ground.phase }, { on := 4, ground := Ground.phase }, { on := 5, ground := Ground.phase }, { on := 6, ground := Ground.phase }, { on := 7, ground := Ground.textOnly Departure.lateStores }, { on := 8, ground := Ground.phase }], guard := none }) (rs := []) rfl (fun K hK => ?_) AllReadyH.nil
              go_simp
              skip
              refine hK.out _ _ ?_ (fun hHeld => ?_)
              · exact Cell_ch.out _ hkf
              clear hK K
              try simp only [Act.put, List.setIfInBounds_toArray, List.set_cons_zero, List.set_cons_succ]
              refine wpAnyH_take (i := 10) (oi := { dst := some 16, op := Op.assign (Operand.tmp 101), type := 4, pos := "exact.go:2153", after := #[{ on := 7, ground := Ground.data }, { on := 9, ground := Ground.chain }, { on := 0, ground := Ground.phase }, { on := 1, ground := Ground.phase }, { on := 2, ground := Ground.phase }, { on := 3, ground := Ground.phase }, { on := 4, ground := Ground.phase }, { on := 5, ground := Ground.phase }, { on := 6, ground := Ground.phase }, { on := 7, ground := Ground.phase }, { on := 8, ground := Ground.phase }, { on := 9, ground := Ground.phase }], guard := none }) (v := ?_) rfl (by kernel_rfl) (by kernel_rfl) (by kernel_rfl) (fun _ _ _ h => h) (Or.inl ⟨by rfl, ?_⟩) (by assumption) ?_
              rotate_left 1
              · intro w hSw; (try dsimp only at hSw); go_simp; try (with_reducible rfl)
              try simp only [Act.put, List.setIfInBounds_toArray, List.set_cons_zero, List.set_cons_succ]
              refine wpAnyH_done (by kernel_rfl) ?_ _
              go_wp2_with fail
              go_meet
              rw [HR_ch.out]
              refine ⟨_, _, _, _, _, rfl, rfl, ?_, ?_, ?_, .inl ?_, ?_, ?_, hz5.rg.turned (((Turned.refl wc1.heap.size (wc1.heap.size + 1) wc2).setCell (p := ⟨wc1.heap.size, 0, none⟩) (Nat.le_refl _) (Nat.lt_succ_self _) ha).setCell (p := ⟨wc1.heap.size, 1, none⟩) (Nat.le_refl _) (Nat.lt_succ_self _) hb) (.inr ?_), rg_cells ((hq1.s0 _).s1 _), hkf⟩
              all_goals (have e0 := size1 wc1 (.cells #[.int .i64 0, .slice none 0 0] 26); have e3 := hb2.size; have h1 := (KC_ch.out _ hk1).2.2.2.2.2.2.2.2.2; first | omega | (simp only [World.setCell, Array.size_modify]; omega))
          · go_simp
            skip
            refine hK.out _ _ ?_ (fun hHeld => ?_)
            · exact Cell_ch.out _ (KS_ch.out.alloc hh _)
            clear hK K
            try simp only [Act.put, List.setIfInBounds_toArray, List.set_cons_zero, List.set_cons_succ]
            have hh := KS_ch.out.alloc hh (.cells #[.int .i64 0, .slice none 0 0] 26)
            have hqn : CellsAt (wc0.alloc (.cells #[.int .i64 0, .slice none 0 0] 26)) wc0.heap.size #[.int .i64 0, .slice none 0 0] 26 := CellsAt.new wc0 #[.int .i64 0, .slice none 0 0] 26
            have hr0 := hr0.up ((Below.refl _ _).alloc (Nat.le_refl _) (.cells #[.int .i64 0, .slice none 0 0] 26))
            refine wpAnyH_ready (rs := [3]) (by kernel_rfl) (by simp) ?_
            refine AllReadyH.cons (o := { dst := some 98, op := Op.call { callee := Callee.value (Operand.func 29), args := #[Operand.tmp 97], argTypes := #[42] }, type := 26, pos := "exact.go:2153", after := #[{ on := 2, ground := Ground.data }, { on := 1, ground := Ground.chain }], guard := none }) (rs := []) rfl (fun K hK => ?_) AllReadyH.nil
            go_simp
            (go_at_call 29; refine (calls_k KS_ch.out (toGm_c ((KC_ch.out _ hh).2.2.2.1.get) F1.out) hh).mono ?_; rintro e wc1 ⟨⟨s1a, s1b, rfl, hr1⟩, hb1, hk1⟩; have hh := hk1)
            refine hK.out _ _ ?_ (fun hHeld => ?_)
            · exact Cell_ch.out _ hh
            clear hK K
            try simp only [Act.put, List.setIfInBounds_toArray, List.set_cons_zero, List.set_cons_succ]
            refine wpAnyH_ready (rs := [4]) (by kernel_rfl) (by simp) ?_
            refine AllReadyH.cons (o := { dst := some 99, op := Op.call { callee := Callee.value (Operand.func 13), args := #[Operand.tmp 96, Operand.tmp 98], argTypes := #[26, 26] }, type := 29, pos := "exact.go:2153", after := #[{ on := 1, ground := Ground.data }, { on := 3, ground := Ground.data }, { on := 3, ground := Ground.chain }], guard := none }) (rs := []) rfl (fun K hK => ?_) AllReadyH.nil
            go_simp
            (go_at_call 13; refine (calls_k KS_ch.out (HI.out F0.out F1.out _ _ _ _ _ (hr0.up hb1) hr1) hh).mono ?_; rintro e wc2 ⟨⟨ha, hb, rfl, hz5⟩, hb2, hk2⟩; have hh := hk2; obtain ⟨o0, o1⟩ := (ResGm.reads_c hz5).one; have t0 := sto o0; have t1 := sto o1; clear o0 o1)
            refine hK.out _ _ ?_ (fun hHeld => ?_)
            · exact Cell_ch.out _ hh
            clear hK K
            try simp only [Act.put, List.setIfInBounds_toArray, List.set_cons_zero, List.set_cons_succ]
            refine wpAnyH_take (i := 5) (oi := { dst := some 94, op := Op.move (Operand.tmp 99), type := 29, pos := "exact.go:2153", after := #[{ on := 4, ground := Ground.data }], guard := none }) (v := ?_) rfl (by kernel_rfl) (by kernel_rfl) (by kernel_rfl) (fun _ _ _ h => h) (Or.inl ⟨by rfl, ?_⟩) (by assumption) ?_
            rotate_left 1
            · intro w hSw; (try dsimp only at hSw); go_simp; try (with_reducible rfl)
            try simp only [Act.put, List.setIfInBounds_toArray, List.set_cons_zero, List.set_cons_succ]
            refine wpAnyH_take (i := 6) (oi := { dst := some 100, op := Op.extract (Operand.tmp 94) 0, type := 26, pos := "exact.go:2153", after := #[{ on := 5, ground := Ground.data }], guard := none }) (v := ?_) rfl (by kernel_rfl) (by kernel_rfl) (by kernel_rfl) (fun _ _ _ h => h) (Or.inl ⟨by rfl, ?_⟩) (by assumption) ?_
            rotate_left 1
            · intro w hSw; (try dsimp only at hSw); go_simp; try (with_reducible rfl)
            try simp only [Act.put, List.setIfInBounds_toArray, List.set_cons_zero, List.set_cons_succ]
            refine wpAnyH_take (i := 7) (oi := { dst := some 101, op := Op.extract (Operand.tmp 94) 1, type := 4, pos := "exact.go:2153", after := #[{ on := 5, ground := Ground.data }, { on := 9, ground := Ground.gcOnly Departure.lateStores }], guard := none }) (v := ?_) rfl (by kernel_rfl) (by kernel_rfl) (by kernel_rfl) (fun _ _ _ h => h) (Or.inl ⟨by rfl, ?_⟩) (by assumption) ?_
            rotate_left 1
            · intro w hSw; (try dsimp only at hSw); go_simp; try (with_reducible rfl)
            try simp only [Act.put, List.setIfInBounds_toArray, List.set_cons_zero, List.set_cons_succ]
            have hq0 := hqn
            have hq1 := hq0.below hb1
            have hq2 := hq1.below hb2
            obtain ⟨d0, d1, f0, f1⟩ := two' hq2
            have hbf : Below wc0.heap.size wc0 wc2 := ((((Below.refl _ _).alloc (Nat.le_refl _) (.cells #[.int .i64 0, .slice none 0 0] 26)).trans (hb1.mono (by have e0 := size1 wc0 (.cells #[.int .i64 0, .slice none 0 0] 26); omega))).trans (hb2.mono (by have e0 := size1 wc0 (.cells #[.int .i64 0, .slice none 0 0] 26); have e2 := hb1.size; omega)))
            have hbs := ((hbf.setCell (p := ⟨wc0.heap.size, 0, none⟩) (Nat.le_refl _) ha).setCell (p := ⟨wc0.heap.size, 1, none⟩) (Nat.le_refl _) hb)
            have hkf := KS_ch.out _ _ hbs hk0
            refine wpAnyH_ready (rs := [9]) (by kernel_rfl) (by simp) ?_
            refine AllReadyH.cons (o := { dst := none, op := Op.store 26 (Operand.tmp 15) (Operand.tmp 100), type := 0, pos := "exact.go:2153", after := #[{ on := 8, ground := Ground.data }, { on := 6, ground := Ground.data }, { on := 4, ground := Ground.chain }, { on := 0, ground := Ground.phase }, { on := 1, ground := Ground.phase }, { on := 2, ground := Ground.phase }, { on := 3, ground := Ground.phase }, { on := 4, ground := Ground.phase }, { on := 5, ground := Ground.phase }, { on := 6, ground := Ground.phase }, { on := 7, ground := Ground.textOnly Departure.lateStores }, { on := 8, ground := Ground.phase }], guard := none }) (rs := []) rfl (fun K hK => ?_) AllReadyH.nil
            go_simp
            skip
            refine hK.out _ _ ?_ (fun hHeld => ?_)
            · exact Cell_ch.out _ hkf
            clear hK K
            try simp only [Act.put, List.setIfInBounds_toArray, List.set_cons_zero, List.set_cons_succ]
            refine wpAnyH_take (i := 10) (oi := { dst := some 16, op := Op.assign (Operand.tmp 101), type := 4, pos := "exact.go:2153", after := #[{ on := 7, ground := Ground.data }, { on := 9, ground := Ground.chain }, { on := 0, ground := Ground.phase }, { on := 1, ground := Ground.phase }, { on := 2, ground := Ground.phase }, { on := 3, ground := Ground.phase }, { on := 4, ground := Ground.phase }, { on := 5, ground := Ground.phase }, { on := 6, ground := Ground.phase }, { on := 7, ground := Ground.phase }, { on := 8, ground := Ground.phase }, { on := 9, ground := Ground.phase }], guard := none }) (v := ?_) rfl (by kernel_rfl) (by kernel_rfl) (by kernel_rfl) (fun _ _ _ h => h) (Or.inl ⟨by rfl, ?_⟩) (by assumption) ?_
            rotate_left 1
            · intro w hSw; (try dsimp only at hSw); go_simp; try (with_reducible rfl)
            try simp only [Act.put, List.setIfInBounds_toArray, List.set_cons_zero, List.set_cons_succ]
            refine wpAnyH_done (by kernel_rfl) ?_ _
            go_wp2_with fail
            go_meet
            rw [HR_ch.out]
            refine ⟨_, _, _, _, _, rfl, rfl, ?_, ?_, ?_, .inl ?_, ?_, ?_, hz5.rg.turned (((Turned.refl wc0.heap.size (wc0.heap.size + 1) wc2).setCell (p := ⟨wc0.heap.size, 0, none⟩) (Nat.le_refl _) (Nat.lt_succ_self _) ha).setCell (p := ⟨wc0.heap.size, 1, none⟩) (Nat.le_refl _) (Nat.lt_succ_self _) hb) (.inr ?_), rg_cells ((hq2.s0 _).s1 _), hkf⟩
            all_goals (have e0 := size1 wc0 (.cells #[.int .i64 0, .slice none 0 0] 26); have e2 := hb1.size; have e3 := hb2.size; have h1 := (KC_ch.out _ hk0).2.2.2.2.2.2.2.2.2; first | omega | (simp only [World.setCell, Array.size_modify]; omega))
        · go_simp
          skip
          refine hK.out _ _ ?_ (fun hHeld => ?_)
          · exact Cell_ch.out _ (KS_ch.out.alloc hh _)
          clear hK K
          try simp only [Act.put, List.setIfInBounds_toArray, List.set_cons_zero, List.set_cons_succ]
          have hh := KS_ch.out.alloc hh (.cells #[.int .i64 0, .slice none 0 0] 26)
          have hqn : CellsAt (w14.drew.alloc (.cells #[.int .i64 0, .slice none 0 0] 26)) w14.heap.size #[.int .i64 0, .slice none 0 0] 26 := CellsAt.new w14.drew #[.int .i64 0, .slice none 0 0] 26
          refine wpAnyH_ready (rs := [1]) (by kernel_rfl) (by simp) ?_
          refine AllReadyH.cons (o := { dst := some 96, op := Op.call { callee := Callee.value (Operand.func 29), args := #[Operand.tmp 95], argTypes := #[42] }, type := 26, pos := "exact.go:2153", after := #[{ on := 0, ground := Ground.data }], guard := none }) (rs := []) rfl (fun K hK => ?_) AllReadyH.nil
          go_simp
          (go_at_call 29; refine (calls_k KS_ch.out (toGm_c ((KC_ch.out _ hh).2.2.1.get) F0.out) hh).mono ?_; rintro e wc0 ⟨⟨s0a, s0b, rfl, hr0⟩, hb0, hk0⟩; have hh := hk0)
          refine hK.out _ _ ?_ (fun hHeld => ?_)
          · exact Cell_ch.out _ hh
          clear hK K
          try simp only [Act.put, List.setIfInBounds_toArray, List.set_cons_zero, List.set_cons_succ]
          refine wpAnyH_ready (rs := [3]) (by kernel_rfl) (by simp) ?_
          refine AllReadyH.cons (o := { dst := some 98, op := Op.call { callee := Callee.value (Operand.func 29), args := #[Operand.tmp 97], argTypes := #[42] }, type := 26, pos := "exact.go:2153", after := #[{ on := 2, ground := Ground.data }, { on := 1, ground := Ground.chain }], guard := none }) (rs := []) rfl (fun K hK => ?_) AllReadyH.nil
          go_simp
          (go_at_call 29; refine (calls_k KS_ch.out (toGm_c ((KC_ch.out _ hh).2.2.2.1.get) F1.out) hh).mono ?_; rintro e wc1 ⟨⟨s1a, s1b, rfl, hr1⟩, hb1, hk1⟩; have hh := hk1)
          refine hK.out _ _ ?_ (fun hHeld => ?_)
          · exact Cell_ch.out _ hh
          clear hK K
          try simp only [Act.put, List.setIfInBounds_toArray, List.set_cons_zero, List.set_cons_succ]
          refine wpAnyH_ready (rs := [4]) (by kernel_rfl) (by simp) ?_
          refine AllReadyH.cons (o := { dst := some 99, op := Op.call { callee := Callee.value (Operand.func 13), args := #[Operand.tmp 96, Operand.tmp 98], argTypes := #[26, 26] }, type := 29, pos := "exact.go:2153", after := #[{ on := 1, ground := Ground.data }, { on := 3, ground := Ground.data }, { on := 3, ground := Ground.chain }], guard := none }) (rs := []) rfl (fun K hK => ?_) AllReadyH.nil
          go_simp
          (go_at_call 13; refine (calls_k KS_ch.out (HI.out F0.out F1.out _ _ _ _ _ (hr0.up hb1) hr1) hh).mono ?_; rintro e wc2 ⟨⟨ha, hb, rfl, hz5⟩, hb2, hk2⟩; have hh := hk2; obtain ⟨o0, o1⟩ := (ResGm.reads_c hz5).one; have t0 := sto o0; have t1 := sto o1; clear o0 o1)
          refine hK.out _ _ ?_ (fun hHeld => ?_)
          · exact Cell_ch.out _ hh
          clear hK K
          try simp only [Act.put, List.setIfInBounds_toArray, List.set_cons_zero, List.set_cons_succ]
          refine wpAnyH_take (i := 5) (oi := { dst := some 94, op := Op.move (Operand.tmp 99), type := 29, pos := "exact.go:2153", after := #[{ on := 4, ground := Ground.data }], guard := none }) (v := ?_) rfl (by kernel_rfl) (by kernel_rfl) (by kernel_rfl) (fun _ _ _ h => h) (Or.inl ⟨by rfl, ?_⟩) (by assumption) ?_
          rotate_left 1
          · intro w hSw; (try dsimp only at hSw); go_simp; try (with_reducible rfl)
          try simp only [Act.put, List.setIfInBounds_toArray, List.set_cons_zero, List.set_cons_succ]
          refine wpAnyH_take (i := 6) (oi := { dst := some 100, op := Op.extract (Operand.tmp 94) 0, type := 26, pos := "exact.go:2153", after := #[{ on := 5, ground := Ground.data }], guard := none }) (v := ?_) rfl (by kernel_rfl) (by kernel_rfl) (by kernel_rfl) (fun _ _ _ h => h) (Or.inl ⟨by rfl, ?_⟩) (by assumption) ?_
          rotate_left 1
          · intro w hSw; (try dsimp only at hSw); go_simp; try (with_reducible rfl)
          try simp only [Act.put, List.setIfInBounds_toArray, List.set_cons_zero, List.set_cons_succ]
          refine wpAnyH_take (i := 7) (oi := { dst := some 101, op := Op.extract (Operand.tmp 94) 1, type := 4, pos := "exact.go:2153", after := #[{ on := 5, ground := Ground.data }, { on := 9, ground := Ground.gcOnly Departure.lateStores }], guard := none }) (v := ?_) rfl (by kernel_rfl) (by kernel_rfl) (by kernel_rfl) (fun _ _ _ h => h) (Or.inl ⟨by rfl, ?_⟩) (by assumption) ?_
          rotate_left 1
          · intro w hSw; (try dsimp only at hSw); go_simp; try (with_reducible rfl)
          try simp only [Act.put, List.setIfInBounds_toArray, List.set_cons_zero, List.set_cons_succ]
          have hq0 := hqn
          have hq1 := hq0.below hb0
          have hq2 := hq1.below hb1
          have hq3 := hq2.below hb2
          obtain ⟨d0, d1, f0, f1⟩ := two' hq3
          have hbf : Below w14.drew.heap.size w14.drew wc2 := (((((Below.refl _ _).alloc (Nat.le_refl _) (.cells #[.int .i64 0, .slice none 0 0] 26)).trans (hb0.mono (by have e0 := size1 w14.drew (.cells #[.int .i64 0, .slice none 0 0] 26); omega))).trans (hb1.mono (by have e0 := size1 w14.drew (.cells #[.int .i64 0, .slice none 0 0] 26); have e1 := hb0.size; omega))).trans (hb2.mono (by have e0 := size1 w14.drew (.cells #[.int .i64 0, .slice none 0 0] 26); have e1 := hb0.size; have e2 := hb1.size; omega)))
          have hbs := ((hbf.setCell (p := ⟨w14.heap.size, 0, none⟩) (Nat.le_refl _) ha).setCell (p := ⟨w14.heap.size, 1, none⟩) (Nat.le_refl _) hb)
          have hkf := KS_ch.out _ _ hbs hin
          refine wpAnyH_ready (rs := [9]) (by kernel_rfl) (by simp) ?_
          refine AllReadyH.cons (o := { dst := none, op := Op.store 26 (Operand.tmp 15) (Operand.tmp 100), type := 0, pos := "exact.go:2153", after := #[{ on := 8, ground := Ground.data }, { on := 6, ground := Ground.data }, { on := 4, ground := Ground.chain }, { on := 0, ground := Ground.phase }, { on := 1, ground := Ground.phase }, { on := 2, ground := Ground.phase }, { on := 3, ground := Ground.phase }, { on := 4, ground := Ground.phase }, { on := 5, ground := Ground.phase }, { on := 6, ground := Ground.phase }, { on := 7, ground := Ground.textOnly Departure.lateStores }, { on := 8, ground := Ground.phase }], guard := none }) (rs := []) rfl (fun K hK => ?_) AllReadyH.nil
          go_simp
          skip
          refine hK.out _ _ ?_ (fun hHeld => ?_)
          · exact Cell_ch.out _ hkf
          clear hK K
          try simp only [Act.put, List.setIfInBounds_toArray, List.set_cons_zero, List.set_cons_succ]
          refine wpAnyH_take (i := 10) (oi := { dst := some 16, op := Op.assign (Operand.tmp 101), type := 4, pos := "exact.go:2153", after := #[{ on := 7, ground := Ground.data }, { on := 9, ground := Ground.chain }, { on := 0, ground := Ground.phase }, { on := 1, ground := Ground.phase }, { on := 2, ground := Ground.phase }, { on := 3, ground := Ground.phase }, { on := 4, ground := Ground.phase }, { on := 5, ground := Ground.phase }, { on := 6, ground := Ground.phase }, { on := 7, ground := Ground.phase }, { on := 8, ground := Ground.phase }, { on := 9, ground := Ground.phase }], guard := none }) (v := ?_) rfl (by kernel_rfl) (by kernel_rfl) (by kernel_rfl) (fun _ _ _ h => h) (Or.inl ⟨by rfl, ?_⟩) (by assumption) ?_
          rotate_left 1
          · intro w hSw; (try dsimp only at hSw); go_simp; try (with_reducible rfl)
          try simp only [Act.put, List.setIfInBounds_toArray, List.set_cons_zero, List.set_cons_succ]
          refine wpAnyH_done (by kernel_rfl) ?_ _
          go_wp2_with fail
          go_meet
          rw [HR_ch.out]
          refine ⟨_, _, _, _, _, rfl, rfl, ?_, ?_, ?_, .inl ?_, ?_, ?_, hz5.rg.turned (((Turned.refl w14.heap.size (w14.heap.size + 1) wc2).setCell (p := ⟨w14.heap.size, 0, none⟩) (Nat.le_refl _) (Nat.lt_succ_self _) ha).setCell (p := ⟨w14.heap.size, 1, none⟩) (Nat.le_refl _) (Nat.lt_succ_self _) hb) (.inr ?_), rg_cells ((hq3.s0 _).s1 _), hkf⟩
          all_goals (have e0 := size1 w14.drew (.cells #[.int .i64 0, .slice none 0 0] 26); have e1 := hb0.size; have e2 := hb1.size; have e3 := hb2.size; have h1 := (KC_ch.out _ hin).2.2.2.2.2.2.2.2.2; have h9 : w14.drew.heap.size = w14.heap.size := rfl; first | omega | (simp only [World.setCell, Array.size_modify]; omega))
      case rest =>
      clear hin HK_ch Cell_ch
      obtain ⟨w15, rfl⟩ : ∃ q : World, q = wc := ⟨_, rfl⟩
      rw [HR_ch.out] at hcut
      clear HR_ch
      obtain ⟨qh, loh, hih, ha, hb, rfl, rfl, hl1, hl1b, hl2, hl3, hl3b, hl4, hl5, hl6, hk7⟩ := hcut
      obtain ⟨q_B0, q_B1, q_A0, q_A1, q_Z_f, q_ZB, q_GB, q_G_f, hB, hsz⟩ := KC_ch.out _ hk7
      have B0 := Lib.hid q_B0
      have B1 := Lib.hid q_B1
      have A0 := Lib.hid q_A0
      have A1 := Lib.hid q_A1
      have Z_f := Lib.hid q_Z_f
      have ZB := Lib.hid q_ZB
      have GB := Lib.hid q_GB
      have G_f := Lib.hid q_G_f
      have HB := Lib.hid hB
      replace HSZ := Lib.hid (And.intro HSZ.out hsz)
      clear hB hsz hk7 KC_ch KS_ch q_B0 q_B1 q_A0 q_A1 q_Z_f q_ZB q_GB q_G_f
      replace HSZ := Lib.hid (And.intro HSZ.out (And.intro hl1 (And.intro hl1b (And.intro hl2 (And.intro hl3 (And.intro hl3b hl4))))))
      have H_f := Lib.hid hl5
      have HBX := Lib.hid hl6
      clear hl1 hl1b hl2 hl3 hl3b hl4 hl5 hl6
      obtain ⟨m14_0, m14_1⟩ := two HBX.out.get
      obtain ⟨m15_0, m15_1⟩ := two ZB.out.get
      go_wp2_with fail
      clear m14_0 m14_1 m15_0 m15_1
      refine (eqGm_k H_f.out.get.reads_c Z_f.out.get.reads_c FX.out).mono ?_
      rintro e w16 ⟨rfl, k⟩
      replace B0 := Lib.hid (B0.out.below k)
      replace B1 := Lib.hid (B1.out.below k)
      replace A0 := Lib.hid (A0.out.below k)
      replace A1 := Lib.hid (A1.out.below k)
      replace Z_f := Lib.hid (Z_f.out.below k)
      replace ZB := Lib.hid (ZB.out.below k)
      replace GB := Lib.hid (GB.out.below k)
      replace G_f := Lib.hid (G_f.out.below k)
      replace H_f := Lib.hid (H_f.out.below k)
      replace HBX := Lib.hid (HBX.out.below k)
      replace HB := Lib.hid (HB.out.trans (k.mono HB.out.size))
      replace HSZ := Lib.hid (And.intro HSZ.out k.size)
      clear k
      obtain ⟨m16_0, m16_1⟩ := two GB.out.get
      go_wp2_with fail
      clear m16_0 m16_1
      refine (heldGm_k (1) G_f.out.get.reads_c FX.out.1 (by skip; omega) (by skip; omega)).mono ?_
      rintro e w17 ⟨rfl, k⟩
      replace B0 := Lib.hid (B0.out.below k)
      replace B1 := Lib.hid (B1.out.below k)
      replace A0 := Lib.hid (A0.out.below k)
      replace A1 := Lib.hid (A1.out.below k)
      replace Z_f := Lib.hid (Z_f.out.below k)
      replace ZB := Lib.hid (ZB.out.below k)
      replace GB := Lib.hid (GB.out.below k)
      replace G_f := Lib.hid (G_f.out.below k)
      replace H_f := Lib.hid (H_f.out.below k)
      replace HBX := Lib.hid (HBX.out.below k)
      replace HB := Lib.hid (HB.out.trans (k.mono HB.out.size))
      replace HSZ := Lib.hid (And.intro HSZ.out k.size)
      clear k
      go_wp2_with fail
      go_ret
      exact ⟨rfl, HB.out⟩
end Go.Proofs.Ytccgebnbpfliiaa
