/- impl.CheckLP; the walk of FnExactCheckLP. -/
import Derived.Test.YtfbhnjdbamahkaaLpI9
import Derived.Test.YtfbhnjdbamahkaaLpK3
namespace Go.Proofs.Ytfbhnjdbamahkaa
open Go.RowKit
open Ve (R)
open Lp (P Res)
set_option maxRecDepth 100000 in
set_option maxHeartbeats 8000000 in
theorem impl_CheckLP0 (B : Nat) (a b c ra rb rc : Option Addr) (c1 c2 c3 d1 d2 d3 : Nat) (p : P) (st : Int) (X Y Z : List R) (nu de pv : Int) (hw : (Lit.int .i64 st).wf = true) (hn : LpFits p) (hf : ResFits ⟨st, X, Y, Z, (nu, de), pv⟩) (g : Bool) (hg : Lp.chk p ⟨st, X, Y, Z, (nu, de), pv⟩ = g) (w : World) (hBw : B ≤ w.heap.size) (hz : LpIn B w a b c p) (hr : ResIn B w ra rb rc ⟨st, X, Y, Z, (nu, de), pv⟩) :
    Calls Try.prog 43 #[.agg #[.slice a p.A.length c1, .slice b p.B.length c2, .slice c p.C.length c3], .agg #[.int .i64 st, .slice ra X.length d1, .slice rb Y.length d2, .slice rc Z.length d3, .int .i64 nu, .int .i64 de, .int .i64 pv]] w fun e w' => e = .returned (.bool g) ∧ Below w.heap.size w w' := by
  have HX := Lib.hid (ChkBox.start w a b c ra rb rc c1 c2 c3 d1 d2 d3 p ⟨st, X, Y, Z, (nu, de), pv⟩ 38 71 hBw hz hr)
  obtain ⟨vl, hvl⟩ : ∃ vl, Lp.vldP p = vl := ⟨_, rfl⟩
  have HV := Lib.hid (fun W (hB : w.heap.size ≤ W.heap.size) h => hvl ▸ impl_IsValidLP w.heap.size a b c c1 c2 c3 p hn W hB h)
  obtain ⟨L, hL⟩ : ∃ L : World → Prop, L = ChkBox w a b c ra rb rc c1 c2 c3 d1 d2 d3 p ⟨st, X, Y, Z, (nu, de), pv⟩ 38 71 := ⟨_, rfl⟩
  have hs : Stable L := hL ▸ stable_chk w a b c ra rb rc c1 c2 c3 d1 d2 d3 p ⟨st, X, Y, Z, (nu, de), pv⟩ 38 71
  have hk : ∀ W, L W → ChkBox w a b c ra rb rc c1 c2 c3 d1 d2 d3 p ⟨st, X, Y, Z, (nu, de), pv⟩ 38 71 W := fun W h => hL ▸ h
  have HL0 : Hid (L _) := hL ▸ HX.out
  have LS := Lib.hid hs
  have LK := Lib.hid hk
  have Cell := Lib.hid (fun w' (h : L w') => (show w'.cell? ⟨w.heap.size + 1, 0, none⟩ = some (.int .i64 st) ∧ L w' from ⟨(seven (hk w' h).2.2.2.2).1.1, h⟩))
  have hin := LS.out.drew HL0.out
  clear hz hr hs hk hL HX
  by_cases h1 : st = 1
  · skip
    subst h1
    have Hp := Lib.hid (fun (h : vl = true) W (hB : w.heap.size ≤ W.heap.size) hz hr => impl_provesOptimal w.heap.size a b c ra rb rc c1 c2 c3 d1 d2 d3 p 1 X Y Z nu de pv hn hf (hvl.trans h) g (by rw [← hg]; unfold Lp.chk; rw [hvl, h]; rfl) W hB hz hr)
    have Hg := Lib.hid (fun (h : vl = false) => (show false = g by rw [← hg]; unfold Lp.chk; rw [hvl, h]; rfl))
    clear hg hvl hn hf
    go_enter Try.func43, Try.ntmps43
    go_upto_region 1 with fail
    refine wp_region_held_drew (S := (fun w' => w'.cell? ⟨w.heap.size + 1, 0, none⟩ = some (.int .i64 1) ∧ L w')) (by kernel_rfl) ?_ (fun hHeld => ?_)
    · exact Cell.out _ hin
    refine wpAnyH_take (i := 1) (oi := { dst := some 9, op := Op.fieldAddr 71 (Operand.tmp 3) 0, type := 0, pos := "l05_lp.go:106", after := #[], guard := none }) (v := ?_) rfl (by kernel_rfl) (by kernel_rfl) (by kernel_rfl) (fun _ _ _ h => h) (Or.inl ⟨by rfl, ?_⟩) (by assumption) ?_
    rotate_left 1
    · intro w hSw; (try dsimp only at hSw); go_simp; try (with_reducible rfl)
    try simp only [Act.put, List.setIfInBounds_toArray, List.set_cons_zero, List.set_cons_succ]
    refine wpAnyH_take (i := 2) (oi := { dst := some 10, op := Op.load 3 (Operand.tmp 9), type := 3, pos := "l05_lp.go:106", after := #[{ on := 1, ground := Ground.data }], guard := none }) (v := ?_) rfl (by kernel_rfl) (by kernel_rfl) (by kernel_rfl) (fun _ _ _ h => h) (Or.inl ⟨by rfl, ?_⟩) (by assumption) ?_
    rotate_left 1
    · intro w hSw; (try dsimp only at hSw); go_simp; try (with_reducible rfl)
    try simp only [Act.put, List.setIfInBounds_toArray, List.set_cons_zero, List.set_cons_succ]
    refine wpAnyH_ready (rs := [0]) (by kernel_rfl) (by simp) ?_
    refine AllReadyH.cons (o := { dst := some 8, op := Op.call { callee := Callee.value (Operand.func 97), args := #[], argTypes := #[] }, type := 117, pos := "l05_lp.go:106", after := #[], guard := none }) (rs := []) rfl (fun K hK => ?_) AllReadyH.nil
    go_simp
    (go_at_call 97; refine (calls_k LS.out (impl_certificateChecks _) (by assumption)).mono ?_; rintro e w' ⟨⟨b', rfl, hm⟩, hk5, hin5⟩; have hlook := certs_yes hm (by decide) at_one)
    refine hK.out _ _ ?_ (fun hHeld => ?_)
    · exact Cell.out _ (by assumption)
    clear hK K
    try simp only [Act.put, List.setIfInBounds_toArray, List.set_cons_zero, List.set_cons_succ]
    refine wpAnyH_ready (rs := [3]) (by kernel_rfl) (by simp) ?_
    refine AllReadyH.cons (o := { dst := some 11, op := Op.lookup 117 (Operand.tmp 8) (Operand.tmp 10) true, type := 116, pos := "l05_lp.go:106", after := #[{ on := 0, ground := Ground.data }, { on := 2, ground := Ground.data }], guard := none }) (rs := []) rfl (fun K hK => ?_) AllReadyH.nil
    go_simp
    skip
    refine hK.out _ _ ?_ (fun hHeld => ?_)
    · exact Cell.out _ (by assumption)
    clear hK K
    try simp only [Act.put, List.setIfInBounds_toArray, List.set_cons_zero, List.set_cons_succ]
    refine wpAnyH_take (i := 4) (oi := { dst := some 7, op := Op.move (Operand.tmp 11), type := 116, pos := "l05_lp.go:106", after := #[{ on := 3, ground := Ground.data }], guard := none }) (v := ?_) rfl (by kernel_rfl) (by kernel_rfl) (by kernel_rfl) (fun _ _ _ h => h) (Or.inl ⟨by rfl, ?_⟩) (by assumption) ?_
    rotate_left 1
    · intro w hSw; (try dsimp only at hSw); go_simp; try (with_reducible rfl)
    try simp only [Act.put, List.setIfInBounds_toArray, List.set_cons_zero, List.set_cons_succ]
    refine wpAnyH_take (i := 5) (oi := { dst := some 12, op := Op.extract (Operand.tmp 7) 0, type := 115, pos := "l05_lp.go:106", after := #[{ on := 4, ground := Ground.data }], guard := none }) (v := ?_) rfl (by kernel_rfl) (by kernel_rfl) (by kernel_rfl) (fun _ _ _ h => h) (Or.inl ⟨by rfl, ?_⟩) (by assumption) ?_
    rotate_left 1
    · intro w hSw; (try dsimp only at hSw); go_simp; try (with_reducible rfl)
    try simp only [Act.put, List.setIfInBounds_toArray, List.set_cons_zero, List.set_cons_succ]
    refine wpAnyH_take (i := 6) (oi := { dst := some 13, op := Op.extract (Operand.tmp 7) 1, type := 4, pos := "l05_lp.go:106", after := #[{ on := 4, ground := Ground.data }, { on := 7, ground := Ground.gcOnly Departure.lateStores }], guard := none }) (v := ?_) rfl (by kernel_rfl) (by kernel_rfl) (by kernel_rfl) (fun _ _ _ h => h) (Or.inl ⟨by rfl, ?_⟩) (by assumption) ?_
    rotate_left 1
    · intro w hSw; (try dsimp only at hSw); go_simp; try (with_reducible rfl)
    try simp only [Act.put, List.setIfInBounds_toArray, List.set_cons_zero, List.set_cons_succ]
    refine wpAnyH_take (i := 7) (oi := { dst := some 5, op := Op.assign (Operand.tmp 12), type := 115, pos := "l05_lp.go:106", after := #[{ on := 5, ground := Ground.data }, { on := 0, ground := Ground.chain }, { on := 0, ground := Ground.phase }, { on := 1, ground := Ground.phase }, { on := 2, ground := Ground.phase }, { on := 3, ground := Ground.phase }, { on := 4, ground := Ground.phase }, { on := 5, ground := Ground.phase }, { on := 6, ground := Ground.textOnly Departure.lateStores }], guard := none }) (v := ?_) rfl (by kernel_rfl) (by kernel_rfl) (by kernel_rfl) (fun _ _ _ h => h) (Or.inl ⟨by rfl, ?_⟩) (by assumption) ?_
    rotate_left 1
    · intro w hSw; (try dsimp only at hSw); go_simp; try (with_reducible rfl)
    try simp only [Act.put, List.setIfInBounds_toArray, List.set_cons_zero, List.set_cons_succ]
    refine wpAnyH_take (i := 8) (oi := { dst := some 6, op := Op.assign (Operand.tmp 13), type := 4, pos := "l05_lp.go:106", after := #[{ on := 6, ground := Ground.data }, { on := 7, ground := Ground.chain }, { on := 0, ground := Ground.phase }, { on := 1, ground := Ground.phase }, { on := 2, ground := Ground.phase }, { on := 3, ground := Ground.phase }, { on := 4, ground := Ground.phase }, { on := 5, ground := Ground.phase }, { on := 6, ground := Ground.phase }, { on := 7, ground := Ground.phase }], guard := none }) (v := ?_) rfl (by kernel_rfl) (by kernel_rfl) (by kernel_rfl) (fun _ _ _ h => h) (Or.inl ⟨by rfl, ?_⟩) (by assumption) ?_
    rotate_left 1
    · intro w hSw; (try dsimp only at hSw); go_simp; try (with_reducible rfl)
    try simp only [Act.put, List.setIfInBounds_toArray, List.set_cons_zero, List.set_cons_succ]
    refine wpAnyH_done (by kernel_rfl) ?_ _
    clear hlook hm hHeld
    have HX1 := Lib.hid (LK.out _ (by assumption))
    obtain ⟨x0, x1, x2, _⟩ := HX1.out.2.2.2.1.cells
    obtain ⟨⟨r0, r1, r2, r3, r4, r5, r6⟩, _⟩ := seven HX1.out.2.2.2.2
    go_wp2_with fail
    refine (HV.out _ HX1.out.1.size HX1.out.2.1).mono ?_
    rintro e w3 ⟨rfl, k3⟩
    have HX3 := Lib.hid (HX1.out.up k3)
    clear k3 x0 x1 x2 r0 r1 r2 r3 r4 r5 r6
    cases vl with
    | false =>
      have Hr := Lib.hid (Hg.out rfl)
      go_wp2_with fail
      go_ret
      exact ⟨ret_bool Hr.out, HX3.out.1⟩
    | true =>
      obtain ⟨x0, x1, x2, _⟩ := HX3.out.2.2.2.1.cells
      obtain ⟨⟨r0, r1, r2, r3, r4, r5, r6⟩, _⟩ := seven HX3.out.2.2.2.2
      go_wp2_with fail
      refine (Hp.out (by trivial) _ HX3.out.1.size HX3.out.2.1 HX3.out.2.2.1).mono ?_
      rintro e w4 ⟨rfl, k4⟩
      have HX4 := Lib.hid (HX3.out.up k4)
      clear k4
      go_wp2_with fail
      go_ret
      exact ⟨rfl, HX4.out.1⟩

  · by_cases h2 : st = 2
    · skip
      subst h2
      have Hp := Lib.hid (fun (h : vl = true) W (hB : w.heap.size ≤ W.heap.size) hz hr => impl_provesInfeasible w.heap.size a b c ra rb rc c1 c2 c3 d1 d2 d3 p 2 X Y Z nu de pv hn hf (hvl.trans h) g (by rw [← hg]; unfold Lp.chk; rw [hvl, h]; rfl) W hB hz hr)
      have Hg := Lib.hid (fun (h : vl = false) => (show false = g by rw [← hg]; unfold Lp.chk; rw [hvl, h]; rfl))
      clear hg hvl hn hf
      go_enter Try.func43, Try.ntmps43
      go_upto_region 1 with fail
      refine wp_region_held_drew (S := (fun w' => w'.cell? ⟨w.heap.size + 1, 0, none⟩ = some (.int .i64 2) ∧ L w')) (by kernel_rfl) ?_ (fun hHeld => ?_)
      · exact Cell.out _ hin
      refine wpAnyH_take (i := 1) (oi := { dst := some 9, op := Op.fieldAddr 71 (Operand.tmp 3) 0, type := 0, pos := "l05_lp.go:106", after := #[], guard := none }) (v := ?_) rfl (by kernel_rfl) (by kernel_rfl) (by kernel_rfl) (fun _ _ _ h => h) (Or.inl ⟨by rfl, ?_⟩) (by assumption) ?_
      rotate_left 1
      · intro w hSw; (try dsimp only at hSw); go_simp; try (with_reducible rfl)
      try simp only [Act.put, List.setIfInBounds_toArray, List.set_cons_zero, List.set_cons_succ]
      refine wpAnyH_take (i := 2) (oi := { dst := some 10, op := Op.load 3 (Operand.tmp 9), type := 3, pos := "l05_lp.go:106", after := #[{ on := 1, ground := Ground.data }], guard := none }) (v := ?_) rfl (by kernel_rfl) (by kernel_rfl) (by kernel_rfl) (fun _ _ _ h => h) (Or.inl ⟨by rfl, ?_⟩) (by assumption) ?_
      rotate_left 1
      · intro w hSw; (try dsimp only at hSw); go_simp; try (with_reducible rfl)
      try simp only [Act.put, List.setIfInBounds_toArray, List.set_cons_zero, List.set_cons_succ]
      refine wpAnyH_ready (rs := [0]) (by kernel_rfl) (by simp) ?_
      refine AllReadyH.cons (o := { dst := some 8, op := Op.call { callee := Callee.value (Operand.func 97), args := #[], argTypes := #[] }, type := 117, pos := "l05_lp.go:106", after := #[], guard := none }) (rs := []) rfl (fun K hK => ?_) AllReadyH.nil
      go_simp
      (go_at_call 97; refine (calls_k LS.out (impl_certificateChecks _) (by assumption)).mono ?_; rintro e w' ⟨⟨b', rfl, hm⟩, hk5, hin5⟩; have hlook := certs_yes hm (by decide) at_two)
      refine hK.out _ _ ?_ (fun hHeld => ?_)
      · exact Cell.out _ (by assumption)
      clear hK K
      try simp only [Act.put, List.setIfInBounds_toArray, List.set_cons_zero, List.set_cons_succ]
      refine wpAnyH_ready (rs := [3]) (by kernel_rfl) (by simp) ?_
      refine AllReadyH.cons (o := { dst := some 11, op := Op.lookup 117 (Operand.tmp 8) (Operand.tmp 10) true, type := 116, pos := "l05_lp.go:106", after := #[{ on := 0, ground := Ground.data }, { on := 2, ground := Ground.data }], guard := none }) (rs := []) rfl (fun K hK => ?_) AllReadyH.nil
      go_simp
      skip
      refine hK.out _ _ ?_ (fun hHeld => ?_)
      · exact Cell.out _ (by assumption)
      clear hK K
      try simp only [Act.put, List.setIfInBounds_toArray, List.set_cons_zero, List.set_cons_succ]
      refine wpAnyH_take (i := 4) (oi := { dst := some 7, op := Op.move (Operand.tmp 11), type := 116, pos := "l05_lp.go:106", after := #[{ on := 3, ground := Ground.data }], guard := none }) (v := ?_) rfl (by kernel_rfl) (by kernel_rfl) (by kernel_rfl) (fun _ _ _ h => h) (Or.inl ⟨by rfl, ?_⟩) (by assumption) ?_
      rotate_left 1
      · intro w hSw; (try dsimp only at hSw); go_simp; try (with_reducible rfl)
      try simp only [Act.put, List.setIfInBounds_toArray, List.set_cons_zero, List.set_cons_succ]
      refine wpAnyH_take (i := 5) (oi := { dst := some 12, op := Op.extract (Operand.tmp 7) 0, type := 115, pos := "l05_lp.go:106", after := #[{ on := 4, ground := Ground.data }], guard := none }) (v := ?_) rfl (by kernel_rfl) (by kernel_rfl) (by kernel_rfl) (fun _ _ _ h => h) (Or.inl ⟨by rfl, ?_⟩) (by assumption) ?_
      rotate_left 1
      · intro w hSw; (try dsimp only at hSw); go_simp; try (with_reducible rfl)
      try simp only [Act.put, List.setIfInBounds_toArray, List.set_cons_zero, List.set_cons_succ]
      refine wpAnyH_take (i := 6) (oi := { dst := some 13, op := Op.extract (Operand.tmp 7) 1, type := 4, pos := "l05_lp.go:106", after := #[{ on := 4, ground := Ground.data }, { on := 7, ground := Ground.gcOnly Departure.lateStores }], guard := none }) (v := ?_) rfl (by kernel_rfl) (by kernel_rfl) (by kernel_rfl) (fun _ _ _ h => h) (Or.inl ⟨by rfl, ?_⟩) (by assumption) ?_
      rotate_left 1
      · intro w hSw; (try dsimp only at hSw); go_simp; try (with_reducible rfl)
      try simp only [Act.put, List.setIfInBounds_toArray, List.set_cons_zero, List.set_cons_succ]
      refine wpAnyH_take (i := 7) (oi := { dst := some 5, op := Op.assign (Operand.tmp 12), type := 115, pos := "l05_lp.go:106", after := #[{ on := 5, ground := Ground.data }, { on := 0, ground := Ground.chain }, { on := 0, ground := Ground.phase }, { on := 1, ground := Ground.phase }, { on := 2, ground := Ground.phase }, { on := 3, ground := Ground.phase }, { on := 4, ground := Ground.phase }, { on := 5, ground := Ground.phase }, { on := 6, ground := Ground.textOnly Departure.lateStores }], guard := none }) (v := ?_) rfl (by kernel_rfl) (by kernel_rfl) (by kernel_rfl) (fun _ _ _ h => h) (Or.inl ⟨by rfl, ?_⟩) (by assumption) ?_
      rotate_left 1
      · intro w hSw; (try dsimp only at hSw); go_simp; try (with_reducible rfl)
      try simp only [Act.put, List.setIfInBounds_toArray, List.set_cons_zero, List.set_cons_succ]
      refine wpAnyH_take (i := 8) (oi := { dst := some 6, op := Op.assign (Operand.tmp 13), type := 4, pos := "l05_lp.go:106", after := #[{ on := 6, ground := Ground.data }, { on := 7, ground := Ground.chain }, { on := 0, ground := Ground.phase }, { on := 1, ground := Ground.phase }, { on := 2, ground := Ground.phase }, { on := 3, ground := Ground.phase }, { on := 4, ground := Ground.phase }, { on := 5, ground := Ground.phase }, { on := 6, ground := Ground.phase }, { on := 7, ground := Ground.phase }], guard := none }) (v := ?_) rfl (by kernel_rfl) (by kernel_rfl) (by kernel_rfl) (fun _ _ _ h => h) (Or.inl ⟨by rfl, ?_⟩) (by assumption) ?_
      rotate_left 1
      · intro w hSw; (try dsimp only at hSw); go_simp; try (with_reducible rfl)
      try simp only [Act.put, List.setIfInBounds_toArray, List.set_cons_zero, List.set_cons_succ]
      refine wpAnyH_done (by kernel_rfl) ?_ _
      clear hlook hm hHeld
      have HX1 := Lib.hid (LK.out _ (by assumption))
      obtain ⟨x0, x1, x2, _⟩ := HX1.out.2.2.2.1.cells
      obtain ⟨⟨r0, r1, r2, r3, r4, r5, r6⟩, _⟩ := seven HX1.out.2.2.2.2
      go_wp2_with fail
      refine (HV.out _ HX1.out.1.size HX1.out.2.1).mono ?_
      rintro e w3 ⟨rfl, k3⟩
      have HX3 := Lib.hid (HX1.out.up k3)
      clear k3 x0 x1 x2 r0 r1 r2 r3 r4 r5 r6
      cases vl with
      | false =>
        have Hr := Lib.hid (Hg.out rfl)
        go_wp2_with fail
        go_ret
        exact ⟨ret_bool Hr.out, HX3.out.1⟩
      | true =>
        obtain ⟨x0, x1, x2, _⟩ := HX3.out.2.2.2.1.cells
        obtain ⟨⟨r0, r1, r2, r3, r4, r5, r6⟩, _⟩ := seven HX3.out.2.2.2.2
        go_wp2_with fail
        refine (Hp.out (by trivial) _ HX3.out.1.size HX3.out.2.1 HX3.out.2.2.1).mono ?_
        rintro e w4 ⟨rfl, k4⟩
        have HX4 := Lib.hid (HX3.out.up k4)
        clear k4
        go_wp2_with fail
        go_ret
        exact ⟨rfl, HX4.out.1⟩

    · by_cases h3 : st = 3
      · skip
        subst h3
        have Hp := Lib.hid (fun (h : vl = true) W (hB : w.heap.size ≤ W.heap.size) hz hr => impl_provesUnbounded w.heap.size a b c ra rb rc c1 c2 c3 d1 d2 d3 p 3 X Y Z nu de pv hn hf (hvl.trans h) g (by rw [← hg]; unfold Lp.chk; rw [hvl, h]; rfl) W hB hz hr)
        have Hg := Lib.hid (fun (h : vl = false) => (show false = g by rw [← hg]; unfold Lp.chk; rw [hvl, h]; rfl))
        clear hg hvl hn hf
        go_enter Try.func43, Try.ntmps43
        go_upto_region 1 with fail
        refine wp_region_held_drew (S := (fun w' => w'.cell? ⟨w.heap.size + 1, 0, none⟩ = some (.int .i64 3) ∧ L w')) (by kernel_rfl) ?_ (fun hHeld => ?_)
        · exact Cell.out _ hin
        refine wpAnyH_take (i := 1) (oi := { dst := some 9, op := Op.fieldAddr 71 (Operand.tmp 3) 0, type := 0, pos := "l05_lp.go:106", after := #[], guard := none }) (v := ?_) rfl (by kernel_rfl) (by kernel_rfl) (by kernel_rfl) (fun _ _ _ h => h) (Or.inl ⟨by rfl, ?_⟩) (by assumption) ?_
        rotate_left 1
        · intro w hSw; (try dsimp only at hSw); go_simp; try (with_reducible rfl)
        try simp only [Act.put, List.setIfInBounds_toArray, List.set_cons_zero, List.set_cons_succ]
        refine wpAnyH_take (i := 2) (oi := { dst := some 10, op := Op.load 3 (Operand.tmp 9), type := 3, pos := "l05_lp.go:106", after := #[{ on := 1, ground := Ground.data }], guard := none }) (v := ?_) rfl (by kernel_rfl) (by kernel_rfl) (by kernel_rfl) (fun _ _ _ h => h) (Or.inl ⟨by rfl, ?_⟩) (by assumption) ?_
        rotate_left 1
        · intro w hSw; (try dsimp only at hSw); go_simp; try (with_reducible rfl)
        try simp only [Act.put, List.setIfInBounds_toArray, List.set_cons_zero, List.set_cons_succ]
        refine wpAnyH_ready (rs := [0]) (by kernel_rfl) (by simp) ?_
        refine AllReadyH.cons (o := { dst := some 8, op := Op.call { callee := Callee.value (Operand.func 97), args := #[], argTypes := #[] }, type := 117, pos := "l05_lp.go:106", after := #[], guard := none }) (rs := []) rfl (fun K hK => ?_) AllReadyH.nil
        go_simp
        (go_at_call 97; refine (calls_k LS.out (impl_certificateChecks _) (by assumption)).mono ?_; rintro e w' ⟨⟨b', rfl, hm⟩, hk5, hin5⟩; have hlook := certs_yes hm (by decide) at_three)
        refine hK.out _ _ ?_ (fun hHeld => ?_)
        · exact Cell.out _ (by assumption)
        clear hK K
        try simp only [Act.put, List.setIfInBounds_toArray, List.set_cons_zero, List.set_cons_succ]
        refine wpAnyH_ready (rs := [3]) (by kernel_rfl) (by simp) ?_
        refine AllReadyH.cons (o := { dst := some 11, op := Op.lookup 117 (Operand.tmp 8) (Operand.tmp 10) true, type := 116, pos := "l05_lp.go:106", after := #[{ on := 0, ground := Ground.data }, { on := 2, ground := Ground.data }], guard := none }) (rs := []) rfl (fun K hK => ?_) AllReadyH.nil
        go_simp
        skip
        refine hK.out _ _ ?_ (fun hHeld => ?_)
        · exact Cell.out _ (by assumption)
        clear hK K
        try simp only [Act.put, List.setIfInBounds_toArray, List.set_cons_zero, List.set_cons_succ]
        refine wpAnyH_take (i := 4) (oi := { dst := some 7, op := Op.move (Operand.tmp 11), type := 116, pos := "l05_lp.go:106", after := #[{ on := 3, ground := Ground.data }], guard := none }) (v := ?_) rfl (by kernel_rfl) (by kernel_rfl) (by kernel_rfl) (fun _ _ _ h => h) (Or.inl ⟨by rfl, ?_⟩) (by assumption) ?_
        rotate_left 1
        · intro w hSw; (try dsimp only at hSw); go_simp; try (with_reducible rfl)
        try simp only [Act.put, List.setIfInBounds_toArray, List.set_cons_zero, List.set_cons_succ]
        refine wpAnyH_take (i := 5) (oi := { dst := some 12, op := Op.extract (Operand.tmp 7) 0, type := 115, pos := "l05_lp.go:106", after := #[{ on := 4, ground := Ground.data }], guard := none }) (v := ?_) rfl (by kernel_rfl) (by kernel_rfl) (by kernel_rfl) (fun _ _ _ h => h) (Or.inl ⟨by rfl, ?_⟩) (by assumption) ?_
        rotate_left 1
        · intro w hSw; (try dsimp only at hSw); go_simp; try (with_reducible rfl)
        try simp only [Act.put, List.setIfInBounds_toArray, List.set_cons_zero, List.set_cons_succ]
        refine wpAnyH_take (i := 6) (oi := { dst := some 13, op := Op.extract (Operand.tmp 7) 1, type := 4, pos := "l05_lp.go:106", after := #[{ on := 4, ground := Ground.data }, { on := 7, ground := Ground.gcOnly Departure.lateStores }], guard := none }) (v := ?_) rfl (by kernel_rfl) (by kernel_rfl) (by kernel_rfl) (fun _ _ _ h => h) (Or.inl ⟨by rfl, ?_⟩) (by assumption) ?_
        rotate_left 1
        · intro w hSw; (try dsimp only at hSw); go_simp; try (with_reducible rfl)
        try simp only [Act.put, List.setIfInBounds_toArray, List.set_cons_zero, List.set_cons_succ]
        refine wpAnyH_take (i := 7) (oi := { dst := some 5, op := Op.assign (Operand.tmp 12), type := 115, pos := "l05_lp.go:106", after := #[{ on := 5, ground := Ground.data }, { on := 0, ground := Ground.chain }, { on := 0, ground := Ground.phase }, { on := 1, ground := Ground.phase }, { on := 2, ground := Ground.phase }, { on := 3, ground := Ground.phase }, { on := 4, ground := Ground.phase }, { on := 5, ground := Ground.phase }, { on := 6, ground := Ground.textOnly Departure.lateStores }], guard := none }) (v := ?_) rfl (by kernel_rfl) (by kernel_rfl) (by kernel_rfl) (fun _ _ _ h => h) (Or.inl ⟨by rfl, ?_⟩) (by assumption) ?_
        rotate_left 1
        · intro w hSw; (try dsimp only at hSw); go_simp; try (with_reducible rfl)
        try simp only [Act.put, List.setIfInBounds_toArray, List.set_cons_zero, List.set_cons_succ]
        refine wpAnyH_take (i := 8) (oi := { dst := some 6, op := Op.assign (Operand.tmp 13), type := 4, pos := "l05_lp.go:106", after := #[{ on := 6, ground := Ground.data }, { on := 7, ground := Ground.chain }, { on := 0, ground := Ground.phase }, { on := 1, ground := Ground.phase }, { on := 2, ground := Ground.phase }, { on := 3, ground := Ground.phase }, { on := 4, ground := Ground.phase }, { on := 5, ground := Ground.phase }, { on := 6, ground := Ground.phase }, { on := 7, ground := Ground.phase }], guard := none }) (v := ?_) rfl (by kernel_rfl) (by kernel_rfl) (by kernel_rfl) (fun _ _ _ h => h) (Or.inl ⟨by rfl, ?_⟩) (by assumption) ?_
        rotate_left 1
        · intro w hSw; (try dsimp only at hSw); go_simp; try (with_reducible rfl)
        try simp only [Act.put, List.setIfInBounds_toArray, List.set_cons_zero, List.set_cons_succ]
        refine wpAnyH_done (by kernel_rfl) ?_ _
        clear hlook hm hHeld
        have HX1 := Lib.hid (LK.out _ (by assumption))
        obtain ⟨x0, x1, x2, _⟩ := HX1.out.2.2.2.1.cells
        obtain ⟨⟨r0, r1, r2, r3, r4, r5, r6⟩, _⟩ := seven HX1.out.2.2.2.2
        go_wp2_with fail
        refine (HV.out _ HX1.out.1.size HX1.out.2.1).mono ?_
        rintro e w3 ⟨rfl, k3⟩
        have HX3 := Lib.hid (HX1.out.up k3)
        clear k3 x0 x1 x2 r0 r1 r2 r3 r4 r5 r6
        cases vl with
        | false =>
          have Hr := Lib.hid (Hg.out rfl)
          go_wp2_with fail
          go_ret
          exact ⟨ret_bool Hr.out, HX3.out.1⟩
        | true =>
          obtain ⟨x0, x1, x2, _⟩ := HX3.out.2.2.2.1.cells
          obtain ⟨⟨r0, r1, r2, r3, r4, r5, r6⟩, _⟩ := seven HX3.out.2.2.2.2
          go_wp2_with fail
          refine (Hp.out (by trivial) _ HX3.out.1.size HX3.out.2.1 HX3.out.2.2.1).mono ?_
          rintro e w4 ⟨rfl, k4⟩
          have HX4 := Lib.hid (HX3.out.up k4)
          clear k4
          go_wp2_with fail
          go_ret
          exact ⟨rfl, HX4.out.1⟩

      · have Hr := Lib.hid (show false = g by rw [← hg]; unfold Lp.chk; simp [h1, h2, h3])
        have HA := Lib.hid (fun b' w' (hm : Certs w' b') => certs_no hm hw (at_other h1 h2 h3))
        clear hg hvl hn hf h1 h2 h3
        go_enter Try.func43, Try.ntmps43
        go_upto_region 1 with fail
        refine wp_region_held_drew (S := (fun w' => w'.cell? ⟨w.heap.size + 1, 0, none⟩ = some (.int .i64 st) ∧ L w')) (by kernel_rfl) ?_ (fun hHeld => ?_)
        · exact Cell.out _ hin
        refine wpAnyH_take (i := 1) (oi := { dst := some 9, op := Op.fieldAddr 71 (Operand.tmp 3) 0, type := 0, pos := "l05_lp.go:106", after := #[], guard := none }) (v := ?_) rfl (by kernel_rfl) (by kernel_rfl) (by kernel_rfl) (fun _ _ _ h => h) (Or.inl ⟨by rfl, ?_⟩) (by assumption) ?_
        rotate_left 1
        · intro w hSw; (try dsimp only at hSw); go_simp; try (with_reducible rfl)
        try simp only [Act.put, List.setIfInBounds_toArray, List.set_cons_zero, List.set_cons_succ]
        refine wpAnyH_take (i := 2) (oi := { dst := some 10, op := Op.load 3 (Operand.tmp 9), type := 3, pos := "l05_lp.go:106", after := #[{ on := 1, ground := Ground.data }], guard := none }) (v := ?_) rfl (by kernel_rfl) (by kernel_rfl) (by kernel_rfl) (fun _ _ _ h => h) (Or.inl ⟨by rfl, ?_⟩) (by assumption) ?_
        rotate_left 1
        · intro w hSw; (try dsimp only at hSw); go_simp; try (with_reducible rfl)
        try simp only [Act.put, List.setIfInBounds_toArray, List.set_cons_zero, List.set_cons_succ]
        refine wpAnyH_ready (rs := [0]) (by kernel_rfl) (by simp) ?_
        refine AllReadyH.cons (o := { dst := some 8, op := Op.call { callee := Callee.value (Operand.func 97), args := #[], argTypes := #[] }, type := 117, pos := "l05_lp.go:106", after := #[], guard := none }) (rs := []) rfl (fun K hK => ?_) AllReadyH.nil
        go_simp
        (go_at_call 97; refine (calls_k LS.out (impl_certificateChecks _) (by assumption)).mono ?_; rintro e w' ⟨⟨b', rfl, hm⟩, hk5, hin5⟩; have hlook := HA.out _ _ hm)
        refine hK.out _ _ ?_ (fun hHeld => ?_)
        · exact Cell.out _ (by assumption)
        clear hK K
        try simp only [Act.put, List.setIfInBounds_toArray, List.set_cons_zero, List.set_cons_succ]
        refine wpAnyH_ready (rs := [3]) (by kernel_rfl) (by simp) ?_
        refine AllReadyH.cons (o := { dst := some 11, op := Op.lookup 117 (Operand.tmp 8) (Operand.tmp 10) true, type := 116, pos := "l05_lp.go:106", after := #[{ on := 0, ground := Ground.data }, { on := 2, ground := Ground.data }], guard := none }) (rs := []) rfl (fun K hK => ?_) AllReadyH.nil
        go_simp
        skip
        refine hK.out _ _ ?_ (fun hHeld => ?_)
        · exact Cell.out _ (by assumption)
        clear hK K
        try simp only [Act.put, List.setIfInBounds_toArray, List.set_cons_zero, List.set_cons_succ]
        refine wpAnyH_take (i := 4) (oi := { dst := some 7, op := Op.move (Operand.tmp 11), type := 116, pos := "l05_lp.go:106", after := #[{ on := 3, ground := Ground.data }], guard := none }) (v := ?_) rfl (by kernel_rfl) (by kernel_rfl) (by kernel_rfl) (fun _ _ _ h => h) (Or.inl ⟨by rfl, ?_⟩) (by assumption) ?_
        rotate_left 1
        · intro w hSw; (try dsimp only at hSw); go_simp; try (with_reducible rfl)
        try simp only [Act.put, List.setIfInBounds_toArray, List.set_cons_zero, List.set_cons_succ]
        refine wpAnyH_take (i := 5) (oi := { dst := some 12, op := Op.extract (Operand.tmp 7) 0, type := 115, pos := "l05_lp.go:106", after := #[{ on := 4, ground := Ground.data }], guard := none }) (v := ?_) rfl (by kernel_rfl) (by kernel_rfl) (by kernel_rfl) (fun _ _ _ h => h) (Or.inl ⟨by rfl, ?_⟩) (by assumption) ?_
        rotate_left 1
        · intro w hSw; (try dsimp only at hSw); go_simp; try (with_reducible rfl)
        try simp only [Act.put, List.setIfInBounds_toArray, List.set_cons_zero, List.set_cons_succ]
        refine wpAnyH_take (i := 6) (oi := { dst := some 13, op := Op.extract (Operand.tmp 7) 1, type := 4, pos := "l05_lp.go:106", after := #[{ on := 4, ground := Ground.data }, { on := 7, ground := Ground.gcOnly Departure.lateStores }], guard := none }) (v := ?_) rfl (by kernel_rfl) (by kernel_rfl) (by kernel_rfl) (fun _ _ _ h => h) (Or.inl ⟨by rfl, ?_⟩) (by assumption) ?_
        rotate_left 1
        · intro w hSw; (try dsimp only at hSw); go_simp; try (with_reducible rfl)
        try simp only [Act.put, List.setIfInBounds_toArray, List.set_cons_zero, List.set_cons_succ]
        refine wpAnyH_take (i := 7) (oi := { dst := some 5, op := Op.assign (Operand.tmp 12), type := 115, pos := "l05_lp.go:106", after := #[{ on := 5, ground := Ground.data }, { on := 0, ground := Ground.chain }, { on := 0, ground := Ground.phase }, { on := 1, ground := Ground.phase }, { on := 2, ground := Ground.phase }, { on := 3, ground := Ground.phase }, { on := 4, ground := Ground.phase }, { on := 5, ground := Ground.phase }, { on := 6, ground := Ground.textOnly Departure.lateStores }], guard := none }) (v := ?_) rfl (by kernel_rfl) (by kernel_rfl) (by kernel_rfl) (fun _ _ _ h => h) (Or.inl ⟨by rfl, ?_⟩) (by assumption) ?_
        rotate_left 1
        · intro w hSw; (try dsimp only at hSw); go_simp; try (with_reducible rfl)
        try simp only [Act.put, List.setIfInBounds_toArray, List.set_cons_zero, List.set_cons_succ]
        refine wpAnyH_take (i := 8) (oi := { dst := some 6, op := Op.assign (Operand.tmp 13), type := 4, pos := "l05_lp.go:106", after := #[{ on := 6, ground := Ground.data }, { on := 7, ground := Ground.chain }, { on := 0, ground := Ground.phase }, { on := 1, ground := Ground.phase }, { on := 2, ground := Ground.phase }, { on := 3, ground := Ground.phase }, { on := 4, ground := Ground.phase }, { on := 5, ground := Ground.phase }, { on := 6, ground := Ground.phase }, { on := 7, ground := Ground.phase }], guard := none }) (v := ?_) rfl (by kernel_rfl) (by kernel_rfl) (by kernel_rfl) (fun _ _ _ h => h) (Or.inl ⟨by rfl, ?_⟩) (by assumption) ?_
        rotate_left 1
        · intro w hSw; (try dsimp only at hSw); go_simp; try (with_reducible rfl)
        try simp only [Act.put, List.setIfInBounds_toArray, List.set_cons_zero, List.set_cons_succ]
        refine wpAnyH_done (by kernel_rfl) ?_ _
        clear hlook hm hHeld
        have HX1 := Lib.hid (LK.out _ (by assumption))
        go_wp2_with fail
        go_ret
        exact ⟨ret_bool Hr.out, HX1.out.1⟩
theorem impl_CheckLP (B : Nat) (a b c ra rb rc : Option Addr) (c1 c2 c3 d1 d2 d3 : Nat) (p : P) (r : Res) (hw : (Lit.int .i64 r.status).wf = true) (hn : LpFits p) (hf : ResFits r) (g : Bool) (hg : Lp.chk p r = g) (w : World) (hBw : B ≤ w.heap.size) (hz : LpIn B w a b c p) (hr : ResIn B w ra rb rc r) :
    Calls Try.prog 43 #[.agg #[.slice a p.A.length c1, .slice b p.B.length c2, .slice c p.C.length c3], resV ra rb rc d1 d2 d3 r] w fun e w' => e = .returned (.bool g) ∧ Below w.heap.size w w' := by
  obtain ⟨st, X, Y, Z, ⟨nu, de⟩, pv⟩ := r
  exact impl_CheckLP0 B a b c ra rb rc c1 c2 c3 d1 d2 d3 p st X Y Z nu de pv hw hn hf g hg w hBw hz hr
end Go.Proofs.Ytfbhnjdbamahkaa
