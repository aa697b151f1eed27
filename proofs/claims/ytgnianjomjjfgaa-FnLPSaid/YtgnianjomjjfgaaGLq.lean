/- The parts LpK2, LpK3. -/
import Derived.Test.YtgnianjomjjfgaaGLp
/- spec.CheckLP: unbounded. -/
namespace Go.Proofs.Ytgnianjomjjfgaa
open List (setIfInBounds_toArray set_cons_zero set_cons_succ)
open Go.RowKit
open Ve (R)
open Lp (P Res)
set_option maxRecDepth 100000 in
set_option maxHeartbeats 8000000 in
theorem spec_CheckLP_unb (B : Nat) (a b c ra rb rc : Option Addr) (c1 c2 c3 d1 d2 d3 : Nat) (p : P) (X Y Z : List R) (nu de pv : Int) (hn : LpFits p) (hf : ResFits ⟨3, X, Y, Z, (nu, de), pv⟩) (hvl : Lp.vldP p = true) (g : Bool) (hg : Lp.unb p ⟨3, X, Y, Z, (nu, de), pv⟩ = g) (w : World) (hBw : B ≤ w.heap.size) (hz : LpIn B w a b c p) (hr : ResIn B w ra rb rc ⟨3, X, Y, Z, (nu, de), pv⟩) :
  Calls Try.prog 8 #[.agg #[.slice a p.A.length c1, .slice b p.B.length c2, .slice c p.C.length c3], .agg #[.int .i64 3, .slice ra X.length d1, .slice rb Y.length d2, .slice rc Z.length d3, .int .i64 nu, .int .i64 de, .int .i64 pv]] w fun e w' => e = .returned (.bool g) ∧ Below w.heap.size w w' := by
 obtain ⟨n1, n2, n3, _⟩ := hf
 have hg' : (Lp.feas p X && (decide (Z.length = p.C.length) && (Lp.nonneg Z && (Lp.gives p Z (Lp.zerosI p.B.length) && (Ve.dotK p.C Z && decide ((Ve.dotR p.C Z).1 < 0)))))) = g := hg
 simp only at n1 n2 n3
 have HX := Lib.hid (ChkBox.start w a b c ra rb rc c1 c2 c3 d1 d2 d3 p ⟨3, X, Y, Z, (nu, de), pv⟩ 28 32 hBw hz hr)
 have HV := Lib.hid (fun W (hB : w.heap.size ≤ W.heap.size) h => hvl ▸ spec_IsValidLP w.heap.size a b c c1 c2 c3 p hn W hB h)
 have HN := Lib.hid hn
 have HVL := Lib.hid hvl
 have hC := hn.C
 have hBl := hn.B
 have hAB := b_len hvl
 obtain ⟨i0, hi, hz0, hz1, hz2⟩ := info_parts info_int
 have HI := Lib.hid hi
 have HZ0 := Lib.hid hz0
 have HZ1 := Lib.hid hz1
 have HZ2 := Lib.hid hz2
 clear hz hr hg hvl hi hz0 hz1 hz2
 go_enter Try.func8, Try.ntmps8
 go_wp2_with fail
 refine (HV.out _ HX.out.1.size HX.out.2.1).mono ?_
 rintro e w1 ⟨rfl, k1⟩
 have HX1 := Lib.hid (HX.out.up k1)
 obtain ⟨x0, x1, x2, _⟩ := HX1.out.2.2.2.1.cells
 obtain ⟨⟨r0, r1, r2, r3, r4, r5, r6⟩, _⟩ := seven HX1.out.2.2.2.2
 clear k1
 go_wp2_with fail
 refine (spec_DotRat w.heap.size c rc c3 d3 p.C Z hC n3 _ HX1.out.1.size HX1.out.2.1.mC HX1.out.2.2.1.mR).mono ?_
 rintro e w2 ⟨rfl, k2⟩
 have hk2 := HX1.out.up k2
 obtain ⟨L, hs, hk, hk0⟩ := law_more (stable_chk w a b c ra rb rc c1 c2 c3 d1 d2 d3 p ⟨3, X, Y, Z, (nu, de), pv⟩ 28 32) #[.int .i64 (Ve.dotR p.C Z).1, .int .i64 (Ve.dotR p.C Z).2] 30 (fun _ => True) (fun _ _ _ h => h) hk2 trivial
 obtain ⟨fe, hfe⟩ : ∃ fe, Lp.feas p X = fe := ⟨_, rfl⟩
 obtain ⟨nn, hnn⟩ : ∃ nn, Lp.nonneg Z = nn := ⟨_, rfl⟩
 obtain ⟨gi, hgi⟩ : ∃ gi, Lp.gives p Z (Lp.zerosI p.B.length) = gi := ⟨_, rfl⟩
 have Hfe := Lib.hid (fun W (hL : L W) => spec_IsFeasible w.heap.size a b c ra c1 c2 c3 d1 p X HN.out n1 fe hfe W (hk W hL).1.1.size (hk W hL).1.2.1 (hk W hL).1.2.2.1.mX)
 have Hnn := Lib.hid (fun W (hL : L W) => spec_l5NotNegative w.heap.size rc d3 Z n3 nn hnn W (hk W hL).1.1.size (hk W hL).1.2.2.1.mR)
 have Hgi := Lib.hid (fun W (hL : L W) (A : Option Addr) (C : Nat) (h0 : NumsIn W.heap.size W A (Lp.zerosI p.B.length)) => zerosI_len p.B.length ▸ spec_l5Gives W.heap.size a b c rc A c1 c2 c3 d3 C p Z (Lp.zerosI p.B.length) HN.out n3 (by rw [zerosI_len]; exact hAB) (by rw [zerosI_len]; exact hBl) gi hgi W (Nat.le_refl _) ((hk W hL).1.2.1.mono (hk W hL).1.1.size) ((hk W hL).1.2.2.1.mR.mono (hk W hL).1.1.size) h0)
 have Hg2 := Lib.hid (show (fe && (decide (Z.length = p.C.length) && (nn && (gi && (Ve.dotK p.C Z && decide ((Ve.dotR p.C Z).1 < 0)))))) = g from hfe ▸ hnn ▸ hgi ▸ hg')
 generalize Ve.dotR p.C Z = D at *
 generalize Ve.dotK p.C Z = K at *
 have LS := Lib.hid hs
 have LK := Lib.hid hk
 have HL0 := Lib.hid hk0
 have Cell := Lib.hid (fun w' (h : L w') => (show w'.cell? ⟨w.heap.size, 0, none⟩ = some (.slice a p.A.length c1) ∧ w'.cell? ⟨w.heap.size, 1, none⟩ = some (.slice b p.B.length c2) ∧ w'.cell? ⟨w.heap.size, 2, none⟩ = some (.slice c p.C.length c3) ∧ w'.cell? ⟨w.heap.size + 1, 1, none⟩ = some (.slice ra X.length d1) ∧ w'.cell? ⟨w.heap.size + 1, 3, none⟩ = some (.slice rc Z.length d3) ∧ w'.cell? ⟨w2.heap.size, 0, none⟩ = some (.int .i64 D.1) ∧ L w' from
  ⟨(hk w' h).1.2.2.2.1.cells.1, (hk w' h).1.2.2.2.1.cells.2.1, (hk w' h).1.2.2.2.1.cells.2.2.1, (seven (hk w' h).1.2.2.2.2).1.2.1, (seven (hk w' h).1.2.2.2.2).1.2.2.2.1, (hk w' h).2.1.cell 0, h⟩))
 clear hg' hfe hnn hgi hs hk hk0 hk2 k2 x0 x1 x2 r0 r1 r2 r3 r4 r5 r6 HX HX1 HV HVL
 obtain ⟨x0, x1, x2, r1, r3, q0, _⟩ := Cell.out _ HL0.out
 have hin := LS.out.drew HL0.out
 go_upto_region 11 with fail
 generalize hW3 : w2.alloc (.cells #[.int .i64 D.1, .int .i64 D.2] 30) = W3 at *

 cases fe with
 | false =>
  have Hr := Lib.hid (show false = g by rw [← Hg2.out]; rfl)
  refine wp_region_held_drew (S := (fun w' => w'.cell? ⟨w.heap.size, 0, none⟩ = some (.slice a p.A.length c1) ∧ w'.cell? ⟨w.heap.size, 1, none⟩ = some (.slice b p.B.length c2) ∧ w'.cell? ⟨w.heap.size, 2, none⟩ = some (.slice c p.C.length c3) ∧ w'.cell? ⟨w.heap.size + 1, 1, none⟩ = some (.slice ra X.length d1) ∧ w'.cell? ⟨w.heap.size + 1, 3, none⟩ = some (.slice rc Z.length d3) ∧ w'.cell? ⟨w2.heap.size, 0, none⟩ = some (.int .i64 D.1) ∧ L w')) (by kernel_rfl) ?_ (fun hHeld => ?_)
  ·
   exact Cell.out _ hin
  refine tkH (i := 0) (oi := { dst := some 64, op := Op.load 28 (Operand.tmp 2), type := 28, pos := "l05_lp.go:109", after := #[], guard := none }) (v := ?_) rfl ?_ (by assumption) ?_
  rotate_left 1
  ·
   intro w hSw; (try dsimp only at hSw); go_simp; try (with_reducible rfl)
  try simp only [Act.put, setIfInBounds_toArray, set_cons_zero, set_cons_succ]
  refine tkH (i := 1) (oi := { dst := some 65, op := Op.fieldAddr 32 (Operand.tmp 3) 1, type := 0, pos := "l05_lp.go:109", after := #[], guard := none }) (v := ?_) rfl ?_ (by assumption) ?_
  rotate_left 1
  ·
   intro w hSw; (try dsimp only at hSw); go_simp; try (with_reducible rfl)
  try simp only [Act.put, setIfInBounds_toArray, set_cons_zero, set_cons_succ]
  refine tkH (i := 2) (oi := { dst := some 66, op := Op.load 26 (Operand.tmp 65), type := 26, pos := "l05_lp.go:109", after := #[{ on := 1, ground := Ground.data }], guard := none }) (v := ?_) rfl ?_ (by assumption) ?_
  rotate_left 1
  ·
   intro w hSw; (try dsimp only at hSw); go_simp; try (with_reducible rfl)
  try simp only [Act.put, setIfInBounds_toArray, set_cons_zero, set_cons_succ]
  refine wpAnyH_ready (rs := [3]) (by kernel_rfl) (by simp) ?_
  refine AllReadyH.cons (o := { dst := some 67, op := Op.call { callee := Callee.value (Operand.func 14), args := #[Operand.tmp 64, Operand.tmp 66], argTypes := #[28, 26] }, type := 4, pos := "l05_lp.go:109", after := #[{ on := 0, ground := Ground.data }, { on := 2, ground := Ground.data }], guard := none }) (rs := []) rfl (fun K hK => ?_) AllReadyH.nil
  go_simp
  (go_at_call 14; refine (calls_k LS.out (Hfe.out _ (by assumption)) (by assumption)).mono ?_; rintro e w' ⟨rfl, hk5, hin5⟩)
  refine hK.out _ _ ?_ (fun hHeld => ?_)
  ·
   exact Cell.out _ (by assumption)
  clear hK K
  try simp only [Act.put, setIfInBounds_toArray, set_cons_zero, set_cons_succ]
  refine tkH (i := 4) (oi := { dst := some 68, op := Op.move (Operand.tmp 67), type := 4, pos := "l05_lp.go:109", after := #[{ on := 3, ground := Ground.data }, { on := 3, ground := Ground.chain }], guard := none }) (v := ?_) rfl ?_ (by assumption) ?_
  rotate_left 1
  ·
   intro w hSw; (try dsimp only at hSw); go_simp; try (with_reducible rfl)
  try simp only [Act.put, setIfInBounds_toArray, set_cons_zero, set_cons_succ]
  refine tkHu (i := 5) (oi := { dst := some 69, op := Op.fieldAddr 32 (Operand.tmp 3) 3, type := 0, pos := "l05_lp.go:109", after := #[{ on := 4, ground := Ground.guard }], guard := some (4, true) }) rfl (by assumption) ?_
  try simp only [Act.put, setIfInBounds_toArray, set_cons_zero, set_cons_succ]
  refine tkHu (i := 6) (oi := { dst := some 70, op := Op.load 26 (Operand.tmp 69), type := 26, pos := "l05_lp.go:109", after := #[{ on := 5, ground := Ground.data }, { on := 4, ground := Ground.guard }], guard := some (4, true) }) rfl (by assumption) ?_
  try simp only [Act.put, setIfInBounds_toArray, set_cons_zero, set_cons_succ]
  refine tkHu (i := 7) (oi := { dst := some 71, op := Op.call { callee := Callee.builtin Builtin.len, args := #[Operand.tmp 70], argTypes := #[26] }, type := 3, pos := "l05_lp.go:109", after := #[{ on := 6, ground := Ground.data }, { on := 4, ground := Ground.guard }], guard := some (4, true) }) rfl (by assumption) ?_
  try simp only [Act.put, setIfInBounds_toArray, set_cons_zero, set_cons_succ]
  refine tkHu (i := 8) (oi := { dst := some 72, op := Op.fieldAddr 28 (Operand.tmp 2) 2, type := 0, pos := "l05_lp.go:109", after := #[{ on := 4, ground := Ground.guard }], guard := some (4, true) }) rfl (by assumption) ?_
  try simp only [Act.put, setIfInBounds_toArray, set_cons_zero, set_cons_succ]
  refine tkHu (i := 9) (oi := { dst := some 73, op := Op.load 26 (Operand.tmp 72), type := 26, pos := "l05_lp.go:109", after := #[{ on := 8, ground := Ground.data }, { on := 4, ground := Ground.guard }], guard := some (4, true) }) rfl (by assumption) ?_
  try simp only [Act.put, setIfInBounds_toArray, set_cons_zero, set_cons_succ]
  refine tkHu (i := 10) (oi := { dst := some 74, op := Op.call { callee := Callee.builtin Builtin.len, args := #[Operand.tmp 73], argTypes := #[26] }, type := 3, pos := "l05_lp.go:109", after := #[{ on := 9, ground := Ground.data }, { on := 4, ground := Ground.guard }], guard := some (4, true) }) rfl (by assumption) ?_
  try simp only [Act.put, setIfInBounds_toArray, set_cons_zero, set_cons_succ]
  refine tkHu (i := 11) (oi := { dst := some 75, op := Op.binOp BinOp.eql 3 (Operand.tmp 71) (Operand.tmp 74) 3, type := 4, pos := "l05_lp.go:109", after := #[{ on := 7, ground := Ground.data }, { on := 10, ground := Ground.data }, { on := 4, ground := Ground.guard }], guard := some (4, true) }) rfl (by assumption) ?_
  try simp only [Act.put, setIfInBounds_toArray, set_cons_zero, set_cons_succ]
  refine tkH (i := 12) (oi := { dst := some 76, op := Op.pick (Operand.tmp 68) (Operand.tmp 75) (Operand.const (Value.bool false)), type := 4, pos := "l05_lp.go:109", after := #[{ on := 4, ground := Ground.data }, { on := 11, ground := Ground.data }], guard := none }) (v := ?_) rfl ?_ (by assumption) ?_
  rotate_left 1
  ·
   intro w hSw; (try dsimp only at hSw); go_simp; try (with_reducible rfl)
  try simp only [Act.put, setIfInBounds_toArray, set_cons_zero, set_cons_succ]
  refine tkH (i := 13) (oi := { dst := some 77, op := Op.move (Operand.tmp 76), type := 4, pos := "l05_lp.go:109", after := #[{ on := 12, ground := Ground.data }, { on := 4, ground := Ground.chain }], guard := none }) (v := ?_) rfl ?_ (by assumption) ?_
  rotate_left 1
  ·
   intro w hSw; (try dsimp only at hSw); go_simp; try (with_reducible rfl)
  try simp only [Act.put, setIfInBounds_toArray, set_cons_zero, set_cons_succ]
  refine tkHu (i := 14) (oi := { dst := some 78, op := Op.fieldAddr 32 (Operand.tmp 3) 3, type := 0, pos := "l05_lp.go:109", after := #[{ on := 13, ground := Ground.guard }], guard := some (13, true) }) rfl (by assumption) ?_
  try simp only [Act.put, setIfInBounds_toArray, set_cons_zero, set_cons_succ]
  refine tkHu (i := 15) (oi := { dst := some 79, op := Op.load 26 (Operand.tmp 78), type := 26, pos := "l05_lp.go:109", after := #[{ on := 14, ground := Ground.data }, { on := 13, ground := Ground.guard }], guard := some (13, true) }) rfl (by assumption) ?_
  try simp only [Act.put, setIfInBounds_toArray, set_cons_zero, set_cons_succ]
  refine tkHu (i := 16) (oi := { dst := some 80, op := Op.call { callee := Callee.value (Operand.func 31), args := #[Operand.tmp 79], argTypes := #[26] }, type := 4, pos := "l05_lp.go:109", after := #[{ on := 15, ground := Ground.data }, { on := 13, ground := Ground.chain }, { on := 13, ground := Ground.guard }], guard := some (13, true) }) rfl (by assumption) ?_
  try simp only [Act.put, setIfInBounds_toArray, set_cons_zero, set_cons_succ]
  refine tkH (i := 17) (oi := { dst := some 81, op := Op.pick (Operand.tmp 77) (Operand.tmp 80) (Operand.const (Value.bool false)), type := 4, pos := "l05_lp.go:109", after := #[{ on := 13, ground := Ground.data }, { on := 16, ground := Ground.data }], guard := none }) (v := ?_) rfl ?_ (by assumption) ?_
  rotate_left 1
  ·
   intro w hSw; (try dsimp only at hSw); go_simp; try (with_reducible rfl)
  try simp only [Act.put, setIfInBounds_toArray, set_cons_zero, set_cons_succ]
  refine tkH (i := 18) (oi := { dst := some 82, op := Op.move (Operand.tmp 81), type := 4, pos := "l05_lp.go:109", after := #[{ on := 17, ground := Ground.data }, { on := 16, ground := Ground.chain }], guard := none }) (v := ?_) rfl ?_ (by assumption) ?_
  rotate_left 1
  ·
   intro w hSw; (try dsimp only at hSw); go_simp; try (with_reducible rfl)
  try simp only [Act.put, setIfInBounds_toArray, set_cons_zero, set_cons_succ]
  refine tkHu (i := 19) (oi := { dst := some 83, op := Op.load 28 (Operand.tmp 2), type := 28, pos := "l05_lp.go:109", after := #[{ on := 18, ground := Ground.guard }], guard := some (18, true) }) rfl (by assumption) ?_
  try simp only [Act.put, setIfInBounds_toArray, set_cons_zero, set_cons_succ]
  refine tkHu (i := 20) (oi := { dst := some 84, op := Op.fieldAddr 32 (Operand.tmp 3) 3, type := 0, pos := "l05_lp.go:109", after := #[{ on := 18, ground := Ground.guard }], guard := some (18, true) }) rfl (by assumption) ?_
  try simp only [Act.put, setIfInBounds_toArray, set_cons_zero, set_cons_succ]
  refine tkHu (i := 21) (oi := { dst := some 85, op := Op.load 26 (Operand.tmp 84), type := 26, pos := "l05_lp.go:109", after := #[{ on := 20, ground := Ground.data }, { on := 18, ground := Ground.guard }], guard := some (18, true) }) rfl (by assumption) ?_
  try simp only [Act.put, setIfInBounds_toArray, set_cons_zero, set_cons_succ]
  refine tkHu (i := 22) (oi := { dst := some 86, op := Op.fieldAddr 28 (Operand.tmp 2) 1, type := 0, pos := "l05_lp.go:109", after := #[{ on := 18, ground := Ground.guard }], guard := some (18, true) }) rfl (by assumption) ?_
  try simp only [Act.put, setIfInBounds_toArray, set_cons_zero, set_cons_succ]
  refine tkHu (i := 23) (oi := { dst := some 87, op := Op.load 25 (Operand.tmp 86), type := 25, pos := "l05_lp.go:109", after := #[{ on := 22, ground := Ground.data }, { on := 18, ground := Ground.guard }], guard := some (18, true) }) rfl (by assumption) ?_
  try simp only [Act.put, setIfInBounds_toArray, set_cons_zero, set_cons_succ]
  refine tkHu (i := 24) (oi := { dst := some 88, op := Op.call { callee := Callee.builtin Builtin.len, args := #[Operand.tmp 87], argTypes := #[25] }, type := 3, pos := "l05_lp.go:109", after := #[{ on := 23, ground := Ground.data }, { on := 18, ground := Ground.guard }], guard := some (18, true) }) rfl (by assumption) ?_
  try simp only [Act.put, setIfInBounds_toArray, set_cons_zero, set_cons_succ]
  refine tkHu (i := 25) (oi := { dst := some 89, op := Op.makeSlice 25 (Operand.tmp 88) (Operand.tmp 88), type := 25, pos := "l05_lp.go:109", after := #[{ on := 24, ground := Ground.data }, { on := 24, ground := Ground.data }, { on := 18, ground := Ground.guard }], guard := some (18, true) }) rfl (by assumption) ?_
  try simp only [Act.put, setIfInBounds_toArray, set_cons_zero, set_cons_succ]
  refine tkHu (i := 26) (oi := { dst := some 90, op := Op.call { callee := Callee.value (Operand.func 32), args := #[Operand.tmp 83, Operand.tmp 85, Operand.tmp 89], argTypes := #[28, 26, 25] }, type := 4, pos := "l05_lp.go:109", after := #[{ on := 19, ground := Ground.data }, { on := 21, ground := Ground.data }, { on := 25, ground := Ground.data }, { on := 18, ground := Ground.chain }, { on := 18, ground := Ground.guard }], guard := some (18, true) }) rfl (by assumption) ?_
  try simp only [Act.put, setIfInBounds_toArray, set_cons_zero, set_cons_succ]
  refine tkH (i := 27) (oi := { dst := some 91, op := Op.pick (Operand.tmp 82) (Operand.tmp 90) (Operand.const (Value.bool false)), type := 4, pos := "l05_lp.go:109", after := #[{ on := 18, ground := Ground.data }, { on := 26, ground := Ground.data }], guard := none }) (v := ?_) rfl ?_ (by assumption) ?_
  rotate_left 1
  ·
   intro w hSw; (try dsimp only at hSw); go_simp; try (with_reducible rfl)
  try simp only [Act.put, setIfInBounds_toArray, set_cons_zero, set_cons_succ]
  refine tkH (i := 28) (oi := { dst := some 92, op := Op.move (Operand.tmp 91), type := 4, pos := "l05_lp.go:109", after := #[{ on := 27, ground := Ground.data }, { on := 26, ground := Ground.chain }], guard := none }) (v := ?_) rfl ?_ (by assumption) ?_
  rotate_left 1
  ·
   intro w hSw; (try dsimp only at hSw); go_simp; try (with_reducible rfl)
  try simp only [Act.put, setIfInBounds_toArray, set_cons_zero, set_cons_succ]
  refine tkHu (i := 29) (oi := { dst := some 93, op := Op.move (Operand.tmp 8), type := 4, pos := "l05_lp.go:109", after := #[{ on := 28, ground := Ground.guard }], guard := some (28, true) }) rfl (by assumption) ?_
  try simp only [Act.put, setIfInBounds_toArray, set_cons_zero, set_cons_succ]
  refine tkH (i := 30) (oi := { dst := some 94, op := Op.pick (Operand.tmp 92) (Operand.tmp 93) (Operand.const (Value.bool false)), type := 4, pos := "l05_lp.go:109", after := #[{ on := 28, ground := Ground.data }, { on := 29, ground := Ground.data }], guard := none }) (v := ?_) rfl ?_ (by assumption) ?_
  rotate_left 1
  ·
   intro w hSw; (try dsimp only at hSw); go_simp; try (with_reducible rfl)
  try simp only [Act.put, setIfInBounds_toArray, set_cons_zero, set_cons_succ]
  refine tkH (i := 31) (oi := { dst := some 95, op := Op.move (Operand.tmp 94), type := 4, pos := "l05_lp.go:109", after := #[{ on := 30, ground := Ground.data }, { on := 28, ground := Ground.chain }], guard := none }) (v := ?_) rfl ?_ (by assumption) ?_
  rotate_left 1
  ·
   intro w hSw; (try dsimp only at hSw); go_simp; try (with_reducible rfl)
  try simp only [Act.put, setIfInBounds_toArray, set_cons_zero, set_cons_succ]
  refine tkHu (i := 32) (oi := { dst := some 96, op := Op.fieldAddr 30 (Operand.tmp 7) 0, type := 0, pos := "l05_lp.go:109", after := #[{ on := 31, ground := Ground.guard }], guard := some (31, true) }) rfl (by assumption) ?_
  try simp only [Act.put, setIfInBounds_toArray, set_cons_zero, set_cons_succ]
  refine tkHu (i := 33) (oi := { dst := some 97, op := Op.load 3 (Operand.tmp 96), type := 3, pos := "l05_lp.go:109", after := #[{ on := 32, ground := Ground.data }, { on := 31, ground := Ground.guard }], guard := some (31, true) }) rfl (by assumption) ?_
  try simp only [Act.put, setIfInBounds_toArray, set_cons_zero, set_cons_succ]
  refine tkHu (i := 34) (oi := { dst := some 98, op := Op.binOp BinOp.lss 3 (Operand.tmp 97) (Operand.const (Value.int IntKind.i64 0)) 3, type := 4, pos := "l05_lp.go:109", after := #[{ on := 33, ground := Ground.data }, { on := 31, ground := Ground.guard }], guard := some (31, true) }) rfl (by assumption) ?_
  try simp only [Act.put, setIfInBounds_toArray, set_cons_zero, set_cons_succ]
  refine tkH (i := 35) (oi := { dst := some 99, op := Op.pick (Operand.tmp 95) (Operand.tmp 98) (Operand.const (Value.bool false)), type := 4, pos := "l05_lp.go:109", after := #[{ on := 31, ground := Ground.data }, { on := 34, ground := Ground.data }], guard := none }) (v := ?_) rfl ?_ (by assumption) ?_
  rotate_left 1
  ·
   intro w hSw; (try dsimp only at hSw); go_simp; try (with_reducible rfl)
  try simp only [Act.put, setIfInBounds_toArray, set_cons_zero, set_cons_succ]
  refine tkH (i := 36) (oi := { dst := some 4, op := Op.assign (Operand.tmp 99), type := 4, pos := "l05_lp.go:109", after := #[{ on := 35, ground := Ground.data }, { on := 31, ground := Ground.chain }, { on := 0, ground := Ground.phase }, { on := 1, ground := Ground.phase }, { on := 2, ground := Ground.phase }, { on := 3, ground := Ground.phase }, { on := 4, ground := Ground.phase }, { on := 5, ground := Ground.phase }, { on := 6, ground := Ground.phase }, { on := 7, ground := Ground.phase }, { on := 8, ground := Ground.phase }, { on := 9, ground := Ground.phase }, { on := 10, ground := Ground.phase }, { on := 11, ground := Ground.phase }, { on := 12, ground := Ground.phase }, { on := 13, ground := Ground.phase }, { on := 14, ground := Ground.phase }, { on := 15, ground := Ground.phase }, { on := 16, ground := Ground.phase }, { on := 17, ground := Ground.phase }, { on := 18, ground := Ground.phase }, { on := 19, ground := Ground.phase }, { on := 20, ground := Ground.phase }, { on := 21, ground := Ground.phase }, { on := 22, ground := Ground.phase }, { on := 23, ground := Ground.phase }, { on := 24, ground := Ground.phase }, { on := 25, ground := Ground.phase }, { on := 26, ground := Ground.phase }, { on := 27, ground := Ground.phase }, { on := 28, ground := Ground.phase }, { on := 29, ground := Ground.phase }, { on := 30, ground := Ground.phase }, { on := 31, ground := Ground.phase }, { on := 32, ground := Ground.phase }, { on := 33, ground := Ground.phase }, { on := 34, ground := Ground.phase }, { on := 35, ground := Ground.phase }], guard := none }) (v := ?_) rfl ?_ (by assumption) ?_
  rotate_left 1
  ·
   intro w hSw; (try dsimp only at hSw); go_simp; try (with_reducible rfl)
  try simp only [Act.put, setIfInBounds_toArray, set_cons_zero, set_cons_succ]
  refine wpAnyH_done (by kernel_rfl) ?_ _
  go_wp2_with fail
  go_ret
  exact ⟨ret_bool Hr.out, (LK.out _ (by assumption)).1.1⟩
 | true =>
  by_cases hl : Z.length = p.C.length
  ·
   have hq : ((Z.length : Int) == (p.C.length : Int)) = true := by rw [hl]; simp
   have Hg3 := Lib.hid (show (nn && (gi && (K && decide (D.1 < 0)))) = g by rw [← Hg2.out]; simp [hl])
   clear Hg2 hl
   cases nn with
   | false =>
    have Hr := Lib.hid (show false = g by rw [← Hg3.out]; rfl)
    refine wp_region_held_drew (S := (fun w' => w'.cell? ⟨w.heap.size, 0, none⟩ = some (.slice a p.A.length c1) ∧ w'.cell? ⟨w.heap.size, 1, none⟩ = some (.slice b p.B.length c2) ∧ w'.cell? ⟨w.heap.size, 2, none⟩ = some (.slice c p.C.length c3) ∧ w'.cell? ⟨w.heap.size + 1, 1, none⟩ = some (.slice ra X.length d1) ∧ w'.cell? ⟨w.heap.size + 1, 3, none⟩ = some (.slice rc Z.length d3) ∧ w'.cell? ⟨w2.heap.size, 0, none⟩ = some (.int .i64 D.1) ∧ L w')) (by kernel_rfl) ?_ (fun hHeld => ?_)
    ·
     exact Cell.out _ hin
    refine tkH (i := 0) (oi := { dst := some 64, op := Op.load 28 (Operand.tmp 2), type := 28, pos := "l05_lp.go:109", after := #[], guard := none }) (v := ?_) rfl ?_ (by assumption) ?_
    rotate_left 1
    ·
     intro w hSw; (try dsimp only at hSw); go_simp; try (with_reducible rfl)
    try simp only [Act.put, setIfInBounds_toArray, set_cons_zero, set_cons_succ]
    refine tkH (i := 1) (oi := { dst := some 65, op := Op.fieldAddr 32 (Operand.tmp 3) 1, type := 0, pos := "l05_lp.go:109", after := #[], guard := none }) (v := ?_) rfl ?_ (by assumption) ?_
    rotate_left 1
    ·
     intro w hSw; (try dsimp only at hSw); go_simp; try (with_reducible rfl)
    try simp only [Act.put, setIfInBounds_toArray, set_cons_zero, set_cons_succ]
    refine tkH (i := 2) (oi := { dst := some 66, op := Op.load 26 (Operand.tmp 65), type := 26, pos := "l05_lp.go:109", after := #[{ on := 1, ground := Ground.data }], guard := none }) (v := ?_) rfl ?_ (by assumption) ?_
    rotate_left 1
    ·
     intro w hSw; (try dsimp only at hSw); go_simp; try (with_reducible rfl)
    try simp only [Act.put, setIfInBounds_toArray, set_cons_zero, set_cons_succ]
    refine wpAnyH_ready (rs := [3]) (by kernel_rfl) (by simp) ?_
    refine AllReadyH.cons (o := { dst := some 67, op := Op.call { callee := Callee.value (Operand.func 14), args := #[Operand.tmp 64, Operand.tmp 66], argTypes := #[28, 26] }, type := 4, pos := "l05_lp.go:109", after := #[{ on := 0, ground := Ground.data }, { on := 2, ground := Ground.data }], guard := none }) (rs := []) rfl (fun K hK => ?_) AllReadyH.nil
    go_simp
    (go_at_call 14; refine (calls_k LS.out (Hfe.out _ (by assumption)) (by assumption)).mono ?_; rintro e w' ⟨rfl, hk5, hin5⟩)
    refine hK.out _ _ ?_ (fun hHeld => ?_)
    ·
     exact Cell.out _ (by assumption)
    clear hK K
    try simp only [Act.put, setIfInBounds_toArray, set_cons_zero, set_cons_succ]
    refine tkH (i := 4) (oi := { dst := some 68, op := Op.move (Operand.tmp 67), type := 4, pos := "l05_lp.go:109", after := #[{ on := 3, ground := Ground.data }, { on := 3, ground := Ground.chain }], guard := none }) (v := ?_) rfl ?_ (by assumption) ?_
    rotate_left 1
    ·
     intro w hSw; (try dsimp only at hSw); go_simp; try (with_reducible rfl)
    try simp only [Act.put, setIfInBounds_toArray, set_cons_zero, set_cons_succ]
    refine tkH (i := 5) (oi := { dst := some 69, op := Op.fieldAddr 32 (Operand.tmp 3) 3, type := 0, pos := "l05_lp.go:109", after := #[{ on := 4, ground := Ground.guard }], guard := some (4, true) }) (v := ?_) rfl ?_ (by assumption) ?_
    rotate_left 1
    ·
     intro w hSw; (try dsimp only at hSw); go_simp; try (with_reducible rfl)
    try simp only [Act.put, setIfInBounds_toArray, set_cons_zero, set_cons_succ]
    refine tkH (i := 6) (oi := { dst := some 70, op := Op.load 26 (Operand.tmp 69), type := 26, pos := "l05_lp.go:109", after := #[{ on := 5, ground := Ground.data }, { on := 4, ground := Ground.guard }], guard := some (4, true) }) (v := ?_) rfl ?_ (by assumption) ?_
    rotate_left 1
    ·
     intro w hSw; (try dsimp only at hSw); go_simp; try (with_reducible rfl)
    try simp only [Act.put, setIfInBounds_toArray, set_cons_zero, set_cons_succ]
    refine tkH (i := 7) (oi := { dst := some 71, op := Op.call { callee := Callee.builtin Builtin.len, args := #[Operand.tmp 70], argTypes := #[26] }, type := 3, pos := "l05_lp.go:109", after := #[{ on := 6, ground := Ground.data }, { on := 4, ground := Ground.guard }], guard := some (4, true) }) (v := ?_) rfl ?_ (by assumption) ?_
    rotate_left 1
    ·
     intro w hSw; (try dsimp only at hSw); go_simp; try (with_reducible rfl)
    try simp only [Act.put, setIfInBounds_toArray, set_cons_zero, set_cons_succ]
    refine tkH (i := 8) (oi := { dst := some 72, op := Op.fieldAddr 28 (Operand.tmp 2) 2, type := 0, pos := "l05_lp.go:109", after := #[{ on := 4, ground := Ground.guard }], guard := some (4, true) }) (v := ?_) rfl ?_ (by assumption) ?_
    rotate_left 1
    ·
     intro w hSw; (try dsimp only at hSw); go_simp; try (with_reducible rfl)
    try simp only [Act.put, setIfInBounds_toArray, set_cons_zero, set_cons_succ]
    refine tkH (i := 9) (oi := { dst := some 73, op := Op.load 26 (Operand.tmp 72), type := 26, pos := "l05_lp.go:109", after := #[{ on := 8, ground := Ground.data }, { on := 4, ground := Ground.guard }], guard := some (4, true) }) (v := ?_) rfl ?_ (by assumption) ?_
    rotate_left 1
    ·
     intro w hSw; (try dsimp only at hSw); go_simp; try (with_reducible rfl)
    try simp only [Act.put, setIfInBounds_toArray, set_cons_zero, set_cons_succ]
    refine tkH (i := 10) (oi := { dst := some 74, op := Op.call { callee := Callee.builtin Builtin.len, args := #[Operand.tmp 73], argTypes := #[26] }, type := 3, pos := "l05_lp.go:109", after := #[{ on := 9, ground := Ground.data }, { on := 4, ground := Ground.guard }], guard := some (4, true) }) (v := ?_) rfl ?_ (by assumption) ?_
    rotate_left 1
    ·
     intro w hSw; (try dsimp only at hSw); go_simp; try (with_reducible rfl)
    try simp only [Act.put, setIfInBounds_toArray, set_cons_zero, set_cons_succ]
    refine tkH (i := 11) (oi := { dst := some 75, op := Op.binOp BinOp.eql 3 (Operand.tmp 71) (Operand.tmp 74) 3, type := 4, pos := "l05_lp.go:109", after := #[{ on := 7, ground := Ground.data }, { on := 10, ground := Ground.data }, { on := 4, ground := Ground.guard }], guard := some (4, true) }) (v := ?_) rfl ?_ (by assumption) ?_
    rotate_left 1
    ·
     intro w hSw; (try dsimp only at hSw); go_simp; try (with_reducible rfl)
    try simp only [Act.put, setIfInBounds_toArray, set_cons_zero, set_cons_succ]
    refine tkH (i := 12) (oi := { dst := some 76, op := Op.pick (Operand.tmp 68) (Operand.tmp 75) (Operand.const (Value.bool false)), type := 4, pos := "l05_lp.go:109", after := #[{ on := 4, ground := Ground.data }, { on := 11, ground := Ground.data }], guard := none }) (v := ?_) rfl ?_ (by assumption) ?_
    rotate_left 1
    ·
     intro w hSw; (try dsimp only at hSw); go_simp; try (with_reducible rfl)
    try simp only [Act.put, setIfInBounds_toArray, set_cons_zero, set_cons_succ]
    refine tkH (i := 13) (oi := { dst := some 77, op := Op.move (Operand.tmp 76), type := 4, pos := "l05_lp.go:109", after := #[{ on := 12, ground := Ground.data }, { on := 4, ground := Ground.chain }], guard := none }) (v := ?_) rfl ?_ (by assumption) ?_
    rotate_left 1
    ·
     intro w hSw; (try dsimp only at hSw); go_simp; try (with_reducible rfl)
    try simp only [Act.put, setIfInBounds_toArray, set_cons_zero, set_cons_succ]
    refine tkH (i := 14) (oi := { dst := some 78, op := Op.fieldAddr 32 (Operand.tmp 3) 3, type := 0, pos := "l05_lp.go:109", after := #[{ on := 13, ground := Ground.guard }], guard := some (13, true) }) (v := ?_) rfl ?_ (by assumption) ?_
    rotate_left 1
    ·
     intro w hSw; (try dsimp only at hSw); go_simp; try (with_reducible rfl)
    try simp only [Act.put, setIfInBounds_toArray, set_cons_zero, set_cons_succ]
    refine tkH (i := 15) (oi := { dst := some 79, op := Op.load 26 (Operand.tmp 78), type := 26, pos := "l05_lp.go:109", after := #[{ on := 14, ground := Ground.data }, { on := 13, ground := Ground.guard }], guard := some (13, true) }) (v := ?_) rfl ?_ (by assumption) ?_
    rotate_left 1
    ·
     intro w hSw; (try dsimp only at hSw); go_simp; try (with_reducible rfl)
    try simp only [Act.put, setIfInBounds_toArray, set_cons_zero, set_cons_succ]
    refine wpAnyH_ready (rs := [16]) (by kernel_rfl) (by simp) ?_
    refine AllReadyH.cons (o := { dst := some 80, op := Op.call { callee := Callee.value (Operand.func 31), args := #[Operand.tmp 79], argTypes := #[26] }, type := 4, pos := "l05_lp.go:109", after := #[{ on := 15, ground := Ground.data }, { on := 13, ground := Ground.chain }, { on := 13, ground := Ground.guard }], guard := some (13, true) }) (rs := []) rfl (fun K hK => ?_) AllReadyH.nil
    go_simp
    (go_at_call 31; refine (calls_k LS.out (Hnn.out _ (by assumption)) (by assumption)).mono ?_; rintro e w' ⟨rfl, hk6, hin6⟩)
    refine hK.out _ _ ?_ (fun hHeld => ?_)
    ·
     exact Cell.out _ (by assumption)
    clear hK K
    try simp only [Act.put, setIfInBounds_toArray, set_cons_zero, set_cons_succ]
    refine tkH (i := 17) (oi := { dst := some 81, op := Op.pick (Operand.tmp 77) (Operand.tmp 80) (Operand.const (Value.bool false)), type := 4, pos := "l05_lp.go:109", after := #[{ on := 13, ground := Ground.data }, { on := 16, ground := Ground.data }], guard := none }) (v := ?_) rfl ?_ (by assumption) ?_
    rotate_left 1
    ·
     intro w hSw; (try dsimp only at hSw); go_simp; try (with_reducible rfl)
    try simp only [Act.put, setIfInBounds_toArray, set_cons_zero, set_cons_succ]
    refine tkH (i := 18) (oi := { dst := some 82, op := Op.move (Operand.tmp 81), type := 4, pos := "l05_lp.go:109", after := #[{ on := 17, ground := Ground.data }, { on := 16, ground := Ground.chain }], guard := none }) (v := ?_) rfl ?_ (by assumption) ?_
    rotate_left 1
    ·
     intro w hSw; (try dsimp only at hSw); go_simp; try (with_reducible rfl)
    try simp only [Act.put, setIfInBounds_toArray, set_cons_zero, set_cons_succ]
    refine tkHu (i := 19) (oi := { dst := some 83, op := Op.load 28 (Operand.tmp 2), type := 28, pos := "l05_lp.go:109", after := #[{ on := 18, ground := Ground.guard }], guard := some (18, true) }) rfl (by assumption) ?_
    try simp only [Act.put, setIfInBounds_toArray, set_cons_zero, set_cons_succ]
    refine tkHu (i := 20) (oi := { dst := some 84, op := Op.fieldAddr 32 (Operand.tmp 3) 3, type := 0, pos := "l05_lp.go:109", after := #[{ on := 18, ground := Ground.guard }], guard := some (18, true) }) rfl (by assumption) ?_
    try simp only [Act.put, setIfInBounds_toArray, set_cons_zero, set_cons_succ]
    refine tkHu (i := 21) (oi := { dst := some 85, op := Op.load 26 (Operand.tmp 84), type := 26, pos := "l05_lp.go:109", after := #[{ on := 20, ground := Ground.data }, { on := 18, ground := Ground.guard }], guard := some (18, true) }) rfl (by assumption) ?_
    try simp only [Act.put, setIfInBounds_toArray, set_cons_zero, set_cons_succ]
    refine tkHu (i := 22) (oi := { dst := some 86, op := Op.fieldAddr 28 (Operand.tmp 2) 1, type := 0, pos := "l05_lp.go:109", after := #[{ on := 18, ground := Ground.guard }], guard := some (18, true) }) rfl (by assumption) ?_
    try simp only [Act.put, setIfInBounds_toArray, set_cons_zero, set_cons_succ]
    refine tkHu (i := 23) (oi := { dst := some 87, op := Op.load 25 (Operand.tmp 86), type := 25, pos := "l05_lp.go:109", after := #[{ on := 22, ground := Ground.data }, { on := 18, ground := Ground.guard }], guard := some (18, true) }) rfl (by assumption) ?_
    try simp only [Act.put, setIfInBounds_toArray, set_cons_zero, set_cons_succ]
    refine tkHu (i := 24) (oi := { dst := some 88, op := Op.call { callee := Callee.builtin Builtin.len, args := #[Operand.tmp 87], argTypes := #[25] }, type := 3, pos := "l05_lp.go:109", after := #[{ on := 23, ground := Ground.data }, { on := 18, ground := Ground.guard }], guard := some (18, true) }) rfl (by assumption) ?_
    try simp only [Act.put, setIfInBounds_toArray, set_cons_zero, set_cons_succ]
    refine tkHu (i := 25) (oi := { dst := some 89, op := Op.makeSlice 25 (Operand.tmp 88) (Operand.tmp 88), type := 25, pos := "l05_lp.go:109", after := #[{ on := 24, ground := Ground.data }, { on := 24, ground := Ground.data }, { on := 18, ground := Ground.guard }], guard := some (18, true) }) rfl (by assumption) ?_
    try simp only [Act.put, setIfInBounds_toArray, set_cons_zero, set_cons_succ]
    refine tkHu (i := 26) (oi := { dst := some 90, op := Op.call { callee := Callee.value (Operand.func 32), args := #[Operand.tmp 83, Operand.tmp 85, Operand.tmp 89], argTypes := #[28, 26, 25] }, type := 4, pos := "l05_lp.go:109", after := #[{ on := 19, ground := Ground.data }, { on := 21, ground := Ground.data }, { on := 25, ground := Ground.data }, { on := 18, ground := Ground.chain }, { on := 18, ground := Ground.guard }], guard := some (18, true) }) rfl (by assumption) ?_
    try simp only [Act.put, setIfInBounds_toArray, set_cons_zero, set_cons_succ]
    refine tkH (i := 27) (oi := { dst := some 91, op := Op.pick (Operand.tmp 82) (Operand.tmp 90) (Operand.const (Value.bool false)), type := 4, pos := "l05_lp.go:109", after := #[{ on := 18, ground := Ground.data }, { on := 26, ground := Ground.data }], guard := none }) (v := ?_) rfl ?_ (by assumption) ?_
    rotate_left 1
    ·
     intro w hSw; (try dsimp only at hSw); go_simp; try (with_reducible rfl)
    try simp only [Act.put, setIfInBounds_toArray, set_cons_zero, set_cons_succ]
    refine tkH (i := 28) (oi := { dst := some 92, op := Op.move (Operand.tmp 91), type := 4, pos := "l05_lp.go:109", after := #[{ on := 27, ground := Ground.data }, { on := 26, ground := Ground.chain }], guard := none }) (v := ?_) rfl ?_ (by assumption) ?_
    rotate_left 1
    ·
     intro w hSw; (try dsimp only at hSw); go_simp; try (with_reducible rfl)
    try simp only [Act.put, setIfInBounds_toArray, set_cons_zero, set_cons_succ]
    refine tkHu (i := 29) (oi := { dst := some 93, op := Op.move (Operand.tmp 8), type := 4, pos := "l05_lp.go:109", after := #[{ on := 28, ground := Ground.guard }], guard := some (28, true) }) rfl (by assumption) ?_
    try simp only [Act.put, setIfInBounds_toArray, set_cons_zero, set_cons_succ]
    refine tkH (i := 30) (oi := { dst := some 94, op := Op.pick (Operand.tmp 92) (Operand.tmp 93) (Operand.const (Value.bool false)), type := 4, pos := "l05_lp.go:109", after := #[{ on := 28, ground := Ground.data }, { on := 29, ground := Ground.data }], guard := none }) (v := ?_) rfl ?_ (by assumption) ?_
    rotate_left 1
    ·
     intro w hSw; (try dsimp only at hSw); go_simp; try (with_reducible rfl)
    try simp only [Act.put, setIfInBounds_toArray, set_cons_zero, set_cons_succ]
    refine tkH (i := 31) (oi := { dst := some 95, op := Op.move (Operand.tmp 94), type := 4, pos := "l05_lp.go:109", after := #[{ on := 30, ground := Ground.data }, { on := 28, ground := Ground.chain }], guard := none }) (v := ?_) rfl ?_ (by assumption) ?_
    rotate_left 1
    ·
     intro w hSw; (try dsimp only at hSw); go_simp; try (with_reducible rfl)
    try simp only [Act.put, setIfInBounds_toArray, set_cons_zero, set_cons_succ]
    refine tkHu (i := 32) (oi := { dst := some 96, op := Op.fieldAddr 30 (Operand.tmp 7) 0, type := 0, pos := "l05_lp.go:109", after := #[{ on := 31, ground := Ground.guard }], guard := some (31, true) }) rfl (by assumption) ?_
    try simp only [Act.put, setIfInBounds_toArray, set_cons_zero, set_cons_succ]
    refine tkHu (i := 33) (oi := { dst := some 97, op := Op.load 3 (Operand.tmp 96), type := 3, pos := "l05_lp.go:109", after := #[{ on := 32, ground := Ground.data }, { on := 31, ground := Ground.guard }], guard := some (31, true) }) rfl (by assumption) ?_
    try simp only [Act.put, setIfInBounds_toArray, set_cons_zero, set_cons_succ]
    refine tkHu (i := 34) (oi := { dst := some 98, op := Op.binOp BinOp.lss 3 (Operand.tmp 97) (Operand.const (Value.int IntKind.i64 0)) 3, type := 4, pos := "l05_lp.go:109", after := #[{ on := 33, ground := Ground.data }, { on := 31, ground := Ground.guard }], guard := some (31, true) }) rfl (by assumption) ?_
    try simp only [Act.put, setIfInBounds_toArray, set_cons_zero, set_cons_succ]
    refine tkH (i := 35) (oi := { dst := some 99, op := Op.pick (Operand.tmp 95) (Operand.tmp 98) (Operand.const (Value.bool false)), type := 4, pos := "l05_lp.go:109", after := #[{ on := 31, ground := Ground.data }, { on := 34, ground := Ground.data }], guard := none }) (v := ?_) rfl ?_ (by assumption) ?_
    rotate_left 1
    ·
     intro w hSw; (try dsimp only at hSw); go_simp; try (with_reducible rfl)
    try simp only [Act.put, setIfInBounds_toArray, set_cons_zero, set_cons_succ]
    refine tkH (i := 36) (oi := { dst := some 4, op := Op.assign (Operand.tmp 99), type := 4, pos := "l05_lp.go:109", after := #[{ on := 35, ground := Ground.data }, { on := 31, ground := Ground.chain }, { on := 0, ground := Ground.phase }, { on := 1, ground := Ground.phase }, { on := 2, ground := Ground.phase }, { on := 3, ground := Ground.phase }, { on := 4, ground := Ground.phase }, { on := 5, ground := Ground.phase }, { on := 6, ground := Ground.phase }, { on := 7, ground := Ground.phase }, { on := 8, ground := Ground.phase }, { on := 9, ground := Ground.phase }, { on := 10, ground := Ground.phase }, { on := 11, ground := Ground.phase }, { on := 12, ground := Ground.phase }, { on := 13, ground := Ground.phase }, { on := 14, ground := Ground.phase }, { on := 15, ground := Ground.phase }, { on := 16, ground := Ground.phase }, { on := 17, ground := Ground.phase }, { on := 18, ground := Ground.phase }, { on := 19, ground := Ground.phase }, { on := 20, ground := Ground.phase }, { on := 21, ground := Ground.phase }, { on := 22, ground := Ground.phase }, { on := 23, ground := Ground.phase }, { on := 24, ground := Ground.phase }, { on := 25, ground := Ground.phase }, { on := 26, ground := Ground.phase }, { on := 27, ground := Ground.phase }, { on := 28, ground := Ground.phase }, { on := 29, ground := Ground.phase }, { on := 30, ground := Ground.phase }, { on := 31, ground := Ground.phase }, { on := 32, ground := Ground.phase }, { on := 33, ground := Ground.phase }, { on := 34, ground := Ground.phase }, { on := 35, ground := Ground.phase }], guard := none }) (v := ?_) rfl ?_ (by assumption) ?_
    rotate_left 1
    ·
     intro w hSw; (try dsimp only at hSw); go_simp; try (with_reducible rfl)
    try simp only [Act.put, setIfInBounds_toArray, set_cons_zero, set_cons_succ]
    refine wpAnyH_done (by kernel_rfl) ?_ _
    go_wp2_with fail
    go_ret
    exact ⟨ret_bool Hr.out, (LK.out _ (by assumption)).1.1⟩
   | true =>
    cases gi with
    | false =>
     have Hr := Lib.hid (show false = g by rw [← Hg3.out]; rfl)
     refine wp_region_held_drew (S := (fun w' => w'.cell? ⟨w.heap.size, 0, none⟩ = some (.slice a p.A.length c1) ∧ w'.cell? ⟨w.heap.size, 1, none⟩ = some (.slice b p.B.length c2) ∧ w'.cell? ⟨w.heap.size, 2, none⟩ = some (.slice c p.C.length c3) ∧ w'.cell? ⟨w.heap.size + 1, 1, none⟩ = some (.slice ra X.length d1) ∧ w'.cell? ⟨w.heap.size + 1, 3, none⟩ = some (.slice rc Z.length d3) ∧ w'.cell? ⟨w2.heap.size, 0, none⟩ = some (.int .i64 D.1) ∧ L w')) (by kernel_rfl) ?_ (fun hHeld => ?_)
     ·
      exact Cell.out _ hin
     refine tkH (i := 0) (oi := { dst := some 64, op := Op.load 28 (Operand.tmp 2), type := 28, pos := "l05_lp.go:109", after := #[], guard := none }) (v := ?_) rfl ?_ (by assumption) ?_
     rotate_left 1
     ·
      intro w hSw; (try dsimp only at hSw); go_simp; try (with_reducible rfl)
     try simp only [Act.put, setIfInBounds_toArray, set_cons_zero, set_cons_succ]
     refine tkH (i := 1) (oi := { dst := some 65, op := Op.fieldAddr 32 (Operand.tmp 3) 1, type := 0, pos := "l05_lp.go:109", after := #[], guard := none }) (v := ?_) rfl ?_ (by assumption) ?_
     rotate_left 1
     ·
      intro w hSw; (try dsimp only at hSw); go_simp; try (with_reducible rfl)
     try simp only [Act.put, setIfInBounds_toArray, set_cons_zero, set_cons_succ]
     refine tkH (i := 2) (oi := { dst := some 66, op := Op.load 26 (Operand.tmp 65), type := 26, pos := "l05_lp.go:109", after := #[{ on := 1, ground := Ground.data }], guard := none }) (v := ?_) rfl ?_ (by assumption) ?_
     rotate_left 1
     ·
      intro w hSw; (try dsimp only at hSw); go_simp; try (with_reducible rfl)
     try simp only [Act.put, setIfInBounds_toArray, set_cons_zero, set_cons_succ]
     refine wpAnyH_ready (rs := [3]) (by kernel_rfl) (by simp) ?_
     refine AllReadyH.cons (o := { dst := some 67, op := Op.call { callee := Callee.value (Operand.func 14), args := #[Operand.tmp 64, Operand.tmp 66], argTypes := #[28, 26] }, type := 4, pos := "l05_lp.go:109", after := #[{ on := 0, ground := Ground.data }, { on := 2, ground := Ground.data }], guard := none }) (rs := []) rfl (fun K hK => ?_) AllReadyH.nil
     go_simp
     (go_at_call 14; refine (calls_k LS.out (Hfe.out _ (by assumption)) (by assumption)).mono ?_; rintro e w' ⟨rfl, hk5, hin5⟩)
     refine hK.out _ _ ?_ (fun hHeld => ?_)
     ·
      exact Cell.out _ (by assumption)
     clear hK K
     try simp only [Act.put, setIfInBounds_toArray, set_cons_zero, set_cons_succ]
     refine tkH (i := 4) (oi := { dst := some 68, op := Op.move (Operand.tmp 67), type := 4, pos := "l05_lp.go:109", after := #[{ on := 3, ground := Ground.data }, { on := 3, ground := Ground.chain }], guard := none }) (v := ?_) rfl ?_ (by assumption) ?_
     rotate_left 1
     ·
      intro w hSw; (try dsimp only at hSw); go_simp; try (with_reducible rfl)
     try simp only [Act.put, setIfInBounds_toArray, set_cons_zero, set_cons_succ]
     refine tkH (i := 5) (oi := { dst := some 69, op := Op.fieldAddr 32 (Operand.tmp 3) 3, type := 0, pos := "l05_lp.go:109", after := #[{ on := 4, ground := Ground.guard }], guard := some (4, true) }) (v := ?_) rfl ?_ (by assumption) ?_
     rotate_left 1
     ·
      intro w hSw; (try dsimp only at hSw); go_simp; try (with_reducible rfl)
     try simp only [Act.put, setIfInBounds_toArray, set_cons_zero, set_cons_succ]
     refine tkH (i := 6) (oi := { dst := some 70, op := Op.load 26 (Operand.tmp 69), type := 26, pos := "l05_lp.go:109", after := #[{ on := 5, ground := Ground.data }, { on := 4, ground := Ground.guard }], guard := some (4, true) }) (v := ?_) rfl ?_ (by assumption) ?_
     rotate_left 1
     ·
      intro w hSw; (try dsimp only at hSw); go_simp; try (with_reducible rfl)
     try simp only [Act.put, setIfInBounds_toArray, set_cons_zero, set_cons_succ]
     refine tkH (i := 7) (oi := { dst := some 71, op := Op.call { callee := Callee.builtin Builtin.len, args := #[Operand.tmp 70], argTypes := #[26] }, type := 3, pos := "l05_lp.go:109", after := #[{ on := 6, ground := Ground.data }, { on := 4, ground := Ground.guard }], guard := some (4, true) }) (v := ?_) rfl ?_ (by assumption) ?_
     rotate_left 1
     ·
      intro w hSw; (try dsimp only at hSw); go_simp; try (with_reducible rfl)
     try simp only [Act.put, setIfInBounds_toArray, set_cons_zero, set_cons_succ]
     refine tkH (i := 8) (oi := { dst := some 72, op := Op.fieldAddr 28 (Operand.tmp 2) 2, type := 0, pos := "l05_lp.go:109", after := #[{ on := 4, ground := Ground.guard }], guard := some (4, true) }) (v := ?_) rfl ?_ (by assumption) ?_
     rotate_left 1
     ·
      intro w hSw; (try dsimp only at hSw); go_simp; try (with_reducible rfl)
     try simp only [Act.put, setIfInBounds_toArray, set_cons_zero, set_cons_succ]
     refine tkH (i := 9) (oi := { dst := some 73, op := Op.load 26 (Operand.tmp 72), type := 26, pos := "l05_lp.go:109", after := #[{ on := 8, ground := Ground.data }, { on := 4, ground := Ground.guard }], guard := some (4, true) }) (v := ?_) rfl ?_ (by assumption) ?_
     rotate_left 1
     ·
      intro w hSw; (try dsimp only at hSw); go_simp; try (with_reducible rfl)
     try simp only [Act.put, setIfInBounds_toArray, set_cons_zero, set_cons_succ]
     refine tkH (i := 10) (oi := { dst := some 74, op := Op.call { callee := Callee.builtin Builtin.len, args := #[Operand.tmp 73], argTypes := #[26] }, type := 3, pos := "l05_lp.go:109", after := #[{ on := 9, ground := Ground.data }, { on := 4, ground := Ground.guard }], guard := some (4, true) }) (v := ?_) rfl ?_ (by assumption) ?_
     rotate_left 1
     ·
      intro w hSw; (try dsimp only at hSw); go_simp; try (with_reducible rfl)
     try simp only [Act.put, setIfInBounds_toArray, set_cons_zero, set_cons_succ]
     refine tkH (i := 11) (oi := { dst := some 75, op := Op.binOp BinOp.eql 3 (Operand.tmp 71) (Operand.tmp 74) 3, type := 4, pos := "l05_lp.go:109", after := #[{ on := 7, ground := Ground.data }, { on := 10, ground := Ground.data }, { on := 4, ground := Ground.guard }], guard := some (4, true) }) (v := ?_) rfl ?_ (by assumption) ?_
     rotate_left 1
     ·
      intro w hSw; (try dsimp only at hSw); go_simp; try (with_reducible rfl)
     try simp only [Act.put, setIfInBounds_toArray, set_cons_zero, set_cons_succ]
     refine tkH (i := 12) (oi := { dst := some 76, op := Op.pick (Operand.tmp 68) (Operand.tmp 75) (Operand.const (Value.bool false)), type := 4, pos := "l05_lp.go:109", after := #[{ on := 4, ground := Ground.data }, { on := 11, ground := Ground.data }], guard := none }) (v := ?_) rfl ?_ (by assumption) ?_
     rotate_left 1
     ·
      intro w hSw; (try dsimp only at hSw); go_simp; try (with_reducible rfl)
     try simp only [Act.put, setIfInBounds_toArray, set_cons_zero, set_cons_succ]
     refine tkH (i := 13) (oi := { dst := some 77, op := Op.move (Operand.tmp 76), type := 4, pos := "l05_lp.go:109", after := #[{ on := 12, ground := Ground.data }, { on := 4, ground := Ground.chain }], guard := none }) (v := ?_) rfl ?_ (by assumption) ?_
     rotate_left 1
     ·
      intro w hSw; (try dsimp only at hSw); go_simp; try (with_reducible rfl)
     try simp only [Act.put, setIfInBounds_toArray, set_cons_zero, set_cons_succ]
     refine tkH (i := 14) (oi := { dst := some 78, op := Op.fieldAddr 32 (Operand.tmp 3) 3, type := 0, pos := "l05_lp.go:109", after := #[{ on := 13, ground := Ground.guard }], guard := some (13, true) }) (v := ?_) rfl ?_ (by assumption) ?_
     rotate_left 1
     ·
      intro w hSw; (try dsimp only at hSw); go_simp; try (with_reducible rfl)
     try simp only [Act.put, setIfInBounds_toArray, set_cons_zero, set_cons_succ]
     refine tkH (i := 15) (oi := { dst := some 79, op := Op.load 26 (Operand.tmp 78), type := 26, pos := "l05_lp.go:109", after := #[{ on := 14, ground := Ground.data }, { on := 13, ground := Ground.guard }], guard := some (13, true) }) (v := ?_) rfl ?_ (by assumption) ?_
     rotate_left 1
     ·
      intro w hSw; (try dsimp only at hSw); go_simp; try (with_reducible rfl)
     try simp only [Act.put, setIfInBounds_toArray, set_cons_zero, set_cons_succ]
     refine wpAnyH_ready (rs := [16]) (by kernel_rfl) (by simp) ?_
     refine AllReadyH.cons (o := { dst := some 80, op := Op.call { callee := Callee.value (Operand.func 31), args := #[Operand.tmp 79], argTypes := #[26] }, type := 4, pos := "l05_lp.go:109", after := #[{ on := 15, ground := Ground.data }, { on := 13, ground := Ground.chain }, { on := 13, ground := Ground.guard }], guard := some (13, true) }) (rs := []) rfl (fun K hK => ?_) AllReadyH.nil
     go_simp
     (go_at_call 31; refine (calls_k LS.out (Hnn.out _ (by assumption)) (by assumption)).mono ?_; rintro e w' ⟨rfl, hk6, hin6⟩)
     refine hK.out _ _ ?_ (fun hHeld => ?_)
     ·
      exact Cell.out _ (by assumption)
     clear hK K
     try simp only [Act.put, setIfInBounds_toArray, set_cons_zero, set_cons_succ]
     refine tkH (i := 17) (oi := { dst := some 81, op := Op.pick (Operand.tmp 77) (Operand.tmp 80) (Operand.const (Value.bool false)), type := 4, pos := "l05_lp.go:109", after := #[{ on := 13, ground := Ground.data }, { on := 16, ground := Ground.data }], guard := none }) (v := ?_) rfl ?_ (by assumption) ?_
     rotate_left 1
     ·
      intro w hSw; (try dsimp only at hSw); go_simp; try (with_reducible rfl)
     try simp only [Act.put, setIfInBounds_toArray, set_cons_zero, set_cons_succ]
     refine tkH (i := 18) (oi := { dst := some 82, op := Op.move (Operand.tmp 81), type := 4, pos := "l05_lp.go:109", after := #[{ on := 17, ground := Ground.data }, { on := 16, ground := Ground.chain }], guard := none }) (v := ?_) rfl ?_ (by assumption) ?_
     rotate_left 1
     ·
      intro w hSw; (try dsimp only at hSw); go_simp; try (with_reducible rfl)
     try simp only [Act.put, setIfInBounds_toArray, set_cons_zero, set_cons_succ]
     refine tkH (i := 19) (oi := { dst := some 83, op := Op.load 28 (Operand.tmp 2), type := 28, pos := "l05_lp.go:109", after := #[{ on := 18, ground := Ground.guard }], guard := some (18, true) }) (v := ?_) rfl ?_ (by assumption) ?_
     rotate_left 1
     ·
      intro w hSw; (try dsimp only at hSw); go_simp; try (with_reducible rfl)
     try simp only [Act.put, setIfInBounds_toArray, set_cons_zero, set_cons_succ]
     refine tkH (i := 20) (oi := { dst := some 84, op := Op.fieldAddr 32 (Operand.tmp 3) 3, type := 0, pos := "l05_lp.go:109", after := #[{ on := 18, ground := Ground.guard }], guard := some (18, true) }) (v := ?_) rfl ?_ (by assumption) ?_
     rotate_left 1
     ·
      intro w hSw; (try dsimp only at hSw); go_simp; try (with_reducible rfl)
     try simp only [Act.put, setIfInBounds_toArray, set_cons_zero, set_cons_succ]
     refine tkH (i := 21) (oi := { dst := some 85, op := Op.load 26 (Operand.tmp 84), type := 26, pos := "l05_lp.go:109", after := #[{ on := 20, ground := Ground.data }, { on := 18, ground := Ground.guard }], guard := some (18, true) }) (v := ?_) rfl ?_ (by assumption) ?_
     rotate_left 1
     ·
      intro w hSw; (try dsimp only at hSw); go_simp; try (with_reducible rfl)
     try simp only [Act.put, setIfInBounds_toArray, set_cons_zero, set_cons_succ]
     refine tkH (i := 22) (oi := { dst := some 86, op := Op.fieldAddr 28 (Operand.tmp 2) 1, type := 0, pos := "l05_lp.go:109", after := #[{ on := 18, ground := Ground.guard }], guard := some (18, true) }) (v := ?_) rfl ?_ (by assumption) ?_
     rotate_left 1
     ·
      intro w hSw; (try dsimp only at hSw); go_simp; try (with_reducible rfl)
     try simp only [Act.put, setIfInBounds_toArray, set_cons_zero, set_cons_succ]
     refine tkH (i := 23) (oi := { dst := some 87, op := Op.load 25 (Operand.tmp 86), type := 25, pos := "l05_lp.go:109", after := #[{ on := 22, ground := Ground.data }, { on := 18, ground := Ground.guard }], guard := some (18, true) }) (v := ?_) rfl ?_ (by assumption) ?_
     rotate_left 1
     ·
      intro w hSw; (try dsimp only at hSw); go_simp; try (with_reducible rfl)
     try simp only [Act.put, setIfInBounds_toArray, set_cons_zero, set_cons_succ]
     refine tkH (i := 24) (oi := { dst := some 88, op := Op.call { callee := Callee.builtin Builtin.len, args := #[Operand.tmp 87], argTypes := #[25] }, type := 3, pos := "l05_lp.go:109", after := #[{ on := 23, ground := Ground.data }, { on := 18, ground := Ground.guard }], guard := some (18, true) }) (v := ?_) rfl ?_ (by assumption) ?_
     rotate_left 1
     ·
      intro w hSw; (try dsimp only at hSw); go_simp; try (with_reducible rfl)
     try simp only [Act.put, setIfInBounds_toArray, set_cons_zero, set_cons_succ]
     refine wpAnyH_ready (rs := [25]) (by kernel_rfl) (by simp) ?_
     refine AllReadyH.cons (o := { dst := some 89, op := Op.makeSlice 25 (Operand.tmp 88) (Operand.tmp 88), type := 25, pos := "l05_lp.go:109", after := #[{ on := 24, ground := Ground.data }, { on := 24, ground := Ground.data }, { on := 18, ground := Ground.guard }], guard := some (18, true) }) (rs := []) rfl (fun K hK => ?_) AllReadyH.nil
     (refine step_make_full (by kernel_rfl) (.tmp 88) (.tmp 88) 25 rfl _ 3 i0 (.int .i64 0) 1 Try.underlying25 HI.out HZ0.out HZ1.out rfl .i64 .i64 _ _ p.B.length rfl rfl rfl rfl (by rw [HZ2.out]; omega) (by unfold maxLen; omega) (Nat.le_refl _) ?_; intro w9 hown hgrow; have hin9 := LS.out _ _ (below_made hgrow) (by assumption : L _); have ho9 := zeros_own hown; obtain ⟨zb, zc, hzv, hzr, hza, _⟩ := own_reads ho9; obtain ⟨rfl, rfl⟩ := slice_inj hzv; have hzn := NumsIn.of_ints (B := w9.heap.size) hzr fun q hq => (hza q hq).2; clear hown hgrow ho9 hzr hza hzv)
     refine hK.out _ _ ?_ (fun hHeld => ?_)
     ·
      exact Cell.out _ (by assumption)
     clear hK K
     try simp only [Act.put, setIfInBounds_toArray, set_cons_zero, set_cons_succ]
     refine wpAnyH_ready (rs := [26]) (by kernel_rfl) (by simp) ?_
     refine AllReadyH.cons (o := { dst := some 90, op := Op.call { callee := Callee.value (Operand.func 32), args := #[Operand.tmp 83, Operand.tmp 85, Operand.tmp 89], argTypes := #[28, 26, 25] }, type := 4, pos := "l05_lp.go:109", after := #[{ on := 19, ground := Ground.data }, { on := 21, ground := Ground.data }, { on := 25, ground := Ground.data }, { on := 18, ground := Ground.chain }, { on := 18, ground := Ground.guard }], guard := some (18, true) }) (rs := []) rfl (fun K hK => ?_) AllReadyH.nil
     go_simp
     (go_at_call 32; refine (calls_k LS.out (Hgi.out _ (by assumption) _ _ (by assumption)) (by assumption)).mono ?_; rintro e w' ⟨rfl, hk7, hin7⟩)
     refine hK.out _ _ ?_ (fun hHeld => ?_)
     ·
      exact Cell.out _ (by assumption)
     clear hK K
     try simp only [Act.put, setIfInBounds_toArray, set_cons_zero, set_cons_succ]
     refine tkH (i := 27) (oi := { dst := some 91, op := Op.pick (Operand.tmp 82) (Operand.tmp 90) (Operand.const (Value.bool false)), type := 4, pos := "l05_lp.go:109", after := #[{ on := 18, ground := Ground.data }, { on := 26, ground := Ground.data }], guard := none }) (v := ?_) rfl ?_ (by assumption) ?_
     rotate_left 1
     ·
      intro w hSw; (try dsimp only at hSw); go_simp; try (with_reducible rfl)
     try simp only [Act.put, setIfInBounds_toArray, set_cons_zero, set_cons_succ]
     refine tkH (i := 28) (oi := { dst := some 92, op := Op.move (Operand.tmp 91), type := 4, pos := "l05_lp.go:109", after := #[{ on := 27, ground := Ground.data }, { on := 26, ground := Ground.chain }], guard := none }) (v := ?_) rfl ?_ (by assumption) ?_
     rotate_left 1
     ·
      intro w hSw; (try dsimp only at hSw); go_simp; try (with_reducible rfl)
     try simp only [Act.put, setIfInBounds_toArray, set_cons_zero, set_cons_succ]
     refine tkHu (i := 29) (oi := { dst := some 93, op := Op.move (Operand.tmp 8), type := 4, pos := "l05_lp.go:109", after := #[{ on := 28, ground := Ground.guard }], guard := some (28, true) }) rfl (by assumption) ?_
     try simp only [Act.put, setIfInBounds_toArray, set_cons_zero, set_cons_succ]
     refine tkH (i := 30) (oi := { dst := some 94, op := Op.pick (Operand.tmp 92) (Operand.tmp 93) (Operand.const (Value.bool false)), type := 4, pos := "l05_lp.go:109", after := #[{ on := 28, ground := Ground.data }, { on := 29, ground := Ground.data }], guard := none }) (v := ?_) rfl ?_ (by assumption) ?_
     rotate_left 1
     ·
      intro w hSw; (try dsimp only at hSw); go_simp; try (with_reducible rfl)
     try simp only [Act.put, setIfInBounds_toArray, set_cons_zero, set_cons_succ]
     refine tkH (i := 31) (oi := { dst := some 95, op := Op.move (Operand.tmp 94), type := 4, pos := "l05_lp.go:109", after := #[{ on := 30, ground := Ground.data }, { on := 28, ground := Ground.chain }], guard := none }) (v := ?_) rfl ?_ (by assumption) ?_
     rotate_left 1
     ·
      intro w hSw; (try dsimp only at hSw); go_simp; try (with_reducible rfl)
     try simp only [Act.put, setIfInBounds_toArray, set_cons_zero, set_cons_succ]
     refine tkHu (i := 32) (oi := { dst := some 96, op := Op.fieldAddr 30 (Operand.tmp 7) 0, type := 0, pos := "l05_lp.go:109", after := #[{ on := 31, ground := Ground.guard }], guard := some (31, true) }) rfl (by assumption) ?_
     try simp only [Act.put, setIfInBounds_toArray, set_cons_zero, set_cons_succ]
     refine tkHu (i := 33) (oi := { dst := some 97, op := Op.load 3 (Operand.tmp 96), type := 3, pos := "l05_lp.go:109", after := #[{ on := 32, ground := Ground.data }, { on := 31, ground := Ground.guard }], guard := some (31, true) }) rfl (by assumption) ?_
     try simp only [Act.put, setIfInBounds_toArray, set_cons_zero, set_cons_succ]
     refine tkHu (i := 34) (oi := { dst := some 98, op := Op.binOp BinOp.lss 3 (Operand.tmp 97) (Operand.const (Value.int IntKind.i64 0)) 3, type := 4, pos := "l05_lp.go:109", after := #[{ on := 33, ground := Ground.data }, { on := 31, ground := Ground.guard }], guard := some (31, true) }) rfl (by assumption) ?_
     try simp only [Act.put, setIfInBounds_toArray, set_cons_zero, set_cons_succ]
     refine tkH (i := 35) (oi := { dst := some 99, op := Op.pick (Operand.tmp 95) (Operand.tmp 98) (Operand.const (Value.bool false)), type := 4, pos := "l05_lp.go:109", after := #[{ on := 31, ground := Ground.data }, { on := 34, ground := Ground.data }], guard := none }) (v := ?_) rfl ?_ (by assumption) ?_
     rotate_left 1
     ·
      intro w hSw; (try dsimp only at hSw); go_simp; try (with_reducible rfl)
     try simp only [Act.put, setIfInBounds_toArray, set_cons_zero, set_cons_succ]
     refine tkH (i := 36) (oi := { dst := some 4, op := Op.assign (Operand.tmp 99), type := 4, pos := "l05_lp.go:109", after := #[{ on := 35, ground := Ground.data }, { on := 31, ground := Ground.chain }, { on := 0, ground := Ground.phase }, { on := 1, ground := Ground.phase }, { on := 2, ground := Ground.phase }, { on := 3, ground := Ground.phase }, { on := 4, ground := Ground.phase }, { on := 5, ground := Ground.phase }, { on := 6, ground := Ground.phase }, { on := 7, ground := Ground.phase }, { on := 8, ground := Ground.phase }, { on := 9, ground := Ground.phase }, { on := 10, ground := Ground.phase }, { on := 11, ground := Ground.phase }, { on := 12, ground := Ground.phase }, { on := 13, ground := Ground.phase }, { on := 14, ground := Ground.phase }, { on := 15, ground := Ground.phase }, { on := 16, ground := Ground.phase }, { on := 17, ground := Ground.phase }, { on := 18, ground := Ground.phase }, { on := 19, ground := Ground.phase }, { on := 20, ground := Ground.phase }, { on := 21, ground := Ground.phase }, { on := 22, ground := Ground.phase }, { on := 23, ground := Ground.phase }, { on := 24, ground := Ground.phase }, { on := 25, ground := Ground.phase }, { on := 26, ground := Ground.phase }, { on := 27, ground := Ground.phase }, { on := 28, ground := Ground.phase }, { on := 29, ground := Ground.phase }, { on := 30, ground := Ground.phase }, { on := 31, ground := Ground.phase }, { on := 32, ground := Ground.phase }, { on := 33, ground := Ground.phase }, { on := 34, ground := Ground.phase }, { on := 35, ground := Ground.phase }], guard := none }) (v := ?_) rfl ?_ (by assumption) ?_
     rotate_left 1
     ·
      intro w hSw; (try dsimp only at hSw); go_simp; try (with_reducible rfl)
     try simp only [Act.put, setIfInBounds_toArray, set_cons_zero, set_cons_succ]
     refine wpAnyH_done (by kernel_rfl) ?_ _
     go_wp2_with fail
     go_ret
     exact ⟨ret_bool Hr.out, (LK.out _ (by assumption)).1.1⟩
    | true =>
     cases K with
     | false =>
      have Hr := Lib.hid (show false = g by rw [← Hg3.out]; rfl)
      refine wp_region_held_drew (S := (fun w' => w'.cell? ⟨w.heap.size, 0, none⟩ = some (.slice a p.A.length c1) ∧ w'.cell? ⟨w.heap.size, 1, none⟩ = some (.slice b p.B.length c2) ∧ w'.cell? ⟨w.heap.size, 2, none⟩ = some (.slice c p.C.length c3) ∧ w'.cell? ⟨w.heap.size + 1, 1, none⟩ = some (.slice ra X.length d1) ∧ w'.cell? ⟨w.heap.size + 1, 3, none⟩ = some (.slice rc Z.length d3) ∧ w'.cell? ⟨w2.heap.size, 0, none⟩ = some (.int .i64 D.1) ∧ L w')) (by kernel_rfl) ?_ (fun hHeld => ?_)
      ·
       exact Cell.out _ hin
      refine tkH (i := 0) (oi := { dst := some 64, op := Op.load 28 (Operand.tmp 2), type := 28, pos := "l05_lp.go:109", after := #[], guard := none }) (v := ?_) rfl ?_ (by assumption) ?_
      rotate_left 1
      ·
       intro w hSw; (try dsimp only at hSw); go_simp; try (with_reducible rfl)
      try simp only [Act.put, setIfInBounds_toArray, set_cons_zero, set_cons_succ]
      refine tkH (i := 1) (oi := { dst := some 65, op := Op.fieldAddr 32 (Operand.tmp 3) 1, type := 0, pos := "l05_lp.go:109", after := #[], guard := none }) (v := ?_) rfl ?_ (by assumption) ?_
      rotate_left 1
      ·
       intro w hSw; (try dsimp only at hSw); go_simp; try (with_reducible rfl)
      try simp only [Act.put, setIfInBounds_toArray, set_cons_zero, set_cons_succ]
      refine tkH (i := 2) (oi := { dst := some 66, op := Op.load 26 (Operand.tmp 65), type := 26, pos := "l05_lp.go:109", after := #[{ on := 1, ground := Ground.data }], guard := none }) (v := ?_) rfl ?_ (by assumption) ?_
      rotate_left 1
      ·
       intro w hSw; (try dsimp only at hSw); go_simp; try (with_reducible rfl)
      try simp only [Act.put, setIfInBounds_toArray, set_cons_zero, set_cons_succ]
      refine wpAnyH_ready (rs := [3]) (by kernel_rfl) (by simp) ?_
      refine AllReadyH.cons (o := { dst := some 67, op := Op.call { callee := Callee.value (Operand.func 14), args := #[Operand.tmp 64, Operand.tmp 66], argTypes := #[28, 26] }, type := 4, pos := "l05_lp.go:109", after := #[{ on := 0, ground := Ground.data }, { on := 2, ground := Ground.data }], guard := none }) (rs := []) rfl (fun K hK => ?_) AllReadyH.nil
      go_simp
      (go_at_call 14; refine (calls_k LS.out (Hfe.out _ (by assumption)) (by assumption)).mono ?_; rintro e w' ⟨rfl, hk5, hin5⟩)
      refine hK.out _ _ ?_ (fun hHeld => ?_)
      ·
       exact Cell.out _ (by assumption)
      clear hK K
      try simp only [Act.put, setIfInBounds_toArray, set_cons_zero, set_cons_succ]
      refine tkH (i := 4) (oi := { dst := some 68, op := Op.move (Operand.tmp 67), type := 4, pos := "l05_lp.go:109", after := #[{ on := 3, ground := Ground.data }, { on := 3, ground := Ground.chain }], guard := none }) (v := ?_) rfl ?_ (by assumption) ?_
      rotate_left 1
      ·
       intro w hSw; (try dsimp only at hSw); go_simp; try (with_reducible rfl)
      try simp only [Act.put, setIfInBounds_toArray, set_cons_zero, set_cons_succ]
      refine tkH (i := 5) (oi := { dst := some 69, op := Op.fieldAddr 32 (Operand.tmp 3) 3, type := 0, pos := "l05_lp.go:109", after := #[{ on := 4, ground := Ground.guard }], guard := some (4, true) }) (v := ?_) rfl ?_ (by assumption) ?_
      rotate_left 1
      ·
       intro w hSw; (try dsimp only at hSw); go_simp; try (with_reducible rfl)
      try simp only [Act.put, setIfInBounds_toArray, set_cons_zero, set_cons_succ]
      refine tkH (i := 6) (oi := { dst := some 70, op := Op.load 26 (Operand.tmp 69), type := 26, pos := "l05_lp.go:109", after := #[{ on := 5, ground := Ground.data }, { on := 4, ground := Ground.guard }], guard := some (4, true) }) (v := ?_) rfl ?_ (by assumption) ?_
      rotate_left 1
      ·
       intro w hSw; (try dsimp only at hSw); go_simp; try (with_reducible rfl)
      try simp only [Act.put, setIfInBounds_toArray, set_cons_zero, set_cons_succ]
      refine tkH (i := 7) (oi := { dst := some 71, op := Op.call { callee := Callee.builtin Builtin.len, args := #[Operand.tmp 70], argTypes := #[26] }, type := 3, pos := "l05_lp.go:109", after := #[{ on := 6, ground := Ground.data }, { on := 4, ground := Ground.guard }], guard := some (4, true) }) (v := ?_) rfl ?_ (by assumption) ?_
      rotate_left 1
      ·
       intro w hSw; (try dsimp only at hSw); go_simp; try (with_reducible rfl)
      try simp only [Act.put, setIfInBounds_toArray, set_cons_zero, set_cons_succ]
      refine tkH (i := 8) (oi := { dst := some 72, op := Op.fieldAddr 28 (Operand.tmp 2) 2, type := 0, pos := "l05_lp.go:109", after := #[{ on := 4, ground := Ground.guard }], guard := some (4, true) }) (v := ?_) rfl ?_ (by assumption) ?_
      rotate_left 1
      ·
       intro w hSw; (try dsimp only at hSw); go_simp; try (with_reducible rfl)
      try simp only [Act.put, setIfInBounds_toArray, set_cons_zero, set_cons_succ]
      refine tkH (i := 9) (oi := { dst := some 73, op := Op.load 26 (Operand.tmp 72), type := 26, pos := "l05_lp.go:109", after := #[{ on := 8, ground := Ground.data }, { on := 4, ground := Ground.guard }], guard := some (4, true) }) (v := ?_) rfl ?_ (by assumption) ?_
      rotate_left 1
      ·
       intro w hSw; (try dsimp only at hSw); go_simp; try (with_reducible rfl)
      try simp only [Act.put, setIfInBounds_toArray, set_cons_zero, set_cons_succ]
      refine tkH (i := 10) (oi := { dst := some 74, op := Op.call { callee := Callee.builtin Builtin.len, args := #[Operand.tmp 73], argTypes := #[26] }, type := 3, pos := "l05_lp.go:109", after := #[{ on := 9, ground := Ground.data }, { on := 4, ground := Ground.guard }], guard := some (4, true) }) (v := ?_) rfl ?_ (by assumption) ?_
      rotate_left 1
      ·
       intro w hSw; (try dsimp only at hSw); go_simp; try (with_reducible rfl)
      try simp only [Act.put, setIfInBounds_toArray, set_cons_zero, set_cons_succ]
      refine tkH (i := 11) (oi := { dst := some 75, op := Op.binOp BinOp.eql 3 (Operand.tmp 71) (Operand.tmp 74) 3, type := 4, pos := "l05_lp.go:109", after := #[{ on := 7, ground := Ground.data }, { on := 10, ground := Ground.data }, { on := 4, ground := Ground.guard }], guard := some (4, true) }) (v := ?_) rfl ?_ (by assumption) ?_
      rotate_left 1
      ·
       intro w hSw; (try dsimp only at hSw); go_simp; try (with_reducible rfl)
      try simp only [Act.put, setIfInBounds_toArray, set_cons_zero, set_cons_succ]
      refine tkH (i := 12) (oi := { dst := some 76, op := Op.pick (Operand.tmp 68) (Operand.tmp 75) (Operand.const (Value.bool false)), type := 4, pos := "l05_lp.go:109", after := #[{ on := 4, ground := Ground.data }, { on := 11, ground := Ground.data }], guard := none }) (v := ?_) rfl ?_ (by assumption) ?_
      rotate_left 1
      ·
       intro w hSw; (try dsimp only at hSw); go_simp; try (with_reducible rfl)
      try simp only [Act.put, setIfInBounds_toArray, set_cons_zero, set_cons_succ]
      refine tkH (i := 13) (oi := { dst := some 77, op := Op.move (Operand.tmp 76), type := 4, pos := "l05_lp.go:109", after := #[{ on := 12, ground := Ground.data }, { on := 4, ground := Ground.chain }], guard := none }) (v := ?_) rfl ?_ (by assumption) ?_
      rotate_left 1
      ·
       intro w hSw; (try dsimp only at hSw); go_simp; try (with_reducible rfl)
      try simp only [Act.put, setIfInBounds_toArray, set_cons_zero, set_cons_succ]
      refine tkH (i := 14) (oi := { dst := some 78, op := Op.fieldAddr 32 (Operand.tmp 3) 3, type := 0, pos := "l05_lp.go:109", after := #[{ on := 13, ground := Ground.guard }], guard := some (13, true) }) (v := ?_) rfl ?_ (by assumption) ?_
      rotate_left 1
      ·
       intro w hSw; (try dsimp only at hSw); go_simp; try (with_reducible rfl)
      try simp only [Act.put, setIfInBounds_toArray, set_cons_zero, set_cons_succ]
      refine tkH (i := 15) (oi := { dst := some 79, op := Op.load 26 (Operand.tmp 78), type := 26, pos := "l05_lp.go:109", after := #[{ on := 14, ground := Ground.data }, { on := 13, ground := Ground.guard }], guard := some (13, true) }) (v := ?_) rfl ?_ (by assumption) ?_
      rotate_left 1
      ·
       intro w hSw; (try dsimp only at hSw); go_simp; try (with_reducible rfl)
      try simp only [Act.put, setIfInBounds_toArray, set_cons_zero, set_cons_succ]
      refine wpAnyH_ready (rs := [16]) (by kernel_rfl) (by simp) ?_
      refine AllReadyH.cons (o := { dst := some 80, op := Op.call { callee := Callee.value (Operand.func 31), args := #[Operand.tmp 79], argTypes := #[26] }, type := 4, pos := "l05_lp.go:109", after := #[{ on := 15, ground := Ground.data }, { on := 13, ground := Ground.chain }, { on := 13, ground := Ground.guard }], guard := some (13, true) }) (rs := []) rfl (fun K hK => ?_) AllReadyH.nil
      go_simp
      (go_at_call 31; refine (calls_k LS.out (Hnn.out _ (by assumption)) (by assumption)).mono ?_; rintro e w' ⟨rfl, hk6, hin6⟩)
      refine hK.out _ _ ?_ (fun hHeld => ?_)
      ·
       exact Cell.out _ (by assumption)
      clear hK K
      try simp only [Act.put, setIfInBounds_toArray, set_cons_zero, set_cons_succ]
      refine tkH (i := 17) (oi := { dst := some 81, op := Op.pick (Operand.tmp 77) (Operand.tmp 80) (Operand.const (Value.bool false)), type := 4, pos := "l05_lp.go:109", after := #[{ on := 13, ground := Ground.data }, { on := 16, ground := Ground.data }], guard := none }) (v := ?_) rfl ?_ (by assumption) ?_
      rotate_left 1
      ·
       intro w hSw; (try dsimp only at hSw); go_simp; try (with_reducible rfl)
      try simp only [Act.put, setIfInBounds_toArray, set_cons_zero, set_cons_succ]
      refine tkH (i := 18) (oi := { dst := some 82, op := Op.move (Operand.tmp 81), type := 4, pos := "l05_lp.go:109", after := #[{ on := 17, ground := Ground.data }, { on := 16, ground := Ground.chain }], guard := none }) (v := ?_) rfl ?_ (by assumption) ?_
      rotate_left 1
      ·
       intro w hSw; (try dsimp only at hSw); go_simp; try (with_reducible rfl)
      try simp only [Act.put, setIfInBounds_toArray, set_cons_zero, set_cons_succ]
      refine tkH (i := 19) (oi := { dst := some 83, op := Op.load 28 (Operand.tmp 2), type := 28, pos := "l05_lp.go:109", after := #[{ on := 18, ground := Ground.guard }], guard := some (18, true) }) (v := ?_) rfl ?_ (by assumption) ?_
      rotate_left 1
      ·
       intro w hSw; (try dsimp only at hSw); go_simp; try (with_reducible rfl)
      try simp only [Act.put, setIfInBounds_toArray, set_cons_zero, set_cons_succ]
      refine tkH (i := 20) (oi := { dst := some 84, op := Op.fieldAddr 32 (Operand.tmp 3) 3, type := 0, pos := "l05_lp.go:109", after := #[{ on := 18, ground := Ground.guard }], guard := some (18, true) }) (v := ?_) rfl ?_ (by assumption) ?_
      rotate_left 1
      ·
       intro w hSw; (try dsimp only at hSw); go_simp; try (with_reducible rfl)
      try simp only [Act.put, setIfInBounds_toArray, set_cons_zero, set_cons_succ]
      refine tkH (i := 21) (oi := { dst := some 85, op := Op.load 26 (Operand.tmp 84), type := 26, pos := "l05_lp.go:109", after := #[{ on := 20, ground := Ground.data }, { on := 18, ground := Ground.guard }], guard := some (18, true) }) (v := ?_) rfl ?_ (by assumption) ?_
      rotate_left 1
      ·
       intro w hSw; (try dsimp only at hSw); go_simp; try (with_reducible rfl)
      try simp only [Act.put, setIfInBounds_toArray, set_cons_zero, set_cons_succ]
      refine tkH (i := 22) (oi := { dst := some 86, op := Op.fieldAddr 28 (Operand.tmp 2) 1, type := 0, pos := "l05_lp.go:109", after := #[{ on := 18, ground := Ground.guard }], guard := some (18, true) }) (v := ?_) rfl ?_ (by assumption) ?_
      rotate_left 1
      ·
       intro w hSw; (try dsimp only at hSw); go_simp; try (with_reducible rfl)
      try simp only [Act.put, setIfInBounds_toArray, set_cons_zero, set_cons_succ]
      refine tkH (i := 23) (oi := { dst := some 87, op := Op.load 25 (Operand.tmp 86), type := 25, pos := "l05_lp.go:109", after := #[{ on := 22, ground := Ground.data }, { on := 18, ground := Ground.guard }], guard := some (18, true) }) (v := ?_) rfl ?_ (by assumption) ?_
      rotate_left 1
      ·
       intro w hSw; (try dsimp only at hSw); go_simp; try (with_reducible rfl)
      try simp only [Act.put, setIfInBounds_toArray, set_cons_zero, set_cons_succ]
      refine tkH (i := 24) (oi := { dst := some 88, op := Op.call { callee := Callee.builtin Builtin.len, args := #[Operand.tmp 87], argTypes := #[25] }, type := 3, pos := "l05_lp.go:109", after := #[{ on := 23, ground := Ground.data }, { on := 18, ground := Ground.guard }], guard := some (18, true) }) (v := ?_) rfl ?_ (by assumption) ?_
      rotate_left 1
      ·
       intro w hSw; (try dsimp only at hSw); go_simp; try (with_reducible rfl)
      try simp only [Act.put, setIfInBounds_toArray, set_cons_zero, set_cons_succ]
      refine wpAnyH_ready (rs := [25]) (by kernel_rfl) (by simp) ?_
      refine AllReadyH.cons (o := { dst := some 89, op := Op.makeSlice 25 (Operand.tmp 88) (Operand.tmp 88), type := 25, pos := "l05_lp.go:109", after := #[{ on := 24, ground := Ground.data }, { on := 24, ground := Ground.data }, { on := 18, ground := Ground.guard }], guard := some (18, true) }) (rs := []) rfl (fun K hK => ?_) AllReadyH.nil
      (refine step_make_full (by kernel_rfl) (.tmp 88) (.tmp 88) 25 rfl _ 3 i0 (.int .i64 0) 1 Try.underlying25 HI.out HZ0.out HZ1.out rfl .i64 .i64 _ _ p.B.length rfl rfl rfl rfl (by rw [HZ2.out]; omega) (by unfold maxLen; omega) (Nat.le_refl _) ?_; intro w9 hown hgrow; have hin9 := LS.out _ _ (below_made hgrow) (by assumption : L _); have ho9 := zeros_own hown; obtain ⟨zb, zc, hzv, hzr, hza, _⟩ := own_reads ho9; obtain ⟨rfl, rfl⟩ := slice_inj hzv; have hzn := NumsIn.of_ints (B := w9.heap.size) hzr fun q hq => (hza q hq).2; clear hown hgrow ho9 hzr hza hzv)
      refine hK.out _ _ ?_ (fun hHeld => ?_)
      ·
       exact Cell.out _ (by assumption)
      clear hK K
      try simp only [Act.put, setIfInBounds_toArray, set_cons_zero, set_cons_succ]
      refine wpAnyH_ready (rs := [26]) (by kernel_rfl) (by simp) ?_
      refine AllReadyH.cons (o := { dst := some 90, op := Op.call { callee := Callee.value (Operand.func 32), args := #[Operand.tmp 83, Operand.tmp 85, Operand.tmp 89], argTypes := #[28, 26, 25] }, type := 4, pos := "l05_lp.go:109", after := #[{ on := 19, ground := Ground.data }, { on := 21, ground := Ground.data }, { on := 25, ground := Ground.data }, { on := 18, ground := Ground.chain }, { on := 18, ground := Ground.guard }], guard := some (18, true) }) (rs := []) rfl (fun K hK => ?_) AllReadyH.nil
      go_simp
      (go_at_call 32; refine (calls_k LS.out (Hgi.out _ (by assumption) _ _ (by assumption)) (by assumption)).mono ?_; rintro e w' ⟨rfl, hk7, hin7⟩)
      refine hK.out _ _ ?_ (fun hHeld => ?_)
      ·
       exact Cell.out _ (by assumption)
      clear hK K
      try simp only [Act.put, setIfInBounds_toArray, set_cons_zero, set_cons_succ]
      refine tkH (i := 27) (oi := { dst := some 91, op := Op.pick (Operand.tmp 82) (Operand.tmp 90) (Operand.const (Value.bool false)), type := 4, pos := "l05_lp.go:109", after := #[{ on := 18, ground := Ground.data }, { on := 26, ground := Ground.data }], guard := none }) (v := ?_) rfl ?_ (by assumption) ?_
      rotate_left 1
      ·
       intro w hSw; (try dsimp only at hSw); go_simp; try (with_reducible rfl)
      try simp only [Act.put, setIfInBounds_toArray, set_cons_zero, set_cons_succ]
      refine tkH (i := 28) (oi := { dst := some 92, op := Op.move (Operand.tmp 91), type := 4, pos := "l05_lp.go:109", after := #[{ on := 27, ground := Ground.data }, { on := 26, ground := Ground.chain }], guard := none }) (v := ?_) rfl ?_ (by assumption) ?_
      rotate_left 1
      ·
       intro w hSw; (try dsimp only at hSw); go_simp; try (with_reducible rfl)
      try simp only [Act.put, setIfInBounds_toArray, set_cons_zero, set_cons_succ]
      refine tkH (i := 29) (oi := { dst := some 93, op := Op.move (Operand.tmp 8), type := 4, pos := "l05_lp.go:109", after := #[{ on := 28, ground := Ground.guard }], guard := some (28, true) }) (v := ?_) rfl ?_ (by assumption) ?_
      rotate_left 1
      ·
       intro w hSw; (try dsimp only at hSw); go_simp; try (with_reducible rfl)
      try simp only [Act.put, setIfInBounds_toArray, set_cons_zero, set_cons_succ]
      refine tkH (i := 30) (oi := { dst := some 94, op := Op.pick (Operand.tmp 92) (Operand.tmp 93) (Operand.const (Value.bool false)), type := 4, pos := "l05_lp.go:109", after := #[{ on := 28, ground := Ground.data }, { on := 29, ground := Ground.data }], guard := none }) (v := ?_) rfl ?_ (by assumption) ?_
      rotate_left 1
      ·
       intro w hSw; (try dsimp only at hSw); go_simp; try (with_reducible rfl)
      try simp only [Act.put, setIfInBounds_toArray, set_cons_zero, set_cons_succ]
      refine tkH (i := 31) (oi := { dst := some 95, op := Op.move (Operand.tmp 94), type := 4, pos := "l05_lp.go:109", after := #[{ on := 30, ground := Ground.data }, { on := 28, ground := Ground.chain }], guard := none }) (v := ?_) rfl ?_ (by assumption) ?_
      rotate_left 1
      ·
       intro w hSw; (try dsimp only at hSw); go_simp; try (with_reducible rfl)
      try simp only [Act.put, setIfInBounds_toArray, set_cons_zero, set_cons_succ]
      refine tkHu (i := 32) (oi := { dst := some 96, op := Op.fieldAddr 30 (Operand.tmp 7) 0, type := 0, pos := "l05_lp.go:109", after := #[{ on := 31, ground := Ground.guard }], guard := some (31, true) }) rfl (by assumption) ?_
      try simp only [Act.put, setIfInBounds_toArray, set_cons_zero, set_cons_succ]
      refine tkHu (i := 33) (oi := { dst := some 97, op := Op.load 3 (Operand.tmp 96), type := 3, pos := "l05_lp.go:109", after := #[{ on := 32, ground := Ground.data }, { on := 31, ground := Ground.guard }], guard := some (31, true) }) rfl (by assumption) ?_
      try simp only [Act.put, setIfInBounds_toArray, set_cons_zero, set_cons_succ]
      refine tkHu (i := 34) (oi := { dst := some 98, op := Op.binOp BinOp.lss 3 (Operand.tmp 97) (Operand.const (Value.int IntKind.i64 0)) 3, type := 4, pos := "l05_lp.go:109", after := #[{ on := 33, ground := Ground.data }, { on := 31, ground := Ground.guard }], guard := some (31, true) }) rfl (by assumption) ?_
      try simp only [Act.put, setIfInBounds_toArray, set_cons_zero, set_cons_succ]
      refine tkH (i := 35) (oi := { dst := some 99, op := Op.pick (Operand.tmp 95) (Operand.tmp 98) (Operand.const (Value.bool false)), type := 4, pos := "l05_lp.go:109", after := #[{ on := 31, ground := Ground.data }, { on := 34, ground := Ground.data }], guard := none }) (v := ?_) rfl ?_ (by assumption) ?_
      rotate_left 1
      ·
       intro w hSw; (try dsimp only at hSw); go_simp; try (with_reducible rfl)
      try simp only [Act.put, setIfInBounds_toArray, set_cons_zero, set_cons_succ]
      refine tkH (i := 36) (oi := { dst := some 4, op := Op.assign (Operand.tmp 99), type := 4, pos := "l05_lp.go:109", after := #[{ on := 35, ground := Ground.data }, { on := 31, ground := Ground.chain }, { on := 0, ground := Ground.phase }, { on := 1, ground := Ground.phase }, { on := 2, ground := Ground.phase }, { on := 3, ground := Ground.phase }, { on := 4, ground := Ground.phase }, { on := 5, ground := Ground.phase }, { on := 6, ground := Ground.phase }, { on := 7, ground := Ground.phase }, { on := 8, ground := Ground.phase }, { on := 9, ground := Ground.phase }, { on := 10, ground := Ground.phase }, { on := 11, ground := Ground.phase }, { on := 12, ground := Ground.phase }, { on := 13, ground := Ground.phase }, { on := 14, ground := Ground.phase }, { on := 15, ground := Ground.phase }, { on := 16, ground := Ground.phase }, { on := 17, ground := Ground.phase }, { on := 18, ground := Ground.phase }, { on := 19, ground := Ground.phase }, { on := 20, ground := Ground.phase }, { on := 21, ground := Ground.phase }, { on := 22, ground := Ground.phase }, { on := 23, ground := Ground.phase }, { on := 24, ground := Ground.phase }, { on := 25, ground := Ground.phase }, { on := 26, ground := Ground.phase }, { on := 27, ground := Ground.phase }, { on := 28, ground := Ground.phase }, { on := 29, ground := Ground.phase }, { on := 30, ground := Ground.phase }, { on := 31, ground := Ground.phase }, { on := 32, ground := Ground.phase }, { on := 33, ground := Ground.phase }, { on := 34, ground := Ground.phase }, { on := 35, ground := Ground.phase }], guard := none }) (v := ?_) rfl ?_ (by assumption) ?_
      rotate_left 1
      ·
       intro w hSw; (try dsimp only at hSw); go_simp; try (with_reducible rfl)
      try simp only [Act.put, setIfInBounds_toArray, set_cons_zero, set_cons_succ]
      refine wpAnyH_done (by kernel_rfl) ?_ _
      go_wp2_with fail
      go_ret
      exact ⟨ret_bool Hr.out, (LK.out _ (by assumption)).1.1⟩
     | true =>
      rcases hd : decide (D.1 < 0) with _ | _
      ·
       have Hr := Lib.hid (show false = g by rw [← Hg3.out, hd]; rfl)
       refine wp_region_held_drew (S := (fun w' => w'.cell? ⟨w.heap.size, 0, none⟩ = some (.slice a p.A.length c1) ∧ w'.cell? ⟨w.heap.size, 1, none⟩ = some (.slice b p.B.length c2) ∧ w'.cell? ⟨w.heap.size, 2, none⟩ = some (.slice c p.C.length c3) ∧ w'.cell? ⟨w.heap.size + 1, 1, none⟩ = some (.slice ra X.length d1) ∧ w'.cell? ⟨w.heap.size + 1, 3, none⟩ = some (.slice rc Z.length d3) ∧ w'.cell? ⟨w2.heap.size, 0, none⟩ = some (.int .i64 D.1) ∧ L w')) (by kernel_rfl) ?_ (fun hHeld => ?_)
       ·
        exact Cell.out _ hin
       refine tkH (i := 0) (oi := { dst := some 64, op := Op.load 28 (Operand.tmp 2), type := 28, pos := "l05_lp.go:109", after := #[], guard := none }) (v := ?_) rfl ?_ (by assumption) ?_
       rotate_left 1
       ·
        intro w hSw; (try dsimp only at hSw); go_simp; try (with_reducible rfl)
       try simp only [Act.put, setIfInBounds_toArray, set_cons_zero, set_cons_succ]
       refine tkH (i := 1) (oi := { dst := some 65, op := Op.fieldAddr 32 (Operand.tmp 3) 1, type := 0, pos := "l05_lp.go:109", after := #[], guard := none }) (v := ?_) rfl ?_ (by assumption) ?_
       rotate_left 1
       ·
        intro w hSw; (try dsimp only at hSw); go_simp; try (with_reducible rfl)
       try simp only [Act.put, setIfInBounds_toArray, set_cons_zero, set_cons_succ]
       refine tkH (i := 2) (oi := { dst := some 66, op := Op.load 26 (Operand.tmp 65), type := 26, pos := "l05_lp.go:109", after := #[{ on := 1, ground := Ground.data }], guard := none }) (v := ?_) rfl ?_ (by assumption) ?_
       rotate_left 1
       ·
        intro w hSw; (try dsimp only at hSw); go_simp; try (with_reducible rfl)
       try simp only [Act.put, setIfInBounds_toArray, set_cons_zero, set_cons_succ]
       refine wpAnyH_ready (rs := [3]) (by kernel_rfl) (by simp) ?_
       refine AllReadyH.cons (o := { dst := some 67, op := Op.call { callee := Callee.value (Operand.func 14), args := #[Operand.tmp 64, Operand.tmp 66], argTypes := #[28, 26] }, type := 4, pos := "l05_lp.go:109", after := #[{ on := 0, ground := Ground.data }, { on := 2, ground := Ground.data }], guard := none }) (rs := []) rfl (fun K hK => ?_) AllReadyH.nil
       go_simp
       (go_at_call 14; refine (calls_k LS.out (Hfe.out _ (by assumption)) (by assumption)).mono ?_; rintro e w' ⟨rfl, hk5, hin5⟩)
       refine hK.out _ _ ?_ (fun hHeld => ?_)
       ·
        exact Cell.out _ (by assumption)
       clear hK K
       try simp only [Act.put, setIfInBounds_toArray, set_cons_zero, set_cons_succ]
       refine tkH (i := 4) (oi := { dst := some 68, op := Op.move (Operand.tmp 67), type := 4, pos := "l05_lp.go:109", after := #[{ on := 3, ground := Ground.data }, { on := 3, ground := Ground.chain }], guard := none }) (v := ?_) rfl ?_ (by assumption) ?_
       rotate_left 1
       ·
        intro w hSw; (try dsimp only at hSw); go_simp; try (with_reducible rfl)
       try simp only [Act.put, setIfInBounds_toArray, set_cons_zero, set_cons_succ]
       refine tkH (i := 5) (oi := { dst := some 69, op := Op.fieldAddr 32 (Operand.tmp 3) 3, type := 0, pos := "l05_lp.go:109", after := #[{ on := 4, ground := Ground.guard }], guard := some (4, true) }) (v := ?_) rfl ?_ (by assumption) ?_
       rotate_left 1
       ·
        intro w hSw; (try dsimp only at hSw); go_simp; try (with_reducible rfl)
       try simp only [Act.put, setIfInBounds_toArray, set_cons_zero, set_cons_succ]
       refine tkH (i := 6) (oi := { dst := some 70, op := Op.load 26 (Operand.tmp 69), type := 26, pos := "l05_lp.go:109", after := #[{ on := 5, ground := Ground.data }, { on := 4, ground := Ground.guard }], guard := some (4, true) }) (v := ?_) rfl ?_ (by assumption) ?_
       rotate_left 1
       ·
        intro w hSw; (try dsimp only at hSw); go_simp; try (with_reducible rfl)
       try simp only [Act.put, setIfInBounds_toArray, set_cons_zero, set_cons_succ]
       refine tkH (i := 7) (oi := { dst := some 71, op := Op.call { callee := Callee.builtin Builtin.len, args := #[Operand.tmp 70], argTypes := #[26] }, type := 3, pos := "l05_lp.go:109", after := #[{ on := 6, ground := Ground.data }, { on := 4, ground := Ground.guard }], guard := some (4, true) }) (v := ?_) rfl ?_ (by assumption) ?_
       rotate_left 1
       ·
        intro w hSw; (try dsimp only at hSw); go_simp; try (with_reducible rfl)
       try simp only [Act.put, setIfInBounds_toArray, set_cons_zero, set_cons_succ]
       refine tkH (i := 8) (oi := { dst := some 72, op := Op.fieldAddr 28 (Operand.tmp 2) 2, type := 0, pos := "l05_lp.go:109", after := #[{ on := 4, ground := Ground.guard }], guard := some (4, true) }) (v := ?_) rfl ?_ (by assumption) ?_
       rotate_left 1
       ·
        intro w hSw; (try dsimp only at hSw); go_simp; try (with_reducible rfl)
       try simp only [Act.put, setIfInBounds_toArray, set_cons_zero, set_cons_succ]
       refine tkH (i := 9) (oi := { dst := some 73, op := Op.load 26 (Operand.tmp 72), type := 26, pos := "l05_lp.go:109", after := #[{ on := 8, ground := Ground.data }, { on := 4, ground := Ground.guard }], guard := some (4, true) }) (v := ?_) rfl ?_ (by assumption) ?_
       rotate_left 1
       ·
        intro w hSw; (try dsimp only at hSw); go_simp; try (with_reducible rfl)
       try simp only [Act.put, setIfInBounds_toArray, set_cons_zero, set_cons_succ]
       refine tkH (i := 10) (oi := { dst := some 74, op := Op.call { callee := Callee.builtin Builtin.len, args := #[Operand.tmp 73], argTypes := #[26] }, type := 3, pos := "l05_lp.go:109", after := #[{ on := 9, ground := Ground.data }, { on := 4, ground := Ground.guard }], guard := some (4, true) }) (v := ?_) rfl ?_ (by assumption) ?_
       rotate_left 1
       ·
        intro w hSw; (try dsimp only at hSw); go_simp; try (with_reducible rfl)
       try simp only [Act.put, setIfInBounds_toArray, set_cons_zero, set_cons_succ]
       refine tkH (i := 11) (oi := { dst := some 75, op := Op.binOp BinOp.eql 3 (Operand.tmp 71) (Operand.tmp 74) 3, type := 4, pos := "l05_lp.go:109", after := #[{ on := 7, ground := Ground.data }, { on := 10, ground := Ground.data }, { on := 4, ground := Ground.guard }], guard := some (4, true) }) (v := ?_) rfl ?_ (by assumption) ?_
       rotate_left 1
       ·
        intro w hSw; (try dsimp only at hSw); go_simp; try (with_reducible rfl)
       try simp only [Act.put, setIfInBounds_toArray, set_cons_zero, set_cons_succ]
       refine tkH (i := 12) (oi := { dst := some 76, op := Op.pick (Operand.tmp 68) (Operand.tmp 75) (Operand.const (Value.bool false)), type := 4, pos := "l05_lp.go:109", after := #[{ on := 4, ground := Ground.data }, { on := 11, ground := Ground.data }], guard := none }) (v := ?_) rfl ?_ (by assumption) ?_
       rotate_left 1
       ·
        intro w hSw; (try dsimp only at hSw); go_simp; try (with_reducible rfl)
       try simp only [Act.put, setIfInBounds_toArray, set_cons_zero, set_cons_succ]
       refine tkH (i := 13) (oi := { dst := some 77, op := Op.move (Operand.tmp 76), type := 4, pos := "l05_lp.go:109", after := #[{ on := 12, ground := Ground.data }, { on := 4, ground := Ground.chain }], guard := none }) (v := ?_) rfl ?_ (by assumption) ?_
       rotate_left 1
       ·
        intro w hSw; (try dsimp only at hSw); go_simp; try (with_reducible rfl)
       try simp only [Act.put, setIfInBounds_toArray, set_cons_zero, set_cons_succ]
       refine tkH (i := 14) (oi := { dst := some 78, op := Op.fieldAddr 32 (Operand.tmp 3) 3, type := 0, pos := "l05_lp.go:109", after := #[{ on := 13, ground := Ground.guard }], guard := some (13, true) }) (v := ?_) rfl ?_ (by assumption) ?_
       rotate_left 1
       ·
        intro w hSw; (try dsimp only at hSw); go_simp; try (with_reducible rfl)
       try simp only [Act.put, setIfInBounds_toArray, set_cons_zero, set_cons_succ]
       refine tkH (i := 15) (oi := { dst := some 79, op := Op.load 26 (Operand.tmp 78), type := 26, pos := "l05_lp.go:109", after := #[{ on := 14, ground := Ground.data }, { on := 13, ground := Ground.guard }], guard := some (13, true) }) (v := ?_) rfl ?_ (by assumption) ?_
       rotate_left 1
       ·
        intro w hSw; (try dsimp only at hSw); go_simp; try (with_reducible rfl)
       try simp only [Act.put, setIfInBounds_toArray, set_cons_zero, set_cons_succ]
       refine wpAnyH_ready (rs := [16]) (by kernel_rfl) (by simp) ?_
       refine AllReadyH.cons (o := { dst := some 80, op := Op.call { callee := Callee.value (Operand.func 31), args := #[Operand.tmp 79], argTypes := #[26] }, type := 4, pos := "l05_lp.go:109", after := #[{ on := 15, ground := Ground.data }, { on := 13, ground := Ground.chain }, { on := 13, ground := Ground.guard }], guard := some (13, true) }) (rs := []) rfl (fun K hK => ?_) AllReadyH.nil
       go_simp
       (go_at_call 31; refine (calls_k LS.out (Hnn.out _ (by assumption)) (by assumption)).mono ?_; rintro e w' ⟨rfl, hk6, hin6⟩)
       refine hK.out _ _ ?_ (fun hHeld => ?_)
       ·
        exact Cell.out _ (by assumption)
       clear hK K
       try simp only [Act.put, setIfInBounds_toArray, set_cons_zero, set_cons_succ]
       refine tkH (i := 17) (oi := { dst := some 81, op := Op.pick (Operand.tmp 77) (Operand.tmp 80) (Operand.const (Value.bool false)), type := 4, pos := "l05_lp.go:109", after := #[{ on := 13, ground := Ground.data }, { on := 16, ground := Ground.data }], guard := none }) (v := ?_) rfl ?_ (by assumption) ?_
       rotate_left 1
       ·
        intro w hSw; (try dsimp only at hSw); go_simp; try (with_reducible rfl)
       try simp only [Act.put, setIfInBounds_toArray, set_cons_zero, set_cons_succ]
       refine tkH (i := 18) (oi := { dst := some 82, op := Op.move (Operand.tmp 81), type := 4, pos := "l05_lp.go:109", after := #[{ on := 17, ground := Ground.data }, { on := 16, ground := Ground.chain }], guard := none }) (v := ?_) rfl ?_ (by assumption) ?_
       rotate_left 1
       ·
        intro w hSw; (try dsimp only at hSw); go_simp; try (with_reducible rfl)
       try simp only [Act.put, setIfInBounds_toArray, set_cons_zero, set_cons_succ]
       refine tkH (i := 19) (oi := { dst := some 83, op := Op.load 28 (Operand.tmp 2), type := 28, pos := "l05_lp.go:109", after := #[{ on := 18, ground := Ground.guard }], guard := some (18, true) }) (v := ?_) rfl ?_ (by assumption) ?_
       rotate_left 1
       ·
        intro w hSw; (try dsimp only at hSw); go_simp; try (with_reducible rfl)
       try simp only [Act.put, setIfInBounds_toArray, set_cons_zero, set_cons_succ]
       refine tkH (i := 20) (oi := { dst := some 84, op := Op.fieldAddr 32 (Operand.tmp 3) 3, type := 0, pos := "l05_lp.go:109", after := #[{ on := 18, ground := Ground.guard }], guard := some (18, true) }) (v := ?_) rfl ?_ (by assumption) ?_
       rotate_left 1
       ·
        intro w hSw; (try dsimp only at hSw); go_simp; try (with_reducible rfl)
       try simp only [Act.put, setIfInBounds_toArray, set_cons_zero, set_cons_succ]
       refine tkH (i := 21) (oi := { dst := some 85, op := Op.load 26 (Operand.tmp 84), type := 26, pos := "l05_lp.go:109", after := #[{ on := 20, ground := Ground.data }, { on := 18, ground := Ground.guard }], guard := some (18, true) }) (v := ?_) rfl ?_ (by assumption) ?_
       rotate_left 1
       ·
        intro w hSw; (try dsimp only at hSw); go_simp; try (with_reducible rfl)
       try simp only [Act.put, setIfInBounds_toArray, set_cons_zero, set_cons_succ]
       refine tkH (i := 22) (oi := { dst := some 86, op := Op.fieldAddr 28 (Operand.tmp 2) 1, type := 0, pos := "l05_lp.go:109", after := #[{ on := 18, ground := Ground.guard }], guard := some (18, true) }) (v := ?_) rfl ?_ (by assumption) ?_
       rotate_left 1
       ·
        intro w hSw; (try dsimp only at hSw); go_simp; try (with_reducible rfl)
       try simp only [Act.put, setIfInBounds_toArray, set_cons_zero, set_cons_succ]
       refine tkH (i := 23) (oi := { dst := some 87, op := Op.load 25 (Operand.tmp 86), type := 25, pos := "l05_lp.go:109", after := #[{ on := 22, ground := Ground.data }, { on := 18, ground := Ground.guard }], guard := some (18, true) }) (v := ?_) rfl ?_ (by assumption) ?_
       rotate_left 1
       ·
        intro w hSw; (try dsimp only at hSw); go_simp; try (with_reducible rfl)
       try simp only [Act.put, setIfInBounds_toArray, set_cons_zero, set_cons_succ]
       refine tkH (i := 24) (oi := { dst := some 88, op := Op.call { callee := Callee.builtin Builtin.len, args := #[Operand.tmp 87], argTypes := #[25] }, type := 3, pos := "l05_lp.go:109", after := #[{ on := 23, ground := Ground.data }, { on := 18, ground := Ground.guard }], guard := some (18, true) }) (v := ?_) rfl ?_ (by assumption) ?_
       rotate_left 1
       ·
        intro w hSw; (try dsimp only at hSw); go_simp; try (with_reducible rfl)
       try simp only [Act.put, setIfInBounds_toArray, set_cons_zero, set_cons_succ]
       refine wpAnyH_ready (rs := [25]) (by kernel_rfl) (by simp) ?_
       refine AllReadyH.cons (o := { dst := some 89, op := Op.makeSlice 25 (Operand.tmp 88) (Operand.tmp 88), type := 25, pos := "l05_lp.go:109", after := #[{ on := 24, ground := Ground.data }, { on := 24, ground := Ground.data }, { on := 18, ground := Ground.guard }], guard := some (18, true) }) (rs := []) rfl (fun K hK => ?_) AllReadyH.nil
       (refine step_make_full (by kernel_rfl) (.tmp 88) (.tmp 88) 25 rfl _ 3 i0 (.int .i64 0) 1 Try.underlying25 HI.out HZ0.out HZ1.out rfl .i64 .i64 _ _ p.B.length rfl rfl rfl rfl (by rw [HZ2.out]; omega) (by unfold maxLen; omega) (Nat.le_refl _) ?_; intro w9 hown hgrow; have hin9 := LS.out _ _ (below_made hgrow) (by assumption : L _); have ho9 := zeros_own hown; obtain ⟨zb, zc, hzv, hzr, hza, _⟩ := own_reads ho9; obtain ⟨rfl, rfl⟩ := slice_inj hzv; have hzn := NumsIn.of_ints (B := w9.heap.size) hzr fun q hq => (hza q hq).2; clear hown hgrow ho9 hzr hza hzv)
       refine hK.out _ _ ?_ (fun hHeld => ?_)
       ·
        exact Cell.out _ (by assumption)
       clear hK K
       try simp only [Act.put, setIfInBounds_toArray, set_cons_zero, set_cons_succ]
       refine wpAnyH_ready (rs := [26]) (by kernel_rfl) (by simp) ?_
       refine AllReadyH.cons (o := { dst := some 90, op := Op.call { callee := Callee.value (Operand.func 32), args := #[Operand.tmp 83, Operand.tmp 85, Operand.tmp 89], argTypes := #[28, 26, 25] }, type := 4, pos := "l05_lp.go:109", after := #[{ on := 19, ground := Ground.data }, { on := 21, ground := Ground.data }, { on := 25, ground := Ground.data }, { on := 18, ground := Ground.chain }, { on := 18, ground := Ground.guard }], guard := some (18, true) }) (rs := []) rfl (fun K hK => ?_) AllReadyH.nil
       go_simp
       (go_at_call 32; refine (calls_k LS.out (Hgi.out _ (by assumption) _ _ (by assumption)) (by assumption)).mono ?_; rintro e w' ⟨rfl, hk7, hin7⟩)
       refine hK.out _ _ ?_ (fun hHeld => ?_)
       ·
        exact Cell.out _ (by assumption)
       clear hK K
       try simp only [Act.put, setIfInBounds_toArray, set_cons_zero, set_cons_succ]
       refine tkH (i := 27) (oi := { dst := some 91, op := Op.pick (Operand.tmp 82) (Operand.tmp 90) (Operand.const (Value.bool false)), type := 4, pos := "l05_lp.go:109", after := #[{ on := 18, ground := Ground.data }, { on := 26, ground := Ground.data }], guard := none }) (v := ?_) rfl ?_ (by assumption) ?_
       rotate_left 1
       ·
        intro w hSw; (try dsimp only at hSw); go_simp; try (with_reducible rfl)
       try simp only [Act.put, setIfInBounds_toArray, set_cons_zero, set_cons_succ]
       refine tkH (i := 28) (oi := { dst := some 92, op := Op.move (Operand.tmp 91), type := 4, pos := "l05_lp.go:109", after := #[{ on := 27, ground := Ground.data }, { on := 26, ground := Ground.chain }], guard := none }) (v := ?_) rfl ?_ (by assumption) ?_
       rotate_left 1
       ·
        intro w hSw; (try dsimp only at hSw); go_simp; try (with_reducible rfl)
       try simp only [Act.put, setIfInBounds_toArray, set_cons_zero, set_cons_succ]
       refine tkH (i := 29) (oi := { dst := some 93, op := Op.move (Operand.tmp 8), type := 4, pos := "l05_lp.go:109", after := #[{ on := 28, ground := Ground.guard }], guard := some (28, true) }) (v := ?_) rfl ?_ (by assumption) ?_
       rotate_left 1
       ·
        intro w hSw; (try dsimp only at hSw); go_simp; try (with_reducible rfl)
       try simp only [Act.put, setIfInBounds_toArray, set_cons_zero, set_cons_succ]
       refine tkH (i := 30) (oi := { dst := some 94, op := Op.pick (Operand.tmp 92) (Operand.tmp 93) (Operand.const (Value.bool false)), type := 4, pos := "l05_lp.go:109", after := #[{ on := 28, ground := Ground.data }, { on := 29, ground := Ground.data }], guard := none }) (v := ?_) rfl ?_ (by assumption) ?_
       rotate_left 1
       ·
        intro w hSw; (try dsimp only at hSw); go_simp; try (with_reducible rfl)
       try simp only [Act.put, setIfInBounds_toArray, set_cons_zero, set_cons_succ]
       refine tkH (i := 31) (oi := { dst := some 95, op := Op.move (Operand.tmp 94), type := 4, pos := "l05_lp.go:109", after := #[{ on := 30, ground := Ground.data }, { on := 28, ground := Ground.chain }], guard := none }) (v := ?_) rfl ?_ (by assumption) ?_
       rotate_left 1
       ·
        intro w hSw; (try dsimp only at hSw); go_simp; try (with_reducible rfl)
       try simp only [Act.put, setIfInBounds_toArray, set_cons_zero, set_cons_succ]
       refine tkH (i := 32) (oi := { dst := some 96, op := Op.fieldAddr 30 (Operand.tmp 7) 0, type := 0, pos := "l05_lp.go:109", after := #[{ on := 31, ground := Ground.guard }], guard := some (31, true) }) (v := ?_) rfl ?_ (by assumption) ?_
       rotate_left 1
       ·
        intro w hSw; (try dsimp only at hSw); go_simp; try (with_reducible rfl)
       try simp only [Act.put, setIfInBounds_toArray, set_cons_zero, set_cons_succ]
       refine tkH (i := 33) (oi := { dst := some 97, op := Op.load 3 (Operand.tmp 96), type := 3, pos := "l05_lp.go:109", after := #[{ on := 32, ground := Ground.data }, { on := 31, ground := Ground.guard }], guard := some (31, true) }) (v := ?_) rfl ?_ (by assumption) ?_
       rotate_left 1
       ·
        intro w hSw; (try dsimp only at hSw); go_simp; try (with_reducible rfl)
       try simp only [Act.put, setIfInBounds_toArray, set_cons_zero, set_cons_succ]
       refine tkH (i := 34) (oi := { dst := some 98, op := Op.binOp BinOp.lss 3 (Operand.tmp 97) (Operand.const (Value.int IntKind.i64 0)) 3, type := 4, pos := "l05_lp.go:109", after := #[{ on := 33, ground := Ground.data }, { on := 31, ground := Ground.guard }], guard := some (31, true) }) (v := ?_) rfl ?_ (by assumption) ?_
       rotate_left 1
       ·
        intro w hSw; (try dsimp only at hSw); go_simp; try (with_reducible rfl)
       try simp only [Act.put, setIfInBounds_toArray, set_cons_zero, set_cons_succ]
       refine tkH (i := 35) (oi := { dst := some 99, op := Op.pick (Operand.tmp 95) (Operand.tmp 98) (Operand.const (Value.bool false)), type := 4, pos := "l05_lp.go:109", after := #[{ on := 31, ground := Ground.data }, { on := 34, ground := Ground.data }], guard := none }) (v := ?_) rfl ?_ (by assumption) ?_
       rotate_left 1
       ·
        intro w hSw; (try dsimp only at hSw); go_simp; try (with_reducible rfl)
       try simp only [Act.put, setIfInBounds_toArray, set_cons_zero, set_cons_succ]
       refine tkH (i := 36) (oi := { dst := some 4, op := Op.assign (Operand.tmp 99), type := 4, pos := "l05_lp.go:109", after := #[{ on := 35, ground := Ground.data }, { on := 31, ground := Ground.chain }, { on := 0, ground := Ground.phase }, { on := 1, ground := Ground.phase }, { on := 2, ground := Ground.phase }, { on := 3, ground := Ground.phase }, { on := 4, ground := Ground.phase }, { on := 5, ground := Ground.phase }, { on := 6, ground := Ground.phase }, { on := 7, ground := Ground.phase }, { on := 8, ground := Ground.phase }, { on := 9, ground := Ground.phase }, { on := 10, ground := Ground.phase }, { on := 11, ground := Ground.phase }, { on := 12, ground := Ground.phase }, { on := 13, ground := Ground.phase }, { on := 14, ground := Ground.phase }, { on := 15, ground := Ground.phase }, { on := 16, ground := Ground.phase }, { on := 17, ground := Ground.phase }, { on := 18, ground := Ground.phase }, { on := 19, ground := Ground.phase }, { on := 20, ground := Ground.phase }, { on := 21, ground := Ground.phase }, { on := 22, ground := Ground.phase }, { on := 23, ground := Ground.phase }, { on := 24, ground := Ground.phase }, { on := 25, ground := Ground.phase }, { on := 26, ground := Ground.phase }, { on := 27, ground := Ground.phase }, { on := 28, ground := Ground.phase }, { on := 29, ground := Ground.phase }, { on := 30, ground := Ground.phase }, { on := 31, ground := Ground.phase }, { on := 32, ground := Ground.phase }, { on := 33, ground := Ground.phase }, { on := 34, ground := Ground.phase }, { on := 35, ground := Ground.phase }], guard := none }) (v := ?_) rfl ?_ (by assumption) ?_
       rotate_left 1
       ·
        intro w hSw; (try dsimp only at hSw); go_simp; try (with_reducible rfl)
       try simp only [Act.put, setIfInBounds_toArray, set_cons_zero, set_cons_succ]
       refine wpAnyH_done (by kernel_rfl) ?_ _
       go_wp2_with fail
       go_ret
       exact ⟨ret_bool Hr.out, (LK.out _ (by assumption)).1.1⟩
      ·
       have Hr := Lib.hid (show true = g by rw [← Hg3.out, hd]; rfl)
       refine wp_region_held_drew (S := (fun w' => w'.cell? ⟨w.heap.size, 0, none⟩ = some (.slice a p.A.length c1) ∧ w'.cell? ⟨w.heap.size, 1, none⟩ = some (.slice b p.B.length c2) ∧ w'.cell? ⟨w.heap.size, 2, none⟩ = some (.slice c p.C.length c3) ∧ w'.cell? ⟨w.heap.size + 1, 1, none⟩ = some (.slice ra X.length d1) ∧ w'.cell? ⟨w.heap.size + 1, 3, none⟩ = some (.slice rc Z.length d3) ∧ w'.cell? ⟨w2.heap.size, 0, none⟩ = some (.int .i64 D.1) ∧ L w')) (by kernel_rfl) ?_ (fun hHeld => ?_)
       ·
        exact Cell.out _ hin
       refine tkH (i := 0) (oi := { dst := some 64, op := Op.load 28 (Operand.tmp 2), type := 28, pos := "l05_lp.go:109", after := #[], guard := none }) (v := ?_) rfl ?_ (by assumption) ?_
       rotate_left 1
       ·
        intro w hSw; (try dsimp only at hSw); go_simp; try (with_reducible rfl)
       try simp only [Act.put, setIfInBounds_toArray, set_cons_zero, set_cons_succ]
       refine tkH (i := 1) (oi := { dst := some 65, op := Op.fieldAddr 32 (Operand.tmp 3) 1, type := 0, pos := "l05_lp.go:109", after := #[], guard := none }) (v := ?_) rfl ?_ (by assumption) ?_
       rotate_left 1
       ·
        intro w hSw; (try dsimp only at hSw); go_simp; try (with_reducible rfl)
       try simp only [Act.put, setIfInBounds_toArray, set_cons_zero, set_cons_succ]
       refine tkH (i := 2) (oi := { dst := some 66, op := Op.load 26 (Operand.tmp 65), type := 26, pos := "l05_lp.go:109", after := #[{ on := 1, ground := Ground.data }], guard := none }) (v := ?_) rfl ?_ (by assumption) ?_
       rotate_left 1
       ·
        intro w hSw; (try dsimp only at hSw); go_simp; try (with_reducible rfl)
       try simp only [Act.put, setIfInBounds_toArray, set_cons_zero, set_cons_succ]
       refine wpAnyH_ready (rs := [3]) (by kernel_rfl) (by simp) ?_
       refine AllReadyH.cons (o := { dst := some 67, op := Op.call { callee := Callee.value (Operand.func 14), args := #[Operand.tmp 64, Operand.tmp 66], argTypes := #[28, 26] }, type := 4, pos := "l05_lp.go:109", after := #[{ on := 0, ground := Ground.data }, { on := 2, ground := Ground.data }], guard := none }) (rs := []) rfl (fun K hK => ?_) AllReadyH.nil
       go_simp
       (go_at_call 14; refine (calls_k LS.out (Hfe.out _ (by assumption)) (by assumption)).mono ?_; rintro e w' ⟨rfl, hk5, hin5⟩)
       refine hK.out _ _ ?_ (fun hHeld => ?_)
       ·
        exact Cell.out _ (by assumption)
       clear hK K
       try simp only [Act.put, setIfInBounds_toArray, set_cons_zero, set_cons_succ]
       refine tkH (i := 4) (oi := { dst := some 68, op := Op.move (Operand.tmp 67), type := 4, pos := "l05_lp.go:109", after := #[{ on := 3, ground := Ground.data }, { on := 3, ground := Ground.chain }], guard := none }) (v := ?_) rfl ?_ (by assumption) ?_
       rotate_left 1
       ·
        intro w hSw; (try dsimp only at hSw); go_simp; try (with_reducible rfl)
       try simp only [Act.put, setIfInBounds_toArray, set_cons_zero, set_cons_succ]
       refine tkH (i := 5) (oi := { dst := some 69, op := Op.fieldAddr 32 (Operand.tmp 3) 3, type := 0, pos := "l05_lp.go:109", after := #[{ on := 4, ground := Ground.guard }], guard := some (4, true) }) (v := ?_) rfl ?_ (by assumption) ?_
       rotate_left 1
       ·
        intro w hSw; (try dsimp only at hSw); go_simp; try (with_reducible rfl)
       try simp only [Act.put, setIfInBounds_toArray, set_cons_zero, set_cons_succ]
       refine tkH (i := 6) (oi := { dst := some 70, op := Op.load 26 (Operand.tmp 69), type := 26, pos := "l05_lp.go:109", after := #[{ on := 5, ground := Ground.data }, { on := 4, ground := Ground.guard }], guard := some (4, true) }) (v := ?_) rfl ?_ (by assumption) ?_
       rotate_left 1
       ·
        intro w hSw; (try dsimp only at hSw); go_simp; try (with_reducible rfl)
       try simp only [Act.put, setIfInBounds_toArray, set_cons_zero, set_cons_succ]
       refine tkH (i := 7) (oi := { dst := some 71, op := Op.call { callee := Callee.builtin Builtin.len, args := #[Operand.tmp 70], argTypes := #[26] }, type := 3, pos := "l05_lp.go:109", after := #[{ on := 6, ground := Ground.data }, { on := 4, ground := Ground.guard }], guard := some (4, true) }) (v := ?_) rfl ?_ (by assumption) ?_
       rotate_left 1
       ·
        intro w hSw; (try dsimp only at hSw); go_simp; try (with_reducible rfl)
       try simp only [Act.put, setIfInBounds_toArray, set_cons_zero, set_cons_succ]
       refine tkH (i := 8) (oi := { dst := some 72, op := Op.fieldAddr 28 (Operand.tmp 2) 2, type := 0, pos := "l05_lp.go:109", after := #[{ on := 4, ground := Ground.guard }], guard := some (4, true) }) (v := ?_) rfl ?_ (by assumption) ?_
       rotate_left 1
       ·
        intro w hSw; (try dsimp only at hSw); go_simp; try (with_reducible rfl)
       try simp only [Act.put, setIfInBounds_toArray, set_cons_zero, set_cons_succ]
       refine tkH (i := 9) (oi := { dst := some 73, op := Op.load 26 (Operand.tmp 72), type := 26, pos := "l05_lp.go:109", after := #[{ on := 8, ground := Ground.data }, { on := 4, ground := Ground.guard }], guard := some (4, true) }) (v := ?_) rfl ?_ (by assumption) ?_
       rotate_left 1
       ·
        intro w hSw; (try dsimp only at hSw); go_simp; try (with_reducible rfl)
       try simp only [Act.put, setIfInBounds_toArray, set_cons_zero, set_cons_succ]
       refine tkH (i := 10) (oi := { dst := some 74, op := Op.call { callee := Callee.builtin Builtin.len, args := #[Operand.tmp 73], argTypes := #[26] }, type := 3, pos := "l05_lp.go:109", after := #[{ on := 9, ground := Ground.data }, { on := 4, ground := Ground.guard }], guard := some (4, true) }) (v := ?_) rfl ?_ (by assumption) ?_
       rotate_left 1
       ·
        intro w hSw; (try dsimp only at hSw); go_simp; try (with_reducible rfl)
       try simp only [Act.put, setIfInBounds_toArray, set_cons_zero, set_cons_succ]
       refine tkH (i := 11) (oi := { dst := some 75, op := Op.binOp BinOp.eql 3 (Operand.tmp 71) (Operand.tmp 74) 3, type := 4, pos := "l05_lp.go:109", after := #[{ on := 7, ground := Ground.data }, { on := 10, ground := Ground.data }, { on := 4, ground := Ground.guard }], guard := some (4, true) }) (v := ?_) rfl ?_ (by assumption) ?_
       rotate_left 1
       ·
        intro w hSw; (try dsimp only at hSw); go_simp; try (with_reducible rfl)
       try simp only [Act.put, setIfInBounds_toArray, set_cons_zero, set_cons_succ]
       refine tkH (i := 12) (oi := { dst := some 76, op := Op.pick (Operand.tmp 68) (Operand.tmp 75) (Operand.const (Value.bool false)), type := 4, pos := "l05_lp.go:109", after := #[{ on := 4, ground := Ground.data }, { on := 11, ground := Ground.data }], guard := none }) (v := ?_) rfl ?_ (by assumption) ?_
       rotate_left 1
       ·
        intro w hSw; (try dsimp only at hSw); go_simp; try (with_reducible rfl)
       try simp only [Act.put, setIfInBounds_toArray, set_cons_zero, set_cons_succ]
       refine tkH (i := 13) (oi := { dst := some 77, op := Op.move (Operand.tmp 76), type := 4, pos := "l05_lp.go:109", after := #[{ on := 12, ground := Ground.data }, { on := 4, ground := Ground.chain }], guard := none }) (v := ?_) rfl ?_ (by assumption) ?_
       rotate_left 1
       ·
        intro w hSw; (try dsimp only at hSw); go_simp; try (with_reducible rfl)
       try simp only [Act.put, setIfInBounds_toArray, set_cons_zero, set_cons_succ]
       refine tkH (i := 14) (oi := { dst := some 78, op := Op.fieldAddr 32 (Operand.tmp 3) 3, type := 0, pos := "l05_lp.go:109", after := #[{ on := 13, ground := Ground.guard }], guard := some (13, true) }) (v := ?_) rfl ?_ (by assumption) ?_
       rotate_left 1
       ·
        intro w hSw; (try dsimp only at hSw); go_simp; try (with_reducible rfl)
       try simp only [Act.put, setIfInBounds_toArray, set_cons_zero, set_cons_succ]
       refine tkH (i := 15) (oi := { dst := some 79, op := Op.load 26 (Operand.tmp 78), type := 26, pos := "l05_lp.go:109", after := #[{ on := 14, ground := Ground.data }, { on := 13, ground := Ground.guard }], guard := some (13, true) }) (v := ?_) rfl ?_ (by assumption) ?_
       rotate_left 1
       ·
        intro w hSw; (try dsimp only at hSw); go_simp; try (with_reducible rfl)
       try simp only [Act.put, setIfInBounds_toArray, set_cons_zero, set_cons_succ]
       refine wpAnyH_ready (rs := [16]) (by kernel_rfl) (by simp) ?_
       refine AllReadyH.cons (o := { dst := some 80, op := Op.call { callee := Callee.value (Operand.func 31), args := #[Operand.tmp 79], argTypes := #[26] }, type := 4, pos := "l05_lp.go:109", after := #[{ on := 15, ground := Ground.data }, { on := 13, ground := Ground.chain }, { on := 13, ground := Ground.guard }], guard := some (13, true) }) (rs := []) rfl (fun K hK => ?_) AllReadyH.nil
       go_simp
       (go_at_call 31; refine (calls_k LS.out (Hnn.out _ (by assumption)) (by assumption)).mono ?_; rintro e w' ⟨rfl, hk6, hin6⟩)
       refine hK.out _ _ ?_ (fun hHeld => ?_)
       ·
        exact Cell.out _ (by assumption)
       clear hK K
       try simp only [Act.put, setIfInBounds_toArray, set_cons_zero, set_cons_succ]
       refine tkH (i := 17) (oi := { dst := some 81, op := Op.pick (Operand.tmp 77) (Operand.tmp 80) (Operand.const (Value.bool false)), type := 4, pos := "l05_lp.go:109", after := #[{ on := 13, ground := Ground.data }, { on := 16, ground := Ground.data }], guard := none }) (v := ?_) rfl ?_ (by assumption) ?_
       rotate_left 1
       ·
        intro w hSw; (try dsimp only at hSw); go_simp; try (with_reducible rfl)
       try simp only [Act.put, setIfInBounds_toArray, set_cons_zero, set_cons_succ]
       refine tkH (i := 18) (oi := { dst := some 82, op := Op.move (Operand.tmp 81), type := 4, pos := "l05_lp.go:109", after := #[{ on := 17, ground := Ground.data }, { on := 16, ground := Ground.chain }], guard := none }) (v := ?_) rfl ?_ (by assumption) ?_
       rotate_left 1
       ·
        intro w hSw; (try dsimp only at hSw); go_simp; try (with_reducible rfl)
       try simp only [Act.put, setIfInBounds_toArray, set_cons_zero, set_cons_succ]
       refine tkH (i := 19) (oi := { dst := some 83, op := Op.load 28 (Operand.tmp 2), type := 28, pos := "l05_lp.go:109", after := #[{ on := 18, ground := Ground.guard }], guard := some (18, true) }) (v := ?_) rfl ?_ (by assumption) ?_
       rotate_left 1
       ·
        intro w hSw; (try dsimp only at hSw); go_simp; try (with_reducible rfl)
       try simp only [Act.put, setIfInBounds_toArray, set_cons_zero, set_cons_succ]
       refine tkH (i := 20) (oi := { dst := some 84, op := Op.fieldAddr 32 (Operand.tmp 3) 3, type := 0, pos := "l05_lp.go:109", after := #[{ on := 18, ground := Ground.guard }], guard := some (18, true) }) (v := ?_) rfl ?_ (by assumption) ?_
       rotate_left 1
       ·
        intro w hSw; (try dsimp only at hSw); go_simp; try (with_reducible rfl)
       try simp only [Act.put, setIfInBounds_toArray, set_cons_zero, set_cons_succ]
       refine tkH (i := 21) (oi := { dst := some 85, op := Op.load 26 (Operand.tmp 84), type := 26, pos := "l05_lp.go:109", after := #[{ on := 20, ground := Ground.data }, { on := 18, ground := Ground.guard }], guard := some (18, true) }) (v := ?_) rfl ?_ (by assumption) ?_
       rotate_left 1
       ·
        intro w hSw; (try dsimp only at hSw); go_simp; try (with_reducible rfl)
       try simp only [Act.put, setIfInBounds_toArray, set_cons_zero, set_cons_succ]
       refine tkH (i := 22) (oi := { dst := some 86, op := Op.fieldAddr 28 (Operand.tmp 2) 1, type := 0, pos := "l05_lp.go:109", after := #[{ on := 18, ground := Ground.guard }], guard := some (18, true) }) (v := ?_) rfl ?_ (by assumption) ?_
       rotate_left 1
       ·
        intro w hSw; (try dsimp only at hSw); go_simp; try (with_reducible rfl)
       try simp only [Act.put, setIfInBounds_toArray, set_cons_zero, set_cons_succ]
       refine tkH (i := 23) (oi := { dst := some 87, op := Op.load 25 (Operand.tmp 86), type := 25, pos := "l05_lp.go:109", after := #[{ on := 22, ground := Ground.data }, { on := 18, ground := Ground.guard }], guard := some (18, true) }) (v := ?_) rfl ?_ (by assumption) ?_
       rotate_left 1
       ·
        intro w hSw; (try dsimp only at hSw); go_simp; try (with_reducible rfl)
       try simp only [Act.put, setIfInBounds_toArray, set_cons_zero, set_cons_succ]
       refine tkH (i := 24) (oi := { dst := some 88, op := Op.call { callee := Callee.builtin Builtin.len, args := #[Operand.tmp 87], argTypes := #[25] }, type := 3, pos := "l05_lp.go:109", after := #[{ on := 23, ground := Ground.data }, { on := 18, ground := Ground.guard }], guard := some (18, true) }) (v := ?_) rfl ?_ (by assumption) ?_
       rotate_left 1
       ·
        intro w hSw; (try dsimp only at hSw); go_simp; try (with_reducible rfl)
       try simp only [Act.put, setIfInBounds_toArray, set_cons_zero, set_cons_succ]
       refine wpAnyH_ready (rs := [25]) (by kernel_rfl) (by simp) ?_
       refine AllReadyH.cons (o := { dst := some 89, op := Op.makeSlice 25 (Operand.tmp 88) (Operand.tmp 88), type := 25, pos := "l05_lp.go:109", after := #[{ on := 24, ground := Ground.data }, { on := 24, ground := Ground.data }, { on := 18, ground := Ground.guard }], guard := some (18, true) }) (rs := []) rfl (fun K hK => ?_) AllReadyH.nil
       (refine step_make_full (by kernel_rfl) (.tmp 88) (.tmp 88) 25 rfl _ 3 i0 (.int .i64 0) 1 Try.underlying25 HI.out HZ0.out HZ1.out rfl .i64 .i64 _ _ p.B.length rfl rfl rfl rfl (by rw [HZ2.out]; omega) (by unfold maxLen; omega) (Nat.le_refl _) ?_; intro w9 hown hgrow; have hin9 := LS.out _ _ (below_made hgrow) (by assumption : L _); have ho9 := zeros_own hown; obtain ⟨zb, zc, hzv, hzr, hza, _⟩ := own_reads ho9; obtain ⟨rfl, rfl⟩ := slice_inj hzv; have hzn := NumsIn.of_ints (B := w9.heap.size) hzr fun q hq => (hza q hq).2; clear hown hgrow ho9 hzr hza hzv)
       refine hK.out _ _ ?_ (fun hHeld => ?_)
       ·
        exact Cell.out _ (by assumption)
       clear hK K
       try simp only [Act.put, setIfInBounds_toArray, set_cons_zero, set_cons_succ]
       refine wpAnyH_ready (rs := [26]) (by kernel_rfl) (by simp) ?_
       refine AllReadyH.cons (o := { dst := some 90, op := Op.call { callee := Callee.value (Operand.func 32), args := #[Operand.tmp 83, Operand.tmp 85, Operand.tmp 89], argTypes := #[28, 26, 25] }, type := 4, pos := "l05_lp.go:109", after := #[{ on := 19, ground := Ground.data }, { on := 21, ground := Ground.data }, { on := 25, ground := Ground.data }, { on := 18, ground := Ground.chain }, { on := 18, ground := Ground.guard }], guard := some (18, true) }) (rs := []) rfl (fun K hK => ?_) AllReadyH.nil
       go_simp
       (go_at_call 32; refine (calls_k LS.out (Hgi.out _ (by assumption) _ _ (by assumption)) (by assumption)).mono ?_; rintro e w' ⟨rfl, hk7, hin7⟩)
       refine hK.out _ _ ?_ (fun hHeld => ?_)
       ·
        exact Cell.out _ (by assumption)
       clear hK K
       try simp only [Act.put, setIfInBounds_toArray, set_cons_zero, set_cons_succ]
       refine tkH (i := 27) (oi := { dst := some 91, op := Op.pick (Operand.tmp 82) (Operand.tmp 90) (Operand.const (Value.bool false)), type := 4, pos := "l05_lp.go:109", after := #[{ on := 18, ground := Ground.data }, { on := 26, ground := Ground.data }], guard := none }) (v := ?_) rfl ?_ (by assumption) ?_
       rotate_left 1
       ·
        intro w hSw; (try dsimp only at hSw); go_simp; try (with_reducible rfl)
       try simp only [Act.put, setIfInBounds_toArray, set_cons_zero, set_cons_succ]
       refine tkH (i := 28) (oi := { dst := some 92, op := Op.move (Operand.tmp 91), type := 4, pos := "l05_lp.go:109", after := #[{ on := 27, ground := Ground.data }, { on := 26, ground := Ground.chain }], guard := none }) (v := ?_) rfl ?_ (by assumption) ?_
       rotate_left 1
       ·
        intro w hSw; (try dsimp only at hSw); go_simp; try (with_reducible rfl)
       try simp only [Act.put, setIfInBounds_toArray, set_cons_zero, set_cons_succ]
       refine tkH (i := 29) (oi := { dst := some 93, op := Op.move (Operand.tmp 8), type := 4, pos := "l05_lp.go:109", after := #[{ on := 28, ground := Ground.guard }], guard := some (28, true) }) (v := ?_) rfl ?_ (by assumption) ?_
       rotate_left 1
       ·
        intro w hSw; (try dsimp only at hSw); go_simp; try (with_reducible rfl)
       try simp only [Act.put, setIfInBounds_toArray, set_cons_zero, set_cons_succ]
       refine tkH (i := 30) (oi := { dst := some 94, op := Op.pick (Operand.tmp 92) (Operand.tmp 93) (Operand.const (Value.bool false)), type := 4, pos := "l05_lp.go:109", after := #[{ on := 28, ground := Ground.data }, { on := 29, ground := Ground.data }], guard := none }) (v := ?_) rfl ?_ (by assumption) ?_
       rotate_left 1
       ·
        intro w hSw; (try dsimp only at hSw); go_simp; try (with_reducible rfl)
       try simp only [Act.put, setIfInBounds_toArray, set_cons_zero, set_cons_succ]
       refine tkH (i := 31) (oi := { dst := some 95, op := Op.move (Operand.tmp 94), type := 4, pos := "l05_lp.go:109", after := #[{ on := 30, ground := Ground.data }, { on := 28, ground := Ground.chain }], guard := none }) (v := ?_) rfl ?_ (by assumption) ?_
       rotate_left 1
       ·
        intro w hSw; (try dsimp only at hSw); go_simp; try (with_reducible rfl)
       try simp only [Act.put, setIfInBounds_toArray, set_cons_zero, set_cons_succ]
       refine tkH (i := 32) (oi := { dst := some 96, op := Op.fieldAddr 30 (Operand.tmp 7) 0, type := 0, pos := "l05_lp.go:109", after := #[{ on := 31, ground := Ground.guard }], guard := some (31, true) }) (v := ?_) rfl ?_ (by assumption) ?_
       rotate_left 1
       ·
        intro w hSw; (try dsimp only at hSw); go_simp; try (with_reducible rfl)
       try simp only [Act.put, setIfInBounds_toArray, set_cons_zero, set_cons_succ]
       refine tkH (i := 33) (oi := { dst := some 97, op := Op.load 3 (Operand.tmp 96), type := 3, pos := "l05_lp.go:109", after := #[{ on := 32, ground := Ground.data }, { on := 31, ground := Ground.guard }], guard := some (31, true) }) (v := ?_) rfl ?_ (by assumption) ?_
       rotate_left 1
       ·
        intro w hSw; (try dsimp only at hSw); go_simp; try (with_reducible rfl)
       try simp only [Act.put, setIfInBounds_toArray, set_cons_zero, set_cons_succ]
       refine tkH (i := 34) (oi := { dst := some 98, op := Op.binOp BinOp.lss 3 (Operand.tmp 97) (Operand.const (Value.int IntKind.i64 0)) 3, type := 4, pos := "l05_lp.go:109", after := #[{ on := 33, ground := Ground.data }, { on := 31, ground := Ground.guard }], guard := some (31, true) }) (v := ?_) rfl ?_ (by assumption) ?_
       rotate_left 1
       ·
        intro w hSw; (try dsimp only at hSw); go_simp; try (with_reducible rfl)
       try simp only [Act.put, setIfInBounds_toArray, set_cons_zero, set_cons_succ]
       refine tkH (i := 35) (oi := { dst := some 99, op := Op.pick (Operand.tmp 95) (Operand.tmp 98) (Operand.const (Value.bool false)), type := 4, pos := "l05_lp.go:109", after := #[{ on := 31, ground := Ground.data }, { on := 34, ground := Ground.data }], guard := none }) (v := ?_) rfl ?_ (by assumption) ?_
       rotate_left 1
       ·
        intro w hSw; (try dsimp only at hSw); go_simp; try (with_reducible rfl)
       try simp only [Act.put, setIfInBounds_toArray, set_cons_zero, set_cons_succ]
       refine tkH (i := 36) (oi := { dst := some 4, op := Op.assign (Operand.tmp 99), type := 4, pos := "l05_lp.go:109", after := #[{ on := 35, ground := Ground.data }, { on := 31, ground := Ground.chain }, { on := 0, ground := Ground.phase }, { on := 1, ground := Ground.phase }, { on := 2, ground := Ground.phase }, { on := 3, ground := Ground.phase }, { on := 4, ground := Ground.phase }, { on := 5, ground := Ground.phase }, { on := 6, ground := Ground.phase }, { on := 7, ground := Ground.phase }, { on := 8, ground := Ground.phase }, { on := 9, ground := Ground.phase }, { on := 10, ground := Ground.phase }, { on := 11, ground := Ground.phase }, { on := 12, ground := Ground.phase }, { on := 13, ground := Ground.phase }, { on := 14, ground := Ground.phase }, { on := 15, ground := Ground.phase }, { on := 16, ground := Ground.phase }, { on := 17, ground := Ground.phase }, { on := 18, ground := Ground.phase }, { on := 19, ground := Ground.phase }, { on := 20, ground := Ground.phase }, { on := 21, ground := Ground.phase }, { on := 22, ground := Ground.phase }, { on := 23, ground := Ground.phase }, { on := 24, ground := Ground.phase }, { on := 25, ground := Ground.phase }, { on := 26, ground := Ground.phase }, { on := 27, ground := Ground.phase }, { on := 28, ground := Ground.phase }, { on := 29, ground := Ground.phase }, { on := 30, ground := Ground.phase }, { on := 31, ground := Ground.phase }, { on := 32, ground := Ground.phase }, { on := 33, ground := Ground.phase }, { on := 34, ground := Ground.phase }, { on := 35, ground := Ground.phase }], guard := none }) (v := ?_) rfl ?_ (by assumption) ?_
       rotate_left 1
       ·
        intro w hSw; (try dsimp only at hSw); go_simp; try (with_reducible rfl)
       try simp only [Act.put, setIfInBounds_toArray, set_cons_zero, set_cons_succ]
       refine wpAnyH_done (by kernel_rfl) ?_ _
       go_wp2_with fail
       go_ret
       exact ⟨ret_bool Hr.out, (LK.out _ (by assumption)).1.1⟩
  ·
   obtain ⟨l1, l2⟩ := len_no hl
   have Hr := Lib.hid (show false = g by rw [← Hg2.out]; simp [hl])
   refine wp_region_held_drew (S := (fun w' => w'.cell? ⟨w.heap.size, 0, none⟩ = some (.slice a p.A.length c1) ∧ w'.cell? ⟨w.heap.size, 1, none⟩ = some (.slice b p.B.length c2) ∧ w'.cell? ⟨w.heap.size, 2, none⟩ = some (.slice c p.C.length c3) ∧ w'.cell? ⟨w.heap.size + 1, 1, none⟩ = some (.slice ra X.length d1) ∧ w'.cell? ⟨w.heap.size + 1, 3, none⟩ = some (.slice rc Z.length d3) ∧ w'.cell? ⟨w2.heap.size, 0, none⟩ = some (.int .i64 D.1) ∧ L w')) (by kernel_rfl) ?_ (fun hHeld => ?_)
   ·
    exact Cell.out _ hin
   refine tkH (i := 0) (oi := { dst := some 64, op := Op.load 28 (Operand.tmp 2), type := 28, pos := "l05_lp.go:109", after := #[], guard := none }) (v := ?_) rfl ?_ (by assumption) ?_
   rotate_left 1
   ·
    intro w hSw; (try dsimp only at hSw); go_simp; try (with_reducible rfl)
   try simp only [Act.put, setIfInBounds_toArray, set_cons_zero, set_cons_succ]
   refine tkH (i := 1) (oi := { dst := some 65, op := Op.fieldAddr 32 (Operand.tmp 3) 1, type := 0, pos := "l05_lp.go:109", after := #[], guard := none }) (v := ?_) rfl ?_ (by assumption) ?_
   rotate_left 1
   ·
    intro w hSw; (try dsimp only at hSw); go_simp; try (with_reducible rfl)
   try simp only [Act.put, setIfInBounds_toArray, set_cons_zero, set_cons_succ]
   refine tkH (i := 2) (oi := { dst := some 66, op := Op.load 26 (Operand.tmp 65), type := 26, pos := "l05_lp.go:109", after := #[{ on := 1, ground := Ground.data }], guard := none }) (v := ?_) rfl ?_ (by assumption) ?_
   rotate_left 1
   ·
    intro w hSw; (try dsimp only at hSw); go_simp; try (with_reducible rfl)
   try simp only [Act.put, setIfInBounds_toArray, set_cons_zero, set_cons_succ]
   refine wpAnyH_ready (rs := [3]) (by kernel_rfl) (by simp) ?_
   refine AllReadyH.cons (o := { dst := some 67, op := Op.call { callee := Callee.value (Operand.func 14), args := #[Operand.tmp 64, Operand.tmp 66], argTypes := #[28, 26] }, type := 4, pos := "l05_lp.go:109", after := #[{ on := 0, ground := Ground.data }, { on := 2, ground := Ground.data }], guard := none }) (rs := []) rfl (fun K hK => ?_) AllReadyH.nil
   go_simp
   (go_at_call 14; refine (calls_k LS.out (Hfe.out _ (by assumption)) (by assumption)).mono ?_; rintro e w' ⟨rfl, hk5, hin5⟩)
   refine hK.out _ _ ?_ (fun hHeld => ?_)
   ·
    exact Cell.out _ (by assumption)
   clear hK K
   try simp only [Act.put, setIfInBounds_toArray, set_cons_zero, set_cons_succ]
   refine tkH (i := 4) (oi := { dst := some 68, op := Op.move (Operand.tmp 67), type := 4, pos := "l05_lp.go:109", after := #[{ on := 3, ground := Ground.data }, { on := 3, ground := Ground.chain }], guard := none }) (v := ?_) rfl ?_ (by assumption) ?_
   rotate_left 1
   ·
    intro w hSw; (try dsimp only at hSw); go_simp; try (with_reducible rfl)
   try simp only [Act.put, setIfInBounds_toArray, set_cons_zero, set_cons_succ]
   refine tkH (i := 5) (oi := { dst := some 69, op := Op.fieldAddr 32 (Operand.tmp 3) 3, type := 0, pos := "l05_lp.go:109", after := #[{ on := 4, ground := Ground.guard }], guard := some (4, true) }) (v := ?_) rfl ?_ (by assumption) ?_
   rotate_left 1
   ·
    intro w hSw; (try dsimp only at hSw); go_simp; try (with_reducible rfl)
   try simp only [Act.put, setIfInBounds_toArray, set_cons_zero, set_cons_succ]
   refine tkH (i := 6) (oi := { dst := some 70, op := Op.load 26 (Operand.tmp 69), type := 26, pos := "l05_lp.go:109", after := #[{ on := 5, ground := Ground.data }, { on := 4, ground := Ground.guard }], guard := some (4, true) }) (v := ?_) rfl ?_ (by assumption) ?_
   rotate_left 1
   ·
    intro w hSw; (try dsimp only at hSw); go_simp; try (with_reducible rfl)
   try simp only [Act.put, setIfInBounds_toArray, set_cons_zero, set_cons_succ]
   refine tkH (i := 7) (oi := { dst := some 71, op := Op.call { callee := Callee.builtin Builtin.len, args := #[Operand.tmp 70], argTypes := #[26] }, type := 3, pos := "l05_lp.go:109", after := #[{ on := 6, ground := Ground.data }, { on := 4, ground := Ground.guard }], guard := some (4, true) }) (v := ?_) rfl ?_ (by assumption) ?_
   rotate_left 1
   ·
    intro w hSw; (try dsimp only at hSw); go_simp; try (with_reducible rfl)
   try simp only [Act.put, setIfInBounds_toArray, set_cons_zero, set_cons_succ]
   refine tkH (i := 8) (oi := { dst := some 72, op := Op.fieldAddr 28 (Operand.tmp 2) 2, type := 0, pos := "l05_lp.go:109", after := #[{ on := 4, ground := Ground.guard }], guard := some (4, true) }) (v := ?_) rfl ?_ (by assumption) ?_
   rotate_left 1
   ·
    intro w hSw; (try dsimp only at hSw); go_simp; try (with_reducible rfl)
   try simp only [Act.put, setIfInBounds_toArray, set_cons_zero, set_cons_succ]
   refine tkH (i := 9) (oi := { dst := some 73, op := Op.load 26 (Operand.tmp 72), type := 26, pos := "l05_lp.go:109", after := #[{ on := 8, ground := Ground.data }, { on := 4, ground := Ground.guard }], guard := some (4, true) }) (v := ?_) rfl ?_ (by assumption) ?_
   rotate_left 1
   ·
    intro w hSw; (try dsimp only at hSw); go_simp; try (with_reducible rfl)
   try simp only [Act.put, setIfInBounds_toArray, set_cons_zero, set_cons_succ]
   refine tkH (i := 10) (oi := { dst := some 74, op := Op.call { callee := Callee.builtin Builtin.len, args := #[Operand.tmp 73], argTypes := #[26] }, type := 3, pos := "l05_lp.go:109", after := #[{ on := 9, ground := Ground.data }, { on := 4, ground := Ground.guard }], guard := some (4, true) }) (v := ?_) rfl ?_ (by assumption) ?_
   rotate_left 1
   ·
    intro w hSw; (try dsimp only at hSw); go_simp; try (with_reducible rfl)
   try simp only [Act.put, setIfInBounds_toArray, set_cons_zero, set_cons_succ]
   refine tkH (i := 11) (oi := { dst := some 75, op := Op.binOp BinOp.eql 3 (Operand.tmp 71) (Operand.tmp 74) 3, type := 4, pos := "l05_lp.go:109", after := #[{ on := 7, ground := Ground.data }, { on := 10, ground := Ground.data }, { on := 4, ground := Ground.guard }], guard := some (4, true) }) (v := ?_) rfl ?_ (by assumption) ?_
   rotate_left 1
   ·
    intro w hSw; (try dsimp only at hSw); go_simp; try (with_reducible rfl)
   try simp only [Act.put, setIfInBounds_toArray, set_cons_zero, set_cons_succ]
   refine tkH (i := 12) (oi := { dst := some 76, op := Op.pick (Operand.tmp 68) (Operand.tmp 75) (Operand.const (Value.bool false)), type := 4, pos := "l05_lp.go:109", after := #[{ on := 4, ground := Ground.data }, { on := 11, ground := Ground.data }], guard := none }) (v := ?_) rfl ?_ (by assumption) ?_
   rotate_left 1
   ·
    intro w hSw; (try dsimp only at hSw); go_simp; try (with_reducible rfl)
   try simp only [Act.put, setIfInBounds_toArray, set_cons_zero, set_cons_succ]
   refine tkH (i := 13) (oi := { dst := some 77, op := Op.move (Operand.tmp 76), type := 4, pos := "l05_lp.go:109", after := #[{ on := 12, ground := Ground.data }, { on := 4, ground := Ground.chain }], guard := none }) (v := ?_) rfl ?_ (by assumption) ?_
   rotate_left 1
   ·
    intro w hSw; (try dsimp only at hSw); go_simp; try (with_reducible rfl)
   try simp only [Act.put, setIfInBounds_toArray, set_cons_zero, set_cons_succ]
   refine tkHu (i := 14) (oi := { dst := some 78, op := Op.fieldAddr 32 (Operand.tmp 3) 3, type := 0, pos := "l05_lp.go:109", after := #[{ on := 13, ground := Ground.guard }], guard := some (13, true) }) rfl (by assumption) ?_
   try simp only [Act.put, setIfInBounds_toArray, set_cons_zero, set_cons_succ]
   refine tkHu (i := 15) (oi := { dst := some 79, op := Op.load 26 (Operand.tmp 78), type := 26, pos := "l05_lp.go:109", after := #[{ on := 14, ground := Ground.data }, { on := 13, ground := Ground.guard }], guard := some (13, true) }) rfl (by assumption) ?_
   try simp only [Act.put, setIfInBounds_toArray, set_cons_zero, set_cons_succ]
   refine tkHu (i := 16) (oi := { dst := some 80, op := Op.call { callee := Callee.value (Operand.func 31), args := #[Operand.tmp 79], argTypes := #[26] }, type := 4, pos := "l05_lp.go:109", after := #[{ on := 15, ground := Ground.data }, { on := 13, ground := Ground.chain }, { on := 13, ground := Ground.guard }], guard := some (13, true) }) rfl (by assumption) ?_
   try simp only [Act.put, setIfInBounds_toArray, set_cons_zero, set_cons_succ]
   refine tkH (i := 17) (oi := { dst := some 81, op := Op.pick (Operand.tmp 77) (Operand.tmp 80) (Operand.const (Value.bool false)), type := 4, pos := "l05_lp.go:109", after := #[{ on := 13, ground := Ground.data }, { on := 16, ground := Ground.data }], guard := none }) (v := ?_) rfl ?_ (by assumption) ?_
   rotate_left 1
   ·
    intro w hSw; (try dsimp only at hSw); go_simp; try (with_reducible rfl)
   try simp only [Act.put, setIfInBounds_toArray, set_cons_zero, set_cons_succ]
   refine tkH (i := 18) (oi := { dst := some 82, op := Op.move (Operand.tmp 81), type := 4, pos := "l05_lp.go:109", after := #[{ on := 17, ground := Ground.data }, { on := 16, ground := Ground.chain }], guard := none }) (v := ?_) rfl ?_ (by assumption) ?_
   rotate_left 1
   ·
    intro w hSw; (try dsimp only at hSw); go_simp; try (with_reducible rfl)
   try simp only [Act.put, setIfInBounds_toArray, set_cons_zero, set_cons_succ]
   refine tkHu (i := 19) (oi := { dst := some 83, op := Op.load 28 (Operand.tmp 2), type := 28, pos := "l05_lp.go:109", after := #[{ on := 18, ground := Ground.guard }], guard := some (18, true) }) rfl (by assumption) ?_
   try simp only [Act.put, setIfInBounds_toArray, set_cons_zero, set_cons_succ]
   refine tkHu (i := 20) (oi := { dst := some 84, op := Op.fieldAddr 32 (Operand.tmp 3) 3, type := 0, pos := "l05_lp.go:109", after := #[{ on := 18, ground := Ground.guard }], guard := some (18, true) }) rfl (by assumption) ?_
   try simp only [Act.put, setIfInBounds_toArray, set_cons_zero, set_cons_succ]
   refine tkHu (i := 21) (oi := { dst := some 85, op := Op.load 26 (Operand.tmp 84), type := 26, pos := "l05_lp.go:109", after := #[{ on := 20, ground := Ground.data }, { on := 18, ground := Ground.guard }], guard := some (18, true) }) rfl (by assumption) ?_
   try simp only [Act.put, setIfInBounds_toArray, set_cons_zero, set_cons_succ]
   refine tkHu (i := 22) (oi := { dst := some 86, op := Op.fieldAddr 28 (Operand.tmp 2) 1, type := 0, pos := "l05_lp.go:109", after := #[{ on := 18, ground := Ground.guard }], guard := some (18, true) }) rfl (by assumption) ?_
   try simp only [Act.put, setIfInBounds_toArray, set_cons_zero, set_cons_succ]
   refine tkHu (i := 23) (oi := { dst := some 87, op := Op.load 25 (Operand.tmp 86), type := 25, pos := "l05_lp.go:109", after := #[{ on := 22, ground := Ground.data }, { on := 18, ground := Ground.guard }], guard := some (18, true) }) rfl (by assumption) ?_
   try simp only [Act.put, setIfInBounds_toArray, set_cons_zero, set_cons_succ]
   refine tkHu (i := 24) (oi := { dst := some 88, op := Op.call { callee := Callee.builtin Builtin.len, args := #[Operand.tmp 87], argTypes := #[25] }, type := 3, pos := "l05_lp.go:109", after := #[{ on := 23, ground := Ground.data }, { on := 18, ground := Ground.guard }], guard := some (18, true) }) rfl (by assumption) ?_
   try simp only [Act.put, setIfInBounds_toArray, set_cons_zero, set_cons_succ]
   refine tkHu (i := 25) (oi := { dst := some 89, op := Op.makeSlice 25 (Operand.tmp 88) (Operand.tmp 88), type := 25, pos := "l05_lp.go:109", after := #[{ on := 24, ground := Ground.data }, { on := 24, ground := Ground.data }, { on := 18, ground := Ground.guard }], guard := some (18, true) }) rfl (by assumption) ?_
   try simp only [Act.put, setIfInBounds_toArray, set_cons_zero, set_cons_succ]
   refine tkHu (i := 26) (oi := { dst := some 90, op := Op.call { callee := Callee.value (Operand.func 32), args := #[Operand.tmp 83, Operand.tmp 85, Operand.tmp 89], argTypes := #[28, 26, 25] }, type := 4, pos := "l05_lp.go:109", after := #[{ on := 19, ground := Ground.data }, { on := 21, ground := Ground.data }, { on := 25, ground := Ground.data }, { on := 18, ground := Ground.chain }, { on := 18, ground := Ground.guard }], guard := some (18, true) }) rfl (by assumption) ?_
   try simp only [Act.put, setIfInBounds_toArray, set_cons_zero, set_cons_succ]
   refine tkH (i := 27) (oi := { dst := some 91, op := Op.pick (Operand.tmp 82) (Operand.tmp 90) (Operand.const (Value.bool false)), type := 4, pos := "l05_lp.go:109", after := #[{ on := 18, ground := Ground.data }, { on := 26, ground := Ground.data }], guard := none }) (v := ?_) rfl ?_ (by assumption) ?_
   rotate_left 1
   ·
    intro w hSw; (try dsimp only at hSw); go_simp; try (with_reducible rfl)
   try simp only [Act.put, setIfInBounds_toArray, set_cons_zero, set_cons_succ]
   refine tkH (i := 28) (oi := { dst := some 92, op := Op.move (Operand.tmp 91), type := 4, pos := "l05_lp.go:109", after := #[{ on := 27, ground := Ground.data }, { on := 26, ground := Ground.chain }], guard := none }) (v := ?_) rfl ?_ (by assumption) ?_
   rotate_left 1
   ·
    intro w hSw; (try dsimp only at hSw); go_simp; try (with_reducible rfl)
   try simp only [Act.put, setIfInBounds_toArray, set_cons_zero, set_cons_succ]
   refine tkHu (i := 29) (oi := { dst := some 93, op := Op.move (Operand.tmp 8), type := 4, pos := "l05_lp.go:109", after := #[{ on := 28, ground := Ground.guard }], guard := some (28, true) }) rfl (by assumption) ?_
   try simp only [Act.put, setIfInBounds_toArray, set_cons_zero, set_cons_succ]
   refine tkH (i := 30) (oi := { dst := some 94, op := Op.pick (Operand.tmp 92) (Operand.tmp 93) (Operand.const (Value.bool false)), type := 4, pos := "l05_lp.go:109", after := #[{ on := 28, ground := Ground.data }, { on := 29, ground := Ground.data }], guard := none }) (v := ?_) rfl ?_ (by assumption) ?_
   rotate_left 1
   ·
    intro w hSw; (try dsimp only at hSw); go_simp; try (with_reducible rfl)
   try simp only [Act.put, setIfInBounds_toArray, set_cons_zero, set_cons_succ]
   refine tkH (i := 31) (oi := { dst := some 95, op := Op.move (Operand.tmp 94), type := 4, pos := "l05_lp.go:109", after := #[{ on := 30, ground := Ground.data }, { on := 28, ground := Ground.chain }], guard := none }) (v := ?_) rfl ?_ (by assumption) ?_
   rotate_left 1
   ·
    intro w hSw; (try dsimp only at hSw); go_simp; try (with_reducible rfl)
   try simp only [Act.put, setIfInBounds_toArray, set_cons_zero, set_cons_succ]
   refine tkHu (i := 32) (oi := { dst := some 96, op := Op.fieldAddr 30 (Operand.tmp 7) 0, type := 0, pos := "l05_lp.go:109", after := #[{ on := 31, ground := Ground.guard }], guard := some (31, true) }) rfl (by assumption) ?_
   try simp only [Act.put, setIfInBounds_toArray, set_cons_zero, set_cons_succ]
   refine tkHu (i := 33) (oi := { dst := some 97, op := Op.load 3 (Operand.tmp 96), type := 3, pos := "l05_lp.go:109", after := #[{ on := 32, ground := Ground.data }, { on := 31, ground := Ground.guard }], guard := some (31, true) }) rfl (by assumption) ?_
   try simp only [Act.put, setIfInBounds_toArray, set_cons_zero, set_cons_succ]
   refine tkHu (i := 34) (oi := { dst := some 98, op := Op.binOp BinOp.lss 3 (Operand.tmp 97) (Operand.const (Value.int IntKind.i64 0)) 3, type := 4, pos := "l05_lp.go:109", after := #[{ on := 33, ground := Ground.data }, { on := 31, ground := Ground.guard }], guard := some (31, true) }) rfl (by assumption) ?_
   try simp only [Act.put, setIfInBounds_toArray, set_cons_zero, set_cons_succ]
   refine tkH (i := 35) (oi := { dst := some 99, op := Op.pick (Operand.tmp 95) (Operand.tmp 98) (Operand.const (Value.bool false)), type := 4, pos := "l05_lp.go:109", after := #[{ on := 31, ground := Ground.data }, { on := 34, ground := Ground.data }], guard := none }) (v := ?_) rfl ?_ (by assumption) ?_
   rotate_left 1
   ·
    intro w hSw; (try dsimp only at hSw); go_simp; try (with_reducible rfl)
   try simp only [Act.put, setIfInBounds_toArray, set_cons_zero, set_cons_succ]
   refine tkH (i := 36) (oi := { dst := some 4, op := Op.assign (Operand.tmp 99), type := 4, pos := "l05_lp.go:109", after := #[{ on := 35, ground := Ground.data }, { on := 31, ground := Ground.chain }, { on := 0, ground := Ground.phase }, { on := 1, ground := Ground.phase }, { on := 2, ground := Ground.phase }, { on := 3, ground := Ground.phase }, { on := 4, ground := Ground.phase }, { on := 5, ground := Ground.phase }, { on := 6, ground := Ground.phase }, { on := 7, ground := Ground.phase }, { on := 8, ground := Ground.phase }, { on := 9, ground := Ground.phase }, { on := 10, ground := Ground.phase }, { on := 11, ground := Ground.phase }, { on := 12, ground := Ground.phase }, { on := 13, ground := Ground.phase }, { on := 14, ground := Ground.phase }, { on := 15, ground := Ground.phase }, { on := 16, ground := Ground.phase }, { on := 17, ground := Ground.phase }, { on := 18, ground := Ground.phase }, { on := 19, ground := Ground.phase }, { on := 20, ground := Ground.phase }, { on := 21, ground := Ground.phase }, { on := 22, ground := Ground.phase }, { on := 23, ground := Ground.phase }, { on := 24, ground := Ground.phase }, { on := 25, ground := Ground.phase }, { on := 26, ground := Ground.phase }, { on := 27, ground := Ground.phase }, { on := 28, ground := Ground.phase }, { on := 29, ground := Ground.phase }, { on := 30, ground := Ground.phase }, { on := 31, ground := Ground.phase }, { on := 32, ground := Ground.phase }, { on := 33, ground := Ground.phase }, { on := 34, ground := Ground.phase }, { on := 35, ground := Ground.phase }], guard := none }) (v := ?_) rfl ?_ (by assumption) ?_
   rotate_left 1
   ·
    intro w hSw; (try dsimp only at hSw); go_simp; try (with_reducible rfl)
   try simp only [Act.put, setIfInBounds_toArray, set_cons_zero, set_cons_succ]
   refine wpAnyH_done (by kernel_rfl) ?_ _
   go_wp2_with fail
   go_ret
   exact ⟨ret_bool Hr.out, (LK.out _ (by assumption)).1.1⟩
end Go.Proofs.Ytgnianjomjjfgaa

/- spec.CheckLP, whole. -/
namespace Go.Proofs.Ytgnianjomjjfgaa
open List (setIfInBounds_toArray set_cons_zero set_cons_succ)
open Go.RowKit
open Ve (R)
open Lp (P Res)
theorem int_no {a b : Int} (h : a ≠ b) : (a == b) = false ∧ (b == a) = false := ⟨by rw [beq_eq_false_iff_ne]; exact h, by rw [beq_eq_false_iff_ne]; exact fun e => h e.symm⟩
set_option maxRecDepth 100000 in
set_option maxHeartbeats 4000000 in
theorem spec_CheckLP (B : Nat) (a b c ra rb rc : Option Addr) (c1 c2 c3 d1 d2 d3 : Nat) (p : P) (r : Res) (hn : LpFits p) (hf : ResFits r) (g : Bool) (hg : Lp.chk p r = g) (w : World) (hBw : B ≤ w.heap.size) (hz : LpIn B w a b c p) (hr : ResIn B w ra rb rc r) :
  Calls Try.prog 8 #[.agg #[.slice a p.A.length c1, .slice b p.B.length c2, .slice c p.C.length c3], resV ra rb rc d1 d2 d3 r] w fun e w' => e = .returned (.bool g) ∧ Below w.heap.size w w' := by
 obtain ⟨st, X, Y, Z, ⟨nu, de⟩, pv⟩ := r
 rw [show resV ra rb rc d1 d2 d3 ⟨st, X, Y, Z, (nu, de), pv⟩ = .agg #[.int .i64 st, .slice ra X.length d1, .slice rb Y.length d2, .slice rc Z.length d3, .int .i64 nu, .int .i64 de, .int .i64 pv] from rfl]
 rcases hvl : Lp.vldP p with _ | _
 ·
  have Hr := Lib.hid (show false = g by rw [← hg]; unfold Lp.chk; rw [hvl]; rfl)
  have HX := Lib.hid (ChkBox.start w a b c ra rb rc c1 c2 c3 d1 d2 d3 p ⟨st, X, Y, Z, (nu, de), pv⟩ 28 32 hBw hz hr)
  have HV := Lib.hid (fun W (hB : w.heap.size ≤ W.heap.size) h => hvl ▸ spec_IsValidLP w.heap.size a b c c1 c2 c3 p hn W hB h)
  clear hz hr hg hvl hn hf
  go_enter Try.func8, Try.ntmps8
  go_wp2_with fail
  refine (HV.out _ HX.out.1.size HX.out.2.1).mono ?_
  rintro e w1 ⟨rfl, k1⟩
  have HX1 := Lib.hid (HX.out.up k1)
  clear k1
  go_wp2_with fail
  go_ret
  exact ⟨ret_bool Hr.out, HX1.out.1⟩
 ·
  by_cases h2 : st = 2
  ·
   subst h2
   exact spec_CheckLP_inf B a b c ra rb rc c1 c2 c3 d1 d2 d3 p X Y Z nu de pv hn hf hvl g (by rw [← hg]; unfold Lp.chk; rw [hvl]; rfl) w hBw hz hr
  ·
   by_cases h3 : st = 3
   ·
    subst h3
    exact spec_CheckLP_unb B a b c ra rb rc c1 c2 c3 d1 d2 d3 p X Y Z nu de pv hn hf hvl g (by rw [← hg]; unfold Lp.chk; rw [hvl]; rfl) w hBw hz hr
   ·
    have HX := Lib.hid (ChkBox.start w a b c ra rb rc c1 c2 c3 d1 d2 d3 p ⟨st, X, Y, Z, (nu, de), pv⟩ 28 32 hBw hz hr)
    have HV := Lib.hid (fun W (hB : w.heap.size ≤ W.heap.size) h => hvl ▸ spec_IsValidLP w.heap.size a b c c1 c2 c3 p hn W hB h)
    by_cases h1 : st = 1
    ·
     subst h1
     have Hop := Lib.hid (fun W (hB : w.heap.size ≤ W.heap.size) h h' => spec_l5Optimal w.heap.size a b c ra rb rc c1 c2 c3 d1 d2 d3 p ⟨1, X, Y, Z, (nu, de), pv⟩ hn hf hvl g (by rw [← hg]; unfold Lp.chk; rw [hvl]; rfl) W hB h h')
     clear hz hr hg hvl hn hf h2 h3
     go_enter Try.func8, Try.ntmps8
     go_wp2_with fail
     refine (HV.out _ HX.out.1.size HX.out.2.1).mono ?_
     rintro e w1 ⟨rfl, k1⟩
     have HX1 := Lib.hid (HX.out.up k1)
     obtain ⟨x0, x1, x2, _⟩ := HX1.out.2.2.2.1.cells
     obtain ⟨⟨r0, r1, r2, r3, r4, r5, r6⟩, _⟩ := seven HX1.out.2.2.2.2
     clear k1
     go_wp2_with fail
     refine (Hop.out _ HX1.out.1.size HX1.out.2.1 HX1.out.2.2.1).mono ?_
     rintro e w2 ⟨rfl, k2⟩
     have HX2 := Lib.hid (HX1.out.up k2)
     clear k2
     go_wp2_with fail
     go_ret
     exact ⟨rfl, HX2.out.1⟩
    ·
     have Hr := Lib.hid (show false = g by rw [← hg]; unfold Lp.chk; rw [hvl]; simp [h1, h2, h3])
     obtain ⟨a1, a2⟩ := int_no h1
     obtain ⟨b1, b2⟩ := int_no h2
     obtain ⟨e1, e2⟩ := int_no h3
     clear hz hr hg hvl hn hf h1 h2 h3
     go_enter Try.func8, Try.ntmps8
     go_wp2_with fail
     refine (HV.out _ HX.out.1.size HX.out.2.1).mono ?_
     rintro e w1 ⟨rfl, k1⟩
     have HX1 := Lib.hid (HX.out.up k1)
     obtain ⟨x0, x1, x2, _⟩ := HX1.out.2.2.2.1.cells
     obtain ⟨⟨r0, r1, r2, r3, r4, r5, r6⟩, _⟩ := seven HX1.out.2.2.2.2
     clear k1
     go_wp2_with fail
     go_ret
     exact ⟨ret_bool Hr.out, HX1.out.1⟩
end Go.Proofs.Ytgnianjomjjfgaa
