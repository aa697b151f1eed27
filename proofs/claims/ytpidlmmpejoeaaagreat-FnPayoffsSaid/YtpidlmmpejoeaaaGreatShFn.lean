/- FnPayoffs: the walk (shFn.py). -/
import Derived.Test.YtpidlmmpejoeaaaGreatGSh
import Derived.Test.YtpidlmmpejoeaaaGreatShN
import Derived.Test.YtpidlmmpejoeaaaGreatPyG
import Derived.Test.YtpidlmmpejoeaaaGreatPyI
import Derived.Test.YtpidlmmpejoeaaaGreatPyJ
import Derived.Test.YtpidlmmpejoeaaaGreatPyC2
import Derived.Test.YtpidlmmpejoeaaaGreatIntsSame
import Derived.Test.YtpidlmmpejoeaaaGreatBig
namespace Go.Proofs.YtpidlmmpejoeaaaGreat
open Go.RowKit
open Ve (R)
open Gm (G)
theorem eqV_c {w : World} {u v : Value} {xs : List R} (h1 : InRats w u xs) (h2 : InRats w v xs) (hx : xs.length ≤ 1048576) : Calls Tryz.prog 12 #[u, v] w fun e w' => e = .returned (.bool true) ∧ Below w.heap.size w w' := by
 obtain ⟨a, c, rfl, hr⟩ := h1
 obtain ⟨a', c', rfl, hr'⟩ := h2
 refine (spec_EqualVector w.heap.size a a' c c' xs xs hx hx w hr hr').mono ?_
 rintro e w' ⟨rfl, d, rfl⟩
 exact ⟨by rw [show eqV xs xs = true by unfold eqV; simp], below_drewN (Below.refl _ _) d⟩
theorem same_c {w : World} {B1 B2 : Nat} {v1 v2 : Value} {xs : List Int} (h1 : OwnInts B1 w v1 xs) (h2 : OwnInts B2 w v2 xs) (hl : xs.length ≤ 1048576) : Calls Tryz.prog 11 #[v1, v2] w fun e w' => e = .returned (.bool true) ∧ Below w.heap.size w w' := by
 obtain ⟨a, c, rfl, hi, _, _⟩ := own_reads h1
 obtain ⟨a', c', rfl, hi', _, _⟩ := own_reads h2
 refine (laws_sameInts a a' c c' xs (by omega) w hi hi').mono ?_
 rintro e w' ⟨rfl, d, rfl⟩
 exact ⟨rfl, below_drewN (Below.refl _ _) d⟩
theorem fv_at {B g n c : Nat} {w : World} {xs : List R} (h : OwnRats B w (.slice (some ⟨g, 0, none⟩) n c) xs) (k : Nat) (hk : k < xs.length) :
  w.cell? ⟨g, k * 2, none⟩ = some (.int .i64 (Ve.at_ xs k).1) ∧ w.cell? ⟨g, k * 2 + 1, none⟩ = some (.int .i64 (Ve.at_ xs k).2) := by
 obtain ⟨a', c', e, hr, _, _⟩ := own_rats h
 injection e with e1 e2 e3
 obtain ⟨b, o, e4, _, h0, h1⟩ := hr.at k hk
 rw [← e1] at e4
 simp only [Option.some.injEq, Addr.mk.injEq, and_true] at e4
 obtain ⟨rfl, rfl⟩ := e4
 simp only [Nat.zero_add] at h0 h1
 exact ⟨h0, h1⟩
theorem Py.worstL_len (g : G) (x : List R) : (Py.worstL g x).length ≤ 30 := by
 rcases h : Py.some_ g x with _ | _
 ·
  rw [(Py.worst_no h).2]; simp
 ·
  rw [(Py.worst_yes h).2]; exact Nat.le_trans (Py.tied_len _ _ _) (Py.lst_len g x)
set_option maxRecDepth 100000 in
set_option maxHeartbeats 16000000 in
theorem fnPayoffs.walk0 (a : Option Addr) (len cap : Nat) (w : World) (hcode : CodeAt w.heap.size w a len) :
  Calls Tryz.prog 3 #[.slice a len cap] w fun e w' => e = .returned (.bool true) ∧ Below w.heap.size w w' := by
 have Hc := zH hcode
 clear hcode
 by_cases hbig : 1048576 < len
 ·
  go_enter Tryz.func3, Tryz.ntmps3
  go_wp2_with fail
  refine (big_yes a len cap hbig w).mono ?_
  rintro e w1 ⟨rfl, rfl⟩
  go_wp2_with fail
  go_ret
  exact ⟨rfl, Below.refl _ _⟩
 ·
  go_enter Tryz.func3, Tryz.ntmps3
  go_wp2_with fail
  refine (big_no a len cap (by omega) w).mono ?_
  rintro e wz ⟨rfl, rfl⟩
  go_wp2_with fail
  refine (spec_DrawInCore a len cap w Hc.out).mono ?_
  rintro e w1 ⟨g, v, u, xs, rfl, hg, hok, -, -, hx, hx5, hb⟩
  obtain ⟨gn, gv⟩ := g
  simp only at hg ⊢
  obtain ⟨av, cv, rfl⟩ := ints_shape hg
  obtain ⟨xa, xc, rfl⟩ := own_shape' hx
  have HG0 := zH (GmC.of_own (g := ⟨gn, gv⟩) (hg.alloc (.cells #[.int .i64 gn, .slice av gv.length cv] 26)))
  have HX0 := zH (own_inR' (hx.alloc (.cells #[.int .i64 gn, .slice av gv.length cv] 26)))
  have HQ0 := zH (CellsAt.new w1 #[.int .i64 gn, .slice av gv.length cv] 26)
  have HB0 := zH (hb.alloc hb.size (.cells #[.int .i64 gn, .slice av gv.length cv] 26))
  have hMl : Hid (xs.length ≤ 1048576) := by show xs.length ≤ 1048576; omega
  have HF := zH hok
  obtain ⟨N, hN⟩ : ∃ N, gv.length = N := ⟨_, rfl⟩
  obtain ⟨M, hM⟩ : ∃ M, xs.length = M := ⟨_, rfl⟩
  rw [hN] at HG0 HX0 HQ0 HB0 ⊢
  rw [hM] at HX0 ⊢
  obtain ⟨w2, hw2⟩ : ∃ w2, w1.alloc (.cells #[.int .i64 gn, .slice av N cv] 26) = w2 := ⟨_, rfl⟩
  obtain ⟨q, hq⟩ : ∃ q, w1.heap.size = q := ⟨_, rfl⟩
  rw [hw2] at HG0 HX0 HQ0 HB0
  rw [hq] at HQ0
  have Hw2 := zH hw2
  have Hq := zH hq
  clear hg hok hx hx5 hb hN hM hw2 hq
  obtain ⟨ic, hic⟩ : ∃ ic, Py.inC ⟨gn, gv⟩ xs = ic := ⟨_, rfl⟩
  obtain ⟨E, hE⟩ : ∃ E, Py.worst ⟨gn, gv⟩ xs = E := ⟨_, rfl⟩
  have hel := Py.worstL_len ⟨gn, gv⟩ xs
  obtain ⟨el, hEl⟩ : ∃ el, Py.worstL ⟨gn, gv⟩ xs = el := ⟨_, rfl⟩
  obtain ⟨fk, hfk⟩ : ∃ fk, Py.some_ ⟨gn, gv⟩ xs = fk := ⟨_, rfl⟩
  have hvl := Py.lst_len ⟨gn, gv⟩ xs
  rw [← Py.vec_len] at hvl
  have hstep := Py.vec_step ⟨gn, gv⟩ xs
  have hfin : fk = true → 0 < (Py.vec ⟨gn, gv⟩ xs).length ∧ Ve.at_ (Py.vec ⟨gn, gv⟩ xs) 0 = E ∧ ic = decide (E.1 ≤ 0) := fun h => by
   rw [h] at hfk
   exact ⟨(Py.vec_fst hfk).1, hE ▸ (Py.vec_fst hfk).2, by rw [← hic, Py.inC_fine hfk, hE]⟩
  obtain ⟨vc, hvc⟩ : ∃ vc, Py.vec ⟨gn, gv⟩ xs = vc := ⟨_, rfl⟩
  rw [hvc] at hvl hstep hfin
  rw [hEl] at hel
  obtain ⟨pb, hpb⟩ : ∃ pb, Py.isPay ⟨gn, gv⟩ xs = pb := ⟨_, rfl⟩
  obtain ⟨ib, hib⟩ : ∃ ib, Py.imp ⟨gn, gv⟩ xs = ib := ⟨_, rfl⟩
  have CI := zH (fun W' (hb : Below w2.heap.size w2 W') => impl_InCore ic hic (HG0.out.up hb) (HX0.out.up hb) HF.out hMl.out)
  have CS := zH (fun W' (hb : Below w2.heap.size w2 W') => spec_InCore ic hic (HG0.out.up hb) (HX0.out.up hb) HF.out hMl.out)
  have WI := zH (fun W' (hb : Below w2.heap.size w2 W') => (show Calls Tryz.prog 7 #[.agg #[.int .i64 gn, .slice av N cv], .slice xa M xc] W' (WorstPost E el fk W') from hE ▸ hEl ▸ hfk ▸ impl_WorstExcess (HG0.out.up hb) (HX0.out.up hb) HF.out hMl.out))
  have WS := zH (fun W' (hb : Below w2.heap.size w2 W') => (show Calls Tryz.prog 8 #[.agg #[.int .i64 gn, .slice av N cv], .slice xa M xc] W' (WorstPost E el fk W') from hE ▸ hEl ▸ hfk ▸ spec_WorstExcess (HG0.out.up hb) (HX0.out.up hb) HF.out hMl.out))
  have VI := zH (fun W' (hb : Below w2.heap.size w2 W') => (show Calls Tryz.prog 9 #[.agg #[.int .i64 gn, .slice av N cv], .slice xa M xc] W' (MakesRats vc W') from hvc ▸ impl_ExcessVector (HG0.out.up hb) (HX0.out.up hb) HF.out hMl.out))
  have VS := zH (fun W' (hb : Below w2.heap.size w2 W') => (show Calls Tryz.prog 13 #[.agg #[.int .i64 gn, .slice av N cv], .slice xa M xc] W' (MakesRats vc W') from hvc ▸ spec_ExcessVector (HG0.out.up hb) (HX0.out.up hb) HF.out hMl.out))
  have PI := zH (fun W' (hb : Below w2.heap.size w2 W') => impl_IsPayoff pb hpb (HG0.out.up hb) (HX0.out.up hb) HF.out hMl.out)
  have PS := zH (fun W' (hb : Below w2.heap.size w2 W') => spec_IsPayoff pb hpb (HG0.out.up hb) (HX0.out.up hb) HF.out hMl.out)
  have II := zH (fun W' (hb : Below w2.heap.size w2 W') => impl_IsImputation ib hib (HG0.out.up hb) (HX0.out.up hb) HF.out hMl.out)
  have SI := zH (fun W' (hb : Below w2.heap.size w2 W') => spec_IsImputation ib hib (HG0.out.up hb) (HX0.out.up hb) HF.out hMl.out)
  have Hstep := zH hstep
  have Hfin := zH hfin
  have Hel := zH hel
  have Hvl := zH hvl
  clear hic hE hEl hfk hvc hpb hib hstep hfin hel hvl
  obtain ⟨m0, m1⟩ := two HQ0.out
  go_wp2_with fail
  rw [Hw2.out, Hq.out]
  refine (CI.out _ (Below.refl _ _)).mono ?_
  rintro e w3 ⟨rfl, k3⟩
  have K3 := zH k3
  obtain ⟨m0, m1⟩ := two (HQ0.out.below k3)
  clear k3 Hw2 Hq
  go_wp2_with fail
  refine (WI.out _ K3.out).mono ?_
  rintro e w4 ⟨v7, rfl, hv7, k4⟩
  obtain ⟨a7, c7, rfl⟩ := ints_shape hv7
  obtain ⟨L7, hL7⟩ : ∃ L7, el.length = L7 := ⟨_, rfl⟩
  rw [hL7] at hv7 ⊢
  have hk4 := K3.out.trans (k4.mono K3.out.size)
  have K5 := zH (hk4.alloc hk4.size (.cells #[.int .i64 E.1, .int .i64 E.2] 32))
  have H7 := zH (hv7.alloc (.cells #[.int .i64 E.1, .int .i64 E.2] 32))
  have HX5 := zH (BoxAt.new w4 E)
  obtain ⟨m0, m1⟩ := two (HQ0.out.below K5.out)
  clear hv7 k4 hk4 K3
  go_wp2_with fail
  refine (WS.out _ K5.out).mono ?_
  rintro e w6 ⟨v10, rfl, hv10, k6⟩
  obtain ⟨a10, c10, rfl⟩ := ints_shape hv10
  rw [hL7] at hv10 ⊢
  have hk6 := K5.out.trans (k6.mono K5.out.size)
  have K7 := zH (hk6.alloc hk6.size (.cells #[.int .i64 E.1, .int .i64 E.2] 32))
  have H10 := zH (hv10.alloc (.cells #[.int .i64 E.1, .int .i64 E.2] 32))
  have H77 := zH ((H7.out.below k6).alloc (.cells #[.int .i64 E.1, .int .i64 E.2] 32))
  have HX55 := zH ((HX5.out.below k6).alloc (.cells #[.int .i64 E.1, .int .i64 E.2] 32))
  have HX7 := zH (BoxAt.new w6 E)
  obtain ⟨m0, m1⟩ := two (HQ0.out.below K7.out)
  clear hv10 k6 hk6 K5 H7 HX5 hL7
  go_wp2_with fail
  refine (VI.out _ K7.out).mono ?_
  rintro e w9 ⟨v12, rfl, hv12, k9⟩
  obtain ⟨q6, hq6⟩ : ∃ q6, w4.heap.size = q6 := ⟨_, rfl⟩
  obtain ⟨q9, hq9⟩ : ∃ q9, w6.heap.size = q9 := ⟨_, rfl⟩
  rw [hq6] at HX55 ⊢
  rw [hq9] at HX7 ⊢
  have HX6 := zH (HX55.out.below k9)
  have HX9 := zH (HX7.out.below k9)
  have O7 := zH (H77.out.below k9)
  have O10 := zH (H10.out.below k9)
  have K9 := zH (K7.out.trans (k9.mono K7.out.size))
  have HQ9 := zH (HQ0.out.below K9.out)
  have HB9 := zH (HB0.out.trans (K9.out.mono HB0.out.size))
  obtain ⟨a12, c12, rfl⟩ := own_shape' hv12
  have O12 := zH hv12
  obtain ⟨L, hL⟩ : ∃ L, vc.length = L := ⟨_, rfl⟩
  rw [hL] at O12 ⊢
  have HL := zH hL
  clear hv12 k9 hq6 hq9 HX55 HX7 H77 H10 K7 hL
  have Cell := zH (fun w' (h : Below w9.heap.size w9 w') => (show w'.cell? ⟨q, 0, none⟩ = some (.int .i64 gn) ∧ w'.cell? ⟨q, 1, none⟩ = some (.slice av N cv) ∧ w'.cell? ⟨q6, 0, none⟩ = some (.int .i64 E.1) ∧ w'.cell? ⟨q6, 1, none⟩ = some (.int .i64 E.2) ∧ w'.cell? ⟨q9, 0, none⟩ = some (.int .i64 E.1) ∧ w'.cell? ⟨q9, 1, none⟩ = some (.int .i64 E.2) ∧ Below w9.heap.size w9 w' from ⟨(two (HQ9.out.below h)).1, (two (HQ9.out.below h)).2, (HX6.out.below h).four.1, (HX6.out.below h).four.2.1, (HX9.out.below h).four.1, (HX9.out.below h).four.2.1, h⟩))
  have up9 := zH (fun W' (h : Below w9.heap.size w9 W') => K9.out.trans (h.mono K9.out.size))
  have hne := ne_rat
  have hge := eqg_rat
  have e1 : (E.1 == E.1) = true := by simp
  have e2 : (E.2 == E.2) = true := by simp
  have e3 : (ic != ic) = false := by simp
  have e4 : (fk != fk) = false := by simp
  have e5 : (pb != pb) = false := by simp
  have e6 : (ib != ib) = false := by simp
  clear m0 m1
  obtain ⟨m0, m1, m2, m3, m4, m5, -⟩ := Cell.out _ (Below.refl _ _)
  go_upto_region 8 with fail
  have hb0 : Below w9.heap.size w9 w9.drew := (Below.refl _ _).drew
  refine wp_region_T_drew (S := (fun w' => w'.cell? ⟨q, 0, none⟩ = some (.int .i64 gn) ∧ w'.cell? ⟨q, 1, none⟩ = some (.slice av N cv) ∧ w'.cell? ⟨q6, 0, none⟩ = some (.int .i64 E.1) ∧ w'.cell? ⟨q6, 1, none⟩ = some (.int .i64 E.2) ∧ w'.cell? ⟨q9, 0, none⟩ = some (.int .i64 E.1) ∧ w'.cell? ⟨q9, 1, none⟩ = some (.int .i64 E.2) ∧ Below w9.heap.size w9 w')) 46 (by kernel_rfl) ?_ (fun hHeld => ?_)
  ·
   exact Cell.out _ hb0
  refine tk2 0 ⟨some 56, .move (.tmp 5), 4, "laws.go:431", #[], none⟩ ?_
  refine tk2 1 ⟨some 57, .load 26 (.tmp 3), 26, "laws.go:431", #[], none⟩ ?_
  refine tk2 2 ⟨some 58, .move (.tmp 4), 27, "laws.go:431", #[], none⟩ ?_
  try simp only [Act.put, zA, zB, zC]
  refine rd2 3 ⟨some 59, .call { callee := .value (.func 10), args := #[.tmp 57, .tmp 58], argTypes := #[26, 27] }, 4, "laws.go:431", #[⟨1, .data⟩, ⟨2, .data⟩], none⟩ fun K hK => ?_
  go_simp
  (refine (CS.out _ (up9.out _ hb0)).mono ?_; rintro e wv1 ⟨rfl, k⟩; have hb1 := hb0.trans (k.mono hb0.size))
  refine hK.out _ _ ?_ (fun hHeld => ?_)
  ·
   exact Cell.out _ hb1
  clear hK K
  refine tk2 4 ⟨some 60, .binOp .neq 4 (.tmp 56) (.tmp 59) 4, 4, "laws.go:431", #[⟨0, .data⟩, ⟨3, .data⟩], none⟩ ?_
  refine tk2 5 ⟨some 61, .move (.tmp 60), 4, "laws.go:431", #[⟨4, .data⟩, ⟨3, .chain⟩], none⟩ ?_
  try simp only [Act.put, zA, zB, zC]
  refine tk2 6 ⟨some 62, .load 32 (.tmp 6), 32, "laws.go:431", #[⟨5, .guard⟩], some (5, false)⟩ ?_
  try simp only [Act.put, zA, zB, zC]
  refine tk2 7 ⟨some 63, .load 32 (.tmp 9), 32, "laws.go:431", #[⟨5, .guard⟩], some (5, false)⟩ ?_
  try simp only [Act.put, zA, zB, zC]
  refine tk2 8 ⟨some 64, .binOp .neq 32 (.tmp 62) (.tmp 63) 32, 4, "laws.go:431", #[⟨6, .data⟩, ⟨7, .data⟩, ⟨5, .guard⟩], some (5, false)⟩ ?_
  refine tk2 9 ⟨some 65, .pick (.tmp 61) (.const (Value.bool true)) (.tmp 64), 4, "laws.go:431", #[⟨5, .data⟩, ⟨8, .data⟩], none⟩ ?_
  refine tk2 10 ⟨some 66, .move (.tmp 65), 4, "laws.go:431", #[⟨9, .data⟩, ⟨5, .chain⟩], none⟩ ?_
  try simp only [Act.put, zA, zB, zC]
  refine tk2 11 ⟨some 67, .move (.tmp 8), 4, "laws.go:431", #[⟨10, .guard⟩], some (10, false)⟩ ?_
  try simp only [Act.put, zA, zB, zC]
  refine tk2 12 ⟨some 68, .move (.tmp 11), 4, "laws.go:431", #[⟨10, .guard⟩], some (10, false)⟩ ?_
  try simp only [Act.put, zA, zB, zC]
  refine tk2 13 ⟨some 69, .binOp .neq 4 (.tmp 67) (.tmp 68) 4, 4, "laws.go:431", #[⟨11, .data⟩, ⟨12, .data⟩, ⟨10, .guard⟩], some (10, false)⟩ ?_
  refine tk2 14 ⟨some 70, .pick (.tmp 66) (.const (Value.bool true)) (.tmp 69), 4, "laws.go:431", #[⟨10, .data⟩, ⟨13, .data⟩], none⟩ ?_
  refine tk2 15 ⟨some 71, .move (.tmp 70), 4, "laws.go:431", #[⟨14, .data⟩, ⟨10, .chain⟩], none⟩ ?_
  try simp only [Act.put, zA, zB, zC]
  refine tk2 16 ⟨some 72, .move (.tmp 7), 24, "laws.go:431", #[⟨15, .guard⟩], some (15, false)⟩ ?_
  try simp only [Act.put, zA, zB, zC]
  refine tk2 17 ⟨some 73, .move (.tmp 10), 24, "laws.go:431", #[⟨15, .guard⟩], some (15, false)⟩ ?_
  try simp only [Act.put, zA, zB, zC]
  refine rd2 18 ⟨some 74, .call { callee := .value (.func 11), args := #[.tmp 72, .tmp 73], argTypes := #[24, 24] }, 4, "laws.go:431", #[⟨16, .data⟩, ⟨17, .data⟩, ⟨15, .chain⟩, ⟨15, .guard⟩], some (15, false)⟩ fun K hK => ?_
  go_simp
  (refine (same_c (O7.out.below hb1) (O10.out.below hb1) (by have := Hel.out; omega)).mono ?_; rintro e wv2 ⟨rfl, k⟩; have hb2 := hb1.trans (k.mono hb1.size))
  refine hK.out _ _ ?_ (fun hHeld => ?_)
  ·
   exact Cell.out _ hb2
  clear hK K
  try simp only [Act.put, zA, zB, zC]
  refine tk2 19 ⟨some 75, .unOp .not 4 (.tmp 74), 4, "laws.go:431", #[⟨18, .data⟩, ⟨15, .guard⟩], some (15, false)⟩ ?_
  refine tk2 20 ⟨some 76, .pick (.tmp 71) (.const (Value.bool true)) (.tmp 75), 4, "laws.go:431", #[⟨15, .data⟩, ⟨19, .data⟩], none⟩ ?_
  refine tk2 21 ⟨some 77, .move (.tmp 76), 4, "laws.go:431", #[⟨20, .data⟩, ⟨18, .chain⟩], none⟩ ?_
  try simp only [Act.put, zA, zB, zC]
  refine tk2 22 ⟨some 78, .move (.tmp 12), 27, "laws.go:431", #[⟨21, .guard⟩], some (21, false)⟩ ?_
  try simp only [Act.put, zA, zB, zC]
  refine tk2 23 ⟨some 79, .load 26 (.tmp 3), 26, "laws.go:431", #[⟨21, .guard⟩], some (21, false)⟩ ?_
  try simp only [Act.put, zA, zB, zC]
  refine tk2 24 ⟨some 80, .move (.tmp 4), 27, "laws.go:431", #[⟨21, .guard⟩], some (21, false)⟩ ?_
  try simp only [Act.put, zA, zB, zC]
  refine rd2 25 ⟨some 81, .call { callee := .value (.func 13), args := #[.tmp 79, .tmp 80], argTypes := #[26, 27] }, 27, "laws.go:431", #[⟨23, .data⟩, ⟨24, .data⟩, ⟨21, .chain⟩, ⟨21, .guard⟩], some (21, false)⟩ fun K hK => ?_
  go_simp
  (refine (VS.out _ (up9.out _ hb2)).mono ?_; rintro e wv3 ⟨v81, rfl, o81, k⟩; have hb3 := hb2.trans (k.mono hb2.size))
  refine hK.out _ _ ?_ (fun hHeld => ?_)
  ·
   exact Cell.out _ hb3
  clear hK K
  try simp only [Act.put, zA, zB, zC]
  refine rd2 26 ⟨some 82, .call { callee := .value (.func 12), args := #[.tmp 78, .tmp 81], argTypes := #[27, 27] }, 4, "laws.go:431", #[⟨22, .data⟩, ⟨25, .data⟩, ⟨25, .chain⟩, ⟨21, .guard⟩], some (21, false)⟩ fun K hK => ?_
  go_simp
  (refine (eqV_c (own_inR' (O12.out.below hb3)) (own_inR' o81) (by have := Hvl.out; omega)).mono ?_; rintro e wv4 ⟨rfl, k⟩; have hb4 := hb3.trans (k.mono hb3.size))
  refine hK.out _ _ ?_ (fun hHeld => ?_)
  ·
   exact Cell.out _ hb4
  clear hK K
  try simp only [Act.put, zA, zB, zC]
  refine tk2 27 ⟨some 83, .unOp .not 4 (.tmp 82), 4, "laws.go:431", #[⟨26, .data⟩, ⟨21, .guard⟩], some (21, false)⟩ ?_
  refine tk2 28 ⟨some 84, .pick (.tmp 77) (.const (Value.bool true)) (.tmp 83), 4, "laws.go:431", #[⟨21, .data⟩, ⟨27, .data⟩], none⟩ ?_
  refine tk2 29 ⟨some 85, .move (.tmp 84), 4, "laws.go:431", #[⟨28, .data⟩, ⟨26, .chain⟩], none⟩ ?_
  try simp only [Act.put, zA, zB, zC]
  refine tk2 30 ⟨some 86, .load 26 (.tmp 3), 26, "laws.go:431", #[⟨29, .guard⟩], some (29, false)⟩ ?_
  try simp only [Act.put, zA, zB, zC]
  refine tk2 31 ⟨some 87, .move (.tmp 4), 27, "laws.go:431", #[⟨29, .guard⟩], some (29, false)⟩ ?_
  try simp only [Act.put, zA, zB, zC]
  refine tk2 33 ⟨some 89, .load 26 (.tmp 3), 26, "laws.go:431", #[⟨29, .guard⟩], some (29, false)⟩ ?_
  try simp only [Act.put, zA, zB, zC]
  refine tk2 34 ⟨some 90, .move (.tmp 4), 27, "laws.go:431", #[⟨29, .guard⟩], some (29, false)⟩ ?_
  try simp only [Act.put, zA, zB, zC]
  refine rd2 32 ⟨some 88, .call { callee := .value (.func 14), args := #[.tmp 86, .tmp 87], argTypes := #[26, 27] }, 4, "laws.go:431", #[⟨30, .data⟩, ⟨31, .data⟩, ⟨29, .chain⟩, ⟨29, .guard⟩], some (29, false)⟩ fun K hK => ?_
  go_simp
  (refine (PI.out _ (up9.out _ hb4)).mono ?_; rintro e wv5 ⟨rfl, k⟩; have hb5 := hb4.trans (k.mono hb4.size))
  refine hK.out _ _ ?_ (fun hHeld => ?_)
  ·
   exact Cell.out _ hb5
  clear hK K
  try simp only [Act.put, zA, zB, zC]
  refine rd2 35 ⟨some 91, .call { callee := .value (.func 15), args := #[.tmp 89, .tmp 90], argTypes := #[26, 27] }, 4, "laws.go:431", #[⟨33, .data⟩, ⟨34, .data⟩, ⟨32, .chain⟩, ⟨29, .guard⟩], some (29, false)⟩ fun K hK => ?_
  go_simp
  (refine (PS.out _ (up9.out _ hb5)).mono ?_; rintro e wv6 ⟨rfl, k⟩; have hb6 := hb5.trans (k.mono hb5.size))
  refine hK.out _ _ ?_ (fun hHeld => ?_)
  ·
   exact Cell.out _ hb6
  clear hK K
  try simp only [Act.put, zA, zB, zC]
  refine tk2 36 ⟨some 92, .binOp .neq 4 (.tmp 88) (.tmp 91) 4, 4, "laws.go:431", #[⟨32, .data⟩, ⟨35, .data⟩, ⟨29, .guard⟩], some (29, false)⟩ ?_
  refine tk2 37 ⟨some 93, .pick (.tmp 85) (.const (Value.bool true)) (.tmp 92), 4, "laws.go:431", #[⟨29, .data⟩, ⟨36, .data⟩], none⟩ ?_
  refine tk2 38 ⟨some 94, .move (.tmp 93), 4, "laws.go:431", #[⟨37, .data⟩, ⟨35, .chain⟩], none⟩ ?_
  try simp only [Act.put, zA, zB, zC]
  refine tk2 39 ⟨some 95, .load 26 (.tmp 3), 26, "laws.go:431", #[⟨38, .guard⟩], some (38, false)⟩ ?_
  try simp only [Act.put, zA, zB, zC]
  refine tk2 40 ⟨some 96, .move (.tmp 4), 27, "laws.go:431", #[⟨38, .guard⟩], some (38, false)⟩ ?_
  try simp only [Act.put, zA, zB, zC]
  refine tk2 42 ⟨some 98, .load 26 (.tmp 3), 26, "laws.go:431", #[⟨38, .guard⟩], some (38, false)⟩ ?_
  try simp only [Act.put, zA, zB, zC]
  refine tk2 43 ⟨some 99, .move (.tmp 4), 27, "laws.go:431", #[⟨38, .guard⟩], some (38, false)⟩ ?_
  try simp only [Act.put, zA, zB, zC]
  refine rd2 41 ⟨some 97, .call { callee := .value (.func 16), args := #[.tmp 95, .tmp 96], argTypes := #[26, 27] }, 4, "laws.go:431", #[⟨39, .data⟩, ⟨40, .data⟩, ⟨38, .chain⟩, ⟨38, .guard⟩], some (38, false)⟩ fun K hK => ?_
  go_simp
  (refine (II.out _ (up9.out _ hb6)).mono ?_; rintro e wv7 ⟨rfl, k⟩; have hb7 := hb6.trans (k.mono hb6.size))
  refine hK.out _ _ ?_ (fun hHeld => ?_)
  ·
   exact Cell.out _ hb7
  clear hK K
  try simp only [Act.put, zA, zB, zC]
  refine rd2 44 ⟨some 100, .call { callee := .value (.func 17), args := #[.tmp 98, .tmp 99], argTypes := #[26, 27] }, 4, "laws.go:431", #[⟨42, .data⟩, ⟨43, .data⟩, ⟨41, .chain⟩, ⟨38, .guard⟩], some (38, false)⟩ fun K hK => ?_
  go_simp
  (refine (SI.out _ (up9.out _ hb7)).mono ?_; rintro e wv8 ⟨rfl, k⟩; have hb8 := hb7.trans (k.mono hb7.size))
  refine hK.out _ _ ?_ (fun hHeld => ?_)
  ·
   exact Cell.out _ hb8
  clear hK K
  try simp only [Act.put, zA, zB, zC]
  refine tk2 45 ⟨some 101, .binOp .neq 4 (.tmp 97) (.tmp 100) 4, 4, "laws.go:431", #[⟨41, .data⟩, ⟨44, .data⟩, ⟨38, .guard⟩], some (38, false)⟩ ?_
  try simp only [Act.put, zA, zB, zC]
  refine rd3 46 ⟨some 102, .pick (.tmp 94) (.const (Value.bool true)) (.tmp 101), 4, "laws.go:431", #[⟨38, .data⟩, ⟨45, .data⟩], none⟩ fun K hK => ?_
  go_simp
  refine hK.out _ _ ?_
  clear hK K
  try simp only [Act.put, zA, zB, zC]
  refine wpAnyT_done (by kernel_rfl) ?_ _
  have HB90 := zH hb8
  clear hb0 hb1 hb2 hb3 hb4 hb5 hb6 hb7 hb8 Cell up9 e1 e2 e3 e4 e5 e6 CI CS WI WS VI VS PI PS II SI o81 m0 m1 m2 m3 m4 m5 HX9 O7 O10
  by_cases hL0 : L = 0
  ·
   have hfk : fk = false := by
    have h1 := Hfin.out
    have h2 := HL.out
    rcases fk with _ | _
    ·
     rfl
    ·
     have := (h1 rfl).1; omega
   subst hfk hL0
   go_wp2_with fail
   go_loopw [13] (fun i wr => ∃ k : Nat, 1 ≤ k ∧ (k ≤ 0 ∨ k = 1) ∧ i = .int .i64 k ∧ Hid (Below w9.heap.size w9 wr)) (fun i _ => 0 + 1 - (intOf i).toNat)
   case atStart => exact ⟨1, by omega, by omega, rfl, HB90⟩
   case round =>
    obtain ⟨k, hk1, hkL, rfl, hB⟩ := hrel
    have n1 : ¬ (k : Int) < ((0 : Nat) : Int) := by omega
    have n2 : ¬ (k : Int) < 0 := by omega
    have HBr := zH hB.out
    go_upto_region 15 with fail
    have hb0 := HBr.out.drew
    have Cl := zH (fun w' (h : Below w9.heap.size w9 w') => (show w'.cell? ⟨q6, 0, none⟩ = some (.int .i64 E.1) ∧ w'.cell? ⟨q6, 1, none⟩ = some (.int .i64 E.2) ∧ Below w9.heap.size w9 w' from ⟨(HX6.out.below h).four.1, (HX6.out.below h).four.2.1, h⟩))
    refine wp_region_T_drew (S := (fun w' => w'.cell? ⟨q6, 0, none⟩ = some (.int .i64 E.1) ∧ w'.cell? ⟨q6, 1, none⟩ = some (.int .i64 E.2) ∧ Below w9.heap.size w9 w')) 19 (by kernel_rfl) ?_ (fun hHeld => ?_)
    ·
     exact Cl.out _ hb0
    refine tk2 0 ⟨some 120, .move (.tmp 8), 4, "laws.go:439", #[], none⟩ ?_
    refine tk2 1 ⟨some 121, .move (.tmp 120), 4, "laws.go:439", #[⟨0, .data⟩], none⟩ ?_
    try simp only [Act.put, zA, zB, zC]
    refine tkTu (i := 2) (oi := ⟨some 122, .move (.tmp 5), 4, "laws.go:439", #[⟨1, .guard⟩], some (1, true)⟩) rfl (by assumption) ?_
    try simp only [Act.put, zA, zB, zC]
    refine tkTu (i := 3) (oi := ⟨some 123, .fieldAddr 32 (.tmp 6) 0, 0, "laws.go:439", #[⟨1, .guard⟩], some (1, true)⟩) rfl (by assumption) ?_
    try simp only [Act.put, zA, zB, zC]
    refine tkTu (i := 4) (oi := ⟨some 124, .load 3 (.tmp 123), 3, "laws.go:439", #[⟨3, .data⟩, ⟨1, .guard⟩], some (1, true)⟩) rfl (by assumption) ?_
    try simp only [Act.put, zA, zB, zC]
    refine tkTu (i := 5) (oi := ⟨some 125, .binOp .leq 3 (.tmp 124) (.const (Value.int IntKind.i64 0)) 3, 4, "laws.go:439", #[⟨4, .data⟩, ⟨1, .guard⟩], some (1, true)⟩) rfl (by assumption) ?_
    try simp only [Act.put, zA, zB, zC]
    refine tkTu (i := 6) (oi := ⟨some 126, .binOp .neq 4 (.tmp 122) (.tmp 125) 4, 4, "laws.go:439", #[⟨2, .data⟩, ⟨5, .data⟩, ⟨1, .guard⟩], some (1, true)⟩) rfl (by assumption) ?_
    try simp only [Act.put, zA, zB, zC]
    refine tkTu (i := 7) (oi := ⟨some 127, .move (.tmp 126), 4, "laws.go:439", #[⟨6, .data⟩, ⟨1, .chain⟩, ⟨1, .guard⟩], some (1, true)⟩) rfl (by assumption) ?_
    try simp only [Act.put, zA, zB, zC]
    refine tkTu (i := 8) (oi := ⟨some 128, .move (.tmp 12), 27, "laws.go:439", #[⟨7, .guard⟩], some (7, false)⟩) rfl (by assumption) ?_
    try simp only [Act.put, zA, zB, zC]
    refine tkTu (i := 9) (oi := ⟨some 129, .call { callee := .builtin Builtin.len, args := #[.tmp 128], argTypes := #[27] }, 3, "laws.go:439", #[⟨8, .data⟩, ⟨7, .guard⟩], some (7, false)⟩) rfl (by assumption) ?_
    try simp only [Act.put, zA, zB, zC]
    refine tkTu (i := 10) (oi := ⟨some 130, .binOp .eql 3 (.tmp 129) (.const (Value.int IntKind.i64 0)) 3, 4, "laws.go:439", #[⟨9, .data⟩, ⟨7, .guard⟩], some (7, false)⟩) rfl (by assumption) ?_
    try simp only [Act.put, zA, zB, zC]
    refine tkTu (i := 11) (oi := ⟨some 131, .pick (.tmp 127) (.const (Value.bool true)) (.tmp 130), 4, "laws.go:439", #[⟨7, .data⟩, ⟨10, .data⟩, ⟨1, .guard⟩], some (1, true)⟩) rfl (by assumption) ?_
    try simp only [Act.put, zA, zB, zC]
    refine tkTu (i := 12) (oi := ⟨some 132, .move (.tmp 131), 4, "laws.go:439", #[⟨11, .data⟩, ⟨7, .chain⟩, ⟨1, .guard⟩], some (1, true)⟩) rfl (by assumption) ?_
    try simp only [Act.put, zA, zB, zC]
    refine tkTu (i := 13) (oi := ⟨some 133, .move (.tmp 12), 27, "laws.go:439", #[⟨12, .guard⟩], some (12, false)⟩) rfl (by assumption) ?_
    try simp only [Act.put, zA, zB, zC]
    refine tkTu (i := 14) (oi := ⟨some 134, .indexAddr 27 (.tmp 133) (.const (Value.int IntKind.i64 0)), 0, "laws.go:439", #[⟨13, .data⟩, ⟨12, .guard⟩], some (12, false)⟩) rfl (by assumption) ?_
    try simp only [Act.put, zA, zB, zC]
    refine tkTu (i := 15) (oi := ⟨some 135, .load 32 (.tmp 134), 32, "laws.go:439", #[⟨14, .data⟩, ⟨12, .guard⟩], some (12, false)⟩) rfl (by assumption) ?_
    try simp only [Act.put, zA, zB, zC]
    refine tkTu (i := 16) (oi := ⟨some 136, .load 32 (.tmp 6), 32, "laws.go:439", #[⟨12, .guard⟩], some (12, false)⟩) rfl (by assumption) ?_
    try simp only [Act.put, zA, zB, zC]
    refine tkTu (i := 17) (oi := ⟨some 137, .binOp .neq 32 (.tmp 135) (.tmp 136) 32, 4, "laws.go:439", #[⟨15, .data⟩, ⟨16, .data⟩, ⟨12, .guard⟩], some (12, false)⟩) rfl (by assumption) ?_
    try simp only [Act.put, zA, zB, zC]
    refine tkTu (i := 18) (oi := ⟨some 138, .pick (.tmp 132) (.const (Value.bool true)) (.tmp 137), 4, "laws.go:439", #[⟨12, .data⟩, ⟨17, .data⟩, ⟨1, .guard⟩], some (1, true)⟩) rfl (by assumption) ?_
    try simp only [Act.put, zA, zB, zC]
    refine rd3 19 ⟨some 139, .pick (.tmp 121) (.tmp 138) (.const (Value.bool false)), 4, "laws.go:439", #[⟨1, .data⟩, ⟨18, .data⟩], none⟩ fun K hK => ?_
    go_simp
    refine hK.out _ _ ?_
    clear hK K
    try simp only [Act.put, zA, zB, zC]
    refine wpAnyT_done (by kernel_rfl) ?_ _
    have HBt := zH (HB9.out.trans (hb0.mono HB9.out.size))
    clear Cl hb0
    go_wp2_with fail
    refine (spec_DrawCompareExcesses a len cap _ ((Hc.out.below HBt.out).mono HBt.out.size)).mono ?_
    rintro e wA ⟨cu, cw, ys, zs, rfl, hys, hzs, ly, lz, kA⟩
    obtain ⟨ca, cc, rfl, hca⟩ := hys
    obtain ⟨da, dc, rfl, hda⟩ := hzs
    have HYS : Hid (InRats wA (.slice ca ys.length cc) ys) := ⟨ca, cc, rfl, hca⟩
    have HZS : Hid (InRats wA (.slice da zs.length dc) zs) := ⟨da, dc, rfl, hda⟩
    obtain ⟨nY, hnY⟩ : ∃ nY, ys.length = nY := ⟨_, rfl⟩
    obtain ⟨nZ, hnZ⟩ : ∃ nZ, zs.length = nZ := ⟨_, rfl⟩
    have HLY : Hid (ys.length ≤ 1048576) := by show ys.length ≤ 1048576; omega
    have HLZ : Hid (zs.length ≤ 1048576) := by show zs.length ≤ 1048576; omega
    rw [hnY] at HYS ⊢
    rw [hnZ] at HZS ⊢
    have HBA := zH (HBt.out.trans (kA.mono HBt.out.size))
    clear hca hda kA hnY hnZ ly lz
    go_wp2_with fail
    refine (spec_DrawShareOf a len cap wA ((Hc.out.below HBA.out).mono HBA.out.size)).mono ?_
    rintro e wB ⟨sv, ss, s, rfl, hss, hs5, -, -, kB⟩
    obtain ⟨sa, sc, rfl⟩ := own_shape' hss
    have HSS := zH (own_inR' hss)
    have HLS : Hid (ss.length ≤ 1048576) := by show ss.length ≤ 1048576; omega
    obtain ⟨nS, hnS⟩ : ∃ nS, ss.length = nS := ⟨_, rfl⟩
    rw [hnS] at HSS ⊢
    have HYB := zH (HYS.out.up kB)
    have HZB := zH (HZS.out.up kB)
    have HBB := zH (HBA.out.trans (kB.mono HBA.out.size))
    clear hss hs5 kB hnS HYS HZS HBA
    obtain ⟨r1, hr1⟩ : ∃ r1, (Py.share ss s).1 = r1 := ⟨_, rfl⟩
    obtain ⟨o1, ho1⟩ : ∃ o1, (Py.share ss s).2 = o1 := ⟨_, rfl⟩
    have IS := zH (fun W' (hb : Below wB.heap.size wB W') => (show Calls Tryz.prog 21 #[.slice sa nS sc, .int .i64 s] W' (OneRat r1 o1 W') from hr1 ▸ ho1 ▸ impl_ShareOf s (HSS.out.up hb) HLS.out))
    have SS := zH (fun W' (hb : Below wB.heap.size wB W') => (show Calls Tryz.prog 22 #[.slice sa nS sc, .int .i64 s] W' (OneRat r1 o1 W') from hr1 ▸ ho1 ▸ spec_ShareOf s (HSS.out.up hb) HLS.out))
    clear hr1 ho1
    go_wp2_with fail
    refine (IS.out _ (Below.refl _ _)).mono ?_
    rintro e wC ⟨rfl, kC⟩
    have KC := zH (kC.alloc kC.size (.cells #[.int .i64 r1.1, .int .i64 r1.2] 32))
    have HR1 := zH (BoxAt.new wC r1)
    obtain ⟨qr, hqr⟩ : ∃ qr, wC.heap.size = qr := ⟨_, rfl⟩
    have Hqr := zH hqr
    clear kC hqr
    go_wp2_with fail
    refine (SS.out _ KC.out).mono ?_
    rintro e wD ⟨rfl, kD⟩
    have hkd := KC.out.trans (kD.mono KC.out.size)
    have KD := zH (hkd.alloc hkd.size (.cells #[.int .i64 r1.1, .int .i64 r1.2] 32))
    have HR1D := zH ((HR1.out.below kD).alloc (.cells #[.int .i64 r1.1, .int .i64 r1.2] 32))
    have HR2 := zH (BoxAt.new wD r1)
    have HBD := zH (HBB.out.trans (KD.out.mono HBB.out.size))
    clear kD hkd HR1 KC IS SS
    go_wp2_with fail
    refine (spec_DrawExcessOf a len cap _ ((Hc.out.below HBD.out).mono HBD.out.size)).mono ?_
    rintro e wE ⟨g2, v2, u2, x2, s2, rfl, hg2, hok2, hu2, hu5, -, -, kE⟩
    obtain ⟨gn2, gv2⟩ := g2
    simp only at hg2 ⊢
    obtain ⟨av2, cv2, rfl⟩ := ints_shape hg2
    obtain ⟨xa2, xc2, rfl⟩ := own_shape' hu2
    have HG2 := zH (GmC.of_own (g := ⟨gn2, gv2⟩) (hg2.alloc (.cells #[.int .i64 gn2, .slice av2 gv2.length cv2] 26)))
    have HU2 := zH (own_inR' (hu2.alloc (.cells #[.int .i64 gn2, .slice av2 gv2.length cv2] 26)))
    have HQ2 := zH (CellsAt.new wE #[.int .i64 gn2, .slice av2 gv2.length cv2] 26)
    have HLX : Hid (x2.length ≤ 1048576) := by show x2.length ≤ 1048576; omega
    obtain ⟨N2, hN2⟩ : ∃ N2, gv2.length = N2 := ⟨_, rfl⟩
    obtain ⟨M2, hM2⟩ : ∃ M2, x2.length = M2 := ⟨_, rfl⟩
    rw [hN2] at HG2 HQ2 HU2 ⊢
    rw [hM2] at HU2 ⊢
    have HF2 := zH hok2
    have HR1E := zH ((HR1D.out.below kE).alloc (.cells #[.int .i64 gn2, .slice av2 N2 cv2] 26))
    have HR2E := zH ((HR2.out.below kE).alloc (.cells #[.int .i64 gn2, .slice av2 N2 cv2] 26))
    have hke := KD.out.trans (kE.mono KD.out.size)
    have KE := zH (hke.alloc hke.size (.cells #[.int .i64 gn2, .slice av2 N2 cv2] 26))
    clear hg2 hok2 hu2 hu5 kE hN2 hM2 hke HR1D HR2 KD HBD
    obtain ⟨m1, hm1⟩ : ∃ m1, (Py.exc ⟨gn2, gv2⟩ x2 s2).1 = m1 := ⟨_, rfl⟩
    obtain ⟨o2, ho2⟩ : ∃ o2, (Py.exc ⟨gn2, gv2⟩ x2 s2).2 = o2 := ⟨_, rfl⟩
    obtain ⟨Wx, hWx⟩ : ∃ Wx, wE.alloc (.cells #[.int .i64 gn2, .slice av2 N2 cv2] 26) = Wx := ⟨_, rfl⟩
    rw [hWx] at HG2 HU2 HQ2 HR1E HR2E KE
    have IX := zH (fun W' (hb : Below Wx.heap.size Wx W') => (show Calls Tryz.prog 24 #[.agg #[.int .i64 gn2, .slice av2 N2 cv2], .slice xa2 M2 xc2, .int .i64 s2] W' (OneRat m1 o2 W') from hm1 ▸ ho2 ▸ impl_ExcessOf s2 (HG2.out.up hb) (HU2.out.up hb) HF2.out HLX.out))
    have SX := zH (fun W' (hb : Below Wx.heap.size Wx W') => (show Calls Tryz.prog 25 #[.agg #[.int .i64 gn2, .slice av2 N2 cv2], .slice xa2 M2 xc2, .int .i64 s2] W' (OneRat m1 o2 W') from hm1 ▸ ho2 ▸ spec_ExcessOf s2 (HG2.out.up hb) (HU2.out.up hb) HF2.out HLX.out))
    have HWx := zH hWx
    clear hm1 ho2 hWx
    obtain ⟨n0, n1⟩ := two HQ2.out
    go_wp2_with fail
    rw [HWx.out]
    refine (IX.out _ (Below.refl _ _)).mono ?_
    rintro e wF ⟨rfl, kF⟩
    have KF := zH (kF.alloc kF.size (.cells #[.int .i64 m1.1, .int .i64 m1.2] 32))
    have HM1 := zH (BoxAt.new wF m1)
    obtain ⟨n0, n1⟩ := two (HQ2.out.below KF.out)
    clear kF
    go_wp2_with fail
    refine (SX.out _ KF.out).mono ?_
    rintro e wG ⟨rfl, kG⟩
    have hkg := KF.out.trans (kG.mono KF.out.size)
    have KG := zH (hkg.alloc hkg.size (.cells #[.int .i64 m1.1, .int .i64 m1.2] 32))
    have HM1G := zH ((HM1.out.below kG).alloc (.cells #[.int .i64 m1.1, .int .i64 m1.2] 32))
    have HM2 := zH (BoxAt.new wG m1)
    have hall := KE.out.trans (KG.out.mono KE.out.size)
    have HY := zH (HYB.out.up hall)
    have HZ := zH (HZB.out.up hall)
    have HBG := zH (HBB.out.trans (hall.mono HBB.out.size))
    obtain ⟨a0, a1, -⟩ := HR1E.out.four
    obtain ⟨c0, c1, -⟩ := HR2E.out.four
    obtain ⟨a0, a1, -⟩ := (HR1E.out.below KG.out).four
    obtain ⟨c0, c1, -⟩ := (HR2E.out.below KG.out).four
    obtain ⟨d0, d1, -⟩ := HM1G.out.four
    obtain ⟨f0, f1, -⟩ := HM2.out.four
    have he := eq_rat
    have hg := eqg_rat
    have e1 : (r1.1 == r1.1) = true := by simp
    have e2 : (r1.2 == r1.2) = true := by simp
    have e3 : (m1.1 == m1.1) = true := by simp
    have e4 : (m1.2 == m1.2) = true := by simp
    have e5 : (o1 == o1) = true := by simp
    have e6 : (o2 == o2) = true := by simp
    clear kG hkg n0 n1 HM1 hall
    go_wp2_with fail
    refine (impl_CompareExcesses HY.out HZ.out HLY.out HLZ.out).mono ?_
    rintro e wH ⟨rfl, kH⟩
    have KH := zH kH
    have hcz : (Py.cmpL ys zs == Py.cmpL ys zs) = true := by simp
    generalize hcc : Py.cmpL ys zs = cz at *
    have Hcc := zH hcc
    clear kH hcc
    go_wp2_with fail
    refine (spec_CompareExcesses (HY.out.up KH.out) (HZ.out.up KH.out) HLY.out HLZ.out).mono ?_
    rintro e wI ⟨rfl, kI⟩
    rw [Hcc.out]
    have HBI := zH (HBG.out.trans ((KH.out.trans (kI.mono KH.out.size)).mono HBG.out.size))
    clear kI
    go_wp2_with fail
    go_ret
    exact ⟨rfl, HBI.out⟩
  ·
   obtain ⟨b12, rfl⟩ := own_block' O12.out (by have := HL.out; omega)
   have hL30 : L ≤ 30 := by have h1 := HL.out; have h2 := Hvl.out; omega
   have FV0 := zH (fun (k : Nat) (hk : k < L) W' (h : Below w9.heap.size w9 W') => fv_at (O12.out.below h) k (by have := HL.out; omega))
   go_wp2_with fail
   go_loopw [13] (fun i wr => ∃ k : Nat, 1 ≤ k ∧ (k ≤ L ∨ k = 1) ∧ i = .int .i64 k ∧ Hid (Below w9.heap.size w9 wr)) (fun i _ => L + 1 - (intOf i).toNat)
   case atStart => exact ⟨1, by omega, by omega, rfl, HB90⟩
   case round =>
    obtain ⟨k, hk1, hkL, rfl, hB⟩ := hrel
    by_cases hlt : k < L
    ·
     have n1 : (k : Int) < (L : Int) := by omega
     have hk3 : (k : Int) - 1 = ((k - 1 : Nat) : Int) := by omega
     have hw1 : IntKind.i64.wrap ((k : Int) - 1) = ((k - 1 : Nat) : Int) := by rw [IntWalk.i64_in _ (by omega)]; exact hk3
     have hst := Hstep.out (k - 1) (by have := HL.out; omega)
     rw [show k - 1 + 1 = k by omega] at hst
     obtain ⟨kp, hkp⟩ : ∃ kp, k - 1 = kp := ⟨_, rfl⟩
     have hkpL : kp < L := by omega
     rw [hkp] at hst hw1
     have HS := zH (fun w => impl_cmpX (Ve.at_ vc kp) (Ve.at_ vc k) w)
     generalize hz : Py.cmp (Ve.at_ vc kp) (Ve.at_ vc k) = z at *
     have Cl := zH (fun w' (h : Below w9.heap.size w9 w') => (show w'.cell? ⟨b12, kp * 2, none⟩ = some (.int .i64 (Ve.at_ vc kp).1) ∧ w'.cell? ⟨b12, kp * 2 + 1, none⟩ = some (.int .i64 (Ve.at_ vc kp).2) ∧ w'.cell? ⟨b12, k * 2, none⟩ = some (.int .i64 (Ve.at_ vc k).1) ∧ w'.cell? ⟨b12, k * 2 + 1, none⟩ = some (.int .i64 (Ve.at_ vc k).2) ∧ Below w9.heap.size w9 w' from ⟨(FV0.out kp hkpL w' h).1, (FV0.out kp hkpL w' h).2, (FV0.out k hlt w' h).1, (FV0.out k hlt w' h).2, h⟩))
     have HBr := zH hB.out
     clear hk3 hkp hz
     generalize Ve.at_ vc kp = X at *
     generalize Ve.at_ vc k = Y at *
     go_upto_region 13 with (fail)
     have hb0 := HBr.out.drew
     refine wp_region_held_drew (S := fun w' => w'.cell? ⟨b12, kp * 2, none⟩ = some (.int .i64 X.1) ∧ w'.cell? ⟨b12, kp * 2 + 1, none⟩ = some (.int .i64 X.2) ∧ w'.cell? ⟨b12, k * 2, none⟩ = some (.int .i64 Y.1) ∧ w'.cell? ⟨b12, k * 2 + 1, none⟩ = some (.int .i64 Y.2) ∧ Below w9.heap.size w9 w') (by kernel_rfl) ?_ (fun hHeld => ?_)
     ·
      exact Cl.out _ hb0
     refine tk1 0 ⟨some 109, .move (.tmp 12), 27, "laws.go:435", #[], none⟩ ?_
     refine tk1 1 ⟨some 110, .move (.tmp 13), 3, "laws.go:435", #[], none⟩ ?_
     refine tk1 2 ⟨some 111, .binOp .sub 3 (.tmp 110) (.const (Value.int IntKind.i64 1)) 3, 3, "laws.go:435", #[⟨1, .data⟩], none⟩ ?_
     refine tk1 3 ⟨some 112, .indexAddr 27 (.tmp 109) (.tmp 111), 0, "laws.go:435", #[⟨0, .data⟩, ⟨2, .data⟩], none⟩ ?_
     refine tk1 4 ⟨some 113, .load 32 (.tmp 112), 32, "laws.go:435", #[⟨3, .data⟩], none⟩ ?_
     refine tk1 5 ⟨some 114, .move (.tmp 12), 27, "laws.go:435", #[], none⟩ ?_
     refine tk1 6 ⟨some 115, .move (.tmp 13), 3, "laws.go:435", #[], none⟩ ?_
     refine tk1 7 ⟨some 116, .indexAddr 27 (.tmp 114) (.tmp 115), 0, "laws.go:435", #[⟨5, .data⟩, ⟨6, .data⟩], none⟩ ?_
     refine tk1 8 ⟨some 117, .load 32 (.tmp 116), 32, "laws.go:435", #[⟨7, .data⟩], none⟩ ?_
     try simp only [Act.put, zA, zB, zC]
     refine rd1 9 ⟨some 118, .call { callee := .value (.func 18), args := #[.tmp 113, .tmp 117], argTypes := #[32, 32] }, 3, "laws.go:435", #[⟨4, .data⟩, ⟨8, .data⟩], none⟩ fun K hK => ?_
     go_simp
     (go_at_call 18; refine (HS.out _).mono ?_; rintro e w11 ⟨rfl, k11⟩; have hb1 := hb0.trans (k11.mono hb0.size))
     refine hK.out _ _ ?_ (fun hHeld => ?_)
     ·
      exact Cl.out _ hb1
     clear hK K
     refine tk1 10 ⟨some 119, .binOp .lss 3 (.tmp 118) (.const (Value.int IntKind.i64 0)) 3, 4, "laws.go:435", #[⟨9, .data⟩], none⟩ ?_
     try simp only [Act.put, zA, zB, zC]
     refine wpAnyH_done (by kernel_rfl) ?_ _
     have HB2 := zH hb1
     clear Cl hb0 hb1 k11 HS HBr hB
     go_wp2_with fail
     go_roundw
     case rel => exact ⟨k + 1, by omega, by omega, by go_num, HB2⟩
     case measure => simp [intOf]; omega
    ·
     have n1 : ¬ (k : Int) < (L : Int) := by omega
     have HBr := zH hB.out
     rcases fk with _ | _
     ·
      go_upto_region 15 with fail
      have hb0 := HBr.out.drew
      have Cl := zH (fun w' (h : Below w9.heap.size w9 w') => (show w'.cell? ⟨q6, 0, none⟩ = some (.int .i64 E.1) ∧ w'.cell? ⟨q6, 1, none⟩ = some (.int .i64 E.2) ∧ Below w9.heap.size w9 w' from ⟨(HX6.out.below h).four.1, (HX6.out.below h).four.2.1, h⟩))
      refine wp_region_T_drew (S := (fun w' => w'.cell? ⟨q6, 0, none⟩ = some (.int .i64 E.1) ∧ w'.cell? ⟨q6, 1, none⟩ = some (.int .i64 E.2) ∧ Below w9.heap.size w9 w')) 19 (by kernel_rfl) ?_ (fun hHeld => ?_)
      ·
       exact Cl.out _ hb0
      refine tk2 0 ⟨some 120, .move (.tmp 8), 4, "laws.go:439", #[], none⟩ ?_
      refine tk2 1 ⟨some 121, .move (.tmp 120), 4, "laws.go:439", #[⟨0, .data⟩], none⟩ ?_
      try simp only [Act.put, zA, zB, zC]
      refine tkTu (i := 2) (oi := ⟨some 122, .move (.tmp 5), 4, "laws.go:439", #[⟨1, .guard⟩], some (1, true)⟩) rfl (by assumption) ?_
      try simp only [Act.put, zA, zB, zC]
      refine tkTu (i := 3) (oi := ⟨some 123, .fieldAddr 32 (.tmp 6) 0, 0, "laws.go:439", #[⟨1, .guard⟩], some (1, true)⟩) rfl (by assumption) ?_
      try simp only [Act.put, zA, zB, zC]
      refine tkTu (i := 4) (oi := ⟨some 124, .load 3 (.tmp 123), 3, "laws.go:439", #[⟨3, .data⟩, ⟨1, .guard⟩], some (1, true)⟩) rfl (by assumption) ?_
      try simp only [Act.put, zA, zB, zC]
      refine tkTu (i := 5) (oi := ⟨some 125, .binOp .leq 3 (.tmp 124) (.const (Value.int IntKind.i64 0)) 3, 4, "laws.go:439", #[⟨4, .data⟩, ⟨1, .guard⟩], some (1, true)⟩) rfl (by assumption) ?_
      try simp only [Act.put, zA, zB, zC]
      refine tkTu (i := 6) (oi := ⟨some 126, .binOp .neq 4 (.tmp 122) (.tmp 125) 4, 4, "laws.go:439", #[⟨2, .data⟩, ⟨5, .data⟩, ⟨1, .guard⟩], some (1, true)⟩) rfl (by assumption) ?_
      try simp only [Act.put, zA, zB, zC]
      refine tkTu (i := 7) (oi := ⟨some 127, .move (.tmp 126), 4, "laws.go:439", #[⟨6, .data⟩, ⟨1, .chain⟩, ⟨1, .guard⟩], some (1, true)⟩) rfl (by assumption) ?_
      try simp only [Act.put, zA, zB, zC]
      refine tkTu (i := 8) (oi := ⟨some 128, .move (.tmp 12), 27, "laws.go:439", #[⟨7, .guard⟩], some (7, false)⟩) rfl (by assumption) ?_
      try simp only [Act.put, zA, zB, zC]
      refine tkTu (i := 9) (oi := ⟨some 129, .call { callee := .builtin Builtin.len, args := #[.tmp 128], argTypes := #[27] }, 3, "laws.go:439", #[⟨8, .data⟩, ⟨7, .guard⟩], some (7, false)⟩) rfl (by assumption) ?_
      try simp only [Act.put, zA, zB, zC]
      refine tkTu (i := 10) (oi := ⟨some 130, .binOp .eql 3 (.tmp 129) (.const (Value.int IntKind.i64 0)) 3, 4, "laws.go:439", #[⟨9, .data⟩, ⟨7, .guard⟩], some (7, false)⟩) rfl (by assumption) ?_
      try simp only [Act.put, zA, zB, zC]
      refine tkTu (i := 11) (oi := ⟨some 131, .pick (.tmp 127) (.const (Value.bool true)) (.tmp 130), 4, "laws.go:439", #[⟨7, .data⟩, ⟨10, .data⟩, ⟨1, .guard⟩], some (1, true)⟩) rfl (by assumption) ?_
      try simp only [Act.put, zA, zB, zC]
      refine tkTu (i := 12) (oi := ⟨some 132, .move (.tmp 131), 4, "laws.go:439", #[⟨11, .data⟩, ⟨7, .chain⟩, ⟨1, .guard⟩], some (1, true)⟩) rfl (by assumption) ?_
      try simp only [Act.put, zA, zB, zC]
      refine tkTu (i := 13) (oi := ⟨some 133, .move (.tmp 12), 27, "laws.go:439", #[⟨12, .guard⟩], some (12, false)⟩) rfl (by assumption) ?_
      try simp only [Act.put, zA, zB, zC]
      refine tkTu (i := 14) (oi := ⟨some 134, .indexAddr 27 (.tmp 133) (.const (Value.int IntKind.i64 0)), 0, "laws.go:439", #[⟨13, .data⟩, ⟨12, .guard⟩], some (12, false)⟩) rfl (by assumption) ?_
      try simp only [Act.put, zA, zB, zC]
      refine tkTu (i := 15) (oi := ⟨some 135, .load 32 (.tmp 134), 32, "laws.go:439", #[⟨14, .data⟩, ⟨12, .guard⟩], some (12, false)⟩) rfl (by assumption) ?_
      try simp only [Act.put, zA, zB, zC]
      refine tkTu (i := 16) (oi := ⟨some 136, .load 32 (.tmp 6), 32, "laws.go:439", #[⟨12, .guard⟩], some (12, false)⟩) rfl (by assumption) ?_
      try simp only [Act.put, zA, zB, zC]
      refine tkTu (i := 17) (oi := ⟨some 137, .binOp .neq 32 (.tmp 135) (.tmp 136) 32, 4, "laws.go:439", #[⟨15, .data⟩, ⟨16, .data⟩, ⟨12, .guard⟩], some (12, false)⟩) rfl (by assumption) ?_
      try simp only [Act.put, zA, zB, zC]
      refine tkTu (i := 18) (oi := ⟨some 138, .pick (.tmp 132) (.const (Value.bool true)) (.tmp 137), 4, "laws.go:439", #[⟨12, .data⟩, ⟨17, .data⟩, ⟨1, .guard⟩], some (1, true)⟩) rfl (by assumption) ?_
      try simp only [Act.put, zA, zB, zC]
      refine rd3 19 ⟨some 139, .pick (.tmp 121) (.tmp 138) (.const (Value.bool false)), 4, "laws.go:439", #[⟨1, .data⟩, ⟨18, .data⟩], none⟩ fun K hK => ?_
      go_simp
      refine hK.out _ _ ?_
      clear hK K
      try simp only [Act.put, zA, zB, zC]
      refine wpAnyT_done (by kernel_rfl) ?_ _
      have HBt := zH (HB9.out.trans (hb0.mono HB9.out.size))
      clear Cl hb0
      go_wp2_with fail
      refine (spec_DrawCompareExcesses a len cap _ ((Hc.out.below HBt.out).mono HBt.out.size)).mono ?_
      rintro e wA ⟨cu, cw, ys, zs, rfl, hys, hzs, ly, lz, kA⟩
      obtain ⟨ca, cc, rfl, hca⟩ := hys
      obtain ⟨da, dc, rfl, hda⟩ := hzs
      have HYS : Hid (InRats wA (.slice ca ys.length cc) ys) := ⟨ca, cc, rfl, hca⟩
      have HZS : Hid (InRats wA (.slice da zs.length dc) zs) := ⟨da, dc, rfl, hda⟩
      obtain ⟨nY, hnY⟩ : ∃ nY, ys.length = nY := ⟨_, rfl⟩
      obtain ⟨nZ, hnZ⟩ : ∃ nZ, zs.length = nZ := ⟨_, rfl⟩
      have HLY : Hid (ys.length ≤ 1048576) := by show ys.length ≤ 1048576; omega
      have HLZ : Hid (zs.length ≤ 1048576) := by show zs.length ≤ 1048576; omega
      rw [hnY] at HYS ⊢
      rw [hnZ] at HZS ⊢
      have HBA := zH (HBt.out.trans (kA.mono HBt.out.size))
      clear hca hda kA hnY hnZ ly lz
      go_wp2_with fail
      refine (spec_DrawShareOf a len cap wA ((Hc.out.below HBA.out).mono HBA.out.size)).mono ?_
      rintro e wB ⟨sv, ss, s, rfl, hss, hs5, -, -, kB⟩
      obtain ⟨sa, sc, rfl⟩ := own_shape' hss
      have HSS := zH (own_inR' hss)
      have HLS : Hid (ss.length ≤ 1048576) := by show ss.length ≤ 1048576; omega
      obtain ⟨nS, hnS⟩ : ∃ nS, ss.length = nS := ⟨_, rfl⟩
      rw [hnS] at HSS ⊢
      have HYB := zH (HYS.out.up kB)
      have HZB := zH (HZS.out.up kB)
      have HBB := zH (HBA.out.trans (kB.mono HBA.out.size))
      clear hss hs5 kB hnS HYS HZS HBA
      obtain ⟨r1, hr1⟩ : ∃ r1, (Py.share ss s).1 = r1 := ⟨_, rfl⟩
      obtain ⟨o1, ho1⟩ : ∃ o1, (Py.share ss s).2 = o1 := ⟨_, rfl⟩
      have IS := zH (fun W' (hb : Below wB.heap.size wB W') => (show Calls Tryz.prog 21 #[.slice sa nS sc, .int .i64 s] W' (OneRat r1 o1 W') from hr1 ▸ ho1 ▸ impl_ShareOf s (HSS.out.up hb) HLS.out))
      have SS := zH (fun W' (hb : Below wB.heap.size wB W') => (show Calls Tryz.prog 22 #[.slice sa nS sc, .int .i64 s] W' (OneRat r1 o1 W') from hr1 ▸ ho1 ▸ spec_ShareOf s (HSS.out.up hb) HLS.out))
      clear hr1 ho1
      go_wp2_with fail
      refine (IS.out _ (Below.refl _ _)).mono ?_
      rintro e wC ⟨rfl, kC⟩
      have KC := zH (kC.alloc kC.size (.cells #[.int .i64 r1.1, .int .i64 r1.2] 32))
      have HR1 := zH (BoxAt.new wC r1)
      obtain ⟨qr, hqr⟩ : ∃ qr, wC.heap.size = qr := ⟨_, rfl⟩
      have Hqr := zH hqr
      clear kC hqr
      go_wp2_with fail
      refine (SS.out _ KC.out).mono ?_
      rintro e wD ⟨rfl, kD⟩
      have hkd := KC.out.trans (kD.mono KC.out.size)
      have KD := zH (hkd.alloc hkd.size (.cells #[.int .i64 r1.1, .int .i64 r1.2] 32))
      have HR1D := zH ((HR1.out.below kD).alloc (.cells #[.int .i64 r1.1, .int .i64 r1.2] 32))
      have HR2 := zH (BoxAt.new wD r1)
      have HBD := zH (HBB.out.trans (KD.out.mono HBB.out.size))
      clear kD hkd HR1 KC IS SS
      go_wp2_with fail
      refine (spec_DrawExcessOf a len cap _ ((Hc.out.below HBD.out).mono HBD.out.size)).mono ?_
      rintro e wE ⟨g2, v2, u2, x2, s2, rfl, hg2, hok2, hu2, hu5, -, -, kE⟩
      obtain ⟨gn2, gv2⟩ := g2
      simp only at hg2 ⊢
      obtain ⟨av2, cv2, rfl⟩ := ints_shape hg2
      obtain ⟨xa2, xc2, rfl⟩ := own_shape' hu2
      have HG2 := zH (GmC.of_own (g := ⟨gn2, gv2⟩) (hg2.alloc (.cells #[.int .i64 gn2, .slice av2 gv2.length cv2] 26)))
      have HU2 := zH (own_inR' (hu2.alloc (.cells #[.int .i64 gn2, .slice av2 gv2.length cv2] 26)))
      have HQ2 := zH (CellsAt.new wE #[.int .i64 gn2, .slice av2 gv2.length cv2] 26)
      have HLX : Hid (x2.length ≤ 1048576) := by show x2.length ≤ 1048576; omega
      obtain ⟨N2, hN2⟩ : ∃ N2, gv2.length = N2 := ⟨_, rfl⟩
      obtain ⟨M2, hM2⟩ : ∃ M2, x2.length = M2 := ⟨_, rfl⟩
      rw [hN2] at HG2 HQ2 HU2 ⊢
      rw [hM2] at HU2 ⊢
      have HF2 := zH hok2
      have HR1E := zH ((HR1D.out.below kE).alloc (.cells #[.int .i64 gn2, .slice av2 N2 cv2] 26))
      have HR2E := zH ((HR2.out.below kE).alloc (.cells #[.int .i64 gn2, .slice av2 N2 cv2] 26))
      have hke := KD.out.trans (kE.mono KD.out.size)
      have KE := zH (hke.alloc hke.size (.cells #[.int .i64 gn2, .slice av2 N2 cv2] 26))
      clear hg2 hok2 hu2 hu5 kE hN2 hM2 hke HR1D HR2 KD HBD
      obtain ⟨m1, hm1⟩ : ∃ m1, (Py.exc ⟨gn2, gv2⟩ x2 s2).1 = m1 := ⟨_, rfl⟩
      obtain ⟨o2, ho2⟩ : ∃ o2, (Py.exc ⟨gn2, gv2⟩ x2 s2).2 = o2 := ⟨_, rfl⟩
      obtain ⟨Wx, hWx⟩ : ∃ Wx, wE.alloc (.cells #[.int .i64 gn2, .slice av2 N2 cv2] 26) = Wx := ⟨_, rfl⟩
      rw [hWx] at HG2 HU2 HQ2 HR1E HR2E KE
      have IX := zH (fun W' (hb : Below Wx.heap.size Wx W') => (show Calls Tryz.prog 24 #[.agg #[.int .i64 gn2, .slice av2 N2 cv2], .slice xa2 M2 xc2, .int .i64 s2] W' (OneRat m1 o2 W') from hm1 ▸ ho2 ▸ impl_ExcessOf s2 (HG2.out.up hb) (HU2.out.up hb) HF2.out HLX.out))
      have SX := zH (fun W' (hb : Below Wx.heap.size Wx W') => (show Calls Tryz.prog 25 #[.agg #[.int .i64 gn2, .slice av2 N2 cv2], .slice xa2 M2 xc2, .int .i64 s2] W' (OneRat m1 o2 W') from hm1 ▸ ho2 ▸ spec_ExcessOf s2 (HG2.out.up hb) (HU2.out.up hb) HF2.out HLX.out))
      have HWx := zH hWx
      clear hm1 ho2 hWx
      obtain ⟨n0, n1⟩ := two HQ2.out
      go_wp2_with fail
      rw [HWx.out]
      refine (IX.out _ (Below.refl _ _)).mono ?_
      rintro e wF ⟨rfl, kF⟩
      have KF := zH (kF.alloc kF.size (.cells #[.int .i64 m1.1, .int .i64 m1.2] 32))
      have HM1 := zH (BoxAt.new wF m1)
      obtain ⟨n0, n1⟩ := two (HQ2.out.below KF.out)
      clear kF
      go_wp2_with fail
      refine (SX.out _ KF.out).mono ?_
      rintro e wG ⟨rfl, kG⟩
      have hkg := KF.out.trans (kG.mono KF.out.size)
      have KG := zH (hkg.alloc hkg.size (.cells #[.int .i64 m1.1, .int .i64 m1.2] 32))
      have HM1G := zH ((HM1.out.below kG).alloc (.cells #[.int .i64 m1.1, .int .i64 m1.2] 32))
      have HM2 := zH (BoxAt.new wG m1)
      have hall := KE.out.trans (KG.out.mono KE.out.size)
      have HY := zH (HYB.out.up hall)
      have HZ := zH (HZB.out.up hall)
      have HBG := zH (HBB.out.trans (hall.mono HBB.out.size))
      obtain ⟨a0, a1, -⟩ := HR1E.out.four
      obtain ⟨c0, c1, -⟩ := HR2E.out.four
      obtain ⟨a0, a1, -⟩ := (HR1E.out.below KG.out).four
      obtain ⟨c0, c1, -⟩ := (HR2E.out.below KG.out).four
      obtain ⟨d0, d1, -⟩ := HM1G.out.four
      obtain ⟨f0, f1, -⟩ := HM2.out.four
      have he := eq_rat
      have hg := eqg_rat
      have e1 : (r1.1 == r1.1) = true := by simp
      have e2 : (r1.2 == r1.2) = true := by simp
      have e3 : (m1.1 == m1.1) = true := by simp
      have e4 : (m1.2 == m1.2) = true := by simp
      have e5 : (o1 == o1) = true := by simp
      have e6 : (o2 == o2) = true := by simp
      clear kG hkg n0 n1 HM1 hall
      go_wp2_with fail
      refine (impl_CompareExcesses HY.out HZ.out HLY.out HLZ.out).mono ?_
      rintro e wH ⟨rfl, kH⟩
      have KH := zH kH
      have hcz : (Py.cmpL ys zs == Py.cmpL ys zs) = true := by simp
      generalize hcc : Py.cmpL ys zs = cz at *
      have Hcc := zH hcc
      clear kH hcc
      go_wp2_with fail
      refine (spec_CompareExcesses (HY.out.up KH.out) (HZ.out.up KH.out) HLY.out HLZ.out).mono ?_
      rintro e wI ⟨rfl, kI⟩
      rw [Hcc.out]
      have HBI := zH (HBG.out.trans ((KH.out.trans (kI.mono KH.out.size)).mono HBG.out.size))
      clear kI
      go_wp2_with fail
      go_ret
      exact ⟨rfl, HBI.out⟩
     ·
      obtain ⟨hp0, hA0, rfl⟩ := Hfin.out rfl
      have FV : Hid (∀ W', Below w9.heap.size w9 W' → W'.cell? ⟨b12, 0, none⟩ = some (.int .i64 E.1) ∧ W'.cell? ⟨b12, 1, none⟩ = some (.int .i64 E.2)) := fun W' h => by
       have h1 := FV0.out 0 (by omega) W' h
       rw [hA0] at h1
       simpa using h1
      have g1 : (decide (E.1 ≤ 0) != decide (E.1 ≤ 0)) = false := by simp
      have g2 : ((L : Int) == 0) = false := by rw [beq_eq_false_iff_ne]; omega
      have g3 : (E.1 == E.1) = true := by simp
      have g4 : (E.2 == E.2) = true := by simp
      have g5 : (0 : Int) < (L : Int) := by omega
      have g6 : 0 < L := by omega
      clear hA0 hp0
      go_upto_region 15 with fail
      have hb0 := HBr.out.drew
      have Cl := zH (fun w' (h : Below w9.heap.size w9 w') => (show w'.cell? ⟨q6, 0, none⟩ = some (.int .i64 E.1) ∧ w'.cell? ⟨q6, 1, none⟩ = some (.int .i64 E.2) ∧ w'.cell? ⟨b12, 0, none⟩ = some (.int .i64 E.1) ∧ w'.cell? ⟨b12, 1, none⟩ = some (.int .i64 E.2) ∧ Below w9.heap.size w9 w' from ⟨(HX6.out.below h).four.1, (HX6.out.below h).four.2.1, by have := (FV.out w' h).1; exact this, by have := (FV.out w' h).2; exact this, h⟩))
      refine wp_region_T_drew (S := (fun w' => w'.cell? ⟨q6, 0, none⟩ = some (.int .i64 E.1) ∧ w'.cell? ⟨q6, 1, none⟩ = some (.int .i64 E.2) ∧ w'.cell? ⟨b12, 0, none⟩ = some (.int .i64 E.1) ∧ w'.cell? ⟨b12, 1, none⟩ = some (.int .i64 E.2) ∧ Below w9.heap.size w9 w')) 19 (by kernel_rfl) ?_ (fun hHeld => ?_)
      ·
       exact Cl.out _ hb0
      refine tk2 0 ⟨some 120, .move (.tmp 8), 4, "laws.go:439", #[], none⟩ ?_
      refine tk2 1 ⟨some 121, .move (.tmp 120), 4, "laws.go:439", #[⟨0, .data⟩], none⟩ ?_
      try simp only [Act.put, zA, zB, zC]
      refine tk2 2 ⟨some 122, .move (.tmp 5), 4, "laws.go:439", #[⟨1, .guard⟩], some (1, true)⟩ ?_
      try simp only [Act.put, zA, zB, zC]
      refine tk2 3 ⟨some 123, .fieldAddr 32 (.tmp 6) 0, 0, "laws.go:439", #[⟨1, .guard⟩], some (1, true)⟩ ?_
      try simp only [Act.put, zA, zB, zC]
      refine tk2 4 ⟨some 124, .load 3 (.tmp 123), 3, "laws.go:439", #[⟨3, .data⟩, ⟨1, .guard⟩], some (1, true)⟩ ?_
      try simp only [Act.put, zA, zB, zC]
      refine tk2 5 ⟨some 125, .binOp .leq 3 (.tmp 124) (.const (Value.int IntKind.i64 0)) 3, 4, "laws.go:439", #[⟨4, .data⟩, ⟨1, .guard⟩], some (1, true)⟩ ?_
      try simp only [Act.put, zA, zB, zC]
      refine tk2 6 ⟨some 126, .binOp .neq 4 (.tmp 122) (.tmp 125) 4, 4, "laws.go:439", #[⟨2, .data⟩, ⟨5, .data⟩, ⟨1, .guard⟩], some (1, true)⟩ ?_
      try simp only [Act.put, zA, zB, zC]
      refine tk2 7 ⟨some 127, .move (.tmp 126), 4, "laws.go:439", #[⟨6, .data⟩, ⟨1, .chain⟩, ⟨1, .guard⟩], some (1, true)⟩ ?_
      try simp only [Act.put, zA, zB, zC]
      refine tk2 8 ⟨some 128, .move (.tmp 12), 27, "laws.go:439", #[⟨7, .guard⟩], some (7, false)⟩ ?_
      try simp only [Act.put, zA, zB, zC]
      refine tk2 9 ⟨some 129, .call { callee := .builtin Builtin.len, args := #[.tmp 128], argTypes := #[27] }, 3, "laws.go:439", #[⟨8, .data⟩, ⟨7, .guard⟩], some (7, false)⟩ ?_
      try simp only [Act.put, zA, zB, zC]
      refine tk2 10 ⟨some 130, .binOp .eql 3 (.tmp 129) (.const (Value.int IntKind.i64 0)) 3, 4, "laws.go:439", #[⟨9, .data⟩, ⟨7, .guard⟩], some (7, false)⟩ ?_
      try simp only [Act.put, zA, zB, zC]
      refine tk2 11 ⟨some 131, .pick (.tmp 127) (.const (Value.bool true)) (.tmp 130), 4, "laws.go:439", #[⟨7, .data⟩, ⟨10, .data⟩, ⟨1, .guard⟩], some (1, true)⟩ ?_
      try simp only [Act.put, zA, zB, zC]
      refine tk2 12 ⟨some 132, .move (.tmp 131), 4, "laws.go:439", #[⟨11, .data⟩, ⟨7, .chain⟩, ⟨1, .guard⟩], some (1, true)⟩ ?_
      try simp only [Act.put, zA, zB, zC]
      refine tk2 13 ⟨some 133, .move (.tmp 12), 27, "laws.go:439", #[⟨12, .guard⟩], some (12, false)⟩ ?_
      try simp only [Act.put, zA, zB, zC]
      refine tk2 14 ⟨some 134, .indexAddr 27 (.tmp 133) (.const (Value.int IntKind.i64 0)), 0, "laws.go:439", #[⟨13, .data⟩, ⟨12, .guard⟩], some (12, false)⟩ ?_
      try simp only [Act.put, zA, zB, zC]
      refine tk2 15 ⟨some 135, .load 32 (.tmp 134), 32, "laws.go:439", #[⟨14, .data⟩, ⟨12, .guard⟩], some (12, false)⟩ ?_
      try simp only [Act.put, zA, zB, zC]
      refine tk2 16 ⟨some 136, .load 32 (.tmp 6), 32, "laws.go:439", #[⟨12, .guard⟩], some (12, false)⟩ ?_
      try simp only [Act.put, zA, zB, zC]
      refine tk2 17 ⟨some 137, .binOp .neq 32 (.tmp 135) (.tmp 136) 32, 4, "laws.go:439", #[⟨15, .data⟩, ⟨16, .data⟩, ⟨12, .guard⟩], some (12, false)⟩ ?_
      try simp only [Act.put, zA, zB, zC]
      refine tk2 18 ⟨some 138, .pick (.tmp 132) (.const (Value.bool true)) (.tmp 137), 4, "laws.go:439", #[⟨12, .data⟩, ⟨17, .data⟩, ⟨1, .guard⟩], some (1, true)⟩ ?_
      try simp only [Act.put, zA, zB, zC]
      refine rd3 19 ⟨some 139, .pick (.tmp 121) (.tmp 138) (.const (Value.bool false)), 4, "laws.go:439", #[⟨1, .data⟩, ⟨18, .data⟩], none⟩ fun K hK => ?_
      go_simp
      refine hK.out _ _ ?_
      clear hK K
      try simp only [Act.put, zA, zB, zC]
      refine wpAnyT_done (by kernel_rfl) ?_ _
      have HBt := zH (HB9.out.trans (hb0.mono HB9.out.size))
      clear Cl hb0
      go_wp2_with fail
      refine (spec_DrawCompareExcesses a len cap _ ((Hc.out.below HBt.out).mono HBt.out.size)).mono ?_
      rintro e wA ⟨cu, cw, ys, zs, rfl, hys, hzs, ly, lz, kA⟩
      obtain ⟨ca, cc, rfl, hca⟩ := hys
      obtain ⟨da, dc, rfl, hda⟩ := hzs
      have HYS : Hid (InRats wA (.slice ca ys.length cc) ys) := ⟨ca, cc, rfl, hca⟩
      have HZS : Hid (InRats wA (.slice da zs.length dc) zs) := ⟨da, dc, rfl, hda⟩
      obtain ⟨nY, hnY⟩ : ∃ nY, ys.length = nY := ⟨_, rfl⟩
      obtain ⟨nZ, hnZ⟩ : ∃ nZ, zs.length = nZ := ⟨_, rfl⟩
      have HLY : Hid (ys.length ≤ 1048576) := by show ys.length ≤ 1048576; omega
      have HLZ : Hid (zs.length ≤ 1048576) := by show zs.length ≤ 1048576; omega
      rw [hnY] at HYS ⊢
      rw [hnZ] at HZS ⊢
      have HBA := zH (HBt.out.trans (kA.mono HBt.out.size))
      clear hca hda kA hnY hnZ ly lz
      go_wp2_with fail
      refine (spec_DrawShareOf a len cap wA ((Hc.out.below HBA.out).mono HBA.out.size)).mono ?_
      rintro e wB ⟨sv, ss, s, rfl, hss, hs5, -, -, kB⟩
      obtain ⟨sa, sc, rfl⟩ := own_shape' hss
      have HSS := zH (own_inR' hss)
      have HLS : Hid (ss.length ≤ 1048576) := by show ss.length ≤ 1048576; omega
      obtain ⟨nS, hnS⟩ : ∃ nS, ss.length = nS := ⟨_, rfl⟩
      rw [hnS] at HSS ⊢
      have HYB := zH (HYS.out.up kB)
      have HZB := zH (HZS.out.up kB)
      have HBB := zH (HBA.out.trans (kB.mono HBA.out.size))
      clear hss hs5 kB hnS HYS HZS HBA
      obtain ⟨r1, hr1⟩ : ∃ r1, (Py.share ss s).1 = r1 := ⟨_, rfl⟩
      obtain ⟨o1, ho1⟩ : ∃ o1, (Py.share ss s).2 = o1 := ⟨_, rfl⟩
      have IS := zH (fun W' (hb : Below wB.heap.size wB W') => (show Calls Tryz.prog 21 #[.slice sa nS sc, .int .i64 s] W' (OneRat r1 o1 W') from hr1 ▸ ho1 ▸ impl_ShareOf s (HSS.out.up hb) HLS.out))
      have SS := zH (fun W' (hb : Below wB.heap.size wB W') => (show Calls Tryz.prog 22 #[.slice sa nS sc, .int .i64 s] W' (OneRat r1 o1 W') from hr1 ▸ ho1 ▸ spec_ShareOf s (HSS.out.up hb) HLS.out))
      clear hr1 ho1
      go_wp2_with fail
      refine (IS.out _ (Below.refl _ _)).mono ?_
      rintro e wC ⟨rfl, kC⟩
      have KC := zH (kC.alloc kC.size (.cells #[.int .i64 r1.1, .int .i64 r1.2] 32))
      have HR1 := zH (BoxAt.new wC r1)
      obtain ⟨qr, hqr⟩ : ∃ qr, wC.heap.size = qr := ⟨_, rfl⟩
      have Hqr := zH hqr
      clear kC hqr
      go_wp2_with fail
      refine (SS.out _ KC.out).mono ?_
      rintro e wD ⟨rfl, kD⟩
      have hkd := KC.out.trans (kD.mono KC.out.size)
      have KD := zH (hkd.alloc hkd.size (.cells #[.int .i64 r1.1, .int .i64 r1.2] 32))
      have HR1D := zH ((HR1.out.below kD).alloc (.cells #[.int .i64 r1.1, .int .i64 r1.2] 32))
      have HR2 := zH (BoxAt.new wD r1)
      have HBD := zH (HBB.out.trans (KD.out.mono HBB.out.size))
      clear kD hkd HR1 KC IS SS
      go_wp2_with fail
      refine (spec_DrawExcessOf a len cap _ ((Hc.out.below HBD.out).mono HBD.out.size)).mono ?_
      rintro e wE ⟨g2, v2, u2, x2, s2, rfl, hg2, hok2, hu2, hu5, -, -, kE⟩
      obtain ⟨gn2, gv2⟩ := g2
      simp only at hg2 ⊢
      obtain ⟨av2, cv2, rfl⟩ := ints_shape hg2
      obtain ⟨xa2, xc2, rfl⟩ := own_shape' hu2
      have HG2 := zH (GmC.of_own (g := ⟨gn2, gv2⟩) (hg2.alloc (.cells #[.int .i64 gn2, .slice av2 gv2.length cv2] 26)))
      have HU2 := zH (own_inR' (hu2.alloc (.cells #[.int .i64 gn2, .slice av2 gv2.length cv2] 26)))
      have HQ2 := zH (CellsAt.new wE #[.int .i64 gn2, .slice av2 gv2.length cv2] 26)
      have HLX : Hid (x2.length ≤ 1048576) := by show x2.length ≤ 1048576; omega
      obtain ⟨N2, hN2⟩ : ∃ N2, gv2.length = N2 := ⟨_, rfl⟩
      obtain ⟨M2, hM2⟩ : ∃ M2, x2.length = M2 := ⟨_, rfl⟩
      rw [hN2] at HG2 HQ2 HU2 ⊢
      rw [hM2] at HU2 ⊢
      have HF2 := zH hok2
      have HR1E := zH ((HR1D.out.below kE).alloc (.cells #[.int .i64 gn2, .slice av2 N2 cv2] 26))
      have HR2E := zH ((HR2.out.below kE).alloc (.cells #[.int .i64 gn2, .slice av2 N2 cv2] 26))
      have hke := KD.out.trans (kE.mono KD.out.size)
      have KE := zH (hke.alloc hke.size (.cells #[.int .i64 gn2, .slice av2 N2 cv2] 26))
      clear hg2 hok2 hu2 hu5 kE hN2 hM2 hke HR1D HR2 KD HBD
      obtain ⟨m1, hm1⟩ : ∃ m1, (Py.exc ⟨gn2, gv2⟩ x2 s2).1 = m1 := ⟨_, rfl⟩
      obtain ⟨o2, ho2⟩ : ∃ o2, (Py.exc ⟨gn2, gv2⟩ x2 s2).2 = o2 := ⟨_, rfl⟩
      obtain ⟨Wx, hWx⟩ : ∃ Wx, wE.alloc (.cells #[.int .i64 gn2, .slice av2 N2 cv2] 26) = Wx := ⟨_, rfl⟩
      rw [hWx] at HG2 HU2 HQ2 HR1E HR2E KE
      have IX := zH (fun W' (hb : Below Wx.heap.size Wx W') => (show Calls Tryz.prog 24 #[.agg #[.int .i64 gn2, .slice av2 N2 cv2], .slice xa2 M2 xc2, .int .i64 s2] W' (OneRat m1 o2 W') from hm1 ▸ ho2 ▸ impl_ExcessOf s2 (HG2.out.up hb) (HU2.out.up hb) HF2.out HLX.out))
      have SX := zH (fun W' (hb : Below Wx.heap.size Wx W') => (show Calls Tryz.prog 25 #[.agg #[.int .i64 gn2, .slice av2 N2 cv2], .slice xa2 M2 xc2, .int .i64 s2] W' (OneRat m1 o2 W') from hm1 ▸ ho2 ▸ spec_ExcessOf s2 (HG2.out.up hb) (HU2.out.up hb) HF2.out HLX.out))
      have HWx := zH hWx
      clear hm1 ho2 hWx
      obtain ⟨n0, n1⟩ := two HQ2.out
      go_wp2_with fail
      rw [HWx.out]
      refine (IX.out _ (Below.refl _ _)).mono ?_
      rintro e wF ⟨rfl, kF⟩
      have KF := zH (kF.alloc kF.size (.cells #[.int .i64 m1.1, .int .i64 m1.2] 32))
      have HM1 := zH (BoxAt.new wF m1)
      obtain ⟨n0, n1⟩ := two (HQ2.out.below KF.out)
      clear kF
      go_wp2_with fail
      refine (SX.out _ KF.out).mono ?_
      rintro e wG ⟨rfl, kG⟩
      have hkg := KF.out.trans (kG.mono KF.out.size)
      have KG := zH (hkg.alloc hkg.size (.cells #[.int .i64 m1.1, .int .i64 m1.2] 32))
      have HM1G := zH ((HM1.out.below kG).alloc (.cells #[.int .i64 m1.1, .int .i64 m1.2] 32))
      have HM2 := zH (BoxAt.new wG m1)
      have hall := KE.out.trans (KG.out.mono KE.out.size)
      have HY := zH (HYB.out.up hall)
      have HZ := zH (HZB.out.up hall)
      have HBG := zH (HBB.out.trans (hall.mono HBB.out.size))
      obtain ⟨a0, a1, -⟩ := HR1E.out.four
      obtain ⟨c0, c1, -⟩ := HR2E.out.four
      obtain ⟨a0, a1, -⟩ := (HR1E.out.below KG.out).four
      obtain ⟨c0, c1, -⟩ := (HR2E.out.below KG.out).four
      obtain ⟨d0, d1, -⟩ := HM1G.out.four
      obtain ⟨f0, f1, -⟩ := HM2.out.four
      have he := eq_rat
      have hg := eqg_rat
      have e1 : (r1.1 == r1.1) = true := by simp
      have e2 : (r1.2 == r1.2) = true := by simp
      have e3 : (m1.1 == m1.1) = true := by simp
      have e4 : (m1.2 == m1.2) = true := by simp
      have e5 : (o1 == o1) = true := by simp
      have e6 : (o2 == o2) = true := by simp
      clear kG hkg n0 n1 HM1 hall
      go_wp2_with fail
      refine (impl_CompareExcesses HY.out HZ.out HLY.out HLZ.out).mono ?_
      rintro e wH ⟨rfl, kH⟩
      have KH := zH kH
      have hcz : (Py.cmpL ys zs == Py.cmpL ys zs) = true := by simp
      generalize hcc : Py.cmpL ys zs = cz at *
      have Hcc := zH hcc
      clear kH hcc
      go_wp2_with fail
      refine (spec_CompareExcesses (HY.out.up KH.out) (HZ.out.up KH.out) HLY.out HLZ.out).mono ?_
      rintro e wI ⟨rfl, kI⟩
      rw [Hcc.out]
      have HBI := zH (HBG.out.trans ((KH.out.trans (kI.mono KH.out.size)).mono HBG.out.size))
      clear kI
      go_wp2_with fail
      go_ret
      exact ⟨rfl, HBI.out⟩
theorem fnPayoffs.walk (a : Option Addr) (len cap : Nat) (zs : List Int) (w : World) (h : IntsAt .u8 w.heap.size w a len zs) :
  Calls Tryz.prog 3 #[.slice a len cap] w fun e w' => e = .returned (.bool true) ∧ Below w.heap.size w w' := fnPayoffs.walk0 a len cap w (code_of h)
end Go.Proofs.YtpidlmmpejoeaaaGreat
