/- The specification's l8Bent. -/
import Derived.Test.YtpidlmmpejoeaaaGreatGmDr
namespace Go.Proofs.YtpidlmmpejoeaaaGreat
open Go.RowKit
open Gm (G)
def DrewBent (p : Nat) (a : Option Addr) (len cap : Nat) (w : World) (e : Ending) (w' : World) : Prop :=
 ∃ (g : G) (v : Value), e = .returned (.agg #[.int .i64 g.n, v]) ∧ OwnInts w.heap.size w' v g.v ∧ -1 ≤ g.n ∧ g.n ≤ 6 ∧ (2 ≤ g.v.length ∧ g.v.length ≤ 33) ∧ Cur w' p a len cap ∧ Only p w w'
set_option maxRecDepth 100000 in
set_option maxHeartbeats 4000000 in
theorem spec_l8Bent (B p : Nat) (a : Option Addr) (len cap : Nat) (w : World) (hB : B ≤ p) (hcur : Cur w p a len cap) (hcode : CodeAt B w a len) :
  Calls Tryz.prog 64 #[.pointer (some ⟨p, 0, none⟩)] w (DrewBent p a len cap w) := by
 have hp := hcur.lt
 have Hc := zH hcode
 have HU0 := zH (hcur.alloc (.cells #[.int .i64 0, .slice none 0 0] 26))
 have HN0 := zH (CellsAt.new w #[.int .i64 0, .slice none 0 0] 26)
 have HO0 := zH ((Only.refl p w).alloc (by omega) (.cells #[.int .i64 0, .slice none 0 0] 26))
 have hs0 := size1 w (.cells #[.int .i64 0, .slice none 0 0] 26)
 have Hs0 := zH hs0
 clear hcur hcode hs0
 go_enter Tryz.func64, Tryz.ntmps64
 go_wp2_with fail
 refine (spec_l8Draw B p a len cap 4 (by decide) (by decide) _ hB HU0.out (Hc.out.below (HO0.out.below hB))).mono ?_
 rintro e w1 ⟨g, v, rfl, hx1, hn1, hn5, hxl, hc1, ho1⟩
 obtain ⟨gn, xs⟩ := g
 simp only at hx1 hn1 hn5 hxl ⊢
 have hlen : 2 ≤ xs.length ∧ xs.length ≤ 32 := by rw [hxl]; exact Gm.pow_bd ⟨hn1, hn5⟩
 have hsz1 : w.heap.size + 1 ≤ w1.heap.size := by have := ho1.low.size; rw [Hs0.out] at this; exact this
 have HX1 := zH (hx1.raise2 (show w.heap.size ≤ _ by rw [Hs0.out]; omega))
 have HU1 := zH hc1
 have HO1 := zH (HO0.out.trans ho1)
 have HN1 := zH (HN0.out.only ho1 (by omega))
 obtain ⟨av, cv, rfl, _, hab, hag⟩ := own_reads HX1.out
 obtain ⟨b, rfl⟩ := hag (by intro e; rw [e] at hlen; simp at hlen)
 have hbl := hab _ rfl
 simp only at hbl
 have HQ2 := zH (CellsAt.new w1 #[.int .i64 gn, .slice (some ⟨b, 0, none⟩) xs.length cv] 26)
 have HX2 := zH (HX1.out.alloc (.cells #[.int .i64 gn, .slice (some ⟨b, 0, none⟩) xs.length cv] 26))
 have HU2 := zH (HU1.out.alloc (.cells #[.int .i64 gn, .slice (some ⟨b, 0, none⟩) xs.length cv] 26))
 have HO2 := zH (HO1.out.alloc (by omega) (.cells #[.int .i64 gn, .slice (some ⟨b, 0, none⟩) xs.length cv] 26))
 have HN2 := zH (HN1.out.more (.cells #[.int .i64 gn, .slice (some ⟨b, 0, none⟩) xs.length cv] 26))
 obtain ⟨N, hN⟩ : ∃ N, xs.length = N := ⟨_, rfl⟩
 have HL := zH hN
 rw [hN] at HQ2 HX2 HU2 HO2 HN2 hlen ⊢
 clear hx1 hxl hc1 ho1 hab hag HX1 HU1 HO1 HN1 HU0 HO0 HN0 hN
 go_wp2_with fail
 refine (spec_l1Below B p a len cap 12 (by decide) (by decide) _ hB HU2.out (Hc.out.below (HO2.out.below hB))).mono ?_
 rintro e w4 ⟨x, rfl, hx0, hx11, hc1, ho1⟩
 have hqp : w1.heap.size ≠ p := by omega
 have HU4 := zH hc1
 have HO4 := zH (HO2.out.trans ho1)
 have HQ4 := zH (HQ2.out.only ho1 hqp)
 have HN4 := zH (HN2.out.only ho1 (by omega))
 have HX4 := zH (HX2.out.only ho1 hp)
 have hsz4 : w1.heap.size + 1 ≤ w4.heap.size := by have := ho1.low.size; rw [size1] at this; exact this
 have hbq : b ≠ w1.heap.size := by omega
 have HRI : Hid (RowI w.heap.size w4 (.slice (some ⟨b, 0, none⟩) N cv) N) := ⟨xs, HL.out, by have := HX4.out; rw [← HL.out] at this ⊢; exact this⟩
 obtain ⟨y0, y1, yf0, yf1⟩ := two' HQ4.out
 generalize hq : w1.heap.size = q at *
 clear hq hc1 ho1 HU2 HO2 HQ2 HN2 HX2 hsz1
 by_cases e0 : x = 0
 ·
  have d0 : (x == 0) = true := by rw [e0]; rfl
  obtain ⟨⟨xc, c3⟩, f3, _, _⟩ := HRI.out.spot (k := 0) (by omega)
  have HX5 := zH (HRI.out.set (k := 0) 1)
  obtain ⟨ys, hyl, hyr⟩ := HX5.out
  have HYr := zH hyr
  have HYl := zH hyl
  have HQ5 := zH (HQ4.out.other (p := ⟨b, 0, none⟩) hbq (.int .i64 1))
  have HN5 := zH (HN4.out.other (p := ⟨b, 0, none⟩) (show b ≠ w.heap.size from fun e => by have := own_away HX4.out HN4.out.ty (by decide); exact this (by rw [e]; rfl)) (.int .i64 1))
  have HU5 := zH (HU4.out.other (q := b) (k := 0) (by omega) (.int .i64 1))
  have HO5 := zH (HO4.out.setOwn (by omega) hbl.1 0 (.int .i64 1))
  clear e0 hyl hyr
  have hnp : 0 < N := by omega
  obtain ⟨r0, r1⟩ := two HQ5.out
  obtain ⟨d0, d1, f0, f1⟩ := two' HN5.out
  have HR := zH ((HN5.out.s0 (.int .i64 gn)).s1 (.slice (some ⟨b, 0, none⟩) N cv))
  have hne2 : ((.slice (some ⟨b, 0, none⟩) N cv) : Value).ownBlock ≠ some w.heap.size := own_away HYr.out HN5.out.ty (by decide)
  have HY := zH (owns_set (i := 1) (u := .slice (some ⟨b, 0, none⟩) N cv) (owns_set (i := 0) (u := .int .i64 gn) HYr.out hne2) hne2)
  have HCe := zH ((HU5.out.other (q := w.heap.size) (k := 0) (by omega) (.int .i64 gn)).other (q := w.heap.size) (k := 1) (by omega) (.slice (some ⟨b, 0, none⟩) N cv))
  have HOe := zH ((HO5.out.setOwn (by omega) (Nat.le_refl _) 0 (.int .i64 gn)).setOwn (by omega) (Nat.le_refl _) 1 (.slice (some ⟨b, 0, none⟩) N cv))
  clear hne2
  go_wp2_with fail
  refine bodyPost_ret (v := .agg #[.int .i64 gn, .slice (some ⟨b, 0, none⟩) N cv]) (by
   obtain ⟨z0, z1⟩ := two HR.out
   revert z0 z1
   generalize (((w4.setCell ⟨b, 0, none⟩ (.int .i64 1)).setCell ⟨w.heap.size, 0, none⟩ (.int .i64 gn)).setCell ⟨w.heap.size, 1, none⟩ (.slice (some ⟨b, 0, none⟩) N cv)) = W4
   intro z0 z1
   simp [results, Tryz.results64, go_sem, z0, z1]) rfl ⟨⟨gn, ys⟩, _, rfl, HY.out, by simp only; omega, by simp only; omega, by simp only; rw [HYl.out]; omega, HCe.out, HOe.out⟩
 ·
  have d0 : (x == 0) = false := by simpa using e0
  by_cases e1 : x = 1
  ·
   have d1 : (x == 1) = true := by rw [e1]; rfl
   clear e0 e1
   go_wp2_with fail
   refine (pick_in B p a len cap 4 [0, 6, 2, (-1)] #[.int .i64 0, .int .i64 6, .int .i64 2, .int .i64 (-1)] rfl 4 rfl (by decide) (by decide) w4 hB HU4.out (Hc.out.below (HO4.out.below hB)) _ rfl).mono ?_
   rintro e w5 ⟨n, rfl, hn, hc5, ho5⟩
   have hn6 : -1 ≤ n ∧ n ≤ 6 := by simp at hn; omega
   have hs5 := ho5.low.size
   have HU5 := zH (hc5.other (q := q) (k := 0) hqp (.int .i64 n))
   have HO5 := zH ((HO4.out.trans ho5).setOwn (by omega) (show w.heap.size ≤ q by omega) 0 (.int .i64 n))
   have HQ5 := zH (HQ4.out.only ho5 hqp)
   have HQ6 := zH (HQ5.out.s0 (.int .i64 n))
   have HN5 := zH ((HN4.out.only ho5 (by omega)).other (p := ⟨q, 0, none⟩) (show q ≠ w.heap.size by omega) (.int .i64 n))
   have HX5 := zH (owns_set (i := 0) (u := .int .i64 n) (HX4.out.only ho5 hp) (own_away (HX4.out.only ho5 hp) HQ5.out.ty (by decide)))
   obtain ⟨v0, v1, vf0, vf1⟩ := two' HQ5.out
   clear hn hc5 ho5 y0 y1 yf0 yf1
   obtain ⟨r0, r1⟩ := two HQ6.out
   obtain ⟨d0, d1, f0, f1⟩ := two' HN5.out
   have HR := zH ((HN5.out.s0 (.int .i64 n)).s1 (.slice (some ⟨b, 0, none⟩) N cv))
   have hne2 : ((.slice (some ⟨b, 0, none⟩) N cv) : Value).ownBlock ≠ some w.heap.size := own_away HX5.out HN5.out.ty (by decide)
   have HY := zH (owns_set (i := 1) (u := .slice (some ⟨b, 0, none⟩) N cv) (owns_set (i := 0) (u := .int .i64 n) HX5.out hne2) hne2)
   have HCe := zH ((HU5.out.other (q := w.heap.size) (k := 0) (by omega) (.int .i64 n)).other (q := w.heap.size) (k := 1) (by omega) (.slice (some ⟨b, 0, none⟩) N cv))
   have HOe := zH ((HO5.out.setOwn (by omega) (Nat.le_refl _) 0 (.int .i64 n)).setOwn (by omega) (Nat.le_refl _) 1 (.slice (some ⟨b, 0, none⟩) N cv))
   clear hne2
   go_wp2_with fail
   refine bodyPost_ret (v := .agg #[.int .i64 n, .slice (some ⟨b, 0, none⟩) N cv]) (by
    obtain ⟨z0, z1⟩ := two HR.out
    revert z0 z1
    generalize (((w5.setCell ⟨q, 0, none⟩ (.int .i64 n)).setCell ⟨w.heap.size, 0, none⟩ (.int .i64 n)).setCell ⟨w.heap.size, 1, none⟩ (.slice (some ⟨b, 0, none⟩) N cv)) = W4
    intro z0 z1
    simp [results, Tryz.results64, go_sem, z0, z1]) rfl ⟨⟨n, xs⟩, _, rfl, HY.out, by simp only; omega, by simp only; omega, by simp only; rw [HL.out]; omega, HCe.out, HOe.out⟩
  ·
   have d1 : (x == 1) = false := by simpa using e1
   by_cases e2 : x = 2
   ·
    have d2 : (x == 2) = true := by rw [e2]; rfl
    clear e0 e1 e2
    obtain ⟨i0, hi, hz0, hz1, hz2⟩ := info_parts info_int
    have HI := zH hi
    have HZ0 := zH hz0
    have HZ1 := zH hz1
    have HZ2 := zH hz2
    have Hown := zH (World.ownsRow.alloc HX4.out (.cells #[.int .i64 1] 3))
    rw [HL.out] at Hown
    clear hi hz0 hz1 hz2
    go_wp2_with (at_builtin; refine wpList_append_own _ rfl _ _ 24 rfl w.heap.size 3 i0 (.int .i64 0) 1 8 Tryz.underlying24 HI.out HZ0.out HZ1.out HZ2.out rfl (by decide) _ _ _ rfl Hown.out ⟨w4.heap.size, 0, none⟩ 1 1 [.int .i64 1] rfl rfl ?c1 ?c2 ?c3 ?c4 ?c5 ?_)
    case c1 =>
     intro j u hj
     match j, hj with
     | 0, hj => simp at hj; subst hj; simp [Addr.add]
    case c2 => intro u hu; simp at hu; subst hu; rfl
    case c3 => unfold maxLen; omega
    case c4 => omega
    case c5 => simp; omega
    intro v' w5 hown' hgrow _
    have ho' : OwnInts w.heap.size w5 v' (xs ++ [1]) := OwnInts.more (by rw [HL.out]; exact hown')
    obtain ⟨av, c5, rfl⟩ := ints_shape ho'
    have hl' : (xs ++ [(1 : Int)]).length = N + 1 := by rw [List.length_append, HL.out]; rfl
    have HYl := zH hl'
    have hbg : ∀ g, (Value.slice (some ⟨b, 0, none⟩) N cv).ownBlock = some g → w.heap.size ≤ g := fun g hg => (World.ownsRow.lt HX4.out g hg).1
    have hbe : ∀ g, (Value.slice (some ⟨b, 0, none⟩) N cv).ownBlock = some g → g = b := fun g hg => by simpa [Value.ownBlock] using hg.symm
    have HO5 := zH ((HO4.out.alloc (by omega) (.cells #[.int .i64 1] 3)).grown (by omega) hgrow hbg)
    have hqe : (Value.slice (some ⟨b, 0, none⟩) N cv).ownBlock ≠ some q := fun e => hbq (hbe _ e).symm
    have hpe : (Value.slice (some ⟨b, 0, none⟩) N cv).ownBlock ≠ some p := fun e => by have := hbg _ e; omega
    have hwe : (Value.slice (some ⟨b, 0, none⟩) N cv).ownBlock ≠ some w.heap.size := own_away HX4.out HN4.out.ty (by decide)
    have HQ5 : Hid (CellsAt w5 q #[.int .i64 gn, .slice (some ⟨b, 0, none⟩) N cv] 26) := (hgrow.block q (by rw [size1]; omega) (fun e => hqe e.symm)).trans (HQ4.out.more _)
    have HN5 : Hid (CellsAt w5 w.heap.size #[.int .i64 0, .slice none 0 0] 26) := (hgrow.block w.heap.size (by rw [size1]; omega) (fun e => hwe e.symm)).trans (HN4.out.more _)
    have HU5 := zH ((HU4.out.alloc (.cells #[.int .i64 1] 3)).grown hgrow hpe)
    rw [hl'] at ho' ⊢
    have HQ6 := zH (HQ5.out.s1 (.slice av (N + 1) c5))
    have HN6 := zH (HN5.out.other (p := ⟨q, 1, none⟩) (show q ≠ w.heap.size by omega) (.slice av (N + 1) c5))
    have HX6 := zH (owns_set (i := 1) (u := .slice av (N + 1) c5) ho' (own_away ho' HQ5.out.ty (by decide)))
    have HU6 := zH (HU5.out.other (q := q) (k := 1) hqp (.slice av (N + 1) c5))
    have HO6 := zH (HO5.out.setOwn (by omega) (show w.heap.size ≤ q by omega) 1 (.slice av (N + 1) c5))
    obtain ⟨v0, v1, vf0, vf1⟩ := two' HQ5.out
    clear hown' hgrow ho' hl' hbg hbe hqe hpe hwe y0 y1 yf0 yf1
    obtain ⟨r0, r1⟩ := two HQ6.out
    obtain ⟨d0, d1, f0, f1⟩ := two' HN6.out
    have HR := zH ((HN6.out.s0 (.int .i64 gn)).s1 (.slice av (N + 1) c5))
    have hne2 : ((.slice av (N + 1) c5) : Value).ownBlock ≠ some w.heap.size := own_away HX6.out HN6.out.ty (by decide)
    have HY := zH (owns_set (i := 1) (u := .slice av (N + 1) c5) (owns_set (i := 0) (u := .int .i64 gn) HX6.out hne2) hne2)
    have HCe := zH ((HU6.out.other (q := w.heap.size) (k := 0) (by omega) (.int .i64 gn)).other (q := w.heap.size) (k := 1) (by omega) (.slice av (N + 1) c5))
    have HOe := zH ((HO6.out.setOwn (by omega) (Nat.le_refl _) 0 (.int .i64 gn)).setOwn (by omega) (Nat.le_refl _) 1 (.slice av (N + 1) c5))
    clear hne2
    go_wp2_with fail
    refine bodyPost_ret (v := .agg #[.int .i64 gn, .slice av (N + 1) c5]) (by
     obtain ⟨z0, z1⟩ := two HR.out
     revert z0 z1
     generalize (((w5.setCell ⟨q, 1, none⟩ (.slice av (N + 1) c5)).setCell ⟨w.heap.size, 0, none⟩ (.int .i64 gn)).setCell ⟨w.heap.size, 1, none⟩ (.slice av (N + 1) c5)) = W4
     intro z0 z1
     simp [results, Tryz.results64, go_sem, z0, z1]) rfl ⟨⟨gn, xs ++ [1]⟩, _, rfl, HY.out, by simp only; omega, by simp only; omega, by simp only; rw [HYl.out]; omega, HCe.out, HOe.out⟩
   ·
    have d2 : (x == 2) = false := by simpa using e2
    by_cases e3 : x = 3
    ·
     have d3 : (x == 3) = true := by rw [e3]; rfl
     clear e0 e1 e2 e3
     obtain ⟨M, rfl⟩ : ∃ M, N = M + 1 := ⟨N - 1, by omega⟩
     have hM : M < M + 1 := Nat.lt_succ_self M
     have Cell := zH (fun w' (h : Only p w4 w') => (show w'.cell? ⟨q, 1, none⟩ = some (.slice (some ⟨b, 0, none⟩) (M + 1) cv) ∧ Only p w4 w' from ⟨h.cell (a := ⟨q, 1, none⟩) hqp y1, h⟩))
     have ho0 : Only p w4 w4.drew := (Only.refl p w4).drew
     have hi1 : (M : Int) < (M : Int) + 1 := by omega
     have hs1 : IntKind.i64.wrap (M : Int) = (M : Int) := IntWalk.i64_in _ (by omega)
     go_upto_region 10 with fail
     refine wp_region_T_drew (S := (fun w' => w'.cell? ⟨q, 1, none⟩ = some (.slice (some ⟨b, 0, none⟩) (M + 1) cv) ∧ Only p w4 w')) 10 (by kernel_rfl) ?_ (fun hHeld => ?_)
     ·
      exact Cell.out _ ho0
     refine tk2 0 ⟨some 28, .fieldAddr 26 (.tmp 3) 1, 0, "l08_game.go:139", #[], none⟩ ?_
     refine tk2 1 ⟨some 29, .load 24 (.tmp 28), 24, "l08_game.go:139", #[⟨0, .data⟩], none⟩ ?_
     refine tk2 2 ⟨some 30, .fieldAddr 26 (.tmp 3) 1, 0, "l08_game.go:139", #[], none⟩ ?_
     refine tk2 3 ⟨some 31, .load 24 (.tmp 30), 24, "l08_game.go:139", #[⟨2, .data⟩], none⟩ ?_
     refine tk2 4 ⟨some 32, .call { callee := .builtin Builtin.len, args := #[.tmp 31], argTypes := #[24] }, 3, "l08_game.go:139", #[⟨3, .data⟩], none⟩ ?_
     refine tk2 5 ⟨some 33, .binOp .sub 3 (.tmp 32) (.const (Value.int IntKind.i64 1)) 3, 3, "l08_game.go:139", #[⟨4, .data⟩], none⟩ ?_
     refine tk2 6 ⟨some 34, .move (.tmp 0), 63, "l08_game.go:139", #[], none⟩ ?_
     try simp only [Act.put, zA, zB, zC]
     refine rd2 7 ⟨some 35, .buildSlice 24 3 #[(0, .const (Value.int IntKind.i64 500)), (1, .const (Value.int IntKind.i64 501)), (2, .const (Value.int IntKind.i64 (-501)))], 24, "l08_game.go:139", #[], none⟩ fun K hK => ?_
     go_simp
     refine hK.out _ _ ?_ (fun hHeld => ?_)
     ·
      exact Cell.out _ (ho0.alloc (by omega) _)
     clear hK K
     try simp only [Act.put, zA, zB, zC]
     refine rd2 8 ⟨some 36, .call { callee := .value (.func 74), args := #[.tmp 34, .tmp 35], argTypes := #[63, 24] }, 3, "l08_game.go:139", #[⟨6, .data⟩, ⟨7, .data⟩], none⟩ fun K hK => ?_
     go_simp
     (go_at_call 74; refine (pick_in B p a len cap 3 [500, 501, (-501)] #[.int .i64 500, .int .i64 501, .int .i64 (-501)] rfl 3 rfl (by decide) (by decide) w4.drew hB HU4.out.drew0 (Hc.out.below (HO4.out.drew.below hB)) _ rfl).mono ?_; rintro e w5 ⟨xb, rfl, _, hc2, ho2⟩; have ho3 := ho0.trans ho2)
     refine hK.out _ _ ?_ (fun hHeld => ?_)
     ·
      exact Cell.out _ ho3
     clear hK K
     refine tk2 9 ⟨some 37, .indexAddr 24 (.tmp 29) (.tmp 33), 0, "l08_game.go:139", #[⟨1, .data⟩, ⟨5, .data⟩, ⟨0, .phase⟩, ⟨1, .phase⟩, ⟨2, .phase⟩, ⟨3, .phase⟩, ⟨4, .phase⟩, ⟨5, .phase⟩, ⟨6, .phase⟩, ⟨7, .phase⟩, ⟨8, .phase⟩], none⟩ ?_
     try simp only [Act.put, zA, zB, zC]
     have hR5 := HRI.out.only ho3 hp
     obtain ⟨⟨xc, c3⟩, f3, hbB, hb5⟩ := hR5.spot hM
     refine rd3 10 ⟨none, .store 3 (.tmp 37) (.tmp 36), 0, "l08_game.go:139", #[⟨9, .data⟩, ⟨8, .data⟩, ⟨8, .chain⟩, ⟨0, .phase⟩, ⟨1, .phase⟩, ⟨2, .phase⟩, ⟨3, .phase⟩, ⟨4, .phase⟩, ⟨5, .phase⟩, ⟨6, .phase⟩, ⟨7, .phase⟩, ⟨8, .phase⟩], none⟩ fun K hK => ?_
     go_simp
     refine hK.out _ _ ?_
     clear hK K
     refine wpAnyT_done (by kernel_rfl) ?_ _
     obtain ⟨ys, hyl, hyr⟩ := hR5.set (k := M) xb
     have HYr := zH hyr
     have HYl := zH hyl
     have HQ5 := zH ((HQ4.out.only ho3 hqp).other (p := ⟨b, M, none⟩) hbq (.int .i64 xb))
     have HN5 := zH ((HN4.out.only ho3 (by omega)).other (p := ⟨b, M, none⟩) (show b ≠ w.heap.size from fun e => by have := own_away HX4.out HN4.out.ty (by decide); exact this (by rw [e]; rfl)) (.int .i64 xb))
     have HU5 := zH (hc2.other (q := b) (k := M) (by omega) (.int .i64 xb))
     have HO5 := zH ((HO4.out.trans ho3).setOwn (by omega) hbl.1 M (.int .i64 xb))
     clear hyl hyr c3 f3 hc2 ho2 ho3 ho0 Cell hR5 y0 y1 yf0 yf1 hs1
     obtain ⟨r0, r1⟩ := two HQ5.out
     obtain ⟨d0, d1, f0, f1⟩ := two' HN5.out
     have HR := zH ((HN5.out.s0 (.int .i64 gn)).s1 (.slice (some ⟨b, 0, none⟩) (M + 1) cv))
     have hne2 : ((.slice (some ⟨b, 0, none⟩) (M + 1) cv) : Value).ownBlock ≠ some w.heap.size := own_away HYr.out HN5.out.ty (by decide)
     have HY := zH (owns_set (i := 1) (u := .slice (some ⟨b, 0, none⟩) (M + 1) cv) (owns_set (i := 0) (u := .int .i64 gn) HYr.out hne2) hne2)
     have HCe := zH ((HU5.out.other (q := w.heap.size) (k := 0) (by omega) (.int .i64 gn)).other (q := w.heap.size) (k := 1) (by omega) (.slice (some ⟨b, 0, none⟩) (M + 1) cv))
     have HOe := zH ((HO5.out.setOwn (by omega) (Nat.le_refl _) 0 (.int .i64 gn)).setOwn (by omega) (Nat.le_refl _) 1 (.slice (some ⟨b, 0, none⟩) (M + 1) cv))
     clear hne2
     go_wp2_with fail
     refine bodyPost_ret (v := .agg #[.int .i64 gn, .slice (some ⟨b, 0, none⟩) (M + 1) cv]) (by
      obtain ⟨z0, z1⟩ := two HR.out
      revert z0 z1
      generalize (((w5.setCell ⟨b, M, none⟩ (.int .i64 xb)).setCell ⟨w.heap.size, 0, none⟩ (.int .i64 gn)).setCell ⟨w.heap.size, 1, none⟩ (.slice (some ⟨b, 0, none⟩) (M + 1) cv)) = W4
      intro z0 z1
      simp [results, Tryz.results64, go_sem, z0, z1]) rfl ⟨⟨gn, ys⟩, _, rfl, HY.out, by simp only; omega, by simp only; omega, by simp only; rw [HYl.out]; omega, HCe.out, HOe.out⟩
    ·
     have d3 : (x == 3) = false := by simpa using e3
     clear e0 e1 e2 e3
     obtain ⟨r0, r1⟩ := two HQ4.out
     obtain ⟨d0, d1, f0, f1⟩ := two' HN4.out
     have HR := zH ((HN4.out.s0 (.int .i64 gn)).s1 (.slice (some ⟨b, 0, none⟩) N cv))
     have hne2 : ((.slice (some ⟨b, 0, none⟩) N cv) : Value).ownBlock ≠ some w.heap.size := own_away HX4.out HN4.out.ty (by decide)
     have HY := zH (owns_set (i := 1) (u := .slice (some ⟨b, 0, none⟩) N cv) (owns_set (i := 0) (u := .int .i64 gn) HX4.out hne2) hne2)
     have HCe := zH ((HU4.out.other (q := w.heap.size) (k := 0) (by omega) (.int .i64 gn)).other (q := w.heap.size) (k := 1) (by omega) (.slice (some ⟨b, 0, none⟩) N cv))
     have HOe := zH ((HO4.out.setOwn (by omega) (Nat.le_refl _) 0 (.int .i64 gn)).setOwn (by omega) (Nat.le_refl _) 1 (.slice (some ⟨b, 0, none⟩) N cv))
     clear hne2
     go_wp2_with fail
     refine bodyPost_ret (v := .agg #[.int .i64 gn, .slice (some ⟨b, 0, none⟩) N cv]) (by
      obtain ⟨z0, z1⟩ := two HR.out
      revert z0 z1
      generalize ((w4.setCell ⟨w.heap.size, 0, none⟩ (.int .i64 gn)).setCell ⟨w.heap.size, 1, none⟩ (.slice (some ⟨b, 0, none⟩) N cv)) = W4
      intro z0 z1
      simp [results, Tryz.results64, go_sem, z0, z1]) rfl ⟨⟨gn, xs⟩, _, rfl, HY.out, by simp only; omega, by simp only; omega, by simp only; rw [HL.out]; omega, HCe.out, HOe.out⟩
end Go.Proofs.YtpidlmmpejoeaaaGreat
