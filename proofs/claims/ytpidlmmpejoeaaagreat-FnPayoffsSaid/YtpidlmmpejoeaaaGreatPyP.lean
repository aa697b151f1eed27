/- The specification's ExcessVector. -/
import Derived.Test.YtpidlmmpejoeaaaGreatPyE
import Derived.Test.YtpidlmmpejoeaaaGreatPyC2
import Derived.Test.YtpidlmmpejoeaaaGreatApR
namespace Go.Proofs.YtpidlmmpejoeaaaGreat
open Go.RowKit
open Ve (R)
open Gm (G)
theorem own_headR {B n c : Nat} {w : World} {a : Option Addr} {xs : List R} (h : OwnRats B w (.slice a xs.length c) xs) (_hn : n ≤ xs.length) : RatsIn w.heap.size w a (xs.take n) := by
 obtain ⟨a', c', e, hr, _, _⟩ := own_rats h
 injection e with e1 e2 e3
 subst e1
 intro j x hj
 rw [List.getElem?_take] at hj
 split at hj
 ·
  exact hr j x hj
 ·
  cases hj
theorem own_tailR {B n g c : Nat} {w : World} {xs : List R} (h : OwnRats B w (.slice (some ⟨g, 0, none⟩) xs.length c) xs) (_hn : n ≤ xs.length) : RatsIn w.heap.size w (some ⟨g, n * 2, none⟩) (xs.drop n) := by
 obtain ⟨a', c', e, hr, _, _⟩ := own_rats h
 injection e with e1 e2 e3
 subst e1
 intro j x hj
 rw [List.getElem?_drop] at hj
 obtain ⟨b, o, e, hb, c0, c1⟩ := hr (n + j) x hj
 simp only [Option.some.injEq, Addr.mk.injEq, and_true] at e
 obtain ⟨rfl, rfl⟩ := e
 refine ⟨g, n * 2, rfl, hb, ?_, ?_⟩
 ·
  rw [show n * 2 + j * 2 = 0 + (n + j) * 2 by omega]; exact c0
 ·
  rw [show n * 2 + j * 2 + 1 = 0 + (n + j) * 2 + 1 by omega]; exact c1
theorem own_shp {B : Nat} {w : World} {v : Value} {xs : List R} (h : OwnRats B w v xs) : ∃ (a : Option Addr) (c : Nat), v = .slice a xs.length c := by
 obtain ⟨a, c, e, _⟩ := own_rats h
 exact ⟨a, c, e⟩
theorem own_cap {B n c : Nat} {w : World} {a : Option Addr} {xs : List R} (h : OwnRats B w (.slice a n c) xs) : n ≤ c := by
 obtain ⟨_, ⟨e, h0⟩ | ⟨g, cap, cur, e, _, _, hc, _, _, _⟩⟩ := h
 ·
  injection e with e1 e2 e3; omega
 ·
  injection e with e1 e2 e3; omega
set_option maxRecDepth 100000 in
set_option maxHeartbeats 8000000 in
theorem spec_ExcessVector {w : World} {x y v : Value} {g : G} {xs : List R} (h : GmC w x y g) (hv : InRats w v xs) (hf : GmOk g) (hx : xs.length ≤ 1048576) :
  Calls Tryz.prog 13 #[.agg #[x, y], v] w (MakesRats (Py.vec g xs) w) := by
 obtain ⟨gn, gv⟩ := g
 obtain ⟨a, c, rfl, rfl, hi⟩ := h
 obtain ⟨W, hW⟩ : ∃ W, W = w.alloc (.cells #[.int .i64 gn, .slice a gv.length c] 26) := ⟨_, rfl⟩
 have hb := (Below.refl w.heap.size w).alloc (Nat.le_refl _) (.cells #[.int .i64 gn, .slice a gv.length c] 26)
 rw [← hW] at hb
 have HX := zH (show GmC W (.int .i64 gn) (.slice a gv.length c) ⟨gn, gv⟩ from GmC.up ⟨a, c, rfl, rfl, hi⟩ hb)
 have HV := zH (hv.up hb)
 have hlv : gv.length ≤ 1048576 := hf.1
 have HW := zH hW
 have HB := zH hb
 have HF := zH hf
 have hlo := hb.size
 have hll := Py.lst_len ⟨gn, gv⟩ xs
 obtain ⟨Z, hZ⟩ : ∃ Z, Py.vec ⟨gn, gv⟩ xs = Z := ⟨_, rfl⟩
 rw [hZ]
 have HZ := zH hZ
 obtain ⟨i0, hii, hz0, hz1, hz2⟩ := info_parts info_rat
 have HI := zH hii
 have HZ0 := zH hz0
 have HZ1 := zH hz1
 have HZ2 := zH hz2
 clear hW hb hv hi hf hZ hii hz0 hz1 hz2
 go_enter Tryz.func13, Tryz.ntmps13
 go_wp2_with fail
 rw [← HW.out]
 refine (spec_l11All HX.out HV.out HF.out hx).mono ?_
 rintro e w1 ⟨u, rfl, ho, hb1⟩
 obtain ⟨l, hl⟩ : ∃ l, Py.lst ⟨gn, gv⟩ xs = l := ⟨_, rfl⟩
 rw [hl] at ho hll
 have HZl : Hid (Py.srt l l.length = Z) := by show _ = _; rw [← HZ.out, ← hl]; rfl
 obtain ⟨al, cl, rfl, hal, _, _⟩ := own_rats ho
 have HA := zH hal
 have HB1 := zH (HB.out.trans (hb1.mono hlo))
 have HO0 := zH (made_nil w1.heap.size w1 (Nat.le_refl _))
 have HBe := zH ((Below.refl w1.heap.size w1).alloc (Nat.le_refl _) (.cells #[] 32))
 clear hl ho hb1 hal HX HV HF HZ
 go_wp2_with fail
 go_loopw [7, 8] (fun v i wr => ∃ (k gb cb : Nat), k ≤ l.length ∧ i = .int .i64 k ∧ v = .slice (some ⟨gb, 0, none⟩) k cb ∧ Hid (OwnRats w1.heap.size wr (.slice (some ⟨gb, 0, none⟩) k cb) (Py.srt l k)) ∧ Hid (Below w1.heap.size w1 wr)) (fun _ i _ => l.length - (intOf i).toNat)
 case atStart => exact ⟨0, w1.heap.size, 0, Nat.zero_le _, rfl, rfl, HO0, HBe⟩
 case round =>
  clear HO0 HBe
  obtain ⟨k, gb, cb, hk, rfl, rfl, hO, hB⟩ := hrel
  have hml := Py.srt_len l k
  have hsz := hB.out.size
  by_cases hlt : k < l.length
  ·
   have hrn : Py.srt l (k + 1) = Py.ins (Py.srt l k) (Ve.at_ l k) := rfl
   have Hrn := zH hrn
   have hcap := own_cap hO.out
   clear hrn
   obtain ⟨bl, ol, rfl, lbl, q0, q1⟩ := (HA.out.below hB.out).at k hlt
   have n1 : (k : Int) < (l.length : Int) := by omega
   generalize Py.srt l k = m at *
   have Hml := zH hml
   have hO' : Hid (OwnRats w1.heap.size wr (.slice (some ⟨gb, 0, none⟩) m.length cb) m) := by show OwnRats _ _ _ _; rw [hml]; exact hO.out
   obtain ⟨S, hS⟩ : ∃ S, Py.spot m (Ve.at_ l k) m.length = S := ⟨_, rfl⟩
   have hSk : S ≤ k := by rw [← hS, ← hml]; exact Py.spot_le _ _ _
   have HSp : Hid (Py.spot m (Ve.at_ l k) k = S) := by show _ = _; rw [← hS, hml]
   have Hins : Hid (Py.ins m (Ve.at_ l k) = m.take S ++ [Ve.at_ l k] ++ m.drop S) := by show _ = _; unfold Py.ins; rw [hS]
   have Hq := zH (And.intro q0 q1)
   clear hml hS hO q0 q1
   generalize Ve.at_ l k = xx at *
   obtain ⟨V, rfl⟩ : ∃ q : World, q = wr := ⟨_, rfl⟩
   have HBV := zH hB.out
   have HSzV := zH hsz
   clear hB hsz
   go_wp2_with fail
   go_loopw [9] (fun i wx => ∃ j : Nat, j ≤ k ∧ i = .int .i64 j ∧ Hid (Py.spot m xx j = S) ∧ Hid (Below V.heap.size V wx)) (fun i _ => (intOf i).toNat)
   case atStart => exact ⟨k, Nat.le_refl _, rfl, HSp, Below.refl _ _⟩
   case round =>
    clear HSp
    obtain ⟨j, hj, rfl, hE, hB2⟩ := hrel
    have hsz2 := hB2.out.size
    by_cases h0 : j = 0
    ·
     have hSj : S = j := by rw [← hE.out, h0]; rfl
     subst hSj
     have n0 : ¬ (0 : Int) < (S : Int) := by omega
     have n01 : decide ((0 : Int) < (S : Int)) = false := decide_eq_false n0
     have n02 : ¬ 0 < S := by omega
     clear hE h0
     go_upto_region 7 with (fail)
     refine wp_region_held_drew (S := fun w' => Since V w') (by kernel_rfl) ?_ (fun hHeld => ?_)
     ·
      exact ⟨hB2.out.drew⟩
     refine tk1 0 ⟨some 26, .move (.tmp 9), 3, "l11_payoff.go:104", #[], none⟩ ?_
     refine tk1 1 ⟨some 27, .binOp .gtr 3 (.tmp 26) (.const (Value.int IntKind.i64 0)) 3, 4, "l11_payoff.go:104", #[⟨0, .data⟩], none⟩ ?_
     refine tk1 2 ⟨some 28, .move (.tmp 27), 4, "l11_payoff.go:104", #[⟨1, .data⟩], none⟩ ?_
     try simp only [Act.put, zA, zB, zC]
     refine tkHu (i := 3) (oi := ⟨some 29, .move (.tmp 7), 27, "l11_payoff.go:104", #[⟨2, .guard⟩], some (2, true)⟩) rfl (by assumption) ?_
     try simp only [Act.put, zA, zB, zC]
     refine tkHu (i := 4) (oi := ⟨some 30, .move (.tmp 9), 3, "l11_payoff.go:104", #[⟨2, .guard⟩], some (2, true)⟩) rfl (by assumption) ?_
     try simp only [Act.put, zA, zB, zC]
     refine tkHu (i := 5) (oi := ⟨some 31, .binOp .sub 3 (.tmp 30) (.const (Value.int IntKind.i64 1)) 3, 3, "l11_payoff.go:104", #[⟨4, .data⟩, ⟨2, .guard⟩], some (2, true)⟩) rfl (by assumption) ?_
     try simp only [Act.put, zA, zB, zC]
     refine tkHu (i := 6) (oi := ⟨some 32, .indexAddr 27 (.tmp 29) (.tmp 31), 0, "l11_payoff.go:104", #[⟨3, .data⟩, ⟨5, .data⟩, ⟨2, .guard⟩], some (2, true)⟩) rfl (by assumption) ?_
     try simp only [Act.put, zA, zB, zC]
     refine tkHu (i := 7) (oi := ⟨some 33, .load 32 (.tmp 32), 32, "l11_payoff.go:104", #[⟨6, .data⟩, ⟨2, .guard⟩], some (2, true)⟩) rfl (by assumption) ?_
     try simp only [Act.put, zA, zB, zC]
     refine tkHu (i := 8) (oi := ⟨some 34, .move (.tmp 5), 27, "l11_payoff.go:104", #[⟨2, .guard⟩], some (2, true)⟩) rfl (by assumption) ?_
     try simp only [Act.put, zA, zB, zC]
     refine tkHu (i := 9) (oi := ⟨some 35, .move (.tmp 8), 3, "l11_payoff.go:104", #[⟨2, .guard⟩], some (2, true)⟩) rfl (by assumption) ?_
     try simp only [Act.put, zA, zB, zC]
     refine tkHu (i := 10) (oi := ⟨some 36, .indexAddr 27 (.tmp 34) (.tmp 35), 0, "l11_payoff.go:104", #[⟨8, .data⟩, ⟨9, .data⟩, ⟨2, .guard⟩], some (2, true)⟩) rfl (by assumption) ?_
     try simp only [Act.put, zA, zB, zC]
     refine tkHu (i := 11) (oi := ⟨some 37, .load 32 (.tmp 36), 32, "l11_payoff.go:104", #[⟨10, .data⟩, ⟨2, .guard⟩], some (2, true)⟩) rfl (by assumption) ?_
     try simp only [Act.put, zA, zB, zC]
     refine tkHu (i := 12) (oi := ⟨some 38, .call { callee := .value (.func 34), args := #[.tmp 33, .tmp 37], argTypes := #[32, 32] }, 3, "l11_payoff.go:104", #[⟨7, .data⟩, ⟨11, .data⟩, ⟨2, .chain⟩, ⟨2, .guard⟩], some (2, true)⟩) rfl (by assumption) ?_
     try simp only [Act.put, zA, zB, zC]
     refine tkHu (i := 13) (oi := ⟨some 39, .binOp .lss 3 (.tmp 38) (.const (Value.int IntKind.i64 0)) 3, 4, "l11_payoff.go:104", #[⟨12, .data⟩, ⟨2, .guard⟩], some (2, true)⟩) rfl (by assumption) ?_
     refine tk1 14 ⟨some 40, .pick (.tmp 28) (.tmp 39) (.const (Value.bool false)), 4, "l11_payoff.go:104", #[⟨2, .data⟩, ⟨13, .data⟩], none⟩ ?_
     try simp only [Act.put, zA, zB, zC]
     refine wpAnyH_done (by kernel_rfl) ?_ _
     obtain ⟨V2, hV2⟩ : ∃ V2, wr.drew = V2 := ⟨_, rfl⟩
     have HBc := zH hB2.out.drew
     rw [hV2] at HBc ⊢
     clear hV2 hB2 hsz2
     have hszc := HBc.out.size
     have hlo1 : w1.heap.size ≤ V2.heap.size := by have := HSzV.out; omega
     have hSm : S ≤ m.length := by have := Hml.out; omega
     have HOc := zH (hO'.out.below HBc.out)
     have HO1 := zH (made_nil V2.heap.size V2 (Nat.le_refl _))
     have Hhd := zH (own_headR (HOc.out.alloc (.cells #[] 32)) hSm)
     have n2 : (S : Int) ≤ (cb : Int) := by omega
     have n3 : (0 : Int) ≤ (S : Int) := by omega
     have n4 : S ≤ cb := by omega
     go_wp2_with (at_builtin; refine wpList_append_rats rfl _ _ rfl V2.heap.size _ [] rfl HO1.out (some ⟨gb, 0, none⟩) (m.take S) S cb (by rw [List.length_take]; omega) rfl _ Hhd.out (by rw [List.length_take]; simp; omega) (by rw [size1]; omega) ?_)
     intro u1 w3 hu1 hg1
     have hu1' : OwnRats V2.heap.size w3 u1 (m.take S) := hu1
     have HB3 := zH ((HBc.out.alloc hszc (.cells #[] 32)).grown hg1 (by rw [size1]; omega) (fun g hg => by simp [Value.ownBlock] at hg; omega))
     have hsz3 := HB3.out.size
     have hw3 : V2.heap.size ≤ w3.heap.size := by have := hg1.size; rw [size1] at this; omega
     have HOw := zH (show OwnRats V2.heap.size (w3.alloc (.cells #[.int .i64 xx.1, .int .i64 xx.2] 32)) u1 (m.take S) from World.ownsRow.alloc hu1' (.cells #[.int .i64 xx.1, .int .i64 xx.2] 32))
     have c0 := cell_after HB3.out (p := ⟨bl, ol + k * 2, none⟩) (show bl < V.heap.size by have := HSzV.out; omega) Hq.out.1
     have c1 := cell_after HB3.out (p := ⟨bl, ol + k * 2 + 1, none⟩) (show bl < V.heap.size by have := HSzV.out; omega) Hq.out.2
     have Hone := zH (one_rat w3 xx)
     have hk1 : ∀ g, u1.ownBlock = some g → V.heap.size ≤ g := fun g hg => Nat.le_trans hszc (World.ownsRow.lt hu1' g hg).1
     have HK1 := zH hk1
     clear hu1 hg1 hu1' hk1
     go_wp2_with (at_builtin; refine wpList_append_rats rfl _ _ rfl V2.heap.size _ (m.take S) rfl HOw.out (some ⟨w3.heap.size, 0, none⟩) [xx] 1 1 rfl rfl _ Hone.out (by rw [List.length_take]; simp; omega) (by rw [size1]; omega) ?_)
     intro u2 w4 hu2 hg2
     have HB4 := zH ((HB3.out.alloc hsz3 (.cells #[.int .i64 xx.1, .int .i64 xx.2] 32)).grown hg2 (by rw [size1]; omega) HK1.out)
     have hsz4 := HB4.out.size
     have hw4 : V2.heap.size ≤ w4.heap.size := by have := hg2.size; rw [size1] at this; omega
     have HO4 := zH (hO'.out.below HB4.out)
     have Htl := zH (own_tailR HO4.out hSm)
     have HU2 := zH hu2
     have hk2 : ∀ g, u2.ownBlock = some g → V.heap.size ≤ g := fun g hg => Nat.le_trans hszc (World.ownsRow.lt hu2 g hg).1
     have HK2 := zH hk2
     have hcb : (S : Int) ≤ (k : Int) := by omega
     clear hg2 hk2 c0 c1
     obtain ⟨a2, c2, rfl⟩ := own_shp hu2
     clear hu2
     have hl2 : (m.take S ++ [xx]).length = S + 1 := by rw [List.length_append, List.length_take]; simp; omega
     have hl3 : (m.take S ++ [xx]).length ≤ 40 := by rw [hl2]; omega
     have hl5 : (m.drop S).length = k - S := by rw [List.length_drop, Hml.out]
     have Hl6 := zH (show m.take S ++ [xx] ++ m.drop S = Py.srt l (k + 1) from (Hrn.out.trans Hins.out).symm)
     have Hl7 := zH (Py.srt_len l (k + 1))
     have Hlast := zH (fun (v3 : Value) (w5 : World) (hu3 : OwnRats V2.heap.size w5 v3 (m.take S ++ [xx] ++ m.drop S)) (hg3 : w4.grownBy w5 (Value.slice a2 (S + 1) c2).ownBlock) => (show ∃ (g3 c3 : Nat), v3 = .slice (some ⟨g3, 0, none⟩) (k + 1) c3 ∧ OwnRats w1.heap.size w5 (.slice (some ⟨g3, 0, none⟩) (k + 1) c3) (Py.srt l (k + 1)) ∧ Below w1.heap.size w1 w5 from by
      rw [Hl6.out] at hu3
      have hb5 := HB4.out.grown hg3 hsz4 (by rw [hl2] at HK2; exact HK2.out)
      have hlow := HBV.out.trans (hb5.mono HSzV.out)
      have hu4 := OwnRats.lower hu3 hlo1
      obtain ⟨a3, c3, e3, _, _, hne⟩ := own_rats hu3
      rw [Hl7.out] at e3
      obtain ⟨g3, rfl⟩ := hne (fun h => by have h8 := Hl7.out; rw [h] at h8; simp at h8)
      subst e3
      exact ⟨g3, c3, rfl, hu4, hlow⟩))
     rw [hl2] at HU2 ⊢
     clear hl2 HK2 HBc HB3 HB4 HO4 HOw Hone HK1 Hhd HO1 HOc hO' Hrn Hins Hq
     by_cases hcS : cb = S
     ·
      have hcs : (cb = S) = True := by simp [hcS]
      have hd0 : m.drop S = [] := List.eq_nil_of_length_eq_zero (by rw [hl5]; omega)
      have Hk0 := zH (show k - S = 0 by omega)
      rw [hd0] at Hlast
      clear hd0 hl5 Htl hcS
      go_wp2_with (at_builtin; refine wpList_append_rats rfl _ _ rfl V2.heap.size _ (m.take S ++ [xx]) rfl HU2.out (some ⟨gb, 0, none⟩) [] (k - S) (cb - S) Hk0.out rfl 0 (RatsIn.nil _ _ _) (by show (m.take S ++ [xx]).length + 0 ≤ 4000000; omega) hw4 ?_)
      intro v3 w5 hu3 hg3
      obtain ⟨g3, c3, rfl, ho3, hb3⟩ := Hlast.out v3 w5 (by simpa using hu3) hg3
      have HO9 := zH ho3
      have HB9 := zH hb3
      clear hu3 hg3 ho3 hb3 Hlast hcs Hk0
      go_wp2_with fail
      go_roundw
      case rel => exact ⟨k + 1, g3, c3, by omega, by go_num, rfl, HO9, HB9⟩
      case measure => simp [intOf]; omega
     ·
      have hcs : (cb = S) = False := by simp [hcS]
      go_wp2_with (at_builtin; refine wpList_append_rats rfl _ _ rfl V2.heap.size _ (m.take S ++ [xx]) rfl HU2.out (some ⟨gb, S * 2, none⟩) (m.drop S) (k - S) (cb - S) hl5.symm rfl _ Htl.out (by rw [hl5]; omega) hw4 ?_)
      intro v3 w5 hu3 hg3
      obtain ⟨g3, c3, rfl, ho3, hb3⟩ := Hlast.out v3 w5 (by simpa using hu3) hg3
      have HO9 := zH ho3
      have HB9 := zH hb3
      clear hu3 hg3 ho3 hb3 Hlast hcs hcS hl5 Htl
      go_wp2_with fail
      go_roundw
      case rel => exact ⟨k + 1, g3, c3, by omega, by go_num, rfl, HO9, HB9⟩
      case measure => simp [intOf]; omega
    ·
     obtain ⟨j1, hj1⟩ : ∃ i, j = i + 1 := ⟨j - 1, by omega⟩
     have hw : IntKind.i64.wrap ((j : Int) - 1) = (j1 : Int) := by rw [IntWalk.i64_in _ (by omega)]; omega
     have hw2 : IntKind.i64.wrap (j1 : Int) = (j1 : Int) := IntWalk.i64_in _ (by omega)
     have n0 : (0 : Int) < (j : Int) := by omega
     have n01 : decide ((0 : Int) < (j : Int)) = true := decide_eq_true n0
     have n02 : 0 < j := by omega
     have n03 : (j1 : Int) < (k : Int) := by omega
     have n04 : j1 < k := by omega
     have n05 : j1 ≤ k := by omega
     have n06 : j1 < j := by omega
     have Hj1 := zH hj1
     clear hj1
     have hOx := zH (hO'.out.below hB2.out)
     obtain ⟨am, cm, em, hrm, _, _⟩ := own_rats hOx.out
     obtain ⟨bm, om, eb, lbm, p0, p1⟩ := hrm.at j1 (by have := Hml.out; omega)
     injection em with em1 em2 em3
     subst em1
     simp only [Option.some.injEq, Addr.mk.injEq, and_true] at eb
     obtain ⟨eb1, eb2⟩ := eb
     subst eb1 eb2
     have c0 := cell_after hB2.out (p := ⟨bl, ol + k * 2, none⟩) (show bl < V.heap.size by have := HSzV.out; omega) Hq.out.1
     have c1 := cell_after hB2.out (p := ⟨bl, ol + k * 2 + 1, none⟩) (show bl < V.heap.size by have := HSzV.out; omega) Hq.out.2
     have HQ : Hid (Quad gb (0 + j1 * 2) bl (ol + k * 2) (Ve.at_ m j1) xx wr) := ⟨p0, p1, c0, c1, lbm, by have := HSzV.out; omega⟩
     have Hyes := zH (fun (h : decide (Py.cmp (Ve.at_ m j1) xx < 0) = true) => (show Py.spot m xx j1 = S by have := Py.spot_yes h; rw [← Hj1.out] at this; rw [← this]; exact hE.out))
     have Hno := zH (fun (h : decide (Py.cmp (Ve.at_ m j1) xx < 0) = false) => (show S = j by have := Py.spot_no h; rw [← Hj1.out] at this; rw [← this]; exact hE.out.symm))
     have Hc := zH (fun w => spec_cmpX (Ve.at_ m j1) xx w)
     clear em2 em3 hrm p0 p1 c0 c1 hOx hE
     generalize Ve.at_ m j1 = yy at *
     generalize Py.cmp yy xx = z at *
     simp only [Nat.zero_add] at HQ
     go_upto_region 7 with (fail)
     have hg0 := (Since.refl wr).drew
     refine wp_region_held_drew (S := fun w' => w'.cell? ⟨gb, j1 * 2, none⟩ = some (.int .i64 yy.1) ∧ w'.cell? ⟨gb, j1 * 2 + 1, none⟩ = some (.int .i64 yy.2) ∧ w'.cell? ⟨bl, ol + k * 2, none⟩ = some (.int .i64 xx.1) ∧ w'.cell? ⟨bl, ol + k * 2 + 1, none⟩ = some (.int .i64 xx.2) ∧ Since wr w') (by kernel_rfl) ?_ (fun hHeld => ?_)
     ·
      exact Quad.five HQ hg0
     refine tk1 0 ⟨some 26, .move (.tmp 9), 3, "l11_payoff.go:104", #[], none⟩ ?_
     refine tk1 1 ⟨some 27, .binOp .gtr 3 (.tmp 26) (.const (Value.int IntKind.i64 0)) 3, 4, "l11_payoff.go:104", #[⟨0, .data⟩], none⟩ ?_
     refine tk1 2 ⟨some 28, .move (.tmp 27), 4, "l11_payoff.go:104", #[⟨1, .data⟩], none⟩ ?_
     try simp only [Act.put, zA, zB, zC]
     refine tk1 3 ⟨some 29, .move (.tmp 7), 27, "l11_payoff.go:104", #[⟨2, .guard⟩], some (2, true)⟩ ?_
     try simp only [Act.put, zA, zB, zC]
     refine tk1 4 ⟨some 30, .move (.tmp 9), 3, "l11_payoff.go:104", #[⟨2, .guard⟩], some (2, true)⟩ ?_
     try simp only [Act.put, zA, zB, zC]
     refine tk1 5 ⟨some 31, .binOp .sub 3 (.tmp 30) (.const (Value.int IntKind.i64 1)) 3, 3, "l11_payoff.go:104", #[⟨4, .data⟩, ⟨2, .guard⟩], some (2, true)⟩ ?_
     try simp only [Act.put, zA, zB, zC]
     refine tk1 6 ⟨some 32, .indexAddr 27 (.tmp 29) (.tmp 31), 0, "l11_payoff.go:104", #[⟨3, .data⟩, ⟨5, .data⟩, ⟨2, .guard⟩], some (2, true)⟩ ?_
     try simp only [Act.put, zA, zB, zC]
     refine tk1 7 ⟨some 33, .load 32 (.tmp 32), 32, "l11_payoff.go:104", #[⟨6, .data⟩, ⟨2, .guard⟩], some (2, true)⟩ ?_
     try simp only [Act.put, zA, zB, zC]
     refine tk1 8 ⟨some 34, .move (.tmp 5), 27, "l11_payoff.go:104", #[⟨2, .guard⟩], some (2, true)⟩ ?_
     try simp only [Act.put, zA, zB, zC]
     refine tk1 9 ⟨some 35, .move (.tmp 8), 3, "l11_payoff.go:104", #[⟨2, .guard⟩], some (2, true)⟩ ?_
     try simp only [Act.put, zA, zB, zC]
     refine tk1 10 ⟨some 36, .indexAddr 27 (.tmp 34) (.tmp 35), 0, "l11_payoff.go:104", #[⟨8, .data⟩, ⟨9, .data⟩, ⟨2, .guard⟩], some (2, true)⟩ ?_
     try simp only [Act.put, zA, zB, zC]
     refine tk1 11 ⟨some 37, .load 32 (.tmp 36), 32, "l11_payoff.go:104", #[⟨10, .data⟩, ⟨2, .guard⟩], some (2, true)⟩ ?_
     try simp only [Act.put, zA, zB, zC]
     refine rd1 12 ⟨some 38, .call { callee := .value (.func 34), args := #[.tmp 33, .tmp 37], argTypes := #[32, 32] }, 3, "l11_payoff.go:104", #[⟨7, .data⟩, ⟨11, .data⟩, ⟨2, .chain⟩, ⟨2, .guard⟩], some (2, true)⟩ fun K hK => ?_
     go_simp
     (go_at_call 34; refine (Hc.out _).mono ?_; rintro e w6 ⟨rfl, hb6⟩; have hg6 := hg0.trans hb6)
     refine hK.out _ _ ?_ (fun hHeld => ?_)
     ·
      exact Quad.five HQ hg6
     clear hK K
     try simp only [Act.put, zA, zB, zC]
     refine tk1 13 ⟨some 39, .binOp .lss 3 (.tmp 38) (.const (Value.int IntKind.i64 0)) 3, 4, "l11_payoff.go:104", #[⟨12, .data⟩, ⟨2, .guard⟩], some (2, true)⟩ ?_
     refine tk1 14 ⟨some 40, .pick (.tmp 28) (.tmp 39) (.const (Value.bool false)), 4, "l11_payoff.go:104", #[⟨2, .data⟩, ⟨13, .data⟩], none⟩ ?_
     try simp only [Act.put, zA, zB, zC]
     refine wpAnyH_done (by kernel_rfl) ?_ _
     have HB6 := zH (hB2.out.trans (hg6.low.mono hsz2))
     clear hg0 hg6 hb6 HQ Hc hB2 hsz2
     rcases hd : decide (z < 0) with _ | _
     ·
      have hSj := Hno.out hd
      subst hSj
      have hd2 : ¬ z < 0 := of_decide_eq_false hd
      obtain ⟨V2, hV2⟩ : ∃ q : World, q = w6 := ⟨_, rfl⟩
      have HBc := zH HB6.out
      rw [← hV2] at HBc ⊢
      clear hV2 HB6 Hyes Hno h0 Hj1 hw hw2 n0 n01 n02 n03 n04 n05 n06 hd
      have hszc := HBc.out.size
      have hlo1 : w1.heap.size ≤ V2.heap.size := by have := HSzV.out; omega
      have hSm : S ≤ m.length := by have := Hml.out; omega
      have HOc := zH (hO'.out.below HBc.out)
      have HO1 := zH (made_nil V2.heap.size V2 (Nat.le_refl _))
      have Hhd := zH (own_headR (HOc.out.alloc (.cells #[] 32)) hSm)
      have n2 : (S : Int) ≤ (cb : Int) := by omega
      have n3 : (0 : Int) ≤ (S : Int) := by omega
      have n4 : S ≤ cb := by omega
      go_wp2_with (at_builtin; refine wpList_append_rats rfl _ _ rfl V2.heap.size _ [] rfl HO1.out (some ⟨gb, 0, none⟩) (m.take S) S cb (by rw [List.length_take]; omega) rfl _ Hhd.out (by rw [List.length_take]; simp; omega) (by rw [size1]; omega) ?_)
      intro u1 w3 hu1 hg1
      have hu1' : OwnRats V2.heap.size w3 u1 (m.take S) := hu1
      have HB3 := zH ((HBc.out.alloc hszc (.cells #[] 32)).grown hg1 (by rw [size1]; omega) (fun g hg => by simp [Value.ownBlock] at hg; omega))
      have hsz3 := HB3.out.size
      have hw3 : V2.heap.size ≤ w3.heap.size := by have := hg1.size; rw [size1] at this; omega
      have HOw := zH (show OwnRats V2.heap.size (w3.alloc (.cells #[.int .i64 xx.1, .int .i64 xx.2] 32)) u1 (m.take S) from World.ownsRow.alloc hu1' (.cells #[.int .i64 xx.1, .int .i64 xx.2] 32))
      have c0 := cell_after HB3.out (p := ⟨bl, ol + k * 2, none⟩) (show bl < V.heap.size by have := HSzV.out; omega) Hq.out.1
      have c1 := cell_after HB3.out (p := ⟨bl, ol + k * 2 + 1, none⟩) (show bl < V.heap.size by have := HSzV.out; omega) Hq.out.2
      have Hone := zH (one_rat w3 xx)
      have hk1 : ∀ g, u1.ownBlock = some g → V.heap.size ≤ g := fun g hg => Nat.le_trans hszc (World.ownsRow.lt hu1' g hg).1
      have HK1 := zH hk1
      clear hu1 hg1 hu1' hk1
      go_wp2_with (at_builtin; refine wpList_append_rats rfl _ _ rfl V2.heap.size _ (m.take S) rfl HOw.out (some ⟨w3.heap.size, 0, none⟩) [xx] 1 1 rfl rfl _ Hone.out (by rw [List.length_take]; simp; omega) (by rw [size1]; omega) ?_)
      intro u2 w4 hu2 hg2
      have HB4 := zH ((HB3.out.alloc hsz3 (.cells #[.int .i64 xx.1, .int .i64 xx.2] 32)).grown hg2 (by rw [size1]; omega) HK1.out)
      have hsz4 := HB4.out.size
      have hw4 : V2.heap.size ≤ w4.heap.size := by have := hg2.size; rw [size1] at this; omega
      have HO4 := zH (hO'.out.below HB4.out)
      have Htl := zH (own_tailR HO4.out hSm)
      have HU2 := zH hu2
      have hk2 : ∀ g, u2.ownBlock = some g → V.heap.size ≤ g := fun g hg => Nat.le_trans hszc (World.ownsRow.lt hu2 g hg).1
      have HK2 := zH hk2
      have hcb : (S : Int) ≤ (k : Int) := by omega
      clear hg2 hk2 c0 c1
      obtain ⟨a2, c2, rfl⟩ := own_shp hu2
      clear hu2
      have hl2 : (m.take S ++ [xx]).length = S + 1 := by rw [List.length_append, List.length_take]; simp; omega
      have hl3 : (m.take S ++ [xx]).length ≤ 40 := by rw [hl2]; omega
      have hl5 : (m.drop S).length = k - S := by rw [List.length_drop, Hml.out]
      have Hl6 := zH (show m.take S ++ [xx] ++ m.drop S = Py.srt l (k + 1) from (Hrn.out.trans Hins.out).symm)
      have Hl7 := zH (Py.srt_len l (k + 1))
      have Hlast := zH (fun (v3 : Value) (w5 : World) (hu3 : OwnRats V2.heap.size w5 v3 (m.take S ++ [xx] ++ m.drop S)) (hg3 : w4.grownBy w5 (Value.slice a2 (S + 1) c2).ownBlock) => (show ∃ (g3 c3 : Nat), v3 = .slice (some ⟨g3, 0, none⟩) (k + 1) c3 ∧ OwnRats w1.heap.size w5 (.slice (some ⟨g3, 0, none⟩) (k + 1) c3) (Py.srt l (k + 1)) ∧ Below w1.heap.size w1 w5 from by
       rw [Hl6.out] at hu3
       have hb5 := HB4.out.grown hg3 hsz4 (by rw [hl2] at HK2; exact HK2.out)
       have hlow := HBV.out.trans (hb5.mono HSzV.out)
       have hu4 := OwnRats.lower hu3 hlo1
       obtain ⟨a3, c3, e3, _, _, hne⟩ := own_rats hu3
       rw [Hl7.out] at e3
       obtain ⟨g3, rfl⟩ := hne (fun h => by have h8 := Hl7.out; rw [h] at h8; simp at h8)
       subst e3
       exact ⟨g3, c3, rfl, hu4, hlow⟩))
      rw [hl2] at HU2 ⊢
      clear hl2 HK2 HBc HB3 HB4 HO4 HOw Hone HK1 Hhd HO1 HOc hO' Hrn Hins Hq
      by_cases hcS : cb = S
      ·
       have hcs : (cb = S) = True := by simp [hcS]
       have hd0 : m.drop S = [] := List.eq_nil_of_length_eq_zero (by rw [hl5]; omega)
       have Hk0 := zH (show k - S = 0 by omega)
       rw [hd0] at Hlast
       clear hd0 hl5 Htl hcS
       go_wp2_with (at_builtin; refine wpList_append_rats rfl _ _ rfl V2.heap.size _ (m.take S ++ [xx]) rfl HU2.out (some ⟨gb, 0, none⟩) [] (k - S) (cb - S) Hk0.out rfl 0 (RatsIn.nil _ _ _) (by show (m.take S ++ [xx]).length + 0 ≤ 4000000; omega) hw4 ?_)
       intro v3 w5 hu3 hg3
       obtain ⟨g3, c3, rfl, ho3, hb3⟩ := Hlast.out v3 w5 (by simpa using hu3) hg3
       have HO9 := zH ho3
       have HB9 := zH hb3
       clear hu3 hg3 ho3 hb3 Hlast hcs Hk0
       go_wp2_with fail
       go_roundw
       case rel => exact ⟨k + 1, g3, c3, by omega, by go_num, rfl, HO9, HB9⟩
       case measure => simp [intOf]; omega
      ·
       have hcs : (cb = S) = False := by simp [hcS]
       go_wp2_with (at_builtin; refine wpList_append_rats rfl _ _ rfl V2.heap.size _ (m.take S ++ [xx]) rfl HU2.out (some ⟨gb, S * 2, none⟩) (m.drop S) (k - S) (cb - S) hl5.symm rfl _ Htl.out (by rw [hl5]; omega) hw4 ?_)
       intro v3 w5 hu3 hg3
       obtain ⟨g3, c3, rfl, ho3, hb3⟩ := Hlast.out v3 w5 (by simpa using hu3) hg3
       have HO9 := zH ho3
       have HB9 := zH hb3
       clear hu3 hg3 ho3 hb3 Hlast hcs hcS hl5 Htl
       go_wp2_with fail
       go_roundw
       case rel => exact ⟨k + 1, g3, c3, by omega, by go_num, rfl, HO9, HB9⟩
       case measure => simp [intOf]; omega
     ·
      have HE2 := zH (Hyes.out hd)
      have hd2 : z < 0 := of_decide_eq_true hd
      clear Hyes Hno
      go_wp2_with fail
      go_roundw
      case rel => exact ⟨j1, by omega, by go_num, HE2, HB6⟩
      case measure => simp [intOf]; omega
  ·
   have he : k = l.length := by omega
   have n1 : ¬ (k : Int) < (l.length : Int) := by omega
   have HO2 : Hid (OwnRats w1.heap.size wr (.slice (some ⟨gb, 0, none⟩) k cb) Z) := by show OwnRats _ _ _ _; rw [← HZl.out, ← he]; exact hO.out
   have HB2 := zH (HB1.out.trans (hB.out.mono HB1.out.size))
   clear he hO
   go_wp2_with fail
   go_ret
   exact ⟨_, rfl, OwnRats.lower HO2.out HB1.out.size, HB2.out⟩
end Go.Proofs.YtpidlmmpejoeaaaGreat
