/- FnExactColumnOf: the walk, from the two contracts. -/
import Derived.Test.YtfbhnjdbamahkaaLpV
import Derived.Test.YtfbhnjdbamahkaaIntsLaw
namespace Go.Proofs.Ytfbhnjdbamahkaa
open Go.RowKit
open Ve (R)
open Lp (P Res)
theorem stable_since (W : World) : Stable fun w => Since W w := fun _ _ hb h => h.trans hb
theorem stable_ints (B : Nat) (v : Value) (xs : List Int) : Stable fun w => OwnInts B w v xs := fun _ _ hb h => h.below hb
theorem stable_ownlp (lo hi : Nat) (v : Value) (p : P) : Stable fun w => OwnLP lo hi w v p := fun _ _ hb h => h.below hb
/-- What a box and an LP read as, since the box was laid. -/
theorem lp_since {w w' : World} {x y z : Value} {p : P} {t : TypeId} (h : LpC w x y z p) (hs : Since (w.alloc (.cells #[x, y, z] t)) w') : CellsAt w' w.heap.size #[x, y, z] t ∧ LpC w' x y z p ∧ Below w.heap.size w w' := by
  have hal : Below w.heap.size w (w.alloc (.cells #[x, y, z] t)) := (Below.refl _ _).alloc (Nat.le_refl _) _
  have hsz := hal.size
  exact ⟨(CellsAt.new w #[x, y, z] t).below hs.low, (h.up hal).up hs.low, hal.trans (hs.low.mono hsz)⟩
theorem Since.turned {W w w' : World} {lo hi : Nat} (h : Since W w) (ht : Turned lo hi w w') (hlo : W.heap.size ≤ lo) (hle : lo ≤ w.heap.size) : Since W w' := ⟨h.low.trans ((ht.low hle).mono hlo)⟩
theorem Since.grown' {W w w' : World} {row : Option Nat} (h : Since W w) (hg : w.grownBy w' row) (hr : ∀ g, row = some g → W.heap.size ≤ g) : Since W w' := ⟨h.low.grown hg h.low.size hr⟩
/-- A slice of the call's own: where it lies, how it reads. -/
theorem own_read {B : Nat} {w : World} {a : Option Addr} {n c : Nat} {xs : List Int} (h : OwnInts B w (.slice a n c) xs) : IntsIn w a xs := by
  obtain ⟨a', c', he, hr, _, _⟩ := own_reads h
  obtain ⟨rfl, _⟩ : a = a' ∧ c = c' := by injection he with h1 h2 h3; exact ⟨h1, h3⟩
  exact hr
theorem made_ints {xs : List Int} {w w' : World} {e : Ending} (h : MakesInts xs w e w') : (∃ (a : Option Addr) (c : Nat), e = .returned (.slice a xs.length c) ∧ OwnInts w.heap.size w' (.slice a xs.length c) xs) ∧ Below w.heap.size w w' := by
  obtain ⟨v, he, ho, hb⟩ := h
  obtain ⟨a, c, rfl, _⟩ := own_reads ho
  exact ⟨⟨a, c, he, ho⟩, hb⟩
set_option maxRecDepth 100000 in
set_option maxHeartbeats 8000000 in
theorem fnExactColumnOf.walk_c (j : Int) (p : P) (X : List Int) (hX : LpFits p → X.length ≤ 1048576) (hS : LpFits p → ∀ w x y z, LpC w x y z p → Calls Try.prog 29 #[.agg #[x, y, z], .int .i64 j] w (MakesInts X w)) (hI : LpFits p → ∀ w x y z, LpC w x y z p → Calls Try.prog 30 #[.agg #[x, y, z], .int .i64 j] w (MakesInts X w))
    (w : World) (u0 u1 u2 : Value) (n0 : LpLens p) (h0 : LpC w u0 u1 u2 p) :
    Calls Try.prog 5 #[.agg #[u0, u1, u2], .int .i64 j] w fun e w' => e = .returned (.bool true) ∧ Below w.heap.size w w' := by
  have HS := Lib.hid hS
  have HI := Lib.hid hI
  have HX := Lib.hid hX
  have HC := Lib.hid (fun w' (hs : Since (w.alloc (.cells #[u0, u1, u2] 50)) w') => lp_since h0 hs)
  have HK0 := Lib.hid (Since.refl (w.alloc (.cells #[u0, u1, u2] 50)))
  have N0 := Lib.hid n0
  have hW1 : (w.alloc (.cells #[u0, u1, u2] 50)).heap.size = w.heap.size + 1 := size1 _ _
  have HW1 := Lib.hid hW1
  clear hS hI hX n0 h0 hW1
  go_enter Try.func5, Try.ntmps5
  go_wp2_with fail
  generalize hW : w.alloc (.cells #[u0, u1, u2] 50) = W1 at *
  refine (szLP_c (HC.out _ HK0.out).2.1 N0.out 1048576 (by omega) (by omega)).mono ?_
  rintro e w1 ⟨⟨r0, rfl, ha0, ha1, ha2⟩, k1⟩
  have HK1 := Lib.hid (HK0.out.trans k1)
  clear k1
  obtain ⟨m0, m1, m2⟩ := three (HC.out _ HK1.out).1
  by_cases hneg : r0 < 0
  · have hb2 : decide (r0 < 0) = true := by rw [decide_eq_true_iff]; exact hneg
    go_wp2_with fail
    go_ret
    exact ⟨rfl, (HC.out _ HK1.out).2.2⟩
  · have hb2 : decide (r0 < 0) = false := by rw [decide_eq_false_iff_not]; exact hneg
    have F0 := Lib.hid (lpFits (p := p) (by have := ha2 (by omega); omega))
    have hlen := HX.out F0.out
    clear ha2 HX
    go_wp2_with fail
    refine (toLP_c (HC.out _ HK1.out).2.1 F0.out).mono ?_
    rintro e w2 ⟨⟨s0, s1, s2, rfl, hs, _⟩, k2⟩
    have HK2 := Lib.hid (HK1.out.trans k2)
    have HSs := Lib.hid hs
    clear k2 hs m0 m1 m2
    go_wp2_with fail
    refine (HS.out F0.out _ _ _ _ HSs.out).mono ?_
    intro e w3 hm
    obtain ⟨⟨a1, c1, rfl, ho1⟩, k3⟩ := made_ints hm
    have HK3 := Lib.hid (HK2.out.trans k3)
    have HO1 := Lib.hid ho1
    have hl1 : ∀ g, (Value.slice a1 X.length c1).ownBlock = some g → g < w3.heap.size := fun g hg => (World.ownsRow.lt ho1 g hg).2
    have HL1 := Lib.hid hl1
    clear k3 hm ho1 hl1
    obtain ⟨m0, m1, m2⟩ := three (HC.out _ HK3.out).1
    go_wp2_with fail
    refine (toLP_c (HC.out _ HK3.out).2.1 F0.out).mono ?_
    rintro e w4 ⟨⟨x0, x1, x2, rfl, hx, hox⟩, k4⟩
    obtain ⟨o0, o1, o2⟩ := hx.one
    have t0 := sto o0
    have t1 := sto o1
    have t2 := sto o2
    have hal : Below w4.heap.size w4 (w4.alloc (.cells #[x0, x1, x2] 38)) := (Below.refl _ _).alloc (Nat.le_refl _) _
    have HK4 := Lib.hid ((HK3.out.trans k4).trans hal)
    have HO4 := Lib.hid ((HO1.out.below k4).below hal)
    have HX4 := Lib.hid (hx.up hal)
    have HOx4 := Lib.hid (hox.below hal)
    have HBx := Lib.hid (CellsAt.new w4 #[x0, x1, x2] 38)
    have Hsz4 := Lib.hid (And.intro k4.size (size1 w4 (.cells #[x0, x1, x2] 38)))
    have HW3 := Lib.hid HK3.out.low.size
    clear k4 hal hx hox o0 o1 o2 m0 m1 m2
    go_wp2_with fail
    refine (HI.out F0.out _ _ _ _ HX4.out).mono ?_
    intro e w5 hm
    obtain ⟨⟨a2, c2, rfl, ho2⟩, k5⟩ := made_ints hm
    have hst : Stable fun w' => (Since W1 w' ∧ CellsAt w' w4.heap.size #[x0, x1, x2] 38 ∧ LpC w' x0 x1 x2 p) ∧ OwnInts w2.heap.size w' (.slice a1 X.length c1) X ∧ OwnInts (w4.alloc (.cells #[x0, x1, x2] 38)).heap.size w' (.slice a2 X.length c2) X ∧ OwnLP w3.heap.size w4.heap.size w' (.agg #[x0, x1, x2]) p :=
      ((stable_since _).and ((stable_cells _ _ _).and (stable_lp _ _ _ _))).and ((stable_ints _ _ _).and ((stable_ints _ _ _).and (stable_ownlp _ _ _ _)))
    obtain ⟨K, hK⟩ : ∃ K : World → Prop, K = fun w' => (Since W1 w' ∧ CellsAt w' w4.heap.size #[x0, x1, x2] 38 ∧ LpC w' x0 x1 x2 p) ∧ OwnInts w2.heap.size w' (.slice a1 X.length c1) X ∧ OwnInts (w4.alloc (.cells #[x0, x1, x2] 38)).heap.size w' (.slice a2 X.length c2) X ∧ OwnLP w3.heap.size w4.heap.size w' (.agg #[x0, x1, x2]) p := ⟨_, rfl⟩
    have KS : Hid (Stable K) := hK ▸ hst
    have KC : Hid (∀ w', K w' → (Since W1 w' ∧ CellsAt w' w4.heap.size #[x0, x1, x2] 38 ∧ LpC w' x0 x1 x2 p) ∧ OwnInts w2.heap.size w' (.slice a1 X.length c1) X ∧ OwnInts (w4.alloc (.cells #[x0, x1, x2] 38)).heap.size w' (.slice a2 X.length c2) X ∧ OwnLP w3.heap.size w4.heap.size w' (.agg #[x0, x1, x2]) p) := by
      show ∀ w', K w' → _
      intro w' h
      rw [hK] at h
      exact h
    have HK5 : Hid (K w5) := by
      show K w5
      rw [hK]
      exact ⟨⟨HK4.out.trans k5, HBx.out.below k5, HX4.out.up k5⟩, HO4.out.below k5, ho2, HOx4.out.below k5⟩
    clear hK hst k5 hm ho2 t0 t1 t2 HK4 HO4 HX4 HOx4 HBx HO1 HK1 HK2 HSs HS
    go_wp2_with fail
    refine (laws_eqIntS a2 a1 c2 c1 X (by omega) w5 (own_read (KC.out _ HK5.out).2.2.1) (own_read (KC.out _ HK5.out).2.1)).mono ?_
    rintro e w6 ⟨rfl, d6, rfl⟩
    have HK6 := Lib.hid (KS.out.drewN HK5.out d6)
    clear HK5
    generalize w5.drewN d6 = w6 at *
    have hin := KS.out.drew HK6.out
    have Cell := Lib.hid (fun w' (h : K w') => (show w'.cell? ⟨w4.heap.size, 0, none⟩ = some x0 ∧ w'.cell? ⟨w4.heap.size, 1, none⟩ = some x1 ∧ w'.cell? ⟨w4.heap.size, 2, none⟩ = some x2 ∧ w'.cell? ⟨w.heap.size, 0, none⟩ = some u0 ∧ w'.cell? ⟨w.heap.size, 1, none⟩ = some u1 ∧ w'.cell? ⟨w.heap.size, 2, none⟩ = some u2 ∧ K w' from
      ⟨(three (KC.out w' h).1.2.1).1, (three (KC.out w' h).1.2.1).2.1, (three (KC.out w' h).1.2.1).2.2, (three (HC.out w' (KC.out w' h).1.1).1).1, (three (HC.out w' (KC.out w' h).1.1).1).2.1, (three (HC.out w' (KC.out w' h).1.1).1).2.2, h⟩))
    go_upto_region 10 with fail
    go_cut [35] (fun v wx => v = .bool false ∧ K wx)
    case first =>
      go_region_held3 (fun w' => w'.cell? ⟨w4.heap.size, 0, none⟩ = some x0 ∧ w'.cell? ⟨w4.heap.size, 1, none⟩ = some x1 ∧ w'.cell? ⟨w4.heap.size, 2, none⟩ = some x2 ∧ w'.cell? ⟨w.heap.size, 0, none⟩ = some u0 ∧ w'.cell? ⟨w.heap.size, 1, none⟩ = some u1 ∧ w'.cell? ⟨w.heap.size, 2, none⟩ = some u2 ∧ K w') (first | exact Cell.out _ (by assumption) | exact Cell.out _ (KS.out.drew (by assumption)))
        (first
          | (go_at_call 26; (with_reducible refine (calls_k KS.out (toLP_c ((HC.out _ (KC.out _ (by first | assumption | exact KS.out.drew (by assumption))).1.1).2.1) F0.out) (by first | assumption | exact KS.out.drew (by assumption))).mono ?_); rintro e w' ⟨⟨y0, y1, y2, rfl, hr3, _⟩, hk3, hin3⟩)
          | (go_at_call 28; refine (calls_k KS.out (eqLP_c ((KC.out _ (by first | assumption | exact KS.out.drew (by assumption))).1.2.2) (by assumption) F0.out) (by assumption)).mono ?_; rintro e w' ⟨rfl, hk4, hin4⟩))
      all_goals
        go_wp2_with fail
        go_meet
        exact ⟨rfl, by assumption⟩
    case rest =>
    clear hin HK6
    obtain ⟨w7, rfl⟩ : ∃ w7 : World, w7 = wc := ⟨_, rfl⟩
    obtain ⟨rfl, hk7⟩ := hcut
    have HK7 := Lib.hid (KC.out _ hk7)
    obtain ⟨m0, m1, m2⟩ := three HK7.out.1.2.1
    clear hk7 Cell KC KS
    go_wp2_with fail
    refine (markLP w3.heap.size w4.heap.size (.agg #[x0, x1, x2]) p F0.out w7 HK7.out.2.2.2).mono ?_
    rintro e w8 ⟨⟨r, rfl, hr0⟩, ht⟩
    have hlo : w3.heap.size ≤ w7.heap.size := by
      obtain ⟨q1, q2, _, _, _, _, g1, g2, g3, g4, _⟩ := HK7.out.2.2.2
      omega
    have HK8 := Lib.hid (HK7.out.1.1.turned ht HW3.out hlo)
    have HO8 := Lib.hid (HK7.out.2.1.turned ht (fun g hg => .inl (HL1.out g hg)))
    have HG8 := Lib.hid (HK7.out.2.2.1.turned ht (fun g hg => .inr (by have := (World.ownsRow.lt HK7.out.2.2.1 g hg).1; have := Hsz4.out.2; omega)))
    have hr1 : decide (r < 0) = false := by rw [decide_eq_false_iff_not]; omega
    clear ht hlo HK7 m0 m1 m2
    go_wp2_with fail
    refine (laws_eqIntS a2 a1 c2 c1 X (by omega) w8 (own_read HG8.out) (own_read HO8.out)).mono ?_
    rintro e w9 ⟨rfl, d9, rfl⟩
    go_wp2_with fail
    refine (laws_markIntS _ _ 1 X (by omega) (by omega) (w8.drewN d9) (HG8.out.drewN d9)).mono ?_
    rintro e w10 ⟨rfl, ho10, hg10⟩
    have HG10 := Lib.hid ho10
    have hgb : ∀ g, (Value.slice a2 X.length c2).ownBlock = some g → w4.heap.size + 1 ≤ g := fun g hg => by have := (World.ownsRow.lt HG8.out g hg).1; have := Hsz4.out.2; omega
    have HK10 := Lib.hid ((HK8.out.drewN d9).grown' hg10 (fun g hg => by have := hgb g hg; have := HW3.out; have := Hsz4.out.1; omega))
    have HO10 : Hid (OwnInts w2.heap.size w10 (.slice a1 X.length c1) X) := OwnInts.same (HO8.out.drewN d9) (fun g hg => hg10.block g (World.ownsRow.lt (HO8.out.drewN d9) g hg).2 (fun e => by
      have h1 := HL1.out g hg
      have h2 := hgb g e.symm
      have := Hsz4.out.1
      omega))
    have hR : Hid (IntsIn w10 a2 (marksI 1 X.length)) := by
      have h1 := own_reads ho10
      rw [marksI_len] at h1
      obtain ⟨a', c', he, hrr, _, _⟩ := h1
      obtain ⟨rfl, _⟩ : a2 = a' ∧ c2 = c' := by injection he with h1 h2 h3; exact ⟨h1, h3⟩
      exact hrr
    have Hlt : Hid (∀ q, a2 = some q → q.block < w10.heap.size) := fun q hq => (World.ownsRow.lt ho10 q.block (by rw [hq]; rfl)).2
    clear ho10 hg10 hgb HG8 HO8 HK8
    go_wp2_with fail
    refine (laws_heldIntS a2 c2 1 X.length (by omega) (by omega) w10 hR.out).mono ?_
    rintro e w11 ⟨rfl, rfl⟩
    obtain ⟨m0, m1, m2⟩ := three (HC.out _ HK10.out).1
    go_wp2_with fail
    refine (toLP_c (HC.out _ HK10.out).2.1 F0.out).mono ?_
    rintro e w12 ⟨⟨y0, y1, y2, rfl, hy, _⟩, k12⟩
    have HY := Lib.hid hy
    have HK12 := Lib.hid (HK10.out.trans k12)
    have HO12 := Lib.hid (HO10.out.below k12)
    have HR12 := Lib.hid (hR.out.below (fun q hq => Hlt.out q hq) k12)
    have Hlt12 : Hid (∀ q, a2 = some q → q.block < w12.heap.size) := fun q hq => Nat.lt_of_lt_of_le (Hlt.out q hq) k12.size
    clear k12 hy m0 m1 m2
    go_wp2_with fail
    refine (HI.out F0.out _ _ _ _ HY.out).mono ?_
    intro e w13 hm
    obtain ⟨⟨a3, c3, rfl, ho3⟩, k13⟩ := made_ints hm
    have HO3 := Lib.hid ho3
    have HO13 := Lib.hid (HO12.out.below k13)
    have HR13 := Lib.hid (HR12.out.below (fun q hq => Hlt12.out q hq) k13)
    have HK13 := Lib.hid (HK12.out.trans k13)
    clear k13 hm ho3
    go_wp2_with fail
    refine (laws_eqIntS a3 a1 c3 c1 X (by omega) w13 (own_read HO3.out) (own_read HO13.out)).mono ?_
    rintro e w14 ⟨rfl, d14, rfl⟩
    go_wp2_with fail
    refine (laws_heldIntS a2 c2 1 X.length (by omega) (by omega) (w13.drewN d14) (HR13.out.drewN d14)).mono ?_
    rintro e w15 ⟨rfl, rfl⟩
    have Hend := Lib.hid (HC.out _ (HK13.out.drewN d14)).2.2
    go_wp2_with fail
    go_ret
    exact ⟨rfl, Hend.out⟩
end Go.Proofs.Ytfbhnjdbamahkaa
