/- FnExactSolutionOf: the walk, from the two contracts. -/
import Derived.Test.YtafkjebfdmgdeaaTaF
import Derived.Test.YtafkjebfdmgdeaaLpL6
namespace Go.Proofs.Ytafkjebfdmgdeaa
open Go.RowKit
open Ve (R)
open Ta (T)
theorem stable_rats (B : Nat) (v : Value) (xs : List R) : Stable fun w => OwnRats B w v xs := fun _ _ hb h => h.below hb
theorem stable_res_tab (lo hi : Nat) (v : Value) (t : T) : Stable fun w => ResTab lo hi w v t := fun _ _ hb h => h.below hb
/-- What a box and a tableau read as, since the box was laid. -/
theorem tab_since {w w' : World} {x y z : Value} {p : T} {t : TypeId} (h : TabC w x y z p) (hs : Since (w.alloc (.cells #[x, y, z] t)) w') : CellsAt w' w.heap.size #[x, y, z] t ∧ TabC w' x y z p ∧ Below w.heap.size w w' := by
  have hal : Below w.heap.size w (w.alloc (.cells #[x, y, z] t)) := (Below.refl _ _).alloc (Nat.le_refl _) _
  have hsz := hal.size
  exact ⟨(CellsAt.new w #[x, y, z] t).below hs.low, (h.up hal).up hs.low, hal.trans (hs.low.mono hsz)⟩
theorem own_readR {B : Nat} {w : World} {a : Option Addr} {n c : Nat} {xs : List R} (h : OwnRats B w (.slice a n c) xs) : RatsIn w.heap.size w a xs := by
  obtain ⟨a', c', he, hr, _, _⟩ := own_rats h
  obtain ⟨rfl, _⟩ : a = a' ∧ c = c' := by injection he with h1 h2 h3; exact ⟨h1, h3⟩
  exact hr
theorem made_rats {xs : List R} {w w' : World} {e : Ending} (h : MakesRats xs w e w') : (∃ (a : Option Addr) (c : Nat), e = .returned (.slice a xs.length c) ∧ OwnRats w.heap.size w' (.slice a xs.length c) xs) ∧ Below w.heap.size w w' := by
  obtain ⟨v, he, ho, hb⟩ := h
  obtain ⟨a, c, rfl, _⟩ := own_rats ho
  exact ⟨⟨a, c, he, ho⟩, hb⟩
/-- Small enough. -/
def TabOk (t : T) : Prop := TabFits t ∧ tabN t ≤ 1048576
theorem ResTab.size {lo hi : Nat} {w : World} {v : Value} {t : T} (h : ResTab lo hi w v t) : hi ≤ w.heap.size := by
  obtain ⟨_, _, _, h1, _⟩ := h.ex
  exact h1.size
set_option maxRecDepth 100000 in
set_option maxHeartbeats 8000000 in
theorem fnExactSolutionOf.walk_c (p : T) (X : List R) (hX : TabOk p → X.length ≤ 1048576) (hS : TabOk p → ∀ w x y z, TabC w x y z p → Calls Try.prog 41 #[.agg #[x, y, z]] w (MakesRats X w)) (hI : TabOk p → ∀ w x y z, TabC w x y z p → Calls Try.prog 40 #[.agg #[x, y, z]] w (MakesRats X w))
    (w : World) (u0 u1 u2 : Value) (n0 : TabLens' p) (h0 : TabC w u0 u1 u2 p) :
    Calls Try.prog 9 #[.agg #[u0, u1, u2]] w fun e w' => e = .returned (.bool true) ∧ Below w.heap.size w w' := by
  have HS := Lib.hid hS
  have HI := Lib.hid hI
  have HX := Lib.hid hX
  have HC := Lib.hid (fun w' (hs : Since (w.alloc (.cells #[u0, u1, u2] 76)) w') => tab_since h0 hs)
  have HK0 := Lib.hid (Since.refl (w.alloc (.cells #[u0, u1, u2] 76)))
  have N0 := Lib.hid n0
  have hW1 : (w.alloc (.cells #[u0, u1, u2] 76)).heap.size = w.heap.size + 1 := size1 _ _
  have HW1 := Lib.hid hW1
  clear hS hI hX n0 h0 hW1
  go_enter Try.func9, Try.ntmps9
  go_wp2_with fail
  generalize hW : w.alloc (.cells #[u0, u1, u2] 76) = W1 at *
  refine (szTab_c (HC.out _ HK0.out).2.1 N0.out 1048576 (by omega) (by omega)).mono ?_
  rintro e w1 ⟨⟨r0, rfl, ha0, ha1, ha2⟩, k1⟩
  have HK1 := Lib.hid (HK0.out.trans k1)
  clear k1
  obtain ⟨m0, m1, m2⟩ := three (HC.out _ HK1.out).1
  by_cases hneg : r0 < 0
  · have hb2 : decide (r0 < 0) = true := by rw [decide_eq_true_iff]; exact hneg
    go_wp2_with fail
    go_ret
    exact ⟨rfl, (HC.out _ HK1.out).2.2⟩
  · have hb2 : decide (r0 < 0) = false := by rw [decide_eq_false_iff_not]; exact hneg
    have F0 : Hid (TabOk p) := ⟨tabFits' N0.out (by have := ha2 (by omega); omega), by have := ha2 (by omega); omega⟩
    have F1 : Hid (TabFits p) := F0.out.1
    have hlen := HX.out F0.out
    clear ha2 HX
    go_wp2_with fail
    refine (toTab_c (HC.out _ HK1.out).2.1 F1.out).mono ?_
    rintro e w2 ⟨⟨s0, s1, s2, rfl, hs, _⟩, k2⟩
    have HK2 := Lib.hid (HK1.out.trans k2)
    have HSs := Lib.hid hs
    clear k2 hs m0 m1 m2
    go_wp2_with fail
    refine (HS.out F0.out _ _ _ _ HSs.out).mono ?_
    intro e w3 hm
    obtain ⟨⟨a1, c1, rfl, ho1⟩, k3⟩ := made_rats hm
    have HK3 := Lib.hid (HK2.out.trans k3)
    have HO1 := Lib.hid ho1
    have hl1 : ∀ g, (Value.slice a1 X.length c1).ownBlock = some g → g < w3.heap.size := fun g hg => (World.ownsRow.lt ho1 g hg).2
    have HL1 := Lib.hid hl1
    clear k3 hm ho1 hl1
    obtain ⟨m0, m1, m2⟩ := three (HC.out _ HK3.out).1
    go_wp2_with fail
    refine (toTab_c (HC.out _ HK3.out).2.1 F1.out).mono ?_
    rintro e w4 ⟨⟨x0, x1, x2, rfl, hx, hox⟩, k4⟩
    obtain ⟨o0, o1, o2⟩ := hx.one
    have t0 := sto o0
    have t1 := sto o1
    have t2 := sto o2
    have hal : Below w4.heap.size w4 (w4.alloc (.cells #[x0, x1, x2] 50)) := (Below.refl _ _).alloc (Nat.le_refl _) _
    have HK4 := Lib.hid ((HK3.out.trans k4).trans hal)
    have HO4 := Lib.hid ((HO1.out.below k4).below hal)
    have HX4 := Lib.hid (hx.up hal)
    have HOx4 := Lib.hid (hox.below hal)
    have HBx := Lib.hid (CellsAt.new w4 #[x0, x1, x2] 50)
    have Hsz4 := Lib.hid (And.intro k4.size (size1 w4 (.cells #[x0, x1, x2] 50)))
    have HW3 := Lib.hid HK3.out.low.size
    clear k4 hal hx hox o0 o1 o2 m0 m1 m2
    go_wp2_with fail
    refine (HI.out F0.out _ _ _ _ HX4.out).mono ?_
    intro e w5 hm
    obtain ⟨⟨a2, c2, rfl, ho2⟩, k5⟩ := made_rats hm
    have hst : Stable fun w' => (Since W1 w' ∧ CellsAt w' w4.heap.size #[x0, x1, x2] 50 ∧ TabC w' x0 x1 x2 p) ∧ OwnRats w2.heap.size w' (.slice a1 X.length c1) X ∧ OwnRats (w4.alloc (.cells #[x0, x1, x2] 50)).heap.size w' (.slice a2 X.length c2) X ∧ ResTab w3.heap.size w4.heap.size w' (.agg #[x0, x1, x2]) p :=
      ((stable_since _).and ((stable_cells _ _ _).and (stable_tab _ _ _ _))).and ((stable_rats _ _ _).and ((stable_rats _ _ _).and (stable_res_tab _ _ _ _)))
    obtain ⟨K, hK⟩ : ∃ K : World → Prop, K = fun w' => (Since W1 w' ∧ CellsAt w' w4.heap.size #[x0, x1, x2] 50 ∧ TabC w' x0 x1 x2 p) ∧ OwnRats w2.heap.size w' (.slice a1 X.length c1) X ∧ OwnRats (w4.alloc (.cells #[x0, x1, x2] 50)).heap.size w' (.slice a2 X.length c2) X ∧ ResTab w3.heap.size w4.heap.size w' (.agg #[x0, x1, x2]) p := ⟨_, rfl⟩
    have KS : Hid (Stable K) := hK ▸ hst
    have KC : Hid (∀ w', K w' → (Since W1 w' ∧ CellsAt w' w4.heap.size #[x0, x1, x2] 50 ∧ TabC w' x0 x1 x2 p) ∧ OwnRats w2.heap.size w' (.slice a1 X.length c1) X ∧ OwnRats (w4.alloc (.cells #[x0, x1, x2] 50)).heap.size w' (.slice a2 X.length c2) X ∧ ResTab w3.heap.size w4.heap.size w' (.agg #[x0, x1, x2]) p) := by
      show ∀ w', K w' → _
      intro w' h
      rw [hK] at h
      exact h
    have HK5 : Hid (K w5) := by
      show K w5
      rw [hK]
      exact ⟨⟨HK4.out.trans k5, HBx.out.below k5, HX4.out.up k5⟩, HO4.out.below k5, ho2, HOx4.out.below k5⟩
    clear hK hst k5 hm ho2 t0 t1 t2 HK4 HO4 HX4 HOx4 HBx HO1 HK1 HK2 HSs HS
    go_wp2_with fail
    refine (laws_eqRatS w5.heap.size a2 a1 c2 c1 X (by omega) w5 (Nat.le_refl _) (own_readR (KC.out _ HK5.out).2.2.1) (own_readR (KC.out _ HK5.out).2.1)).mono ?_
    rintro e w6 ⟨rfl, k6⟩
    have HK6 := Lib.hid (KS.out _ _ k6 HK5.out)
    clear HK5 k6
    have hin := KS.out.drew HK6.out
    have Cell := Lib.hid (fun w' (h : K w') => (show w'.cell? ⟨w4.heap.size, 0, none⟩ = some x0 ∧ w'.cell? ⟨w4.heap.size, 1, none⟩ = some x1 ∧ w'.cell? ⟨w4.heap.size, 2, none⟩ = some x2 ∧ w'.cell? ⟨w.heap.size, 0, none⟩ = some u0 ∧ w'.cell? ⟨w.heap.size, 1, none⟩ = some u1 ∧ w'.cell? ⟨w.heap.size, 2, none⟩ = some u2 ∧ K w' from
      ⟨(three (KC.out w' h).1.2.1).1, (three (KC.out w' h).1.2.1).2.1, (three (KC.out w' h).1.2.1).2.2, (three (HC.out w' (KC.out w' h).1.1).1).1, (three (HC.out w' (KC.out w' h).1.1).1).2.1, (three (HC.out w' (KC.out w' h).1.1).1).2.2, h⟩))
    go_upto_region 10 with fail
    go_cut [31] (fun v wx => v = .bool false ∧ K wx)
    case first =>
      go_region_held3 (fun w' => w'.cell? ⟨w4.heap.size, 0, none⟩ = some x0 ∧ w'.cell? ⟨w4.heap.size, 1, none⟩ = some x1 ∧ w'.cell? ⟨w4.heap.size, 2, none⟩ = some x2 ∧ w'.cell? ⟨w.heap.size, 0, none⟩ = some u0 ∧ w'.cell? ⟨w.heap.size, 1, none⟩ = some u1 ∧ w'.cell? ⟨w.heap.size, 2, none⟩ = some u2 ∧ K w') (first | exact Cell.out _ (by assumption) | exact Cell.out _ (KS.out.drew (by assumption)))
        (first
          | (go_at_call 50; (with_reducible refine (calls_k KS.out (toTab_c ((HC.out _ (KC.out _ (by first | assumption | exact KS.out.drew (by assumption))).1.1).2.1) F1.out) (by first | assumption | exact KS.out.drew (by assumption))).mono ?_); rintro e w' ⟨⟨y0, y1, y2, rfl, hr3, _⟩, hk3, hin3⟩)
          | (go_at_call 44; refine (calls_k KS.out (eqTab_c ((KC.out _ (by first | assumption | exact KS.out.drew (by assumption))).1.2.2) (by assumption) F1.out) (by assumption)).mono ?_; rintro e w' ⟨rfl, hk4, hin4⟩))
      all_goals
        go_wp2_with fail
        go_meet
        exact ⟨rfl, by assumption⟩
    case rest =>
    clear hin HK6
    obtain ⟨w7, rfl⟩ : ∃ w7 : World, w7 = wc := ⟨_, rfl⟩
    obtain ⟨rfl, hk7⟩ := hcut
    have HK7 := Lib.hid (KC.out _ hk7)
    obtain ⟨m0, m1, m2⟩ := three HK7.out.1.2.1
    clear hk7 Cell KC KS
    go_wp2_with fail
    refine (markTab w3.heap.size w4.heap.size (.agg #[x0, x1, x2]) p F0.out.2 w7 HK7.out.2.2.2).mono ?_
    rintro e w8 ⟨rfl, ht, _⟩
    have hlo : w3.heap.size ≤ w7.heap.size := Nat.le_trans Hsz4.out.1 HK7.out.2.2.2.size
    have HK8 := Lib.hid (HK7.out.1.1.turned ht HW3.out hlo)
    have HO8 := Lib.hid (HK7.out.2.1.turned ht (fun g hg => .inl (HL1.out g hg)))
    have HG8 := Lib.hid (HK7.out.2.2.1.turned ht (fun g hg => .inr (by have := (World.ownsRow.lt HK7.out.2.2.1 g hg).1; have := Hsz4.out.2; omega)))
    have hr1 : decide (markN p < 0) = false := by rw [decide_eq_false_iff_not]; unfold markN; omega
    clear ht hlo HK7 m0 m1 m2
    go_wp2_with fail
    refine (laws_eqRatS w8.heap.size a2 a1 c2 c1 X (by omega) w8 (Nat.le_refl _) (own_readR HG8.out) (own_readR HO8.out)).mono ?_
    rintro e w9 ⟨rfl, k9⟩
    have HK9 := Lib.hid (HK8.out.trans k9)
    have HO9 := Lib.hid (HO8.out.below k9)
    have HG9 := Lib.hid (HG8.out.below k9)
    clear k9 HK8 HO8 HG8
    go_wp2_with fail
    refine (laws_markFrom _ _ 1 1 rfl X (by omega) (by omega) w9 HG9.out).mono ?_
    rintro e w10 ⟨rfl, ho10, hg10⟩
    have hgb : ∀ g, (Value.slice a2 X.length c2).ownBlock = some g → w4.heap.size + 1 ≤ g := fun g hg => by have := (World.ownsRow.lt HG9.out g hg).1; have := Hsz4.out.2; omega
    have HK10 := Lib.hid (HK9.out.grown' hg10 (fun g hg => by have := hgb g hg; have := HW3.out; have := Hsz4.out.1; omega))
    have HO10 : Hid (OwnRats w2.heap.size w10 (.slice a1 X.length c1) X) := OwnRats.same HO9.out (fun g hg => hg10.block g (World.ownsRow.lt HO9.out g hg).2 (fun e => by
      have h1 := HL1.out g hg
      have h2 := hgb g e.symm
      have := Hsz4.out.1
      omega))
    have hR : Hid (RatsIn w10.heap.size w10 a2 (marksR 1 X.length)) := (marked_reads ho10).1
    clear ho10 hg10 hgb HG9 HO9 HK9
    have hm1 : decide (1 + 2 * (X.length : Int) < 0) = false := by rw [decide_eq_false_iff_not]; omega
    go_wp2_with fail
    refine (laws_heldFrom w10.heap.size a2 c2 1 1 X.length rfl (by omega) (by omega) w10 hR.out).mono ?_
    rintro e w11 ⟨rfl, rfl⟩
    obtain ⟨m0, m1, m2⟩ := three (HC.out _ HK10.out).1
    go_wp2_with fail
    refine (toTab_c (HC.out _ HK10.out).2.1 F1.out).mono ?_
    rintro e w12 ⟨⟨y0, y1, y2, rfl, hy, _⟩, k12⟩
    have HY := Lib.hid hy
    have HK12 := Lib.hid (HK10.out.trans k12)
    have HO12 := Lib.hid (HO10.out.below k12)
    have HR12 := Lib.hid (hR.out.below k12)
    have Hs12 := Lib.hid k12.size
    clear k12 hy m0 m1 m2
    go_wp2_with fail
    refine (HI.out F0.out _ _ _ _ HY.out).mono ?_
    intro e w13 hm
    obtain ⟨⟨a3, c3, rfl, ho3⟩, k13⟩ := made_rats hm
    have HO3 := Lib.hid ho3
    have HO13 := Lib.hid (HO12.out.below k13)
    have HR13 := Lib.hid (HR12.out.below (k13.mono Hs12.out))
    have Hs13 := Lib.hid (Nat.le_trans Hs12.out k13.size)
    have HK13 := Lib.hid (HK12.out.trans k13)
    clear k13 hm ho3
    go_wp2_with fail
    refine (laws_eqRatS w13.heap.size a3 a1 c3 c1 X (by omega) w13 (Nat.le_refl _) (own_readR HO3.out) (own_readR HO13.out)).mono ?_
    rintro e w14 ⟨rfl, k14⟩
    have HR14 := Lib.hid (HR13.out.below (k14.mono Hs13.out))
    have HK14 := Lib.hid (HK13.out.trans k14)
    clear k14
    go_wp2_with fail
    refine (laws_heldFrom w10.heap.size a2 c2 1 1 X.length rfl (by omega) (by omega) w14 HR14.out).mono ?_
    rintro e w15 ⟨rfl, rfl⟩
    have Hend := Lib.hid (HC.out _ HK14.out).2.2
    go_wp2_with fail
    go_ret
    exact ⟨rfl, Hend.out⟩
end Go.Proofs.Ytafkjebfdmgdeaa
