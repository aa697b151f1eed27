/- FnExactIsFeasible's walk, from the two contracts. -/
import Derived.Test.YtmjmjilpcekngaaLpL1
namespace Go.Proofs.Ytmjmjilpcekngaa
open Go.RowKit
open Ve (R)
open Lp (P Res)
def LpRatBool (f : FuncId) (g : P → List R → Bool) : Prop := ∀ (B : Nat) (a b c va : Option Addr) (c1 c2 c3 vc : Nat) (p : P) (v : List R), LpFits p → v.length ≤ 1048576 → ∀ w : World, B ≤ w.heap.size → LpIn B w a b c p → RatsIn B w va v →
 Calls Try.prog f #[lpV a b c c1 c2 c3 p, .slice va v.length vc] w fun e w' => e = .returned (.bool (g p v)) ∧ Below w.heap.size w w'
theorem RatsIn.since {B wx : World} {n : Nat} {a : Option Addr} {xs : List R} (h : RatsIn n B a xs) (hn : n ≤ B.heap.size) (hs : Since B wx) : RatsIn wx.heap.size wx a xs :=
 (h.below (hs.low.mono hn)).mono (Nat.le_trans hn hs.low.size)
theorem Tri.since {B wx : World} {q : Nat} {x y z : Value} {t : TypeId} (h : Tri B q x y z t) (hs : Since B wx) : Tri wx q x y z t := h.below hs.low
theorem toRats_since {B wx : World} {n : Nat} (hs : Since B wx) (hn : n ≤ B.heap.size) (a : Option Addr) (c : Nat) (xs : List R) (hl : xs.length ≤ 1048576) (hz : RatsIn n B a xs) :
  Calls Try.prog 20 #[.slice a xs.length c] wx fun e w' => ∃ (a' : Option Addr) (c' : Nat), e = .returned (.slice a' xs.length c') ∧ RatsIn w'.heap.size w' a' xs ∧ Since B w' ∧ wx.heap.size ≤ w'.heap.size ∧ Below wx.heap.size wx w' :=
 (laws_toRatS wx.heap.size a c xs hl wx (Nat.le_refl _) (hz.since hn hs)).mono fun e w' ⟨v, he, ho, hb⟩ => by
  obtain ⟨a', c', rfl, hr, _, _⟩ := own_rats ho
  exact ⟨a', c', he, hr, hs.trans hb, hb.size, hb⟩
set_option maxRecDepth 100000 in
set_option maxHeartbeats 4000000 in
theorem fnExactIsFeasible.walk_of (g : P → List R → Bool) (hS : LpRatBool 18 g) (hI : LpRatBool 13 g) (a b c : Option Addr) (c1 c2 c3 : Nat) (p : P) (va : Option Addr) (vc : Nat) (v : List R) (w : World) (hl : LpLens p) (hz : LpIn w.heap.size w a b c p) (hvm : v.length ≤ 9223372036854775807) (hv : RatsIn w.heap.size w va v) :
  Calls Try.prog 4 #[.agg #[.slice a p.A.length c1, .slice b p.B.length c2, .slice c p.C.length c3], .slice va v.length vc] w fun e w' => e = .returned (.bool true) ∧ Below w.heap.size w w' := by
 obtain ⟨gp, hgp⟩ : ∃ gp, g p v = gp := ⟨_, rfl⟩
 have HS := zH (fun (h1 : LpFits p) (h2 : v.length ≤ 1048576) B a b c va c1 c2 c3 vc w h3 => hgp ▸ hS B a b c va c1 c2 c3 vc p v h1 h2 w h3)
 have HI := zH (fun (h1 : LpFits p) (h2 : v.length ≤ 1048576) B a b c va c1 c2 c3 vc w h3 => hgp ▸ hI B a b c va c1 c2 c3 vc p v h1 h2 w h3)
 have hb := (Below.refl w.heap.size w).alloc (Nat.le_refl _) (.cells #[.slice a p.A.length c1, .slice b p.B.length c2, .slice c p.C.length c3] 45)
 have Hb := zH hb
 have Hx := zH (Tri.new w (.slice a p.A.length c1) (.slice b p.B.length c2) (.slice c p.C.length c3) 45)
 have Hz := zH (hz.below hb)
 have Hv := zH (hv.below hb)
 have HL := zH hl
 have Hst := zH (Since.refl (w.alloc (.cells #[.slice a p.A.length c1, .slice b p.B.length c2, .slice c p.C.length c3] 45)))
 clear hz hb hS hI hgp hl hv
 go_enter Try.func4, Try.ntmps4
 go_wp2_with fail
 refine (szLP w.heap.size a b c c1 c2 c3 p 1048576 HL.out (by omega) (by omega) _ Hb.out.size Hz.out).mono ?_
 rintro e w1 ⟨r, rfl, hr0, hr1, hr2, k1⟩
 have HS1 := zH (Hst.out.trans k1)
 obtain ⟨x0, x1, x2, _⟩ := (Hx.out.since HS1.out).cells
 clear k1
 generalize hW0 : w.alloc (.cells #[.slice a p.A.length c1, .slice b p.B.length c2, .slice c p.C.length c3] 45) = W0 at *
 have Hsz : Hid (w.heap.size ≤ W0.heap.size) := Hb.out.size
 by_cases hneg : r < 0
 ·
  have hb2 : decide (r < 0) = true := by rw [decide_eq_true_iff]; exact hneg
  go_wp2_with fail
  go_ret
  exact ⟨rfl, Hb.out.trans (HS1.out.low.mono Hsz.out)⟩
 ·
  have hb2 : decide (r < 0) = false := by rw [decide_eq_false_iff_not]; exact hneg
  have HF := zH (lpFits (p := p) (by have := hr2 (by omega); omega))
  clear hr2
  go_wp2_with fail
  refine (szR va v.length vc r hvm (by omega) hr1 _).mono ?_
  rintro e w2 ⟨s, rfl, hs0, hs1, hs2, rfl⟩
  by_cases hneg2 : s < 0
  ·
   have hb3 : decide (s < 0) = true := by rw [decide_eq_true_iff]; exact hneg2
   go_wp2_with fail
   go_ret
   exact ⟨rfl, Hb.out.trans (HS1.out.low.mono Hsz.out)⟩
  ·
   have hb3 : decide (s < 0) = false := by rw [decide_eq_false_iff_not]; exact hneg2
   have hvl : v.length ≤ 1048576 := by have := hs2 (by omega); omega
   clear hs2
   go_wp2_with fail
   refine (toLP_since HS1.out Hsz.out a b c c1 c2 c3 p HF.out Hz.out).mono ?_
   rintro e w2 ⟨a1, b1, q1, d1, d2, d3, rfl, hr, hs2⟩
   have Hr := zH hr
   have HS2 := zH hs2
   clear hr hs2
   go_wp2_with fail
   refine (toRats_since HS2.out Hsz.out va vc v hvl Hv.out).mono ?_
   rintro e w3 ⟨v3, z3, rfl, hr3, hs3, hle3, hb3'⟩
   have HS3 := zH hs3
   have Hr3 := zH hr3
   have Hl3 := zH ((Hr.out.below hb3').mono hle3)
   clear hr3 hs3 hb3' hle3
   go_wp2_with fail
   refine (HS.out HF.out hvl w3.heap.size a1 b1 q1 v3 d1 d2 d3 z3 w3 (Nat.le_refl _) Hl3.out Hr3.out).mono ?_
   rintro e w4 ⟨rfl, k4⟩
   have HS4 := zH (HS3.out.trans k4)
   clear x0 x1 x2 k4
   obtain ⟨x0, x1, x2, _⟩ := (Hx.out.since HS4.out).cells
   go_wp2_with fail
   refine (toLP w.heap.size a b c c1 c2 c3 p HF.out _ (Nat.le_trans Hsz.out HS4.out.low.size) (Hz.out.below (HS4.out.low.mono Hsz.out))).mono ?_
   rintro e w5 ⟨u, rfl, ho, k5⟩
   obtain ⟨a2, b2, q2, f1, f2, f3, rfl, hr, hh⟩ := ho.reads
   have HS5 := zH ((HS4.out.trans k5).alloc (.cells #[.slice a2 p.A.length f1, .slice b2 p.B.length f2, .slice q2 p.C.length f3] 28))
   have Hy5 := zH (Tri.new w5 (.slice a2 p.A.length f1) (.slice b2 p.B.length f2) (.slice q2 p.C.length f3) 28)
   have hal : Below w5.heap.size w5 (w5.alloc (.cells #[.slice a2 p.A.length f1, .slice b2 p.B.length f2, .slice q2 p.C.length f3] 28)) := (Below.refl _ _).alloc (Nat.le_refl _) _
   have Hr5 := zH (hr.below hal)
   have Hst5 := zH (Since.refl (w5.alloc (.cells #[.slice a2 p.A.length f1, .slice b2 p.B.length f2, .slice q2 p.C.length f3] 28)))
   have Hz5 := zH (Hz.out.below (HS5.out.low.mono Hsz.out))
   have Hv5 := zH (Hv.out.below (HS5.out.low.mono Hsz.out))
   have Hx5 := zH (Hx.out.since HS5.out)
   have Hsz5 := zH (Nat.le_trans Hsz.out HS5.out.low.size)
   have Hsz5' := zH hal.size
   clear hr ho k5 hh hal
   go_wp2_with fail
   generalize hW5 : w5.alloc (.cells #[.slice a2 p.A.length f1, .slice b2 p.B.length f2, .slice q2 p.C.length f3] 28) = W5 at *
   refine (toRats_since Hst5.out Hsz5.out va vc v hvl Hv5.out).mono ?_
   rintro e w6 ⟨v6, z6, rfl, hr6, hs6, hle6, hb6⟩
   have HS6 := zH hs6
   have Hr6 := zH hr6
   clear x0 x1 x2 hr6 hs6 hb6
   obtain ⟨y0, y1, y2, _⟩ := (Hy5.out.since HS6.out).cells
   go_wp2_with fail
   refine (HI.out HF.out hvl w6.heap.size a2 b2 q2 v6 f1 f2 f3 z6 w6 (Nat.le_refl _) (Hr5.out.since Hsz5'.out HS6.out) Hr6.out).mono ?_
   rintro e w7 ⟨rfl, k7⟩
   have HS7 := zH (HS6.out.trans k7)
   have Hr7 := zH ((Hr6.out.below k7).mono k7.size)
   have hne := ne_self gp
   have HQ : Hid (LpSix w.heap.size w5.heap.size (.slice a p.A.length c1) (.slice b p.B.length c2) (.slice c p.C.length c3) (.slice a2 p.A.length f1) (.slice b2 p.B.length f2) (.slice q2 p.C.length f3) w7) := ⟨_, _, Hx5.out.since HS7.out, Hy5.out.since HS7.out⟩
   have hin := Since.refl w7
   have hsz7 : w.heap.size ≤ w7.heap.size := Nat.le_trans Hsz5.out HS7.out.low.size
   have hle7 : w5.heap.size ≤ w7.heap.size := Nat.le_trans Hsz5'.out HS7.out.low.size
   have Hz7 := zH (Hz5.out.below (HS7.out.low.mono Hsz5.out))
   have Hr57 := zH (Hr5.out.below (HS7.out.low.mono Hsz5'.out))
   clear y0 y1 y2 k7
   go_wp2_with fail
   go_region_held3 (fun w' => w'.cell? ⟨w.heap.size, 0, none⟩ = some (.slice a p.A.length c1) ∧ w'.cell? ⟨w.heap.size, 1, none⟩ = some (.slice b p.B.length c2) ∧ w'.cell? ⟨w.heap.size, 2, none⟩ = some (.slice c p.C.length c3) ∧ w'.cell? ⟨w5.heap.size, 0, none⟩ = some (.slice a2 p.A.length f1) ∧ w'.cell? ⟨w5.heap.size, 1, none⟩ = some (.slice b2 p.B.length f2) ∧ w'.cell? ⟨w5.heap.size, 2, none⟩ = some (.slice q2 p.C.length f3) ∧ Since w7 w') (first | exact LpSix.seven HQ (by assumption) | exact LpSix.seven HQ (Since.drew (by assumption)))
    (first
     | (go_at_call 19; refine (toLP_since (B := w7) (n := w.heap.size) (by first | assumption | exact Since.drew (by assumption)) hsz7 a b c c1 c2 c3 p HF.out Hz7.out).mono ?_; rintro e w' ⟨a3, b3, q3, g1, g2, g3, rfl, hr3, hin2⟩)
     | (go_at_call 21; refine (eqLP_since (B := w7) (n := w5.heap.size) (by first | assumption | exact Since.drew (by assumption)) hle7 a2 b2 q2 _ _ _ f1 f2 f3 _ _ _ p HF.out Hr57.out (by first | assumption | exact LpIn.drewN (by assumption) 1)).mono ?_; rintro e w' ⟨rfl, hin3⟩))
   all_goals
    have Hend := zH (Since.mk (B := w7) (wx := w') (Since.low (by assumption)))
    clear HQ hin
    go_wp2_with fail
    refine (toRats_since (n := w.heap.size) (HS7.out.trans Hend.out.low) Hsz5.out va vc v hvl Hv5.out).mono ?_
    rintro e w8 ⟨v8, z8, rfl, hr8, hs8, hle8, hb8⟩
    have H87 := zH (Hr7.out.below (Hend.out.low.trans (hb8.mono Hend.out.low.size)))
    have HS8 := zH hs8
    have hsz8 : w7.heap.size ≤ w8.heap.size := Nat.le_trans Hend.out.low.size hle8
    clear hb8 hs8
    go_wp2_with fail
    refine (laws_eqRatS w8.heap.size v6 v8 z6 z8 v (by omega) _ (Nat.le_refl _) (H87.out.mono hsz8) hr8).mono ?_
    rintro e w9 ⟨rfl, k9⟩
    have Hfin := zH (HS8.out.trans k9)
    clear k9 hr8
    go_wp2_with fail
    go_ret
    exact ⟨rfl, Hb.out.trans ((HS5.out.low.trans (Hfin.out.low.mono HS5.out.low.size)).mono Hsz.out)⟩
end Go.Proofs.Ytmjmjilpcekngaa
