/- The exact laws over an LP that answer a bool: words for their walks; FnExactIsValidLP. -/
import Derived.Test.YtfbhnjdbamahkaaGLr
import Derived.Deep.RegionHeld3
namespace Go.Proofs.Ytfbhnjdbamahkaa
open Go.RowKit
open Ve (R)
open Lp (P Res)
/-- The value of an LP. -/
def lpV (a b c : Option Addr) (c1 c2 c3 : Nat) (p : P) : Value := .agg #[.slice a p.A.length c1, .slice b p.B.length c2, .slice c p.C.length c3]
/-- A function of one LP that answers a bool. -/
def LpBool (f : FuncId) (g : P → Bool) : Prop := ∀ (B : Nat) (a b c : Option Addr) (c1 c2 c3 : Nat) (p : P), LpFits p → ∀ w : World, B ≤ w.heap.size → LpIn B w a b c p →
  Calls Try.prog f #[lpV a b c c1 c2 c3 p] w fun e w' => e = .returned (.bool (g p)) ∧ Below w.heap.size w w'
theorem LpIn.since {B wx : World} {n : Nat} {a b c : Option Addr} {p : P} (h : LpIn n B a b c p) (hn : n ≤ B.heap.size) (hs : Since B wx) : LpIn wx.heap.size wx a b c p :=
  (h.below (hs.low.mono hn)).mono (Nat.le_trans hn hs.low.size)
theorem toLP_since {B wx : World} {n : Nat} (hs : Since B wx) (hn : n ≤ B.heap.size) (a b c : Option Addr) (c1 c2 c3 : Nat) (p : P) (hf : LpFits p) (hz : LpIn n B a b c p) :
    Calls Try.prog 26 #[.agg #[.slice a p.A.length c1, .slice b p.B.length c2, .slice c p.C.length c3]] wx
      fun e w' => ∃ (a' b' c' : Option Addr) (d1 d2 d3 : Nat), e = .returned (.agg #[.slice a' p.A.length d1, .slice b' p.B.length d2, .slice c' p.C.length d3]) ∧ LpIn w'.heap.size w' a' b' c' p ∧ Since B w' :=
  (toLP wx.heap.size a b c c1 c2 c3 p hf wx (Nat.le_refl _) (hz.since hn hs)).mono fun e w' ⟨v, he, ho, hb⟩ => by
    obtain ⟨a', b', c', d1, d2, d3, rfl, hr, hh⟩ := ho.reads
    exact ⟨a', b', c', d1, d2, d3, he, hr, hs.trans hb⟩
theorem eqLP_since {B wx : World} {n : Nat} (hs : Since B wx) (hn : n ≤ B.heap.size) (a b c a' b' c' : Option Addr) (c1 c2 c3 d1 d2 d3 : Nat) (p : P) (hf : LpFits p) (hz : LpIn n B a b c p) (hy : LpIn wx.heap.size wx a' b' c' p) :
    Calls Try.prog 28 #[.agg #[.slice a p.A.length c1, .slice b p.B.length c2, .slice c p.C.length c3], .agg #[.slice a' p.A.length d1, .slice b' p.B.length d2, .slice c' p.C.length d3]] wx
      fun e w' => e = .returned (.bool true) ∧ Since B w' :=
  (eqLP wx.heap.size a b c a' b' c' c1 c2 c3 d1 d2 d3 p hf wx (Nat.le_refl _) (hz.since hn hs) hy).mono fun _ _ ⟨he, hb⟩ => ⟨he, hs.trans hb⟩
/-- The six cells of two LPs' boxes. -/
def LpSix (q1 q2 : Nat) (x y z x' y' z' : Value) (B : World) : Prop := ∃ t1 t2, Tri B q1 x y z t1 ∧ Tri B q2 x' y' z' t2
theorem LpSix.seven {q1 q2 : Nat} {x y z x' y' z' : Value} {B wx : World} (H : Hid (LpSix q1 q2 x y z x' y' z' B)) (h : Since B wx) :
    wx.cell? ⟨q1, 0, none⟩ = some x ∧ wx.cell? ⟨q1, 1, none⟩ = some y ∧ wx.cell? ⟨q1, 2, none⟩ = some z ∧ wx.cell? ⟨q2, 0, none⟩ = some x' ∧ wx.cell? ⟨q2, 1, none⟩ = some y' ∧ wx.cell? ⟨q2, 2, none⟩ = some z' ∧ Since B wx := by
  obtain ⟨t1, t2, h1, h2⟩ := H.out
  obtain ⟨a0, a1, a2, _⟩ := (h1.below h.low).cells
  obtain ⟨b0, b1, b2, _⟩ := (h2.below h.low).cells
  exact ⟨a0, a1, a2, b0, b1, b2, h⟩
theorem ne_self (g : Bool) : (g != g) = false := by cases g <;> rfl
set_option maxRecDepth 100000 in
set_option maxHeartbeats 4000000 in
theorem fnExactIsValidLP.walk_of (g : P → Bool) (hS : LpBool 25 g) (hI : LpBool 27 g) (a b c : Option Addr) (c1 c2 c3 : Nat) (p : P) (w : World) (hl : LpLens p) (hz : LpIn w.heap.size w a b c p) :
    Calls Try.prog 4 #[.agg #[.slice a p.A.length c1, .slice b p.B.length c2, .slice c p.C.length c3]] w fun e w' => e = .returned (.bool true) ∧ Below w.heap.size w w' := by
  obtain ⟨gp, hgp⟩ : ∃ gp, g p = gp := ⟨_, rfl⟩
  have HS := Lib.hid (fun (h1 : LpFits p) B a b c c1 c2 c3 w h2 h3 => hgp ▸ hS B a b c c1 c2 c3 p h1 w h2 h3)
  have HI := Lib.hid (fun (h1 : LpFits p) B a b c c1 c2 c3 w h2 h3 => hgp ▸ hI B a b c c1 c2 c3 p h1 w h2 h3)
  have hb := (Below.refl w.heap.size w).alloc (Nat.le_refl _) (.cells #[.slice a p.A.length c1, .slice b p.B.length c2, .slice c p.C.length c3] 50)
  have hx := Tri.new w (.slice a p.A.length c1) (.slice b p.B.length c2) (.slice c p.C.length c3) 50
  have Hb := Lib.hid hb
  have Hx := Lib.hid hx
  have Hz := Lib.hid (hz.below hb)
  have HL := Lib.hid hl
  clear hz hb hx hS hI hgp hl
  go_enter Try.func4, Try.ntmps4
  go_wp2_with fail
  refine (szLP w.heap.size a b c c1 c2 c3 p 1048576 HL.out (by omega) (by omega) _ Hb.out.size Hz.out).mono ?_
  rintro e w1 ⟨r, rfl, hr0, hr1, hr2, k1⟩
  have hx1 := Hx.out.below k1
  obtain ⟨x0, x1, x2, _⟩ := hx1.cells
  have Hx1 := Lib.hid hx1
  have Hb1 := Lib.hid (Hb.out.trans (k1.mono Hb.out.size))
  have Hz1 := Lib.hid (Hz.out.below (k1.mono Hb.out.size))
  clear hx1 k1
  by_cases hneg : r < 0
  · have hb2 : decide (r < 0) = true := by rw [decide_eq_true_iff]; exact hneg
    go_wp2_with fail
    go_ret
    exact ⟨rfl, Hb1.out⟩
  · have hb2 : decide (r < 0) = false := by rw [decide_eq_false_iff_not]; exact hneg
    have HF := Lib.hid (lpFits (p := p) (by have := hr2 (by omega); omega))
    clear hr2
    go_wp2_with fail
    refine (toLP w.heap.size a b c c1 c2 c3 p HF.out _ Hb1.out.size Hz1.out).mono ?_
    rintro e w2 ⟨v, rfl, ho, k2⟩
    obtain ⟨a1, b1, q1, d1, d2, d3, rfl, hr, _⟩ := ho.reads
    have Hr := Lib.hid hr
    have Hx2 := Lib.hid (Hx1.out.below k2)
    have Hb2 := Lib.hid (Hb1.out.trans (k2.mono Hb1.out.size))
    have Hz2 := Lib.hid (Hz1.out.below (k2.mono Hb1.out.size))
    clear hr ho k2
    go_wp2_with fail
    refine (HS.out HF.out w2.heap.size a1 b1 q1 d1 d2 d3 w2 (Nat.le_refl _) Hr.out).mono ?_
    rintro e w3 ⟨rfl, k3⟩
    have hx3 := Hx2.out.below k3
    clear x0 x1 x2
    obtain ⟨x0, x1, x2, _⟩ := hx3.cells
    have Hx3 := Lib.hid hx3
    have Hb3 := Lib.hid (Hb2.out.trans (k3.mono Hb2.out.size))
    have Hz3 := Lib.hid (Hz2.out.below (k3.mono Hb2.out.size))
    clear hx3 k3
    go_wp2_with fail
    refine (toLP w.heap.size a b c c1 c2 c3 p HF.out _ Hb3.out.size Hz3.out).mono ?_
    rintro e w4 ⟨v, rfl, ho, k4⟩
    obtain ⟨a2, b2, q2, f1, f2, f3, rfl, hr, hh⟩ := ho.reads
    have Hx4 := Lib.hid ((Hx3.out.below k4).more (.cells #[.slice a2 p.A.length f1, .slice b2 p.B.length f2, .slice q2 p.C.length f3] 38))
    have Hb4 := Lib.hid ((Hb3.out.trans (k4.mono Hb3.out.size)).alloc (by have := Hb3.out.size; have := k4.size; omega) (.cells #[.slice a2 p.A.length f1, .slice b2 p.B.length f2, .slice q2 p.C.length f3] 38))
    have Hy4 := Lib.hid (Tri.new w4 (.slice a2 p.A.length f1) (.slice b2 p.B.length f2) (.slice q2 p.C.length f3) 38)
    have hal : Below w4.heap.size w4 (w4.alloc (.cells #[.slice a2 p.A.length f1, .slice b2 p.B.length f2, .slice q2 p.C.length f3] 38)) := (Below.refl _ _).alloc (Nat.le_refl _) _
    have Hz4 := Lib.hid ((Hz3.out.below (k4.mono Hb3.out.size)).below (hal.mono (by have := Hb3.out.size; have := k4.size; omega)))
    have Hr4 := Lib.hid (hr.below hal)
    clear hr ho k4 hh hal
    go_wp2_with fail
    refine (HI.out HF.out w4.heap.size a2 b2 q2 f1 f2 f3 _ (by rw [size1]; omega) Hr4.out).mono ?_
    rintro e w5 ⟨rfl, k5⟩
    have Hx5 := Lib.hid (Hx4.out.below k5)
    have Hy5 := Lib.hid (Hy4.out.below k5)
    have Hb5 := Lib.hid (Hb4.out.trans (k5.mono Hb4.out.size))
    have Hz5 := Lib.hid (Hz4.out.below (k5.mono Hb4.out.size))
    have Hr5 := Lib.hid (Hr4.out.below (k5.mono (by rw [size1]; omega)))
    have hle : w4.heap.size ≤ w5.heap.size := by have := k5.size; rw [size1] at this; omega
    clear k5 x0 x1 x2
    have hne := ne_self gp
    have HQ : Hid (LpSix w.heap.size w4.heap.size (.slice a p.A.length c1) (.slice b p.B.length c2) (.slice c p.C.length c3) (.slice a2 p.A.length f1) (.slice b2 p.B.length f2) (.slice q2 p.C.length f3) w5) := ⟨_, _, Hx5.out, Hy5.out⟩
    have hin := Since.refl w5
    have hsz := Hb5.out.size
    go_wp2_with fail
    go_region_held3 (fun w' => w'.cell? ⟨w.heap.size, 0, none⟩ = some (.slice a p.A.length c1) ∧ w'.cell? ⟨w.heap.size, 1, none⟩ = some (.slice b p.B.length c2) ∧ w'.cell? ⟨w.heap.size, 2, none⟩ = some (.slice c p.C.length c3) ∧ w'.cell? ⟨w4.heap.size, 0, none⟩ = some (.slice a2 p.A.length f1) ∧ w'.cell? ⟨w4.heap.size, 1, none⟩ = some (.slice b2 p.B.length f2) ∧ w'.cell? ⟨w4.heap.size, 2, none⟩ = some (.slice q2 p.C.length f3) ∧ Since w5 w') (first | exact LpSix.seven HQ (by assumption) | exact LpSix.seven HQ (Since.drew (by assumption)))
      (first
        | (go_at_call 26; refine (toLP_since (B := w5) (n := w.heap.size) (by first | assumption | exact Since.drew (by assumption)) hsz a b c c1 c2 c3 p HF.out Hz5.out).mono ?_; rintro e w' ⟨a3, b3, q3, g1, g2, g3, rfl, hr3, hin2⟩)
        | (go_at_call 28; refine (eqLP_since (B := w5) (n := w4.heap.size) (by first | assumption | exact Since.drew (by assumption)) hle a2 b2 q2 _ _ _ f1 f2 f3 _ _ _ p HF.out Hr5.out (by first | assumption | exact LpIn.drewN (by assumption) 1)).mono ?_; rintro e w' ⟨rfl, hin3⟩))
    all_goals
      have Hend := Lib.hid (Hb5.out.trans ((Since.low (B := w5) (wx := w') (by assumption)).mono hsz))
      clear HQ hin
      go_wp2_with fail
      go_ret
      exact ⟨rfl, Hend.out⟩
end Go.Proofs.Ytfbhnjdbamahkaa
