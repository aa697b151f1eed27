/- The exact laws over an LP that answer a bool: words for their walks; FnExactIsValidLP. -/
import Derived.Test.YtmjmjilpcekngaaGLr
import Derived.Deep.RegionHeld3
namespace Go.Proofs.Ytmjmjilpcekngaa
open Go.RowKit
open Ve (R)
open Lp (P Res)
def lpV (a b c : Option Addr) (c1 c2 c3 : Nat) (p : P) : Value := .agg #[.slice a p.A.length c1, .slice b p.B.length c2, .slice c p.C.length c3]
def LpBool (f : FuncId) (g : P → Bool) : Prop := ∀ (B : Nat) (a b c : Option Addr) (c1 c2 c3 : Nat) (p : P), LpFits p → ∀ w : World, B ≤ w.heap.size → LpIn B w a b c p →
 Calls Try.prog f #[lpV a b c c1 c2 c3 p] w fun e w' => e = .returned (.bool (g p)) ∧ Below w.heap.size w w'
theorem LpIn.since {B wx : World} {n : Nat} {a b c : Option Addr} {p : P} (h : LpIn n B a b c p) (hn : n ≤ B.heap.size) (hs : Since B wx) : LpIn wx.heap.size wx a b c p :=
 (h.below (hs.low.mono hn)).mono (Nat.le_trans hn hs.low.size)
theorem toLP_since {B wx : World} {n : Nat} (hs : Since B wx) (hn : n ≤ B.heap.size) (a b c : Option Addr) (c1 c2 c3 : Nat) (p : P) (hf : LpFits p) (hz : LpIn n B a b c p) :
  Calls Try.prog 19 #[.agg #[.slice a p.A.length c1, .slice b p.B.length c2, .slice c p.C.length c3]] wx
   fun e w' => ∃ (a' b' c' : Option Addr) (d1 d2 d3 : Nat), e = .returned (.agg #[.slice a' p.A.length d1, .slice b' p.B.length d2, .slice c' p.C.length d3]) ∧ LpIn w'.heap.size w' a' b' c' p ∧ Since B w' :=
 (toLP wx.heap.size a b c c1 c2 c3 p hf wx (Nat.le_refl _) (hz.since hn hs)).mono fun e w' ⟨v, he, ho, hb⟩ => by
  obtain ⟨a', b', c', d1, d2, d3, rfl, hr, hh⟩ := ho.reads
  exact ⟨a', b', c', d1, d2, d3, he, hr, hs.trans hb⟩
theorem eqLP_since {B wx : World} {n : Nat} (hs : Since B wx) (hn : n ≤ B.heap.size) (a b c a' b' c' : Option Addr) (c1 c2 c3 d1 d2 d3 : Nat) (p : P) (hf : LpFits p) (hz : LpIn n B a b c p) (hy : LpIn wx.heap.size wx a' b' c' p) :
  Calls Try.prog 21 #[.agg #[.slice a p.A.length c1, .slice b p.B.length c2, .slice c p.C.length c3], .agg #[.slice a' p.A.length d1, .slice b' p.B.length d2, .slice c' p.C.length d3]] wx
   fun e w' => e = .returned (.bool true) ∧ Since B w' :=
 (eqLP wx.heap.size a b c a' b' c' c1 c2 c3 d1 d2 d3 p hf wx (Nat.le_refl _) (hz.since hn hs) hy).mono fun _ _ ⟨he, hb⟩ => ⟨he, hs.trans hb⟩
def LpSix (q1 q2 : Nat) (x y z x' y' z' : Value) (B : World) : Prop := ∃ t1 t2, Tri B q1 x y z t1 ∧ Tri B q2 x' y' z' t2
theorem LpSix.seven {q1 q2 : Nat} {x y z x' y' z' : Value} {B wx : World} (H : Hid (LpSix q1 q2 x y z x' y' z' B)) (h : Since B wx) :
  wx.cell? ⟨q1, 0, none⟩ = some x ∧ wx.cell? ⟨q1, 1, none⟩ = some y ∧ wx.cell? ⟨q1, 2, none⟩ = some z ∧ wx.cell? ⟨q2, 0, none⟩ = some x' ∧ wx.cell? ⟨q2, 1, none⟩ = some y' ∧ wx.cell? ⟨q2, 2, none⟩ = some z' ∧ Since B wx := by
 obtain ⟨t1, t2, h1, h2⟩ := H.out
 obtain ⟨a0, a1, a2, _⟩ := (h1.below h.low).cells
 obtain ⟨b0, b1, b2, _⟩ := (h2.below h.low).cells
 exact ⟨a0, a1, a2, b0, b1, b2, h⟩
theorem ne_self (g : Bool) : (g != g) = false := by cases g <;> rfl
end Go.Proofs.Ytmjmjilpcekngaa
