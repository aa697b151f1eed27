/- A kind of arguments and results of exact laws: results about the core: laws.szCoreResult, toCoreResult, eqCoreResult, markCoreResult, heldCoreResult. -/
import Derived.Test.YtjkofijchdibdaaLkRats
import Derived.Test.YtjkofijchdibdaaCrM
import Derived.Test.YtjkofijchdibdaaLkIn
import Derived.Test.YtjkofijchdibdaaGLa
set_option maxRecDepth 100000
namespace Go.Proofs.Ytjkofijchdibdaa
open Go.RowKit
open Ve (R)
open Cr (Cor)
def CorLens (r : Cor) : Prop := r.point.length ≤ 9223372036854775807 ∧ r.weights.length ≤ 9223372036854775807
def corN (r : Cor) : Nat := r.point.length + r.weights.length
def CorOk (r : Cor) : Prop := corN r ≤ 1048576
theorem corOk {r : Cor} (h : corN r ≤ 1048576) : CorOk r := h
theorem CorOk.p {r : Cor} (h : CorOk r) : r.point.length ≤ 1048576 := by unfold CorOk corN at h; omega
theorem CorOk.w {r : Cor} (h : CorOk r) : r.weights.length ≤ 1048576 := by unfold CorOk corN at h; omega
def CorC (w : World) (x y z : Value) (r : Cor) : Prop := x = .int .i64 r.code ∧ InRats w y r.point ∧ InRats w z r.weights
def RsCor (lo hi : Nat) (w : World) (v : Value) (r : Cor) : Prop := ∃ (y z : Value) (l1 n1 l2 n2 : Nat), v = .agg #[.int .i64 r.code, y, z] ∧ RsRats l1 n1 w y r.point ∧ RsRats l2 n2 w z r.weights ∧ (lo ≤ l1 ∧ n1 ≤ hi ∧ lo ≤ l2 ∧ n2 ≤ hi) ∧ (∀ k, l1 ≤ k → k < n1 → k < l2 ∨ n2 ≤ k) ∧ hi ≤ w.heap.size
theorem CorC.up {w w' : World} {x y z : Value} {r : Cor} (h : CorC w x y z r) (hb : Below w.heap.size w w') : CorC w' x y z r := ⟨h.1, h.2.1.up hb, h.2.2.up hb⟩
theorem CorC.one {w : World} {x y z : Value} {r : Cor} (h : CorC w x y z r) : x.oneCell' = true ∧ y.oneCell' = true ∧ z.oneCell' = true := by
 obtain ⟨rfl, ⟨a, c, rfl, _⟩, ⟨b, d, rfl, _⟩⟩ := h
 exact ⟨rfl, rfl, rfl⟩
theorem CorC.rg {w : World} {x y z : Value} {r : Cor} (h : CorC w x y z r) : Rg (fun w' => CorC w' x y z r) 0 w.heap.size w :=
 ⟨h, Nat.le_refl _, fun w' hs hk => ⟨h.1, h.2.1.rg.on w' hs hk, h.2.2.rg.on w' hs hk⟩⟩
theorem RsCor.rg {lo hi : Nat} {w : World} {v : Value} {r : Cor} (h : RsCor lo hi w v r) : Rg (fun w' => RsCor lo hi w' v r) lo hi w := by
 have h0 := h
 obtain ⟨y, z, l1, n1, l2, n2, rfl, r1, r2, ⟨q1, q2, q3, q4⟩, hd, hh⟩ := h
 exact ⟨h0, hh, fun w' hs hk => ⟨y, z, l1, n1, l2, n2, rfl, r1.rg.on w' hs fun k k1 k2 => hk k (by omega) (by omega), r2.rg.on w' hs fun k k1 k2 => hk k (by omega) (by omega), ⟨q1, q2, q3, q4⟩, hd, Nat.le_trans hh hs⟩⟩
theorem RsCor.reads_c {lo hi : Nat} {w : World} {x y z : Value} {r : Cor} (h : RsCor lo hi w (.agg #[x, y, z]) r) : CorC w x y z r := by
 obtain ⟨y', z', l1, n1, l2, n2, e, r1, r2, _⟩ := h
 injection e with e
 have e0 : x = .int .i64 r.code := by have := congrArg (fun q => q[0]?) e; simpa using this
 have e1 : y = y' := by have := congrArg (fun q => q[1]?) e; simpa using this
 have e2 : z = z' := by have := congrArg (fun q => q[2]?) e; simpa using this
 subst e0 e1 e2
 exact ⟨rfl, r1.reads, r2.reads⟩
set_option maxHeartbeats 1000000 in
theorem szCor_k {w : World} {x y z : Value} {r : Cor} (h : CorC w x y z r) (hn : CorLens r) (left : Int) (hl0 : 0 ≤ left) (hl1 : left ≤ 1048576) :
  Calls Try.prog 21 #[.agg #[x, y, z], .int .i64 left] w fun e w' => (∃ q : Int, e = .returned (.int .i64 q) ∧ -1 ≤ q ∧ q ≤ 1048576 ∧ (0 ≤ q → (corN r : Int) + q = left)) ∧ Below w.heap.size w w' := by
 obtain ⟨rfl, h1, h2⟩ := h
 have hb := (Below.refl w.heap.size w).alloc (Nat.le_refl _) (.cells #[.int .i64 r.code, y, z] 46)
 have hq := CellsAt.new w #[.int .i64 r.code, y, z] 46
 have H1 := zH (h1.up hb)
 have H2 := zH (h2.up hb)
 have HB := zH hb
 have HQ := zH hq
 obtain ⟨ay, cy, ey, _⟩ := h1
 obtain ⟨az, cz, ez, _⟩ := h2
 have hn1 := hn.1
 have hn2 := hn.2
 obtain ⟨q0, q1, q2⟩ := three hq
 subst ey ez
 clear hb hq hn
 go_enter Try.func21, Try.ntmps21
 go_wp2_with fail
 generalize w.alloc (.cells #[.int .i64 r.code, .slice ay r.point.length cy, .slice az r.weights.length cz] 46) = W at *
 refine (szRats_k H1.out hn1 left hl0 hl1).mono ?_
 rintro e w1 ⟨⟨q, rfl, hq0, hq1, hq2⟩, k1⟩
 have HB1 := zH (HB.out.trans (k1.mono HB.out.size))
 have HW1 := zH (HQ.out.below k1)
 have H3 := zH (H2.out.up k1)
 clear k1 q0 q1 q2 H2 H1 HQ
 obtain ⟨q0, q1, q2⟩ := three HW1.out
 by_cases hneg : q < 0
 ·
  have hb2 : decide (q < 0) = true := by rw [decide_eq_true_iff]; exact hneg
  go_wp2_with fail
  go_ret
  exact ⟨⟨-1, rfl, by omega, by omega, fun h => by omega⟩, HB1.out⟩
 ·
  have hb2 : decide (q < 0) = false := by rw [decide_eq_false_iff_not]; exact hneg
  have Hq2 := zH hq2
  clear hq2
  go_wp2_with fail
  refine (szRats_k H3.out hn2 q (by omega) hq1).mono ?_
  rintro e w2 ⟨⟨s, rfl, hs0, hs1, hs2⟩, k2⟩
  have HB2 := zH (HB1.out.trans (k2.mono HB1.out.size))
  have Hs2 := zH hs2
  clear k2 hs2 q0 q1 q2
  by_cases hneg2 : s < 0
  ·
   have hb3 : decide (s < 0) = true := by rw [decide_eq_true_iff]; exact hneg2
   go_wp2_with fail
   go_ret
   exact ⟨⟨-1, rfl, by omega, by omega, fun h => by omega⟩, HB2.out⟩
  ·
   have hb3 : decide (s < 0) = false := by rw [decide_eq_false_iff_not]; exact hneg2
   go_wp2_with fail
   go_ret
   refine ⟨⟨s, rfl, by omega, by omega, fun h => ?_⟩, HB2.out⟩
   have := Hq2.out (by omega)
   have := Hs2.out (by omega)
   unfold corN
   omega
set_option maxHeartbeats 1000000 in
theorem toCor_k {w : World} {x y z : Value} {r : Cor} (h : CorC w x y z r) (hf : CorOk r) :
  Calls Try.prog 23 #[.agg #[x, y, z]] w fun e w' => (∃ x y z : Value, e = .returned (.agg #[x, y, z]) ∧ RsCor w.heap.size w'.heap.size w' (.agg #[x, y, z]) r) ∧ Below w.heap.size w w' := by
 obtain ⟨rfl, h1, h2⟩ := h
 have hp := hf.p
 have hw := hf.w
 obtain ⟨W, hW⟩ : ∃ W, W = ((w.alloc (.cells #[.int .i64 r.code, y, z] 46)).alloc (.cells #[.int .i64 0, .slice none 0 0, .slice none 0 0] 50)).alloc (.cells #[.int .i64 r.code, .slice none 0 0, .slice none 0 0] 50) := ⟨_, rfl⟩
 have hc0 := ((CellsAt.new w #[.int .i64 r.code, y, z] 46).more (.cells #[.int .i64 0, .slice none 0 0, .slice none 0 0] 50)).more (.cells #[.int .i64 r.code, .slice none 0 0, .slice none 0 0] 50)
 have hc1 := (CellsAt.new (w.alloc (.cells #[.int .i64 r.code, y, z] 46)) #[.int .i64 0, .slice none 0 0, .slice none 0 0] 50).more (.cells #[.int .i64 r.code, .slice none 0 0, .slice none 0 0] 50)
 have hc2 := CellsAt.new ((w.alloc (.cells #[.int .i64 r.code, y, z] 46)).alloc (.cells #[.int .i64 0, .slice none 0 0, .slice none 0 0] 50)) #[.int .i64 r.code, .slice none 0 0, .slice none 0 0] 50
 rw [← hW] at hc0
 rw [size1, ← hW] at hc1
 rw [size2, ← hW] at hc2
 have hb := (((Below.refl w.heap.size w).alloc (Nat.le_refl _) (.cells #[.int .i64 r.code, y, z] 46)).alloc (by rw [size1]; omega) (.cells #[.int .i64 0, .slice none 0 0, .slice none 0 0] 50)).alloc (by rw [size2]; omega) (.cells #[.int .i64 r.code, .slice none 0 0, .slice none 0 0] 50)
 rw [← hW] at hb
 have hsz : W.heap.size = w.heap.size + 3 := by rw [hW, size1, size2]
 have H1 := zH (h1.up hb)
 have H2 := zH h2
 have HB := zH hb
 have HC0 := zH hc0
 have HC1 := zH hc1
 have HC2 := zH hc2
 have HW := zH hW
 have HSz := zH hsz
 obtain ⟨ay, cy, ey, _⟩ := h1
 obtain ⟨az, cz, ez, _⟩ := h2
 subst ey ez
 clear hb hc0 hc1 hc2 hW hsz hf
 go_enter Try.func23, Try.ntmps23
 go_wp2_with fail
 rw [← HW.out]
 clear HW
 refine (toRats_k H1.out hp).mono ?_
 rintro e w1 ⟨⟨v1, rfl, hr1⟩, k1⟩
 have HR1 := zH hr1.rg
 have HB1 := zH (HB.out.trans (k1.mono HB.out.size))
 have HC3 := zH (HC0.out.below k1)
 have HC4 := zH (HC1.out.below k1)
 have HC5 := zH (HC2.out.below k1)
 have hsz1 : w.heap.size + 3 ≤ w1.heap.size := by have := k1.size; have := HSz.out; omega
 obtain ⟨a1, c1, rfl, _⟩ := hr1.reads
 clear k1 hr1 HB H1 HC0 HC1 HC2
 obtain ⟨o0, o1, o2⟩ := three HC5.out
 have f1 : w1.frozen? ⟨w.heap.size + 1 + 1, 1, none⟩ = false := HC5.out.free 1
 obtain ⟨p0, p1, p2⟩ := three HC3.out
 have HT1 : Hid (Turned w.heap.size (w.heap.size + 3) w1 (w1.setCell ⟨w.heap.size + 1 + 1, 1, none⟩ (.slice a1 r.point.length c1))) := (Turned.refl _ _ _).setCell (p := ⟨w.heap.size + 1 + 1, 1, none⟩) (by simp only; omega) (by simp only; omega) _
 have HB2 : Hid (Below w.heap.size w (w1.setCell ⟨w.heap.size + 1 + 1, 1, none⟩ (.slice a1 r.point.length c1))) := HB1.out.setCell (p := ⟨w.heap.size + 1 + 1, 1, none⟩) (show w.heap.size ≤ w.heap.size + 1 + 1 by omega) _
 have HR2 := zH (HR1.out.turned HT1.out (.inr (by have := HSz.out; omega)))
 have HC6 := zH (HC3.out.other (p := ⟨w.heap.size + 1 + 1, 1, none⟩) (show w.heap.size + 1 + 1 ≠ w.heap.size by omega) (.slice a1 r.point.length c1))
 have HC7 := zH (HC4.out.other (p := ⟨w.heap.size + 1 + 1, 1, none⟩) (show w.heap.size + 1 + 1 ≠ w.heap.size + 1 by omega) (.slice a1 r.point.length c1))
 have HC8 : Hid (CellsAt (w1.setCell ⟨w.heap.size + 1 + 1, 1, none⟩ (.slice a1 r.point.length c1)) (w.heap.size + 1 + 1) #[.int .i64 r.code, .slice a1 r.point.length c1, .slice none 0 0] 50) := Tri.set1 HC5.out (.slice a1 r.point.length c1)
 have H4 := zH (H2.out.up HB2.out)
 have hsz2 : w1.heap.size ≤ (w1.setCell ⟨w.heap.size + 1 + 1, 1, none⟩ (.slice a1 r.point.length c1)).heap.size := HT1.out.size
 clear H2
 go_wp2_with fail
 clear o0 o1 o2 f1 p0 p1 p2 HC3 HC4 HC5 HR1 HT1 HB1
 generalize w1.setCell ⟨w.heap.size + 1 + 1, 1, none⟩ (.slice a1 r.point.length c1) = W2 at *
 obtain ⟨p0, p1, p2⟩ := three HC6.out
 go_wp2_with fail
 refine (toRats_k H4.out hw).mono ?_
 rintro e w3 ⟨⟨v2, rfl, hr2⟩, k2⟩
 have HS3 := zH hr2.rg
 have HR3 := zH (HR2.out.below k2)
 have HB3 := zH (HB2.out.trans (k2.mono HB2.out.size))
 have HC9 := zH (HC7.out.below k2)
 have HC10 := zH (HC8.out.below k2)
 have hsz3 := k2.size
 obtain ⟨a2, c2, rfl, _⟩ := hr2.reads
 clear k2 hr2 p0 p1 p2 HB2 HC6 HC7 HC8 HR2 H4
 obtain ⟨o0, o1, o2⟩ := three HC10.out
 have f2 : w3.frozen? ⟨w.heap.size + 1 + 1, 2, none⟩ = false := HC10.out.free 2
 obtain ⟨z0, z1, z2⟩ := three HC9.out
 have g0 : w3.frozen? ⟨w.heap.size + 1, 0, none⟩ = false := HC9.out.free 0
 have g1 : w3.frozen? ⟨w.heap.size + 1, 1, none⟩ = false := HC9.out.free 1
 have g2 : w3.frozen? ⟨w.heap.size + 1, 2, none⟩ = false := HC9.out.free 2
 have hx : w.heap.size + 1 ≠ w.heap.size + 1 + 1 := by omega
 go_wp2_with fail
 have HF : Hid (CellsAt ((((w3.setCell ⟨w.heap.size + 1 + 1, 2, none⟩ (.slice a2 r.weights.length c2)).setCell ⟨w.heap.size + 1, 0, none⟩ (.int .i64 r.code)).setCell ⟨w.heap.size + 1, 1, none⟩ (.slice a1 r.point.length c1)).setCell ⟨w.heap.size + 1, 2, none⟩ (.slice a2 r.weights.length c2)) (w.heap.size + 1) #[.int .i64 r.code, .slice a1 r.point.length c1, .slice a2 r.weights.length c2] 50) := Tri.set2 (Tri.set1 (Tri.set0 (HC9.out.other (p := ⟨w.heap.size + 1 + 1, 2, none⟩) (show w.heap.size + 1 + 1 ≠ w.heap.size + 1 by omega) (.slice a2 r.weights.length c2)) (.int .i64 r.code)) (.slice a1 r.point.length c1)) (.slice a2 r.weights.length c2)
 have HT : Hid (Turned w.heap.size (w.heap.size + 3) w3 ((((w3.setCell ⟨w.heap.size + 1 + 1, 2, none⟩ (.slice a2 r.weights.length c2)).setCell ⟨w.heap.size + 1, 0, none⟩ (.int .i64 r.code)).setCell ⟨w.heap.size + 1, 1, none⟩ (.slice a1 r.point.length c1)).setCell ⟨w.heap.size + 1, 2, none⟩ (.slice a2 r.weights.length c2))) := by
  refine ((((Turned.refl _ _ _).setCell ?_ ?_ _).setCell ?_ ?_ _).setCell ?_ ?_ _).setCell ?_ ?_ _ <;> simp only <;> omega
 refine bodyPost_ret (v := .agg #[.int .i64 r.code, .slice a1 r.point.length c1, .slice a2 r.weights.length c2]) (by
  obtain ⟨z0, z1, z2⟩ := three HF.out
  revert z0 z1 z2
  generalize ((((w3.setCell ⟨w.heap.size + 1 + 1, 2, none⟩ (.slice a2 r.weights.length c2)).setCell ⟨w.heap.size + 1, 0, none⟩ (.int .i64 r.code)).setCell ⟨w.heap.size + 1, 1, none⟩ (.slice a1 r.point.length c1)).setCell ⟨w.heap.size + 1, 2, none⟩ (.slice a2 r.weights.length c2)) = W4
  intro z0 z1 z2
  simp [results, Try.results23, go_sem, z0, z1, z2]) rfl ⟨⟨_, _, _, rfl, ?_⟩, ?_⟩
 ·
  have h1 := (HR3.out.turned HT.out (.inr (by have := HSz.out; omega))).get
  have h2 := (HS3.out.turned HT.out (.inr (by omega))).get
  have hs4 := HT.out.size
  exact ⟨_, _, _, _, _, _, rfl, h1, h2, ⟨by have := HSz.out; omega, by omega, by omega, hs4⟩, fun k k1 k2 => .inl (by omega), Nat.le_refl _⟩
 ·
  exact HB3.out.trans (HT.out.low (by omega))
theorem toCor_c {w : World} {x y z : Value} {r : Cor} (h : CorC w x y z r) (hf : CorOk r) :
  Calls Try.prog 23 #[.agg #[x, y, z]] w fun e w' => (∃ x y z : Value, e = .returned (.agg #[x, y, z]) ∧ CorC w' x y z r) ∧ Below w.heap.size w w' :=
 (toCor_k h hf).mono fun _ _ ⟨⟨x, y, z, h1, h2⟩, hb⟩ => ⟨⟨x, y, z, h1, h2.reads_c⟩, hb⟩
set_option maxHeartbeats 1000000 in
theorem eqCor_k {w : World} {x y z x' y' z' : Value} {r : Cor} (h : CorC w x y z r) (h' : CorC w x' y' z' r) (hf : CorOk r) :
  Calls Try.prog 25 #[.agg #[x, y, z], .agg #[x', y', z']] w fun e w' => e = .returned (.bool true) ∧ Below w.heap.size w w' := by
 obtain ⟨rfl, h1, h2⟩ := h
 obtain ⟨rfl, h1', h2'⟩ := h'
 have hp := hf.p
 have hw := hf.w
 have hb := ((Below.refl w.heap.size w).alloc (Nat.le_refl _) (.cells #[.int .i64 r.code, y, z] 50)).alloc (by rw [size1]; omega) (.cells #[.int .i64 r.code, y', z'] 50)
 have hc0 := (CellsAt.new w #[.int .i64 r.code, y, z] 50).more (.cells #[.int .i64 r.code, y', z'] 50)
 have hc1 := CellsAt.new (w.alloc (.cells #[.int .i64 r.code, y, z] 50)) #[.int .i64 r.code, y', z'] 50
 rw [size1] at hc1
 have H1 := zH (h1.up hb)
 have H1' := zH (h1'.up hb)
 have H2 := zH (h2.up hb)
 have H2' := zH (h2'.up hb)
 have HB := zH hb
 have HC0 := zH hc0
 have HC1 := zH hc1
 obtain ⟨q0, q1, q2⟩ := three hc0
 obtain ⟨p0, p1, p2⟩ := three hc1
 obtain ⟨a1, c1, e1, _⟩ := h1
 obtain ⟨a2, c2, e2, _⟩ := h2
 obtain ⟨a3, c3, e3, _⟩ := h1'
 obtain ⟨a4, c4, e4, _⟩ := h2'
 subst e1 e2 e3 e4
 have hne : (r.code != r.code) = false := by simp
 clear hb hc0 hc1 hf
 go_enter Try.func25, Try.ntmps25
 go_wp2_with fail
 generalize (w.alloc (.cells #[.int .i64 r.code, .slice a1 r.point.length c1, .slice a2 r.weights.length c2] 50)).alloc (.cells #[.int .i64 r.code, .slice a3 r.point.length c3, .slice a4 r.weights.length c4] 50) = W at *
 refine (eqRats_k H1.out H1'.out hp).mono ?_
 rintro e w1 ⟨rfl, k1⟩
 have HB1 := zH (HB.out.trans (k1.mono HB.out.size))
 have H3 := zH (H2.out.up k1)
 have H3' := zH (H2'.out.up k1)
 have HC2 := zH (HC0.out.below k1)
 have HC3 := zH (HC1.out.below k1)
 clear k1 q0 q1 q2 p0 p1 p2 HC0 HC1 H1 H1' H2 H2'
 obtain ⟨q0, q1, q2⟩ := three HC2.out
 obtain ⟨p0, p1, p2⟩ := three HC3.out
 go_wp2_with fail
 refine (eqRats_k H3.out H3'.out hw).mono ?_
 rintro e w2 ⟨rfl, k2⟩
 have HB2 := zH (HB1.out.trans (k2.mono HB1.out.size))
 clear k2 q0 q1 q2 p0 p1 p2
 go_wp2_with fail
 go_ret
 exact ⟨rfl, HB2.out⟩
end Go.Proofs.Ytjkofijchdibdaa
