/- The parts LkRes, SyL1, SyL2. -/
import Derived.Test.YtmjmjilpcekngaaGreatLkRats
import Derived.Test.YtmjmjilpcekngaaGreatGLr
import Derived.Test.YtmjmjilpcekngaaGreatGLk
import Derived.Test.YtmjmjilpcekngaaGreatSxG
import Derived.Test.YtmjmjilpcekngaaGreatGSz
set_option maxRecDepth 100000
namespace Go.Proofs.YtmjmjilpcekngaaGreat
open Go.RowKit
open Ve (R)
open Lp (P Res)
theorem own_range {B : Nat} {w : World} {v : Value} {xs : List R} (h : OwnRats B w v xs) (hB : B ≤ w.heap.size) : ∃ l n, RsRats l n w v xs ∧ B ≤ l ∧ n ≤ w.heap.size ∧ ∀ k, l ≤ k → k < n → v.ownBlock = some k := by
 have h' := h
 obtain ⟨h1, ⟨rfl, _⟩ | ⟨g, cap, cur, rfl, hg, hh, hr⟩⟩ := h'
 ·
  exact ⟨B, B, ⟨RowAt.of_own h fun g hg => by simp [Value.ownBlock] at hg, hB⟩, Nat.le_refl _, hB, fun k h1 h2 => by omega⟩
 ·
  have hl := lt_of_at hh
  have ho : OwnRats g w (.slice (some ⟨g, 0, none⟩) xs.length cap) xs := ⟨h1, .inr ⟨g, cap, cur, rfl, Nat.le_refl _, hh, hr⟩⟩
  refine ⟨g, g + 1, ⟨RowAt.of_own ho fun k hk => ?_, hl⟩, hg, hl, fun k h1 h2 => ?_⟩
  ·
   simp [Value.ownBlock] at hk
   omega
  ·
   obtain rfl : k = g := by omega
   rfl
def RsRes (lo hi : Nat) (w : World) (v : Value) (r : Res) : Prop := ∃ (a b c : Option Addr) (c1 c2 c3 l1 n1 l2 n2 l3 n3 : Nat), v = resV a b c c1 c2 c3 r ∧
 (RsRats l1 n1 w (.slice a r.X.length c1) r.X ∧ RsRats l2 n2 w (.slice b r.Y.length c2) r.Y ∧ RsRats l3 n3 w (.slice c r.ray.length c3) r.ray) ∧ (lo ≤ l1 ∧ n1 ≤ hi ∧ lo ≤ l2 ∧ n2 ≤ hi ∧ lo ≤ l3 ∧ n3 ≤ hi) ∧
 ((∀ k, l1 ≤ k → k < n1 → (k < l2 ∨ n2 ≤ k) ∧ (k < l3 ∨ n3 ≤ k)) ∧ (∀ k, l2 ≤ k → k < n2 → k < l3 ∨ n3 ≤ k)) ∧ hi ≤ w.heap.size
theorem RsRes.of_sol {r : Res} {w w' : World} {e : Ending} (h : MakesSol r w e w') : ∃ v, e = .returned v ∧ RsRes w.heap.size w'.heap.size w' v r ∧ Below w.heap.size w w' := by
 obtain ⟨⟨a, b, c, c1, c2, c3, rfl, hX, hY, hZ, h1, h2⟩, hb⟩ := h
 obtain ⟨l1, n1, r1, q1, s1, b1⟩ := own_range hX hb.size
 obtain ⟨l2, n2, r2, q2, s2, b2⟩ := own_range hY hb.size
 obtain ⟨l3, n3, r3, q3, s3, b3⟩ := own_range hZ hb.size
 refine ⟨_, rfl, ⟨a, b, c, c1, c2, c3, l1, n1, l2, n2, l3, n3, rfl, ⟨r1, r2, r3⟩, ⟨q1, s1, q2, s2, q3, s3⟩, ⟨fun k k1 k2 => ⟨?_, ?_⟩, fun k k1 k2 => ?_⟩, Nat.le_refl _⟩, hb⟩
 ·
  rcases Nat.lt_or_ge k l2 with h | h
  ·
   exact .inl h
  ·
   rcases Nat.lt_or_ge k n2 with h' | h'
   ·
    exact absurd (b2 k h h') (h1 k (b1 k k1 k2)).1
   ·
    exact .inr h'
 ·
  rcases Nat.lt_or_ge k l3 with h | h
  ·
   exact .inl h
  ·
   rcases Nat.lt_or_ge k n3 with h' | h'
   ·
    exact absurd (b3 k h h') (h1 k (b1 k k1 k2)).2
   ·
    exact .inr h'
 ·
  rcases Nat.lt_or_ge k l3 with h | h
  ·
   exact .inl h
  ·
   rcases Nat.lt_or_ge k n3 with h' | h'
   ·
    exact absurd (b3 k h h') (h2 k (b2 k k1 k2))
   ·
    exact .inr h'
theorem RsRes.rg {lo hi : Nat} {w : World} {v : Value} {r : Res} (h : RsRes lo hi w v r) : Rg (fun w' => RsRes lo hi w' v r) lo hi w := by
 have h0 := h
 obtain ⟨a, b, c, c1, c2, c3, l1, n1, l2, n2, l3, n3, rfl, ⟨r1, r2, r3⟩, ⟨q1, s1, q2, s2, q3, s3⟩, hd, hh⟩ := h
 exact ⟨h0, hh, fun w' hs hk => ⟨a, b, c, c1, c2, c3, l1, n1, l2, n2, l3, n3, rfl, ⟨r1.rg.on w' hs fun k k1 k2 => hk k (by omega) (by omega), r2.rg.on w' hs fun k k1 k2 => hk k (by omega) (by omega), r3.rg.on w' hs fun k k1 k2 => hk k (by omega) (by omega)⟩, ⟨q1, s1, q2, s2, q3, s3⟩, hd, Nat.le_trans hh hs⟩⟩
theorem in_slice {w : World} {a : Option Addr} {n c : Nat} {xs : List R} (h : InRats w (.slice a n c) xs) : RatsIn w.heap.size w a xs := by
 obtain ⟨a', c', e, h1⟩ := h
 injection e with e1 _ _
 subst e1
 exact h1
theorem RsRes.reads {lo hi : Nat} {w : World} {v : Value} {r : Res} (h : RsRes lo hi w v r) : ∃ (a b c : Option Addr) (c1 c2 c3 : Nat), v = resV a b c c1 c2 c3 r ∧ ResIn w.heap.size w a b c r := by
 obtain ⟨a, b, c, c1, c2, c3, l1, n1, l2, n2, l3, n3, rfl, ⟨r1, r2, r3⟩, _⟩ := h
 exact ⟨a, b, c, c1, c2, c3, rfl, in_slice r1.reads, in_slice r2.reads, in_slice r3.reads⟩
theorem RsRes.reads_c {lo hi : Nat} {w : World} {u0 u1 u2 u3 u4 u5 u6 : Value} {r : Res} (h : RsRes lo hi w (.agg #[u0, u1, u2, u3, u4, u5, u6]) r) : ResC w u0 u1 u2 u3 u4 u5 u6 r := by
 obtain ⟨a, b, c, c1, c2, c3, e, hi⟩ := h.reads
 unfold resV at e
 injection e with e
 have e0 : u0 = .int .i64 r.status := by have := congrArg (fun q => q[0]?) e; simpa using this
 have e1 : u1 = .slice a r.X.length c1 := by have := congrArg (fun q => q[1]?) e; simpa using this
 have e2 : u2 = .slice b r.Y.length c2 := by have := congrArg (fun q => q[2]?) e; simpa using this
 have e3 : u3 = .slice c r.ray.length c3 := by have := congrArg (fun q => q[3]?) e; simpa using this
 have e4 : u4 = .int .i64 r.value.1 := by have := congrArg (fun q => q[4]?) e; simpa using this
 have e5 : u5 = .int .i64 r.value.2 := by have := congrArg (fun q => q[5]?) e; simpa using this
 have e6 : u6 = .int .i64 r.pivots := by have := congrArg (fun q => q[6]?) e; simpa using this
 exact ⟨a, b, c, c1, c2, c3, e0, e1, e2, e3, e4, e5, e6, hi⟩
theorem sevn {w : World} {q : Nat} {s x y z n d pv : Value} {t : TypeId} (h : CellsAt w q #[s, x, y, z, n, d, pv] t) : w.cell? ⟨q, 0, none⟩ = some s ∧ w.cell? ⟨q, 1, none⟩ = some x ∧ w.cell? ⟨q, 2, none⟩ = some y ∧ w.cell? ⟨q, 3, none⟩ = some z ∧ w.cell? ⟨q, 4, none⟩ = some n ∧ w.cell? ⟨q, 5, none⟩ = some d ∧ w.cell? ⟨q, 6, none⟩ = some pv := (seven h).1
def marksRes (r : Res) : Res := ⟨r.status, marksR 1 r.X.length, marksR (1 + 2 * r.X.length) r.Y.length, marksR (1 + 2 * r.X.length + 2 * r.Y.length) r.ray.length, r.value, r.pivots⟩
def markNR (r : Res) : Int := 1 + 2 * (r.X.length : Int) + 2 * (r.Y.length : Int) + 2 * (r.ray.length : Int)
theorem markNR_le {r : Res} (hf : ResFits r) : 1 ≤ markNR r ∧ markNR r ≤ 4194304 := by
 have := hf.N
 unfold resN at this
 unfold markNR
 omega
set_option maxHeartbeats 2000000 in
theorem markRes_k {lo hi : Nat} {w : World} {v : Value} {r : Res} (h : RsRes lo hi w v r) (hf : ResFits r) :
  Calls Tryz.prog 22 #[v, .int .i64 1] w fun e w' => e = .returned (.int .i64 (markNR r)) ∧ RsRes lo hi w' v (marksRes r) ∧ Turned lo hi w w' := by
 obtain ⟨a, b, c, c1, c2, c3, l1, n1, l2, n2, l3, n3, rfl, ⟨r1, r2, r3⟩, ⟨q1, s1, q2, s2, q3, s3⟩, ⟨hd1, hd2⟩, hh⟩ := h
 obtain ⟨f1, f2, f3, f4⟩ := hf
 obtain ⟨st, X, Y, Z, ⟨nu, de⟩, pv⟩ := r
 simp only at r1 r2 r3 f1 f2 f3
 rw [show resV a b c c1 c2 c3 ⟨st, X, Y, Z, (nu, de), pv⟩ = .agg #[.int .i64 st, .slice a X.length c1, .slice b Y.length c2, .slice c Z.length c3, .int .i64 nu, .int .i64 de, .int .i64 pv] from rfl]
 have hbw := (Below.refl w.heap.size w).alloc (Nat.le_refl _) (.cells #[.int .i64 st, .slice a X.length c1, .slice b Y.length c2, .slice c Z.length c3, .int .i64 nu, .int .i64 de, .int .i64 pv] 32)
 have HX0 := zH (CellsAt.new w #[.int .i64 st, .slice a X.length c1, .slice b Y.length c2, .slice c Z.length c3, .int .i64 nu, .int .i64 de, .int .i64 pv] 32)
 have HB0 := zH hbw
 have up : ∀ {l n : Nat} {u : Value} {xs : List R}, n ≤ w.heap.size → RsRats l n w u xs → RsRats l n (w.alloc (.cells #[.int .i64 st, .slice a X.length c1, .slice b Y.length c2, .slice c Z.length c3, .int .i64 nu, .int .i64 de, .int .i64 pv] 32)) u xs := fun hn h => h.rg.on _ hbw.size fun k _ k2 => hbw.block k (by omega)
 have R1 := zH (up (by omega) r1)
 have R2 := zH (up (by omega) r2)
 have R3 := zH (up (by omega) r3)
 have HD := zH (And.intro hd1 hd2)
 have HQ := zH (show lo ≤ l1 ∧ n1 ≤ hi ∧ lo ≤ l2 ∧ n2 ≤ hi ∧ lo ≤ l3 ∧ n3 ≤ hi ∧ hi ≤ w.heap.size from ⟨q1, s1, q2, s2, q3, s3, hh⟩)
 have HN : Hid (resN ⟨st, X, Y, Z, (nu, de), pv⟩ ≤ 1048576) := f4
 have M1 := zH (markRats_k R1.out f1 1 (by omega) (by omega))
 clear r1 r2 r3 hbw up hd1 hd2 q1 s1 q2 s2 q3 s3 hh f4
 obtain ⟨⟨x0, x1, x2, x3, x4, x5, x6⟩, _⟩ := seven HX0.out
 go_enter Tryz.func22, Tryz.ntmps22
 go_wp2_with fail
 generalize w.alloc (.cells #[.int .i64 st, .slice a X.length c1, .slice b Y.length c2, .slice c Z.length c3, .int .i64 nu, .int .i64 de, .int .i64 pv] 32) = W0 at *
 refine M1.out.mono ?_
 rintro e w1 ⟨rfl, m1, t1⟩
 have S1 := zH m1
 have T1 := zH t1
 have HX1 : Hid (CellsAt w1 w.heap.size #[.int .i64 st, .slice a X.length c1, .slice b Y.length c2, .slice c Z.length c3, .int .i64 nu, .int .i64 de, .int .i64 pv] 32) := (t1.block _ (lt_of_at HX0.out) (.inr (by have := HQ.out; omega))).trans HX0.out
 have R2b : Hid (RsRats l2 n2 w1 (.slice b Y.length c2) Y) := R2.out.rg.on w1 t1.size fun k k1 k2 => t1.block k (by have := R2.out.2; omega) (by have := HD.out.1 k; omega)
 have R3b : Hid (RsRats l3 n3 w1 (.slice c Z.length c3) Z) := R3.out.rg.on w1 t1.size fun k k1 k2 => t1.block k (by have := R3.out.2; omega) (by have := HD.out.1 k; omega)
 have M2 := zH (markRats_k R2b.out f2 (1 + 2 * (X.length : Int)) (by omega) (by omega))
 clear m1 t1 x0 x1 x2 x3 x4 x5 x6 M1
 obtain ⟨⟨x0, x1, x2, x3, x4, x5, x6⟩, _⟩ := seven HX1.out
 go_wp2_with fail
 refine M2.out.mono ?_
 rintro e w2 ⟨rfl, m2, t2⟩
 have S2 := zH m2
 have T2 := zH t2
 have HX2 : Hid (CellsAt w2 w.heap.size #[.int .i64 st, .slice a X.length c1, .slice b Y.length c2, .slice c Z.length c3, .int .i64 nu, .int .i64 de, .int .i64 pv] 32) := (t2.block _ (lt_of_at HX1.out) (.inr (by have := HQ.out; omega))).trans HX1.out
 have S1b : Hid (RsRats l1 n1 w2 (.slice a X.length c1) (marksR (1 : Int).toNat X.length)) := S1.out.rg.on w2 t2.size fun k k1 k2 => t2.block k (by have := S1.out.2; omega) (by have := HD.out.1 k; omega)
 have R3c : Hid (RsRats l3 n3 w2 (.slice c Z.length c3) Z) := R3b.out.rg.on w2 t2.size fun k k1 k2 => t2.block k (by have := R3b.out.2; omega) (by have := HD.out.2 k; omega)
 have M3 := zH (markRats_k R3c.out f3 (1 + 2 * (X.length : Int) + 2 * (Y.length : Int)) (by omega) (by omega))
 clear m2 t2 x0 x1 x2 x3 x4 x5 x6 M2
 obtain ⟨⟨x0, x1, x2, x3, x4, x5, x6⟩, _⟩ := seven HX2.out
 go_wp2_with fail
 refine M3.out.mono ?_
 rintro e w3 ⟨rfl, m3, t3⟩
 have S3 := zH m3
 have T3 := zH t3
 have S1c : Hid (RsRats l1 n1 w3 (.slice a X.length c1) (marksR (1 : Int).toNat X.length)) := S1b.out.rg.on w3 t3.size fun k k1 k2 => t3.block k (by have := S1b.out.2; omega) (by have := HD.out.1 k; omega)
 have S2c : Hid (RsRats l2 n2 w3 (.slice b Y.length c2) (marksR (1 + 2 * (X.length : Int)).toNat Y.length)) := S2.out.rg.on w3 t3.size fun k k1 k2 => t3.block k (by have := S2.out.2; omega) (by have := HD.out.2 k; omega)
 clear m3 t3 x0 x1 x2 x3 x4 x5 x6 M3
 go_wp2_with fail
 go_ret
 have e2 : (1 + 2 * (X.length : Int)).toNat = 1 + 2 * X.length := by omega
 have e3 : (1 + 2 * (X.length : Int) + 2 * (Y.length : Int)).toNat = 1 + 2 * X.length + 2 * Y.length := by omega
 have hq := HQ.out
 have g2 := S2c.out
 have g3 := S3.out
 rw [e2] at g2
 rw [e3] at g3
 refine ⟨rfl, ⟨a, b, c, c1, c2, c3, l1, n1, l2, n2, l3, n3, ?_, ?_, ⟨hq.1, hq.2.1, hq.2.2.1, hq.2.2.2.1, hq.2.2.2.2.1, hq.2.2.2.2.2.1⟩, HD.out, ?_⟩, ?_⟩
 ·
  simp [resV, marksRes, marksR_len]
 ·
  simp only [marksRes, marksR_len]
  exact ⟨S1c.out, g2, g3⟩
 ·
  have := HB0.out.size; have := T1.out.size; have := T2.out.size; have := T3.out.size; omega
 ·
  exact (((Turned.of_below HB0.out).trans (T1.out.wider (by omega) (by omega))).trans (T2.out.wider (by omega) (by omega))).trans (T3.out.wider (by omega) (by omega))
set_option maxHeartbeats 2000000 in
theorem heldRes_k {w : World} {u0 u1 u2 u3 u4 u5 u6 : Value} {r : Res} (h : ResC w u0 u1 u2 u3 u4 u5 u6 (marksRes r)) (hf : ResFits r) :
  Calls Tryz.prog 23 #[.agg #[u0, u1, u2, u3, u4, u5, u6], .int .i64 1] w fun e w' => e = .returned (.int .i64 (markNR r)) ∧ Below w.heap.size w w' := by
 obtain ⟨a, b, c, c1, c2, c3, rfl, rfl, rfl, rfl, rfl, rfl, rfl, hi⟩ := h
 obtain ⟨f1, f2, f3, f4⟩ := hf
 obtain ⟨st, X, Y, Z, ⟨nu, de⟩, pv⟩ := r
 have i1 : InRats w (.slice a (marksRes ⟨st, X, Y, Z, (nu, de), pv⟩).X.length c1) _ := ⟨a, c1, rfl, hi.mX⟩
 have i2 : InRats w (.slice b (marksRes ⟨st, X, Y, Z, (nu, de), pv⟩).Y.length c2) _ := ⟨b, c2, rfl, hi.mY⟩
 have i3 : InRats w (.slice c (marksRes ⟨st, X, Y, Z, (nu, de), pv⟩).ray.length c3) _ := ⟨c, c3, rfl, hi.mR⟩
 simp only [marksRes, marksR_len] at i1 i2 i3 f1 f2 f3
 simp only [marksRes, marksR_len]
 have hbw := (Below.refl w.heap.size w).alloc (Nat.le_refl _) (.cells #[.int .i64 st, .slice a X.length c1, .slice b Y.length c2, .slice c Z.length c3, .int .i64 nu, .int .i64 de, .int .i64 pv] 32)
 have HX0 := zH (CellsAt.new w #[.int .i64 st, .slice a X.length c1, .slice b Y.length c2, .slice c Z.length c3, .int .i64 nu, .int .i64 de, .int .i64 pv] 32)
 have HB0 := zH hbw
 have I1 := zH (i1.up hbw)
 have I2 := zH (i2.up hbw)
 have I3 := zH (i3.up hbw)
 have e2 : (1 + 2 * (X.length : Int)).toNat = 1 + 2 * X.length := by omega
 have e3 : (1 + 2 * (X.length : Int) + 2 * (Y.length : Int)).toNat = 1 + 2 * X.length + 2 * Y.length := by omega
 rw [← e2] at I2
 rw [← e3] at I3
 have M1 := zH (heldRats_k 1 I1.out f1 (by omega) (by omega))
 clear i1 i2 i3 hbw e2 e3 f4 hi
 obtain ⟨⟨x0, x1, x2, x3, x4, x5, x6⟩, _⟩ := seven HX0.out
 have p1 : decide ((1 : Int) + 2 * (X.length : Int) < 0) = false := by rw [decide_eq_false_iff_not]; omega
 have p2 : decide ((1 : Int) + 2 * (X.length : Int) + 2 * (Y.length : Int) < 0) = false := by rw [decide_eq_false_iff_not]; omega
 have p3 : decide ((1 : Int) + 2 * (X.length : Int) + 2 * (Y.length : Int) + 2 * (Z.length : Int) < 0) = false := by rw [decide_eq_false_iff_not]; omega
 go_enter Tryz.func23, Tryz.ntmps23
 go_wp2_with fail
 generalize w.alloc (.cells #[.int .i64 st, .slice a X.length c1, .slice b Y.length c2, .slice c Z.length c3, .int .i64 nu, .int .i64 de, .int .i64 pv] 32) = W0 at *
 refine M1.out.mono ?_
 rintro e w1 ⟨rfl, k1⟩
 have HX1 := zH (HX0.out.below k1)
 have HB1 := zH (HB0.out.trans (k1.mono HB0.out.size))
 have M2 := zH (heldRats_k (1 + 2 * (X.length : Int)) (I2.out.up k1) f2 (by omega) (by omega))
 have J3 := zH (I3.out.up k1)
 clear k1 x0 x1 x2 x3 x4 x5 x6 M1
 obtain ⟨⟨x0, x1, x2, x3, x4, x5, x6⟩, _⟩ := seven HX1.out
 go_wp2_with fail
 refine M2.out.mono ?_
 rintro e w2 ⟨rfl, k2⟩
 have HX2 := zH (HX1.out.below k2)
 have HB2 := zH (HB1.out.trans (k2.mono HB1.out.size))
 have M3 := zH (heldRats_k (1 + 2 * (X.length : Int) + 2 * (Y.length : Int)) (J3.out.up k2) f3 (by omega) (by omega))
 clear k2 x0 x1 x2 x3 x4 x5 x6 M2
 obtain ⟨⟨x0, x1, x2, x3, x4, x5, x6⟩, _⟩ := seven HX2.out
 go_wp2_with fail
 refine M3.out.mono ?_
 rintro e w3 ⟨rfl, k3⟩
 have HB3 := zH (HB2.out.trans (k3.mono HB2.out.size))
 clear k3 x0 x1 x2 x3 x4 x5 x6 M3
 go_wp2_with fail
 go_ret
 exact ⟨rfl, HB3.out⟩
end Go.Proofs.YtmjmjilpcekngaaGreat

namespace Go.Proofs.YtmjmjilpcekngaaGreat
open Go.RowKit
open Ve (R)
open Lp (P Res)
set_option maxHeartbeats 16000000 in
theorem fnExactSolveLP.walk_c (p0 : P) (X0 : Res) (hX : LpOk p0 → ResFits X0) (hS : LpOk p0 → ∀ (w : World) (u0a u0b u0c : Value), LpX w u0a u0b u0c p0 → Calls Tryz.prog 15 #[(.agg #[u0a, u0b, u0c])] w fun e w' => (∃ ya yb yc yd ye yf yg : Value, e = .returned ((.agg #[ya, yb, yc, yd, ye, yf, yg])) ∧ RsRes w.heap.size w'.heap.size w' (.agg #[ya, yb, yc, yd, ye, yf, yg]) X0) ∧ Below w.heap.size w w') (hI : LpOk p0 → ∀ (w : World) (u0a u0b u0c : Value), LpX w u0a u0b u0c p0 → Calls Tryz.prog 18 #[(.agg #[u0a, u0b, u0c])] w fun e w' => (∃ ya yb yc yd ye yf yg : Value, e = .returned ((.agg #[ya, yb, yc, yd, ye, yf, yg])) ∧ RsRes w.heap.size w'.heap.size w' (.agg #[ya, yb, yc, yd, ye, yf, yg]) X0) ∧ Below w.heap.size w w')
  (w : World) (u0a u0b u0c : Value) (n0 : LpLens p0) (h0 : LpC w u0a u0b u0c p0) :
  Calls Tryz.prog 4 #[(.agg #[u0a, u0b, u0c])] w fun e w' => e = .returned (.bool true) ∧ Below w.heap.size w w' := by
 have HS := zH hS
 have HI := zH hI
 have HX := zH hX
 have N0 := zH n0
 have B0 := zH (rg_new w #[u0a, u0b, u0c] 44)
 have A0 := zH (h0.rg.more (.cells #[u0a, u0b, u0c] 44))
 have HB : Hid (Below w.heap.size w (w.alloc (.cells #[u0a, u0b, u0c] 44))) := ((Below.refl w.heap.size w).alloc (by simp) (.cells #[u0a, u0b, u0c] 44))
 have HSZ : Hid ((w.alloc (.cells #[u0a, u0b, u0c] 44)).heap.size = w.heap.size + 1) := by show _ = _; exact size1 _ _
 clear hS hI hX n0 h0
 go_enter Tryz.func4, Tryz.ntmps4
 go_wp2_with fail
 generalize hW : (w.alloc (.cells #[u0a, u0b, u0c] 44)) = W0 at *
 refine (szLP_c A0.out.get N0.out 1048576 (by omega) (by omega)).mono ?_
 rintro e w1 ⟨⟨r0, rfl, r0l, r0u, r0e⟩, k⟩
 replace B0 := zH (B0.out.below k)
 replace A0 := zH (A0.out.below k)
 replace HB := zH (HB.out.trans (k.mono HB.out.size))
 replace HSZ := zH (And.intro HSZ.out k.size)
 clear k
 by_cases r0n : r0 < 0
 ·
  have hb2 : decide (r0 < 0) = true := by rw [decide_eq_true_iff]; exact r0n
  go_wp2_with fail
  go_ret
  exact ⟨rfl, HB.out⟩
 ·
  have hb_r0 : decide (r0 < 0) = false := by rw [decide_eq_false_iff_not]; exact r0n
  have F0 := zH (lpOk (p := p0) (by have := r0e (by omega); omega))
  clear r0e N0
  have FX := zH (HX.out F0.out)
  clear HX
  obtain ⟨m1_0, m1_1, m1_2⟩ := three B0.out.get
  go_wp2_with fail
  refine (toLP_k A0.out.get F0.out).mono ?_
  rintro e w2 ⟨⟨s0a, s0b, s0c, rfl, hs⟩, k⟩
  clear m1_0 m1_1 m1_2
  replace B0 := zH (B0.out.below k)
  replace A0 := zH (A0.out.below k)
  replace HB := zH (HB.out.trans (k.mono HB.out.size))
  replace HSZ := zH (And.intro HSZ.out k.size)
  clear k
  have S0_f := zH hs.rg
  clear hs
  go_wp2_with fail
  refine (HS.out F0.out _ _ _ _ S0_f.out.get.reads_x).mono ?_
  rintro e w3 ⟨⟨za, zb, zc, zd, ze, zf, zg, rfl, hs⟩, k⟩
  replace B0 := zH (B0.out.below k)
  replace A0 := zH (A0.out.below k)
  replace S0_f := zH (S0_f.out.below k)
  replace HB := zH (HB.out.trans (k.mono HB.out.size))
  replace HSZ := zH (And.intro HSZ.out k.size)
  clear k
  have Z_f := zH hs.rg
  clear hs
  clear S0_f
  clear HS
  obtain ⟨o0, o1, o2, o3, o4, o5, o6⟩ := (RsRes.reads_c Z_f.out.get).one
  have t0 := sto o0
  have t1 := sto o1
  have t2 := sto o2
  have t3 := sto o3
  have t4 := sto o4
  have t5 := sto o5
  have t6 := sto o6
  replace B0 := zH (B0.out.more (.cells #[za, zb, zc, zd, ze, zf, zg] 32))
  replace A0 := zH (A0.out.more (.cells #[za, zb, zc, zd, ze, zf, zg] 32))
  replace Z_f := zH (Z_f.out.more (.cells #[za, zb, zc, zd, ze, zf, zg] 32))
  replace HB := zH (HB.out.alloc HB.out.size (.cells #[za, zb, zc, zd, ze, zf, zg] 32))
  replace HSZ := zH (And.intro HSZ.out (size1 w3 (.cells #[za, zb, zc, zd, ze, zf, zg] 32)))
  have ZB := zH (rg_new w3 #[za, zb, zc, zd, ze, zf, zg] 32)
  clear o0 o1 o2 o3 o4 o5 o6
  obtain ⟨m2_0, m2_1, m2_2⟩ := three B0.out.get
  go_wp2_with fail
  clear t0 t1 t2 t3 t4 t5 t6
  generalize hWx0 : (w3.alloc (.cells #[za, zb, zc, zd, ze, zf, zg] 32)) = Wx0 at *
  clear m2_0 m2_1 m2_2
  refine (toLP_k A0.out.get F0.out).mono ?_
  rintro e w4 ⟨⟨x0a, x0b, x0c, rfl, hs⟩, k⟩
  replace B0 := zH (B0.out.below k)
  replace A0 := zH (A0.out.below k)
  replace Z_f := zH (Z_f.out.below k)
  replace ZB := zH (ZB.out.below k)
  replace HB := zH (HB.out.trans (k.mono HB.out.size))
  replace HSZ := zH (And.intro HSZ.out k.size)
  clear k
  have X0_f := zH hs.rg
  clear hs
  obtain ⟨o0, o1, o2⟩ := (OwnLP.reads_c X0_f.out.get).one
  have t0 := sto o0
  have t1 := sto o1
  have t2 := sto o2
  replace B0 := zH (B0.out.more (.cells #[x0a, x0b, x0c] 28))
  replace A0 := zH (A0.out.more (.cells #[x0a, x0b, x0c] 28))
  replace Z_f := zH (Z_f.out.more (.cells #[x0a, x0b, x0c] 28))
  replace ZB := zH (ZB.out.more (.cells #[x0a, x0b, x0c] 28))
  replace X0_f := zH (X0_f.out.more (.cells #[x0a, x0b, x0c] 28))
  replace HB := zH (HB.out.alloc HB.out.size (.cells #[x0a, x0b, x0c] 28))
  replace HSZ := zH (And.intro HSZ.out (size1 w4 (.cells #[x0a, x0b, x0c] 28)))
  have XB0 := zH (rg_new w4 #[x0a, x0b, x0c] 28)
  clear o0 o1 o2
  obtain ⟨m3_0, m3_1, m3_2⟩ := three XB0.out.get
  go_wp2_with fail
  clear t0 t1 t2
  generalize hWg : (w4.alloc (.cells #[x0a, x0b, x0c] 28)) = Wg at *
  clear m3_0 m3_1 m3_2
  refine (HI.out F0.out _ _ _ _ X0_f.out.get.reads_x).mono ?_
  rintro e w5 ⟨⟨ga, gb, gc, gd, ge, gf, gg, rfl, hs⟩, k⟩
  replace B0 := zH (B0.out.below k)
  replace A0 := zH (A0.out.below k)
  replace Z_f := zH (Z_f.out.below k)
  replace ZB := zH (ZB.out.below k)
  replace X0_f := zH (X0_f.out.below k)
  replace XB0 := zH (XB0.out.below k)
  replace HB := zH (HB.out.trans (k.mono HB.out.size))
  replace HSZ := zH (And.intro HSZ.out k.size)
  clear k
  have G_f := zH hs.rg
  clear hs
  obtain ⟨o0, o1, o2, o3, o4, o5, o6⟩ := (RsRes.reads_c G_f.out.get).one
  have t0 := sto o0
  have t1 := sto o1
  have t2 := sto o2
  have t3 := sto o3
  have t4 := sto o4
  have t5 := sto o5
  have t6 := sto o6
  replace B0 := zH (B0.out.more (.cells #[ga, gb, gc, gd, ge, gf, gg] 32))
  replace A0 := zH (A0.out.more (.cells #[ga, gb, gc, gd, ge, gf, gg] 32))
  replace Z_f := zH (Z_f.out.more (.cells #[ga, gb, gc, gd, ge, gf, gg] 32))
  replace ZB := zH (ZB.out.more (.cells #[ga, gb, gc, gd, ge, gf, gg] 32))
  replace X0_f := zH (X0_f.out.more (.cells #[ga, gb, gc, gd, ge, gf, gg] 32))
  replace XB0 := zH (XB0.out.more (.cells #[ga, gb, gc, gd, ge, gf, gg] 32))
  replace G_f := zH (G_f.out.more (.cells #[ga, gb, gc, gd, ge, gf, gg] 32))
  replace HB := zH (HB.out.alloc HB.out.size (.cells #[ga, gb, gc, gd, ge, gf, gg] 32))
  replace HSZ := zH (And.intro HSZ.out (size1 w5 (.cells #[ga, gb, gc, gd, ge, gf, gg] 32)))
  have GB := zH (rg_new w5 #[ga, gb, gc, gd, ge, gf, gg] 32)
  clear o0 o1 o2 o3 o4 o5 o6
  obtain ⟨m4_0, m4_1, m4_2, m4_3, m4_4, m4_5, m4_6⟩ := sevn GB.out.get
  obtain ⟨m5_0, m5_1, m5_2, m5_3, m5_4, m5_5, m5_6⟩ := sevn ZB.out.get
  go_wp2_with fail
  clear t0 t1 t2 t3 t4 t5 t6
  generalize hWe1 : (w5.alloc (.cells #[ga, gb, gc, gd, ge, gf, gg] 32)) = We1 at *
  clear m4_0 m4_1 m4_2 m4_3 m4_4 m4_5 m4_6 m5_0 m5_1 m5_2 m5_3 m5_4 m5_5 m5_6
  refine (eqRes_c G_f.out.get.reads_c Z_f.out.get.reads_c FX.out).mono ?_
  rintro e w6 ⟨rfl, k⟩
  replace B0 := zH (B0.out.below k)
  replace A0 := zH (A0.out.below k)
  replace Z_f := zH (Z_f.out.below k)
  replace ZB := zH (ZB.out.below k)
  replace X0_f := zH (X0_f.out.below k)
  replace XB0 := zH (XB0.out.below k)
  replace G_f := zH (G_f.out.below k)
  replace GB := zH (GB.out.below k)
  replace HB := zH (HB.out.trans (k.mono HB.out.size))
  replace HSZ := zH (And.intro HSZ.out k.size)
  clear k
  obtain ⟨K_0, hKe⟩ : ∃ K : World → Prop, K = fun w' => (Rg (fun w' => CellsAt w' w.heap.size #[u0a, u0b, u0c] 44) w.heap.size (w.heap.size + 1) w') ∧ (Rg (fun w' => LpC w' u0a u0b u0c p0) 0 w.heap.size w') ∧ (Rg (fun w' => RsRes w2.heap.size w3.heap.size w' (.agg #[za, zb, zc, zd, ze, zf, zg]) X0) w2.heap.size w3.heap.size w') ∧ (Rg (fun w' => CellsAt w' w3.heap.size #[za, zb, zc, zd, ze, zf, zg] 32) w3.heap.size (w3.heap.size + 1) w') ∧ (Rg (fun w' => OwnLP Wx0.heap.size w4.heap.size w' (.agg #[x0a, x0b, x0c]) p0) Wx0.heap.size w4.heap.size w') ∧ (Rg (fun w' => CellsAt w' w4.heap.size #[x0a, x0b, x0c] 28) w4.heap.size (w4.heap.size + 1) w') ∧ (Rg (fun w' => RsRes Wg.heap.size w5.heap.size w' (.agg #[ga, gb, gc, gd, ge, gf, gg]) X0) Wg.heap.size w5.heap.size w') ∧ (Rg (fun w' => CellsAt w' w5.heap.size #[ga, gb, gc, gd, ge, gf, gg] 32) w5.heap.size (w5.heap.size + 1) w') ∧ Below w.heap.size w w' ∧ w6.heap.size ≤ w'.heap.size := ⟨_, rfl⟩
  have KS_0 : Hid (Stable K_0) := by show Stable _; rw [hKe]; exact (stable_rg _ _ _).and ((stable_rg _ _ _).and ((stable_rg _ _ _).and ((stable_rg _ _ _).and ((stable_rg _ _ _).and ((stable_rg _ _ _).and ((stable_rg _ _ _).and ((stable_rg _ _ _).and ((stable_low w).and (fun w1 w2 hb h => Nat.le_trans h hb.size)))))))))
  have KC_0 : Hid (∀ w', K_0 w' → (Rg (fun w' => CellsAt w' w.heap.size #[u0a, u0b, u0c] 44) w.heap.size (w.heap.size + 1) w') ∧ (Rg (fun w' => LpC w' u0a u0b u0c p0) 0 w.heap.size w') ∧ (Rg (fun w' => RsRes w2.heap.size w3.heap.size w' (.agg #[za, zb, zc, zd, ze, zf, zg]) X0) w2.heap.size w3.heap.size w') ∧ (Rg (fun w' => CellsAt w' w3.heap.size #[za, zb, zc, zd, ze, zf, zg] 32) w3.heap.size (w3.heap.size + 1) w') ∧ (Rg (fun w' => OwnLP Wx0.heap.size w4.heap.size w' (.agg #[x0a, x0b, x0c]) p0) Wx0.heap.size w4.heap.size w') ∧ (Rg (fun w' => CellsAt w' w4.heap.size #[x0a, x0b, x0c] 28) w4.heap.size (w4.heap.size + 1) w') ∧ (Rg (fun w' => RsRes Wg.heap.size w5.heap.size w' (.agg #[ga, gb, gc, gd, ge, gf, gg]) X0) Wg.heap.size w5.heap.size w') ∧ (Rg (fun w' => CellsAt w' w5.heap.size #[ga, gb, gc, gd, ge, gf, gg] 32) w5.heap.size (w5.heap.size + 1) w') ∧ Below w.heap.size w w' ∧ w6.heap.size ≤ w'.heap.size) := by show ∀ w', K_0 w' → _; intro w' h; rw [hKe] at h; exact h
  have HK_0 : Hid (K_0 w6) := by show K_0 w6; rw [hKe]; exact ⟨B0.out, A0.out, Z_f.out, ZB.out, X0_f.out, XB0.out, G_f.out, GB.out, HB.out, Nat.le_refl _⟩
  clear hKe HB B0 A0 Z_f ZB X0_f XB0 G_f GB
  have hin := KS_0.out.drew HK_0.out
  have Cell_0 := zH (fun w' (h : K_0 w') => (show w'.cell? ⟨w4.heap.size, 0, none⟩ = some x0a ∧ w'.cell? ⟨w4.heap.size, 1, none⟩ = some x0b ∧ w'.cell? ⟨w4.heap.size, 2, none⟩ = some x0c ∧ w'.cell? ⟨w.heap.size, 0, none⟩ = some u0a ∧ w'.cell? ⟨w.heap.size, 1, none⟩ = some u0b ∧ w'.cell? ⟨w.heap.size, 2, none⟩ = some u0c ∧ K_0 w' from ⟨(three (KC_0.out w' h).2.2.2.2.2.1.get).1, (three (KC_0.out w' h).2.2.2.2.2.1.get).2.1, (three (KC_0.out w' h).2.2.2.2.2.1.get).2.2, (three (KC_0.out w' h).1.get).1, (three (KC_0.out w' h).1.get).2.1, (three (KC_0.out w' h).1.get).2.2, h⟩))
  go_upto_region 10 with fail
  go_cut [31] (fun v wx => v = .bool false ∧ K_0 wx)
  case first =>
   go_region_held3 (fun w' => w'.cell? ⟨w4.heap.size, 0, none⟩ = some x0a ∧ w'.cell? ⟨w4.heap.size, 1, none⟩ = some x0b ∧ w'.cell? ⟨w4.heap.size, 2, none⟩ = some x0c ∧ w'.cell? ⟨w.heap.size, 0, none⟩ = some u0a ∧ w'.cell? ⟨w.heap.size, 1, none⟩ = some u0b ∧ w'.cell? ⟨w.heap.size, 2, none⟩ = some u0c ∧ K_0 w') (first | exact Cell_0.out _ (by assumption) | exact Cell_0.out _ (KS_0.out.drew (by assumption)))
    (first
     | (go_at_call 17; (with_reducible refine (calls_k KS_0.out (toLP_k ((KC_0.out _ (by first | assumption | exact KS_0.out.drew (by assumption))).2.1.get) F0.out) (by first | assumption | exact KS_0.out.drew (by assumption))).mono ?_); rintro e w' ⟨⟨y0, y1, y2, rfl, hr3⟩, hk3, hin3⟩)
     | (go_at_call 20; refine (calls_k KS_0.out (eqLP_k ((KC_0.out _ (by first | assumption | exact KS_0.out.drew (by assumption))).2.2.2.2.1.get.reads_c) (OwnLP.reads_c (by assumption)) F0.out) (by assumption)).mono ?_; rintro e w' ⟨rfl, hk4, hin4⟩))
   all_goals
    go_wp2_with fail
    go_meet
    exact ⟨rfl, by assumption⟩
  case rest =>
  clear hin HK_0 Cell_0
  obtain ⟨w7, rfl⟩ : ∃ q : World, q = wc := ⟨_, rfl⟩
  obtain ⟨rfl, hk7⟩ := hcut
  obtain ⟨q_B0, q_A0, q_Z_f, q_ZB, q_X0_f, q_XB0, q_G_f, q_GB, hB, hsz⟩ := KC_0.out _ hk7
  have B0 := zH q_B0
  have A0 := zH q_A0
  have Z_f := zH q_Z_f
  have ZB := zH q_ZB
  have X0_f := zH q_X0_f
  have XB0 := zH q_XB0
  have G_f := zH q_G_f
  have GB := zH q_GB
  have HB := zH hB
  replace HSZ := zH (And.intro HSZ.out hsz)
  clear hB hsz hk7 KC_0 KS_0 q_B0 q_A0 q_Z_f q_ZB q_X0_f q_XB0 q_G_f q_GB
  obtain ⟨m6_0, m6_1, m6_2⟩ := three XB0.out.get
  go_wp2_with fail
  clear m6_0 m6_1 m6_2
  refine (markLP_k X0_f.out.get F0.out).mono ?_
  rintro e w8 ⟨⟨r, rfl, hr0⟩, ht⟩
  clear X0_f XB0
  replace B0 := zH (B0.out.turned ht (by have h := HSZ.out; omega))
  replace A0 := zH (A0.out.turned ht (by have h := HSZ.out; omega))
  replace Z_f := zH (Z_f.out.turned ht (by have h := HSZ.out; omega))
  replace ZB := zH (ZB.out.turned ht (by have h := HSZ.out; omega))
  replace G_f := zH (G_f.out.turned ht (by have h := HSZ.out; omega))
  replace GB := zH (GB.out.turned ht (by have h := HSZ.out; omega))
  replace HB := zH (HB.out.trans ((ht.low (by have h := HSZ.out; omega)).mono (by have h := HSZ.out; omega)))
  replace HSZ := zH (And.intro HSZ.out ht.size)
  clear ht
  have hkk : decide (r < 0) = false := by rw [decide_eq_false_iff_not]; have := hr0; omega
  obtain ⟨m7_0, m7_1, m7_2, m7_3, m7_4, m7_5, m7_6⟩ := sevn GB.out.get
  obtain ⟨m8_0, m8_1, m8_2, m8_3, m8_4, m8_5, m8_6⟩ := sevn ZB.out.get
  go_wp2_with fail
  clear m7_0 m7_1 m7_2 m7_3 m7_4 m7_5 m7_6 m8_0 m8_1 m8_2 m8_3 m8_4 m8_5 m8_6
  refine (eqRes_c G_f.out.get.reads_c Z_f.out.get.reads_c FX.out).mono ?_
  rintro e w9 ⟨rfl, k⟩
  replace B0 := zH (B0.out.below k)
  replace A0 := zH (A0.out.below k)
  replace Z_f := zH (Z_f.out.below k)
  replace ZB := zH (ZB.out.below k)
  replace G_f := zH (G_f.out.below k)
  replace GB := zH (GB.out.below k)
  replace HB := zH (HB.out.trans (k.mono HB.out.size))
  replace HSZ := zH (And.intro HSZ.out k.size)
  clear k
  obtain ⟨m9_0, m9_1, m9_2, m9_3, m9_4, m9_5, m9_6⟩ := sevn GB.out.get
  go_wp2_with fail
  clear m9_0 m9_1 m9_2 m9_3 m9_4 m9_5 m9_6
  refine (markRes_k G_f.out.get FX.out).mono ?_
  rintro e w10 ⟨rfl, hs, ht⟩
  clear G_f
  replace B0 := zH (B0.out.turned ht (by have h := HSZ.out; omega))
  replace A0 := zH (A0.out.turned ht (by have h := HSZ.out; omega))
  replace Z_f := zH (Z_f.out.turned ht (by have h := HSZ.out; omega))
  replace ZB := zH (ZB.out.turned ht (by have h := HSZ.out; omega))
  replace GB := zH (GB.out.turned ht (by have h := HSZ.out; omega))
  replace HB := zH (HB.out.trans ((ht.low (by have h := HSZ.out; omega)).mono (by have h := HSZ.out; omega)))
  replace HSZ := zH (And.intro HSZ.out ht.size)
  clear ht
  have G_f := zH hs.rg
  clear hs
  have hvx : decide (markNR X0 < 0) = false := by rw [decide_eq_false_iff_not]; have hbn := markNR_le FX.out; omega
  obtain ⟨m10_0, m10_1, m10_2, m10_3, m10_4, m10_5, m10_6⟩ := sevn GB.out.get
  go_wp2_with fail
  clear m10_0 m10_1 m10_2 m10_3 m10_4 m10_5 m10_6
  refine (heldRes_k G_f.out.get.reads_c FX.out).mono ?_
  rintro e w11 ⟨rfl, k⟩
  replace B0 := zH (B0.out.below k)
  replace A0 := zH (A0.out.below k)
  replace Z_f := zH (Z_f.out.below k)
  replace ZB := zH (ZB.out.below k)
  replace GB := zH (GB.out.below k)
  replace G_f := zH (G_f.out.below k)
  replace HB := zH (HB.out.trans (k.mono HB.out.size))
  replace HSZ := zH (And.intro HSZ.out k.size)
  clear k
  obtain ⟨m11_0, m11_1, m11_2⟩ := three B0.out.get
  go_wp2_with fail
  refine (toLP_k A0.out.get F0.out).mono ?_
  rintro e w12 ⟨⟨q0a, q0b, q0c, rfl, hs⟩, k⟩
  clear m11_0 m11_1 m11_2
  replace B0 := zH (B0.out.below k)
  replace A0 := zH (A0.out.below k)
  replace Z_f := zH (Z_f.out.below k)
  replace ZB := zH (ZB.out.below k)
  replace GB := zH (GB.out.below k)
  replace G_f := zH (G_f.out.below k)
  replace HB := zH (HB.out.trans (k.mono HB.out.size))
  replace HSZ := zH (And.intro HSZ.out k.size)
  clear k
  have Q0_f := zH hs.rg
  clear hs
  go_wp2_with fail
  refine (HI.out F0.out _ _ _ _ Q0_f.out.get.reads_x).mono ?_
  rintro e w13 ⟨⟨ha, hb, hc, hd, he, hf, hg, rfl, hs⟩, k⟩
  replace B0 := zH (B0.out.below k)
  replace A0 := zH (A0.out.below k)
  replace Z_f := zH (Z_f.out.below k)
  replace ZB := zH (ZB.out.below k)
  replace GB := zH (GB.out.below k)
  replace G_f := zH (G_f.out.below k)
  replace Q0_f := zH (Q0_f.out.below k)
  replace HB := zH (HB.out.trans (k.mono HB.out.size))
  replace HSZ := zH (And.intro HSZ.out k.size)
  clear k
  have H_f := zH hs.rg
  clear hs
  clear Q0_f
  obtain ⟨o0, o1, o2, o3, o4, o5, o6⟩ := (RsRes.reads_c H_f.out.get).one
  have t0 := sto o0
  have t1 := sto o1
  have t2 := sto o2
  have t3 := sto o3
  have t4 := sto o4
  have t5 := sto o5
  have t6 := sto o6
  replace B0 := zH (B0.out.more (.cells #[ha, hb, hc, hd, he, hf, hg] 32))
  replace A0 := zH (A0.out.more (.cells #[ha, hb, hc, hd, he, hf, hg] 32))
  replace Z_f := zH (Z_f.out.more (.cells #[ha, hb, hc, hd, he, hf, hg] 32))
  replace ZB := zH (ZB.out.more (.cells #[ha, hb, hc, hd, he, hf, hg] 32))
  replace GB := zH (GB.out.more (.cells #[ha, hb, hc, hd, he, hf, hg] 32))
  replace G_f := zH (G_f.out.more (.cells #[ha, hb, hc, hd, he, hf, hg] 32))
  replace H_f := zH (H_f.out.more (.cells #[ha, hb, hc, hd, he, hf, hg] 32))
  replace HB := zH (HB.out.alloc HB.out.size (.cells #[ha, hb, hc, hd, he, hf, hg] 32))
  replace HSZ := zH (And.intro HSZ.out (size1 w13 (.cells #[ha, hb, hc, hd, he, hf, hg] 32)))
  have HBX := zH (rg_new w13 #[ha, hb, hc, hd, he, hf, hg] 32)
  clear o0 o1 o2 o3 o4 o5 o6
  obtain ⟨m12_0, m12_1, m12_2, m12_3, m12_4, m12_5, m12_6⟩ := sevn HBX.out.get
  obtain ⟨m13_0, m13_1, m13_2, m13_3, m13_4, m13_5, m13_6⟩ := sevn ZB.out.get
  go_wp2_with fail
  clear t0 t1 t2 t3 t4 t5 t6
  generalize hWe3 : (w13.alloc (.cells #[ha, hb, hc, hd, he, hf, hg] 32)) = We3 at *
  clear m12_0 m12_1 m12_2 m12_3 m12_4 m12_5 m12_6 m13_0 m13_1 m13_2 m13_3 m13_4 m13_5 m13_6
  refine (eqRes_c H_f.out.get.reads_c Z_f.out.get.reads_c FX.out).mono ?_
  rintro e w14 ⟨rfl, k⟩
  replace B0 := zH (B0.out.below k)
  replace A0 := zH (A0.out.below k)
  replace Z_f := zH (Z_f.out.below k)
  replace ZB := zH (ZB.out.below k)
  replace GB := zH (GB.out.below k)
  replace G_f := zH (G_f.out.below k)
  replace H_f := zH (H_f.out.below k)
  replace HBX := zH (HBX.out.below k)
  replace HB := zH (HB.out.trans (k.mono HB.out.size))
  replace HSZ := zH (And.intro HSZ.out k.size)
  clear k
  obtain ⟨m14_0, m14_1, m14_2, m14_3, m14_4, m14_5, m14_6⟩ := sevn GB.out.get
  go_wp2_with fail
  clear m14_0 m14_1 m14_2 m14_3 m14_4 m14_5 m14_6
  refine (heldRes_k G_f.out.get.reads_c FX.out).mono ?_
  rintro e w15 ⟨rfl, k⟩
  replace B0 := zH (B0.out.below k)
  replace A0 := zH (A0.out.below k)
  replace Z_f := zH (Z_f.out.below k)
  replace ZB := zH (ZB.out.below k)
  replace GB := zH (GB.out.below k)
  replace G_f := zH (G_f.out.below k)
  replace H_f := zH (H_f.out.below k)
  replace HBX := zH (HBX.out.below k)
  replace HB := zH (HB.out.trans (k.mono HB.out.size))
  replace HSZ := zH (And.intro HSZ.out k.size)
  clear k
  go_wp2_with fail
  go_ret
  exact ⟨rfl, HB.out⟩
end Go.Proofs.YtmjmjilpcekngaaGreat

namespace Go.Proofs.YtmjmjilpcekngaaGreat
open Go.RowKit
open Ve (R)
open Ta (T)
open Lp (P Res)
theorem solve_ok (p : P) : ResFits (Ta.solve p) := by
 have hl : ∀ st : Int, ResFits ⟨st, [], [], [], Ta.noR, 0⟩ := fun st => resFits (by simp [resN])
 rcases hv : Lp.vldP p with _ | _
 ·
  rw [solve_no hv]; exact hl 0
 ·
  rcases hr : Ta.run1 p with _ | r
  ·
   rw [solve_lim hv hr]; exact hl 4
  ·
   rcases hc : Lp.chk p r with _ | _
   ·
    rw [solve_chk_no hv hr hc]; exact hl 4
   ·
    rw [solve_chk_yes hv hr hc]; exact run1_fits hv hr
theorem sol_cells {r : Res} {w w' : World} {e : Ending} (h : MakesSol r w e w') : (∃ u0 u1 u2 u3 u4 u5 u6 : Value, e = .returned (.agg #[u0, u1, u2, u3, u4, u5, u6]) ∧ RsRes w.heap.size w'.heap.size w' (.agg #[u0, u1, u2, u3, u4, u5, u6]) r) ∧ Below w.heap.size w w' := by
 obtain ⟨v, rfl, hr, hb⟩ := RsRes.of_sol h
 obtain ⟨a, b, c, c1, c2, c3, rfl, _⟩ := hr.reads
 exact ⟨⟨_, _, _, _, _, _, _, rfl, hr⟩, hb⟩
theorem fnExactSolveLP.walk (a b c : Option Addr) (c1 c2 c3 : Nat) (p : P) (w : World) (hl : LpLens p) (hz : LpIn w.heap.size w a b c p) :
  Calls Tryz.prog 4 #[.agg #[.slice a p.A.length c1, .slice b p.B.length c2, .slice c p.C.length c3]] w fun e w' => e = .returned (.bool true) ∧ Below w.heap.size w w' :=
 fnExactSolveLP.walk_c p (Ta.solve p) (fun _ => solve_ok p)
  (fun f w x y z ⟨⟨a, b, c, c1, c2, c3, e0, e1, e2, h⟩, _⟩ => by
   subst e0 e1 e2
   exact (spec_SolveLP a b c c1 c2 c3 p f w h fun q hq => lpIn_c c1 c2 c3 (LpC.rg ⟨a, b, c, c1, c2, c3, rfl, rfl, rfl, h⟩) hq).mono fun _ _ h => sol_cells h)
  (fun f w x y z ⟨⟨a, b, c, c1, c2, c3, e0, e1, e2, h⟩, hc⟩ => by
   subst e0 e1 e2
   exact (impl_SolveLP a b c c1 c2 c3 p f (hc _ _ _ rfl) w h fun q hq => lpIn_c c1 c2 c3 (LpC.rg ⟨a, b, c, c1, c2, c3, rfl, rfl, rfl, h⟩) hq).mono fun _ _ h => sol_cells h)
  w _ _ _ hl ⟨a, b, c, c1, c2, c3, rfl, rfl, rfl, hz⟩
end Go.Proofs.YtmjmjilpcekngaaGreat
