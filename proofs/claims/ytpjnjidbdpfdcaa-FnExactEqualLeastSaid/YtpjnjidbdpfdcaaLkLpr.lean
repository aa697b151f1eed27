/- A kind of results of exact laws: LPs whose slices lie anywhere in the call's own blocks; marked and held. -/
import Derived.Test.YtpjnjidbdpfdcaaGLk
import Derived.Test.YtpjnjidbdpfdcaaLkRats
import Derived.Test.YtpjnjidbdpfdcaaGVa
import Derived.Test.YtpjnjidbdpfdcaaGK
import Derived.Test.YtpjnjidbdpfdcaaGIx
set_option maxRecDepth 100000
namespace Go.Proofs.Ytpjnjidbdpfdcaa
open Go.RowKit
open Ve (R)
open Lp (P)
def RsLP (lo hi : Nat) (w : World) (v : Value) (p : P) : Prop := ∃ (vA vB vC : Value) (vs : List Value), v = .agg #[vA, vB, vC] ∧ w.ownsRow lo 22 1 vA p.A.length vs ∧ RowsIX lo w (vB :: vs) (p.B :: p.A) ∧ (∀ g, vA.ownBlock = some g → g < hi) ∧
 (∀ (j : Nat) (u : Value), (vB :: vs)[j]? = some u → ∀ b, u.ownBlock = some b → b < hi) ∧ OwnRats lo w vC p.C ∧ (∀ g, vC.ownBlock = some g → g < hi) ∧ hi ≤ w.heap.size
theorem RsLP.of {lo : Nat} {w : World} {vA vB vC : Value} {p : P} (h1 : OwnAB lo w vA vB p.A p.B) (h2 : OwnRats lo w vC p.C) : RsLP lo w.heap.size w (.agg #[vA, vB, vC]) p := by
 obtain ⟨vs, k1, k2⟩ := h1
 exact ⟨vA, vB, vC, vs, rfl, k1, k2, fun g hg => (World.ownsRow.lt k1 g hg).2, fun j u e b hb => (World.ownsRow.lt (k2.own j u e) b hb).2, h2, fun g hg => (World.ownsRow.lt h2 g hg).2, Nat.le_refl _⟩
theorem RowsIX.same {lo hi : Nat} {w w' : World} {vs : List Value} {L : List (List Int)} (h : RowsIX lo w vs L) (hb : ∀ (j : Nat) (u : Value), vs[j]? = some u → ∀ b, u.ownBlock = some b → b < hi) (hk : ∀ k, lo ≤ k → k < hi → w'.heap[k]? = w.heap[k]?) : RowsIX lo w' vs L :=
 ⟨h.len, fun j u e => owns_same (h.own j u e) fun g hg => hk g (World.ownsRow.lt (h.own j u e) g hg).1 (hb j u e g hg), h.apart⟩
theorem RsLP.rg {lo hi : Nat} {w : World} {v : Value} {p : P} (h : RsLP lo hi w v p) : Rg (fun w' => RsLP lo hi w' v p) lo hi w := by
 have h0 := h
 obtain ⟨vA, vB, vC, vs, rfl, h1, h2, h3, h4, h5, h6, h7⟩ := h
 exact ⟨h0, h7, fun w' hs hk => ⟨vA, vB, vC, vs, rfl, owns_same h1 fun g hg => hk g (World.ownsRow.lt h1 g hg).1 (h3 g hg), h2.same h4 hk, h3, h4, owns_same h5 fun g hg => hk g (World.ownsRow.lt h5 g hg).1 (h6 g hg), h6, Nat.le_trans h7 hs⟩⟩
theorem RsLP.reads_x {lo hi : Nat} {w : World} {x y z : Value} {p : P} (h : RsLP lo hi w (.agg #[x, y, z]) p) : LpX w x y z p := by
 obtain ⟨vA, vB, vC, vs, e, h1, h2, _, _, h3, _⟩ := h
 injection e with e
 have e1 : x = vA := by have := congrArg (fun q => q[0]?) e; simpa using this
 have e2 : y = vB := by have := congrArg (fun q => q[1]?) e; simpa using this
 have e3 : z = vC := by have := congrArg (fun q => q[2]?) e; simpa using this
 subst e1 e2 e3
 have hab : OwnAB lo w x y p.A p.B := ⟨vs, h1, h2⟩
 obtain ⟨a, c1, rfl, hA⟩ := hab.reads
 obtain ⟨b, c2, rfl, hb, hb2, _⟩ := own_reads hab.b
 obtain ⟨c, c3, rfl, hc, _⟩ := own_rats h3
 refine ⟨⟨a, b, c, c1, c2, c3, rfl, rfl, rfl, hA, NumsIn.of_ints hb fun q hq => (hb2 q hq).2, ?_⟩, fun b' n c' e => ?_⟩
 ·
  exact hc
 ·
  injection e with e1 e2 e3
  subst e3
  obtain ⟨_, ⟨e4, h4⟩ | ⟨g, cap, cur, e4, _, _, hnc, _⟩⟩ := hab.b
  ·
   omega
  ·
   injection e4 with e5 e6 e7
   omega
theorem RsLP.reads_c {lo hi : Nat} {w : World} {x y z : Value} {p : P} (h : RsLP lo hi w (.agg #[x, y, z]) p) : LpC w x y z p := h.reads_x.1
theorem MakesLPk.res {p : P} {k : Bool} {w w' : World} {e : Ending} (h : MakesLPk p k w e w') : (∃ x y z : Value, e = .returned (.tuple #[.agg #[x, y, z], .bool k]) ∧ RsLP w.heap.size w'.heap.size w' (.agg #[x, y, z]) p) ∧ Below w.heap.size w w' := by
 obtain ⟨vA, vB, vC, he, h1, h2, hb⟩ := h
 exact ⟨⟨vA, vB, vC, he, RsLP.of h1 h2⟩, hb⟩
def KeptI (w w' : World) : Prop := ∀ b T, TyAt w b T → T ≠ 3 → w'.heap[b]? = w.heap[b]?
def mkM (k0 : Nat) (A : List (List Int)) : Nat → List (List Int)
 | 0 => A
 | k + 1 => (mkM k0 A k).set k (marksI (k0 + cellsOf (A.take k)) (rw_ A k).length)
theorem mkM_len (k0 : Nat) (A : List (List Int)) : ∀ k, (mkM k0 A k).length = A.length
 | 0 => rfl
 | k + 1 => by rw [mkM, List.length_set, mkM_len k0 A k]
theorem mkM_hi {k0 : Nat} {A : List (List Int)} {j : Nat} : ∀ {k : Nat}, k ≤ j → rw_ (mkM k0 A k) j = rw_ A j
 | 0, _ => rfl
 | k + 1, h => by rw [mkM, rw_set_ne (by omega), mkM_hi (by omega)]
theorem mkM_lo {k0 : Nat} {A : List (List Int)} {j : Nat} (hj : j < A.length) : ∀ {k : Nat}, j < k → rw_ (mkM k0 A k) j = marksI (k0 + cellsOf (A.take j)) (rw_ A j).length
 | k + 1, h => by
  rw [mkM]
  by_cases e : j = k
  ·
   subst e
   rw [rw_set_self (by rw [mkM_len]; exact hj)]
  ·
   rw [rw_set_ne e, mkM_lo hj (by omega)]
def lprN (p : P) : Int := 1 + (cellsOf p.A : Int) + (p.B.length : Int) + 2 * (p.C.length : Int)
def marksLP (p : P) : P := ⟨mkM 1 p.A p.A.length, marksI (1 + cellsOf p.A) p.B.length, marksR (1 + cellsOf p.A + p.B.length) p.C.length⟩
def LprOk (p : P) : Prop := lpN p ≤ 1048576
theorem LprOk.ok {p : P} (h : LprOk p) : LpOk p := lpOk h
theorem lprN_le {p : P} (h : LprOk p) : 1 ≤ lprN p ∧ lprN p ≤ 4194304 := by
 unfold LprOk lpN at h
 unfold lprN
 omega
theorem eqLPr_k {w : World} {x y z x' y' z' : Value} {p : P} (h : LpC w x y z p) (h' : LpC w x' y' z' p) (hf : LprOk p) :
  Calls Try.prog 9 #[.agg #[x, y, z], .agg #[x', y', z']] w fun e w' => e = .returned (.bool true) ∧ Below w.heap.size w w' := eqLP_k h h' hf.ok
set_option maxHeartbeats 1000000 in
theorem laws_markAB {lo hi : Nat} {w : World} {vA vB : Value} {A : List (List Int)} {B : List Int} {vs : List Value} (hn : A.length ≤ 1048576) (hs : cellsOf A ≤ 1048576) (h1 : w.ownsRow lo 22 1 vA A.length vs) (h2 : RowsIX lo w (vB :: vs) (B :: A)) (h3 : ∀ (j : Nat) (u : Value), (vB :: vs)[j]? = some u → ∀ b, u.ownBlock = some b → b < hi) :
  Calls Try.prog 34 #[vA, .int .i64 1] w fun e w' => e = .returned (.int .i64 (1 + (cellsOf A : Int))) ∧ w'.ownsRow lo 22 1 vA A.length vs ∧ RowsIX lo w' (vB :: vs) (B :: mkM 1 A A.length) ∧ Turned lo hi w w' ∧ KeptI w w' := by
 have hvl : vs.length = A.length := by have := h2.len; simpa using this
 obtain ⟨a, c, rfl⟩ : ∃ (a : Option Addr) (c : Nat), vA = .slice a A.length c := by
  obtain ⟨_, ⟨e, h0⟩ | ⟨g, cap, cur, e, _⟩⟩ := h1
  ·
   exact ⟨none, 0, by rw [e, h0]⟩
  ·
   exact ⟨_, _, e⟩
 have H3 := zH h3
 have H1 := zH h1
 have H2 : Hid (RowsIX lo w (vB :: vs) (B :: mkM 1 A 0)) := h2
 have HT0 : Hid (Turned lo hi w w) := Turned.refl _ _ _
 have HK0 : Hid (KeptI w w) := fun _ _ _ _ => rfl
 have HVl := zH hvl
 clear h1 h2 h3 hvl
 go_enter Try.func34, Try.ntmps34
 go_wp2_with fail
 go_loopw [1, 5] (fun q i wr => ∃ (k : Nat) (kk : Int), k ≤ A.length ∧ 0 ≤ kk ∧ kk ≤ 4194304 ∧ q = .int .i64 kk ∧ i = .int .i64 k ∧ Hid (kk = ((1 + cellsOf (A.take k) : Nat) : Int)) ∧ Hid (wr.ownsRow lo 22 1 (.slice a A.length c) A.length vs) ∧
  Hid (RowsIX lo wr (vB :: vs) (B :: mkM 1 A k)) ∧ Hid (Turned lo hi w wr) ∧ Hid (KeptI w wr)) (fun _ i _ => A.length - (intOf i).toNat)
 case atStart => exact ⟨0, 1, Nat.zero_le _, by omega, by omega, rfl, rfl, (by show (1 : Int) = _; simp [cellsOf]), H1, H2, HT0, HK0⟩
 case round =>
  clear H1 H2 HT0 HK0
  obtain ⟨k, kk, hk, hq0, hq1, rfl, rfl, hkk, hR, hX, hT, hKB⟩ := hrel
  by_cases hlt : k < A.length
  ·
   obtain ⟨g, rfl⟩ : ∃ g, a = some ⟨g, 0, none⟩ := by
    obtain ⟨_, ⟨e, h0⟩ | ⟨g, cap, cur, e, _⟩⟩ := hR.out
    ·
     omega
    ·
     injection e with e1
     exact ⟨g, e1⟩
   obtain ⟨u, hu⟩ : ∃ u, vs[k]? = some u := ⟨_, List.getElem?_eq_getElem (by have := HVl.out; omega)⟩
   have hcell : wr.cell? ⟨g, k, none⟩ = some u := by
    have h5 := World.ownsRow.cellAt hR.out k (by omega)
    rw [h5, hu]
   have hu1 : (vB :: vs)[k + 1]? = some u := by simpa using hu
   have ho : OwnInts lo wr u (rw_ A k) := by
    have h6 := hX.out.own (k + 1) u hu1
    rw [show rw_ (B :: mkM 1 A k) (k + 1) = rw_ (mkM 1 A k) k from rfl, mkM_hi (Nat.le_refl _)] at h6
    exact h6
   have ht := cellsOf_take A k hlt
   have hle : cellsOf (A.take (k + 1)) ≤ cellsOf A := cellsOf_le A (k + 1)
   have hbd : 1 + cellsOf (A.take k) ≤ 8388608 ∧ (rw_ A k).length ≤ 2097152 ∧ kk + ((rw_ A k).length : Int) ≤ 4194304 := by have := hkk.out; omega
   obtain ⟨hb1, hb2, hb3⟩ := hbd
   have Hk2 : Hid (kk + ((rw_ A k).length : Int) = ((1 + cellsOf (A.take (k + 1)) : Nat) : Int)) := by
    have := hkk.out
    show _ = _
    omega
   have HU1 := zH hu1
   have Hmk : Hid (Calls Try.prog 33 #[u, .int .i64 kk] wr (MarksPost lo (1 + cellsOf (A.take k)) u (rw_ A k).length wr)) := by
    rw [hkk.out]
    exact laws_markIntS2 lo u (1 + cellsOf (A.take k)) (rw_ A k) hb2 hb1 wr ho
   have HTy : Hid (∀ b, u.ownBlock = some b → TyAt wr b 3) := fun b hb => owns_ty ho hb
   have HLo : Hid (∀ b, u.ownBlock = some b → lo ≤ b ∧ b < hi) := fun b hb => ⟨(World.ownsRow.lt ho b hb).1, H3.out (k + 1) u hu1 b hb⟩
   clear ht hle ho hu hu1
   go_wp2_with fail
   refine Hmk.out.mono ?_
   rintro e w2 ⟨rfl, ho2, hg2⟩
   have hkk2 := hkk.out
   have HR2 : Hid (w2.ownsRow lo 22 1 (.slice (some ⟨g, 0, none⟩) A.length c) A.length vs) := owns_same hR.out fun b hb => hg2.block b (World.ownsRow.lt hR.out b hb).2 (fun e => TyAt.ne (owns_ty hR.out hb) (HTy.out b e.symm) (fun e2 => int_ne_ints e2.symm) rfl)
   have HX2 : Hid (RowsIX lo w2 (vB :: vs) (B :: mkM 1 A (k + 1))) := by
    have h7 := hX.out.grew HU1.out ho2 hg2 (.inl rfl)
    have h8 : (vB :: vs).set (k + 1) u = vB :: vs := by
     refine List.ext_getElem? fun i => ?_
     by_cases e : i = k + 1
     ·
      subst e
      rw [List.getElem?_set_self (by have := (List.getElem?_eq_some_iff.1 HU1.out).1; exact this), HU1.out]
     ·
      rw [List.getElem?_set_ne (fun e2 => e e2.symm)]
    rw [h8] at h7
    exact h7
   have HT2 : Hid (Turned lo hi w w2) := hT.out.trans (Turned.of_grown hg2 HLo.out)
   have HK2 : Hid (KeptI w w2) := fun b T hb hT2 => by
    have h9 := hKB.out b T hb hT2
    have hb' : TyAt wr b T := hb.same h9
    obtain ⟨cs, hcs⟩ := id hb'
    exact (hg2.block b (lt_of_at hcs) (fun e => TyAt.ne hb' (HTy.out b e.symm) hT2 rfl)).trans h9
   rw [show ((1 + cellsOf (A.take k) : Nat) : Int) + ((rw_ A k).length : Int) = kk + ((rw_ A k).length : Int) by rw [← hkk2]]
   clear ho2 hg2 hkk2
   go_wp2_with fail
   go_roundw
   case rel => exact ⟨k + 1, kk + (rw_ A k).length, by omega, by omega, hb3, rfl, by go_num, Hk2, HR2, HX2, HT2, HK2⟩
   case measure => simp [intOf]; omega
  ·
   have he : Hid (kk = 1 + (cellsOf A : Int)) := by
    have := hkk.out
    have e : A.take k = A := List.take_of_length_le (by omega)
    rw [e] at this
    show _ = _
    omega
   have hke : k = A.length := by omega
   have hX2 := hX.out
   rw [hke] at hX2
   have HX2 := zH hX2
   clear hX hX2 hke
   go_wp2_with fail
   go_ret
   exact ⟨ret_int he.out, hR.out, HX2.out, hT.out, hKB.out⟩
set_option maxHeartbeats 1000000 in
theorem laws_heldIntSS (B : Nat) (a : Option Addr) (cap : Nat) (A : List (List Int)) (hn : A.length ≤ 1048576) (hs : cellsOf A ≤ 1048576) (w : World) (h1 : MatIn B w a (mkM 1 A A.length)) :
  Calls Try.prog 36 #[.slice a A.length cap, .int .i64 1] w fun e w' => e = .returned (.int .i64 (1 + (cellsOf A : Int))) ∧ w = w' := by
 have H1 := zH h1
 clear h1
 go_enter Try.func36, Try.ntmps36
 go_wp2_with fail
 go_loop [1, 5] (fun q i => ∃ (k : Nat) (kk : Int), k ≤ A.length ∧ 0 ≤ kk ∧ kk ≤ 4194304 ∧ q = .int .i64 kk ∧ i = .int .i64 k ∧ Hid (kk = ((1 + cellsOf (A.take k) : Nat) : Int))) (fun _ i => A.length - (intOf i).toNat)
 case atStart => exact ⟨0, 1, Nat.zero_le _, by omega, by omega, rfl, rfl, (by show (1 : Int) = _; simp [cellsOf])⟩
 case round =>
  obtain ⟨k, kk, hk, hq0, hq1, rfl, rfl, hkk⟩ := hrel
  by_cases hlt : k < A.length
  ·
   obtain ⟨b, o, a', c', rfl, _, hcell, hrow⟩ := H1.out k (by rw [mkM_len]; exact hlt)
   rw [mkM_lo hlt hlt] at hcell hrow
   rw [marksI_len] at hcell
   have ht := cellsOf_take A k hlt
   have hle : cellsOf (A.take (k + 1)) ≤ cellsOf A := cellsOf_le A (k + 1)
   have hbd : 1 + cellsOf (A.take k) ≤ 8388608 ∧ (rw_ A k).length ≤ 2097152 ∧ kk + ((rw_ A k).length : Int) ≤ 4194304 := by have := hkk.out; omega
   obtain ⟨hb1, hb2, hb3⟩ := hbd
   have Hk2 : Hid (kk + ((rw_ A k).length : Int) = ((1 + cellsOf (A.take (k + 1)) : Nat) : Int)) := by
    have := hkk.out
    show _ = _
    omega
   have hnn : decide (kk + ((rw_ A k).length : Int) < 0) = false := by rw [decide_eq_false_iff_not]; omega
   have Hh : Hid (∀ W, w = W → Calls Try.prog 37 #[.slice a' (rw_ A k).length c', .int .i64 kk] W fun e w' => e = .returned (.int .i64 (kk + ((rw_ A k).length : Int))) ∧ W = w') := fun W hW => by
    subst hW
    rw [hkk.out]
    exact laws_heldIntS2 a' c' (1 + cellsOf (A.take k)) (rw_ A k).length hb2 hb1 _ hrow.ints
   clear ht hle hrow
   go_wp2_with fail
   refine (Hh.out _ rfl).mono ?_
   rintro e w2 ⟨rfl, rfl⟩
   go_wp2_with fail
   go_round
   case rel => exact ⟨k + 1, kk + (rw_ A k).length, by omega, by omega, hb3, rfl, by go_num, Hk2⟩
   case measure => simp [intOf]; omega
  ·
   have he : Hid (kk = 1 + (cellsOf A : Int)) := by
    have := hkk.out
    have e : A.take k = A := List.take_of_length_le (by omega)
    rw [e] at this
    show _ = _
    omega
   go_wp2_with fail
   go_ret
   exact ⟨ret_int he.out, rfl⟩
set_option maxHeartbeats 1000000 in
theorem markLPr_k {lo hi : Nat} {w : World} {v : Value} {p : P} (h : RsLP lo hi w v p) (hf : LprOk p) :
  Calls Try.prog 12 #[v, .int .i64 1] w fun e w' => e = .returned (.int .i64 (lprN p)) ∧ RsLP lo hi w' v (marksLP p) ∧ Turned lo hi w w' := by
 obtain ⟨vA, vB, vC, vs, rfl, h1, h2, h3, h4, h5, h6, h7⟩ := h
 obtain ⟨A, B, C⟩ := p
 unfold LprOk lpN at hf
 simp only at h1 h2 h5 hf
 have hb0 := (Below.refl w.heap.size w).alloc (Nat.le_refl _) (.cells #[vA, vB, vC] 29)
 have hbx := CellsAt.new w #[vA, vB, vC] 29
 have H1 := zH (owns_same h1 fun g hg => hb0.block g (World.ownsRow.lt h1 g hg).2)
 have H2 : Hid (RowsIX lo (w.alloc (.cells #[vA, vB, vC] 29)) (vB :: vs) (B :: A)) := h2.same h4 fun k _ k2 => hb0.block k (by omega)
 have H5 := zH (OwnRats.below h5 hb0)
 have HT : Hid (Turned lo hi w (w.alloc (.cells #[vA, vB, vC] 29))) := (Turned.refl lo hi w).step hb0
 have H3 := zH h3
 have H4 := zH h4
 have H6 := zH h6
 have H7 := zH h7
 have hAl : A.length ≤ 1048576 := by omega
 have hAc : cellsOf A ≤ 1048576 := by omega
 have hBl : B.length ≤ 1048576 := by omega
 have hCl : C.length ≤ 1048576 := by omega
 obtain ⟨sA, sB⟩ := (show OwnAB lo (w.alloc (.cells #[vA, vB, vC] 29)) vA vB A B from ⟨vs, H1.out, H2.out⟩).shape
 obtain ⟨aA, cA, rfl⟩ := sA
 obtain ⟨aB, cB, rfl⟩ := sB
 obtain ⟨aC, cC, rfl, _⟩ := own_rats h5
 have HQ := zH hbx
 obtain ⟨q0, q1, q2⟩ : (w.alloc (.cells #[.slice aA A.length cA, .slice aB B.length cB, .slice aC C.length cC] 29)).cell? ⟨w.heap.size, 0, none⟩ = some (.slice aA A.length cA) ∧ (w.alloc (.cells #[.slice aA A.length cA, .slice aB B.length cB, .slice aC C.length cC] 29)).cell? ⟨w.heap.size, 1, none⟩ = some (.slice aB B.length cB) ∧ (w.alloc (.cells #[.slice aA A.length cA, .slice aB B.length cB, .slice aC C.length cC] 29)).cell? ⟨w.heap.size, 2, none⟩ = some (.slice aC C.length cC) := ⟨hbx.cell 0, hbx.cell 1, hbx.cell 2⟩
 clear h1 h2 h3 h4 h5 h6 h7 hb0 hbx hf
 go_enter Try.func12, Try.ntmps12
 go_wp2_with fail
 generalize hW : w.alloc (.cells #[.slice aA A.length cA, .slice aB B.length cB, .slice aC C.length cC] 29) = W at *
 clear hW
 refine (laws_markAB hAl hAc H1.out H2.out H4.out).mono ?_
 rintro e w2 ⟨rfl, h1, h2, ht, hk⟩
 have HB2 : Hid (OwnInts lo w2 (.slice aB B.length cB) B) := h2.own 0 _ rfl
 have HQ2 : Hid (CellsAt w2 w.heap.size #[.slice aA A.length cA, .slice aB B.length cB, .slice aC C.length cC] 29) := (ht.block w.heap.size (lt_of_at HQ.out) (.inr H7.out)).trans HQ.out
 have HT2 := zH (HT.out.trans ht)
 have HC2 : Hid (OwnRats lo w2 (.slice aC C.length cC) C) := owns_same H5.out fun g hg => hk g 46 (owns_ty H5.out hg) (by decide)
 have HR2 := zH h1
 have HX2 := zH h2
 clear h1 h2 ht hk H1 H2 H5 HT HQ q0 q1 q2
 obtain ⟨q0, q1, q2⟩ : w2.cell? ⟨w.heap.size, 0, none⟩ = some (.slice aA A.length cA) ∧ w2.cell? ⟨w.heap.size, 1, none⟩ = some (.slice aB B.length cB) ∧ w2.cell? ⟨w.heap.size, 2, none⟩ = some (.slice aC C.length cC) := ⟨HQ2.out.cell 0, HQ2.out.cell 1, HQ2.out.cell 2⟩
 have hmB := laws_markIntS2 lo (.slice aB B.length cB) (1 + cellsOf A) B (by omega) (by omega) w2 HB2.out
 rw [show ((1 + cellsOf A : Nat) : Int) = 1 + (cellsOf A : Int) by omega] at hmB
 have HmB := zH hmB
 clear hmB
 go_wp2_with fail
 refine HmB.out.mono ?_
 rintro e w3 ⟨rfl, ho3, hg3⟩
 have hTyB : ∀ b, (Value.slice aB B.length cB).ownBlock = some b → TyAt w2 b 3 := fun b hb => owns_ty HB2.out hb
 have HX3 : Hid (RowsIX lo w3 (.slice aB B.length cB :: vs) (marksI (1 + cellsOf A) B.length :: mkM 1 A A.length)) := by
  have h7 := HX2.out.grew (j := 0) rfl ho3 hg3 (.inl rfl)
  exact h7
 have HR3 : Hid (w3.ownsRow lo 22 1 (.slice aA A.length cA) A.length vs) := owns_same HR2.out fun b hb => hg3.block b (World.ownsRow.lt HR2.out b hb).2 (fun e => TyAt.ne (owns_ty HR2.out hb) (hTyB b e.symm) (fun e2 => int_ne_ints e2.symm) rfl)
 have HC3 : Hid (OwnRats lo w3 (.slice aC C.length cC) C) := owns_same HC2.out fun b hb => hg3.block b (World.ownsRow.lt HC2.out b hb).2 (fun e => TyAt.ne (owns_ty HC2.out hb) (hTyB b e.symm) (by decide) rfl)
 have HQ3 : Hid (CellsAt w3 w.heap.size #[.slice aA A.length cA, .slice aB B.length cB, .slice aC C.length cC] 29) := (hg3.block w.heap.size (lt_of_at HQ2.out) (fun e => by have := H4.out 0 _ rfl _ e.symm; have := H7.out; omega)).trans HQ2.out
 have HT3 : Hid (Turned lo hi w w3) := HT2.out.trans (Turned.of_grown hg3 fun b hb => ⟨(World.ownsRow.lt HB2.out b hb).1, H4.out 0 _ rfl b hb⟩)
 clear ho3 hg3 hTyB HR2 HX2 HC2 HQ2 HT2 HB2 HmB q0 q1 q2
 obtain ⟨q0, q1, q2⟩ : w3.cell? ⟨w.heap.size, 0, none⟩ = some (.slice aA A.length cA) ∧ w3.cell? ⟨w.heap.size, 1, none⟩ = some (.slice aB B.length cB) ∧ w3.cell? ⟨w.heap.size, 2, none⟩ = some (.slice aC C.length cC) := ⟨HQ3.out.cell 0, HQ3.out.cell 1, HQ3.out.cell 2⟩
 have hmC := laws_markRatS lo (.slice aC C.length cC) (1 + cellsOf A + B.length) C (by omega) (by omega) w3 HC3.out
 rw [show ((1 + cellsOf A + B.length : Nat) : Int) = 1 + (cellsOf A : Int) + (B.length : Int) by omega] at hmC
 have HmC := zH hmC
 clear hmC
 go_wp2_with fail
 refine HmC.out.mono ?_
 rintro e w4 ⟨he, ho4, hg4⟩
 subst he
 have hTyC : ∀ b, (Value.slice aC C.length cC).ownBlock = some b → TyAt w3 b 46 := fun b hb => owns_ty HC3.out hb
 have HX4 : Hid (RowsIX lo w4 (.slice aB B.length cB :: vs) (marksI (1 + cellsOf A) B.length :: mkM 1 A A.length)) := HX3.out.kept fun b _ b2 hb => hg4.block b b2 (fun e => TyAt.ne hb (hTyC b e.symm) (by decide) rfl)
 have HR4 : Hid (w4.ownsRow lo 22 1 (.slice aA A.length cA) A.length vs) := owns_same HR3.out fun b hb => hg4.block b (World.ownsRow.lt HR3.out b hb).2 (fun e => TyAt.ne (owns_ty HR3.out hb) (hTyC b e.symm) (by decide) rfl)
 have HT4 : Hid (Turned lo hi w w4) := HT3.out.trans (Turned.of_grown hg4 fun b hb => ⟨(World.ownsRow.lt HC3.out b hb).1, H6.out b hb⟩)
 have HO4 := zH ho4
 clear ho4 hg4 hTyC HR3 HX3 HC3 HQ3 HT3 HmC q0 q1 q2
 go_wp2_with fail
 go_ret
 refine ⟨ret_int (by unfold lprN; simp), ⟨_, _, _, vs, ?_, ?_, ?_, H3.out, H4.out, ?_, H6.out, ?_⟩, HT4.out⟩
 ·
  rfl
 ·
  show w4.ownsRow lo _ 1 _ (mkM 1 A A.length).length vs
  rw [mkM_len]
  exact HR4.out
 ·
  exact HX4.out
 ·
  exact HO4.out
 ·
  exact Nat.le_trans H7.out HT4.out.size
set_option maxHeartbeats 1000000 in
theorem heldLPr_k {w : World} {x y z : Value} {p : P} (h : LpC w x y z (marksLP p)) (hf : LprOk p) :
  Calls Try.prog 13 #[.agg #[x, y, z], .int .i64 1] w fun e w' => e = .returned (.int .i64 (lprN p)) ∧ Below w.heap.size w w' := by
 obtain ⟨a, b, c, c1, c2, c3, rfl, rfl, rfl, hi⟩ := h
 obtain ⟨A, B, C⟩ := p
 unfold LprOk lpN at hf
 simp only at hf
 have e1 : (marksLP ⟨A, B, C⟩).A = mkM 1 A A.length := rfl
 have e2 : (marksLP ⟨A, B, C⟩).B = marksI (1 + cellsOf A) B.length := rfl
 have e3 : (marksLP ⟨A, B, C⟩).C = marksR (1 + cellsOf A + B.length) C.length := rfl
 have hA := hi.mA
 have hB := hi.mB
 have hC := hi.mC
 rw [e1] at hA
 rw [e2] at hB
 rw [e3] at hC
 rw [e1, e2, e3, mkM_len, marksI_len, marksR_len]
 have hb0 := (Below.refl w.heap.size w).alloc (Nat.le_refl _) (.cells #[.slice a A.length c1, .slice b B.length c2, .slice c C.length c3] 29)
 have HA := zH (laws_heldIntSS w.heap.size a c1 A (by omega) (by omega) _ (hA.below hb0))
 have hB2 := laws_heldIntS2 b c2 (1 + cellsOf A) B.length (by omega) (by omega) _ (hB.below hb0).ints
 rw [show ((1 + cellsOf A : Nat) : Int) = 1 + (cellsOf A : Int) by omega] at hB2
 have hC2 := laws_heldRatS w.heap.size c c3 (1 + cellsOf A + B.length) C.length (by omega) (by omega) _ (hC.below hb0)
 rw [show ((1 + cellsOf A + B.length : Nat) : Int) = 1 + (cellsOf A : Int) + (B.length : Int) by omega] at hC2
 have HB := zH hB2
 have HC := zH hC2
 have HB0 := zH hb0
 have n1 : decide (1 + (cellsOf A : Int) < 0) = false := by rw [decide_eq_false_iff_not]; omega
 have n2 : decide (1 + (cellsOf A : Int) + (B.length : Int) < 0) = false := by rw [decide_eq_false_iff_not]; omega
 have n3 : decide (1 + (cellsOf A : Int) + (B.length : Int) + 2 * (C.length : Int) < 0) = false := by rw [decide_eq_false_iff_not]; omega
 clear hA hB hC hB2 hC2 hb0 hi e1 e2 e3 hf
 go_enter Try.func13, Try.ntmps13
 go_wp2_with fail
 refine HA.out.mono ?_
 rintro e w2 ⟨rfl, rfl⟩
 go_wp2_with fail
 refine HB.out.mono ?_
 rintro e w2 ⟨rfl, rfl⟩
 go_wp2_with fail
 refine HC.out.mono ?_
 rintro e w2 ⟨rfl, rfl⟩
 go_wp2_with fail
 go_ret
 exact ⟨ret_int (by unfold lprN; simp), HB0.out⟩
end Go.Proofs.Ytpjnjidbdpfdcaa
