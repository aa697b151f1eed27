/- The parts Mat, Mat2, LpA. -/
import Derived.Test.YtpjnjidbdpfdcaaGK
import Derived.Test.YtpjnjidbdpfdcaaGVa
import Derived.Test.YtpjnjidbdpfdcaaGrI
import Derived.Test.YtpjnjidbdpfdcaaGM
set_option maxRecDepth 100000
namespace Go.Proofs.Ytpjnjidbdpfdcaa
open Go.RowKit
open Ve (R)

def rw_ (L : List (List Int)) (k : Nat) : List Int := L.getD k []
theorem rw_get {L : List (List Int)} {k : Nat} (h : k < L.length) : L[k]? = some (rw_ L k) := by
 unfold rw_; rw [List.getD_eq_getElem?_getD, List.getElem?_eq_getElem h]; rfl
def MatIn (B : Nat) (w : World) (a : Option Addr) (L : List (List Int)) : Prop :=
 ∀ j, j < L.length → ∃ (b o : Nat) (a' : Option Addr) (c' : Nat), a = some ⟨b, o, none⟩ ∧ b < B ∧ w.cell? ⟨b, o + j, none⟩ = some (.slice a' (rw_ L j).length c') ∧ NumsIn B w a' (rw_ L j)
theorem MatIn.below {B : Nat} {w w' : World} {a : Option Addr} {L : List (List Int)} (h : MatIn B w a L) (hb : Below B w w') : MatIn B w' a L := fun j hj => by
 obtain ⟨b, o, a', c', h1, h2, h3, h4⟩ := h j hj
 exact ⟨b, o, a', c', h1, h2, by rw [hb.cell (p := ⟨b, o + j, none⟩) h2]; exact h3, h4.below hb⟩
theorem MatIn.mono {B B' : Nat} {w : World} {a : Option Addr} {L : List (List Int)} (h : MatIn B w a L) (hB : B ≤ B') : MatIn B' w a L := fun j hj => by
 obtain ⟨b, o, a', c', h1, h2, h3, h4⟩ := h j hj
 exact ⟨b, o, a', c', h1, by omega, h3, h4.mono hB⟩
theorem MatIn.drewN {B : Nat} {w : World} {a : Option Addr} {L : List (List Int)} (h : MatIn B w a L) (d : Nat) : MatIn B (w.drewN d) a L := h
def cellsOf : List (List Int) → Nat
 | [] => 0
 | r :: L => r.length + cellsOf L
theorem cellsOf_take (L : List (List Int)) (k : Nat) (h : k < L.length) : cellsOf (L.take (k + 1)) = cellsOf (L.take k) + (rw_ L k).length := by
 induction L generalizing k with
 | nil => simp at h
 | cons r L ih =>
  cases k with
  | zero => simp [cellsOf, rw_]
  | succ k =>
   have := ih k (by simpa using h)
   simp only [List.take_succ_cons, cellsOf]
   have e : rw_ (r :: L) (k + 1) = rw_ L k := by simp [rw_]
   rw [e]; omega
theorem cellsOf_row (L : List (List Int)) (k : Nat) (h : k < L.length) : (rw_ L k).length ≤ cellsOf L := by
 induction L generalizing k with
 | nil => simp at h
 | cons r L ih =>
  cases k with
  | zero => simp [cellsOf, rw_]
  | succ k =>
   have := ih k (by simpa using h)
   have e : rw_ (r :: L) (k + 1) = rw_ L k := by simp [rw_]
   rw [e]; simp only [cellsOf]; omega
theorem cellsOf_le (L : List (List Int)) (k : Nat) : cellsOf (L.take k) ≤ cellsOf L := by
 induction L generalizing k with
 | nil => simp
 | cons r L ih =>
  cases k with
  | zero => simp [cellsOf]
  | succ k =>
   have := ih k
   simp only [List.take_succ_cons, cellsOf]; omega
def Lens (L : List (List Int)) : Prop := ∀ k, k < L.length → (rw_ L k).length ≤ 9223372036854775807


end Go.Proofs.Ytpjnjidbdpfdcaa

namespace Go.Proofs.Ytpjnjidbdpfdcaa
open Go.RowKit
open Ve (R)

def RowsOwn (lo hi : Nat) (w : World) (vs : List Value) (L : List (List Int)) (k : Nat) : Prop :=
 (∀ j, j < k → ∃ v, vs[j]? = some v ∧ OwnInts lo w v (rw_ L j) ∧ ∀ b, v.ownBlock = some b → b < hi) ∧ ∀ i j v v' b, i < j → j < k → vs[i]? = some v → vs[j]? = some v' → v.ownBlock = some b → v'.ownBlock ≠ some b
def OwnMat (lo hi : Nat) (w : World) (v : Value) (L : List (List Int)) : Prop :=
 ∃ (g n : Nat) (vs : List Value), v = .slice (some ⟨g, 0, none⟩) L.length n ∧ g < hi ∧ w.ownsRow lo 22 1 (.slice (some ⟨g, 0, none⟩) L.length n) L.length vs ∧ RowsOwn (g + 1) hi w vs L L.length
theorem OwnMat.same {lo hi : Nat} {w w' : World} {v : Value} {L : List (List Int)} (h : OwnMat lo hi w v L) (hs : ∀ k, lo ≤ k → k < hi → k < w.heap.size → w'.heap[k]? = w.heap[k]?) : OwnMat lo hi w' v L := by
 obtain ⟨g, n, vs, rfl, hgh, h1, h2, h3⟩ := h
 have hg := World.ownsRow.lt h1 g rfl
 refine ⟨g, n, vs, rfl, hgh, owns_same h1 fun b hb => ?_, fun j hj => ?_, h3⟩
 ·
  obtain rfl : g = b := by simpa [Value.ownBlock] using hb
  exact hs g hg.1 hgh hg.2
 ·
  obtain ⟨v, e, ho, hb⟩ := h2 j hj
  refine ⟨v, e, ho.same fun b hb2 => ?_, hb⟩
  have := World.ownsRow.lt ho b hb2
  exact hs b (by omega) (hb b hb2) this.2
theorem OwnMat.below {lo hi : Nat} {w w' : World} {v : Value} {L : List (List Int)} (h : OwnMat lo hi w v L) (hb : Below w.heap.size w w') : OwnMat lo hi w' v L :=
 h.same fun k _ _ hk => hb.block k hk
theorem OwnMat.turned {lo hi l2 h2 : Nat} {w w' : World} {v : Value} {L : List (List Int)} (h : OwnMat lo hi w v L) (ht : Turned l2 h2 w w') (ha : hi ≤ l2 ∨ h2 ≤ lo) : OwnMat lo hi w' v L :=
 h.same fun k h1 h2 hk => ht.block k hk (by omega)
theorem OwnMat.wider {lo hi lo' hi' : Nat} {w : World} {v : Value} {L : List (List Int)} (h : OwnMat lo hi w v L) (h1 : lo' ≤ lo) (h2 : hi ≤ hi') : OwnMat lo' hi' w v L := by
 obtain ⟨g, n, vs, rfl, hgh, k1, k2, k3⟩ := h
 have hr : w.ownsRow lo' 22 1 (.slice (some ⟨g, 0, none⟩) L.length n) L.length vs := by
  obtain ⟨e1, e2 | ⟨g', cap, cur, e, hg, rest⟩⟩ := k1
  ·
   exact ⟨e1, .inl e2⟩
  ·
   exact ⟨e1, .inr ⟨g', cap, cur, e, by omega, rest⟩⟩
 exact ⟨g, n, vs, rfl, by omega, hr, fun j hj => by
  obtain ⟨v, e, ho, hb⟩ := k2 j hj
  exact ⟨v, e, ho, fun b hb2 => by have := hb b hb2; omega⟩, k3⟩
theorem OwnMat.reads {lo hi : Nat} {w : World} {v : Value} {L : List (List Int)} (h : OwnMat lo hi w v L) :
  ∃ (a : Option Addr) (cap : Nat), v = .slice a L.length cap ∧ MatIn hi w a L := by
 obtain ⟨g, n, vs, rfl, hgh, h1, h2, h3⟩ := h
 have hg := World.ownsRow.lt h1 g rfl
 refine ⟨_, _, rfl, fun j hj => ?_⟩
 obtain ⟨v, e, ho, hb⟩ := h2 j hj
 obtain ⟨a, cap, rfl, hr, ha, hne⟩ := own_reads ho
 refine ⟨g, 0, a, cap, rfl, hgh, ?_, fun i hi2 => ?_⟩
 ·
  rw [Nat.zero_add, World.ownsRow.cellAt h1 j (by omega)]
  exact e
 ·
  obtain ⟨b, o, e1, e2, e3⟩ := NumsIn.of_ints (B := w.heap.size) hr (fun p hp => (ha p hp).2) i hi2
  exact ⟨b, o, e1, hb b (by rw [e1]; rfl), e3⟩
theorem info_ints : (Try.prog.info? 22).map (fun i => (i.zero, i.size, i.bytes)) = some (some (.slice none 0 0), 1, 24) := by kernel_rfl
def MakesMat (L : List (List Int)) (w : World) (e : Ending) (w' : World) : Prop := ∃ v, e = .returned v ∧ OwnMat w.heap.size w'.heap.size w' v L ∧ Below w.heap.size w w'
def CopiedM (B g n k : Nat) (wr : World) (L : List (List Int)) : Prop :=
 ∃ vs : List Value, wr.ownsRow B 22 1 (.slice (some ⟨g, 0, none⟩) n n) n vs ∧ RowsOwn (g + 1) wr.heap.size wr vs L k
theorem CopiedM.kept {B g n k : Nat} {w w' : World} {L : List (List Int)} (h : CopiedM B g n k w L) (hb : Below w.heap.size w w') : CopiedM B g n k w' L := by
 obtain ⟨vs, h1, h2, h3⟩ := h
 exact ⟨vs, owns_same h1 fun b hg => hb.block b (World.ownsRow.lt h1 b hg).2, fun j hj => by
  obtain ⟨v, e, ho, hlt⟩ := h2 j hj
  exact ⟨v, e, ho.below hb, fun b h => Nat.lt_of_lt_of_le (hlt b h) hb.size⟩, h3⟩
theorem OwnInts.raise {B B' : Nat} {w : World} {v : Value} {xs : List Int} (h : OwnInts B w v xs) (hB : B' ≤ B) : OwnInts B' w v xs := by
 obtain ⟨h1, h2 | ⟨g, cap, cur, e, hg, rest⟩⟩ := h
 ·
  exact ⟨h1, .inl h2⟩
 ·
  exact ⟨h1, .inr ⟨g, cap, cur, e, by omega, rest⟩⟩
theorem CopiedM.next {B g n k : Nat} {w w' : World} {L : List (List Int)} {u : Value} (h : CopiedM B g n k w L) (hk : k < n) (hg : g < w.heap.size) (hb : Below w.heap.size w w') (ho : OwnInts w.heap.size w' u (rw_ L k)) :
  CopiedM B g n (k + 1) (w'.setCell ⟨g, k, none⟩ u) L := by
 obtain ⟨vs, h1, h2, h3⟩ := h
 have h1' : w'.ownsRow B 22 1 (.slice (some ⟨g, 0, none⟩) n n) n vs := owns_same h1 fun b hg => hb.block b (World.ownsRow.lt h1 b hg).2
 have hl : vs.length = n := by have := h1.1; omega
 have hst := h1'.stored k u
 have old : ∀ j, j < k + 1 → j ≠ k → (vs.set k u)[j]? = vs[j]? := fun j _ e => by rw [List.getElem?_set_ne (fun h => e h.symm)]
 have new : (vs.set k u)[k]? = some u := by rw [List.getElem?_set_self (by omega)]
 refine ⟨vs.set k u, hst.1, fun j hj => ?_, fun i j v v' b hij hj hv hv' hb1 hb2 => ?_⟩
 ·
  by_cases e : j = k
  ·
   subst e
   refine ⟨u, new, (ho.raise (show g + 1 ≤ w.heap.size by omega)).same fun b hb1 => ?_, fun b hb1 => by have := World.ownsRow.lt ho b hb1; simpa [World.setCell] using this.2⟩
   have := World.ownsRow.lt ho b hb1
   rw [Below.heap_setCell _ _ _ _ (show b ≠ g by omega)]
  ·
   obtain ⟨v, e1, e2, e3⟩ := h2 j (by omega)
   refine ⟨v, by rw [old j hj e]; exact e1, (e2.below hb).same fun b hb1 => ?_, fun b hb1 => by have := e3 b hb1; have := hb.size; simp [World.setCell]; omega⟩
   have := World.ownsRow.lt e2 b hb1
   rw [Below.heap_setCell _ _ _ _ (show b ≠ g by omega)]
 ·
  rw [old i (by omega) (by omega)] at hv
  by_cases e : j = k
  ·
   subst e
   rw [new] at hv'
   obtain rfl := Option.some.inj hv'
   have a1 := (World.ownsRow.lt ho b hb2).1
   obtain ⟨v2, e1, e2, _⟩ := h2 i (by omega)
   rw [hv] at e1
   obtain rfl := Option.some.inj e1
   have a2 := (World.ownsRow.lt e2 b hb1).2
   omega
  ·
   rw [old j hj e] at hv'
   exact h3 i j v v' b hij (by omega) hv hv' hb1 hb2
set_option maxHeartbeats 1000000 in
theorem laws_eqIntSS (B : Nat) (a1 a2 : Option Addr) (c1 c2 : Nat) (L : List (List Int)) (hn : L.length ≤ 1048576) (hr : ∀ k, k < L.length → (rw_ L k).length ≤ 1048576) (w : World) (h1 : MatIn B w a1 L) (h2 : MatIn B w a2 L) :
  Calls Try.prog 30 #[.slice a1 L.length c1, .slice a2 L.length c2] w (DrawnT w) := by
 have H1 := zH h1
 have H2 := zH h2
 have HR := zH hr
 clear h1 h2 hr
 go_enter Try.func30, Try.ntmps30
 go_wp2_with fail
 go_loopw [5] (fun i wr => ∃ k : Nat, k ≤ L.length ∧ i = .int .i64 k ∧ Hid (∃ d, wr = w.drewN d)) (fun i _ => L.length - (intOf i).toNat)
 case atStart => exact ⟨0, Nat.zero_le _, rfl, ⟨0, rfl⟩⟩
 case round =>
  obtain ⟨k, hk, rfl, hD⟩ := hrel
  by_cases hlt : k < L.length
  ·
   have g1 : MatIn B wr a1 L := by obtain ⟨d, rfl⟩ := hD.out; exact H1.out
   have g2 : MatIn B wr a2 L := by obtain ⟨d, rfl⟩ := hD.out; exact H2.out
   obtain ⟨b1, o1, a1', c1', rfl, _, p1, n1⟩ := g1 k hlt
   obtain ⟨b2, o2, a2', c2', rfl, _, p2, n2⟩ := g2 k hlt
   have hrl := HR.out k hlt
   have N1 := zH n1
   have N2 := zH n2
   clear n1 n2 g1 g2
   generalize rw_ L k = x at *
   go_wp2_with fail
   go_quiet (first | (go_at_call 31; exact Calls.quiet_of (laws_eqIntS a1' a2' c1' c2' x (by omega) _ (N1.out.ints.drewN _) (N2.out.ints.drewN _))))
   clear N1 N2 hrl
   go_wp2_with fail
   go_roundw
   case rel => exact ⟨k + 1, by omega, by go_num, by obtain ⟨d, rfl⟩ := hD.out; exact ⟨d + nq, by simp [Nat.add_comm]⟩⟩
   case measure => simp [intOf]; omega
  ·
   go_wp2_with fail
   go_ret
   exact ⟨rfl, hD.out⟩
theorem markI_from (B : Nat) (v : Value) (kk : Int) (k : Nat) (hkk : kk = k) (xs : List Int) (hn : xs.length ≤ 2097152) (hk2 : k ≤ 1048576) (w : World) (h1 : OwnInts B w v xs) :
  Calls Try.prog 33 #[v, .int .i64 kk] w fun e w' => e = .returned (.int .i64 (kk + xs.length)) ∧ OwnInts B w' v (marksI k xs.length) ∧ w.grownBy w' v.ownBlock := by
 subst hkk
 exact laws_markIntS B v k xs hn hk2 w h1
set_option maxHeartbeats 1000000 in
theorem laws_markIntSS (lo hi : Nat) (v : Value) (kk : Int) (k0 : Nat) (hkk : kk = k0) (L : List (List Int)) (hn : L.length ≤ 1048576) (hs : k0 + cellsOf L ≤ 1048576) (w : World) (h1 : OwnMat lo hi w v L) :
  Calls Try.prog 34 #[v, .int .i64 kk] w fun e w' => e = .returned (.int .i64 (kk + (cellsOf L : Int))) ∧ Turned lo hi w w' := by
 subst hkk
 obtain ⟨g, n, vs, rfl, hgh, hO, hA, hD⟩ := h1
 have hg := World.ownsRow.lt hO g rfl
 have HO := zH hO
 have HA := zH hA
 have HD := zH hD
 clear hO hA hD
 go_enter Try.func34, Try.ntmps34
 go_wp2_with fail
 go_loopw [1, 5] (fun q i wr => ∃ (k : Nat) (kk : Int), k ≤ L.length ∧ 0 ≤ kk ∧ kk ≤ 1048576 ∧ q = .int .i64 kk ∧ i = .int .i64 k ∧ Hid (kk = ((k0 + cellsOf (L.take k) : Nat) : Int)) ∧ Hid (wr.ownsRow lo 22 1 (.slice (some ⟨g, 0, none⟩) L.length n) L.length vs) ∧
  Hid (∀ j, k ≤ j → j < L.length → ∃ v, vs[j]? = some v ∧ OwnInts (g + 1) wr v (rw_ L j)) ∧ Hid (Turned lo hi w wr)) (fun _ i _ => L.length - (intOf i).toNat)
 case atStart => exact ⟨0, k0, Nat.zero_le _, by omega, by omega, rfl, rfl, (by show (k0 : Int) = _; simp [cellsOf]), HO, (fun j _ hj => by obtain ⟨v, e1, e2, _⟩ := HA.out j hj; exact ⟨v, e1, e2⟩), Turned.refl _ _ _⟩
 case round =>
  obtain ⟨k, kk, hk, hq0, hq1, rfl, rfl, hkk, hR, hV, hT⟩ := hrel
  by_cases hlt : k < L.length
  ·
   obtain ⟨v, ev, ho⟩ := hV.out k (Nat.le_refl _) hlt
   have hc : wr.cell? ⟨g, k, none⟩ = some v := by rw [World.ownsRow.cellAt hR.out k (by omega)]; exact ev
   have ht := cellsOf_take L k hlt
   have hle := cellsOf_le L (k + 1)
   have Hb : Hid (∀ b, v.ownBlock = some b → g + 1 ≤ b ∧ b < wr.heap.size) := fun b hb => World.ownsRow.lt ho b hb
   have HO2 := zH ho
   have hbd : k0 + cellsOf (L.take k) ≤ 1048576 ∧ (rw_ L k).length ≤ 2097152 ∧ kk + ((rw_ L k).length : Int) ≤ 1048576 := by have := hkk.out; omega
   obtain ⟨hb1, hb2, hb3⟩ := hbd
   have Hk2 : Hid (kk + ((rw_ L k).length : Int) = ((k0 + cellsOf (L.take (k + 1)) : Nat) : Int)) := by
    have := hkk.out
    show _ = _
    omega
   clear ht hle ho
   have Hev := zH ev
   clear ev
   go_wp2_with fail
   refine (markI_from (g + 1) v kk (k0 + cellsOf (L.take k)) hkk.out (rw_ L k) hb2 hb1 wr HO2.out).mono ?_
   rintro e w2 ⟨rfl, _, hg2⟩
   have HR2 : Hid (w2.ownsRow lo 22 1 (.slice (some ⟨g, 0, none⟩) L.length n) L.length vs) := owns_same hR.out fun b hb => by
    obtain rfl : g = b := by simpa [Value.ownBlock] using hb
    exact hg2.block g (World.ownsRow.lt hR.out g rfl).2 (fun e => by have := Hb.out g e.symm; omega)
   have HV2 : Hid (∀ j, k + 1 ≤ j → j < L.length → ∃ v, vs[j]? = some v ∧ OwnInts (g + 1) w2 v (rw_ L j)) := fun j hj1 hj2 => by
    obtain ⟨v', e', ho'⟩ := hV.out j (by omega) hj2
    exact ⟨v', e', ho'.grown hg2 fun b hb hb' => HD.out k j v v' b (by omega) hj2 Hev.out e' hb' hb⟩
   have HT2 : Hid (Turned lo hi w w2) := by
    refine hT.out.trans (Turned.of_grown hg2 fun b hb => ?_)
    obtain ⟨v0, e0, ho0, hb0⟩ := HA.out k hlt
    obtain rfl : v0 = v := by rw [Hev.out] at e0; exact (Option.some.inj e0).symm
    have := World.ownsRow.lt ho0 b hb
    have := hb0 b hb
    omega
   clear hg2
   go_wp2_with fail
   go_roundw
   case rel => exact ⟨k + 1, kk + (rw_ L k).length, by omega, by omega, hb3, rfl, by go_num, Hk2, HR2, HV2, HT2⟩
   case measure => simp [intOf]; omega
  ·
   have he : Hid (kk + 0 = (k0 : Int) + (cellsOf L : Int)) := by
    have := hkk.out
    have e : L.take k = L := List.take_of_length_le (by omega)
    rw [e] at this
    show _ = _
    omega
   go_wp2_with fail
   go_ret
   exact ⟨ret_int (by have := he.out; omega), hT.out⟩
end Go.Proofs.Ytpjnjidbdpfdcaa

namespace Go.Proofs.Ytpjnjidbdpfdcaa
open Go.RowKit
open Ve (R)
open Lp (P)

structure LpIn (B : Nat) (w : World) (a b c : Option Addr) (p : P) : Prop where
 mA : MatIn B w a p.A
 mB : NumsIn B w b p.B
 mC : RatsIn B w c p.C
theorem LpIn.below {B : Nat} {w w' : World} {a b c : Option Addr} {p : P} (h : LpIn B w a b c p) (hb : Below B w w') : LpIn B w' a b c p := ⟨h.mA.below hb, h.mB.below hb, h.mC.below hb⟩
theorem LpIn.mono {B B' : Nat} {w : World} {a b c : Option Addr} {p : P} (h : LpIn B w a b c p) (hB : B ≤ B') : LpIn B' w a b c p := ⟨h.mA.mono hB, h.mB.mono hB, h.mC.mono hB⟩
theorem LpIn.drewN {B : Nat} {w : World} {a b c : Option Addr} {p : P} (h : LpIn B w a b c p) (d : Nat) : LpIn B (w.drewN d) a b c p := ⟨h.mA, h.mB, h.mC⟩
def lpN (p : P) : Nat := p.A.length + cellsOf p.A + p.B.length + p.C.length
def LpLens (p : P) : Prop := p.A.length ≤ 9223372036854775807 ∧ Lens p.A ∧ p.B.length ≤ 9223372036854775807 ∧ p.C.length ≤ 9223372036854775807
structure LpFits (p : P) : Prop where
 A : p.A.length ≤ 1048576
 row : ∀ k, k < p.A.length → (rw_ p.A k).length ≤ 1048576
 B : p.B.length ≤ 1048576
 C : p.C.length ≤ 1048576
 marks : 1 + cellsOf p.A + p.B.length ≤ 1048577
 markA : 1 + cellsOf p.A ≤ 1048576
theorem lpFits {p : P} (h : lpN p ≤ 1048576) : LpFits p := by
 unfold lpN at h
 refine ⟨by omega, fun k hk => by have := cellsOf_row p.A k hk; omega, by omega, by omega, by omega, ?_⟩
 obtain ⟨A, Bv, Cv⟩ := p
 rcases A with _ | ⟨r, L⟩
 ·
  simp [cellsOf]
 ·
  simp only [List.length_cons] at h; simp only; omega
structure OwnLP (lo hi : Nat) (w : World) (v : Value) (p : P) : Prop where
 ex : ∃ (m1 m2 : Nat) (vA vB vC : Value), v = .agg #[vA, vB, vC] ∧ lo ≤ m1 ∧ m1 ≤ m2 ∧ m2 ≤ hi ∧ hi ≤ w.heap.size ∧ OwnMat lo m1 w vA p.A ∧ (OwnInts m1 w vB p.B ∧ ∀ g, vB.ownBlock = some g → g < m2) ∧ (OwnRats m2 w vC p.C ∧ ∀ g, vC.ownBlock = some g → g < hi)
theorem OwnLP.below {lo hi : Nat} {w w' : World} {v : Value} {p : P} (h : OwnLP lo hi w v p) (hb : Below w.heap.size w w') : OwnLP lo hi w' v p := by
 obtain ⟨m1, m2, vA, vB, vC, rfl, h1, h2, h3, h4, hA, ⟨hB, kB⟩, hC, kC⟩ := h
 exact ⟨m1, m2, vA, vB, vC, rfl, h1, h2, h3, Nat.le_trans h4 hb.size, hA.below hb, ⟨hB.below hb, kB⟩, hC.below hb, kC⟩
theorem OwnLP.reads {lo hi : Nat} {w : World} {v : Value} {p : P} (h : OwnLP lo hi w v p) :
  ∃ (a b c : Option Addr) (c1 c2 c3 : Nat), v = .agg #[.slice a p.A.length c1, .slice b p.B.length c2, .slice c p.C.length c3] ∧ LpIn hi w a b c p ∧ hi ≤ w.heap.size := by
 obtain ⟨m1, m2, vA, vB, vC, rfl, h1, h2, h3, h4, hA, ⟨hB, kB⟩, hC, kC⟩ := h
 obtain ⟨a, c1, rfl, rA⟩ := hA.reads
 obtain ⟨b, c2, rfl, rB, pB, _⟩ := own_reads hB
 obtain ⟨c, c3, rfl, rC, pC, _⟩ := own_rats hC
 refine ⟨a, b, c, c1, c2, c3, rfl, ⟨rA.mono (by omega), NumsIn.of_ints rB fun q hq => ?_, rC.narrow fun q hq => kC q.block (by rw [hq]; rfl)⟩, h4⟩
 have := kB q.block (by rw [hq]; rfl)
 omega
def Tri (w : World) (q : Nat) (x y z : Value) (t : TypeId) : Prop := w.heap[q]? = some (.cells #[x, y, z] t)
theorem Tri.cells {w : World} {q : Nat} {x y z : Value} {t : TypeId} (h : Tri w q x y z t) :
  w.cell? ⟨q, 0, none⟩ = some x ∧ w.cell? ⟨q, 1, none⟩ = some y ∧ w.cell? ⟨q, 2, none⟩ = some z ∧ w.frozen? ⟨q, 0, none⟩ = false ∧ w.frozen? ⟨q, 1, none⟩ = false ∧ w.frozen? ⟨q, 2, none⟩ = false := by
 unfold Tri at h
 simp [World.cell?, World.frozen?, h]
theorem Tri.below {w w' : World} {q : Nat} {x y z : Value} {t : TypeId} (h : Tri w q x y z t) (hb : Below w.heap.size w w') : Tri w' q x y z t := (hb.block q (lt_of_at h)).trans h
theorem Tri.new (w : World) (x y z : Value) (t : TypeId) : Tri (w.alloc (.cells #[x, y, z] t)) w.heap.size x y z t := by show (w.heap.push _)[w.heap.size]? = _; simp
theorem Tri.more {w : World} {q : Nat} {x y z : Value} {t : TypeId} (h : Tri w q x y z t) (o : Obj) : Tri (w.alloc o) q x y z t := by
 have hl := lt_of_at h
 show (w.heap.push _)[q]? = _
 rw [Array.getElem?_push_lt hl, ← Array.getElem?_eq_getElem hl]; exact h
theorem Tri.other {w : World} {q : Nat} {x y z : Value} {t : TypeId} (h : Tri w q x y z t) {p : Addr} (hp : p.block ≠ q) (u : Value) : Tri (w.setCell p u) q x y z t := by
 obtain ⟨b, o, sp⟩ := p
 show (w.setCell _ u).heap[q]? = _
 rw [Below.heap_setCell _ _ _ _ (fun e => hp e.symm)]; exact h
theorem Tri.set0 {w : World} {q : Nat} {x y z : Value} {t : TypeId} (h : Tri w q x y z t) (u : Value) : Tri (w.setCell ⟨q, 0, none⟩ u) q u y z t := by
 show (w.heap.modify q _)[q]? = _
 rw [Array.getElem?_modify, show w.heap[q]? = _ from h]
 simp
theorem Tri.set1 {w : World} {q : Nat} {x y z : Value} {t : TypeId} (h : Tri w q x y z t) (u : Value) : Tri (w.setCell ⟨q, 1, none⟩ u) q x u z t := by
 show (w.heap.modify q _)[q]? = _
 rw [Array.getElem?_modify, show w.heap[q]? = _ from h]
 simp
theorem Tri.set2 {w : World} {q : Nat} {x y z : Value} {t : TypeId} (h : Tri w q x y z t) (u : Value) : Tri (w.setCell ⟨q, 2, none⟩ u) q x y u t := by
 show (w.heap.modify q _)[q]? = _
 rw [Array.getElem?_modify, show w.heap[q]? = _ from h]
 simp
theorem lp_made {s n0 : Nat} {w1 w1' w2 w2' w3 w4 : World} {vA vB vC : Value} {p : P} (h0 : s + 3 ≤ n0) (e1 : w1'.heap.size = w1.heap.size) (e2 : w2'.heap.size = w2.heap.size) (h1 : n0 ≤ w1.heap.size) (hA : OwnMat n0 w1.heap.size w1 vA p.A) (hB : OwnInts w1'.heap.size w2 vB p.B) (hC : OwnRats w2'.heap.size w3 vC p.C)
  (t1 : Turned s (s + 3) w1 w1') (kB : Below w1'.heap.size w1' w2) (t2 : Turned s (s + 3) w2 w2') (kC : Below w2'.heap.size w2' w3) (t3 : Turned s (s + 3) w3 w4) : OwnLP s w4.heap.size w4 (.agg #[vA, vB, vC]) p := by
 have hs2 := kB.size
 have hs3 := kC.size
 have hs4 := t3.size
 have T3 := t3
 have T2 := (t2.step kC).trans T3
 have T1 := (t1.step kB).trans T2
 have lB : ∀ g, vB.ownBlock = some g → w1'.heap.size ≤ g ∧ g < w2.heap.size := World.ownsRow.lt hB
 have lC : ∀ g, vC.ownBlock = some g → w2'.heap.size ≤ g ∧ g < w3.heap.size := World.ownsRow.lt hC
 refine ⟨w1.heap.size, w2.heap.size, vA, vB, vC, rfl, by omega, by omega, by omega, Nat.le_refl _, (hA.turned T1 (.inr h0)).wider (by omega) (Nat.le_refl _), ⟨(hB.turned T2 fun g hg => .inr ?_).raise (by omega), fun g hg => (lB g hg).2⟩, (hC.turned T3 fun g hg => .inr ?_).raise (by omega), fun g hg => ?_⟩
 ·
  have := lB g hg; omega
 ·
  have := lC g hg; omega
 ·
  have := lC g hg; omega
set_option maxHeartbeats 1000000 in
theorem eqLP (B : Nat) (a b c a' b' c' : Option Addr) (c1 c2 c3 d1 d2 d3 : Nat) (p : P) (hn : LpFits p) (w : World) (hBw : B ≤ w.heap.size) (hz : LpIn B w a b c p) (hy : LpIn B w a' b' c' p) :
  Calls Try.prog 9 #[.agg #[.slice a p.A.length c1, .slice b p.B.length c2, .slice c p.C.length c3], .agg #[.slice a' p.A.length d1, .slice b' p.B.length d2, .slice c' p.C.length d3]] w
   fun e w' => e = .returned (.bool true) ∧ Below w.heap.size w w' := by
 have HN := zH hn
 have hb := ((Below.refl w.heap.size w).alloc (Nat.le_refl _) (.cells #[.slice a p.A.length c1, .slice b p.B.length c2, .slice c p.C.length c3] 29)).alloc (by rw [size1]; omega) (.cells #[.slice a' p.A.length d1, .slice b' p.B.length d2, .slice c' p.C.length d3] 29)
 have hx := (Tri.new w (.slice a p.A.length c1) (.slice b p.B.length c2) (.slice c p.C.length c3) 29).more (.cells #[.slice a' p.A.length d1, .slice b' p.B.length d2, .slice c' p.C.length d3] 29)
 have hx' := Tri.new (w.alloc (.cells #[.slice a p.A.length c1, .slice b p.B.length c2, .slice c p.C.length c3] 29)) (.slice a' p.A.length d1) (.slice b' p.B.length d2) (.slice c' p.C.length d3) 29
 rw [size1] at hx'
 have Hz := zH ((hz.mono hBw).below hb)
 have Hy := zH ((hy.mono hBw).below hb)
 have Hb := zH hb
 have Hx := zH hx
 have Hx' := zH hx'
 clear hz hy hn hb hx hx'
 go_enter Try.func9, Try.ntmps9
 go_wp2_with fail
 refine (laws_eqIntSS _ a a' c1 d1 p.A HN.out.A HN.out.row _ Hz.out.mA Hy.out.mA).mono ?_
 rintro e w1 ⟨rfl, d, rfl⟩
 go_wp2_with fail
 refine (laws_eqIntS b b' c2 d2 p.B (by have := HN.out.B; omega) _ (Hz.out.mB.ints.drewN d) (Hy.out.mB.ints.drewN d)).mono ?_
 rintro e w1 ⟨rfl, d2, rfl⟩
 go_wp2_with fail
 have Hs := zH (below_drewN Hb.out (d + d2))
 refine (laws_eqRatS w.heap.size c c' c3 d3 p.C (by have := HN.out.C; omega) _ Hs.out.size (Hz.out.mC.drewN (d + d2)) (Hy.out.mC.drewN (d + d2))).mono ?_
 rintro e w1 ⟨rfl, hb1⟩
 have Hs2 := zH (Hs.out.trans (hb1.mono Hs.out.size))
 clear hb1
 go_wp2_with fail
 go_ret
 exact ⟨rfl, Hs2.out⟩
set_option maxHeartbeats 1000000 in
theorem markLP (lo hi : Nat) (v : Value) (p : P) (hn : LpFits p) (w : World) (h1 : OwnLP lo hi w v p) :
  Calls Try.prog 12 #[v, .int .i64 1] w fun e w' => (∃ r : Int, e = .returned (.int .i64 r) ∧ 0 ≤ r) ∧ Turned lo hi w w' := by
 obtain ⟨m1, m2, vA, vB, vC, rfl, l1, l2, l3, l4, hA, ⟨hB, kB⟩, hC, kC⟩ := h1
 have hb := (Below.refl w.heap.size w).alloc (Nat.le_refl _) (.cells #[vA, vB, vC] 29)
 have hx := Tri.new w vA vB vC 29
 have ht := Turned.of_below (lo := lo) (hi := hi) hb
 have HA := zH (hA.below hb)
 have HB := zH (hB.below hb)
 have HC := zH (hC.below hb)
 obtain ⟨a, c1, rfl, _⟩ := hA.reads
 obtain ⟨b, c2, rfl, _⟩ := own_reads hB
 obtain ⟨c, c3, rfl, _⟩ := own_rats hC
 have KB := zH kB
 have KC := zH kC
 have LB : Hid (∀ g, (Value.slice b p.B.length c2).ownBlock = some g → m1 ≤ g ∧ g < w.heap.size) := World.ownsRow.lt hB
 have LC : Hid (∀ g, (Value.slice c p.C.length c3).ownBlock = some g → m2 ≤ g ∧ g < w.heap.size) := World.ownsRow.lt hC
 have HN := zH hn
 have Hx := zH hx
 have HT := zH ht
 clear hA hB hC kB kC hb hx ht hn
 go_enter Try.func12, Try.ntmps12
 go_wp2_with fail
 refine (laws_markIntSS lo m1 _ 1 1 rfl p.A HN.out.A HN.out.markA _ HA.out).mono ?_
 rintro e w1 ⟨rfl, t1⟩
 have HB1 := zH (HB.out.turned t1 fun g hg => .inr (LB.out g hg).1)
 have HC1 := zH (HC.out.turned t1 fun g hg => .inr (by have := (LC.out g hg).1; omega))
 have hx1 : Tri w1 w.heap.size (.slice a p.A.length c1) (.slice b p.B.length c2) (.slice c p.C.length c3) 29 := (t1.block _ (lt_of_at Hx.out) (.inr (by omega))).trans Hx.out
 have Hx1 := zH hx1
 obtain ⟨x0, x1, x2, _⟩ := hx1.cells
 have HT1 := zH (HT.out.trans (t1.wider (Nat.le_refl _) (by omega)))
 have b1 := HN.out.markA
 have b2 := HN.out.marks
 have b3 := HN.out.B
 have b4 := HN.out.C
 clear t1 hx1
 go_wp2_with fail
 refine (markI_from m1 _ _ (1 + cellsOf p.A) (by omega) p.B (by omega) (by omega) _ HB1.out).mono ?_
 rintro e w2 ⟨rfl, _, g2⟩
 have t2 : Turned m1 m2 w1 w2 := Turned.of_grown g2 fun g hg => ⟨(LB.out g hg).1, KB.out g hg⟩
 have HC2 := zH (HC1.out.turned t2 fun g hg => .inr (LC.out g hg).1)
 have hx2 : Tri w2 w.heap.size (.slice a p.A.length c1) (.slice b p.B.length c2) (.slice c p.C.length c3) 29 := (t2.block _ (lt_of_at Hx1.out) (.inr (by omega))).trans Hx1.out
 obtain ⟨x0, x1, x2, _⟩ := hx2.cells
 have HT2 := zH (HT1.out.trans (t2.wider l1 l3))
 clear t2 g2 hx2
 go_wp2_with fail
 refine (laws_markFrom m2 _ _ (1 + cellsOf p.A + p.B.length) (by omega) p.C (by omega) (by omega) _ HC2.out).mono ?_
 rintro e w3 ⟨rfl, _, g3⟩
 have HT3 := zH (HT2.out.trans (Turned.of_grown g3 fun g hg => ⟨by have := (LC.out g hg).1; omega, KC.out g hg⟩))
 clear g3
 go_wp2_with fail
 go_ret
 exact ⟨⟨_, rfl, by omega⟩, HT3.out⟩
end Go.Proofs.Ytpjnjidbdpfdcaa
