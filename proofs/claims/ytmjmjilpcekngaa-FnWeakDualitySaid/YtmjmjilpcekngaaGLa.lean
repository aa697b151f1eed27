/- The parts Mat, Mat2, LpA. -/
import Derived.Test.YtmjmjilpcekngaaGK
import Derived.Test.YtmjmjilpcekngaaGVa
import Derived.Test.YtmjmjilpcekngaaGrI
import Derived.Test.YtmjmjilpcekngaaGM
set_option maxRecDepth 100000
namespace Go.Proofs.Ytmjmjilpcekngaa
open Go.RowKit
open Ve (R)

def rw_ (L : List (List Int)) (k : Nat) : List Int := L.getD k []
theorem rw_get {L : List (List Int)} {k : Nat} (h : k < L.length) : L[k]? = some (rw_ L k) := by
 unfold rw_; rw [List.getD_eq_getElem?_getD, List.getElem?_eq_getElem h]; rfl
def MatIn (B : Nat) (w : World) (a : Option Addr) (L : List (List Int)) : Prop :=
 ∀ j, j < L.length → ∃ (b o : Nat) (a' : Option Addr) (c' : Nat), a = some ⟨b, o, none⟩ ∧ b < B ∧ w.cell? ⟨b, o + j, none⟩ = some (.slice a' (rw_ L j).length c') ∧ NumsIn B w a' (rw_ L j)
theorem MatIn.below {B : Nat} {w w' : World} {a : Option Addr} {L : List (List Int)} (h : MatIn B w a L) (hb : Below B w w') : MatIn B w' a L := fun j hj => by
 obtain ⟨b, o, a', c', h1, h2, h3, h4⟩ := h j hj
 exact ⟨b, o, a', c', h1, h2, by rw [hb.cell (p := ⟨b, o + j, none⟩) h2]; exact h3, h4.below hb⟩
theorem MatIn.mono {B B' : Nat} {w : World} {a : Option Addr} {L : List (List Int)} (h : MatIn B w a L) (hB : B ≤ B') : MatIn B' w a L := fun j hj => by
 obtain ⟨b, o, a', c', h1, h2, h3, h4⟩ := h j hj
 exact ⟨b, o, a', c', h1, by omega, h3, h4.mono hB⟩
theorem MatIn.drewN {B : Nat} {w : World} {a : Option Addr} {L : List (List Int)} (h : MatIn B w a L) (d : Nat) : MatIn B (w.drewN d) a L := h
def cellsOf : List (List Int) → Nat
 | [] => 0
 | r :: L => r.length + cellsOf L
theorem cellsOf_take (L : List (List Int)) (k : Nat) (h : k < L.length) : cellsOf (L.take (k + 1)) = cellsOf (L.take k) + (rw_ L k).length := by
 induction L generalizing k with
 | nil => simp at h
 | cons r L ih =>
  cases k with
  | zero => simp [cellsOf, rw_]
  | succ k =>
   have := ih k (by simpa using h)
   simp only [List.take_succ_cons, cellsOf]
   have e : rw_ (r :: L) (k + 1) = rw_ L k := by simp [rw_]
   rw [e]; omega
theorem cellsOf_row (L : List (List Int)) (k : Nat) (h : k < L.length) : (rw_ L k).length ≤ cellsOf L := by
 induction L generalizing k with
 | nil => simp at h
 | cons r L ih =>
  cases k with
  | zero => simp [cellsOf, rw_]
  | succ k =>
   have := ih k (by simpa using h)
   have e : rw_ (r :: L) (k + 1) = rw_ L k := by simp [rw_]
   rw [e]; simp only [cellsOf]; omega
theorem cellsOf_le (L : List (List Int)) (k : Nat) : cellsOf (L.take k) ≤ cellsOf L := by
 induction L generalizing k with
 | nil => simp
 | cons r L ih =>
  cases k with
  | zero => simp [cellsOf]
  | succ k =>
   have := ih k
   simp only [List.take_succ_cons, cellsOf]; omega
def Lens (L : List (List Int)) : Prop := ∀ k, k < L.length → (rw_ L k).length ≤ 9223372036854775807

set_option maxHeartbeats 1000000 in
theorem szM (B : Nat) (a : Option Addr) (cap : Nat) (L : List (List Int)) (left : Int) (hm : L.length ≤ 9223372036854775807) (hn : Lens L) (hl0 : 0 ≤ left) (hl1 : left ≤ 1048576) (w : World) (hz : MatIn B w a L) :
  Calls Try.prog 43 #[.slice a L.length cap, .int .i64 left] w (SzR (L.length + cellsOf L) left w) := by
 have Hz := zH hz
 have Hn := zH hn
 clear hz hn
 by_cases hneg : left - (L.length : Int) < 0
 ·
  have hb : decide (left - (L.length : Int) < 0) = true := by rw [decide_eq_true_iff]; exact hneg
  go_enter Try.func43, Try.ntmps43
  go_wp2_with fail
  go_ret
  exact ⟨-1, rfl, by omega, by omega, fun h => by omega, rfl⟩
 ·
  have hb : decide (left - (L.length : Int) < 0) = false := by rw [decide_eq_false_iff_not]; exact hneg
  go_enter Try.func43, Try.ntmps43
  go_wp2_with fail
  go_loop [1, 5] (fun q i => ∃ (k : Nat) (l : Int), k ≤ L.length ∧ 0 ≤ l ∧ l ≤ 1048576 ∧ q = .int .i64 l ∧ i = .int .i64 k ∧ Hid ((L.length : Int) + (cellsOf (L.take k) : Int) + l = left)) (fun _ i => L.length - (intOf i).toNat)
  case atStart => exact ⟨0, _, Nat.zero_le _, by omega, by omega, rfl, rfl, by show _ = _; simp [cellsOf]; omega⟩
  case round =>
   obtain ⟨k, l, hk, hl, hl2, rfl, rfl, hrel⟩ := hrel
   by_cases hlt : k < L.length
   ·
    obtain ⟨b, o, a', c', rfl, _, hcell, _⟩ := Hz.out k hlt
    have ht := zH (cellsOf_take L k hlt)
    have hlen := Hn.out k hlt
    go_wp2_with fail
    refine (szI a' (rw_ L k).length c' l hlen hl hl2 _).mono ?_
    rintro e w1 ⟨r, rfl, hr0, hr1, hr2, rfl⟩
    by_cases hneg2 : r < 0
    ·
     have hb2 : decide (r < 0) = true := by rw [decide_eq_true_iff]; exact hneg2
     go_wp2_with fail
     go_ret
     exact ⟨-1, rfl, by omega, by omega, fun h => by omega, rfl⟩
    ·
     have hb2 : decide (r < 0) = false := by rw [decide_eq_false_iff_not]; exact hneg2
     have Hr2 : Hid ((L.length : Int) + (cellsOf (L.take (k + 1)) : Int) + r = left) := by
      have := hrel.out
      have := hr2 (by omega)
      show _ = _
      rw [ht.out]
      omega
     clear hr2 hlen
     generalize rw_ L k = x at *
     go_wp2_with fail
     go_round
     case rel => exact ⟨k + 1, r, by omega, by omega, by omega, rfl, by go_num, Hr2⟩
     case measure => simp [intOf]; omega
   ·
    have he : Hid (((L.length + cellsOf L : Nat) : Int) + l = left) := by
     have := hrel.out
     have e : L.take k = L := List.take_of_length_le (by omega)
     rw [e] at this
     show _ = _
     omega
    go_wp2_with fail
    go_ret
    exact ⟨l, rfl, by omega, by omega, fun _ => he.out, rfl⟩

end Go.Proofs.Ytmjmjilpcekngaa

namespace Go.Proofs.Ytmjmjilpcekngaa
open Go.RowKit
open Ve (R)

def RowsOwn (lo hi : Nat) (w : World) (vs : List Value) (L : List (List Int)) (k : Nat) : Prop :=
 (∀ j, j < k → ∃ v, vs[j]? = some v ∧ OwnInts lo w v (rw_ L j) ∧ ∀ b, v.ownBlock = some b → b < hi) ∧ ∀ i j v v' b, i < j → j < k → vs[i]? = some v → vs[j]? = some v' → v.ownBlock = some b → v'.ownBlock ≠ some b
def OwnMat (lo hi : Nat) (w : World) (v : Value) (L : List (List Int)) : Prop :=
 ∃ (g n : Nat) (vs : List Value), v = .slice (some ⟨g, 0, none⟩) L.length n ∧ g < hi ∧ w.ownsRow lo 25 1 (.slice (some ⟨g, 0, none⟩) L.length n) L.length vs ∧ RowsOwn (g + 1) hi w vs L L.length
theorem OwnMat.same {lo hi : Nat} {w w' : World} {v : Value} {L : List (List Int)} (h : OwnMat lo hi w v L) (hs : ∀ k, lo ≤ k → k < hi → k < w.heap.size → w'.heap[k]? = w.heap[k]?) : OwnMat lo hi w' v L := by
 obtain ⟨g, n, vs, rfl, hgh, h1, h2, h3⟩ := h
 have hg := World.ownsRow.lt h1 g rfl
 refine ⟨g, n, vs, rfl, hgh, owns_same h1 fun b hb => ?_, fun j hj => ?_, h3⟩
 ·
  obtain rfl : g = b := by simpa [Value.ownBlock] using hb
  exact hs g hg.1 hgh hg.2
 ·
  obtain ⟨v, e, ho, hb⟩ := h2 j hj
  refine ⟨v, e, ho.same fun b hb2 => ?_, hb⟩
  have := World.ownsRow.lt ho b hb2
  exact hs b (by omega) (hb b hb2) this.2
theorem OwnMat.below {lo hi : Nat} {w w' : World} {v : Value} {L : List (List Int)} (h : OwnMat lo hi w v L) (hb : Below w.heap.size w w') : OwnMat lo hi w' v L :=
 h.same fun k _ _ hk => hb.block k hk
theorem OwnMat.turned {lo hi l2 h2 : Nat} {w w' : World} {v : Value} {L : List (List Int)} (h : OwnMat lo hi w v L) (ht : Turned l2 h2 w w') (ha : hi ≤ l2 ∨ h2 ≤ lo) : OwnMat lo hi w' v L :=
 h.same fun k h1 h2 hk => ht.block k hk (by omega)
theorem OwnMat.wider {lo hi lo' hi' : Nat} {w : World} {v : Value} {L : List (List Int)} (h : OwnMat lo hi w v L) (h1 : lo' ≤ lo) (h2 : hi ≤ hi') : OwnMat lo' hi' w v L := by
 obtain ⟨g, n, vs, rfl, hgh, k1, k2, k3⟩ := h
 have hr : w.ownsRow lo' 25 1 (.slice (some ⟨g, 0, none⟩) L.length n) L.length vs := by
  obtain ⟨e1, e2 | ⟨g', cap, cur, e, hg, rest⟩⟩ := k1
  ·
   exact ⟨e1, .inl e2⟩
  ·
   exact ⟨e1, .inr ⟨g', cap, cur, e, by omega, rest⟩⟩
 exact ⟨g, n, vs, rfl, by omega, hr, fun j hj => by
  obtain ⟨v, e, ho, hb⟩ := k2 j hj
  exact ⟨v, e, ho, fun b hb2 => by have := hb b hb2; omega⟩, k3⟩
theorem OwnMat.reads {lo hi : Nat} {w : World} {v : Value} {L : List (List Int)} (h : OwnMat lo hi w v L) :
  ∃ (a : Option Addr) (cap : Nat), v = .slice a L.length cap ∧ MatIn hi w a L := by
 obtain ⟨g, n, vs, rfl, hgh, h1, h2, h3⟩ := h
 have hg := World.ownsRow.lt h1 g rfl
 refine ⟨_, _, rfl, fun j hj => ?_⟩
 obtain ⟨v, e, ho, hb⟩ := h2 j hj
 obtain ⟨a, cap, rfl, hr, ha, hne⟩ := own_reads ho
 refine ⟨g, 0, a, cap, rfl, hgh, ?_, fun i hi2 => ?_⟩
 ·
  rw [Nat.zero_add, World.ownsRow.cellAt h1 j (by omega)]
  exact e
 ·
  obtain ⟨b, o, e1, e2, e3⟩ := NumsIn.of_ints (B := w.heap.size) hr (fun p hp => (ha p hp).2) i hi2
  exact ⟨b, o, e1, hb b (by rw [e1]; rfl), e3⟩
theorem info_ints : (Try.prog.info? 25).map (fun i => (i.zero, i.size, i.bytes)) = some (some (.slice none 0 0), 1, 24) := by kernel_rfl
def MakesMat (L : List (List Int)) (w : World) (e : Ending) (w' : World) : Prop := ∃ v, e = .returned v ∧ OwnMat w.heap.size w'.heap.size w' v L ∧ Below w.heap.size w w'
def CopiedM (B g n k : Nat) (wr : World) (L : List (List Int)) : Prop :=
 ∃ vs : List Value, wr.ownsRow B 25 1 (.slice (some ⟨g, 0, none⟩) n n) n vs ∧ RowsOwn (g + 1) wr.heap.size wr vs L k
theorem CopiedM.kept {B g n k : Nat} {w w' : World} {L : List (List Int)} (h : CopiedM B g n k w L) (hb : Below w.heap.size w w') : CopiedM B g n k w' L := by
 obtain ⟨vs, h1, h2, h3⟩ := h
 exact ⟨vs, owns_same h1 fun b hg => hb.block b (World.ownsRow.lt h1 b hg).2, fun j hj => by
  obtain ⟨v, e, ho, hlt⟩ := h2 j hj
  exact ⟨v, e, ho.below hb, fun b h => Nat.lt_of_lt_of_le (hlt b h) hb.size⟩, h3⟩
theorem OwnInts.raise {B B' : Nat} {w : World} {v : Value} {xs : List Int} (h : OwnInts B w v xs) (hB : B' ≤ B) : OwnInts B' w v xs := by
 obtain ⟨h1, h2 | ⟨g, cap, cur, e, hg, rest⟩⟩ := h
 ·
  exact ⟨h1, .inl h2⟩
 ·
  exact ⟨h1, .inr ⟨g, cap, cur, e, by omega, rest⟩⟩
theorem CopiedM.next {B g n k : Nat} {w w' : World} {L : List (List Int)} {u : Value} (h : CopiedM B g n k w L) (hk : k < n) (hg : g < w.heap.size) (hb : Below w.heap.size w w') (ho : OwnInts w.heap.size w' u (rw_ L k)) :
  CopiedM B g n (k + 1) (w'.setCell ⟨g, k, none⟩ u) L := by
 obtain ⟨vs, h1, h2, h3⟩ := h
 have h1' : w'.ownsRow B 25 1 (.slice (some ⟨g, 0, none⟩) n n) n vs := owns_same h1 fun b hg => hb.block b (World.ownsRow.lt h1 b hg).2
 have hl : vs.length = n := by have := h1.1; omega
 have hst := h1'.stored k u
 have old : ∀ j, j < k + 1 → j ≠ k → (vs.set k u)[j]? = vs[j]? := fun j _ e => by rw [List.getElem?_set_ne (fun h => e h.symm)]
 have new : (vs.set k u)[k]? = some u := by rw [List.getElem?_set_self (by omega)]
 refine ⟨vs.set k u, hst.1, fun j hj => ?_, fun i j v v' b hij hj hv hv' hb1 hb2 => ?_⟩
 ·
  by_cases e : j = k
  ·
   subst e
   refine ⟨u, new, (ho.raise (show g + 1 ≤ w.heap.size by omega)).same fun b hb1 => ?_, fun b hb1 => by have := World.ownsRow.lt ho b hb1; simpa [World.setCell] using this.2⟩
   have := World.ownsRow.lt ho b hb1
   rw [Below.heap_setCell _ _ _ _ (show b ≠ g by omega)]
  ·
   obtain ⟨v, e1, e2, e3⟩ := h2 j (by omega)
   refine ⟨v, by rw [old j hj e]; exact e1, (e2.below hb).same fun b hb1 => ?_, fun b hb1 => by have := e3 b hb1; have := hb.size; simp [World.setCell]; omega⟩
   have := World.ownsRow.lt e2 b hb1
   rw [Below.heap_setCell _ _ _ _ (show b ≠ g by omega)]
 ·
  rw [old i (by omega) (by omega)] at hv
  by_cases e : j = k
  ·
   subst e
   rw [new] at hv'
   obtain rfl := Option.some.inj hv'
   have a1 := (World.ownsRow.lt ho b hb2).1
   obtain ⟨v2, e1, e2, _⟩ := h2 i (by omega)
   rw [hv] at e1
   obtain rfl := Option.some.inj e1
   have a2 := (World.ownsRow.lt e2 b hb1).2
   omega
  ·
   rw [old j hj e] at hv'
   exact h3 i j v v' b hij (by omega) hv hv' hb1 hb2
set_option maxHeartbeats 1000000 in
theorem laws_toIntSS (B : Nat) (a : Option Addr) (cap : Nat) (L : List (List Int)) (hl : L.length ≤ 1048576) (hr : ∀ k, k < L.length → (rw_ L k).length ≤ 1048576) (w : World) (hBw : B ≤ w.heap.size) (hz : MatIn B w a L) :
  Calls Try.prog 47 #[.slice a L.length cap] w (MakesMat L w) := by
 have Hz := zH (hz.mono hBw)
 have HR := zH hr
 obtain ⟨i0, hi, hz0, hz1, hz2⟩ := info_parts info_ints
 have HI := zH hi
 have HZ0 := zH hz0
 have HZ1 := zH hz1
 have hby : i0.bytes * L.length ≤ 281474976710656 := by rw [hz2]; omega
 have Hby := zH hby
 clear hz hi hz0 hz1 hz2 hby hr
 go_enter Try.func47, Try.ntmps47
 go_wp2_with (refine wpList_make_full _ rfl _ _ 24 rfl w.heap.size 25 i0 (.slice none 0 0) 1 Try.underlying24 HI.out HZ0.out HZ1.out _ _ _ _ L.length rfl rfl rfl rfl Hby.out ?c1 (Nat.le_refl _) ?_)
 case c1 => unfold maxLen; omega
 intro w1 hown hgrow
 have Hown : Hid (CopiedM w.heap.size w.heap.size L.length 0 w1 L) := ⟨_, hown, fun j hj => absurd hj (by omega), fun i j v v' b h1 h2 => absurd h2 (by omega)⟩
 have Hb1 := zH ((Below.refl w.heap.size w).grown hgrow (Nat.le_refl _) (fun k hk => by cases hk))
 have hlt1 : w.heap.size < w1.heap.size := (hown.lt _ rfl).2
 clear hown hgrow
 go_wp2_with fail
 go_loopw [4] (fun i wr => ∃ k : Nat, k ≤ L.length ∧ i = .int .i64 k ∧ w.heap.size < wr.heap.size ∧ Hid (CopiedM w.heap.size w.heap.size L.length k wr L) ∧ Hid (Below w.heap.size w wr)) (fun i _ => L.length - (intOf i).toNat)
 case atStart => exact ⟨0, Nat.zero_le _, rfl, hlt1, Hown, Hb1⟩
 case round =>
  obtain ⟨k, hk, rfl, hgl, hC, hB⟩ := hrel
  by_cases hlt : k < L.length
  ·
   obtain ⟨b, o, a', c', rfl, hbB, hcell, hN⟩ := (Hz.out.below hB.out) k hlt
   have hrl := HR.out k hlt
   have HN := zH hN
   clear hN
   go_wp2_with fail
   refine (laws_toIntS wr.heap.size a' c' (rw_ L k) hrl _ (Nat.le_refl _) (HN.out.mono hB.out.size)).mono ?_
   rintro e w2 ⟨u, rfl, ho, hb2⟩
   have HC2 := zH (hC.out.next hlt hgl hb2 ho)
   have hgc : ∃ v, w2.cell? ⟨w.heap.size, k, none⟩ = some v := by
    obtain ⟨vs, h1, _⟩ := hC.out.kept hb2
    have hl2 := h1.1
    exact ⟨vs[k], by rw [h1.cellAt k (by omega), List.getElem?_eq_getElem (by omega)]⟩
   obtain ⟨v, hv⟩ := hgc
   have hf : w2.frozen? ⟨w.heap.size, k, none⟩ = false := by
    obtain ⟨vs, h1, _⟩ := hC.out.kept hb2
    exact h1.frozenAt k
   have HB2 := zH ((hB.out.trans (hb2.mono hB.out.size)).setCell (p := ⟨w.heap.size, k, none⟩) (Nat.le_refl _) u)
   have hgl2 : w.heap.size < w2.heap.size := Nat.lt_of_lt_of_le hgl hb2.size
   obtain ⟨au, cu, rfl, _⟩ := own_reads ho
   clear hb2 ho hgl hrl
   go_wp2_with fail
   go_roundw
   case rel => exact ⟨k + 1, by omega, by go_num, by simp; omega, HC2, HB2⟩
   case measure => simp [intOf]; omega
  ·
   have he : k = L.length := by omega
   have Hc : Hid (OwnMat w.heap.size wr.heap.size wr (.slice (some ⟨w.heap.size, 0, none⟩) L.length L.length) L) := by
    obtain ⟨vs, h1, h2⟩ := hC.out
    rw [he] at h2
    exact ⟨_, _, vs, rfl, hgl, h1, h2⟩
   clear he
   go_wp2_with fail
   go_ret
   exact ⟨_, rfl, Hc.out, hB.out⟩
set_option maxHeartbeats 1000000 in
theorem laws_eqIntSS (B : Nat) (a1 a2 : Option Addr) (c1 c2 : Nat) (L : List (List Int)) (hn : L.length ≤ 1048576) (hr : ∀ k, k < L.length → (rw_ L k).length ≤ 1048576) (w : World) (h1 : MatIn B w a1 L) (h2 : MatIn B w a2 L) :
  Calls Try.prog 50 #[.slice a1 L.length c1, .slice a2 L.length c2] w (DrawnT w) := by
 have H1 := zH h1
 have H2 := zH h2
 have HR := zH hr
 clear h1 h2 hr
 go_enter Try.func50, Try.ntmps50
 go_wp2_with fail
 go_loopw [5] (fun i wr => ∃ k : Nat, k ≤ L.length ∧ i = .int .i64 k ∧ Hid (∃ d, wr = w.drewN d)) (fun i _ => L.length - (intOf i).toNat)
 case atStart => exact ⟨0, Nat.zero_le _, rfl, ⟨0, rfl⟩⟩
 case round =>
  obtain ⟨k, hk, rfl, hD⟩ := hrel
  by_cases hlt : k < L.length
  ·
   have g1 : MatIn B wr a1 L := by obtain ⟨d, rfl⟩ := hD.out; exact H1.out
   have g2 : MatIn B wr a2 L := by obtain ⟨d, rfl⟩ := hD.out; exact H2.out
   obtain ⟨b1, o1, a1', c1', rfl, _, p1, n1⟩ := g1 k hlt
   obtain ⟨b2, o2, a2', c2', rfl, _, p2, n2⟩ := g2 k hlt
   have hrl := HR.out k hlt
   have N1 := zH n1
   have N2 := zH n2
   clear n1 n2 g1 g2
   generalize rw_ L k = x at *
   go_wp2_with fail
   go_quiet (first | (go_at_call 51; exact Calls.quiet_of (laws_eqIntS a1' a2' c1' c2' x (by omega) _ (N1.out.ints.drewN _) (N2.out.ints.drewN _))))
   clear N1 N2 hrl
   go_wp2_with fail
   go_roundw
   case rel => exact ⟨k + 1, by omega, by go_num, by obtain ⟨d, rfl⟩ := hD.out; exact ⟨d + nq, by simp [Nat.add_comm]⟩⟩
   case measure => simp [intOf]; omega
  ·
   go_wp2_with fail
   go_ret
   exact ⟨rfl, hD.out⟩
end Go.Proofs.Ytmjmjilpcekngaa

namespace Go.Proofs.Ytmjmjilpcekngaa
open Go.RowKit
open Ve (R)
open Lp (P)

structure LpIn (B : Nat) (w : World) (a b c : Option Addr) (p : P) : Prop where
 mA : MatIn B w a p.A
 mB : NumsIn B w b p.B
 mC : RatsIn B w c p.C
theorem LpIn.below {B : Nat} {w w' : World} {a b c : Option Addr} {p : P} (h : LpIn B w a b c p) (hb : Below B w w') : LpIn B w' a b c p := ⟨h.mA.below hb, h.mB.below hb, h.mC.below hb⟩
theorem LpIn.mono {B B' : Nat} {w : World} {a b c : Option Addr} {p : P} (h : LpIn B w a b c p) (hB : B ≤ B') : LpIn B' w a b c p := ⟨h.mA.mono hB, h.mB.mono hB, h.mC.mono hB⟩
theorem LpIn.drewN {B : Nat} {w : World} {a b c : Option Addr} {p : P} (h : LpIn B w a b c p) (d : Nat) : LpIn B (w.drewN d) a b c p := ⟨h.mA, h.mB, h.mC⟩
def lpN (p : P) : Nat := p.A.length + cellsOf p.A + p.B.length + p.C.length
def LpLens (p : P) : Prop := p.A.length ≤ 9223372036854775807 ∧ Lens p.A ∧ p.B.length ≤ 9223372036854775807 ∧ p.C.length ≤ 9223372036854775807
structure LpFits (p : P) : Prop where
 A : p.A.length ≤ 1048576
 row : ∀ k, k < p.A.length → (rw_ p.A k).length ≤ 1048576
 B : p.B.length ≤ 1048576
 C : p.C.length ≤ 1048576
 marks : 1 + cellsOf p.A + p.B.length ≤ 1048577
 markA : 1 + cellsOf p.A ≤ 1048576
theorem lpFits {p : P} (h : lpN p ≤ 1048576) : LpFits p := by
 unfold lpN at h
 refine ⟨by omega, fun k hk => by have := cellsOf_row p.A k hk; omega, by omega, by omega, by omega, ?_⟩
 obtain ⟨A, Bv, Cv⟩ := p
 rcases A with _ | ⟨r, L⟩
 ·
  simp [cellsOf]
 ·
  simp only [List.length_cons] at h; simp only; omega
set_option maxHeartbeats 1000000 in
theorem szLP (B : Nat) (a b c : Option Addr) (c1 c2 c3 : Nat) (p : P) (left : Int) (hn : LpLens p) (hl0 : 0 ≤ left) (hl1 : left ≤ 1048576) (w : World) (hBw : B ≤ w.heap.size) (hz : LpIn B w a b c p) :
  Calls Try.prog 16 #[.agg #[.slice a p.A.length c1, .slice b p.B.length c2, .slice c p.C.length c3], .int .i64 left] w
   fun e w' => ∃ r : Int, e = .returned (.int .i64 r) ∧ -1 ≤ r ∧ r ≤ 1048576 ∧ (0 ≤ r → (lpN p : Int) + r = left) ∧ Below w.heap.size w w' := by
 obtain ⟨n1, n2, n3, n4⟩ := hn
 have Hz := zH (hz.mono hBw)
 have Hn2 := zH n2
 clear hz n2
 go_enter Try.func16, Try.ntmps16
 go_wp2_with fail
 have Hb := zH ((Below.refl w.heap.size w).alloc (Nat.le_refl _) (.cells #[.slice a p.A.length c1, .slice b p.B.length c2, .slice c p.C.length c3] 45))
 refine (szM w.heap.size a c1 p.A left n1 Hn2.out hl0 hl1 _ (Hz.out.mA.below Hb.out)).mono ?_
 rintro e w1 ⟨r, rfl, hr0, hr1, hr2, rfl⟩
 by_cases hneg : r < 0
 ·
  have hb2 : decide (r < 0) = true := by rw [decide_eq_true_iff]; exact hneg
  go_wp2_with fail
  go_ret
  exact ⟨-1, rfl, by omega, by omega, fun h => by omega, Hb.out⟩
 ·
  have hb2 : decide (r < 0) = false := by rw [decide_eq_false_iff_not]; exact hneg
  go_wp2_with fail
  refine (szI b p.B.length c2 r n3 (by omega) hr1 _).mono ?_
  rintro e w1 ⟨s, rfl, hs0, hs1, hs2, rfl⟩
  by_cases hneg2 : s < 0
  ·
   have hb3 : decide (s < 0) = true := by rw [decide_eq_true_iff]; exact hneg2
   go_wp2_with fail
   go_ret
   exact ⟨-1, rfl, by omega, by omega, fun h => by omega, Hb.out⟩
  ·
   have hb3 : decide (s < 0) = false := by rw [decide_eq_false_iff_not]; exact hneg2
   go_wp2_with fail
   refine (szR c p.C.length c3 s n4 (by omega) hs1 _).mono ?_
   rintro e w1 ⟨t, rfl, ht0, ht1, ht2, rfl⟩
   by_cases hneg3 : t < 0
   ·
    have hb4 : decide (t < 0) = true := by rw [decide_eq_true_iff]; exact hneg3
    go_wp2_with fail
    go_ret
    exact ⟨-1, rfl, by omega, by omega, fun h => by omega, Hb.out⟩
   ·
    have hb4 : decide (t < 0) = false := by rw [decide_eq_false_iff_not]; exact hneg3
    go_wp2_with fail
    go_ret
    refine ⟨t, rfl, by omega, by omega, fun h => ?_, Hb.out⟩
    have := hr2 (by omega)
    have := hs2 (by omega)
    have := ht2 (by omega)
    unfold lpN
    omega
structure OwnLP (lo hi : Nat) (w : World) (v : Value) (p : P) : Prop where
 ex : ∃ (m1 m2 : Nat) (vA vB vC : Value), v = .agg #[vA, vB, vC] ∧ lo ≤ m1 ∧ m1 ≤ m2 ∧ m2 ≤ hi ∧ hi ≤ w.heap.size ∧ OwnMat lo m1 w vA p.A ∧ (OwnInts m1 w vB p.B ∧ ∀ g, vB.ownBlock = some g → g < m2) ∧ (OwnRats m2 w vC p.C ∧ ∀ g, vC.ownBlock = some g → g < hi)
theorem OwnLP.below {lo hi : Nat} {w w' : World} {v : Value} {p : P} (h : OwnLP lo hi w v p) (hb : Below w.heap.size w w') : OwnLP lo hi w' v p := by
 obtain ⟨m1, m2, vA, vB, vC, rfl, h1, h2, h3, h4, hA, ⟨hB, kB⟩, hC, kC⟩ := h
 exact ⟨m1, m2, vA, vB, vC, rfl, h1, h2, h3, Nat.le_trans h4 hb.size, hA.below hb, ⟨hB.below hb, kB⟩, hC.below hb, kC⟩
theorem OwnLP.reads {lo hi : Nat} {w : World} {v : Value} {p : P} (h : OwnLP lo hi w v p) :
  ∃ (a b c : Option Addr) (c1 c2 c3 : Nat), v = .agg #[.slice a p.A.length c1, .slice b p.B.length c2, .slice c p.C.length c3] ∧ LpIn hi w a b c p ∧ hi ≤ w.heap.size := by
 obtain ⟨m1, m2, vA, vB, vC, rfl, h1, h2, h3, h4, hA, ⟨hB, kB⟩, hC, kC⟩ := h
 obtain ⟨a, c1, rfl, rA⟩ := hA.reads
 obtain ⟨b, c2, rfl, rB, pB, _⟩ := own_reads hB
 obtain ⟨c, c3, rfl, rC, pC, _⟩ := own_rats hC
 refine ⟨a, b, c, c1, c2, c3, rfl, ⟨rA.mono (by omega), NumsIn.of_ints rB fun q hq => ?_, rC.narrow fun q hq => kC q.block (by rw [hq]; rfl)⟩, h4⟩
 have := kB q.block (by rw [hq]; rfl)
 omega
def Tri (w : World) (q : Nat) (x y z : Value) (t : TypeId) : Prop := w.heap[q]? = some (.cells #[x, y, z] t)
theorem Tri.cells {w : World} {q : Nat} {x y z : Value} {t : TypeId} (h : Tri w q x y z t) :
  w.cell? ⟨q, 0, none⟩ = some x ∧ w.cell? ⟨q, 1, none⟩ = some y ∧ w.cell? ⟨q, 2, none⟩ = some z ∧ w.frozen? ⟨q, 0, none⟩ = false ∧ w.frozen? ⟨q, 1, none⟩ = false ∧ w.frozen? ⟨q, 2, none⟩ = false := by
 unfold Tri at h
 simp [World.cell?, World.frozen?, h]
theorem Tri.below {w w' : World} {q : Nat} {x y z : Value} {t : TypeId} (h : Tri w q x y z t) (hb : Below w.heap.size w w') : Tri w' q x y z t := (hb.block q (lt_of_at h)).trans h
theorem Tri.new (w : World) (x y z : Value) (t : TypeId) : Tri (w.alloc (.cells #[x, y, z] t)) w.heap.size x y z t := by show (w.heap.push _)[w.heap.size]? = _; simp
theorem Tri.more {w : World} {q : Nat} {x y z : Value} {t : TypeId} (h : Tri w q x y z t) (o : Obj) : Tri (w.alloc o) q x y z t := by
 have hl := lt_of_at h
 show (w.heap.push _)[q]? = _
 rw [Array.getElem?_push_lt hl, ← Array.getElem?_eq_getElem hl]; exact h
theorem Tri.other {w : World} {q : Nat} {x y z : Value} {t : TypeId} (h : Tri w q x y z t) {p : Addr} (hp : p.block ≠ q) (u : Value) : Tri (w.setCell p u) q x y z t := by
 obtain ⟨b, o, sp⟩ := p
 show (w.setCell _ u).heap[q]? = _
 rw [Below.heap_setCell _ _ _ _ (fun e => hp e.symm)]; exact h
theorem Tri.set0 {w : World} {q : Nat} {x y z : Value} {t : TypeId} (h : Tri w q x y z t) (u : Value) : Tri (w.setCell ⟨q, 0, none⟩ u) q u y z t := by
 show (w.heap.modify q _)[q]? = _
 rw [Array.getElem?_modify, show w.heap[q]? = _ from h]
 simp
theorem Tri.set1 {w : World} {q : Nat} {x y z : Value} {t : TypeId} (h : Tri w q x y z t) (u : Value) : Tri (w.setCell ⟨q, 1, none⟩ u) q x u z t := by
 show (w.heap.modify q _)[q]? = _
 rw [Array.getElem?_modify, show w.heap[q]? = _ from h]
 simp
theorem Tri.set2 {w : World} {q : Nat} {x y z : Value} {t : TypeId} (h : Tri w q x y z t) (u : Value) : Tri (w.setCell ⟨q, 2, none⟩ u) q x y u t := by
 show (w.heap.modify q _)[q]? = _
 rw [Array.getElem?_modify, show w.heap[q]? = _ from h]
 simp
structure LpBoxes (W w : World) (s : Nat) (a b c x y z : Value) : Prop where
 arg : Tri w s a b c 45
 res : Tri w (s + 1) (.slice none 0 0) (.slice none 0 0) (.slice none 0 0) 28
 out : Tri w (s + 1 + 1) x y z 28
 low : Below s W w
 size : s + 3 ≤ w.heap.size
theorem LpBoxes.start (w : World) (a b c : Value) :
  LpBoxes w (((w.alloc (.cells #[a, b, c] 45)).alloc (.cells #[.slice none 0 0, .slice none 0 0, .slice none 0 0] 28)).alloc (.cells #[.slice none 0 0, .slice none 0 0, .slice none 0 0] 28)) w.heap.size a b c (.slice none 0 0) (.slice none 0 0) (.slice none 0 0) := by
 have e1 : (w.alloc (.cells #[a, b, c] 45)).heap.size = w.heap.size + 1 := size1 _ _
 have e2 := size2 w (.cells #[a, b, c] 45) (.cells #[.slice none 0 0, .slice none 0 0, .slice none 0 0] 28)
 have h1 := Tri.new w a b c 45
 have h2 := Tri.new (w.alloc (.cells #[a, b, c] 45)) (.slice none 0 0) (.slice none 0 0) (.slice none 0 0) 28
 have h3 := Tri.new ((w.alloc (.cells #[a, b, c] 45)).alloc (.cells #[.slice none 0 0, .slice none 0 0, .slice none 0 0] 28)) (.slice none 0 0) (.slice none 0 0) (.slice none 0 0) 28
 rw [e1] at h2
 rw [e2] at h3
 refine ⟨(h1.more _).more _, h2.more _, h3, (((Below.refl _ w).alloc (Nat.le_refl _) _).alloc (by rw [e1]; omega) _).alloc (by rw [e2]; omega) _, by rw [size1, e2]; omega⟩
theorem LpBoxes.below {W w w' : World} {s : Nat} {a b c x y z : Value} (h : LpBoxes W w s a b c x y z) (hb : Below w.heap.size w w') : LpBoxes W w' s a b c x y z :=
 ⟨h.arg.below hb, h.res.below hb, h.out.below hb, h.low.trans (hb.mono (by have := h.size; omega)), by have := h.size; have := hb.size; omega⟩
theorem LpBoxes.set0 {W w : World} {s : Nat} {a b c x y z : Value} (h : LpBoxes W w s a b c x y z) (u : Value) : LpBoxes W (w.setCell ⟨s + 1 + 1, 0, none⟩ u) s a b c u y z :=
 ⟨h.arg.other (p := ⟨s + 1 + 1, 0, none⟩) (show s + 1 + 1 ≠ s by omega) u, h.res.other (p := ⟨s + 1 + 1, 0, none⟩) (show s + 1 + 1 ≠ s + 1 by omega) u, h.out.set0 u, h.low.setCell (p := ⟨s + 1 + 1, 0, none⟩) (show s ≤ s + 1 + 1 by omega) u, by have := h.size; simpa [World.setCell] using this⟩
theorem LpBoxes.set1 {W w : World} {s : Nat} {a b c x y z : Value} (h : LpBoxes W w s a b c x y z) (u : Value) : LpBoxes W (w.setCell ⟨s + 1 + 1, 1, none⟩ u) s a b c x u z :=
 ⟨h.arg.other (p := ⟨s + 1 + 1, 1, none⟩) (show s + 1 + 1 ≠ s by omega) u, h.res.other (p := ⟨s + 1 + 1, 1, none⟩) (show s + 1 + 1 ≠ s + 1 by omega) u, h.out.set1 u, h.low.setCell (p := ⟨s + 1 + 1, 1, none⟩) (show s ≤ s + 1 + 1 by omega) u, by have := h.size; simpa [World.setCell] using this⟩
theorem LpBoxes.set2 {W w : World} {s : Nat} {a b c x y z : Value} (h : LpBoxes W w s a b c x y z) (u : Value) : LpBoxes W (w.setCell ⟨s + 1 + 1, 2, none⟩ u) s a b c x y u :=
 ⟨h.arg.other (p := ⟨s + 1 + 1, 2, none⟩) (show s + 1 + 1 ≠ s by omega) u, h.res.other (p := ⟨s + 1 + 1, 2, none⟩) (show s + 1 + 1 ≠ s + 1 by omega) u, h.out.set2 u, h.low.setCell (p := ⟨s + 1 + 1, 2, none⟩) (show s ≤ s + 1 + 1 by omega) u, by have := h.size; simpa [World.setCell] using this⟩
theorem lp_made {s n0 : Nat} {w1 w1' w2 w2' w3 w4 : World} {vA vB vC : Value} {p : P} (h0 : s + 3 ≤ n0) (e1 : w1'.heap.size = w1.heap.size) (e2 : w2'.heap.size = w2.heap.size) (h1 : n0 ≤ w1.heap.size) (hA : OwnMat n0 w1.heap.size w1 vA p.A) (hB : OwnInts w1'.heap.size w2 vB p.B) (hC : OwnRats w2'.heap.size w3 vC p.C)
  (t1 : Turned s (s + 3) w1 w1') (kB : Below w1'.heap.size w1' w2) (t2 : Turned s (s + 3) w2 w2') (kC : Below w2'.heap.size w2' w3) (t3 : Turned s (s + 3) w3 w4) : OwnLP s w4.heap.size w4 (.agg #[vA, vB, vC]) p := by
 have hs2 := kB.size
 have hs3 := kC.size
 have hs4 := t3.size
 have T3 := t3
 have T2 := (t2.step kC).trans T3
 have T1 := (t1.step kB).trans T2
 have lB : ∀ g, vB.ownBlock = some g → w1'.heap.size ≤ g ∧ g < w2.heap.size := World.ownsRow.lt hB
 have lC : ∀ g, vC.ownBlock = some g → w2'.heap.size ≤ g ∧ g < w3.heap.size := World.ownsRow.lt hC
 refine ⟨w1.heap.size, w2.heap.size, vA, vB, vC, rfl, by omega, by omega, by omega, Nat.le_refl _, (hA.turned T1 (.inr h0)).wider (by omega) (Nat.le_refl _), ⟨(hB.turned T2 fun g hg => .inr ?_).raise (by omega), fun g hg => (lB g hg).2⟩, (hC.turned T3 fun g hg => .inr ?_).raise (by omega), fun g hg => ?_⟩
 ·
  have := lB g hg; omega
 ·
  have := lC g hg; omega
 ·
  have := lC g hg; omega
set_option maxHeartbeats 1000000 in
theorem toLP (B : Nat) (a b c : Option Addr) (c1 c2 c3 : Nat) (p : P) (hn : LpFits p) (w : World) (hBw : B ≤ w.heap.size) (hz : LpIn B w a b c p) :
  Calls Try.prog 19 #[.agg #[.slice a p.A.length c1, .slice b p.B.length c2, .slice c p.C.length c3]] w
   fun e w' => ∃ v, e = .returned v ∧ OwnLP w.heap.size w'.heap.size w' v p ∧ Below w.heap.size w w' := by
 have Hz := zH (hz.mono hBw)
 have HN := zH hn
 have hb0 := LpBoxes.start w (.slice a p.A.length c1) (.slice b p.B.length c2) (.slice c p.C.length c3)
 have Hb0 := zH hb0
 clear hz hn hb0
 go_enter Try.func19, Try.ntmps19
 go_wp2_with fail
 refine (laws_toIntSS _ a c1 p.A HN.out.A HN.out.row _ (Nat.le_refl _) (((Hz.out.below Hb0.out.low).mono (by have := Hb0.out.size; omega)).mA)).mono ?_
 rintro e w1 ⟨vA, rfl, oA, kA⟩
 have hb1 := Hb0.out.below kA
 obtain ⟨r0, r1, r2, _, _, _⟩ := hb1.arg.cells
 obtain ⟨o0, o1, o2, f0, f1, f2⟩ := hb1.out.cells
 have Hb1 := zH (hb1.set0 vA)
 have HA := zH oA
 obtain ⟨aA, cA, rfl, _⟩ := oA.reads
 have KA := zH kA
 clear hb1 oA kA
 go_wp2_with fail
 have e1 : (w1.setCell ⟨w.heap.size + 1 + 1, 0, none⟩ (.slice aA p.A.length cA)).heap.size = w1.heap.size := by simp [World.setCell]
 refine (laws_toIntS _ b c2 p.B HN.out.B _ (Nat.le_refl _) (((Hz.out.below Hb1.out.low).mono (by have := Hb1.out.size; omega)).mB)).mono ?_
 rintro e w2 ⟨vB, rfl, oB, kB⟩
 have hb1 := Hb1.out.below kB
 obtain ⟨r0, r1, r2, _, _, _⟩ := hb1.arg.cells
 obtain ⟨o0, o1, o2, f0, f1, f2⟩ := hb1.out.cells
 have Hb2 := zH (hb1.set1 vB)
 have HB := zH oB
 have KB := zH kB
 obtain ⟨aB, cB, rfl, _⟩ := own_reads oB
 clear hb1 oB kB
 go_wp2_with fail
 have e2 : (w2.setCell ⟨w.heap.size + 1 + 1, 1, none⟩ (.slice aB p.B.length cB)).heap.size = w2.heap.size := by simp [World.setCell]
 refine (laws_toRatS _ c c3 p.C HN.out.C _ (Nat.le_refl _) (((Hz.out.below Hb2.out.low).mono (by have := Hb2.out.size; omega)).mC)).mono ?_
 rintro e w3 ⟨vC, rfl, oC, kC⟩
 have hb1 := Hb2.out.below kC
 obtain ⟨r0, r1, r2, _, _, _⟩ := hb1.arg.cells
 obtain ⟨o0, o1, o2, f0, f1, f2⟩ := hb1.out.cells
 have hb3 := hb1.set2 vC
 have HC := zH oC
 have KC := zH kC
 obtain ⟨aC, cC, rfl, _⟩ := own_rats oC
 obtain ⟨x0, x1, x2, g0, g1, g2⟩ := hb3.res.cells
 obtain ⟨y0, y1, y2, _, _, _⟩ := hb3.out.cells
 have Hb3 := zH hb3
 clear hb1 oC kC hb3
 go_wp2_with fail
 refine bodyPost_ret (v := .agg #[.slice aA p.A.length cA, .slice aB p.B.length cB, .slice aC p.C.length cC]) (by
  obtain ⟨z0, z1, z2, _⟩ := (((Hb3.out.res.set0 (.slice aA p.A.length cA)).set1 (.slice aB p.B.length cB)).set2 (.slice aC p.C.length cC)).cells
  revert z0 z1 z2
  generalize ((((w3.setCell ⟨w.heap.size + 1 + 1, 2, none⟩ (.slice aC p.C.length cC)).setCell ⟨w.heap.size + 1, 0, none⟩ (.slice aA p.A.length cA)).setCell ⟨w.heap.size + 1, 1, none⟩ (.slice aB p.B.length cB)).setCell ⟨w.heap.size + 1, 2, none⟩ (.slice aC p.C.length cC)) = W4
  intro z0 z1 z2
  simp [results, Try.results19, go_sem, z0, z1, z2]) rfl ⟨_, rfl, ?_, ?_⟩
 ·
  refine lp_made Hb0.out.size e1 e2 KA.out.size HA.out HB.out HC.out ((Turned.refl _ _ _).setCell ?_ ?_ _) KB.out ((Turned.refl _ _ _).setCell ?_ ?_ _) KC.out (((((Turned.refl _ _ _).setCell ?_ ?_ _).setCell ?_ ?_ _).setCell ?_ ?_ _).setCell ?_ ?_ _) <;> simp only <;> omega
 ·
  exact ((Hb3.out.low.setCell (p := ⟨w.heap.size + 1, 0, none⟩) (Nat.le_succ _) _).setCell (p := ⟨w.heap.size + 1, 1, none⟩) (Nat.le_succ _) _).setCell (p := ⟨w.heap.size + 1, 2, none⟩) (Nat.le_succ _) _
set_option maxHeartbeats 1000000 in
theorem eqLP (B : Nat) (a b c a' b' c' : Option Addr) (c1 c2 c3 d1 d2 d3 : Nat) (p : P) (hn : LpFits p) (w : World) (hBw : B ≤ w.heap.size) (hz : LpIn B w a b c p) (hy : LpIn B w a' b' c' p) :
  Calls Try.prog 21 #[.agg #[.slice a p.A.length c1, .slice b p.B.length c2, .slice c p.C.length c3], .agg #[.slice a' p.A.length d1, .slice b' p.B.length d2, .slice c' p.C.length d3]] w
   fun e w' => e = .returned (.bool true) ∧ Below w.heap.size w w' := by
 have HN := zH hn
 have hb := ((Below.refl w.heap.size w).alloc (Nat.le_refl _) (.cells #[.slice a p.A.length c1, .slice b p.B.length c2, .slice c p.C.length c3] 28)).alloc (by rw [size1]; omega) (.cells #[.slice a' p.A.length d1, .slice b' p.B.length d2, .slice c' p.C.length d3] 28)
 have hx := (Tri.new w (.slice a p.A.length c1) (.slice b p.B.length c2) (.slice c p.C.length c3) 28).more (.cells #[.slice a' p.A.length d1, .slice b' p.B.length d2, .slice c' p.C.length d3] 28)
 have hx' := Tri.new (w.alloc (.cells #[.slice a p.A.length c1, .slice b p.B.length c2, .slice c p.C.length c3] 28)) (.slice a' p.A.length d1) (.slice b' p.B.length d2) (.slice c' p.C.length d3) 28
 rw [size1] at hx'
 have Hz := zH ((hz.mono hBw).below hb)
 have Hy := zH ((hy.mono hBw).below hb)
 have Hb := zH hb
 have Hx := zH hx
 have Hx' := zH hx'
 clear hz hy hn hb hx hx'
 go_enter Try.func21, Try.ntmps21
 go_wp2_with fail
 refine (laws_eqIntSS _ a a' c1 d1 p.A HN.out.A HN.out.row _ Hz.out.mA Hy.out.mA).mono ?_
 rintro e w1 ⟨rfl, d, rfl⟩
 go_wp2_with fail
 refine (laws_eqIntS b b' c2 d2 p.B (by have := HN.out.B; omega) _ (Hz.out.mB.ints.drewN d) (Hy.out.mB.ints.drewN d)).mono ?_
 rintro e w1 ⟨rfl, d2, rfl⟩
 go_wp2_with fail
 have Hs := zH (below_drewN Hb.out (d + d2))
 refine (laws_eqRatS w.heap.size c c' c3 d3 p.C (by have := HN.out.C; omega) _ Hs.out.size (Hz.out.mC.drewN (d + d2)) (Hy.out.mC.drewN (d + d2))).mono ?_
 rintro e w1 ⟨rfl, hb1⟩
 have Hs2 := zH (Hs.out.trans (hb1.mono Hs.out.size))
 clear hb1
 go_wp2_with fail
 go_ret
 exact ⟨rfl, Hs2.out⟩
end Go.Proofs.Ytmjmjilpcekngaa
