/- Slices of slices of fractions, as the laws count, copy, compare them. -/
import Derived.Test.YtkindblhafejfaaGLa
import Derived.Test.YtkindblhafejfaaTaW
namespace Go.Proofs.Ytkindblhafejfaa
open Go.RowKit
open Ve (R)
theorem RMatIn.drewN {B : Nat} {w : World} {a : Option Addr} {L : List (List R)} (h : RMatIn B w a L) (d : Nat) : RMatIn B (w.drewN d) a L := h
/-- All the numbers of the rows. -/
def cellsM : List (List R) → Nat
  | [] => 0
  | r :: L => r.length + cellsM L
theorem cellsM_take (L : List (List R)) (k : Nat) (h : k < L.length) : cellsM (L.take (k + 1)) = cellsM (L.take k) + (rr L k).length := by
  induction L generalizing k with
  | nil => simp at h
  | cons r L ih =>
    cases k with
    | zero => simp [cellsM, rr]
    | succ k =>
      have := ih k (by simpa using h)
      simp only [List.take_succ_cons, cellsM]
      have e : rr (r :: L) (k + 1) = rr L k := by simp [rr]
      rw [e]; omega
theorem cellsM_row (L : List (List R)) (k : Nat) (h : k < L.length) : (rr L k).length ≤ cellsM L := by
  induction L generalizing k with
  | nil => simp at h
  | cons r L ih =>
    cases k with
    | zero => simp [cellsM, rr]
    | succ k =>
      have := ih k (by simpa using h)
      have e : rr (r :: L) (k + 1) = rr L k := by simp [rr]
      rw [e]; simp only [cellsM]; omega
theorem cellsM_le (L : List (List R)) (k : Nat) : cellsM (L.take k) ≤ cellsM L := by
  induction L generalizing k with
  | nil => simp
  | cons r L ih =>
    cases k with
    | zero => simp [cellsM]
    | succ k =>
      have := ih k
      simp only [List.take_succ_cons, cellsM]; omega
/-- Go's lengths of the rows. -/
def LensM (L : List (List R)) : Prop := ∀ k, k < L.length → (rr L k).length ≤ 9223372036854775807

set_option maxHeartbeats 1000000 in
theorem szRM (B : Nat) (a : Option Addr) (cap : Nat) (L : List (List R)) (left : Int) (hm : L.length ≤ 9223372036854775807) (hn : LensM L) (hl0 : 0 ≤ left) (hl1 : left ≤ 1048576) (w : World) (hz : RMatIn B w a L) :
    Calls Try.prog 45 #[.slice a L.length cap, .int .i64 left] w (SzR (L.length + cellsM L) left w) := by
  have Hz := Lib.hid hz
  have Hn := Lib.hid hn
  clear hz hn
  by_cases hneg : left - (L.length : Int) < 0
  · have hb : decide (left - (L.length : Int) < 0) = true := by rw [decide_eq_true_iff]; exact hneg
    go_enter Try.func45, Try.ntmps45
    go_wp2_with fail
    go_ret
    exact ⟨-1, rfl, by omega, by omega, fun h => by omega, rfl⟩
  · have hb : decide (left - (L.length : Int) < 0) = false := by rw [decide_eq_false_iff_not]; exact hneg
    go_enter Try.func45, Try.ntmps45
    go_wp2_with fail
    go_loop [1, 5] (fun q i => ∃ (k : Nat) (l : Int), k ≤ L.length ∧ 0 ≤ l ∧ l ≤ 1048576 ∧ q = .int .i64 l ∧ i = .int .i64 k ∧ Hid ((L.length : Int) + (cellsM (L.take k) : Int) + l = left)) (fun _ i => L.length - (intOf i).toNat)
    case atStart => exact ⟨0, _, Nat.zero_le _, by omega, by omega, rfl, rfl, by show _ = _; simp [cellsM]; omega⟩
    case round =>
      obtain ⟨k, l, hk, hl, hl2, rfl, rfl, hrel⟩ := hrel
      by_cases hlt : k < L.length
      · obtain ⟨b, o, a', c', rfl, _, hcell, _⟩ := Hz.out k hlt
        have ht := Lib.hid (cellsM_take L k hlt)
        have hlen := Hn.out k hlt
        go_wp2_with fail
        refine (szR a' (rr L k).length c' l hlen hl hl2 _).mono ?_
        rintro e w1 ⟨r, rfl, hr0, hr1, hr2, rfl⟩
        by_cases hneg2 : r < 0
        · have hb2 : decide (r < 0) = true := by rw [decide_eq_true_iff]; exact hneg2
          go_wp2_with fail
          go_ret
          exact ⟨-1, rfl, by omega, by omega, fun h => by omega, rfl⟩
        · have hb2 : decide (r < 0) = false := by rw [decide_eq_false_iff_not]; exact hneg2
          have Hr2 : Hid ((L.length : Int) + (cellsM (L.take (k + 1)) : Int) + r = left) := by
            have := hrel.out
            have := hr2 (by omega)
            show _ = _
            rw [ht.out]
            omega
          clear hr2 hlen
          generalize rr L k = x at *
          go_wp2_with fail
          go_round
          case rel => exact ⟨k + 1, r, by omega, by omega, by omega, rfl, by go_num, Hr2⟩
          case measure => simp [intOf]; omega
      · have he : Hid (((L.length + cellsM L : Nat) : Int) + l = left) := by
          have := hrel.out
          have e : L.take k = L := List.take_of_length_le (by omega)
          rw [e] at this
          show _ = _
          omega
        go_wp2_with fail
        go_ret
        exact ⟨l, rfl, by omega, by omega, fun _ => he.out, rfl⟩

/-- The first k of vs are rows of the call's own, each in a block of its own, from lo to hi - 1. -/
def RowsOwnM (lo hi : Nat) (w : World) (vs : List Value) (L : List (List R)) (k : Nat) : Prop :=
  (∀ j, j < k → ∃ v, vs[j]? = some v ∧ OwnRats lo w v (rr L j) ∧ ∀ b, v.ownBlock = some b → b < hi) ∧ ∀ i j v v' b, i < j → j < k → vs[i]? = some v → vs[j]? = some v' → v.ownBlock = some b → v'.ownBlock ≠ some b
/-- A matrix of the call's own, in blocks from lo to hi - 1. -/
def OwnRMat (lo hi : Nat) (w : World) (v : Value) (L : List (List R)) : Prop :=
  ∃ (g n : Nat) (vs : List Value), v = .slice (some ⟨g, 0, none⟩) L.length n ∧ g < hi ∧ w.ownsRow lo 32 1 (.slice (some ⟨g, 0, none⟩) L.length n) L.length vs ∧ RowsOwnM (g + 1) hi w vs L L.length
theorem OwnRMat.same {lo hi : Nat} {w w' : World} {v : Value} {L : List (List R)} (h : OwnRMat lo hi w v L) (hs : ∀ k, lo ≤ k → k < hi → k < w.heap.size → w'.heap[k]? = w.heap[k]?) : OwnRMat lo hi w' v L := by
  obtain ⟨g, n, vs, rfl, hgh, h1, h2, h3⟩ := h
  have hg := World.ownsRow.lt h1 g rfl
  refine ⟨g, n, vs, rfl, hgh, owns_same h1 fun b hb => ?_, fun j hj => ?_, h3⟩
  · obtain rfl : g = b := by simpa [Value.ownBlock] using hb
    exact hs g hg.1 hgh hg.2
  · obtain ⟨v, e, ho, hb⟩ := h2 j hj
    refine ⟨v, e, ho.same fun b hb2 => ?_, hb⟩
    have := World.ownsRow.lt ho b hb2
    exact hs b (by omega) (hb b hb2) this.2
theorem OwnRMat.below {lo hi : Nat} {w w' : World} {v : Value} {L : List (List R)} (h : OwnRMat lo hi w v L) (hb : Below w.heap.size w w') : OwnRMat lo hi w' v L :=
  h.same fun k _ _ hk => hb.block k hk
theorem OwnRMat.turned {lo hi l2 h2 : Nat} {w w' : World} {v : Value} {L : List (List R)} (h : OwnRMat lo hi w v L) (ht : Turned l2 h2 w w') (ha : hi ≤ l2 ∨ h2 ≤ lo) : OwnRMat lo hi w' v L :=
  h.same fun k h1 h2 hk => ht.block k hk (by omega)
theorem OwnRMat.wider {lo hi lo' hi' : Nat} {w : World} {v : Value} {L : List (List R)} (h : OwnRMat lo hi w v L) (h1 : lo' ≤ lo) (h2 : hi ≤ hi') : OwnRMat lo' hi' w v L := by
  obtain ⟨g, n, vs, rfl, hgh, k1, k2, k3⟩ := h
  have hr : w.ownsRow lo' 32 1 (.slice (some ⟨g, 0, none⟩) L.length n) L.length vs := by
    obtain ⟨e1, e2 | ⟨g', cap, cur, e, hg, rest⟩⟩ := k1
    · exact ⟨e1, .inl e2⟩
    · exact ⟨e1, .inr ⟨g', cap, cur, e, by omega, rest⟩⟩
  exact ⟨g, n, vs, rfl, by omega, hr, fun j hj => by
    obtain ⟨v, e, ho, hb⟩ := k2 j hj
    exact ⟨v, e, ho, fun b hb2 => by have := hb b hb2; omega⟩, k3⟩
/-- How it reads. -/
theorem OwnRMat.reads {lo hi : Nat} {w : World} {v : Value} {L : List (List R)} (h : OwnRMat lo hi w v L) :
    ∃ (a : Option Addr) (cap : Nat), v = .slice a L.length cap ∧ RMatIn hi w a L := by
  obtain ⟨g, n, vs, rfl, hgh, h1, h2, h3⟩ := h
  have hg := World.ownsRow.lt h1 g rfl
  refine ⟨_, _, rfl, fun j hj => ?_⟩
  obtain ⟨v, e, ho, hb⟩ := h2 j hj
  obtain ⟨a, cap, rfl, hr, ha, hne⟩ := own_rats ho
  refine ⟨g, 0, a, cap, rfl, hgh, ?_, ?_⟩
  · rw [Nat.zero_add, World.ownsRow.cellAt h1 j (by omega)]
    exact e
  · exact hr.narrow fun p hp => by obtain rfl := hp; exact hb p.block rfl
/-- What a function that makes a matrix returns. -/
def MakesRMat (L : List (List R)) (w : World) (e : Ending) (w' : World) : Prop := ∃ v, e = .returned v ∧ OwnRMat w.heap.size w'.heap.size w' v L ∧ Below w.heap.size w w'
/-- The first k rows are copied. -/
def CopiedRM (B g n k : Nat) (wr : World) (L : List (List R)) : Prop :=
  ∃ vs : List Value, wr.ownsRow B 32 1 (.slice (some ⟨g, 0, none⟩) n n) n vs ∧ RowsOwnM (g + 1) wr.heap.size wr vs L k
theorem CopiedRM.kept {B g n k : Nat} {w w' : World} {L : List (List R)} (h : CopiedRM B g n k w L) (hb : Below w.heap.size w w') : CopiedRM B g n k w' L := by
  obtain ⟨vs, h1, h2, h3⟩ := h
  exact ⟨vs, owns_same h1 fun b hg => hb.block b (World.ownsRow.lt h1 b hg).2, fun j hj => by
    obtain ⟨v, e, ho, hlt⟩ := h2 j hj
    exact ⟨v, e, ho.below hb, fun b h => Nat.lt_of_lt_of_le (hlt b h) hb.size⟩, h3⟩
/-- A row laid behind all that were, and put into its cell. -/
theorem CopiedRM.next {B g n k : Nat} {w w' : World} {L : List (List R)} {u : Value} (h : CopiedRM B g n k w L) (hk : k < n) (hg : g < w.heap.size) (hb : Below w.heap.size w w') (ho : OwnRats w.heap.size w' u (rr L k)) :
    CopiedRM B g n (k + 1) (w'.setCell ⟨g, k, none⟩ u) L := by
  obtain ⟨vs, h1, h2, h3⟩ := h
  have h1' : w'.ownsRow B 32 1 (.slice (some ⟨g, 0, none⟩) n n) n vs := owns_same h1 fun b hg => hb.block b (World.ownsRow.lt h1 b hg).2
  have hl : vs.length = n := by have := h1.1; omega
  have hst := h1'.stored k u
  have old : ∀ j, j < k + 1 → j ≠ k → (vs.set k u)[j]? = vs[j]? := fun j _ e => by rw [List.getElem?_set_ne (fun h => e h.symm)]
  have new : (vs.set k u)[k]? = some u := by rw [List.getElem?_set_self (by omega)]
  refine ⟨vs.set k u, hst.1, fun j hj => ?_, fun i j v v' b hij hj hv hv' hb1 hb2 => ?_⟩
  · by_cases e : j = k
    · subst e
      refine ⟨u, new, (ho.raise (show g + 1 ≤ w.heap.size by omega)).same fun b hb1 => ?_, fun b hb1 => by have := World.ownsRow.lt ho b hb1; simpa [World.setCell] using this.2⟩
      have := World.ownsRow.lt ho b hb1
      rw [Below.heap_setCell _ _ _ _ (show b ≠ g by omega)]
    · obtain ⟨v, e1, e2, e3⟩ := h2 j (by omega)
      refine ⟨v, by rw [old j hj e]; exact e1, (e2.below hb).same fun b hb1 => ?_, fun b hb1 => by have := e3 b hb1; have := hb.size; simp [World.setCell]; omega⟩
      have := World.ownsRow.lt e2 b hb1
      rw [Below.heap_setCell _ _ _ _ (show b ≠ g by omega)]
  · rw [old i (by omega) (by omega)] at hv
    by_cases e : j = k
    · subst e
      rw [new] at hv'
      obtain rfl := Option.some.inj hv'
      have a1 := (World.ownsRow.lt ho b hb2).1
      obtain ⟨v2, e1, e2, _⟩ := h2 i (by omega)
      rw [hv] at e1
      obtain rfl := Option.some.inj e1
      have a2 := (World.ownsRow.lt e2 b hb1).2
      omega
    · rw [old j hj e] at hv'
      exact h3 i j v v' b hij (by omega) hv hv' hb1 hb2
set_option maxRecDepth 100000 in
set_option maxHeartbeats 1000000 in
theorem laws_toRatSS (B : Nat) (a : Option Addr) (cap : Nat) (L : List (List R)) (hl : L.length ≤ 1048576) (hr : ∀ k, k < L.length → (rr L k).length ≤ 1048576) (w : World) (hBw : B ≤ w.heap.size) (hz : RMatIn B w a L) :
    Calls Try.prog 51 #[.slice a L.length cap] w (MakesRMat L w) := by
  have Hz := Lib.hid (hz.mono hBw)
  have HR := Lib.hid hr
  obtain ⟨i0, hi, hz0, hz1, hz2⟩ := info_parts info_rows
  have HI := Lib.hid hi
  have HZ0 := Lib.hid hz0
  have HZ1 := Lib.hid hz1
  have hby : i0.bytes * L.length ≤ 281474976710656 := by rw [hz2]; omega
  have Hby := Lib.hid hby
  clear hz hi hz0 hz1 hz2 hby hr
  go_enter Try.func51, Try.ntmps51
  go_wp2_with (refine wpList_make_full _ rfl _ _ 28 rfl w.heap.size 32 i0 (.slice none 0 0) 1 Try.underlying28 HI.out HZ0.out HZ1.out _ _ _ _ L.length rfl rfl rfl rfl Hby.out ?c1 (Nat.le_refl _) ?_)
  case c1 => unfold maxLen; omega
  intro w1 hown hgrow
  have Hown : Hid (CopiedRM w.heap.size w.heap.size L.length 0 w1 L) := ⟨_, hown, fun j hj => absurd hj (by omega), fun i j v v' b h1 h2 => absurd h2 (by omega)⟩
  have Hb1 := Lib.hid ((Below.refl w.heap.size w).grown hgrow (Nat.le_refl _) (fun k hk => by cases hk))
  have hlt1 : w.heap.size < w1.heap.size := (hown.lt _ rfl).2
  clear hown hgrow
  go_wp2_with fail
  go_loopw [4] (fun i wr => ∃ k : Nat, k ≤ L.length ∧ i = .int .i64 k ∧ w.heap.size < wr.heap.size ∧ Hid (CopiedRM w.heap.size w.heap.size L.length k wr L) ∧ Hid (Below w.heap.size w wr)) (fun i _ => L.length - (intOf i).toNat)
  case atStart => exact ⟨0, Nat.zero_le _, rfl, hlt1, Hown, Hb1⟩
  case round =>
    obtain ⟨k, hk, rfl, hgl, hC, hB⟩ := hrel
    by_cases hlt : k < L.length
    · obtain ⟨b, o, a', c', rfl, hbB, hcell, hN⟩ := (Hz.out.below hB.out) k hlt
      have hrl := HR.out k hlt
      have HN := Lib.hid hN
      clear hN
      go_wp2_with fail
      refine (laws_toRatS wr.heap.size a' c' (rr L k) hrl _ (Nat.le_refl _) (HN.out.mono hB.out.size)).mono ?_
      rintro e w2 ⟨u, rfl, ho, hb2⟩
      have HC2 := Lib.hid (hC.out.next hlt hgl hb2 ho)
      have hgc : ∃ v, w2.cell? ⟨w.heap.size, k, none⟩ = some v := by
        obtain ⟨vs, h1, _⟩ := hC.out.kept hb2
        have hl2 := h1.1
        exact ⟨vs[k], by rw [h1.cellAt k (by omega), List.getElem?_eq_getElem (by omega)]⟩
      obtain ⟨v, hv⟩ := hgc
      have hf : w2.frozen? ⟨w.heap.size, k, none⟩ = false := by
        obtain ⟨vs, h1, _⟩ := hC.out.kept hb2
        exact h1.frozenAt k
      have HB2 := Lib.hid ((hB.out.trans (hb2.mono hB.out.size)).setCell (p := ⟨w.heap.size, k, none⟩) (Nat.le_refl _) u)
      have hgl2 : w.heap.size < w2.heap.size := Nat.lt_of_lt_of_le hgl hb2.size
      obtain ⟨au, cu, rfl, _⟩ := own_rats ho
      clear hb2 ho hgl hrl
      go_wp2_with fail
      go_roundw
      case rel => exact ⟨k + 1, by omega, by go_num, by simp; omega, HC2, HB2⟩
      case measure => simp [intOf]; omega
    · have he : k = L.length := by omega
      have Hc : Hid (OwnRMat w.heap.size wr.heap.size wr (.slice (some ⟨w.heap.size, 0, none⟩) L.length L.length) L) := by
        obtain ⟨vs, h1, h2⟩ := hC.out
        rw [he] at h2
        exact ⟨_, _, vs, rfl, hgl, h1, h2⟩
      clear he
      go_wp2_with fail
      go_ret
      exact ⟨_, rfl, Hc.out, hB.out⟩
end Go.Proofs.Ytkindblhafejfaa
