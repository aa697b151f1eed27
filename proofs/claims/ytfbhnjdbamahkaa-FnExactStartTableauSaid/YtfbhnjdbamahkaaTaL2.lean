/- Rows that lie apart, marked and found as marked: laws.eqRatSS, markRatSS, heldRatSS. -/
import Derived.Test.YtfbhnjdbamahkaaGrI
import Derived.Test.YtfbhnjdbamahkaaTaL1
namespace Go.Proofs.Ytfbhnjdbamahkaa
open Go.RowKit
open Ve (R)
/-! ### Slices of rows -/
theorem RowAt.ty {lo hi : Nat} {w : World} {u : Value} {xs : List R} (h : RowAt lo hi w u xs) {b : Nat} (hb : Blk u xs.length b) : TyAt w b 34 := by
  obtain ⟨a, c, rfl, h2⟩ := h
  exact owns_ty (h2 hb.1).1 hb.2
theorem RowAtI.ty {lo hi : Nat} {w : World} {u : Value} {xs : List Int} (h : RowAtI lo hi w u xs) {b : Nat} (hb : Blk u xs.length b) : TyAt w b 3 := by
  obtain ⟨a, c, rfl, h2⟩ := h
  exact owns_ty (h2 hb.1).1 hb.2
/-- Blocks of all other types are as they were. -/
def KeptBut (T : TypeId) (w w' : World) : Prop := ∀ b T', TyAt w b T' → T' ≠ T → w'.heap[b]? = w.heap[b]?
theorem KeptBut.refl (T : TypeId) (w : World) : KeptBut T w w := fun _ _ _ _ => rfl
theorem KeptBut.trans {T : TypeId} {a b c : World} (h : KeptBut T a b) (k : KeptBut T b c) : KeptBut T a c := fun i T' h1 h2 => (k i T' (h1.same (h i T' h1 h2)) h2).trans (h i T' h1 h2)
theorem KeptBut.of_grown {T : TypeId} {w w' : World} {row : Option Nat} (h : w.grownBy w' row) (hr : ∀ g, row = some g → TyAt w g T) : KeptBut T w w' := fun b T' h1 h2 => by
  obtain ⟨cs, e⟩ := h1
  exact h.block b (lt_of_at e) fun e2 => (TyAt.ne (hr b e2.symm) ⟨cs, e⟩ (fun e3 => h2 e3.symm)) rfl
/-- Where the outer slice has its row j. -/
def OutAt (lo hi : Nat) (w : World) (a : Option Addr) (j : Nat) (u : Value) : Prop := ∃ g o : Nat, a = some ⟨g, o, none⟩ ∧ lo ≤ g ∧ g < hi ∧ w.cell? ⟨g, o + j, none⟩ = some u ∧ TyAt w g 35
/-- The parts that no marking changes: the rows' values us, all blocks apart. -/
structure Shape (lo hi : Nat) (w : World) (a : Option Addr) (us : Nat → Value) (L : List (List R)) : Prop where
  out : ∀ j, j < L.length → OutAt lo hi w a j (us j)
  apart : ∀ i j, i < j → j < L.length → ∀ b, Blk (us i) (rr L i).length b → ¬ Blk (us j) (rr L j).length b
def ResM (lo hi : Nat) (w : World) (v : Value) (L : List (List R)) : Prop :=
  ∃ (a : Option Addr) (cap : Nat) (us : Nat → Value), v = .slice a L.length cap ∧ hi ≤ w.heap.size ∧ Shape lo hi w a us L ∧ ∀ j, j < L.length → RowAt lo hi w (us j) (rr L j)
theorem ResM.size {lo hi : Nat} {w : World} {v : Value} {L : List (List R)} (h : ResM lo hi w v L) : hi ≤ w.heap.size := by
  obtain ⟨_, _, _, _, hh, _⟩ := h
  exact hh
theorem ResM.reads {lo hi : Nat} {w : World} {v : Value} {L : List (List R)} (h : ResM lo hi w v L) : ∃ (a : Option Addr) (cap : Nat), v = .slice a L.length cap ∧ RMatIn hi w a L := by
  obtain ⟨a, cap, us, rfl, _, h1, h2⟩ := h
  refine ⟨a, cap, rfl, fun j hj => ?_⟩
  obtain ⟨g, o, rfl, _, h3, h4, _⟩ := h1.out j hj
  obtain ⟨a', c', e, h5⟩ := (h2 j hj).reads
  exact ⟨g, o, a', c', rfl, h3, by rw [h4, e], h5⟩
theorem Shape.below {lo hi : Nat} {w w' : World} {a : Option Addr} {us : Nat → Value} {L : List (List R)} (h : Shape lo hi w a us L) (hh : hi ≤ w.heap.size) (hb : Below w.heap.size w w') : Shape lo hi w' a us L :=
  ⟨fun j hj => by
    obtain ⟨g, o, e, h1, h2, h3, h4⟩ := h.out j hj
    exact ⟨g, o, e, h1, h2, by rw [hb.cell (p := ⟨g, o + j, none⟩) (show g < w.heap.size by omega)]; exact h3, h4.same (hb.block g (by omega))⟩, h.apart⟩
theorem ResM.below {lo hi : Nat} {w w' : World} {v : Value} {L : List (List R)} (h : ResM lo hi w v L) (hb : Below w.heap.size w w') : ResM lo hi w' v L := by
  obtain ⟨a, cap, us, rfl, hh, h1, h2⟩ := h
  exact ⟨a, cap, us, rfl, Nat.le_trans hh hb.size, h1.below hh hb, fun j hj => (h2 j hj).below hb⟩
theorem ResM.turned {lo hi l2 h2 : Nat} {w w' : World} {v : Value} {L : List (List R)} (h : ResM lo hi w v L) (ht : Turned l2 h2 w w') (ha : hi ≤ l2 ∨ h2 ≤ lo) : ResM lo hi w' v L := by
  obtain ⟨a, cap, us, rfl, hh, k1, k2⟩ := h
  refine ⟨a, cap, us, rfl, Nat.le_trans hh ht.size, ⟨fun j hj => ?_, k1.apart⟩, fun j hj => (k2 j hj).same fun b hb => ?_⟩
  · obtain ⟨g, o, e, h3, h4, h5, h6⟩ := k1.out j hj
    exact ⟨g, o, e, h3, h4, by rw [World.cell?_of_block (w := w) (a := ⟨g, o + j, none⟩) (ht.block g (by omega) (by omega))]; exact h5, h6.same (ht.block g (by omega) (by omega))⟩
  · have := (k2 j hj).blk hb
    exact ht.block b this.2.2 (by omega)
/-- .. in a world in which neither its outer block nor a row's has turned. -/
theorem ResM.kept {lo hi : Nat} {T : TypeId} {w w' : World} {v : Value} {L : List (List R)} (h : ResM lo hi w v L) (hs : w.heap.size ≤ w'.heap.size) (hk : KeptBut T w w') (h1 : 34 ≠ T) (h2 : 35 ≠ T) : ResM lo hi w' v L := by
  obtain ⟨a, cap, us, rfl, hh, k1, k2⟩ := h
  refine ⟨a, cap, us, rfl, Nat.le_trans hh hs, ⟨fun j hj => ?_, k1.apart⟩, fun j hj => (k2 j hj).same fun b hb => ?_⟩
  · obtain ⟨g, o, e, h3, h4, h5, h6⟩ := k1.out j hj
    have h7 := hk g _ h6 h2
    exact ⟨g, o, e, h3, h4, by rw [World.cell?_of_block (w := w) (a := ⟨g, o + j, none⟩) h7]; exact h5, h6.same h7⟩
  · exact hk b _ ((k2 j hj).ty hb) h1
theorem RowAtI.kept {lo hi : Nat} {T : TypeId} {w w' : World} {u : Value} {xs : List Int} (h : RowAtI lo hi w u xs) (hk : KeptBut T w w') (h1 : 3 ≠ T) : RowAtI lo hi w' u xs := h.same fun b hb => hk b _ (h.ty hb) h1
theorem ResM.wider {lo hi lo' hi' : Nat} {w : World} {v : Value} {L : List (List R)} (h : ResM lo hi w v L) (h1 : lo' ≤ lo) (h2 : hi ≤ hi') (h3 : hi' ≤ w.heap.size) : ResM lo' hi' w v L := by
  obtain ⟨a, cap, us, rfl, hh, k1, k2⟩ := h
  refine ⟨a, cap, us, rfl, h3, ⟨fun j hj => ?_, k1.apart⟩, fun j hj => (k2 j hj).wider h1 h2⟩
  obtain ⟨g, o, e, q1, q2, q3, q4⟩ := k1.out j hj
  exact ⟨g, o, e, by omega, by omega, q3, q4⟩
/-- A matrix that was copied is one. -/
theorem OwnRMat.res {lo hi : Nat} {w : World} {v : Value} {L : List (List R)} (h : OwnRMat lo hi w v L) (hh : hi ≤ w.heap.size) : ResM lo hi w v L := by
  obtain ⟨g, n, vs, rfl, hgh, h1, h2, h3⟩ := h
  have hg := World.ownsRow.lt h1 g rfl
  have hl : vs.length = L.length := by have := h1.1; omega
  have hv : ∀ j, j < L.length → vs[j]? = some (vs.getD j (.bool false)) := fun j hj => by
    rw [List.getD_eq_getElem?_getD, List.getElem?_eq_getElem (by omega)]; rfl
  refine ⟨_, n, fun j => vs.getD j (.bool false), rfl, hh, ⟨fun j hj => ⟨g, 0, rfl, hg.1, hgh, ?_, owns_ty h1 rfl⟩, fun i j hij hj b hb hb2 => ?_⟩, fun j hj => ?_⟩
  · rw [Nat.zero_add, World.ownsRow.cellAt h1 j (by omega)]
    exact hv j hj
  · exact h3 i j _ _ b hij hj (hv i (by omega)) (hv j hj) hb.2 hb2.2
  · obtain ⟨v, e, ho, hlt⟩ := h2 j hj
    rw [hv j hj] at e
    obtain rfl := Option.some.inj e
    exact RowAt.of_own (ho.raise (by omega)) hlt
/-- Marks of rows. -/
def marksM : Nat → List (List R) → List (List R)
  | _, [] => []
  | k, r :: L => marksR k r.length :: marksM (k + 2 * r.length) L
theorem marksM_len : ∀ (k : Nat) (L : List (List R)), (marksM k L).length = L.length
  | _, [] => rfl
  | k, r :: L => by simp [marksM, marksM_len]
theorem marksM_at : ∀ (k : Nat) (L : List (List R)) (j : Nat), j < L.length → rr (marksM k L) j = marksR (k + 2 * cellsM (L.take j)) (rr L j).length
  | k, [], j, h => by simp at h
  | k, r :: L, 0, _ => by simp [marksM, rr, cellsM]
  | k, r :: L, j + 1, h => by
    have := marksM_at (k + 2 * r.length) L j (by simpa using h)
    have e1 : rr (marksM k (r :: L)) (j + 1) = rr (marksM (k + 2 * r.length) L) j := by simp [marksM, rr]
    have e2 : rr (r :: L) (j + 1) = rr L j := by simp [rr]
    rw [e1, e2, this]
    simp only [List.take_succ_cons, cellsM]
    congr 1; omega
set_option maxRecDepth 100000 in
set_option maxHeartbeats 1000000 in
theorem laws_eqRatSS (B : Nat) (a1 a2 : Option Addr) (c1 c2 : Nat) (L : List (List R)) (hn : L.length ≤ 1048576) (hr : ∀ k, k < L.length → (rr L k).length ≤ 2097152) (w : World) (hBw : B ≤ w.heap.size) (h1 : RMatIn B w a1 L) (h2 : RMatIn B w a2 L) :
    Calls Try.prog 98 #[.slice a1 L.length c1, .slice a2 L.length c2] w fun e w' => e = .returned (.bool true) ∧ Below w.heap.size w w' := by
  have H1 := Lib.hid (h1.mono hBw)
  have H2 := Lib.hid (h2.mono hBw)
  have HR := Lib.hid hr
  clear h1 h2 hr
  go_enter Try.func98, Try.ntmps98
  go_wp2_with fail
  go_loopw [5] (fun i wr => ∃ k : Nat, k ≤ L.length ∧ i = .int .i64 k ∧ Hid (Below w.heap.size w wr)) (fun i _ => L.length - (intOf i).toNat)
  case atStart => exact ⟨0, Nat.zero_le _, rfl, Below.refl _ _⟩
  case round =>
    obtain ⟨k, hk, rfl, hB⟩ := hrel
    by_cases hlt : k < L.length
    · obtain ⟨b1, o1, a1', c1', rfl, l1, p1, n1⟩ := (H1.out.below hB.out) k hlt
      obtain ⟨b2, o2, a2', c2', rfl, l2, p2, n2⟩ := (H2.out.below hB.out) k hlt
      have hsz := hB.out.size
      have HN : Hid (RatsIn w.heap.size wr a1' (rr L k) ∧ RatsIn w.heap.size wr a2' (rr L k) ∧ wr.cell? ⟨b1, o1 + k, none⟩ = some (.slice a1' (rr L k).length c1') ∧ wr.cell? ⟨b2, o2 + k, none⟩ = some (.slice a2' (rr L k).length c2') ∧ (rr L k).length ≤ 2097152 ∧ w.heap.size ≤ wr.heap.size) := ⟨n1, n2, p1, p2, HR.out k hlt, hsz⟩
      have hin := Since.refl wr
      clear n1 n2
      generalize rr L k = x at *
      go_wp2_with fail
      go_region_held3 (fun w' => w'.cell? ⟨b1, o1 + k, none⟩ = some (.slice a1' x.length c1') ∧ w'.cell? ⟨b2, o2 + k, none⟩ = some (.slice a2' x.length c2') ∧ Since wr w') (first | exact ⟨(Since.cell (B := wr) (p := ⟨b1, o1 + k, none⟩) (by first | assumption | exact Since.drew (by assumption)) (by have := HN.out.2.2.2.2.2; simp only; omega) HN.out.2.2.1), (Since.cell (B := wr) (p := ⟨b2, o2 + k, none⟩) (by first | assumption | exact Since.drew (by assumption)) (by have := HN.out.2.2.2.2.2; simp only; omega) HN.out.2.2.2.1), (by first | assumption | exact Since.drew (by assumption))⟩)
        (first | (go_at_call 39; refine (calls_since (laws_eqRatS w.heap.size a1' a2' c1' c2' x HN.out.2.2.2.2.1 _ (Nat.le_trans HN.out.2.2.2.2.2 (Since.low (B := wr) (by first | assumption | exact Since.drew (by assumption))).size) (HN.out.1.below ((Since.low (B := wr) (by first | assumption | exact Since.drew (by assumption))).mono HN.out.2.2.2.2.2)) (HN.out.2.1.below ((Since.low (B := wr) (by first | assumption | exact Since.drew (by assumption))).mono HN.out.2.2.2.2.2))) (B := wr) (by first | assumption | exact Since.drew (by assumption))).mono ?_; rintro e w' ⟨⟨rfl, _⟩, hin2⟩))
      have Hb2 := Lib.hid (hB.out.trans ((Since.low (B := wr) (wx := w') (by assumption)).mono hsz))
      clear hin hin2 HN
      go_wp2_with fail
      go_roundw
      case rel => exact ⟨k + 1, by omega, by go_num, Hb2⟩
      case measure => simp [intOf]; omega
    · go_wp2_with fail
      go_ret
      exact ⟨rfl, hB.out⟩
set_option maxRecDepth 100000 in
set_option maxHeartbeats 1000000 in
theorem laws_markRatSS (lo hi : Nat) (v : Value) (kk : Int) (k0 : Nat) (hkk : kk = k0) (L : List (List R)) (hn : L.length ≤ 1048576) (hs : k0 + 2 * cellsM L ≤ 4194304) (w : World) (h1 : ResM lo hi w v L) :
    Calls Try.prog 99 #[v, .int .i64 kk] w fun e w' => e = .returned (.int .i64 (kk + 2 * (cellsM L : Int))) ∧ Turned lo hi w w' ∧ KeptBut 34 w w' ∧ ResM lo hi w' v (marksM k0 L) := by
  subst hkk
  obtain ⟨a, cap, us, rfl, hh, hO, hA⟩ := h1
  have HO := Lib.hid hO
  have HA := Lib.hid hA
  clear hO hA
  go_enter Try.func99, Try.ntmps99
  go_wp2_with fail
  go_loopw [1, 5] (fun q i wr => ∃ (k : Nat) (kk : Int), k ≤ L.length ∧ 0 ≤ kk ∧ kk ≤ 4194304 ∧ q = .int .i64 kk ∧ i = .int .i64 k ∧ Hid (kk = ((k0 + 2 * cellsM (L.take k) : Nat) : Int)) ∧ Hid (Shape lo hi wr a us L) ∧
    Hid (∀ j, j < L.length → RowAt lo hi wr (us j) (if j < k then rr (marksM k0 L) j else rr L j)) ∧ Hid (Turned lo hi w wr) ∧ Hid (KeptBut 34 w wr)) (fun _ i _ => L.length - (intOf i).toNat)
  case atStart => exact ⟨0, k0, Nat.zero_le _, by omega, by omega, rfl, rfl, (by show (k0 : Int) = _; simp [cellsM]), HO, (fun j hj => by rw [if_neg (by omega)]; exact HA.out j hj), Turned.refl _ _ _, KeptBut.refl _ _⟩
  case round =>
    obtain ⟨k, kk, hk, hq0, hq1, rfl, rfl, hkk, hS, hV, hT, hKB⟩ := hrel
    by_cases hlt : k < L.length
    · obtain ⟨g, o, rfl, hg0, hg1, hc, hty⟩ := hS.out.out k hlt
      have HTy := Lib.hid hty
      have ht := cellsM_take L k hlt
      have hle : cellsM (L.take (k + 1)) ≤ cellsM L := cellsM_le L (k + 1)
      have ho : RowAt lo hi wr (us k) (rr L k) := by have := hV.out k hlt; rwa [if_neg (by omega)] at this
      have HO2 := Lib.hid ho
      have hbd : k0 + 2 * cellsM (L.take k) ≤ 8388608 ∧ (rr L k).length ≤ 2097152 ∧ kk + 2 * ((rr L k).length : Int) ≤ 4194304 := by have := hkk.out; omega
      obtain ⟨hb1, hb2, hb3⟩ := hbd
      have Hk2 : Hid (kk + 2 * ((rr L k).length : Int) = ((k0 + 2 * cellsM (L.take (k + 1)) : Nat) : Int)) := by
        have := hkk.out
        show _ = _
        omega
      clear ht hle ho hty
      obtain ⟨u, hu⟩ : ∃ u, us k = u := ⟨_, rfl⟩
      have Hu := Lib.hid hu
      rw [hu] at hc HO2
      clear hu
      go_wp2_with fail
      refine (mark_row lo hi u kk (k0 + 2 * cellsM (L.take k)) hkk.out (rr L k) hb2 hb1 wr HO2.out).mono ?_
      rintro e w2 ⟨rfl, ho2, row, hg2, hrow⟩
      have HB2 : ∀ b, row = some b → lo ≤ b ∧ b < hi := fun b hb => by have := HO2.out.blk (hrow b hb); omega
      have HS2 : Hid (Shape lo hi w2 (some ⟨g, o, none⟩) us L) := ⟨fun j hj => by
        obtain ⟨g', o', e, h3, h4, h5, h6⟩ := hS.out.out j hj
        have h7 : w2.heap[g']? = wr.heap[g']? := hg2.block g' (by have := hT.out.size; omega) (fun e2 => (TyAt.ne h6 (HO2.out.ty (hrow g' e2.symm)) (fun e => rat_ne_row e.symm)) rfl)
        exact ⟨g', o', e, h3, h4, by rw [World.cell?_of_block (w := wr) (a := ⟨g', o' + j, none⟩) h7]; exact h5, h6.same h7⟩, hS.out.apart⟩
      have HK2 : Hid (KeptBut 34 w w2) := hKB.out.trans (KeptBut.of_grown hg2 fun b hb => HO2.out.ty (hrow b hb))
      have HV2 : Hid (∀ j, j < L.length → RowAt lo hi w2 (us j) (if j < k + 1 then rr (marksM k0 L) j else rr L j)) := fun j hj => by
        by_cases e : j = k
        · subst e
          rw [if_pos (by omega), marksM_at k0 L j hj, Hu.out]
          exact ho2
        · have h7 := hV.out j hj
          have h8 : (if j < k + 1 then rr (marksM k0 L) j else rr L j) = (if j < k then rr (marksM k0 L) j else rr L j) := by
            by_cases hjk : j < k
            · rw [if_pos (by omega), if_pos hjk]
            · rw [if_neg (by omega), if_neg hjk]
          rw [h8]
          have hlen : (if j < k then rr (marksM k0 L) j else rr L j).length = (rr L j).length := by
            by_cases hjk : j < k
            · rw [if_pos hjk, marksM_at k0 L j hj, marksR_len]
            · rw [if_neg hjk]
          refine h7.same fun b hb => hg2.block b (h7.blk hb).2.2 fun e2 => ?_
          rw [hlen] at hb
          have h9 := hrow b e2.symm
          rw [← Hu.out] at h9
          rcases Nat.lt_or_ge j k with h10 | h10
          · exact hS.out.apart j k h10 hlt b hb h9
          · exact hS.out.apart k j (by omega) hj b h9 hb
      have HT2 : Hid (Turned lo hi w w2) := hT.out.trans (Turned.of_grown hg2 HB2)
      clear hg2 ho2 hrow HB2
      go_wp2_with fail
      go_roundw
      case rel => exact ⟨k + 1, kk + 2 * (rr L k).length, by omega, by omega, hb3, rfl, by go_num, Hk2, HS2, HV2, HT2, HK2⟩
      case measure => simp [intOf]; omega
    · have he : Hid (kk = (k0 : Int) + 2 * (cellsM L : Int)) := by
        have := hkk.out
        have e : L.take k = L := List.take_of_length_le (by omega)
        rw [e] at this
        show _ = _
        omega
      have HF : Hid (ResM lo hi wr (.slice a L.length cap) (marksM k0 L)) := by
        refine ⟨a, cap, us, by rw [marksM_len], Nat.le_trans hh hT.out.size, ⟨fun j hj => hS.out.out j (by rwa [marksM_len] at hj), fun i j hij hj b hb hb2 => ?_⟩, fun j hj => ?_⟩
        · rw [marksM_len] at hj
          rw [marksM_at k0 L j hj, marksR_len] at hb2
          rw [marksM_at k0 L i (by omega), marksR_len] at hb
          exact hS.out.apart i j hij hj b hb hb2
        · rw [marksM_len] at hj
          have := hV.out j hj
          rwa [if_pos (by omega)] at this
      go_wp2_with fail
      go_ret
      exact ⟨ret_int he.out, hT.out, hKB.out, HF.out⟩
set_option maxRecDepth 100000 in
set_option maxHeartbeats 1000000 in
theorem laws_heldRatSS (B : Nat) (a : Option Addr) (cap : Nat) (kk : Int) (k0 : Nat) (hkk : kk = k0) (L : List (List R)) (hn : L.length ≤ 1048576) (hs : k0 + 2 * cellsM L ≤ 4194304) (w : World) (h1 : RMatIn B w a (marksM k0 L)) :
    Calls Try.prog 100 #[.slice a L.length cap, .int .i64 kk] w fun e w' => e = .returned (.int .i64 (kk + 2 * (cellsM L : Int))) ∧ w = w' := by
  subst hkk
  have H1 := Lib.hid h1
  clear h1
  go_enter Try.func100, Try.ntmps100
  go_wp2_with fail
  go_loop [1, 5] (fun q i => ∃ (k : Nat) (kk : Int), k ≤ L.length ∧ 0 ≤ kk ∧ kk ≤ 4194304 ∧ q = .int .i64 kk ∧ i = .int .i64 k ∧ Hid (kk = ((k0 + 2 * cellsM (L.take k) : Nat) : Int))) (fun _ i => L.length - (intOf i).toNat)
  case atStart => exact ⟨0, k0, Nat.zero_le _, by omega, by omega, rfl, rfl, (by show (k0 : Int) = _; simp [cellsM])⟩
  case round =>
    obtain ⟨k, kk, hk, hq0, hq1, rfl, rfl, hkk⟩ := hrel
    by_cases hlt : k < L.length
    · obtain ⟨b, o, a', c', rfl, _, hcell, hrow⟩ := H1.out k (by rw [marksM_len]; exact hlt)
      rw [marksM_at k0 L k hlt] at hcell hrow
      rw [marksR_len] at hcell
      have HR := Lib.hid hrow
      have ht := cellsM_take L k hlt
      have hle : cellsM (L.take (k + 1)) ≤ cellsM L := cellsM_le L (k + 1)
      have hbd : k0 + 2 * cellsM (L.take k) ≤ 8388608 ∧ (rr L k).length ≤ 2097152 ∧ kk + 2 * ((rr L k).length : Int) ≤ 4194304 := by have := hkk.out; omega
      obtain ⟨hb1, hb2, hb3⟩ := hbd
      have Hk2 : Hid (kk + 2 * ((rr L k).length : Int) = ((k0 + 2 * cellsM (L.take (k + 1)) : Nat) : Int)) := by
        have := hkk.out
        show _ = _
        omega
      have hnn : decide (kk + 2 * ((rr L k).length : Int) < 0) = false := by rw [decide_eq_false_iff_not]; omega
      clear ht hle hrow
      go_wp2_with fail
      refine (laws_heldFrom B a' c' kk (k0 + 2 * cellsM (L.take k)) (rr L k).length hkk.out hb2 hb1 _ HR.out).mono ?_
      rintro e w2 ⟨rfl, rfl⟩
      go_wp2_with fail
      go_round
      case rel => exact ⟨k + 1, kk + 2 * (rr L k).length, by omega, by omega, hb3, rfl, by go_num, Hk2⟩
      case measure => simp [intOf]; omega
    · have he : Hid (kk = (k0 : Int) + 2 * (cellsM L : Int)) := by
        have := hkk.out
        have e : L.take k = L := List.take_of_length_le (by omega)
        rw [e] at this
        show _ = _
        omega
      go_wp2_with fail
      go_ret
      exact ⟨ret_int he.out, rfl⟩
end Go.Proofs.Ytfbhnjdbamahkaa
