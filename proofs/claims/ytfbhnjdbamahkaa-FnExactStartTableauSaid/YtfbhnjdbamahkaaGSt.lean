/- The parts StM, StJ, StA, StB, StC, StL1, StL2. -/
import Derived.Test.YtfbhnjdbamahkaaTaM
import Derived.Test.YtfbhnjdbamahkaaGTd
import Derived.Test.YtfbhnjdbamahkaaGLa
import Derived.Lib.AppendZeros
import Derived.Test.YtfbhnjdbamahkaaGrI
import Derived.Test.YtfbhnjdbamahkaaTaO
import Derived.Test.YtfbhnjdbamahkaaLpB2
import Derived.Test.YtfbhnjdbamahkaaTaP0
import Derived.Test.YtfbhnjdbamahkaaGLp
import Derived.Test.YtfbhnjdbamahkaaGVc
import Derived.Test.YtfbhnjdbamahkaaLkBase
import Derived.Test.YtfbhnjdbamahkaaGTi
import Derived.Test.YtfbhnjdbamahkaaLpI1
import Derived.Test.YtfbhnjdbamahkaaLkLp
/- The tableau to start from, in plain terms; nothing of the program. -/
namespace Go.Proofs.Ytfbhnjdbamahkaa.Ta
open Ve (R at_)
def sg (p : Lp.P) (k : Nat) : Int := if p.B.getD k 0 < 0 then -1 else 1
def unitI (n k : Nat) : List Int := (List.range n).map fun i => if i = k then 1 else 0
def nums (p : Lp.P) (k : Nat) : List Int := (Lp.row p k).map (fun a => sg p k * a) ++ (unitI p.A.length k ++ [sg p k * p.B.getD k 0])
def asR (l : List Int) : List R := l.map fun z => (z, 1)
def startRow (p : Lp.P) (k : Nat) : List R := asR (nums p k)
def startAt (p : Lp.P) (k : Nat) : T := ⟨(List.range k).map (startRow p), (List.range k).map (fun i : Nat => (p.C.length : Int) + (i : Int)), p.C.length⟩
def start (p : Lp.P) : T := if Lp.vldP p then startAt p p.A.length else ⟨[], [], 0⟩
theorem start_yes {p : Lp.P} (h : Lp.vldP p = true) : start p = startAt p p.A.length := by unfold start; rw [if_pos h]
theorem start_no {p : Lp.P} (h : Lp.vldP p = false) : start p = ⟨[], [], 0⟩ := by unfold start; rw [h]; rfl
theorem rows_succ (p : Lp.P) (k : Nat) : (startAt p (k + 1)).rows = (startAt p k).rows ++ [startRow p k] := by simp [startAt, List.range_succ]
theorem basis_succ (p : Lp.P) (k : Nat) : (startAt p (k + 1)).basis = (startAt p k).basis ++ [(p.C.length : Int) + (k : Int)] := by simp [startAt, List.range_succ]
theorem small_get {l : List Int} (h : Lp.small l = true) (k : Nat) : -5000 ≤ l.getD k 0 ∧ l.getD k 0 ≤ 5000 := by
  rcases Nat.lt_or_ge k l.length with hk | hk
  · unfold Lp.small at h
    rw [List.all_eq_true] at h
    have := h l[k] (List.getElem_mem hk)
    rw [List.getD_eq_getElem?_getD, List.getElem?_eq_getElem hk]
    simpa using this
  · rw [List.getD_eq_getElem?_getD, List.getElem?_eq_none hk]
    simp
theorem small_mem {l : List Int} (h : Lp.small l = true) {z : Int} (hz : z ∈ l) : -5000 ≤ z ∧ z ≤ 5000 := by
  unfold Lp.small at h
  rw [List.all_eq_true] at h
  simpa using h z hz
theorem sg_or (p : Lp.P) (k : Nat) : sg p k = 1 ∨ sg p k = -1 := by
  unfold sg
  split
  · exact .inr rfl
  · exact .inl rfl
/-- All the numbers of a row are small. -/
theorem nums_small {p : Lp.P} (h : Lp.vldP p = true) {k : Nat} (hk : k < p.A.length) : ∀ z ∈ nums p k, -5000 ≤ z ∧ z ≤ 5000 := by
  obtain ⟨h1, _, _, _, h5, _⟩ := Lp.vld_parts h
  have h2 := (Lp.rows_at h1 hk).2
  intro z hz
  unfold nums at hz
  rw [List.mem_append, List.mem_append] at hz
  rcases hz with hz | hz | hz
  · obtain ⟨a, ha, rfl⟩ := List.mem_map.1 hz
    have := small_mem h2 ha
    rcases sg_or p k with e | e <;> rw [e] <;> omega
  · unfold unitI at hz
    obtain ⟨i, _, rfl⟩ := List.mem_map.1 hz
    split <;> omega
  · have : z = sg p k * p.B.getD k 0 := by simpa using hz
    subst this
    have := small_get h5 k
    rcases sg_or p k with e | e <;> rw [e] <;> omega
theorem nums_len {p : Lp.P} (h : Lp.vldP p = true) {k : Nat} (hk : k < p.A.length) : (nums p k).length = p.C.length + p.A.length + 1 := by
  obtain ⟨h1, _⟩ := Lp.vld_parts h
  have h2 := (Lp.rows_at h1 hk).1
  simp [nums, unitI, h2]; omega
/-- Small integers as fractions. -/
theorem ir_small {l : List Int} (h : ∀ z ∈ l, -5000 ≤ z ∧ z ≤ 5000) : Lp.irK l = true ∧ Lp.ir l = asR l := by
  have hf : ∀ j, j < l.length → (Ve.ofI l j) = ((l.getD j 0, 1), true) := fun j hj => by
    have hz := h l[j] (List.getElem_mem hj)
    have e : l.getD j 0 = l[j] := by rw [List.getD_eq_getElem?_getD, List.getElem?_eq_getElem hj]; rfl
    have h2 : Ve.inr (l.getD j 0) = true := by rw [e]; unfold Ve.inr; rw [decide_eq_true_iff]; omega
    obtain ⟨e1, e2⟩ := Ve.inr_rn h2
    unfold Ve.ofI
    rw [e1, e2, Ve.inr_fits, h2]
  have hK : Lp.irK l = true := by
    unfold Lp.irK Ve.allK
    rw [List.all_eq_true]
    intro j hj
    rw [hf j (by simpa using hj)]
  refine ⟨hK, ?_⟩
  unfold Lp.ir
  rw [Ve.out_yes hK]
  refine List.ext_getElem? fun j => ?_
  by_cases hj : j < l.length
  · simp only [Ve.upto, asR, List.getElem?_map, List.getElem?_range hj, List.getElem?_eq_getElem hj, Option.map_some, hf j hj, List.getD_eq_getElem?_getD, Option.getD_some]
  · rw [List.getElem?_eq_none (by rw [Ve.upto_len]; omega), List.getElem?_eq_none (by simp [asR]; omega)]
theorem startRow_ir {p : Lp.P} (h : Lp.vldP p = true) {k : Nat} (hk : k < p.A.length) : Lp.irK (nums p k) = true ∧ Lp.ir (nums p k) = startRow p k := ir_small (nums_small h hk)
theorem startRow_len {p : Lp.P} (h : Lp.vldP p = true) {k : Nat} (hk : k < p.A.length) : (startRow p k).length = p.C.length + p.A.length + 1 := by
  unfold startRow asR
  rw [List.length_map, nums_len h hk]
/-- It has the form. -/
theorem start_good {p : Lp.P} (h : Lp.vldP p = true) : good (start p) = true := by
  rw [start_yes h]
  have hv := Lp.vld_parts h
  refine good_mk (by show (0 : Int) ≤ (p.C.length : Int); omega) (by show (p.C.length : Int) ≤ 1000; omega) (by simp [startAt]) fun k hk => ?_
  have hk' : k < p.A.length := by simpa [startAt] using hk
  have e1 : row (startAt p p.A.length) k = startRow p k := by unfold row startAt; simp [List.getD_eq_getElem?_getD, hk']
  have e2 : bas (startAt p p.A.length) k = (p.C.length : Int) + (k : Int) := by unfold bas startAt; simp [List.getD_eq_getElem?_getD, hk']
  unfold rowOk
  rw [e1, e2, startRow_len h hk']
  simp only [startAt, List.length_map, List.length_range, Bool.and_eq_true, decide_eq_true_eq]
  omega
end Go.Proofs.Ytfbhnjdbamahkaa.Ta

/- slices.Grow of nil, slices.Concat at ints. -/
namespace Go.Proofs.Ytfbhnjdbamahkaa
open Go.RowKit
open Ve (R)
set_option maxRecDepth 100000 in
set_option maxHeartbeats 2000000 in
theorem grow_ints (n : Nat) (hn : n ≤ 4000000) (w : World) : Calls Try.prog 139 #[.slice none 0 0, .int .i64 n] w fun e w' => ∃ v, e = .returned v ∧ OwnInts w.heap.size w' v [] ∧ Below w.heap.size w w' := by
  obtain ⟨i0, hi, hz0, hz1, hz2⟩ := info_parts info_int
  have hneg : decide ((n : Int) < 0) = false := by rw [decide_eq_false_iff_not]; omega
  by_cases h0 : n = 0
  · subst h0
    go_enter Try.func139, Try.ntmps139
    go_wp2_with fail
    go_ret
    exact ⟨_, rfl, World.ownsRow_nil _ _ _ _, Below.refl _ _⟩
  · have hpos : decide ((n : Int) > 0) = true := by rw [decide_eq_true_iff]; omega
    have hrun := fun ty => Lib.run_append_nil_zeros (P := Try.prog) w 25 3 ty 3 i0 (.int .i64 0) .i64 .i64 Try.underlying25 Try.underlying3 hi hz0 n (by omega) (by rw [hz1]; decide) (by omega) (by rw [hz2]; omega)
    have hcap := grownCap_ge w n 0 3
    have hmax := grownCap_le_maxLen w n 0 3 (by unfold maxLen; omega)
    have Hown : Hid (OwnInts w.heap.size (w.drew.alloc (.cells (Builtin.zeroCells (Value.int .i64 0).cells n ++ Builtin.zeroCells (Value.int .i64 0).cells (grownCap w n 0 3 - n)) 3)) (.slice (some ⟨w.heap.size, 0, none⟩) 0 (grownCap w n 0 3)) []) := by
      refine World.ownsRow_made w.drew _ _ (Nat.le_refl _) hmax ?_
      rw [Array.size_append, size_zeroCells, size_zeroCells, ← Nat.add_mul, Nat.add_sub_cancel' hcap]
      rfl
    have Hb := Lib.hid ((Below.refl w.heap.size w).drew.alloc (Nat.le_refl _) (.cells (Builtin.zeroCells (Value.int .i64 0).cells n ++ Builtin.zeroCells (Value.int .i64 0).cells (grownCap w n 0 3 - n)) 3))
    have hRun := Lib.hid hrun
    have hcap0 : (0 : Int) ≤ (grownCap w n 0 3 : Int) := by omega
    generalize grownCap w n 0 3 = cap at *
    clear hrun hi hz0 hz1 hz2
    go_enter Try.func139, Try.ntmps139
    go_wp2_with (at_builtin; refine Lib.wpList_append_run _ rfl (.tmp 20) (.tmp 21) 25 3 rfl _ _ rfl rfl _ _ (hRun.out _) ?_)
    go_ret
    exact ⟨_, rfl, Hown.out, Hb.out⟩
theorem flatI_len : ∀ L : List (List Int), L.flatten.length = cellsOf L
  | [] => rfl
  | r :: L => by simp [cellsOf, flatI_len L]
theorem flatI_take (L : List (List Int)) (k : Nat) (h : k < L.length) : (L.take (k + 1)).flatten = (L.take k).flatten ++ rw_ L k := by
  rw [List.take_add_one, rw_get h]
  simp
set_option maxRecDepth 100000 in
set_option maxHeartbeats 2000000 in
theorem concat_ints (B : Nat) (a : Option Addr) (c : Nat) (L : List (List Int)) (hl : L.length ≤ 1048576) (hn : cellsOf L ≤ 2000000) (w : World) (hBw : B ≤ w.heap.size) (h : MatIn B w a L) :
    Calls Try.prog 119 #[.slice a L.length c] w (fun e w' => ∃ v, e = .returned v ∧ OwnInts w.heap.size w' v L.flatten ∧ Below w.heap.size w w') := by
  have H := Lib.hid (h.mono hBw)
  have HL := Lib.hid (fun k (hk : k < L.length) => cellsOf_row L k hk)
  obtain ⟨X, hX⟩ : ∃ X, L.flatten = X := ⟨_, rfl⟩
  have HX := Lib.hid hX
  rw [hX]
  clear h hX
  go_enter Try.func119, Try.ntmps119
  go_wp2_with fail
  go_loop [3, 11] (fun q i => ∃ (k m : Nat), k ≤ L.length ∧ m ≤ 2000000 ∧ q = .int .i64 m ∧ i = .int .i64 k ∧ Hid (m = cellsOf (L.take k))) (fun _ i => L.length - (intOf i).toNat)
  case atStart => exact ⟨0, 0, Nat.zero_le _, Nat.zero_le _, rfl, rfl, (by show 0 = _; simp [cellsOf])⟩
  case round =>
    obtain ⟨k, m, hk, hm, rfl, rfl, hq⟩ := hrel
    by_cases hlt : k < L.length
    · obtain ⟨b, o, a', c', rfl, _, hcell, _⟩ := H.out k hlt
      have ht := cellsOf_take L k hlt
      have hle : cellsOf (L.take (k + 1)) ≤ cellsOf L := cellsOf_le L (k + 1)
      have hq2 := hq.out
      have hb : m + (rw_ L k).length ≤ 2000000 := by omega
      have Hq3 : Hid (m + (rw_ L k).length = cellsOf (L.take (k + 1))) := by show _ = _; omega
      have hneg : decide ((m : Int) + ((rw_ L k).length : Int) < 0) = false := by rw [decide_eq_false_iff_not]; omega
      have hs1 : IntKind.i64.wrap ((m : Int) + ((rw_ L k).length : Int)) = (m : Int) + ((rw_ L k).length : Int) := IntWalk.i64_in _ (by omega)
      clear ht hle hq2
      generalize (rw_ L k).length = n at *
      go_wp2_with fail
      go_round
      case rel => exact ⟨k + 1, m + n, by omega, hb, by go_num, by go_num, Hq3⟩
      case measure => simp [intOf]; omega
    · have he : k = L.length := by omega
      have Hm : Hid (m = cellsOf L) := by
        have := hq.out
        rw [he, List.take_of_length_le (Nat.le_refl _)] at this
        exact this
      have HG := Lib.hid (fun W => grow_ints m (by omega) W)
      go_wp2_with fail
      refine (HG.out _).mono ?_
      rintro e w1 ⟨v, rfl, ho, hb⟩
      have HO := Lib.hid ho
      have HB := Lib.hid hb
      clear ho hb HG hlt he hq
      go_wp2_with fail
      go_loopw [6, 27] (fun v i wr => ∃ (k : Nat) (u : Value), u = v ∧ k ≤ L.length ∧ i = .int .i64 k ∧ Hid (OwnInts w.heap.size wr u (L.take k).flatten) ∧ Hid (Below w.heap.size w wr)) (fun _ i _ => L.length - (intOf i).toNat)
      case atStart => exact ⟨0, _, rfl, Nat.zero_le _, rfl, HO, HB⟩
      case round =>
        clear hk HO HB
        obtain ⟨k, u, rfl, hk, rfl, hO, hB⟩ := hrel
        by_cases hlt : k < L.length
        · obtain ⟨b, o, a', c', rfl, _, hcell, hrow⟩ := (H.out.below hB.out) k hlt
          have hlen : (L.take k).flatten.length + (rw_ L k).length ≤ 4000000 := by
            rw [flatI_len]
            have h1 : cellsOf (L.take k) ≤ cellsOf L := cellsOf_le L k
            have h2 := HL.out k hlt
            omega
          have HR := Lib.hid hrow
          have He := Lib.hid (flatI_take L k hlt)
          have hsz := hB.out.size
          clear hrow
          generalize (L.take k).flatten = xs at *
          go_wp2_with (at_builtin; refine wpList_append_ints rfl _ _ rfl w.heap.size _ xs rfl hO.out a' (rw_ L k) _ c' rfl rfl _ HR.out hlen hsz ?_)
          intro v' w3 hown hgrow
          have Ho := Lib.hid hown
          have Hb := Lib.hid (hB.out.grown hgrow hsz (fun g hg => (World.ownsRow.lt hO.out g hg).1))
          rw [← He.out] at Ho
          clear hown hgrow
          go_wp2_with fail
          go_roundw
          case rel => exact ⟨k + 1, _, rfl, by omega, by go_num, Ho, Hb⟩
          case measure => simp [intOf]; omega
        · have he : k = L.length := by omega
          have HF : Hid (OwnInts w.heap.size wr u X) := by
            have := hO.out
            rw [he, List.take_of_length_le (Nat.le_refl _), HX.out] at this
            exact this
          go_wp2_with fail
          go_ret
          exact ⟨_, rfl, HF.out, hB.out⟩
end Go.Proofs.Ytfbhnjdbamahkaa

/- spec.StartTableau. -/
namespace Go.Proofs.Ytfbhnjdbamahkaa
open Go.RowKit
open Ve (R)
open Ta (T)
open Lp (P)
theorem Ta.asR_snoc (l : List Int) (z : Int) : Ta.asR (l ++ [z]) = Ta.asR l ++ [(z, 1)] := by simp [Ta.asR]
/-- A row, j numbers of A done; then j of the unit's. -/
def rowA (p : P) (k j : Nat) : List Int := ((Lp.row p k).take j).map fun a => Ta.sg p k * a
def rowU (p : P) (k j : Nat) : List Int := rowA p k p.C.length ++ Ta.unitI j k
theorem rowA_next {p : P} {k j : Nat} (h : j < (Lp.row p k).length) : rowA p k (j + 1) = rowA p k j ++ [Ta.sg p k * (Lp.row p k).getD j 0] := by
  unfold rowA
  rw [List.take_add_one, List.map_append, List.getD_eq_getElem?_getD, List.getElem?_eq_getElem h]
  rfl
theorem rowU_zero (p : P) (k : Nat) : rowU p k 0 = rowA p k p.C.length := by simp [rowU, Ta.unitI]
theorem rowU_next (p : P) (k j : Nat) : rowU p k (j + 1) = rowU p k j ++ [if j = k then 1 else 0] := by simp [rowU, Ta.unitI, List.range_succ]
theorem row_nums {p : P} {k : Nat} (h : (Lp.row p k).length = p.C.length) : Ta.nums p k = rowU p k p.A.length ++ [Ta.sg p k * p.B.getD k 0] := by
  unfold Ta.nums rowU rowA
  rw [← h, List.take_length, List.append_assoc]
theorem rowA_len {p : P} {k j : Nat} (h : j ≤ (Lp.row p k).length) : (rowA p k j).length = j := by simp [rowA]; omega
/-- 'append(s, x...)' at fractions, as a step. -/
theorem step_append_rats {w : World} {ops : Array Oper} {o : Oper} {a : Act} {K : Act → World → Prop} {Q : Exit → Act → World → Prop} {E : Prop} (hgd : o.guard = none) (s x : Operand)
    (hop : o.op = Op.call { callee := Callee.builtin Builtin.append, args := #[s, x], argTypes := #[35, 35] }) (B : Nat) (v : Value) (xs : List R) (hs : a.eval s = v) (hown : OwnRats B w v xs) (b o1 : Nat) (ys : List R) (n c : Nat) (hn : n = ys.length) (hx : a.eval x = .slice (some ⟨b, o1, none⟩) n c)
    (n0 : Nat) (hr : RatsIn n0 w (some ⟨b, o1, none⟩) ys) (hlen : xs.length + ys.length ≤ 4000000) (hB : B ≤ w.heap.size) (hK : ∀ v' w', OwnRats B w' v' (xs ++ ys) → w.grownBy w' v.ownBlock → K (a.put o.dst v') w') : if Region.wanted o (yielded ops a.tmps) = true then Oper.wp Try.prog o a w K Q else E := by
  have hw : Region.wanted o (yielded ops a.tmps) = true := by simp [Region.wanted, hgd]
  rw [if_pos hw]
  subst hn
  obtain ⟨i0, hi, hz0, hz1, hz2⟩ := info_parts info_rat
  refine wp_append_own w s x 35 hop B 34 i0 (.agg #[.int .i64 0, .int .i64 0]) 2 16 Try.underlying35 hi hz0 hz1 hz2 rfl (by decide) v xs.length (cellsR xs) hs hown ⟨b, o1, none⟩ ys.length c (cellsR ys) hx (cellsR_len ys) (fun j u hj => ratsIn_cells hr j u hj) (fun u hu => cells_one ys u hu) (by unfold maxLen; omega) (by omega) hB ?_
  intro v' w' h1 h2 _
  refine hK v' w' ?_ h2
  unfold OwnRats
  rw [List.length_append, cells_append]
  exact h1
theorem rows_grown {B : Nat} {w w' : World} {v : Value} {row : Option Nat} {L : List (List R)} (h : OwnRM B w v L) (hg : w.grownBy w' row) (hr : ∀ g, row = some g → TyAt w g 3) : OwnRM B w' v L := by
  obtain ⟨vs, h1, h2⟩ := h
  refine ⟨vs, owns_same h1 fun g hgo => hg.block g (World.ownsRow.lt h1 g hgo).2 (fun e => (TyAt.ne (owns_ty h1 hgo) (hr g e.symm) row_ne_int) rfl), fun j hj => ?_⟩
  obtain ⟨u, e, ho⟩ := h2 j hj
  exact ⟨u, e, owns_same ho fun g hgo => hg.block g (World.ownsRow.lt ho g hgo).2 (fun e => (TyAt.ne (owns_ty ho hgo) (hr g e.symm) rat_ne_int) rfl)⟩
set_option maxRecDepth 100000 in
set_option maxHeartbeats 4000000 in
theorem spec_StartTableau (B : Nat) (a b c : Option Addr) (c1 c2 c3 : Nat) (p : P) (hn : LpFits p) (w : World) (hBw : B ≤ w.heap.size) (hz : LpIn B w a b c p) :
    Calls Try.prog 20 #[.agg #[.slice a p.A.length c1, .slice b p.B.length c2, .slice c p.C.length c3]] w (MakesTab (Ta.start p) w) := by
  have hb := ((Below.refl w.heap.size w).alloc (Nat.le_refl _) (.cells #[.slice a p.A.length c1, .slice b p.B.length c2, .slice c p.C.length c3] 38))
  have hb2 := hb.alloc hb.size (.cells #[.slice none 0 0, .slice none 0 0, .int .i64 0] 27)
  have HZ := Lib.hid ((hz.mono hBw).below hb2)
  have hx := (Tri.new w (.slice a p.A.length c1) (.slice b p.B.length c2) (.slice c p.C.length c3) 38).more (.cells #[.slice none 0 0, .slice none 0 0, .int .i64 0] 27)
  have hr := Tri.new (w.alloc (.cells #[.slice a p.A.length c1, .slice b p.B.length c2, .slice c p.C.length c3] 38)) (.slice none 0 0) (.slice none 0 0) (.int .i64 0) 27
  rw [size1] at hr
  have hs2 := size2 w (.cells #[.slice a p.A.length c1, .slice b p.B.length c2, .slice c p.C.length c3] 38) (.cells #[.slice none 0 0, .slice none 0 0, .int .i64 0] 27)
  have Hb := Lib.hid hb2
  have Hx := Lib.hid hx
  have Hr := Lib.hid hr
  have HS2 := Lib.hid hs2
  have hnA := hn.A
  have hnB := hn.B
  have hnC := hn.C
  obtain ⟨ST, hST⟩ : ∃ ST, Ta.start p = ST := ⟨_, rfl⟩
  have HST := Lib.hid hST
  rw [hST]
  have HN := Lib.hid hn
  clear hz hb hb2 hx hr hs2 hn hST
  go_enter Try.func20, Try.ntmps20
  go_upto_region 1 with fail
  generalize hW : (w.alloc (.cells #[.slice a p.A.length c1, .slice b p.B.length c2, .slice c p.C.length c3] 38)).alloc (.cells #[.slice none 0 0, .slice none 0 0, .int .i64 0] 27) = W at *
  clear hW
  obtain ⟨x0, x1, x2, _⟩ := Hx.out.cells
  obtain ⟨g, hg⟩ : ∃ g, Lp.vldP p = g := ⟨_, rfl⟩
  have Hg := Lib.hid hg
  have HV := Lib.hid (spec_IsValidLP w.heap.size a b c c1 c2 c3 p HN.out W Hb.out.size HZ.out)
  rw [hg] at HV
  clear hg
  go_wp2_with fail
  refine HV.out.mono ?_
  rintro e w1 ⟨rfl, hb1⟩
  have hWw : w.heap.size ≤ W.heap.size := Hb.out.size
  have HB1 := Lib.hid (Hb.out.trans (hb1.mono hWw))
  have HX1 := Lib.hid (Hx.out.below hb1)
  have HR1 := Lib.hid (Hr.out.below hb1)
  have HZ1 := Lib.hid (HZ.out.below (hb1.mono hWw))
  have hsz1 := hb1.size
  clear x0 x1 x2 HV hb1 Hb Hx Hr HZ
  cases g with
  | false =>
    have hE : Hid ((⟨[], [], 0⟩ : T) = ST) := by show _ = _; rw [← HST.out, Ta.start_no Hg.out]
    obtain ⟨z0, z1, z2, f0, f1, f2⟩ := HR1.out.cells
    have hF := HR1.out
    go_wp2_with fail
    refine bodyPost_ret (v := .agg #[.slice none 0 0, .slice none 0 0, .int .i64 0]) (by
      obtain ⟨z0, z1, z2, _⟩ := (tri_over hF (.slice none 0 0) (.slice none 0 0) (.int .i64 0)).cells
      revert z0 z1 z2
      generalize (World.setCell _ (⟨w.heap.size + 1, 2, none⟩ : Addr) (.int .i64 0)) = W4
      intro z0 z1 z2
      simp [results, Try.results20, go_sem, z0, z1, z2]) rfl ?_
    rw [← hE.out]
    exact ⟨_, rfl, ⟨_, _, rfl, OwnRM.nil _ _, World.ownsRow_nil _ _ _ _⟩, low_over HB1.out (Nat.le_succ _) _ _ _⟩
  | true =>
    obtain ⟨v1, v2, v3, v4, v5, v6⟩ := Lp.vld_parts Hg.out
    have V1 := Lib.hid v1
    have V4 := Lib.hid v4
    have V5 := Lib.hid v5
    have hE : Hid (Ta.startAt p p.A.length = ST) := by show _ = _; rw [← HST.out, Ta.start_yes Hg.out]
    obtain ⟨x0, x1, x2, _⟩ := HX1.out.cells
    have HO := Lib.hid (Tri.new w1 (.slice none 0 0) (.slice none 0 0) (.int .i64 p.C.length) 27)
    have HBo := Lib.hid ((Below.refl w1.heap.size w1).alloc (Nat.le_refl _) (.cells #[.slice none 0 0, .slice none 0 0, .int .i64 p.C.length] 27))
    have HRo : Hid (OwnRM w1.heap.size (w1.alloc (.cells #[.slice none 0 0, .slice none 0 0, .int .i64 p.C.length] 27)) (.slice none 0 0) (Ta.startAt p 0).rows) := OwnRM.nil _ _
    have HIo : Hid (OwnInts w1.heap.size (w1.alloc (.cells #[.slice none 0 0, .slice none 0 0, .int .i64 p.C.length] 27)) (.slice none 0 0) (Ta.startAt p 0).basis) := World.ownsRow_nil _ _ _ _
    clear v1 v4 v5 v6
    go_wp2_with fail
    go_loopw [4] (fun i wr => ∃ (k : Nat) (vR vB : Value), k ≤ p.A.length ∧ i = .int .i64 k ∧ Hid (Tri wr w1.heap.size vR vB (.int .i64 p.C.length) 27) ∧ Hid (OwnRM w1.heap.size wr vR (Ta.startAt p k).rows) ∧ Hid (OwnInts w1.heap.size wr vB (Ta.startAt p k).basis) ∧ Hid (Below w1.heap.size w1 wr)) (fun i _ => p.A.length - (intOf i).toNat)
    case atStart => exact ⟨0, _, _, Nat.zero_le _, rfl, HO, HRo, HIo, HBo⟩
    case round =>
      clear x0 x1 x2 HO HBo HRo HIo
      obtain ⟨k, vR, vB, hk, rfl, hO, hR, hI, hB⟩ := hrel
      have HXr := Lib.hid (HX1.out.below hB.out)
      obtain ⟨x0, x1, x2, _⟩ := HXr.out.cells
      have hszr := hB.out.size
      by_cases hlt : k < p.A.length
      · have hZr := HZ1.out.below (hB.out.mono (Nat.le_trans hWw hsz1))
        obtain ⟨b1, o1, a1, k1, rfl, hl1, hrow, hnums⟩ := hZr.mA k hlt
        obtain ⟨b2, o2, rfl, hl2, hbk⟩ := hZr.mB k (by rw [V4.out]; exact hlt)
        obtain ⟨hrl, hrs⟩ := Lp.rows_at V1.out hlt
        have hrw : rw_ p.A k = Lp.row p k := rfl
        rw [hrw] at hrow hnums
        rw [hrl] at hrow
        have Hrl := Lib.hid hrl
        have HRs := Lib.hid (fun j => Ta.small_get hrs j)
        have HNu := Lib.hid hnums
        have hbz := Ta.small_get V5.out k
        have HSg : Hid (Ta.sg p k = if p.B.getD k 0 < 0 then -1 else 1) := rfl
        have Hbz : Hid (∀ W', Below wr.heap.size wr W' → W'.cell? ⟨b2, o2 + k, none⟩ = some (.int .i64 (p.B.getD k 0))) := fun W' h => by rw [h.cell (p := ⟨b2, o2 + k, none⟩) (show b2 < wr.heap.size by omega)]; exact hbk
        have hrowc : Hid (∀ W', Below wr.heap.size wr W' → W'.cell? ⟨b1, o1 + k, none⟩ = some (.slice a1 p.C.length k1)) := fun W' h => by rw [h.cell (p := ⟨b1, o1 + k, none⟩) (show b1 < wr.heap.size by omega)]; exact hrow
        have n1 : (k : Int) < (p.A.length : Int) := by omega
        have n2 : (k : Int) < (p.B.length : Int) := by have h : p.B.length = p.A.length := V4.out; omega
        have hsgb : -1 ≤ Ta.sg p k ∧ Ta.sg p k ≤ 1 := by rcases Ta.sg_or p k with e | e <;> rw [e] <;> omega
        clear hZr hrl hrs hrw hnums hrow
        generalize hBk : p.B.getD k 0 = z at *
        go_upto_if 29 with fail
        go_cut [5] (fun v wx => v = .int .i64 (Ta.sg p k) ∧ wx = wr)
        case first =>
          by_cases hneg : z < 0
          · have hd : decide (z < 0) = true := by rw [decide_eq_true_iff]; exact hneg
            have Hs : Hid (-1 = Ta.sg p k) := by show _ = _; rw [HSg.out, if_pos hneg]
            go_wp2_with fail
            go_meet
            exact ⟨congrArg (Value.int .i64) Hs.out, rfl⟩
          · have hd : decide (z < 0) = false := by rw [decide_eq_false_iff_not]; exact hneg
            have Hs : Hid (1 = Ta.sg p k) := by show _ = _; rw [HSg.out, if_neg hneg]
            go_wp2_with fail
            go_meet
            exact ⟨congrArg (Value.int .i64) Hs.out, rfl⟩
        case rest =>
          obtain ⟨wx, hwx⟩ : ∃ q : World, q = wc := ⟨_, rfl⟩
          rw [← hwx]
          rw [← hwx] at hcut
          obtain ⟨rfl, rfl⟩ := hcut
          clear hwx
          have HB0 := Lib.hid hB.out
          have HXs := Lib.hid HXr.out
          have HRA : Hid (OwnRats wx.heap.size (wx.alloc (.cells #[] 34)) (.slice (some ⟨wx.heap.size, 0, none⟩) 0 0) (Ta.asR (rowA p k 0))) := World.ownsRow_made wx #[] 0 (Nat.le_refl _) (Nat.zero_le _) rfl
          have HBA := Lib.hid ((Below.refl wx.heap.size wx).alloc (Nat.le_refl _) (.cells #[] 34))
          clear HSg
          go_wp2_with fail
          go_loopw [6, 7] (fun v i wr => ∃ (j : Nat) (u : Value), u = v ∧ j ≤ p.C.length ∧ i = .int .i64 j ∧ Hid (OwnRats wx.heap.size wr u (Ta.asR (rowA p k j))) ∧ Hid (Below wx.heap.size wx wr)) (fun _ i _ => p.C.length - (intOf i).toNat)
          case atStart => exact ⟨0, _, rfl, Nat.zero_le _, rfl, HRA, HBA⟩
          case round =>
            clear x0 x1 x2 HRA HBA
            obtain ⟨j, u, rfl, hj, rfl, hU, hBj⟩ := hrel
            obtain ⟨x0, x1, x2, _⟩ := (HXs.out.below hBj.out).cells
            by_cases hjt : j < p.C.length
            · obtain ⟨b3, o3, rfl, hl3, hnum⟩ := HNu.out j (by rw [Hrl.out]; exact hjt)
              have hrowj := hrowc.out _ hBj.out
              have hvb := HRs.out j
              have Hnx : Hid (Ta.asR (rowA p k (j + 1)) = Ta.asR (rowA p k j) ++ [(Ta.sg p k * (Lp.row p k).getD j 0, 1)]) := by show _ = _; rw [rowA_next (by rw [Hrl.out]; exact hjt), Ta.asR_snoc]
              have hlen : (Ta.asR (rowA p k j)).length ≤ 70 := by unfold Ta.asR; rw [List.length_map, rowA_len (by rw [Hrl.out]; exact hj)]; omega
              have hnum' : wr.cell? ⟨b3, o3 + j, none⟩ = some (.int .i64 ((Lp.row p k).getD j 0)) := by rw [hBj.out.cell (p := ⟨b3, o3 + j, none⟩) (show b3 < wx.heap.size by omega)]; exact hnum
              generalize (Lp.row p k).getD j 0 = v at *
              have hw : IntKind.i64.wrap (Ta.sg p k * v) = Ta.sg p k * v := IntWalk.i64_in _ (by rcases Ta.sg_or p k with e | e <;> rw [e] <;> omega)
              have n3 : (j : Int) < (p.C.length : Int) := by omega
              have hszj := hBj.out.size
              generalize Ta.asR (rowA p k j) = ls at *
              clear hnum
              go_wp2_with fail
              refine (spec_l3Int (Ta.sg p k * v) _).mono ?_
              rintro e w2 ⟨rfl, hb2⟩
              have HB3 := Lib.hid (hBj.out.trans (hb2.mono hszj))
              have hsz2 := HB3.out.size
              have Hown : Hid (OwnRats wx.heap.size (w2.alloc (.cells #[.int .i64 (Ta.sg p k * v), .int .i64 1] 34)) u ls) := OwnRats.alloc (hU.out.below hb2) (.cells #[.int .i64 (Ta.sg p k * v), .int .i64 1] 34)
              have Hone := Lib.hid (one_rat w2 (Ta.sg p k * v, 1))
              clear hb2
              go_wp2_with (at_builtin; refine wpList_append_rats rfl _ _ rfl wx.heap.size _ ls rfl Hown.out _ [(Ta.sg p k * v, 1)] 1 1 rfl rfl _ Hone.out (by simp; omega) (by rw [size1]; omega) ?_)
              intro v' w3 hown' hgrow
              have hne := World.ownsRow.lt Hown.out
              have HU1 : Hid (OwnRats wx.heap.size w3 v' (Ta.asR (rowA p k (j + 1)))) := by rw [Hnx.out]; exact hown'
              have HB1 := Lib.hid ((HB3.out.alloc hsz2 (.cells #[.int .i64 (Ta.sg p k * v), .int .i64 1] 34)).grown hgrow (by simp; omega) (fun g hg => (hne g hg).1))
              clear hown' hgrow hne hw
              go_wp2_with fail
              go_roundw
              case rel => exact ⟨j + 1, _, rfl, by omega, by go_num, HU1, HB1⟩
              case measure => simp [intOf]; omega
            · have hje : j = p.C.length := by omega
              have HU0 : Hid (OwnRats wx.heap.size wr u (Ta.asR (rowU p k 0))) := by rw [rowU_zero, ← hje]; exact hU.out
              clear hje hU
              go_wp2_with fail
              go_loopw [6, 8] (fun v i wr => ∃ (j : Nat) (u : Value), u = v ∧ j ≤ p.A.length ∧ i = .int .i64 j ∧ Hid (OwnRats wx.heap.size wr u (Ta.asR (rowU p k j))) ∧ Hid (Below wx.heap.size wx wr)) (fun _ i _ => p.A.length - (intOf i).toNat)
              case atStart => exact ⟨0, _, rfl, Nat.zero_le _, rfl, HU0, hBj⟩
              case round =>
                clear x0 x1 x2 HU0 hBj
                obtain ⟨j, u, rfl, hj, rfl, hU, hBj⟩ := hrel
                obtain ⟨x0, x1, x2, _⟩ := (HXs.out.below hBj.out).cells
                have hlen : (Ta.asR (rowU p k j)).length ≤ 78 := by
                  unfold Ta.asR rowU Ta.unitI
                  rw [List.length_map, List.length_append, rowA_len (by rw [Hrl.out]; exact Nat.le_refl _), List.length_map, List.length_range]
                  omega
                by_cases hjt : j < p.A.length
                · obtain ⟨bb, hbb⟩ : ∃ bb, ((j : Int) == (k : Int)) = bb := ⟨_, rfl⟩
                  have Hnx : Hid (Ta.asR (rowU p k (j + 1)) = Ta.asR (rowU p k j) ++ [((if j = k then 1 else 0), 1)]) := by show _ = _; rw [rowU_next, Ta.asR_snoc]
                  have Hbv : Hid ((if bb then (1 : Int) else 0) = (if j = k then 1 else 0)) := by
                    show _ = _
                    rw [← hbb]
                    by_cases e : j = k
                    · subst e; simp
                    · rw [if_neg e, if_neg]; simp; omega
                  have hszj := hBj.out.size
                  generalize Ta.asR (rowU p k j) = ls at *
                  go_wp2_with fail
                  refine (spec_l1Bit bb _).mono ?_
                  rintro e w2 ⟨rfl, rfl⟩
                  generalize (if bb then (1 : Int) else 0) = bv at *
                  go_wp2_with fail
                  refine (spec_l3Int bv _).mono ?_
                  rintro e w2 ⟨rfl, hb2⟩
                  have HB3 := Lib.hid (hBj.out.trans (hb2.mono hszj))
                  have hsz2 := HB3.out.size
                  have Hown : Hid (OwnRats wx.heap.size (w2.alloc (.cells #[.int .i64 bv, .int .i64 1] 34)) u ls) := OwnRats.alloc (hU.out.below hb2) (.cells #[.int .i64 bv, .int .i64 1] 34)
                  have Hone := Lib.hid (one_rat w2 (bv, 1))
                  clear hb2
                  go_wp2_with (at_builtin; refine wpList_append_rats rfl _ _ rfl wx.heap.size _ ls rfl Hown.out _ [(bv, 1)] 1 1 rfl rfl _ Hone.out (by simp; omega) (by rw [size1]; omega) ?_)
                  intro v' w3 hown' hgrow
                  have hne := World.ownsRow.lt Hown.out
                  have HU1 : Hid (OwnRats wx.heap.size w3 v' (Ta.asR (rowU p k (j + 1)))) := by rw [Hnx.out, ← Hbv.out]; exact hown'
                  have HB1 := Lib.hid ((HB3.out.alloc hsz2 (.cells #[.int .i64 bv, .int .i64 1] 34)).grown hgrow (by simp; omega) (fun g hg => (hne g hg).1))
                  clear hown' hgrow hne hbb
                  go_wp2_with fail
                  go_roundw
                  case rel => exact ⟨j + 1, _, rfl, by omega, by go_num, HU1, HB1⟩
                  case measure => simp [intOf]; omega
                · have hje : j = p.A.length := by omega
                  have HUn : Hid (OwnRats wx.heap.size wr u (Ta.asR (rowU p k p.A.length))) := by rw [← hje]; exact hU.out
                  clear hje hU
                  go_upto_region 19 with fail
                  have hzr := Hbz.out _ hBj.out
                  have hq1 : w1.heap.size < wx.heap.size := lt_of_at hO.out
                  have hszj := hBj.out.size
                  obtain ⟨y0, y1, y2, _⟩ := (hO.out.below hBj.out).cells
                  have hub : ∀ g, u.ownBlock = some g → wx.heap.size ≤ g := fun g hg => (World.ownsRow.lt HUn.out g hg).1
                  have hun : ∀ q, q < wx.heap.size → u.ownBlock ≠ some q := fun q h e => by have := hub q e; omega
                  have hxq := lt_of_at HXs.out
                  have Cell := Lib.hid (fun w' (h : wr.grownBy w' u.ownBlock) => (show w'.cell? ⟨w1.heap.size, 0, none⟩ = some vR ∧ w'.cell? ⟨w.heap.size, 1, none⟩ = some (.slice (some ⟨b2, o2, none⟩) p.B.length c2) ∧ w'.cell? ⟨b2, o2 + k, none⟩ = some (.int .i64 z) ∧ wr.grownBy w' u.ownBlock from
                    ⟨gr_cell (p := ⟨w1.heap.size, 0, none⟩) h (show w1.heap.size < wr.heap.size by omega) (hun _ hq1) y0, gr_cell (p := ⟨w.heap.size, 1, none⟩) h (show w.heap.size < wr.heap.size by omega) (hun _ hxq) x1, gr_cell (p := ⟨b2, o2 + k, none⟩) h (show b2 < wr.heap.size by omega) (hun _ (show b2 < wx.heap.size by omega)) hzr, h⟩))
                  have hg0 : wr.grownBy wr.drew u.ownBlock := gr_drew (World.grownBy.refl _ _)
                  have hin0 := (Since.refl wr).drew
                  have hw : IntKind.i64.wrap (Ta.sg p k * z) = Ta.sg p k * z := IntWalk.i64_in _ (by rcases Ta.sg_or p k with e | e <;> rw [e] <;> omega)
                  have Hkey : Hid (Ta.asR (rowU p k p.A.length) ++ [(Ta.sg p k * z, 1)] = Ta.startRow p k) := by
                    show _ = _
                    unfold Ta.startRow
                    rw [row_nums Hrl.out, hBk, Ta.asR_snoc]
                  have hulen : (Ta.asR (rowU p k p.A.length)).length ≤ 78 := by
                    unfold Ta.asR rowU Ta.unitI
                    rw [List.length_map, List.length_append, rowA_len (by rw [Hrl.out]; exact Nat.le_refl _), List.length_map, List.length_range]
                    omega
                  have HBk := Lib.hid hBk
                  have hrk : (Ta.startAt p k).rows.length = k := by simp [Ta.startAt]
                  have hbk2 : (Ta.startAt p k).basis.length = k := by simp [Ta.startAt]
                  have Hrk := Lib.hid hrk
                  have Hbk2 := Lib.hid hbk2
                  have HX2 := Lib.hid (HXs.out.below hBj.out)
                  clear x0 x1 x2 y0 y1 y2 hzr hBk hrk hbk2 hlen
                  generalize Ta.asR (rowU p k p.A.length) = us at *
                  refine wp_region_T_drew (S := (fun w' => w'.cell? ⟨w1.heap.size, 0, none⟩ = some vR ∧ w'.cell? ⟨w.heap.size, 1, none⟩ = some (.slice (some ⟨b2, o2, none⟩) p.B.length c2) ∧ w'.cell? ⟨b2, o2 + k, none⟩ = some (.int .i64 z) ∧ wr.grownBy w' u.ownBlock)) 14 (by kernel_rfl) ?_ (fun hHeld => ?_)
                  · exact Cell.out _ hg0
                  refine wpAnyT_take (i := 0) (oi := { dst := some 67, op := Op.fieldAddr 27 (Operand.tmp 3) 0, type := 0, pos := "l06_tableau.go:22", after := #[], guard := none }) (v := ?_) rfl (by kernel_rfl) (fun _ _ _ h => h) (Or.inl ⟨by rfl, ?_⟩) (by assumption) ?_
                  rotate_left 1
                  · intro w hSw; (try dsimp only at hSw); go_simp; try (with_reducible rfl)
                  try simp only [Act.put, List.setIfInBounds_toArray, List.set_cons_zero, List.set_cons_succ]
                  refine wpAnyT_take (i := 1) (oi := { dst := some 68, op := Op.load 24 (Operand.tmp 67), type := 24, pos := "l06_tableau.go:22", after := #[{ on := 0, ground := Ground.data }], guard := none }) (v := ?_) rfl (by kernel_rfl) (fun _ _ _ h => h) (Or.inl ⟨by rfl, ?_⟩) (by assumption) ?_
                  rotate_left 1
                  · intro w hSw; (try dsimp only at hSw); go_simp; try (with_reducible rfl)
                  try simp only [Act.put, List.setIfInBounds_toArray, List.set_cons_zero, List.set_cons_succ]
                  refine wpAnyT_take (i := 2) (oi := { dst := some 69, op := Op.move (Operand.tmp 6), type := 35, pos := "l06_tableau.go:22", after := #[], guard := none }) (v := ?_) rfl (by kernel_rfl) (fun _ _ _ h => h) (Or.inl ⟨by rfl, ?_⟩) (by assumption) ?_
                  rotate_left 1
                  · intro w hSw; (try dsimp only at hSw); go_simp; try (with_reducible rfl)
                  try simp only [Act.put, List.setIfInBounds_toArray, List.set_cons_zero, List.set_cons_succ]
                  refine wpAnyT_take (i := 3) (oi := { dst := some 70, op := Op.move (Operand.tmp 5), type := 3, pos := "l06_tableau.go:22", after := #[], guard := none }) (v := ?_) rfl (by kernel_rfl) (fun _ _ _ h => h) (Or.inl ⟨by rfl, ?_⟩) (by assumption) ?_
                  rotate_left 1
                  · intro w hSw; (try dsimp only at hSw); go_simp; try (with_reducible rfl)
                  try simp only [Act.put, List.setIfInBounds_toArray, List.set_cons_zero, List.set_cons_succ]
                  refine wpAnyT_take (i := 4) (oi := { dst := some 71, op := Op.fieldAddr 38 (Operand.tmp 1) 1, type := 0, pos := "l06_tableau.go:22", after := #[], guard := none }) (v := ?_) rfl (by kernel_rfl) (fun _ _ _ h => h) (Or.inl ⟨by rfl, ?_⟩) (by assumption) ?_
                  rotate_left 1
                  · intro w hSw; (try dsimp only at hSw); go_simp; try (with_reducible rfl)
                  try simp only [Act.put, List.setIfInBounds_toArray, List.set_cons_zero, List.set_cons_succ]
                  refine wpAnyT_take (i := 5) (oi := { dst := some 72, op := Op.load 25 (Operand.tmp 71), type := 25, pos := "l06_tableau.go:22", after := #[{ on := 4, ground := Ground.data }], guard := none }) (v := ?_) rfl (by kernel_rfl) (fun _ _ _ h => h) (Or.inl ⟨by rfl, ?_⟩) (by assumption) ?_
                  rotate_left 1
                  · intro w hSw; (try dsimp only at hSw); go_simp; try (with_reducible rfl)
                  try simp only [Act.put, List.setIfInBounds_toArray, List.set_cons_zero, List.set_cons_succ]
                  refine wpAnyT_take (i := 6) (oi := { dst := some 73, op := Op.move (Operand.tmp 4), type := 3, pos := "l06_tableau.go:22", after := #[], guard := none }) (v := ?_) rfl (by kernel_rfl) (fun _ _ _ h => h) (Or.inl ⟨by rfl, ?_⟩) (by assumption) ?_
                  rotate_left 1
                  · intro w hSw; (try dsimp only at hSw); go_simp; try (with_reducible rfl)
                  try simp only [Act.put, List.setIfInBounds_toArray, List.set_cons_zero, List.set_cons_succ]
                  refine wpAnyT_take (i := 7) (oi := { dst := some 74, op := Op.indexAddr 25 (Operand.tmp 72) (Operand.tmp 73), type := 0, pos := "l06_tableau.go:22", after := #[{ on := 5, ground := Ground.data }, { on := 6, ground := Ground.data }], guard := none }) (v := ?_) rfl (by kernel_rfl) (fun _ _ _ h => h) (Or.inl ⟨by rfl, ?_⟩) (by assumption) ?_
                  rotate_left 1
                  · intro w hSw; (try dsimp only at hSw); go_simp; try (with_reducible rfl)
                  try simp only [Act.put, List.setIfInBounds_toArray, List.set_cons_zero, List.set_cons_succ]
                  refine wpAnyT_take (i := 8) (oi := { dst := some 75, op := Op.load 3 (Operand.tmp 74), type := 3, pos := "l06_tableau.go:22", after := #[{ on := 7, ground := Ground.data }], guard := none }) (v := ?_) rfl (by kernel_rfl) (fun _ _ _ h => h) (Or.inl ⟨by rfl, ?_⟩) (by assumption) ?_
                  rotate_left 1
                  · intro w hSw; (try dsimp only at hSw); go_simp; try (with_reducible rfl)
                  try simp only [Act.put, List.setIfInBounds_toArray, List.set_cons_zero, List.set_cons_succ]
                  refine wpAnyT_take (i := 9) (oi := { dst := some 76, op := Op.binOp BinOp.mul 3 (Operand.tmp 70) (Operand.tmp 75) 3, type := 3, pos := "l06_tableau.go:22", after := #[{ on := 3, ground := Ground.data }, { on := 8, ground := Ground.data }], guard := none }) (v := ?_) rfl (by kernel_rfl) (fun _ _ _ h => h) (Or.inl ⟨by rfl, ?_⟩) (by assumption) ?_
                  rotate_left 1
                  · intro w hSw; (try dsimp only at hSw); go_simp; try (with_reducible rfl)
                  try simp only [Act.put, List.setIfInBounds_toArray, List.set_cons_zero, List.set_cons_succ]
                  refine wpAnyT_ready (rs := [10]) (by kernel_rfl) (by simp) ?_
                  refine (AllReadyT.cons (o := { dst := some 77, op := Op.call { callee := Callee.value (Operand.func 60), args := #[Operand.tmp 76], argTypes := #[3] }, type := 34, pos := "l06_tableau.go:22", after := #[{ on := 9, ground := Ground.data }], guard := none }) (rs := []) rfl (fun K hK => ?_) AllReadyT.nil)
                  go_simp
                  (go_at_call 60; refine (spec_l3Int (Ta.sg p k * z) _).mono ?_; rintro e w2 ⟨rfl, hb2⟩; have hg2 := gr_below hg0 hb2; have hin2 := hin0.trans hb2)
                  refine hK.out _ _ ?_ (fun hHeld => ?_)
                  · exact Cell.out _ hg2
                  clear hK K
                  try simp only [Act.put, List.setIfInBounds_toArray, List.set_cons_zero, List.set_cons_succ]
                  have hg3 := gr_alloc hg2 (.cells #[.int .i64 (Ta.sg p k * z), .int .i64 1] 34)
                  have hU3 := OwnRats.alloc (HUn.out.below hin2.low) (.cells #[.int .i64 (Ta.sg p k * z), .int .i64 1] 34)
                  have hone := one_rat w2 (Ta.sg p k * z, 1)
                  have hs2 : wx.heap.size ≤ w2.heap.size := Nat.le_trans hszj hin2.low.size
                  refine wpAnyT_ready (rs := [11]) (by kernel_rfl) (by simp) ?_
                  refine (AllReadyT.cons (o := { dst := some 78, op := Op.buildSlice 35 1 #[(0, Operand.tmp 77)], type := 35, pos := "l06_tableau.go:22", after := #[{ on := 10, ground := Ground.data }], guard := none }) (rs := []) rfl (fun K hK => ?_) AllReadyT.nil)
                  go_simp
                  refine hK.out _ _ ?_ (fun hHeld => ?_)
                  · exact Cell.out _ hg3
                  clear hK K
                  try simp only [Act.put, List.setIfInBounds_toArray, List.set_cons_zero, List.set_cons_succ]
                  refine wpAnyT_ready (rs := [12]) (by kernel_rfl) (by simp) ?_
                  refine (AllReadyT.cons (o := { dst := some 79, op := Op.call { callee := Callee.builtin Builtin.append, args := #[Operand.tmp 69, Operand.tmp 78], argTypes := #[35, 35] }, type := 35, pos := "l06_tableau.go:22", after := #[{ on := 2, ground := Ground.data }, { on := 11, ground := Ground.data }, { on := 10, ground := Ground.chain }], guard := none }) (rs := []) rfl (fun K hK => ?_) AllReadyT.nil)
                  (refine step_append_rats rfl _ _ rfl wx.heap.size u us rfl hU3 w2.heap.size 0 [(Ta.sg p k * z, 1)] 1 1 rfl rfl _ hone (by simp; omega) (by rw [size1]; omega) ?_; intro v' w4 hown hgrow; rw [Hkey.out] at hown; obtain ⟨av, cv, rfl⟩ := own_shape hown; have hg4 := gr_trans hg3 hgrow; generalize hrowk : Ta.startRow p k = row at *)
                  refine hK.out _ _ ?_ (fun hHeld => ?_)
                  · exact Cell.out _ hg4
                  clear hK K
                  try simp only [Act.put, List.setIfInBounds_toArray, List.set_cons_zero, List.set_cons_succ]
                  have hg5 := gr_alloc hg4 (.cells #[.slice av row.length cv] 35)
                  have hlow : ∀ k', k' < wx.heap.size → (w4.alloc (.cells #[.slice av row.length cv] 35)).heap[k']? = wx.heap[k']? := fun k' hk' => (hg5.block k' (by omega) (fun e => by have := hub k' e.symm; omega)).trans (hBj.out.block k' hk')
                  have hO5 := hR.out.high (w' := w4.alloc (.cells #[.slice av row.length cv] 35)) (fun k' _ h => hlow k' h)
                  have hI5 := hI.out.high (w' := w4.alloc (.cells #[.slice av row.length cv] 35)) (fun k' _ h => hlow k' h)
                  have hT5 : Tri (w4.alloc (.cells #[.slice av row.length cv] 35)) w1.heap.size vR vB (.int .i64 p.C.length) 27 := (hlow _ hq1).trans hO.out
                  have hX5 : Tri (w4.alloc (.cells #[.slice av row.length cv] 35)) w.heap.size (.slice (some ⟨b1, o1, none⟩) p.A.length c1) (.slice (some ⟨b2, o2, none⟩) p.B.length c2) (.slice c p.C.length c3) 38 := (hlow _ hxq).trans HXs.out
                  have hB5 : Below w1.heap.size w1 (w4.alloc (.cells #[.slice av row.length cv] 35)) := below_gr (B := w1.heap.size) (hB.out.trans (hBj.out.mono hszr)) hg5 (by omega) (fun g hg => by have := hub g hg; omega)
                  have hu5 := OwnRats.alloc (hown.raise hszr) (.cells #[.slice av row.length cv] 35)
                  have hcu := (CellsAt.new w4 #[.slice av row.length cv] 35).cell 0
                  have hs4 : w1.heap.size ≤ (w4.alloc (.cells #[.slice av row.length cv] 35)).heap.size := hB5.size
                  refine wpAnyT_ready (rs := [13]) (by kernel_rfl) (by simp) ?_
                  refine (AllReadyT.cons (o := { dst := some 80, op := Op.buildSlice 24 1 #[(0, Operand.tmp 79)], type := 24, pos := "l06_tableau.go:22", after := #[{ on := 12, ground := Ground.data }], guard := none }) (rs := []) rfl (fun K hK => ?_) AllReadyT.nil)
                  go_simp
                  refine hK.out _ _ ?_ (fun hHeld => ?_)
                  · exact Cell.out _ hg5
                  clear hK K
                  try simp only [Act.put, List.setIfInBounds_toArray, List.set_cons_zero, List.set_cons_succ]
                  refine wpAnyT_ready (rs := [14]) (by kernel_rfl) (by simp) ?_
                  refine (AllReadyT.last (o := { dst := some 81, op := Op.call { callee := Callee.builtin Builtin.append, args := #[Operand.tmp 68, Operand.tmp 80], argTypes := #[24, 24] }, type := 24, pos := "l06_tableau.go:22", after := #[{ on := 1, ground := Ground.data }, { on := 13, ground := Ground.data }, { on := 12, ground := Ground.chain }], guard := none }) (rs := []) rfl (by rfl) (fun K hK => ?_) AllReadyT.nil)
                  (refine step_append_row rfl _ _ rfl w1.heap.size vR (Ta.startAt p k).rows rfl hO5 w4.heap.size (.slice av row.length cv) row rfl hcu hu5 (by have := Hrk.out; omega) hs4 ?_; intro v6 w6 hown6 hgrow6; rw [show (Ta.startAt p k).rows ++ [row] = (Ta.startAt p (k + 1)).rows by rw [← hrowk, Ta.rows_succ]] at hown6; obtain ⟨a6, c6, rfl⟩ := rows_shape hown6)
                  refine hK.out _ _ ?_
                  clear hK K
                  try simp only [Act.put, List.setIfInBounds_toArray, List.set_cons_zero, List.set_cons_succ]
                  have hT6 : Tri w6 w1.heap.size vR vB (.int .i64 p.C.length) 27 := (hgrow6.block w1.heap.size (lt_of_at hT5) (fun e => rows_box hO5 hT5 (by decide) e.symm)).trans hT5
                  have hX6 : Tri w6 w.heap.size (.slice (some ⟨b1, o1, none⟩) p.A.length c1) (.slice (some ⟨b2, o2, none⟩) p.B.length c2) (.slice c p.C.length c3) 38 := (hgrow6.block w.heap.size (lt_of_at hX5) (fun e => by have := (hO5.apart _ e.symm).1; have := lt_of_at HX1.out; omega)).trans hX5
                  have hI6 : OwnInts w1.heap.size w6 vB (Ta.startAt p k).basis := by
                    obtain ⟨vs, ho1, _⟩ := hO5
                    exact World.ownsRow.kept hI5 hgrow6 (by
                      cases hv : vB.ownBlock with
                      | none => exact .inl rfl
                      | some g => exact .inr fun e => own_apart hI5 ho1 (fun e => row_ne_int e.symm) g hv e.symm)
                  have hB6 := below_gr (B := w1.heap.size) hB5 hgrow6 hs4 (fun g hg => (hO5.apart g hg).1)
                  obtain ⟨y0, _, _, f0, _, _⟩ := hT6.cells
                  generalize hm6 : (Ta.startAt p (k + 1)).rows.length = m6 at *
                  refine wpAnyT_ready (rs := [15]) (by kernel_rfl) (by simp) ?_
                  refine (AllReadyT.last (o := { dst := some 82, op := Op.fieldAddr 27 (Operand.tmp 3) 0, type := 0, pos := "l06_tableau.go:22", after := #[{ on := 0, ground := Ground.phase }, { on := 1, ground := Ground.phase }, { on := 2, ground := Ground.phase }, { on := 3, ground := Ground.phase }, { on := 4, ground := Ground.phase }, { on := 5, ground := Ground.phase }, { on := 6, ground := Ground.phase }, { on := 7, ground := Ground.phase }, { on := 8, ground := Ground.phase }, { on := 9, ground := Ground.phase }, { on := 10, ground := Ground.phase }, { on := 11, ground := Ground.phase }, { on := 12, ground := Ground.phase }, { on := 13, ground := Ground.phase }, { on := 14, ground := Ground.phase }], guard := none }) (rs := []) rfl (by rfl) (fun K hK => ?_) AllReadyT.nil)
                  go_simp
                  refine hK.out _ _ ?_
                  clear hK K
                  try simp only [Act.put, List.setIfInBounds_toArray, List.set_cons_zero, List.set_cons_succ]
                  refine wpAnyT_ready (rs := [16]) (by kernel_rfl) (by simp) ?_
                  refine (AllReadyT.last (o := { dst := none, op := Op.store 24 (Operand.tmp 82) (Operand.tmp 81), type := 0, pos := "l06_tableau.go:22", after := #[{ on := 15, ground := Ground.data }, { on := 14, ground := Ground.data }, { on := 14, ground := Ground.chain }, { on := 0, ground := Ground.phase }, { on := 1, ground := Ground.phase }, { on := 2, ground := Ground.phase }, { on := 3, ground := Ground.phase }, { on := 4, ground := Ground.phase }, { on := 5, ground := Ground.phase }, { on := 6, ground := Ground.phase }, { on := 7, ground := Ground.phase }, { on := 8, ground := Ground.phase }, { on := 9, ground := Ground.phase }, { on := 10, ground := Ground.phase }, { on := 11, ground := Ground.phase }, { on := 12, ground := Ground.phase }, { on := 13, ground := Ground.phase }, { on := 14, ground := Ground.phase }], guard := none }) (rs := []) rfl (by rfl) (fun K hK => ?_) AllReadyT.nil)
                  go_simp
                  refine hK.out _ _ ?_
                  clear hK K
                  refine wpAnyT_done (by kernel_rfl) ?_ _
                  have hT7 := hT6.set0 (.slice a6 m6 c6)
                  have hR7 := rows_set (i := 0) (u := .slice a6 m6 c6) hown6 (rows_box hown6 hT6 (by decide)) (not_ty (tri_ty hT6) (by decide))
                  have hI7 : OwnInts w1.heap.size (w6.setCell ⟨w1.heap.size, 0, none⟩ (.slice a6 m6 c6)) vB (Ta.startAt p k).basis := owns_set hI6 (own_box hI6 hT6 (by decide))
                  have hB7 := hB6.setCell (p := ⟨w1.heap.size, 0, none⟩) (Nat.le_refl _) (.slice a6 m6 c6)
                  have hX7 := hX6.other (p := ⟨w1.heap.size, 0, none⟩) (show w1.heap.size ≠ w.heap.size by have := lt_of_at HX1.out; omega) (.slice a6 m6 c6)
                  have HT7 := Lib.hid hT7
                  have HR7 := Lib.hid hR7
                  have HI7 := Lib.hid hI7
                  have HB7 := Lib.hid hB7
                  have HX7 := Lib.hid hX7
                  clear hT7 hR7 hI7 hB7 hX7 hB6 hI6 hX6 hT6 y0 f0 hown6 hgrow6 hO5 hI5 hT5 hX5 hB5 hu5 hcu hs4 hlow hg5 hg4 hg3 hg2 hin2 hb2 hU3 hone hs2 Cell hg0 hin0 hw hub hun hgrow hown
                  generalize w6.setCell ⟨w1.heap.size, 0, none⟩ (.slice a6 m6 c6) = w7 at *
                  obtain ⟨y0, y1, y2, f0, f1, f2⟩ := HT7.out.cells
                  obtain ⟨x0, x1, x2, _⟩ := HX7.out.cells
                  have hs7 := HB7.out.size
                  have hone := one_num w7 ((p.C.length : Int) + (k : Int))
                  have hIa : OwnInts w1.heap.size (w7.alloc (.cells #[.int .i64 ((p.C.length : Int) + (k : Int))] 3)) vB (Ta.startAt p k).basis := HI7.out.below ((Below.refl _ _).alloc (Nat.le_refl _) _)
                  have hRa : OwnRM w1.heap.size (w7.alloc (.cells #[.int .i64 ((p.C.length : Int) + (k : Int))] 3)) (.slice a6 m6 c6) (Ta.startAt p (k + 1)).rows := HR7.out.below ((Below.refl _ _).alloc (Nat.le_refl _) _)
                  have hTa := HT7.out.more (.cells #[.int .i64 ((p.C.length : Int) + (k : Int))] 3)
                  have hBa := HB7.out.alloc hs7 (.cells #[.int .i64 ((p.C.length : Int) + (k : Int))] 3)
                  have HIa := Lib.hid hIa
                  have HRa := Lib.hid hRa
                  have HTa := Lib.hid hTa
                  have HBa := Lib.hid hBa
                  have Hone := Lib.hid hone
                  have hbl := Hbk2.out
                  clear hIa hRa hTa hBa hone
                  go_wp2_with (at_builtin; refine wpList_append_ints rfl _ _ rfl w1.heap.size _ (Ta.startAt p k).basis rfl HIa.out _ [(p.C.length : Int) + (k : Int)] 1 1 rfl rfl _ Hone.out (by simp; omega) (by rw [size1]; omega) ?_)
                  intro v8 w8 hown8 hgrow8
                  rw [show (Ta.startAt p k).basis ++ [(p.C.length : Int) + (k : Int)] = (Ta.startAt p (k + 1)).basis from (Ta.basis_succ p k).symm] at hown8
                  obtain ⟨a8, c8, rfl⟩ := ints_shape hown8
                  have hty8 : ∀ g, vB.ownBlock = some g → TyAt (w7.alloc (.cells #[.int .i64 ((p.C.length : Int) + (k : Int))] 3)) g 3 := fun g hg => owns_ty HIa.out hg
                  have hT8 : Tri w8 w1.heap.size (.slice a6 m6 c6) vB (.int .i64 p.C.length) 27 := (hgrow8.block w1.heap.size (lt_of_at HTa.out) (fun e => own_box HIa.out HTa.out (by decide) e.symm)).trans HTa.out
                  have hR8 := rows_grown HRa.out hgrow8 hty8
                  have hB8 := below_gr (B := w1.heap.size) HBa.out hgrow8 (by rw [size1]; omega) (fun g hg => (World.ownsRow.lt HIa.out g hg).1)
                  generalize hm8 : (Ta.startAt p (k + 1)).basis.length = m8 at *
                  obtain ⟨y0, y1, y2, f0, f1, f2⟩ := hT8.cells
                  have HT9 := Lib.hid (hT8.set1 (.slice a8 m8 c8))
                  have HR9 := Lib.hid (rows_set (i := 1) (u := .slice a8 m8 c8) hR8 (rows_box hR8 hT8 (by decide)) (not_ty (tri_ty hT8) (by decide)))
                  have HI9 : Hid (OwnInts w1.heap.size (w8.setCell ⟨w1.heap.size, 1, none⟩ (.slice a8 m8 c8)) (.slice a8 m8 c8) (Ta.startAt p (k + 1)).basis) := owns_set hown8 (own_box hown8 hT8 (by decide))
                  have HB9 := Lib.hid (hB8.setCell (p := ⟨w1.heap.size, 1, none⟩) (Nat.le_refl _) (.slice a8 m8 c8))
                  clear hT8 hR8 hB8 hown8 hgrow8 hty8 hm8 hm6 hrowk hbl
                  go_wp2_with fail
                  go_roundw
                  case rel => exact ⟨k + 1, _, _, by omega, by go_num, HT9, HR9, HI9, HB9⟩
                  case measure => simp [intOf]; omega
      · have he : k = p.A.length := by omega
        have hO6 : OwnRM w1.heap.size wr vR ST.rows := by have h := hR.out; rw [he, hE.out] at h; exact h
        have hI6 : OwnInts w1.heap.size wr vB ST.basis := by have h := hI.out; rw [he, hE.out] at h; exact h
        have hcols : ST.cols = (p.C.length : Int) := by rw [← hE.out]; rfl
        obtain ⟨av, cv, rfl⟩ := rows_shape hO6
        obtain ⟨ai, ci, rfl⟩ := ints_shape hI6
        obtain ⟨y0, y1, y2, _⟩ := hO.out.cells
        have hF := HR1.out.below (hB.out.mono (Nat.le_refl _))
        obtain ⟨z0, z1, z2, f0, f1, f2⟩ := hF.cells
        have HF := Lib.hid hF
        have HO6 := Lib.hid (hO6.raise (show w.heap.size ≤ w1.heap.size by omega))
        have HI6 := Lib.hid (hI6.raise2 (show w.heap.size ≤ w1.heap.size by omega))
        have Hcols := Lib.hid hcols
        have HBf := Lib.hid (HB1.out.trans (hB.out.mono (show w.heap.size ≤ w1.heap.size by omega)))
        clear he hO6 hI6 hcols hF hO hR hI hB x1 x2
        go_wp2_with fail
        refine bodyPost_ret (v := .agg #[.slice av ST.rows.length cv, .slice ai ST.basis.length ci, .int .i64 p.C.length]) (by
          obtain ⟨z0, z1, z2, _⟩ := (tri_over HF.out (.slice av ST.rows.length cv) (.slice ai ST.basis.length ci) (.int .i64 p.C.length)).cells
          revert z0 z1 z2
          generalize (World.setCell _ (⟨w.heap.size + 1, 2, none⟩ : Addr) (.int .i64 p.C.length)) = W4
          intro z0 z1 z2
          simp [results, Try.results20, go_sem, z0, z1, z2]) rfl ⟨_, rfl, ⟨_, _, by rw [Hcols.out], ?_, ?_⟩, low_over HBf.out (Nat.le_succ _) _ _ _⟩
        · have hb := rows_box HO6.out HF.out (by decide)
          have h1 := rows_set (i := 0) (u := .slice av ST.rows.length cv) HO6.out hb (not_ty (tri_ty HF.out) (by decide))
          have h2 := rows_set (i := 1) (u := .slice ai ST.basis.length ci) h1 hb (not_ty (tri_ty (HF.out.set0 _)) (by decide))
          exact rows_set (i := 2) (u := .int .i64 p.C.length) h2 hb (not_ty (tri_ty ((HF.out.set0 _).set1 _)) (by decide))
        · exact ints_over HI6.out (own_box HI6.out HF.out (by decide))
end Go.Proofs.Ytfbhnjdbamahkaa

/- impl.startRow. -/
namespace Go.Proofs.Ytfbhnjdbamahkaa
open Go.RowKit
open Ve (R)
open Ta (T)
open Lp (P)
/-- A list of which j numbers are negated. -/
def negTo (l : List Int) (j : Nat) : List Int := (l.take j).map (fun x => -x) ++ l.drop j
theorem negTo_zero (l : List Int) : negTo l 0 = l := by simp [negTo]
theorem negTo_len {l : List Int} {j : Nat} (h : j ≤ l.length) : (negTo l j).length = l.length := by simp [negTo]; omega
theorem negTo_at {l : List Int} {j : Nat} (h : j < l.length) : (negTo l j).getD j 0 = l.getD j 0 := by
  unfold negTo
  have hl : ((l.take j).map (fun x => -x)).length = j := by rw [List.length_map, List.length_take]; omega
  rw [List.getD_eq_getElem?_getD, List.getD_eq_getElem?_getD, List.getElem?_append_right (by omega), hl, List.getElem?_drop]
  simp
theorem negTo_next {l : List Int} {j : Nat} (h : j < l.length) : (negTo l j).set j (-(l.getD j 0)) = negTo l (j + 1) := by
  unfold negTo
  have hl : ((l.take j).map (fun x => -x)).length = j := by rw [List.length_map, List.length_take]; omega
  rw [List.set_append_right _ _ (by omega), hl, Nat.sub_self, List.drop_eq_getElem_cons h, List.set_cons_zero, List.take_add_one, List.map_append, List.getD_eq_getElem?_getD, List.getElem?_eq_getElem h, List.append_assoc]
  rfl
theorem negTo_all (l : List Int) : negTo l l.length = l.map (fun x => -x) := by simp [negTo]
/-- The numbers ahead of the sign, and with it. -/
def num0 (p : P) (k : Nat) : List Int := Lp.row p k ++ (Lp.zerosI p.A.length ++ [p.B.getD k 0])
def num1 (p : P) (k : Nat) : List Int := (Lp.row p k).map (fun x => Ta.sg p k * x) ++ (Lp.zerosI p.A.length ++ [Ta.sg p k * p.B.getD k 0])
theorem num_pos {p : P} {k : Nat} (h : ¬ p.B.getD k 0 < 0) : num0 p k = num1 p k := by
  have e : Ta.sg p k = 1 := by unfold Ta.sg; rw [if_neg h]
  unfold num0 num1
  rw [e]
  simp
theorem num_neg {p : P} {k : Nat} (h : p.B.getD k 0 < 0) : (num0 p k).map (fun x => -x) = num1 p k := by
  have e : Ta.sg p k = -1 := by unfold Ta.sg; rw [if_pos h]
  unfold num0 num1
  rw [e]
  simp [Lp.zerosI]
theorem num_set {p : P} {k : Nat} (h : (Lp.row p k).length = p.C.length) (hk : k < p.A.length) : (num1 p k).set (p.C.length + k) 1 = Ta.nums p k := by
  unfold num1 Ta.nums
  have hl : ((Lp.row p k).map (fun x => Ta.sg p k * x)).length = p.C.length := by rw [List.length_map, h]
  rw [List.set_append_right _ _ (by omega), hl, Nat.add_sub_cancel_left, List.set_append_left _ _ (by simp [Lp.zerosI]; exact hk)]
  congr 2
  refine List.ext_getElem? fun j => ?_
  by_cases hj : j < p.A.length
  · by_cases e : j = k
    · subst e
      rw [List.getElem?_set_self (by simp [Lp.zerosI]; exact hk)]
      simp [Ta.unitI, hj]
    · rw [List.getElem?_set_ne (fun e2 => e e2.symm)]
      simp [Ta.unitI, Lp.zerosI, hj, e]
  · rw [List.getElem?_eq_none (by simp [Lp.zerosI]; omega), List.getElem?_eq_none (by simp [Ta.unitI]; omega)]
theorem num0_small {p : P} (h : Lp.vldP p = true) {k : Nat} (hk : k < p.A.length) : ∀ z ∈ num0 p k, -5000 ≤ z ∧ z ≤ 5000 := by
  obtain ⟨h1, _, _, _, h5, _⟩ := Lp.vld_parts h
  have h2 := (Lp.rows_at h1 hk).2
  intro z hz
  unfold num0 at hz
  rw [List.mem_append, List.mem_append] at hz
  rcases hz with hz | hz | hz
  · exact Ta.small_mem h2 hz
  · unfold Lp.zerosI at hz
    obtain ⟨i, _, rfl⟩ := List.mem_map.1 hz
    omega
  · have : z = p.B.getD k 0 := by simpa using hz
    subst this
    exact Ta.small_get h5 k
theorem num0_len {p : P} {k : Nat} (h : (Lp.row p k).length = p.C.length) : (num0 p k).length = p.C.length + p.A.length + 1 := by simp [num0, Lp.zerosI, h]; omega
theorem num1_len {p : P} {k : Nat} (h : (Lp.row p k).length = p.C.length) : (num1 p k).length = p.C.length + p.A.length + 1 := by simp [num1, Lp.zerosI, h]; omega
set_option maxRecDepth 100000 in
set_option maxHeartbeats 4000000 in
theorem impl_startRow (B : Nat) (a b c : Option Addr) (c1 c2 c3 : Nat) (p : P) (hv : Lp.vldP p = true) (hcap : p.B.length ≤ c2) (k : Nat) (hk : k < p.A.length) (w : World) (hBw : B ≤ w.heap.size) (hz : LpIn B w a b c p) :
    Calls Try.prog 75 #[.agg #[.slice a p.A.length c1, .slice b p.B.length c2, .slice c p.C.length c3], .int .i64 k] w (MakesRats (Ta.startRow p k) w) := by
  have hb := ((Below.refl w.heap.size w).alloc (Nat.le_refl _) (.cells #[.slice a p.A.length c1, .slice b p.B.length c2, .slice c p.C.length c3] 38))
  have HZ := Lib.hid ((hz.mono hBw).below hb)
  have hx := Tri.new w (.slice a p.A.length c1) (.slice b p.B.length c2) (.slice c p.C.length c3) 38
  obtain ⟨v1, v2, v3, v4, v5, v6⟩ := Lp.vld_parts hv
  have hrl := (Lp.rows_at v1 hk).1
  have hsz := size1 w (.cells #[.slice a p.A.length c1, .slice b p.B.length c2, .slice c p.C.length c3] 38)
  obtain ⟨b1, o1, a1, k1, rfl, hl1, hrow, hnums⟩ := HZ.out.mA k hk
  obtain ⟨b2, o2, rfl, hl2, hbk⟩ := HZ.out.mB k (by omega)
  have hrw : rw_ p.A k = Lp.row p k := rfl
  rw [hrw] at hrow hnums
  rw [hrl] at hrow
  obtain ⟨x0, x1, x2, _⟩ := hx.cells
  have Hb := Lib.hid hb
  have Hx := Lib.hid hx
  have HNu := Lib.hid hnums
  have Hrl := Lib.hid hrl
  have HS0 := Lib.hid (num0_small hv hk)
  have HIr := Lib.hid (Ta.startRow_ir hv hk)
  have n1 : (k : Int) < (p.A.length : Int) := by omega
  have n2 : (k : Int) < (p.B.length : Int) := by omega
  have n3 : (k : Int) + 1 ≤ (c2 : Int) := by omega
  have n4 : (k : Int) ≤ (k : Int) + 1 := by omega
  have V4 := Lib.hid v4
  have Hrow := Lib.hid hrow
  have Hbk := Lib.hid hbk
  obtain ⟨i0, hi, hz0, hz1, hz2⟩ := info_parts info_int
  have HI := Lib.hid hi
  have HZ0 := Lib.hid hz0
  have HZ1 := Lib.hid hz1
  have HZ2 := Lib.hid hz2
  clear hz hb hx hrl hnums hrw v1 v4 v5 v6 hv hi hz0 hz1 hz2
  go_enter Try.func75, Try.ntmps75
  go_upto_region 1 with fail
  generalize w.alloc (.cells #[.slice (some ⟨b1, o1, none⟩) p.A.length c1, .slice (some ⟨b2, o2, none⟩) p.B.length c2, .slice c p.C.length c3] 38) = W at *
  have hxl := lt_of_at Hx.out
  have Cell := Lib.hid (fun w' (h : Since W w') => (show w'.cell? ⟨w.heap.size, 0, none⟩ = some (.slice (some ⟨b1, o1, none⟩) p.A.length c1) ∧ w'.cell? ⟨w.heap.size, 1, none⟩ = some (.slice (some ⟨b2, o2, none⟩) p.B.length c2) ∧ w'.cell? ⟨b1, o1 + k, none⟩ = some (.slice a1 p.C.length k1) ∧ Since W w' from
    ⟨h.cell (p := ⟨w.heap.size, 0, none⟩) hxl x0, h.cell (p := ⟨w.heap.size, 1, none⟩) hxl x1, h.cell (p := ⟨b1, o1 + k, none⟩) (show b1 < W.heap.size by omega) hrow, h⟩))
  have hin0 := (Since.refl W).drew
  clear x0 x1 x2 hrow hbk
  go_cut [5] (fun v wx => ∃ (av : Option Addr) (cv : Nat), v = .slice av (p.C.length + p.A.length + 1) cv ∧ Hid (OwnInts W.heap.size wx v (num0 p k)) ∧ Hid (Since W wx))
  case first =>
    have hck : (c2 = k) = False := eq_false (by omega)
    have hw : IntKind.i64.wrap ((k : Int) + 1) = (k : Int) + 1 := IntWalk.i64_in _ (by omega)
    refine wp_region_held_drew (S := fun w' => w'.cell? ⟨w.heap.size, 0, none⟩ = some (.slice (some ⟨b1, o1, none⟩) p.A.length c1) ∧ w'.cell? ⟨w.heap.size, 1, none⟩ = some (.slice (some ⟨b2, o2, none⟩) p.B.length c2) ∧ w'.cell? ⟨b1, o1 + k, none⟩ = some (.slice a1 p.C.length k1) ∧ Since W w') (by kernel_rfl) ?_ (fun hHeld => ?_)
    · exact Cell.out _ hin0
    refine wpAnyH_take (i := 0) (oi := { dst := some 10, op := Op.fieldAddr 38 (Operand.tmp 2) 0, type := 0, pos := "l06_tableau.go:28", after := #[], guard := none }) (v := ?_) rfl (by kernel_rfl) (by kernel_rfl) (by kernel_rfl) (fun _ _ _ h => h) (Or.inl ⟨by rfl, ?_⟩) (by assumption) ?_
    rotate_left 1
    · intro w hSw; (try dsimp only at hSw); go_simp; try (with_reducible rfl)
    try simp only [Act.put, List.setIfInBounds_toArray, List.set_cons_zero, List.set_cons_succ]
    refine wpAnyH_take (i := 1) (oi := { dst := some 11, op := Op.load 36 (Operand.tmp 10), type := 36, pos := "l06_tableau.go:28", after := #[{ on := 0, ground := Ground.data }], guard := none }) (v := ?_) rfl (by kernel_rfl) (by kernel_rfl) (by kernel_rfl) (fun _ _ _ h => h) (Or.inl ⟨by rfl, ?_⟩) (by assumption) ?_
    rotate_left 1
    · intro w hSw; (try dsimp only at hSw); go_simp; try (with_reducible rfl)
    try simp only [Act.put, List.setIfInBounds_toArray, List.set_cons_zero, List.set_cons_succ]
    refine wpAnyH_take (i := 2) (oi := { dst := some 12, op := Op.move (Operand.tmp 1), type := 3, pos := "l06_tableau.go:28", after := #[], guard := none }) (v := ?_) rfl (by kernel_rfl) (by kernel_rfl) (by kernel_rfl) (fun _ _ _ h => h) (Or.inl ⟨by rfl, ?_⟩) (by assumption) ?_
    rotate_left 1
    · intro w hSw; (try dsimp only at hSw); go_simp; try (with_reducible rfl)
    try simp only [Act.put, List.setIfInBounds_toArray, List.set_cons_zero, List.set_cons_succ]
    refine wpAnyH_take (i := 3) (oi := { dst := some 13, op := Op.indexAddr 36 (Operand.tmp 11) (Operand.tmp 12), type := 0, pos := "l06_tableau.go:28", after := #[{ on := 1, ground := Ground.data }, { on := 2, ground := Ground.data }], guard := none }) (v := ?_) rfl (by kernel_rfl) (by kernel_rfl) (by kernel_rfl) (fun _ _ _ h => h) (Or.inl ⟨by rfl, ?_⟩) (by assumption) ?_
    rotate_left 1
    · intro w hSw; (try dsimp only at hSw); go_simp; try (with_reducible rfl)
    try simp only [Act.put, List.setIfInBounds_toArray, List.set_cons_zero, List.set_cons_succ]
    refine wpAnyH_take (i := 4) (oi := { dst := some 14, op := Op.load 25 (Operand.tmp 13), type := 25, pos := "l06_tableau.go:28", after := #[{ on := 3, ground := Ground.data }], guard := none }) (v := ?_) rfl (by kernel_rfl) (by kernel_rfl) (by kernel_rfl) (fun _ _ _ h => h) (Or.inl ⟨by rfl, ?_⟩) (by assumption) ?_
    rotate_left 1
    · intro w hSw; (try dsimp only at hSw); go_simp; try (with_reducible rfl)
    try simp only [Act.put, List.setIfInBounds_toArray, List.set_cons_zero, List.set_cons_succ]
    refine wpAnyH_take (i := 5) (oi := { dst := some 15, op := Op.fieldAddr 38 (Operand.tmp 2) 0, type := 0, pos := "l06_tableau.go:28", after := #[], guard := none }) (v := ?_) rfl (by kernel_rfl) (by kernel_rfl) (by kernel_rfl) (fun _ _ _ h => h) (Or.inl ⟨by rfl, ?_⟩) (by assumption) ?_
    rotate_left 1
    · intro w hSw; (try dsimp only at hSw); go_simp; try (with_reducible rfl)
    try simp only [Act.put, List.setIfInBounds_toArray, List.set_cons_zero, List.set_cons_succ]
    refine wpAnyH_take (i := 6) (oi := { dst := some 16, op := Op.load 36 (Operand.tmp 15), type := 36, pos := "l06_tableau.go:28", after := #[{ on := 5, ground := Ground.data }], guard := none }) (v := ?_) rfl (by kernel_rfl) (by kernel_rfl) (by kernel_rfl) (fun _ _ _ h => h) (Or.inl ⟨by rfl, ?_⟩) (by assumption) ?_
    rotate_left 1
    · intro w hSw; (try dsimp only at hSw); go_simp; try (with_reducible rfl)
    try simp only [Act.put, List.setIfInBounds_toArray, List.set_cons_zero, List.set_cons_succ]
    refine wpAnyH_take (i := 7) (oi := { dst := some 17, op := Op.call { callee := Callee.builtin Builtin.len, args := #[Operand.tmp 16], argTypes := #[36] }, type := 3, pos := "l06_tableau.go:28", after := #[{ on := 6, ground := Ground.data }], guard := none }) (v := ?_) rfl (by kernel_rfl) (by kernel_rfl) (by kernel_rfl) (fun _ _ _ h => h) (Or.inl ⟨by rfl, ?_⟩) (by assumption) ?_
    rotate_left 1
    · intro w hSw; (try dsimp only at hSw); go_simp; try (with_reducible rfl)
    try simp only [Act.put, List.setIfInBounds_toArray, List.set_cons_zero, List.set_cons_succ]
    refine wpAnyH_take (i := 9) (oi := { dst := some 19, op := Op.fieldAddr 38 (Operand.tmp 2) 1, type := 0, pos := "l06_tableau.go:28", after := #[], guard := none }) (v := ?_) rfl (by kernel_rfl) (by kernel_rfl) (by kernel_rfl) (fun _ _ _ h => h) (Or.inl ⟨by rfl, ?_⟩) (by assumption) ?_
    rotate_left 1
    · intro w hSw; (try dsimp only at hSw); go_simp; try (with_reducible rfl)
    try simp only [Act.put, List.setIfInBounds_toArray, List.set_cons_zero, List.set_cons_succ]
    refine wpAnyH_take (i := 10) (oi := { dst := some 20, op := Op.load 25 (Operand.tmp 19), type := 25, pos := "l06_tableau.go:28", after := #[{ on := 9, ground := Ground.data }], guard := none }) (v := ?_) rfl (by kernel_rfl) (by kernel_rfl) (by kernel_rfl) (fun _ _ _ h => h) (Or.inl ⟨by rfl, ?_⟩) (by assumption) ?_
    rotate_left 1
    · intro w hSw; (try dsimp only at hSw); go_simp; try (with_reducible rfl)
    try simp only [Act.put, List.setIfInBounds_toArray, List.set_cons_zero, List.set_cons_succ]
    refine wpAnyH_take (i := 11) (oi := { dst := some 21, op := Op.move (Operand.tmp 1), type := 3, pos := "l06_tableau.go:28", after := #[], guard := none }) (v := ?_) rfl (by kernel_rfl) (by kernel_rfl) (by kernel_rfl) (fun _ _ _ h => h) (Or.inl ⟨by rfl, ?_⟩) (by assumption) ?_
    rotate_left 1
    · intro w hSw; (try dsimp only at hSw); go_simp; try (with_reducible rfl)
    try simp only [Act.put, List.setIfInBounds_toArray, List.set_cons_zero, List.set_cons_succ]
    refine wpAnyH_take (i := 12) (oi := { dst := some 22, op := Op.move (Operand.tmp 1), type := 3, pos := "l06_tableau.go:28", after := #[], guard := none }) (v := ?_) rfl (by kernel_rfl) (by kernel_rfl) (by kernel_rfl) (fun _ _ _ h => h) (Or.inl ⟨by rfl, ?_⟩) (by assumption) ?_
    rotate_left 1
    · intro w hSw; (try dsimp only at hSw); go_simp; try (with_reducible rfl)
    try simp only [Act.put, List.setIfInBounds_toArray, List.set_cons_zero, List.set_cons_succ]
    refine wpAnyH_take (i := 13) (oi := { dst := some 23, op := Op.binOp BinOp.add 3 (Operand.tmp 22) (Operand.const (Value.int IntKind.i64 1)) 3, type := 3, pos := "l06_tableau.go:28", after := #[{ on := 12, ground := Ground.data }], guard := none }) (v := ?_) rfl (by kernel_rfl) (by kernel_rfl) (by kernel_rfl) (fun _ _ _ h => h) (Or.inl ⟨by rfl, ?_⟩) (by assumption) ?_
    rotate_left 1
    · intro w hSw; (try dsimp only at hSw); go_simp; try (with_reducible rfl)
    try simp only [Act.put, List.setIfInBounds_toArray, List.set_cons_zero, List.set_cons_succ]
    refine wpAnyH_take (i := 14) (oi := { dst := some 24, op := Op.slice 25 (Operand.tmp 20) (some (Operand.tmp 21)) (some (Operand.tmp 23)) none, type := 25, pos := "l06_tableau.go:28", after := #[{ on := 10, ground := Ground.data }, { on := 11, ground := Ground.data }, { on := 13, ground := Ground.data }], guard := none }) (v := ?_) rfl (by kernel_rfl) (by kernel_rfl) (by kernel_rfl) (fun _ _ _ h => h) (Or.inl ⟨by rfl, ?_⟩) (by assumption) ?_
    rotate_left 1
    · intro w hSw; (try dsimp only at hSw); go_simp; try (with_reducible rfl)
    try simp only [Act.put, List.setIfInBounds_toArray, List.set_cons_zero, List.set_cons_succ]
    refine wpAnyH_ready (rs := [8]) (by kernel_rfl) (by simp) ?_
    refine AllReadyH.cons (o := { dst := some 18, op := Op.makeSlice 25 (Operand.tmp 17) (Operand.tmp 17), type := 25, pos := "l06_tableau.go:28", after := #[{ on := 7, ground := Ground.data }, { on := 7, ground := Ground.data }], guard := none }) (rs := []) rfl (fun K hK => ?_) AllReadyH.nil
    (refine step_make_full (by kernel_rfl) (.tmp 17) (.tmp 17) 25 rfl _ 3 i0 (.int .i64 0) 1 Try.underlying25 HI.out HZ0.out HZ1.out rfl .i64 .i64 _ _ p.A.length rfl rfl rfl rfl (by rw [HZ2.out]; omega) (by unfold maxLen; omega) (Nat.le_refl _) ?_; intro w9 hown hgrow; have hin9 := hin0.trans (below_made hgrow); have ho9 := zeros_own hown; obtain ⟨zb, zc, hzv, hzr, hza, _⟩ := own_reads ho9; obtain ⟨rfl, rfl⟩ := slice_inj hzv; have hzn := NumsIn.of_ints (B := w9.heap.size) hzr fun q hq => (hza q hq).2; clear hown hgrow ho9 hzr hza hzv)
    refine hK.out _ _ ?_ (fun hHeld => ?_)
    · exact Cell.out _ hin9
    clear hK K
    try simp only [Act.put, List.setIfInBounds_toArray, List.set_cons_zero, List.set_cons_succ]
    have hzn2 : NumsIn w9.heap.size w9 (some ⟨w.heap.size + 1, 0, none⟩) (Lp.zerosI p.A.length) := by rw [← hsz]; exact hzn
    have hal := (Below.refl w9.heap.size w9).alloc (Nat.le_refl _) (.cells #[.slice a1 p.C.length k1, .slice (some ⟨w.heap.size + 1, 0, none⟩) p.A.length p.A.length, .slice (some ⟨b2, o2 + k, none⟩) 1 (c2 - k)] 25)
    have hin10 := hin9.alloc (.cells #[.slice a1 p.C.length k1, .slice (some ⟨w.heap.size + 1, 0, none⟩) p.A.length p.A.length, .slice (some ⟨b2, o2 + k, none⟩) 1 (c2 - k)] 25)
    have hnc := CellsAt.new w9 #[.slice a1 p.C.length k1, .slice (some ⟨w.heap.size + 1, 0, none⟩) p.A.length p.A.length, .slice (some ⟨b2, o2 + k, none⟩) 1 (c2 - k)] 25
    have hl10 := lt_of_at hnc
    have hWs : W.heap.size ≤ w9.heap.size := hin9.low.size
    have hwW : w.heap.size < W.heap.size := hxl
    have hr10 := (HNu.out.below (hin10.low.mono (by omega))).mono (show w.heap.size ≤ (w9.alloc (.cells #[.slice a1 p.C.length k1, .slice (some ⟨w.heap.size + 1, 0, none⟩) p.A.length p.A.length, .slice (some ⟨b2, o2 + k, none⟩) 1 (c2 - k)] 25)).heap.size by omega)
    have hz10 := (hzn2.below hal).mono (show w9.heap.size ≤ (w9.alloc (.cells #[.slice a1 p.C.length k1, .slice (some ⟨w.heap.size + 1, 0, none⟩) p.A.length p.A.length, .slice (some ⟨b2, o2 + k, none⟩) 1 (c2 - k)] 25)).heap.size by omega)
    have hb10 := hin10.cell (p := ⟨b2, o2 + k, none⟩) (show b2 < W.heap.size by omega) Hbk.out
    have hM : MatIn (w9.alloc (.cells #[.slice a1 p.C.length k1, .slice (some ⟨w.heap.size + 1, 0, none⟩) p.A.length p.A.length, .slice (some ⟨b2, o2 + k, none⟩) 1 (c2 - k)] 25)).heap.size (w9.alloc (.cells #[.slice a1 p.C.length k1, .slice (some ⟨w.heap.size + 1, 0, none⟩) p.A.length p.A.length, .slice (some ⟨b2, o2 + k, none⟩) 1 (c2 - k)] 25)) (some ⟨w9.heap.size, 0, none⟩) [Lp.row p k, Lp.zerosI p.A.length, [p.B.getD k 0]] := fun j hj => by
      match j, hj with
      | 0, _ => exact ⟨w9.heap.size, 0, a1, k1, rfl, hl10, by rw [show (rw_ [Lp.row p k, Lp.zerosI p.A.length, [p.B.getD k 0]] 0).length = p.C.length from Hrl.out]; exact hnc.cell 0, hr10⟩
      | 1, _ => exact ⟨w9.heap.size, 0, _, p.A.length, rfl, hl10, by rw [show (rw_ [Lp.row p k, Lp.zerosI p.A.length, [p.B.getD k 0]] 1).length = p.A.length from zerosI_len p.A.length]; exact hnc.cell 1, hz10⟩
      | 2, _ => exact ⟨w9.heap.size, 0, _, c2 - k, rfl, hl10, hnc.cell 2, fun i hi => by
          match i, hi with
          | 0, _ => exact ⟨b2, o2 + k, rfl, by omega, hb10⟩⟩
    have hCc := concat_ints _ _ 3 [Lp.row p k, Lp.zerosI p.A.length, [p.B.getD k 0]] (by simp) (by simp only [cellsOf, Hrl.out, zerosI_len, List.length_cons, List.length_nil]; omega) _ (Nat.le_refl _) hM
    rw [show [Lp.row p k, Lp.zerosI p.A.length, [p.B.getD k 0]].flatten = num0 p k by simp [num0]] at hCc
    refine wpAnyH_ready (rs := [15]) (by kernel_rfl) (by simp) ?_
    refine AllReadyH.cons (o := { dst := some 25, op := Op.buildSlice 36 3 #[(0, Operand.tmp 14), (1, Operand.tmp 18), (2, Operand.tmp 24)], type := 36, pos := "l06_tableau.go:28", after := #[{ on := 4, ground := Ground.data }, { on := 8, ground := Ground.data }, { on := 14, ground := Ground.data }], guard := none }) (rs := []) rfl (fun K hK => ?_) AllReadyH.nil
    go_simp
    skip
    refine hK.out _ _ ?_ (fun hHeld => ?_)
    · exact Cell.out _ hin10
    clear hK K
    try simp only [Act.put, List.setIfInBounds_toArray, List.set_cons_zero, List.set_cons_succ]
    refine wpAnyH_ready (rs := [16]) (by kernel_rfl) (by simp) ?_
    refine AllReadyH.cons (o := { dst := some 26, op := Op.call { callee := Callee.value (Operand.func 119), args := #[Operand.tmp 25], argTypes := #[36] }, type := 25, pos := "l06_tableau.go:28", after := #[{ on := 15, ground := Ground.data }], guard := none }) (rs := []) rfl (fun K hK => ?_) AllReadyH.nil
    go_simp
    (go_at_call 119; refine hCc.mono ?_; rintro e w11 ⟨v, rfl, hv, hb11⟩; have hin11 := hin10.trans hb11)
    refine hK.out _ _ ?_ (fun hHeld => ?_)
    · exact Cell.out _ hin11
    clear hK K
    try simp only [Act.put, List.setIfInBounds_toArray, List.set_cons_zero, List.set_cons_succ]
    refine wpAnyH_take (i := 17) (oi := { dst := some 5, op := Op.assign (Operand.tmp 26), type := 25, pos := "l06_tableau.go:28", after := #[{ on := 16, ground := Ground.data }, { on := 16, ground := Ground.chain }, { on := 0, ground := Ground.phase }, { on := 1, ground := Ground.phase }, { on := 2, ground := Ground.phase }, { on := 3, ground := Ground.phase }, { on := 4, ground := Ground.phase }, { on := 5, ground := Ground.phase }, { on := 6, ground := Ground.phase }, { on := 7, ground := Ground.phase }, { on := 8, ground := Ground.phase }, { on := 9, ground := Ground.phase }, { on := 10, ground := Ground.phase }, { on := 11, ground := Ground.phase }, { on := 12, ground := Ground.phase }, { on := 13, ground := Ground.phase }, { on := 14, ground := Ground.phase }, { on := 15, ground := Ground.phase }, { on := 16, ground := Ground.phase }], guard := none }) (v := ?_) rfl (by kernel_rfl) (by kernel_rfl) (by kernel_rfl) (fun _ _ _ h => h) (Or.inl ⟨by rfl, ?_⟩) (by assumption) ?_
    rotate_left 1
    · intro w hSw; (try dsimp only at hSw); go_simp; try (with_reducible rfl)
    try simp only [Act.put, List.setIfInBounds_toArray, List.set_cons_zero, List.set_cons_succ]
    refine wpAnyH_done (by kernel_rfl) ?_ _
    obtain ⟨av, cv, rfl⟩ := ints_shape hv
    rw [num0_len Hrl.out] at hv ⊢
    go_wp2_with fail
    go_meet
    exact ⟨av, cv, rfl, hv.raise2 (by omega), hin11⟩
  case rest =>
    obtain ⟨wf, rfl⟩ : ∃ q : World, q = wc := ⟨_, rfl⟩
    obtain ⟨av, cv, rfl, hN, hS⟩ := hcut
    obtain ⟨x0, x1, x2, _⟩ := (Hx.out.below hS.out.low).cells
    have hbz := hS.out.cell (p := ⟨b2, o2 + k, none⟩) (show b2 < W.heap.size by omega) Hbk.out
    clear Cell hin0
    have HZz : Hid (∀ h : p.B.getD k 0 < 0, (num0 p k).map (fun x => -x) = num1 p k) := fun h => num_neg h
    have HZp : Hid (∀ h : ¬ p.B.getD k 0 < 0, num0 p k = num1 p k) := fun h => num_pos h
    have hbd := HS0.out (p.B.getD k 0) (by unfold num0; simp)
    generalize p.B.getD k 0 = z at *
    have HLen := Lib.hid (num0_len Hrl.out)
    have HGet : Hid (∀ j, -5000 ≤ (num0 p k).getD j 0 ∧ (num0 p k).getD j 0 ≤ 5000) := fun j => by
      rcases Nat.lt_or_ge j (num0 p k).length with hj | hj
      · have h := HS0.out _ (List.getElem_mem hj)
        rw [List.getD_eq_getElem?_getD, List.getElem?_eq_getElem hj]
        exact h
      · rw [List.getD_eq_getElem?_getD, List.getElem?_eq_none hj]; simp
    have HSf := Lib.hid hS.out
    obtain ⟨N, hNN⟩ : ∃ N : Nat, p.C.length + p.A.length + 1 = N := ⟨_, rfl⟩
    have hNb : N ≤ 79 := by omega
    rw [hNN] at hN HLen ⊢
    have HNN := Lib.hid hNN
    clear hNN
    go_upto_if 32 with fail
    go_cut [5] (fun v wx => v = .slice av N cv ∧ Hid (OwnInts W.heap.size wx (.slice av N cv) (num1 p k)) ∧ Hid (Since W wx))
    case first =>
      by_cases hneg : z < 0
      · have hd : decide (z < 0) = true := by rw [decide_eq_true_iff]; exact hneg
        have Hn1 := Lib.hid (HZz.out hneg)
        have hN0 : Hid (OwnInts W.heap.size wf (.slice av N cv) (negTo (num0 p k) 0)) := by rw [negTo_zero]; exact hN
        clear HZz HZp hN
        go_wp2_with fail
        go_loopw [6, 7, 35] (fun _ _ i wr => ∃ j : Nat, j ≤ N ∧ i = .int .i64 j ∧ Hid (OwnInts W.heap.size wr (.slice av N cv) (negTo (num0 p k) j)) ∧ Hid (Since W wr)) (fun _ _ i _ => N - (intOf i).toNat)
        case atStart => exact ⟨0, Nat.zero_le _, rfl, hN0, HSf⟩
        case round =>
          clear hN0 x0 x1 x2 hbz
          obtain ⟨j, hj, rfl, hO, hSr⟩ := hrel
          by_cases hjt : j < N
          · have hjl : j < (num0 p k).length := by have := HLen.out; omega
            have hll := negTo_len (l := num0 p k) (j := j) (by omega)
            obtain ⟨g, rfl, hg1, hg2, _, f0⟩ := ints_spot hO.out (j := j) (by omega)
            obtain ⟨a', c', e, hrd, hpa, _⟩ := own_reads hO.out
            injection e with e1 e2 e3
            subst e1
            obtain ⟨b', o', e4, _, hcell⟩ := (NumsIn.of_ints (B := wr.heap.size) hrd fun q hq => (hpa q hq).2) j (by omega)
            simp only [Option.some.injEq, Addr.mk.injEq] at e4
            obtain ⟨rfl, rfl, _⟩ := e4
            rw [negTo_at hjl, Nat.zero_add] at hcell
            have hgb := HGet.out j
            have hput : Hid (OwnInts W.heap.size (wr.setCell ⟨g, j, none⟩ (.int .i64 (-((num0 p k).getD j 0)))) (.slice (some ⟨g, 0, none⟩) N cv) (negTo (num0 p k) (j + 1))) := by
              have h := ints_put (j := j) (x := -((num0 p k).getD j 0)) hO.out e2
              rw [negTo_next hjl] at h
              exact h
            have hS2 : Hid (Since W (wr.setCell ⟨g, j, none⟩ (.int .i64 (-((num0 p k).getD j 0))))) := hSr.out.setCell (p := ⟨g, j, none⟩) hg1 _
            generalize (num0 p k).getD j 0 = x at *
            have hwn : IntKind.i64.wrap (-x) = -x := IntWalk.i64_in _ (by omega)
            have n9 : (j : Int) < (N : Int) := by omega
            clear e2 e3 hll hrd hpa hjl hO hSr
            go_wp2_with fail
            go_roundw
            case rel => exact ⟨j + 1, by omega, by go_num, hput, hS2⟩
            case measure => simp [intOf]; omega
          · have hje : j = (num0 p k).length := by have := HLen.out; omega
            have hfin : Hid (OwnInts W.heap.size wr (.slice av N cv) (num1 p k)) := by
              have h := hO.out
              rw [hje, negTo_all, Hn1.out] at h
              exact h
            clear hje
            go_wp2_with fail
            go_meet
            exact ⟨rfl, hfin, hSr⟩
      · have hd : decide (z < 0) = false := by rw [decide_eq_false_iff_not]; exact hneg
        have hfin : Hid (OwnInts W.heap.size wf (.slice av N cv) (num1 p k)) := by rw [← HZp.out hneg]; exact hN.out
        clear HZz HZp
        go_wp2_with fail
        go_meet
        exact ⟨rfl, hfin, HSf⟩
    case rest =>
      obtain ⟨wg, rfl⟩ : ∃ q : World, q = wc := ⟨_, rfl⟩
      obtain ⟨rfl, hN1, hS1⟩ := hcut
      clear x0 x1 x2 hbz hN HZz HZp hS HSf
      obtain ⟨x0, x1, x2, _⟩ := (Hx.out.below hS1.out.low).cells
      have hlen1 : (num1 p k).length = N := by rw [num1_len Hrl.out]; exact HNN.out
      have hidx : p.C.length + k < N := by have := HNN.out; omega
      obtain ⟨g, rfl, hg1, hg2, ⟨v0, s0⟩, f0⟩ := ints_spot hN1.out (j := p.C.length + k) (by omega)
      have hputs : Hid (OwnInts W.heap.size (wg.setCell ⟨g, p.C.length + k, none⟩ (.int .i64 1)) (.slice (some ⟨g, 0, none⟩) N cv) (Ta.nums p k)) := by
        have h := ints_put (j := p.C.length + k) (x := 1) hN1.out hlen1.symm
        rw [num_set Hrl.out hk] at h
        exact h
      have hS2 := Lib.hid (hS1.out.setCell (p := ⟨g, p.C.length + k, none⟩) hg1 (.int .i64 1))
      have n10 : (p.C.length : Int) + (k : Int) < (N : Int) := by omega
      have hlen2 : N = (Ta.nums p k).length := by
        obtain ⟨_, _, e, _⟩ := own_reads hputs.out
        injection e
      have hrd2 : NumsIn (wg.setCell ⟨g, p.C.length + k, none⟩ (.int .i64 1)).heap.size (wg.setCell ⟨g, p.C.length + k, none⟩ (.int .i64 1)) (some ⟨g, 0, none⟩) (Ta.nums p k) := by
        obtain ⟨a', c', e, hrd, hpa, _⟩ := own_reads hputs.out
        injection e with e1 e2 e3
        subst e1
        exact NumsIn.of_ints hrd fun q hq => (hpa q hq).2
      have HIt := Lib.hid (impl_IntsToRats _ (some ⟨g, 0, none⟩) cv (Ta.nums p k) (by omega) (wg.setCell ⟨g, p.C.length + k, none⟩ (.int .i64 1)) (Nat.le_refl _) hrd2)
      rw [← hlen2] at HIt
      have Hl2 := Lib.hid hlen2
      clear hlen1 hlen2 hrd2 hputs hN1
      go_wp2_with fail
      refine HIt.out.mono ?_
      rintro e w12 ⟨v, rfl, hv, hb12⟩
      have hF : Hid (OwnRats w.heap.size w12 v (Ta.startRow p k)) := by
        have h := hv
        rw [Hl2.out, show Ve.outR (Ve.ofI (Ta.nums p k)) (Ta.nums p k).length = Lp.ir (Ta.nums p k) from rfl, HIr.out.2] at h
        exact h.raise (by have := hS2.out.low.size; omega)
      have hB := Lib.hid (Hb.out.trans ((hS2.out.trans hb12).low.mono (by omega)))
      clear hv hb12
      go_wp2_with fail
      go_ret
      exact ⟨_, rfl, hF.out, hB.out⟩
end Go.Proofs.Ytfbhnjdbamahkaa

/- impl.StartTableau. -/
namespace Go.Proofs.Ytfbhnjdbamahkaa
open Go.RowKit
open Ve (R)
open Ta (T)
open Lp (P)
/-- A row made since, appended. -/
theorem OwnRX.snoc {B : Nat} {w0 w w' : World} {v v' u : Value} {vs : List Value} {L : List (List R)} {x : List R} (k1 : w0.ownsRow B 35 1 v L.length vs) (k2 : RowsX B w0 vs L) (hb : Below w0.heap.size w0 w) (hl : B ≤ w0.heap.size) (hu : OwnRats w0.heap.size w u x)
    (hown : w'.ownsRow B 35 1 v' (L.length + 1) (vs ++ [u])) (hg : w.grownBy w' v.ownBlock) : OwnRX B w' v' (L ++ [x]) := by
  have hlv : vs.length = L.length := by have := k1.1; omega
  have h1 : w.ownsRow B 35 1 v L.length vs := owns_same k1 fun g hg => hb.block g (World.ownsRow.lt k1 g hg).2
  have keep : ∀ (B' : Nat) (u' : Value) (xs : List R), OwnRats B' w u' xs → OwnRats B' w' u' xs := fun B' u' xs ho =>
    World.ownsRow.kept ho hg (by
      cases hv : u'.ownBlock with
      | none => exact .inl rfl
      | some g => exact .inr fun e => own_apart ho h1 rat_ne_row g hv e.symm)
  have old : ∀ (i : Nat) (v : Value), i < L.length → vs[i]? = some v → ∀ b, v.ownBlock = some b → b < w0.heap.size := fun i v hi e b hb => by
    obtain ⟨u', e1, ho⟩ := k2.own i hi
    rw [e1] at e
    obtain rfl := Option.some.inj e
    exact (World.ownsRow.lt ho b hb).2
  have new : ∀ b, u.ownBlock = some b → w0.heap.size ≤ b := fun b hb => (World.ownsRow.lt hu b hb).1
  refine ⟨vs ++ [u], by simpa using hown, fun j hj => ?_, fun i j u1 u2 hi hj hij e1 e2 b hb1 hb2 => ?_⟩
  · by_cases e : j = L.length
    · subst e
      refine ⟨u, by rw [List.getElem?_append_right (by omega), hlv]; simp, ?_⟩
      rw [rr_of (show (L ++ [x])[L.length]? = some x by simp)]
      exact (keep _ u x hu).raise hl
    · have hj' : j < L.length := by simp at hj; omega
      obtain ⟨u', e1, ho⟩ := k2.own j hj'
      refine ⟨u', by rw [List.getElem?_append_left (by omega)]; exact e1, ?_⟩
      rw [rr_of (show (L ++ [x])[j]? = some (rr L j) by rw [List.getElem?_append_left hj']; exact rr_get hj')]
      exact keep _ u' _ (ho.below hb)
  · simp only [List.length_append, List.length_cons, List.length_nil] at hi hj
    have gl : ∀ (i : Nat) (u1 : Value), i < L.length → (vs ++ [u])[i]? = some u1 → vs[i]? = some u1 := fun i u1 hi e => by rwa [List.getElem?_append_left (by omega)] at e
    have gr : ∀ (i : Nat) (u1 : Value), i = L.length → (vs ++ [u])[i]? = some u1 → u = u1 := fun i u1 hi e => by
      rw [List.getElem?_append_right (by omega), hi, hlv] at e
      simpa using e
    by_cases ei : i = L.length
    · obtain rfl := gr i u1 ei e1
      have := old j u2 (by omega) (gl j u2 (by omega) e2) b hb2
      have := new b hb1
      omega
    · have e1' := gl i u1 (by omega) e1
      by_cases ej : j = L.length
      · obtain rfl := gr j u2 ej e2
        have := old i u1 (by omega) e1' b hb1
        have := new b hb2
        omega
      · exact k2.apart i j u1 u2 (by omega) (by omega) hij e1' (gl j u2 (by omega) e2) b hb1 hb2
/-- 'append(rows, row)', a row made since, as a step. -/
theorem step_append_rowX {w0 w : World} {ops : Array Oper} {o : Oper} {a : Act} {K : Act → World → Prop} {Q : Exit → Act → World → Prop} {E : Prop} (hgd : o.guard = none) (s x : Operand)
    (hop : o.op = Op.call { callee := Callee.builtin Builtin.append, args := #[s, x], argTypes := #[24, 24] }) (B : Nat) (v : Value) (L : List (List R)) (hs : a.eval s = v) (hown : OwnRX B w0 v L) (hb : Below w0.heap.size w0 w) (hl : B ≤ w0.heap.size) (q : Nat) (u : Value) (r : List R) (hx : a.eval x = .slice (some ⟨q, 0, none⟩) 1 1)
    (hq : w.cell? ⟨q, 0, none⟩ = some u) (hu : OwnRats w0.heap.size w u r) (hlen : L.length ≤ 4000000) (hK : ∀ v' w', OwnRX B w' v' (L ++ [r]) → w.grownBy w' v.ownBlock → K (a.put o.dst v') w') : if Region.wanted o (yielded ops a.tmps) = true then Oper.wp Try.prog o a w K Q else E := by
  have hw : Region.wanted o (yielded ops a.tmps) = true := by simp [Region.wanted, hgd]
  rw [if_pos hw]
  obtain ⟨i0, hi, hz0, hz1, hz2⟩ := info_parts info_rows
  obtain ⟨vs, k1, k2⟩ := hown
  have h1 : w.ownsRow B 35 1 v L.length vs := owns_same k1 fun g hg => hb.block g (World.ownsRow.lt k1 g hg).2
  refine wp_append_own w s x 24 hop B 35 i0 (.slice none 0 0) 1 24 Try.underlying24 hi hz0 hz1 hz2 rfl (by decide) v L.length vs hs h1 ⟨q, 0, none⟩ 1 1 [u] hx rfl ?_ ?_ (by unfold maxLen; omega) (by omega) (Nat.le_trans hl hb.size) ?_
  · intro j u' hj
    match j with
    | 0 => simp at hj; subst hj; simpa [Addr.add] using hq
    | j + 1 => simp at hj
  · intro u' hu'
    simp at hu'
    subst hu'
    obtain ⟨a', c', rfl, _⟩ := own_rats hu
    rfl
  · intro v' w' h3 h4 _
    exact hK v' w' (OwnRX.snoc k1 k2 hb hl hu h3 h4) h4
theorem OwnRX.grown {B : Nat} {w w' : World} {v : Value} {row : Option Nat} {L : List (List R)} (h : OwnRX B w v L) (hg : w.grownBy w' row) (hr : ∀ g, row = some g → TyAt w g 3) : OwnRX B w' v L :=
  h.kept fun b hb => hg.block b (by rcases hb with hb | hb <;> exact hb.lt) (fun e => by
    rcases hb with hb | hb
    · exact (TyAt.ne hb (hr b e.symm) rat_ne_int) rfl
    · exact (TyAt.ne hb (hr b e.symm) row_ne_int) rfl)
set_option maxRecDepth 100000 in
set_option maxHeartbeats 4000000 in
theorem impl_StartTableau (B : Nat) (a b c : Option Addr) (c1 c2 c3 : Nat) (p : P) (hn : LpFits p) (hcap : p.B.length ≤ c2) (w : World) (hBw : B ≤ w.heap.size) (hz : LpIn B w a b c p) :
    Calls Try.prog 19 #[.agg #[.slice a p.A.length c1, .slice b p.B.length c2, .slice c p.C.length c3]] w fun e w' => (∃ vR vB : Value, e = .returned (.agg #[vR, vB, .int .i64 (Ta.start p).cols]) ∧ OwnRX w.heap.size w' vR (Ta.start p).rows ∧ OwnInts w.heap.size w' vB (Ta.start p).basis) ∧ Below w.heap.size w w' := by
  have hb := ((Below.refl w.heap.size w).alloc (Nat.le_refl _) (.cells #[.slice a p.A.length c1, .slice b p.B.length c2, .slice c p.C.length c3] 38))
  have hb2 := hb.alloc hb.size (.cells #[.slice none 0 0, .slice none 0 0, .int .i64 0] 27)
  have HZ := Lib.hid ((hz.mono hBw).below hb2)
  have hx := (Tri.new w (.slice a p.A.length c1) (.slice b p.B.length c2) (.slice c p.C.length c3) 38).more (.cells #[.slice none 0 0, .slice none 0 0, .int .i64 0] 27)
  have hr := Tri.new (w.alloc (.cells #[.slice a p.A.length c1, .slice b p.B.length c2, .slice c p.C.length c3] 38)) (.slice none 0 0) (.slice none 0 0) (.int .i64 0) 27
  rw [size1] at hr
  have hs2 := size2 w (.cells #[.slice a p.A.length c1, .slice b p.B.length c2, .slice c p.C.length c3] 38) (.cells #[.slice none 0 0, .slice none 0 0, .int .i64 0] 27)
  have Hb := Lib.hid hb2
  have Hx := Lib.hid hx
  have Hr := Lib.hid hr
  have HS2 := Lib.hid hs2
  have hnA := hn.A
  have hnB := hn.B
  have hnC := hn.C
  obtain ⟨ST, hST⟩ : ∃ ST, Ta.start p = ST := ⟨_, rfl⟩
  have HST := Lib.hid hST
  rw [hST]
  have HN := Lib.hid hn
  clear hz hb hb2 hx hr hs2 hn hST
  go_enter Try.func19, Try.ntmps19
  go_upto_region 1 with fail
  generalize hW : (w.alloc (.cells #[.slice a p.A.length c1, .slice b p.B.length c2, .slice c p.C.length c3] 38)).alloc (.cells #[.slice none 0 0, .slice none 0 0, .int .i64 0] 27) = W at *
  clear hW
  obtain ⟨x0, x1, x2, _⟩ := Hx.out.cells
  obtain ⟨g, hg⟩ : ∃ g, Lp.vldP p = g := ⟨_, rfl⟩
  have Hg := Lib.hid hg
  have HV := Lib.hid (impl_IsValidLP w.heap.size a b c c1 c2 c3 p HN.out W Hb.out.size HZ.out)
  rw [hg] at HV
  clear hg
  go_wp2_with fail
  refine HV.out.mono ?_
  rintro e w1 ⟨rfl, hb1⟩
  have hWw : w.heap.size ≤ W.heap.size := Hb.out.size
  have HB1 := Lib.hid (Hb.out.trans (hb1.mono hWw))
  have HX1 := Lib.hid (Hx.out.below hb1)
  have HR1 := Lib.hid (Hr.out.below hb1)
  have HZ1 := Lib.hid (HZ.out.below (hb1.mono hWw))
  have hsz1 := hb1.size
  clear x0 x1 x2 HV hb1 Hb Hx Hr HZ
  cases g with
  | false =>
    have hE : Hid ((⟨[], [], 0⟩ : T) = ST) := by show _ = _; rw [← HST.out, Ta.start_no Hg.out]
    obtain ⟨z0, z1, z2, f0, f1, f2⟩ := HR1.out.cells
    have hF := HR1.out
    go_wp2_with fail
    refine bodyPost_ret (v := .agg #[.slice none 0 0, .slice none 0 0, .int .i64 0]) (by
      obtain ⟨z0, z1, z2, _⟩ := (tri_over hF (.slice none 0 0) (.slice none 0 0) (.int .i64 0)).cells
      revert z0 z1 z2
      generalize (World.setCell _ (⟨w.heap.size + 1, 2, none⟩ : Addr) (.int .i64 0)) = W4
      intro z0 z1 z2
      simp [results, Try.results19, go_sem, z0, z1, z2]) rfl ?_
    rw [← hE.out]
    exact ⟨⟨_, _, rfl, ⟨[], World.ownsRow_nil _ _ _ _, fun j hj => absurd hj (by simp), fun i j u v hi => absurd hi (by simp)⟩, World.ownsRow_nil _ _ _ _⟩, low_over HB1.out (Nat.le_succ _) _ _ _⟩
  | true =>
    obtain ⟨v1, v2, v3, v4, v5, v6⟩ := Lp.vld_parts Hg.out
    have hE : Hid (Ta.startAt p p.A.length = ST) := by show _ = _; rw [← HST.out, Ta.start_yes Hg.out]
    obtain ⟨x0, x1, x2, _⟩ := HX1.out.cells
    have HO := Lib.hid (Tri.new w1 (.slice none 0 0) (.slice none 0 0) (.int .i64 p.C.length) 27)
    have HBo := Lib.hid ((Below.refl w1.heap.size w1).alloc (Nat.le_refl _) (.cells #[.slice none 0 0, .slice none 0 0, .int .i64 p.C.length] 27))
    have HRo : Hid (OwnRX w1.heap.size (w1.alloc (.cells #[.slice none 0 0, .slice none 0 0, .int .i64 p.C.length] 27)) (.slice none 0 0) (Ta.startAt p 0).rows) := ⟨[], World.ownsRow_nil _ _ _ _, fun j hj => absurd hj (by simp [Ta.startAt]), fun i j u v hi => absurd hi (by simp [Ta.startAt])⟩
    have HIo : Hid (OwnInts w1.heap.size (w1.alloc (.cells #[.slice none 0 0, .slice none 0 0, .int .i64 p.C.length] 27)) (.slice none 0 0) (Ta.startAt p 0).basis) := World.ownsRow_nil _ _ _ _
    clear v1 v4 v5 v6
    have hlX := lt_of_at HX1.out
    have y0 := HO.out.cells.1
    have x0' := (HX1.out.more (.cells #[.slice none 0 0, .slice none 0 0, .int .i64 p.C.length] 27)).cells.1
    go_wp2_with fail
    go_loopw [4, 16] (fun _ i wr => ∃ (k : Nat) (vR vB : Value), k ≤ p.A.length ∧ i = .int .i64 k ∧ Hid (Tri wr w1.heap.size vR vB (.int .i64 p.C.length) 27) ∧ Hid (OwnRX w1.heap.size wr vR (Ta.startAt p k).rows) ∧ Hid (OwnInts w1.heap.size wr vB (Ta.startAt p k).basis) ∧ Hid (Below w1.heap.size w1 wr)) (fun _ i _ => p.A.length - (intOf i).toNat)
    case atStart => exact ⟨0, _, _, Nat.zero_le _, rfl, HO, HRo, HIo, HBo⟩
    case round =>
      clear x0 x1 x2 y0 x0' HO HBo HRo HIo
      obtain ⟨k, vR, vB, hk, rfl, hO, hR, hI, hB⟩ := hrel
      have HXr := Lib.hid (HX1.out.below hB.out)
      have hszr := hB.out.size
      by_cases hlt : k < p.A.length
      · have hZr := Lib.hid (HZ1.out.below (hB.out.mono (Nat.le_trans hWw hsz1)))
        obtain ⟨x0, x1, x2, _⟩ := HXr.out.cells
        obtain ⟨y0, y1, y2, _⟩ := hO.out.cells
        have hqr := lt_of_at hO.out
        have hxr := lt_of_at HXr.out
        have n1 : (k : Int) < (p.A.length : Int) := by omega
        have Cell := Lib.hid (fun w' (h : Since wr w') => (show w'.cell? ⟨w1.heap.size, 0, none⟩ = some vR ∧ w'.cell? ⟨w.heap.size, 0, none⟩ = some (.slice a p.A.length c1) ∧ w'.cell? ⟨w.heap.size, 1, none⟩ = some (.slice b p.B.length c2) ∧ w'.cell? ⟨w.heap.size, 2, none⟩ = some (.slice c p.C.length c3) ∧ Since wr w' from
          ⟨h.cell (p := ⟨w1.heap.size, 0, none⟩) hqr y0, h.cell (p := ⟨w.heap.size, 0, none⟩) hxr x0, h.cell (p := ⟨w.heap.size, 1, none⟩) hxr x1, h.cell (p := ⟨w.heap.size, 2, none⟩) hxr x2, h⟩))
        have hin0 := (Since.refl wr).drew
        have HSr := Lib.hid (fun w' (h : Since wr w') => calls_since2 (impl_startRow w.heap.size a b c c1 c2 c3 p Hg.out hcap k hlt w' (Nat.le_trans (Nat.le_trans (Nat.le_trans hWw hsz1) hszr) h.low.size) (hZr.out.below (h.low.mono (by omega)))) h)
        have hrk : (Ta.startAt p k).rows.length = k := by simp [Ta.startAt]
        have hbk2 : (Ta.startAt p k).basis.length = k := by simp [Ta.startAt]
        have Hrk := Lib.hid hrk
        have Hbk2 := Lib.hid hbk2
        clear x0 x1 x2 y0 y1 y2 hrk hbk2
        go_upto_region 7 with fail
        refine wp_region_T_drew (S := (fun w' => w'.cell? ⟨w1.heap.size, 0, none⟩ = some vR ∧ w'.cell? ⟨w.heap.size, 0, none⟩ = some (.slice a p.A.length c1) ∧ w'.cell? ⟨w.heap.size, 1, none⟩ = some (.slice b p.B.length c2) ∧ w'.cell? ⟨w.heap.size, 2, none⟩ = some (.slice c p.C.length c3) ∧ Since wr w')) 6 (by kernel_rfl) ?_ (fun hHeld => ?_)
        · exact Cell.out _ hin0
        refine wpAnyT_take (i := 0) (oi := { dst := some 19, op := Op.fieldAddr 27 (Operand.tmp 3) 0, type := 0, pos := "l06_tableau.go:19", after := #[], guard := none }) (v := ?_) rfl (by kernel_rfl) (fun _ _ _ h => h) (Or.inl ⟨by rfl, ?_⟩) (by assumption) ?_
        rotate_left 1
        · intro w hSw; (try dsimp only at hSw); go_simp; try (with_reducible rfl)
        try simp only [Act.put, List.setIfInBounds_toArray, List.set_cons_zero, List.set_cons_succ]
        refine wpAnyT_take (i := 1) (oi := { dst := some 20, op := Op.load 24 (Operand.tmp 19), type := 24, pos := "l06_tableau.go:19", after := #[{ on := 0, ground := Ground.data }], guard := none }) (v := ?_) rfl (by kernel_rfl) (fun _ _ _ h => h) (Or.inl ⟨by rfl, ?_⟩) (by assumption) ?_
        rotate_left 1
        · intro w hSw; (try dsimp only at hSw); go_simp; try (with_reducible rfl)
        try simp only [Act.put, List.setIfInBounds_toArray, List.set_cons_zero, List.set_cons_succ]
        refine wpAnyT_take (i := 2) (oi := { dst := some 21, op := Op.load 38 (Operand.tmp 1), type := 38, pos := "l06_tableau.go:19", after := #[], guard := none }) (v := ?_) rfl (by kernel_rfl) (fun _ _ _ h => h) (Or.inl ⟨by rfl, ?_⟩) (by assumption) ?_
        rotate_left 1
        · intro w hSw; (try dsimp only at hSw); go_simp; try (with_reducible rfl)
        try simp only [Act.put, List.setIfInBounds_toArray, List.set_cons_zero, List.set_cons_succ]
        refine wpAnyT_take (i := 3) (oi := { dst := some 22, op := Op.move (Operand.tmp 4), type := 3, pos := "l06_tableau.go:19", after := #[], guard := none }) (v := ?_) rfl (by kernel_rfl) (fun _ _ _ h => h) (Or.inl ⟨by rfl, ?_⟩) (by assumption) ?_
        rotate_left 1
        · intro w hSw; (try dsimp only at hSw); go_simp; try (with_reducible rfl)
        try simp only [Act.put, List.setIfInBounds_toArray, List.set_cons_zero, List.set_cons_succ]
        refine wpAnyT_ready (rs := [4]) (by kernel_rfl) (by simp) ?_
        refine (AllReadyT.cons (o := { dst := some 23, op := Op.call { callee := Callee.value (Operand.func 75), args := #[Operand.tmp 21, Operand.tmp 22], argTypes := #[38, 3] }, type := 35, pos := "l06_tableau.go:19", after := #[{ on := 2, ground := Ground.data }, { on := 3, ground := Ground.data }], guard := none }) (rs := []) rfl (fun K hK => ?_) AllReadyT.nil)
        go_simp
        (go_at_call 75; refine (HSr.out _ hin0).mono ?_; rintro e w4 ⟨⟨v4', rfl, hv4⟩, hin4, hb4⟩; obtain ⟨av, cv, rfl⟩ := own_shape hv4; generalize hrowk : Ta.startRow p k = row at *)
        refine hK.out _ _ ?_ (fun hHeld => ?_)
        · exact Cell.out _ hin4
        clear hK K
        try simp only [Act.put, List.setIfInBounds_toArray, List.set_cons_zero, List.set_cons_succ]
        have hin5 := hin4.alloc (.cells #[.slice av row.length cv] 35)
        have hcu := (CellsAt.new w4 #[.slice av row.length cv] 35).cell 0
        have hu5 := OwnRats.alloc hv4 (.cells #[.slice av row.length cv] 35)
        have hT5 := hO.out.below hin5.low
        have hI5 := hI.out.below hin5.low
        have hX5 := HXr.out.below hin5.low
        have hB5 := hB.out.trans (hin5.low.mono hszr)
        have hR5 := hR.out.below hin5.low
        have hs4 := hB5.size
        refine wpAnyT_ready (rs := [5]) (by kernel_rfl) (by simp) ?_
        refine (AllReadyT.cons (o := { dst := some 24, op := Op.buildSlice 24 1 #[(0, Operand.tmp 23)], type := 24, pos := "l06_tableau.go:19", after := #[{ on := 4, ground := Ground.data }], guard := none }) (rs := []) rfl (fun K hK => ?_) AllReadyT.nil)
        go_simp
        refine hK.out _ _ ?_ (fun hHeld => ?_)
        · exact Cell.out _ hin5
        clear hK K
        try simp only [Act.put, List.setIfInBounds_toArray, List.set_cons_zero, List.set_cons_succ]
        refine wpAnyT_ready (rs := [6]) (by kernel_rfl) (by simp) ?_
        refine (AllReadyT.last (o := { dst := some 25, op := Op.call { callee := Callee.builtin Builtin.append, args := #[Operand.tmp 20, Operand.tmp 24], argTypes := #[24, 24] }, type := 24, pos := "l06_tableau.go:19", after := #[{ on := 1, ground := Ground.data }, { on := 5, ground := Ground.data }, { on := 4, ground := Ground.chain }], guard := none }) (rs := []) rfl (by rfl) (fun K hK => ?_) AllReadyT.nil)
        (refine step_append_rowX rfl _ _ rfl w1.heap.size vR (Ta.startAt p k).rows rfl hR.out hin5.low hszr w4.heap.size (.slice av row.length cv) row rfl hcu hu5 (by have := Hrk.out; omega) ?_; intro v6 w6 hown6 hgrow6; rw [show (Ta.startAt p k).rows ++ [row] = (Ta.startAt p (k + 1)).rows by rw [← hrowk, Ta.rows_succ]] at hown6; obtain ⟨a6, c6, rfl⟩ := hown6.shape)
        refine hK.out _ _ ?_
        clear hK K
        try simp only [Act.put, List.setIfInBounds_toArray, List.set_cons_zero, List.set_cons_succ]
        have hT6 : Tri w6 w1.heap.size vR vB (.int .i64 p.C.length) 27 := (hgrow6.block w1.heap.size (lt_of_at hT5) (fun e => rows_box hR5.rm hT5 (by decide) e.symm)).trans hT5
        have hX6 : Tri w6 w.heap.size (.slice a p.A.length c1) (.slice b p.B.length c2) (.slice c p.C.length c3) 38 := (hgrow6.block w.heap.size (lt_of_at hX5) (fun e => by have := (hR5.rm.apart _ e.symm).1; omega)).trans hX5
        have hI6 : OwnInts w1.heap.size w6 vB (Ta.startAt p k).basis := by
          obtain ⟨vs, ho1, _⟩ := hR5
          exact World.ownsRow.kept hI5 hgrow6 (by
            cases hv : vB.ownBlock with
            | none => exact .inl rfl
            | some g => exact .inr fun e => own_apart hI5 ho1 (fun e => row_ne_int e.symm) g hv e.symm)
        have hB6 := below_gr (B := w1.heap.size) hB5 hgrow6 hs4 (fun g hg => (hR5.rm.apart g hg).1)
        obtain ⟨y0, _, _, f0, _, _⟩ := hT6.cells
        generalize hm6 : (Ta.startAt p (k + 1)).rows.length = m6 at *
        refine wpAnyT_ready (rs := [7]) (by kernel_rfl) (by simp) ?_
        refine (AllReadyT.last (o := { dst := some 26, op := Op.fieldAddr 27 (Operand.tmp 3) 0, type := 0, pos := "l06_tableau.go:19", after := #[{ on := 0, ground := Ground.phase }, { on := 1, ground := Ground.phase }, { on := 2, ground := Ground.phase }, { on := 3, ground := Ground.phase }, { on := 4, ground := Ground.phase }, { on := 5, ground := Ground.phase }, { on := 6, ground := Ground.phase }], guard := none }) (rs := []) rfl (by rfl) (fun K hK => ?_) AllReadyT.nil)
        go_simp
        refine hK.out _ _ ?_
        clear hK K
        try simp only [Act.put, List.setIfInBounds_toArray, List.set_cons_zero, List.set_cons_succ]
        refine wpAnyT_ready (rs := [8]) (by kernel_rfl) (by simp) ?_
        refine (AllReadyT.last (o := { dst := none, op := Op.store 24 (Operand.tmp 26) (Operand.tmp 25), type := 0, pos := "l06_tableau.go:19", after := #[{ on := 7, ground := Ground.data }, { on := 6, ground := Ground.data }, { on := 6, ground := Ground.chain }, { on := 0, ground := Ground.phase }, { on := 1, ground := Ground.phase }, { on := 2, ground := Ground.phase }, { on := 3, ground := Ground.phase }, { on := 4, ground := Ground.phase }, { on := 5, ground := Ground.phase }, { on := 6, ground := Ground.phase }], guard := none }) (rs := []) rfl (by rfl) (fun K hK => ?_) AllReadyT.nil)
        go_simp
        refine hK.out _ _ ?_
        clear hK K
        refine wpAnyT_done (by kernel_rfl) ?_ _
        have HT7 := Lib.hid (hT6.set0 (.slice a6 m6 c6))
        have HR7 := Lib.hid (hown6.set (i := 0) (u := .slice a6 m6 c6) (tri_ty hT6) (by decide) (by decide))
        have HI7 : Hid (OwnInts w1.heap.size (w6.setCell ⟨w1.heap.size, 0, none⟩ (.slice a6 m6 c6)) vB (Ta.startAt p k).basis) := owns_set hI6 (own_box hI6 hT6 (by decide))
        have HB7 := Lib.hid (hB6.setCell (p := ⟨w1.heap.size, 0, none⟩) (Nat.le_refl _) (.slice a6 m6 c6))
        clear hB6 hI6 hX6 hT6 y0 f0 hown6 hgrow6 hR5 hI5 hT5 hX5 hB5 hu5 hcu hs4 hin5 hin4 hb4 hv4 Cell hin0 HSr hR hI hB hO
        generalize w6.setCell ⟨w1.heap.size, 0, none⟩ (.slice a6 m6 c6) = w7 at *
        obtain ⟨y0, y1, y2, f0, f1, f2⟩ := HT7.out.cells
        have hs7 := HB7.out.size
        have HIa : Hid (OwnInts w1.heap.size (w7.alloc (.cells #[.int .i64 ((p.C.length : Int) + (k : Int))] 3)) vB (Ta.startAt p k).basis) := HI7.out.below ((Below.refl _ _).alloc (Nat.le_refl _) _)
        have HRa : Hid (OwnRX w1.heap.size (w7.alloc (.cells #[.int .i64 ((p.C.length : Int) + (k : Int))] 3)) (.slice a6 m6 c6) (Ta.startAt p (k + 1)).rows) := HR7.out.below ((Below.refl _ _).alloc (Nat.le_refl _) _)
        have HTa := Lib.hid (HT7.out.more (.cells #[.int .i64 ((p.C.length : Int) + (k : Int))] 3))
        have HBa := Lib.hid (HB7.out.alloc hs7 (.cells #[.int .i64 ((p.C.length : Int) + (k : Int))] 3))
        have Hone := Lib.hid (one_num w7 ((p.C.length : Int) + (k : Int)))
        have hbl := Hbk2.out
        go_wp2_with (at_builtin; refine wpList_append_ints rfl _ _ rfl w1.heap.size _ (Ta.startAt p k).basis rfl HIa.out _ [(p.C.length : Int) + (k : Int)] 1 1 rfl rfl _ Hone.out (by simp; omega) (by rw [size1]; omega) ?_)
        intro v8 w8 hown8 hgrow8
        rw [show (Ta.startAt p k).basis ++ [(p.C.length : Int) + (k : Int)] = (Ta.startAt p (k + 1)).basis from (Ta.basis_succ p k).symm] at hown8
        obtain ⟨a8, c8, rfl⟩ := ints_shape hown8
        have hty8 : ∀ g, vB.ownBlock = some g → TyAt (w7.alloc (.cells #[.int .i64 ((p.C.length : Int) + (k : Int))] 3)) g 3 := fun g hg => owns_ty HIa.out hg
        have hT8 : Tri w8 w1.heap.size (.slice a6 m6 c6) vB (.int .i64 p.C.length) 27 := (hgrow8.block w1.heap.size (lt_of_at HTa.out) (fun e => own_box HIa.out HTa.out (by decide) e.symm)).trans HTa.out
        have hR8 := HRa.out.grown hgrow8 hty8
        have hB8 := below_gr (B := w1.heap.size) HBa.out hgrow8 (by rw [size1]; omega) (fun g hg => (World.ownsRow.lt HIa.out g hg).1)
        generalize hm8 : (Ta.startAt p (k + 1)).basis.length = m8 at *
        obtain ⟨y0, y1, y2, f0, f1, f2⟩ := hT8.cells
        have HT9 := Lib.hid (hT8.set1 (.slice a8 m8 c8))
        have HR9 := Lib.hid (hR8.set (i := 1) (u := .slice a8 m8 c8) (tri_ty hT8) (by decide) (by decide))
        have HI9 : Hid (OwnInts w1.heap.size (w8.setCell ⟨w1.heap.size, 1, none⟩ (.slice a8 m8 c8)) (.slice a8 m8 c8) (Ta.startAt p (k + 1)).basis) := owns_set hown8 (own_box hown8 hT8 (by decide))
        have HB9 := Lib.hid (hB8.setCell (p := ⟨w1.heap.size, 1, none⟩) (Nat.le_refl _) (.slice a8 m8 c8))
        clear hT8 hR8 hB8 hown8 hgrow8 hty8 hm8 hm6 hrowk hbl
        go_wp2_with fail
        go_roundw
        case rel => exact ⟨k + 1, _, _, by omega, by go_num, HT9, HR9, HI9, HB9⟩
        case measure => simp [intOf]; omega
      · have he : k = p.A.length := by omega
        have hO6 : OwnRX w1.heap.size wr vR ST.rows := by have h := hR.out; rw [he, hE.out] at h; exact h
        have hI6 : OwnInts w1.heap.size wr vB ST.basis := by have h := hI.out; rw [he, hE.out] at h; exact h
        have hcols : ST.cols = (p.C.length : Int) := by rw [← hE.out]; rfl
        obtain ⟨av, cv, rfl⟩ := hO6.shape
        obtain ⟨ai, ci, rfl⟩ := ints_shape hI6
        obtain ⟨y0, y1, y2, _⟩ := hO.out.cells
        have hF := HR1.out.below (hB.out.mono (Nat.le_refl _))
        obtain ⟨z0, z1, z2, f0, f1, f2⟩ := hF.cells
        have HF := Lib.hid hF
        have HO6 := Lib.hid (hO6.raise (show w.heap.size ≤ w1.heap.size by omega))
        have HI6 := Lib.hid (hI6.raise2 (show w.heap.size ≤ w1.heap.size by omega))
        have Hcols := Lib.hid hcols
        have HBf := Lib.hid (HB1.out.trans (hB.out.mono (show w.heap.size ≤ w1.heap.size by omega)))
        clear he hO6 hI6 hcols hF hO hR hI hB
        go_wp2_with fail
        refine bodyPost_ret (v := .agg #[.slice av ST.rows.length cv, .slice ai ST.basis.length ci, .int .i64 p.C.length]) (by
          obtain ⟨z0, z1, z2, _⟩ := (tri_over HF.out (.slice av ST.rows.length cv) (.slice ai ST.basis.length ci) (.int .i64 p.C.length)).cells
          revert z0 z1 z2
          generalize (World.setCell _ (⟨w.heap.size + 1, 2, none⟩ : Addr) (.int .i64 p.C.length)) = W4
          intro z0 z1 z2
          simp [results, Try.results19, go_sem, z0, z1, z2]) rfl ⟨⟨_, _, by rw [Hcols.out], ?_, ?_⟩, low_over HBf.out (Nat.le_succ _) _ _ _⟩
        · have h1 := HO6.out.set (i := 0) (u := .slice av ST.rows.length cv) (tri_ty HF.out) (by decide) (by decide)
          have h2 := h1.set (i := 1) (u := .slice ai ST.basis.length ci) (tri_ty (HF.out.set0 _)) (by decide) (by decide)
          exact h2.set (i := 2) (u := .int .i64 p.C.length) (tri_ty ((HF.out.set0 _).set1 _)) (by decide) (by decide)
        · exact ints_over HI6.out (own_box HI6.out HF.out (by decide))
end Go.Proofs.Ytfbhnjdbamahkaa

/- FnExactStartTableau: the walk, from the two contracts in closed words (law.py). -/
namespace Go.Proofs.Ytfbhnjdbamahkaa
open Go.RowKit
open Ve (R)
open Ta (T)
open Lp (P Res)
set_option maxRecDepth 100000 in
set_option maxHeartbeats 16000000 in
theorem fnExactStartTableau.walk_c (p0 : P) (X0 : T) (hX : LpOk p0 → TabOk X0) (hS : LpOk p0 → ∀ (w : World) (u0a u0b u0c : Value), LpX w u0a u0b u0c p0 → Calls Try.prog 20 #[(.agg #[u0a, u0b, u0c])] w fun e w' => (∃ ya yb yc : Value, e = .returned ((.agg #[ya, yb, yc])) ∧ SpTab w.heap.size w'.heap.size w' (.agg #[ya, yb, yc]) X0) ∧ Below w.heap.size w w') (hI : LpOk p0 → ∀ (w : World) (u0a u0b u0c : Value), LpX w u0a u0b u0c p0 → Calls Try.prog 19 #[(.agg #[u0a, u0b, u0c])] w fun e w' => (∃ ya yb yc : Value, e = .returned ((.agg #[ya, yb, yc])) ∧ ResTab w.heap.size w'.heap.size w' (.agg #[ya, yb, yc]) X0) ∧ Below w.heap.size w w')
    (w : World) (u0a u0b u0c : Value) (n0 : LpLens p0) (h0 : LpC w u0a u0b u0c p0) :
    Calls Try.prog 8 #[(.agg #[u0a, u0b, u0c])] w fun e w' => e = .returned (.bool true) ∧ Below w.heap.size w w' := by
  have HS := Lib.hid hS
  have HI := Lib.hid hI
  have HX := Lib.hid hX
  have N0 := Lib.hid n0
  have B0 := Lib.hid (rg_new w #[u0a, u0b, u0c] 50)
  have A0 := Lib.hid (h0.rg.more (.cells #[u0a, u0b, u0c] 50))
  have HB : Hid (Below w.heap.size w (w.alloc (.cells #[u0a, u0b, u0c] 50))) := ((Below.refl w.heap.size w).alloc (by simp) (.cells #[u0a, u0b, u0c] 50))
  have HSZ : Hid ((w.alloc (.cells #[u0a, u0b, u0c] 50)).heap.size = w.heap.size + 1) := by show _ = _; exact size1 _ _
  clear hS hI hX n0 h0
  go_enter Try.func8, Try.ntmps8
  go_wp2_with fail
  generalize hW : (w.alloc (.cells #[u0a, u0b, u0c] 50)) = W0 at *
  refine (szLP_c A0.out.get N0.out 1048576 (by omega) (by omega)).mono ?_
  rintro e w1 ⟨⟨r0, rfl, r0l, r0u, r0e⟩, k⟩
  replace B0 := Lib.hid (B0.out.below k)
  replace A0 := Lib.hid (A0.out.below k)
  replace HB := Lib.hid (HB.out.trans (k.mono HB.out.size))
  replace HSZ := Lib.hid (And.intro HSZ.out k.size)
  clear k
  by_cases r0n : r0 < 0
  · have hb2 : decide (r0 < 0) = true := by rw [decide_eq_true_iff]; exact r0n
    go_wp2_with fail
    go_ret
    exact ⟨rfl, HB.out⟩
  · have hb_r0 : decide (r0 < 0) = false := by rw [decide_eq_false_iff_not]; exact r0n
    have F0 := Lib.hid (lpOk (p := p0) (by have := r0e (by omega); omega))
    clear r0e N0
    have FX := Lib.hid (HX.out F0.out)
    clear HX
    obtain ⟨m1_0, m1_1, m1_2⟩ := three B0.out.get
    go_wp2_with fail
    refine (toLP_k A0.out.get F0.out).mono ?_
    rintro e w2 ⟨⟨s0a, s0b, s0c, rfl, hs⟩, k⟩
    clear m1_0 m1_1 m1_2
    replace B0 := Lib.hid (B0.out.below k)
    replace A0 := Lib.hid (A0.out.below k)
    replace HB := Lib.hid (HB.out.trans (k.mono HB.out.size))
    replace HSZ := Lib.hid (And.intro HSZ.out k.size)
    clear k
    have S0_f := Lib.hid hs.rg
    clear hs
    go_wp2_with fail
    refine (HS.out F0.out _ _ _ _ S0_f.out.get.reads_x).mono ?_
    rintro e w3 ⟨⟨za, zb, zc, rfl, hs⟩, k⟩
    replace B0 := Lib.hid (B0.out.below k)
    replace A0 := Lib.hid (A0.out.below k)
    replace S0_f := Lib.hid (S0_f.out.below k)
    replace HB := Lib.hid (HB.out.trans (k.mono HB.out.size))
    replace HSZ := Lib.hid (And.intro HSZ.out k.size)
    clear k
    have Z_f := Lib.hid hs.rg
    clear hs
    clear S0_f
    clear HS
    obtain ⟨o0, o1, o2⟩ := (SpTab.reads_c Z_f.out.get).one
    have t0 := sto o0
    have t1 := sto o1
    have t2 := sto o2
    replace B0 := Lib.hid (B0.out.more (.cells #[za, zb, zc] 27))
    replace A0 := Lib.hid (A0.out.more (.cells #[za, zb, zc] 27))
    replace Z_f := Lib.hid (Z_f.out.more (.cells #[za, zb, zc] 27))
    replace HB := Lib.hid (HB.out.alloc HB.out.size (.cells #[za, zb, zc] 27))
    replace HSZ := Lib.hid (And.intro HSZ.out (size1 w3 (.cells #[za, zb, zc] 27)))
    have ZB := Lib.hid (rg_new w3 #[za, zb, zc] 27)
    clear o0 o1 o2
    obtain ⟨m2_0, m2_1, m2_2⟩ := three B0.out.get
    go_wp2_with fail
    clear t0 t1 t2
    generalize hWx0 : (w3.alloc (.cells #[za, zb, zc] 27)) = Wx0 at *
    clear m2_0 m2_1 m2_2
    refine (toLP_k A0.out.get F0.out).mono ?_
    rintro e w4 ⟨⟨x0a, x0b, x0c, rfl, hs⟩, k⟩
    replace B0 := Lib.hid (B0.out.below k)
    replace A0 := Lib.hid (A0.out.below k)
    replace Z_f := Lib.hid (Z_f.out.below k)
    replace ZB := Lib.hid (ZB.out.below k)
    replace HB := Lib.hid (HB.out.trans (k.mono HB.out.size))
    replace HSZ := Lib.hid (And.intro HSZ.out k.size)
    clear k
    have X0_f := Lib.hid hs.rg
    clear hs
    obtain ⟨o0, o1, o2⟩ := (OwnLP.reads_c X0_f.out.get).one
    have t0 := sto o0
    have t1 := sto o1
    have t2 := sto o2
    replace B0 := Lib.hid (B0.out.more (.cells #[x0a, x0b, x0c] 38))
    replace A0 := Lib.hid (A0.out.more (.cells #[x0a, x0b, x0c] 38))
    replace Z_f := Lib.hid (Z_f.out.more (.cells #[x0a, x0b, x0c] 38))
    replace ZB := Lib.hid (ZB.out.more (.cells #[x0a, x0b, x0c] 38))
    replace X0_f := Lib.hid (X0_f.out.more (.cells #[x0a, x0b, x0c] 38))
    replace HB := Lib.hid (HB.out.alloc HB.out.size (.cells #[x0a, x0b, x0c] 38))
    replace HSZ := Lib.hid (And.intro HSZ.out (size1 w4 (.cells #[x0a, x0b, x0c] 38)))
    have XB0 := Lib.hid (rg_new w4 #[x0a, x0b, x0c] 38)
    clear o0 o1 o2
    obtain ⟨m3_0, m3_1, m3_2⟩ := three XB0.out.get
    go_wp2_with fail
    clear t0 t1 t2
    generalize hWg : (w4.alloc (.cells #[x0a, x0b, x0c] 38)) = Wg at *
    clear m3_0 m3_1 m3_2
    refine (HI.out F0.out _ _ _ _ X0_f.out.get.reads_x).mono ?_
    rintro e w5 ⟨⟨ga, gb, gc, rfl, hs⟩, k⟩
    replace B0 := Lib.hid (B0.out.below k)
    replace A0 := Lib.hid (A0.out.below k)
    replace Z_f := Lib.hid (Z_f.out.below k)
    replace ZB := Lib.hid (ZB.out.below k)
    replace X0_f := Lib.hid (X0_f.out.below k)
    replace XB0 := Lib.hid (XB0.out.below k)
    replace HB := Lib.hid (HB.out.trans (k.mono HB.out.size))
    replace HSZ := Lib.hid (And.intro HSZ.out k.size)
    clear k
    have G_f := Lib.hid hs.rg
    clear hs
    obtain ⟨o0, o1, o2⟩ := (ResTab.reads_c G_f.out.get).one
    have t0 := sto o0
    have t1 := sto o1
    have t2 := sto o2
    replace B0 := Lib.hid (B0.out.more (.cells #[ga, gb, gc] 27))
    replace A0 := Lib.hid (A0.out.more (.cells #[ga, gb, gc] 27))
    replace Z_f := Lib.hid (Z_f.out.more (.cells #[ga, gb, gc] 27))
    replace ZB := Lib.hid (ZB.out.more (.cells #[ga, gb, gc] 27))
    replace X0_f := Lib.hid (X0_f.out.more (.cells #[ga, gb, gc] 27))
    replace XB0 := Lib.hid (XB0.out.more (.cells #[ga, gb, gc] 27))
    replace G_f := Lib.hid (G_f.out.more (.cells #[ga, gb, gc] 27))
    replace HB := Lib.hid (HB.out.alloc HB.out.size (.cells #[ga, gb, gc] 27))
    replace HSZ := Lib.hid (And.intro HSZ.out (size1 w5 (.cells #[ga, gb, gc] 27)))
    have GB := Lib.hid (rg_new w5 #[ga, gb, gc] 27)
    clear o0 o1 o2
    obtain ⟨m4_0, m4_1, m4_2⟩ := three GB.out.get
    obtain ⟨m5_0, m5_1, m5_2⟩ := three ZB.out.get
    go_wp2_with fail
    clear t0 t1 t2
    generalize hWe1 : (w5.alloc (.cells #[ga, gb, gc] 27)) = We1 at *
    clear m4_0 m4_1 m4_2 m5_0 m5_1 m5_2
    refine (eqTab_k G_f.out.get.reads_c Z_f.out.get.reads_c FX.out).mono ?_
    rintro e w6 ⟨rfl, k⟩
    replace B0 := Lib.hid (B0.out.below k)
    replace A0 := Lib.hid (A0.out.below k)
    replace Z_f := Lib.hid (Z_f.out.below k)
    replace ZB := Lib.hid (ZB.out.below k)
    replace X0_f := Lib.hid (X0_f.out.below k)
    replace XB0 := Lib.hid (XB0.out.below k)
    replace G_f := Lib.hid (G_f.out.below k)
    replace GB := Lib.hid (GB.out.below k)
    replace HB := Lib.hid (HB.out.trans (k.mono HB.out.size))
    replace HSZ := Lib.hid (And.intro HSZ.out k.size)
    clear k
    obtain ⟨K_0, hKe⟩ : ∃ K : World → Prop, K = fun w' => (Rg (fun w' => CellsAt w' w.heap.size #[u0a, u0b, u0c] 50) w.heap.size (w.heap.size + 1) w') ∧ (Rg (fun w' => LpC w' u0a u0b u0c p0) 0 w.heap.size w') ∧ (Rg (fun w' => SpTab w2.heap.size w3.heap.size w' (.agg #[za, zb, zc]) X0) w2.heap.size w3.heap.size w') ∧ (Rg (fun w' => CellsAt w' w3.heap.size #[za, zb, zc] 27) w3.heap.size (w3.heap.size + 1) w') ∧ (Rg (fun w' => OwnLP Wx0.heap.size w4.heap.size w' (.agg #[x0a, x0b, x0c]) p0) Wx0.heap.size w4.heap.size w') ∧ (Rg (fun w' => CellsAt w' w4.heap.size #[x0a, x0b, x0c] 38) w4.heap.size (w4.heap.size + 1) w') ∧ (Rg (fun w' => ResTab Wg.heap.size w5.heap.size w' (.agg #[ga, gb, gc]) X0) Wg.heap.size w5.heap.size w') ∧ (Rg (fun w' => CellsAt w' w5.heap.size #[ga, gb, gc] 27) w5.heap.size (w5.heap.size + 1) w') ∧ Below w.heap.size w w' ∧ w6.heap.size ≤ w'.heap.size := ⟨_, rfl⟩
    have KS_0 : Hid (Stable K_0) := by show Stable _; rw [hKe]; exact (stable_rg _ _ _).and ((stable_rg _ _ _).and ((stable_rg _ _ _).and ((stable_rg _ _ _).and ((stable_rg _ _ _).and ((stable_rg _ _ _).and ((stable_rg _ _ _).and ((stable_rg _ _ _).and ((stable_low w).and (fun w1 w2 hb h => Nat.le_trans h hb.size)))))))))
    have KC_0 : Hid (∀ w', K_0 w' → (Rg (fun w' => CellsAt w' w.heap.size #[u0a, u0b, u0c] 50) w.heap.size (w.heap.size + 1) w') ∧ (Rg (fun w' => LpC w' u0a u0b u0c p0) 0 w.heap.size w') ∧ (Rg (fun w' => SpTab w2.heap.size w3.heap.size w' (.agg #[za, zb, zc]) X0) w2.heap.size w3.heap.size w') ∧ (Rg (fun w' => CellsAt w' w3.heap.size #[za, zb, zc] 27) w3.heap.size (w3.heap.size + 1) w') ∧ (Rg (fun w' => OwnLP Wx0.heap.size w4.heap.size w' (.agg #[x0a, x0b, x0c]) p0) Wx0.heap.size w4.heap.size w') ∧ (Rg (fun w' => CellsAt w' w4.heap.size #[x0a, x0b, x0c] 38) w4.heap.size (w4.heap.size + 1) w') ∧ (Rg (fun w' => ResTab Wg.heap.size w5.heap.size w' (.agg #[ga, gb, gc]) X0) Wg.heap.size w5.heap.size w') ∧ (Rg (fun w' => CellsAt w' w5.heap.size #[ga, gb, gc] 27) w5.heap.size (w5.heap.size + 1) w') ∧ Below w.heap.size w w' ∧ w6.heap.size ≤ w'.heap.size) := by show ∀ w', K_0 w' → _; intro w' h; rw [hKe] at h; exact h
    have HK_0 : Hid (K_0 w6) := by show K_0 w6; rw [hKe]; exact ⟨B0.out, A0.out, Z_f.out, ZB.out, X0_f.out, XB0.out, G_f.out, GB.out, HB.out, Nat.le_refl _⟩
    clear hKe HB B0 A0 Z_f ZB X0_f XB0 G_f GB
    have hin := KS_0.out.drew HK_0.out
    have Cell_0 := Lib.hid (fun w' (h : K_0 w') => (show w'.cell? ⟨w4.heap.size, 0, none⟩ = some x0a ∧ w'.cell? ⟨w4.heap.size, 1, none⟩ = some x0b ∧ w'.cell? ⟨w4.heap.size, 2, none⟩ = some x0c ∧ w'.cell? ⟨w.heap.size, 0, none⟩ = some u0a ∧ w'.cell? ⟨w.heap.size, 1, none⟩ = some u0b ∧ w'.cell? ⟨w.heap.size, 2, none⟩ = some u0c ∧ K_0 w' from ⟨(three (KC_0.out w' h).2.2.2.2.2.1.get).1, (three (KC_0.out w' h).2.2.2.2.2.1.get).2.1, (three (KC_0.out w' h).2.2.2.2.2.1.get).2.2, (three (KC_0.out w' h).1.get).1, (three (KC_0.out w' h).1.get).2.1, (three (KC_0.out w' h).1.get).2.2, h⟩))
    go_upto_region 10 with fail
    go_cut [31] (fun v wx => v = .bool false ∧ K_0 wx)
    case first =>
      go_region_held3 (fun w' => w'.cell? ⟨w4.heap.size, 0, none⟩ = some x0a ∧ w'.cell? ⟨w4.heap.size, 1, none⟩ = some x0b ∧ w'.cell? ⟨w4.heap.size, 2, none⟩ = some x0c ∧ w'.cell? ⟨w.heap.size, 0, none⟩ = some u0a ∧ w'.cell? ⟨w.heap.size, 1, none⟩ = some u0b ∧ w'.cell? ⟨w.heap.size, 2, none⟩ = some u0c ∧ K_0 w') (first | exact Cell_0.out _ (by assumption) | exact Cell_0.out _ (KS_0.out.drew (by assumption)))
        (first
          | (go_at_call 26; (with_reducible refine (calls_k KS_0.out (toLP_k ((KC_0.out _ (by first | assumption | exact KS_0.out.drew (by assumption))).2.1.get) F0.out) (by first | assumption | exact KS_0.out.drew (by assumption))).mono ?_); rintro e w' ⟨⟨y0, y1, y2, rfl, hr3⟩, hk3, hin3⟩)
          | (go_at_call 28; refine (calls_k KS_0.out (eqLP_k ((KC_0.out _ (by first | assumption | exact KS_0.out.drew (by assumption))).2.2.2.2.1.get.reads_c) (OwnLP.reads_c (by assumption)) F0.out) (by assumption)).mono ?_; rintro e w' ⟨rfl, hk4, hin4⟩))
      all_goals
        go_wp2_with fail
        go_meet
        exact ⟨rfl, by assumption⟩
    case rest =>
    clear hin HK_0 Cell_0
    obtain ⟨w7, rfl⟩ : ∃ q : World, q = wc := ⟨_, rfl⟩
    obtain ⟨rfl, hk7⟩ := hcut
    obtain ⟨q_B0, q_A0, q_Z_f, q_ZB, q_X0_f, q_XB0, q_G_f, q_GB, hB, hsz⟩ := KC_0.out _ hk7
    have B0 := Lib.hid q_B0
    have A0 := Lib.hid q_A0
    have Z_f := Lib.hid q_Z_f
    have ZB := Lib.hid q_ZB
    have X0_f := Lib.hid q_X0_f
    have XB0 := Lib.hid q_XB0
    have G_f := Lib.hid q_G_f
    have GB := Lib.hid q_GB
    have HB := Lib.hid hB
    replace HSZ := Lib.hid (And.intro HSZ.out hsz)
    clear hB hsz hk7 KC_0 KS_0 q_B0 q_A0 q_Z_f q_ZB q_X0_f q_XB0 q_G_f q_GB
    obtain ⟨m6_0, m6_1, m6_2⟩ := three XB0.out.get
    go_wp2_with fail
    clear m6_0 m6_1 m6_2
    refine (markLP_k X0_f.out.get F0.out).mono ?_
    rintro e w8 ⟨⟨r, rfl, hr0⟩, ht⟩
    clear X0_f XB0
    replace B0 := Lib.hid (B0.out.turned ht (by have h := HSZ.out; omega))
    replace A0 := Lib.hid (A0.out.turned ht (by have h := HSZ.out; omega))
    replace Z_f := Lib.hid (Z_f.out.turned ht (by have h := HSZ.out; omega))
    replace ZB := Lib.hid (ZB.out.turned ht (by have h := HSZ.out; omega))
    replace G_f := Lib.hid (G_f.out.turned ht (by have h := HSZ.out; omega))
    replace GB := Lib.hid (GB.out.turned ht (by have h := HSZ.out; omega))
    replace HB := Lib.hid (HB.out.trans ((ht.low (by have h := HSZ.out; omega)).mono (by have h := HSZ.out; omega)))
    replace HSZ := Lib.hid (And.intro HSZ.out ht.size)
    clear ht
    have hkk : decide (r < 0) = false := by rw [decide_eq_false_iff_not]; have := hr0; omega
    obtain ⟨m7_0, m7_1, m7_2⟩ := three GB.out.get
    obtain ⟨m8_0, m8_1, m8_2⟩ := three ZB.out.get
    go_wp2_with fail
    clear m7_0 m7_1 m7_2 m8_0 m8_1 m8_2
    refine (eqTab_k G_f.out.get.reads_c Z_f.out.get.reads_c FX.out).mono ?_
    rintro e w9 ⟨rfl, k⟩
    replace B0 := Lib.hid (B0.out.below k)
    replace A0 := Lib.hid (A0.out.below k)
    replace Z_f := Lib.hid (Z_f.out.below k)
    replace ZB := Lib.hid (ZB.out.below k)
    replace G_f := Lib.hid (G_f.out.below k)
    replace GB := Lib.hid (GB.out.below k)
    replace HB := Lib.hid (HB.out.trans (k.mono HB.out.size))
    replace HSZ := Lib.hid (And.intro HSZ.out k.size)
    clear k
    obtain ⟨m9_0, m9_1, m9_2⟩ := three GB.out.get
    go_wp2_with fail
    clear m9_0 m9_1 m9_2
    refine (markTab_k G_f.out.get FX.out).mono ?_
    rintro e w10 ⟨rfl, hs, ht⟩
    clear G_f
    replace B0 := Lib.hid (B0.out.turned ht (by have h := HSZ.out; omega))
    replace A0 := Lib.hid (A0.out.turned ht (by have h := HSZ.out; omega))
    replace Z_f := Lib.hid (Z_f.out.turned ht (by have h := HSZ.out; omega))
    replace ZB := Lib.hid (ZB.out.turned ht (by have h := HSZ.out; omega))
    replace GB := Lib.hid (GB.out.turned ht (by have h := HSZ.out; omega))
    replace HB := Lib.hid (HB.out.trans ((ht.low (by have h := HSZ.out; omega)).mono (by have h := HSZ.out; omega)))
    replace HSZ := Lib.hid (And.intro HSZ.out ht.size)
    clear ht
    have G_f := Lib.hid hs.rg
    clear hs
    have hvx : decide (markN X0 < 0) = false := by rw [decide_eq_false_iff_not]; have hbn := markN_le FX.out; omega
    obtain ⟨m10_0, m10_1, m10_2⟩ := three GB.out.get
    go_wp2_with fail
    clear m10_0 m10_1 m10_2
    refine (heldTab_k G_f.out.get.reads_c FX.out).mono ?_
    rintro e w11 ⟨rfl, k⟩
    replace B0 := Lib.hid (B0.out.below k)
    replace A0 := Lib.hid (A0.out.below k)
    replace Z_f := Lib.hid (Z_f.out.below k)
    replace ZB := Lib.hid (ZB.out.below k)
    replace GB := Lib.hid (GB.out.below k)
    replace G_f := Lib.hid (G_f.out.below k)
    replace HB := Lib.hid (HB.out.trans (k.mono HB.out.size))
    replace HSZ := Lib.hid (And.intro HSZ.out k.size)
    clear k
    obtain ⟨m11_0, m11_1, m11_2⟩ := three B0.out.get
    go_wp2_with fail
    refine (toLP_k A0.out.get F0.out).mono ?_
    rintro e w12 ⟨⟨q0a, q0b, q0c, rfl, hs⟩, k⟩
    clear m11_0 m11_1 m11_2
    replace B0 := Lib.hid (B0.out.below k)
    replace A0 := Lib.hid (A0.out.below k)
    replace Z_f := Lib.hid (Z_f.out.below k)
    replace ZB := Lib.hid (ZB.out.below k)
    replace GB := Lib.hid (GB.out.below k)
    replace G_f := Lib.hid (G_f.out.below k)
    replace HB := Lib.hid (HB.out.trans (k.mono HB.out.size))
    replace HSZ := Lib.hid (And.intro HSZ.out k.size)
    clear k
    have Q0_f := Lib.hid hs.rg
    clear hs
    go_wp2_with fail
    refine (HI.out F0.out _ _ _ _ Q0_f.out.get.reads_x).mono ?_
    rintro e w13 ⟨⟨ha, hb, hc, rfl, hs⟩, k⟩
    replace B0 := Lib.hid (B0.out.below k)
    replace A0 := Lib.hid (A0.out.below k)
    replace Z_f := Lib.hid (Z_f.out.below k)
    replace ZB := Lib.hid (ZB.out.below k)
    replace GB := Lib.hid (GB.out.below k)
    replace G_f := Lib.hid (G_f.out.below k)
    replace Q0_f := Lib.hid (Q0_f.out.below k)
    replace HB := Lib.hid (HB.out.trans (k.mono HB.out.size))
    replace HSZ := Lib.hid (And.intro HSZ.out k.size)
    clear k
    have H_f := Lib.hid hs.rg
    clear hs
    clear Q0_f
    obtain ⟨o0, o1, o2⟩ := (ResTab.reads_c H_f.out.get).one
    have t0 := sto o0
    have t1 := sto o1
    have t2 := sto o2
    replace B0 := Lib.hid (B0.out.more (.cells #[ha, hb, hc] 27))
    replace A0 := Lib.hid (A0.out.more (.cells #[ha, hb, hc] 27))
    replace Z_f := Lib.hid (Z_f.out.more (.cells #[ha, hb, hc] 27))
    replace ZB := Lib.hid (ZB.out.more (.cells #[ha, hb, hc] 27))
    replace GB := Lib.hid (GB.out.more (.cells #[ha, hb, hc] 27))
    replace G_f := Lib.hid (G_f.out.more (.cells #[ha, hb, hc] 27))
    replace H_f := Lib.hid (H_f.out.more (.cells #[ha, hb, hc] 27))
    replace HB := Lib.hid (HB.out.alloc HB.out.size (.cells #[ha, hb, hc] 27))
    replace HSZ := Lib.hid (And.intro HSZ.out (size1 w13 (.cells #[ha, hb, hc] 27)))
    have HBX := Lib.hid (rg_new w13 #[ha, hb, hc] 27)
    clear o0 o1 o2
    obtain ⟨m12_0, m12_1, m12_2⟩ := three HBX.out.get
    obtain ⟨m13_0, m13_1, m13_2⟩ := three ZB.out.get
    go_wp2_with fail
    clear t0 t1 t2
    generalize hWe3 : (w13.alloc (.cells #[ha, hb, hc] 27)) = We3 at *
    clear m12_0 m12_1 m12_2 m13_0 m13_1 m13_2
    refine (eqTab_k H_f.out.get.reads_c Z_f.out.get.reads_c FX.out).mono ?_
    rintro e w14 ⟨rfl, k⟩
    replace B0 := Lib.hid (B0.out.below k)
    replace A0 := Lib.hid (A0.out.below k)
    replace Z_f := Lib.hid (Z_f.out.below k)
    replace ZB := Lib.hid (ZB.out.below k)
    replace GB := Lib.hid (GB.out.below k)
    replace G_f := Lib.hid (G_f.out.below k)
    replace H_f := Lib.hid (H_f.out.below k)
    replace HBX := Lib.hid (HBX.out.below k)
    replace HB := Lib.hid (HB.out.trans (k.mono HB.out.size))
    replace HSZ := Lib.hid (And.intro HSZ.out k.size)
    clear k
    obtain ⟨m14_0, m14_1, m14_2⟩ := three GB.out.get
    go_wp2_with fail
    clear m14_0 m14_1 m14_2
    refine (heldTab_k G_f.out.get.reads_c FX.out).mono ?_
    rintro e w15 ⟨rfl, k⟩
    replace B0 := Lib.hid (B0.out.below k)
    replace A0 := Lib.hid (A0.out.below k)
    replace Z_f := Lib.hid (Z_f.out.below k)
    replace ZB := Lib.hid (ZB.out.below k)
    replace GB := Lib.hid (GB.out.below k)
    replace G_f := Lib.hid (G_f.out.below k)
    replace H_f := Lib.hid (H_f.out.below k)
    replace HBX := Lib.hid (HBX.out.below k)
    replace HB := Lib.hid (HB.out.trans (k.mono HB.out.size))
    replace HSZ := Lib.hid (And.intro HSZ.out k.size)
    clear k
    go_wp2_with fail
    go_ret
    exact ⟨rfl, HB.out⟩
end Go.Proofs.Ytfbhnjdbamahkaa

/- The walk of FnExactStartTableau. -/
namespace Go.Proofs.Ytfbhnjdbamahkaa
open Go.RowKit
open Ve (R)
open Ta (T)
open Lp (P)
theorem start_ok (p : P) : TabOk (Ta.start p) := by
  have hwf : ∀ n : Nat, n ≤ 70 → (Lit.int .i64 (n : Int)).wf = true := fun n h => by
    have e1 : IntKind.i64.min = -9223372036854775808 := rfl
    have e2 : IntKind.i64.max = 9223372036854775807 := rfl
    simp [Lit.wf, e1, e2]
    omega
  rcases hv : Lp.vldP p with _ | _
  · rw [Ta.start_no hv]
    have hN : tabN ⟨[], [], 0⟩ ≤ 1048576 := by simp [tabN, cellsM]
    exact ⟨tabFits hN (hwf 0 (by omega)), hN⟩
  · rw [Ta.start_yes hv]
    obtain ⟨_, h2, h3, _⟩ := Lp.vld_parts hv
    have hr : (Ta.startAt p p.A.length).rows.length = p.A.length := by simp [Ta.startAt]
    have hb : (Ta.startAt p p.A.length).basis.length = p.A.length := by simp [Ta.startAt]
    have hc := cellsM_const (Ta.startAt p p.A.length).rows (p.C.length + p.A.length + 1) (fun k hk => by
      rw [hr] at hk
      rw [rr_of (show (Ta.startAt p p.A.length).rows[k]? = some (Ta.startRow p k) by simp [Ta.startAt, hk])]
      exact Ta.startRow_len hv hk)
    have hm : p.A.length * (p.C.length + p.A.length + 1) ≤ 8 * 79 := Nat.mul_le_mul h3 (by omega)
    have hN : tabN (Ta.startAt p p.A.length) ≤ 1048576 := by
      unfold tabN
      rw [hc, hr, hb]
      omega
    exact ⟨tabFits hN (hwf _ h2), hN⟩
theorem fnExactStartTableau.walk (a b c : Option Addr) (c1 c2 c3 : Nat) (p : P) (w : World) (hl : LpLens p) (hz : LpIn w.heap.size w a b c p) :
    Calls Try.prog 8 #[.agg #[.slice a p.A.length c1, .slice b p.B.length c2, .slice c p.C.length c3]] w fun e w' => e = .returned (.bool true) ∧ Below w.heap.size w w' :=
  fnExactStartTableau.walk_c p (Ta.start p) (fun _ => start_ok p)
    (fun f w x y z ⟨⟨a, b, c, c1, c2, c3, e0, e1, e2, h⟩, _⟩ => by
      subst e0 e1 e2
      refine (spec_StartTableau w.heap.size a b c c1 c2 c3 p f w (Nat.le_refl _) h).mono ?_
      rintro e w' ⟨v, rfl, ho, hb⟩
      obtain ⟨vR, vB, rfl, h1, h2⟩ := ho
      exact ⟨⟨_, _, _, rfl, SpTab.new ⟨_, _, rfl, h1, h2⟩⟩, hb⟩)
    (fun f w x y z ⟨⟨a, b, c, c1, c2, c3, e0, e1, e2, h⟩, hc⟩ => by
      subst e0 e1 e2
      refine (impl_StartTableau w.heap.size a b c c1 c2 c3 p f (hc _ _ _ rfl) w (Nat.le_refl _) h).mono ?_
      rintro e w' ⟨⟨vR, vB, rfl, hR, hB⟩, hb⟩
      exact ⟨⟨_, _, _, rfl, vR, vB, rfl, hR.res, RowAtI.of_own hB fun g hg => (World.ownsRow.lt hB g hg).2⟩, hb⟩)
    w _ _ _ hl ⟨a, b, c, c1, c2, c3, rfl, rfl, rfl, hz⟩
end Go.Proofs.Ytfbhnjdbamahkaa
