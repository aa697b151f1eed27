/- spec.ColumnOf, l5Zeros. -/
import Derived.Test.YtfbhnjdbamahkaaLpC
namespace Go.Proofs.Ytfbhnjdbamahkaa
open Go.RowKit
open Ve (R)
open Lp (P)
/-- What ColumnOf answers. -/
def colOf (p : P) (j : Int) : List Int := if Lp.vldP p = true ∧ 0 ≤ j ∧ j < p.C.length then Lp.col p j.toNat else []
/-- The first k of a column. -/
def cl (p : P) (j k : Nat) : List Int := (List.range k).map fun i => (rw_ p.A i).getD j 0
theorem cl_len (p : P) (j k : Nat) : (cl p j k).length = k := by simp [cl]
theorem cl_next (p : P) (j k : Nat) : cl p j (k + 1) = cl p j k ++ [(rw_ p.A k).getD j 0] := by simp [cl, List.range_succ]
theorem cl_all (p : P) (j : Nat) : cl p j p.A.length = Lp.col p j := by
  apply List.ext_getElem
  · simp [cl, Lp.col]
  · intro i h1 h2
    have hi : i < p.A.length := by simpa [cl] using h1
    simp [cl, Lp.col, rw_, hi]
theorem col_no_valid {p : P} {j : Int} (h : Lp.vldP p = false) : colOf p j = [] := by unfold colOf; simp [h]
theorem col_no_column {p : P} {j : Int} (h : decide (0 ≤ j ∧ j ≤ (p.C.length : Int) - 1) = false) : colOf p j = [] := by
  unfold colOf
  rw [decide_eq_false_iff_not] at h
  rw [if_neg (fun h2 => h ⟨h2.2.1, by omega⟩)]
theorem col_yes {p : P} {j : Nat} (h : Lp.vldP p = true) (hj : j < p.C.length) : colOf p j = Lp.col p j := by
  unfold colOf
  rw [if_pos ⟨h, by omega, by omega⟩]; rfl
set_option maxRecDepth 100000 in
set_option maxHeartbeats 2000000 in
theorem spec_ColumnOf (B : Nat) (a b c : Option Addr) (c1 c2 c3 : Nat) (p : P) (hn : LpFits p) (j : Int) (w : World) (hBw : B ≤ w.heap.size) (hz : LpIn B w a b c p) :
    Calls Try.prog 29 #[.agg #[.slice a p.A.length c1, .slice b p.B.length c2, .slice c p.C.length c3], .int .i64 j] w (MakesInts (colOf p j) w) := by
  obtain ⟨X, hX⟩ : ∃ X, colOf p j = X := ⟨_, rfl⟩
  rw [hX]
  have HX := Lib.hid hX
  have HN := Lib.hid hn
  have hC := hn.C
  have hA := hn.A
  have hb := ((Below.refl w.heap.size w).alloc (Nat.le_refl _) (.cells #[.slice a p.A.length c1, .slice b p.B.length c2, .slice c p.C.length c3] 38)).alloc (by rw [size1]; omega) (.cells #[] 3)
  have hx := (Tri.new w (.slice a p.A.length c1) (.slice b p.B.length c2) (.slice c p.C.length c3) 38).more (.cells #[] 3)
  have ho : OwnInts (w.heap.size + 1) ((w.alloc (.cells #[.slice a p.A.length c1, .slice b p.B.length c2, .slice c p.C.length c3] 38)).alloc (.cells #[] 3)) (.slice (some ⟨w.heap.size + 1, 0, none⟩) 0 0) [] := by
    have := World.ownsRow_made (base := w.heap.size + 1) (e := 3) (size := 1) (w.alloc (.cells #[.slice a p.A.length c1, .slice b p.B.length c2, .slice c p.C.length c3] 38)) #[] 0 (by rw [size1]; omega) (Nat.zero_le _) rfl
    rw [size1] at this
    exact this
  have Hz := Lib.hid ((hz.mono hBw).below hb)
  have Hb := Lib.hid hb
  have Hx := Lib.hid hx
  have Ho := Lib.hid ho
  obtain ⟨i0, hi, hz0, hz1, hz2⟩ := info_parts info_int
  have HI := Lib.hid hi
  have HZ0 := Lib.hid hz0
  have HZ1 := Lib.hid hz1
  have HZ2 := Lib.hid hz2
  clear hz hn hX hb hx ho hi hz0 hz1 hz2
  go_enter Try.func29, Try.ntmps29
  go_wp2_with fail
  refine (spec_IsValidLP w.heap.size a b c c1 c2 c3 p HN.out _ Hb.out.size Hz.out).mono ?_
  rintro e w1 ⟨rfl, k1⟩
  have hx1 := Hx.out.below k1
  obtain ⟨x0, x1, x2, _⟩ := hx1.cells
  have Hx1 := Lib.hid hx1
  have Hb1 := Lib.hid (Hb.out.trans (k1.mono Hb.out.size))
  have Hz1 := Lib.hid (Hz.out.below (k1.mono Hb.out.size))
  have Ho1 := Lib.hid (Ho.out.below k1)
  clear k1 hx1
  rcases hv : Lp.vldP p with _ | _
  · have he : X = [] := by rw [← HX.out]; exact col_no_valid hv
    subst he
    clear hv
    go_wp2_with fail
    go_ret
    exact ⟨_, rfl, Ho1.out.raise (Nat.le_succ _), Hb1.out⟩
  · rcases hj : decide (0 ≤ j ∧ j ≤ (p.C.length : Int) - 1) with _ | _
    · have he : X = [] := by rw [← HX.out]; exact col_no_column hj
      subst he
      have Hj := Lib.hid hj
      clear hv hj
      go_wp2_with fail
      refine (spec_l1In j 0 _ false Hj.out _).mono ?_
      rintro e w2 ⟨rfl, rfl⟩
      go_wp2_with fail
      go_ret
      exact ⟨_, rfl, Ho1.out.raise (Nat.le_succ _), Hb1.out⟩
    · have hjj := of_decide_eq_true hj
      obtain ⟨jn, rfl⟩ : ∃ jn : Nat, j = jn := ⟨j.toNat, by omega⟩
      have hjl : jn < p.C.length := by omega
      have he : Lp.col p jn = X := by rw [← HX.out]; exact (col_yes hv hjl).symm
      have HE := Lib.hid he
      have Hj := Lib.hid hj
      have Hrow := Lib.hid (fun k (hk : k < p.A.length) => (Lp.rows_at (Lp.vld_parts hv).1 hk).1)
      clear hv hj hjj he
      go_wp2_with fail
      refine (spec_l1In (jn : Int) 0 _ true Hj.out _).mono ?_
      rintro e w2 ⟨rfl, rfl⟩
      go_wp2_with fail
      go_loopw [5, 6] (fun v i wr => ∃ k : Nat, k ≤ p.A.length ∧ i = .int .i64 k ∧ Hid (OwnInts (w.heap.size + 1) wr v (cl p jn k)) ∧ Hid (Tri wr w.heap.size (.slice a p.A.length c1) (.slice b p.B.length c2) (.slice c p.C.length c3) 38) ∧ Hid (LpIn w.heap.size wr a b c p) ∧ Hid (Below w.heap.size w wr)) (fun _ i _ => p.A.length - (intOf i).toNat)
      case atStart => exact ⟨0, Nat.zero_le _, rfl, Ho1.out, Hx1.out, Hz1.out, Hb1.out⟩
      case round =>
        obtain ⟨k, hk, rfl, hO, hT, hZ, hB⟩ := hrel
        clear x0 x1 x2
        obtain ⟨x0, x1, x2, _⟩ := hT.out.cells
        by_cases hlt : k < p.A.length
        · obtain ⟨b1, o1, a', c', rfl, _, hcell, hN⟩ := hZ.out.mA k hlt
          have hrl : jn < (rw_ p.A k).length := by have := Hrow.out k hlt; rw [show Lp.row p k = rw_ p.A k from rfl] at this; omega
          obtain ⟨b2, o2, rfl, _, hn2⟩ := hN jn hrl
          have hsz := hB.out.size
          have He := Lib.hid (cl_next p jn k)
          have hlen := Nat.le_of_eq (cl_len p jn k)
          have Hown := Lib.hid (World.ownsRow.alloc hO.out (.cells #[.int .i64 ((rw_ p.A k).getD jn 0)] 3))
          generalize cl p jn k = ls at *
          generalize (rw_ p.A k).getD jn 0 = x at *
          generalize rw_ p.A k = r at *
          clear hN
          go_wp2_with (at_builtin; refine wpList_append_own _ rfl _ _ 25 rfl (w.heap.size + 1) 3 i0 (.int .i64 0) 1 8 Try.underlying25 HI.out HZ0.out HZ1.out HZ2.out rfl (by decide) _ _ _ rfl Hown.out ⟨wr.heap.size, 0, none⟩ 1 1 [.int .i64 x] rfl rfl ?c1 ?c2 ?c3 ?c4 ?c5 ?_)
          case c1 =>
            intro j u hj
            match j, hj with
            | 0, hj => simp at hj; subst hj; simp [Addr.add]
          case c2 => intro u hu; simp at hu; subst hu; rfl
          case c3 => unfold maxLen; omega
          case c4 => omega
          case c5 => simp; omega
          intro v' w3 hown' hgrow _
          have hkb : Below w.heap.size wr w3 := ((Below.refl w.heap.size wr).alloc hsz _).grown hgrow (by simp; omega) (fun g hg => by have := (Hown.out.lt g hg).1; omega)
          have HB3 := Lib.hid (hB.out.trans hkb)
          have HZ3 := Lib.hid (hZ.out.below hkb)
          have hT1 := hT.out.more (.cells #[.int .i64 x] 3)
          have HT3 := Lib.hid ((hgrow.block _ (lt_of_at hT1) (fun e => by have := (Hown.out.lt _ e.symm).1; omega)).trans hT1)
          have HO3 := Lib.hid (OwnInts.more hown')
          rw [← He.out] at HO3
          clear hown' hgrow hkb hT1
          go_wp2_with fail
          go_roundw
          case rel => exact ⟨k + 1, by omega, by go_num, HO3, HT3, HZ3, HB3⟩
          case measure => simp [intOf]; omega
        · have he : Hid (cl p jn k = X) := by
            show _ = _
            rw [← HE.out, ← cl_all, show k = p.A.length by omega]
          go_wp2_with fail
          go_ret
          exact ⟨_, rfl, by rw [← he.out]; exact hO.out.raise (Nat.le_succ _), hB.out⟩
theorem zeros_next (k : Nat) : Lp.zerosR (k + 1) = Lp.zerosR k ++ [(0, 1)] := by simp [Lp.zerosR, List.range_succ]
theorem zeros_len (k : Nat) : (Lp.zerosR k).length = k := by simp [Lp.zerosR]
set_option maxRecDepth 100000 in
set_option maxHeartbeats 1000000 in
theorem spec_l5Zeros (n : Nat) (hn : n ≤ 1048576) (w : World) : Calls Try.prog 95 #[.int .i64 n] w (MakesRats (Lp.zerosR n) w) := by
  obtain ⟨i0, hi, hz0, hz1, hz2⟩ := info_parts info_rat
  have HI := Lib.hid hi
  have HZ0 := Lib.hid hz0
  have HZ1 := Lib.hid hz1
  have HZ2 := Lib.hid hz2
  clear hi hz0 hz1 hz2
  have HO1 : Hid (OwnRats w.heap.size (w.alloc (.cells #[] 34)) (.slice (some ⟨w.heap.size, 0, none⟩) 0 0) []) := World.ownsRow_made w #[] 0 (Nat.le_refl _) (Nat.zero_le _) rfl
  have HB1 := Lib.hid ((Below.refl w.heap.size w).alloc (Nat.le_refl _) (.cells #[] 34))
  go_enter Try.func95, Try.ntmps95
  go_wp2_with fail
  go_loopw [3, 4] (fun v i wr => ∃ k : Nat, k ≤ n ∧ i = .int .i64 k ∧ Hid (OwnRats w.heap.size wr v (Lp.zerosR k)) ∧ Hid (Below w.heap.size w wr)) (fun _ i _ => n - (intOf i).toNat)
  case atStart => exact ⟨0, Nat.zero_le _, rfl, HO1, HB1⟩
  case round =>
    obtain ⟨k, hk, rfl, hO, hB⟩ := hrel
    by_cases hlt : k < n
    · have hsz := hB.out.size
      have He := Lib.hid (zeros_next k)
      have hlen := Nat.le_of_eq (zeros_len k)
      generalize Lp.zerosR k = ls at *
      go_wp2_with fail
      refine (spec_l3Int 0 _).mono ?_
      rintro e w2 ⟨rfl, hb2⟩
      have HB2 := Lib.hid (hB.out.trans (hb2.mono hsz))
      have hsz2 := HB2.out.size
      have Hown := Lib.hid (World.ownsRow.alloc (hO.out.below hb2) (.cells #[.int .i64 0, .int .i64 1] 34))
      clear hb2
      go_wp2_with (at_builtin; refine wpList_append_own _ rfl _ _ 35 rfl w.heap.size 34 i0 (.agg #[.int .i64 0, .int .i64 0]) 2 16 Try.underlying35 HI.out HZ0.out HZ1.out HZ2.out rfl (by decide) _ _ _ rfl Hown.out ⟨w2.heap.size, 0, none⟩ 1 1 [.int .i64 0, .int .i64 1] rfl rfl ?c1 ?c2 ?c3 ?c4 ?c5 ?_)
      case c1 =>
        intro j u hj
        match j, hj with
        | 0, hj => simp at hj; subst hj; simp [Addr.add]
        | 1, hj => simp at hj; subst hj; simp [Addr.add]
      case c2 => intro u hu; simp at hu; rcases hu with rfl | rfl <;> rfl
      case c3 => unfold maxLen; omega
      case c4 => omega
      case c5 => simp; omega
      intro v' w3 hown' hgrow _
      have hne := Hown.out.lt
      have Ho1 := Lib.hid (OwnRats.more (x := (0, 1)) hown')
      have Hb1 := Lib.hid ((HB2.out.alloc hsz2 (.cells #[.int .i64 0, .int .i64 1] 34)).grown hgrow (by simp; omega) (fun g hg => (hne g hg).1))
      rw [← He.out] at Ho1
      clear hown' hgrow hne
      go_wp2_with fail
      go_roundw
      case rel => exact ⟨k + 1, by omega, by go_num, Ho1, Hb1⟩
      case measure => simp [intOf]; omega
    · have he : k = n := by omega
      subst he
      go_wp2_with fail
      go_ret
      exact ⟨_, rfl, hO.out, hB.out⟩
end Go.Proofs.Ytfbhnjdbamahkaa
