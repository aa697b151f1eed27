/- impl.columnOf, ColumnOf. -/
import Derived.Test.YtfbhnjdbamahkaaLpD
import Derived.Test.YtfbhnjdbamahkaaLpI1
namespace Go.Proofs.Ytfbhnjdbamahkaa
open Go.RowKit
open Ve (R)
open Lp (P)
set_option maxRecDepth 100000 in
set_option maxHeartbeats 2000000 in
theorem impl_columnOf (B : Nat) (a b c : Option Addr) (c1 c2 c3 : Nat) (p : P) (hn : LpFits p) (j : Nat) (hrow : ∀ k, k < p.A.length → j < (rw_ p.A k).length) (w : World) (hBw : B ≤ w.heap.size) (hz : LpIn B w a b c p) :
    Calls Try.prog 84 #[.agg #[.slice a p.A.length c1, .slice b p.B.length c2, .slice c p.C.length c3], .int .i64 j] w (MakesInts (Lp.col p j) w) := by
  have Hrow := Lib.hid hrow
  have HN := Lib.hid hn
  have hA := hn.A
  have hb := (Below.refl w.heap.size w).alloc (Nat.le_refl _) (.cells #[.slice a p.A.length c1, .slice b p.B.length c2, .slice c p.C.length c3] 38)
  have hx := (Tri.new w (.slice a p.A.length c1) (.slice b p.B.length c2) (.slice c p.C.length c3) 38)
  obtain ⟨x0, x1, x2, _⟩ := hx.cells
  have Hz := Lib.hid ((hz.mono hBw).below hb)
  have Hb := Lib.hid hb
  have Ho : Hid (OwnInts w.heap.size (w.alloc (.cells #[.slice a p.A.length c1, .slice b p.B.length c2, .slice c p.C.length c3] 38)) (.slice none 0 0) (cl p j 0)) := World.ownsRow_nil _ _ _ _
  obtain ⟨i0, hi, hz0, hz1, hz2⟩ := info_parts info_int
  have HI := Lib.hid hi
  have HZ0 := Lib.hid hz0
  have HZ1 := Lib.hid hz1
  have HZ2 := Lib.hid hz2
  have hjb : ∀ k, k < p.A.length → (rw_ p.A k).length ≤ 1048576 := hn.row
  have HJ := Lib.hid hjb
  clear hz hn hb hx hi hz0 hz1 hz2 hrow hjb
  go_enter Try.func84, Try.ntmps84
  go_wp2_with fail
  go_loopw [5, 11] (fun v i wr => ∃ k : Nat, k ≤ p.A.length ∧ i = .int .i64 k ∧ Hid (OwnInts w.heap.size wr v (cl p j k)) ∧ Hid (LpIn w.heap.size wr a b c p) ∧ Hid (Below w.heap.size w wr)) (fun _ i _ => p.A.length - (intOf i).toNat)
  case atStart => exact ⟨0, Nat.zero_le _, rfl, Ho, Hz.out, Hb.out⟩
  case round =>
    obtain ⟨k, hk, rfl, hO, hZ, hB⟩ := hrel
    by_cases hlt : k < p.A.length
    · obtain ⟨b1, o1, a', c', rfl, _, hcell, hN⟩ := hZ.out.mA k hlt
      have hrl := Hrow.out k hlt
      have hrl2 := HJ.out k hlt
      obtain ⟨b2, o2, rfl, _, hn2⟩ := hN j hrl
      have hsz := hB.out.size
      have He := Lib.hid (cl_next p j k)
      have hlen := Nat.le_of_eq (cl_len p j k)
      have Hown := Lib.hid (World.ownsRow.alloc hO.out (.cells #[.int .i64 ((rw_ p.A k).getD j 0)] 3))
      generalize cl p j k = ls at *
      generalize (rw_ p.A k).getD j 0 = x at *
      generalize rw_ p.A k = r at *
      clear hN x0 x1 x2
      go_wp2_with (at_builtin; refine wpList_append_own _ rfl _ _ 25 rfl w.heap.size 3 i0 (.int .i64 0) 1 8 Try.underlying25 HI.out HZ0.out HZ1.out HZ2.out rfl (by decide) _ _ _ rfl Hown.out ⟨wr.heap.size, 0, none⟩ 1 1 [.int .i64 x] rfl rfl ?c1 ?c2 ?c3 ?c4 ?c5 ?_)
      case c1 =>
        intro j u hj
        match j, hj with
        | 0, hj => simp at hj; subst hj; simp [Addr.add]
      case c2 => intro u hu; simp at hu; subst hu; rfl
      case c3 => unfold maxLen; omega
      case c4 => omega
      case c5 => simp; omega
      intro v' w3 hown' hgrow _
      have hkb : Below w.heap.size wr w3 := ((Below.refl w.heap.size wr).alloc hsz _).grown hgrow (by simp; omega) (fun g hg => by have := (Hown.out.lt g hg).1; omega)
      have HB3 := Lib.hid (hB.out.trans hkb)
      have HZ3 := Lib.hid (hZ.out.below hkb)
      have HO3 := Lib.hid (OwnInts.more hown')
      rw [← He.out] at HO3
      clear hown' hgrow hkb
      go_wp2_with fail
      go_roundw
      case rel => exact ⟨k + 1, by omega, by go_num, HO3, HZ3, HB3⟩
      case measure => simp [intOf]; omega
    · have he : Hid (cl p j k = Lp.col p j) := by
        show _ = _
        rw [← cl_all, show k = p.A.length by omega]
      clear x0 x1 x2
      go_wp2_with fail
      go_ret
      exact ⟨_, rfl, by rw [← he.out]; exact hO.out, hB.out⟩
set_option maxRecDepth 100000 in
set_option maxHeartbeats 2000000 in
theorem impl_ColumnOf (B : Nat) (a b c : Option Addr) (c1 c2 c3 : Nat) (p : P) (hn : LpFits p) (j : Int) (w : World) (hBw : B ≤ w.heap.size) (hz : LpIn B w a b c p) :
    Calls Try.prog 30 #[.agg #[.slice a p.A.length c1, .slice b p.B.length c2, .slice c p.C.length c3], .int .i64 j] w (MakesInts (colOf p j) w) := by
  obtain ⟨X, hX⟩ : ∃ X, colOf p j = X := ⟨_, rfl⟩
  rw [hX]
  have HX := Lib.hid hX
  have HN := Lib.hid hn
  have hC := hn.C
  have hb := (Below.refl w.heap.size w).alloc (Nat.le_refl _) (.cells #[.slice a p.A.length c1, .slice b p.B.length c2, .slice c p.C.length c3] 38)
  have hx := (Tri.new w (.slice a p.A.length c1) (.slice b p.B.length c2) (.slice c p.C.length c3) 38)
  have Hz := Lib.hid ((hz.mono hBw).below hb)
  have Hb := Lib.hid hb
  have Hx := Lib.hid hx
  clear hz hn hX hb hx
  go_enter Try.func30, Try.ntmps30
  go_wp2_with fail
  refine (impl_IsValidLP w.heap.size a b c c1 c2 c3 p HN.out _ Hb.out.size Hz.out).mono ?_
  rintro e w1 ⟨rfl, k1⟩
  have hx1 := Hx.out.below k1
  obtain ⟨x0, x1, x2, _⟩ := hx1.cells
  have Hb1 := Lib.hid (Hb.out.trans (k1.mono Hb.out.size))
  have Hz1 := Lib.hid (Hz.out.below (k1.mono Hb.out.size))
  clear k1 hx1
  rcases hv : Lp.vldP p with _ | _
  · have he : X = [] := by rw [← HX.out]; exact col_no_valid hv
    subst he
    clear hv
    go_wp2_with fail
    go_ret
    exact ⟨_, rfl, World.ownsRow_nil _ _ _ _, Hb1.out⟩
  · by_cases hj0 : j < 0
    · have he : X = [] := by rw [← HX.out]; exact col_no_column (by rw [decide_eq_false_iff_not]; omega)
      subst he
      have hd : decide (j < 0) = true := by rw [decide_eq_true_iff]; exact hj0
      clear hv
      go_wp2_with fail
      go_ret
      exact ⟨_, rfl, World.ownsRow_nil _ _ _ _, Hb1.out⟩
    · have hd : decide (j < 0) = false := by rw [decide_eq_false_iff_not]; exact hj0
      obtain ⟨jn, rfl⟩ : ∃ jn : Nat, j = jn := ⟨j.toNat, by omega⟩
      by_cases hj : jn < p.C.length
      · have hd2 : decide (p.C.length ≤ jn) = false := by rw [decide_eq_false_iff_not]; omega
        have hd3 : decide ((p.C.length : Int) ≤ (jn : Int)) = false := by rw [decide_eq_false_iff_not]; omega
        have he : Lp.col p jn = X := by rw [← HX.out]; exact (col_yes hv hj).symm
        have HE := Lib.hid he
        have Hrow := Lib.hid (fun k (hk : k < p.A.length) => (show jn < (rw_ p.A k).length by have := (Lp.rows_at (Lp.vld_parts hv).1 hk).1; rw [show Lp.row p k = rw_ p.A k from rfl] at this; omega))
        clear hv he
        go_wp2_with fail
        refine (impl_columnOf w.heap.size a b c c1 c2 c3 p HN.out jn Hrow.out _ Hb1.out.size Hz1.out).mono ?_
        rintro e w2 ⟨v, rfl, ho, k2⟩
        rw [HE.out] at ho
        have HO := Lib.hid (OwnInts.raise ho Hb1.out.size)
        have Hb2 := Lib.hid (Hb1.out.trans (k2.mono Hb1.out.size))
        clear ho k2
        go_wp2_with fail
        go_ret
        exact ⟨_, rfl, HO.out, Hb2.out⟩
      · have he : X = [] := by rw [← HX.out]; exact col_no_column (by rw [decide_eq_false_iff_not]; omega)
        subst he
        have hd2 : decide (p.C.length ≤ jn) = true := by rw [decide_eq_true_iff]; omega
        have hd3 : decide ((p.C.length : Int) ≤ (jn : Int)) = true := by rw [decide_eq_true_iff]; omega
        clear hv
        go_wp2_with fail
        go_ret
        exact ⟨_, rfl, World.ownsRow_nil _ _ _ _, Hb1.out⟩
end Go.Proofs.Ytfbhnjdbamahkaa
