/- The specification's DotRat, AddScaled, IntsToRats. -/
import Derived.Test.YtlaohlcghdbjhaaVeB
import Derived.Laws.AppendOwn
import Derived.Deep.LoopGhost
namespace Go.Proofs.Ytlaohlcghdbjhaa
open Go.RowKit
open Ve (R)

/-- A box of a fraction. -/
def BoxAt (w : World) (p : Nat) (x : R) : Prop := w.heap[p]? = some (.cells #[.int .i64 x.1, .int .i64 x.2] 30)
theorem BoxAt.four {w : World} {p : Nat} {x : R} (h : BoxAt w p x) :
    w.cell? ⟨p, 0, none⟩ = some (.int .i64 x.1) ∧ w.cell? ⟨p, 1, none⟩ = some (.int .i64 x.2) ∧ w.frozen? ⟨p, 0, none⟩ = false ∧ w.frozen? ⟨p, 1, none⟩ = false := cells2_of h
theorem BoxAt.lt {w : World} {p : Nat} {x : R} (h : BoxAt w p x) : p < w.heap.size := lt_of_at h
theorem BoxAt.below {w w' : World} {p : Nat} {x : R} (h : BoxAt w p x) (hb : Below w.heap.size w w') : BoxAt w' p x := (hb.block p h.lt).trans h
theorem BoxAt.since {w w' : World} {p : Nat} {x : R} (h : BoxAt w p x) (hb : Since w w') : BoxAt w' p x := h.below hb.low
theorem BoxAt.alloc {w : World} {p : Nat} {x : R} (h : BoxAt w p x) (o : Obj) : BoxAt (w.alloc o) p x := pr_alloc h o
theorem BoxAt.new (w : World) (x : R) : BoxAt (w.alloc (.cells #[.int .i64 x.1, .int .i64 x.2] 30)) w.heap.size x := pr_new w _
theorem BoxAt.set {w : World} {p : Nat} {x : R} (h : BoxAt w p x) (y : R) : BoxAt ((w.setCell ⟨p, 0, none⟩ (.int .i64 y.1)).setCell ⟨p, 1, none⟩ (.int .i64 y.2)) p y := by
  unfold BoxAt at h ⊢
  simp [World.setCell, Array.getElem?_modify, h]
theorem BoxAt.other {w : World} {p q : Nat} {x : R} (h : BoxAt w p x) (hne : p ≠ q) (i j : Nat) (u v : Value) : BoxAt ((w.setCell ⟨q, i, none⟩ u).setCell ⟨q, j, none⟩ v) p x := by
  unfold BoxAt
  rw [Below.heap_setCell _ _ _ _ hne, Below.heap_setCell _ _ _ _ hne]
  exact h
theorem got_box {B : World} {x : R} {k : Bool} {p b : Value} {wx : World} (h : Got B x.1 x.2 k p b wx) :
    ∃ q : Nat, p = .pointer (some ⟨q, 0, none⟩) ∧ b = .bool k ∧ wx.cell? ⟨q, 0, none⟩ = some (.int .i64 x.1) ∧ wx.cell? ⟨q, 1, none⟩ = some (.int .i64 x.2) ∧ q < wx.heap.size ∧ B.heap.size ≤ q ∧ Since B wx := h

theorem spec_mul (x y : R) (w : World) : Calls Try.prog 31 #[.agg #[.int .i64 x.1, .int .i64 x.2], .agg #[.int .i64 y.1, .int .i64 y.2]] w fun e w' => e = .returned (.tuple #[.agg #[.int .i64 (Ve.mulR x y).1, .int .i64 (Ve.mulR x y).2], .bool (Ve.mulK x y)]) ∧ Below w.heap.size w w' := spec_MulRat x.1 x.2 y.1 y.2 w
theorem spec_add (x y : R) (w : World) : Calls Try.prog 32 #[.agg #[.int .i64 x.1, .int .i64 x.2], .agg #[.int .i64 y.1, .int .i64 y.2]] w fun e w' => e = .returned (.tuple #[.agg #[.int .i64 (Ve.addR x y).1, .int .i64 (Ve.addR x y).2], .bool (Ve.addK x y)]) ∧ Below w.heap.size w w' := spec_AddRat x.1 x.2 y.1 y.2 w
theorem spec_l3Int (n : Int) (w : World) : Calls Try.prog 30 #[.int .i64 n] w fun e w' => e = .returned (.agg #[.int .i64 n, .int .i64 1]) ∧ Below w.heap.size w w' := by
  go_enter Try.func30, Try.ntmps30
  go_wp2_with fail
  exact bodyPost_ret (v := .agg #[.int .i64 n, .int .i64 1]) (by simp [results, Try.results30, go_sem]) rfl ⟨rfl, by (repeat' (first | exact Below.refl _ _ | exact Nat.le_refl _ | refine Below.setCell ?_ ?_ _ | refine Below.alloc ?_ ?_ _ | refine below_drewN ?_ _ | refine Below.drew ?_ | (simp; done) | (simp; omega)))⟩
set_option maxRecDepth 100000 in
set_option maxHeartbeats 4000000 in
theorem spec_DotRat (B : Nat) (a1 a2 : Option Addr) (c1 c2 : Nat) (xs ys : List R) (hn : xs.length ≤ 1048576) (_hn2 : ys.length ≤ 1048576) (w : World) (hBw : B ≤ w.heap.size) (h1 : RatsIn B w a1 xs) (h2 : RatsIn B w a2 ys) :
    Calls Try.prog 13 #[.slice a1 xs.length c1, .slice a2 ys.length c2] w (OneRat (Ve.dotR xs ys) (Ve.dotK xs ys) w) := by
  by_cases hl : xs.length = ys.length
  · obtain ⟨D, hD⟩ : ∃ D, Ve.dotR xs ys = D := ⟨_, rfl⟩
    obtain ⟨K, hK⟩ : ∃ K, Ve.dotK xs ys = K := ⟨_, rfl⟩
    rw [hD, hK]
    have HD := Lib.hid hD
    have HK := Lib.hid hK
    have H1 := Lib.hid (h1.mono hBw)
    have H2 := Lib.hid (h2.mono hBw)
    have HL := Lib.hid hl
    rw [← hl]
    clear h1 h2 hD hK hl
    go_enter Try.func13, Try.ntmps13
    go_wp2_with fail
    refine (spec_l3Int 0 _).mono ?_
    rintro e w1 ⟨rfl, hb1⟩
    have HR1 := Lib.hid (((BoxAt.new w (0, 0)).below hb1).alloc (.cells #[.int .i64 0, .int .i64 1] 30))
    have HS1 := Lib.hid (BoxAt.new w1 (0, 1))
    have Hb1 := Lib.hid ((low1 hb1).alloc (low1 hb1).size (.cells #[.int .i64 0, .int .i64 1] 30))
    have hlt1 : w.heap.size < w1.heap.size := by have := hb1.size; rw [size1] at this; exact this
    clear hb1
    go_wp2_with fail
    go_loopg [7] xs.length (fun gk i wr => ∃ k : Nat, gk + k = xs.length ∧ i = .int .i64 k ∧ Hid (BoxAt wr w.heap.size (0, 0)) ∧ Hid (BoxAt wr w1.heap.size (Ve.acc xs ys k).1) ∧ Hid ((Ve.acc xs ys k).2 = true) ∧ Hid (Below w.heap.size w wr))
    case atStart => exact ⟨0, by omega, rfl, HR1, HS1, rfl, Hb1⟩
    case round =>
      obtain ⟨k, hk, rfl, hR, hS, hA, hB⟩ := hrel
      by_cases hlt : k < xs.length
      · obtain ⟨b1, o1, rfl, l1, p0, p1⟩ := (H1.out.below hB.out).at k hlt
        obtain ⟨b2, o2, rfl, l2, q0, q1⟩ := (H2.out.below hB.out).at k (HL.out ▸ hlt)
        have hsz := hB.out.size
        have HQ : Hid (Quad b1 (o1 + k * 2) b2 (o2 + k * 2) (Ve.at_ xs k) (Ve.at_ ys k) wr) := ⟨p0, p1, q0, q1, by omega, by omega⟩
        have hin := Since.refl wr
        have HA1 := Lib.hid (Ve.acc_succ xs ys k)
        have Hj := Lib.hid hk
        clear hk
        generalize Ve.at_ xs k = x at *
        generalize Ve.at_ ys k = y at *
        generalize Ve.acc xs ys k = s at *
        go_upto_region 7 with (fail)
        go_cut [8, 9] (fun p b wx => Got wr (Ve.mulR x y).1 (Ve.mulR x y).2 (Ve.mulK x y) p b wx)
        case first =>
          go_region_held3 (fun w' => w'.cell? ⟨b1, o1 + k * 2, none⟩ = some (.int .i64 x.1) ∧ w'.cell? ⟨b1, o1 + k * 2 + 1, none⟩ = some (.int .i64 x.2) ∧ w'.cell? ⟨b2, o2 + k * 2, none⟩ = some (.int .i64 y.1) ∧ w'.cell? ⟨b2, o2 + k * 2 + 1, none⟩ = some (.int .i64 y.2) ∧ Since wr w') (first | exact Quad.five HQ (by assumption) | exact Quad.five HQ (Since.drew (by assumption)) | exact Quad.five HQ (Own2.since (by assumption)) | exact Quad.five HQ (Since.drew (Own2.since (by assumption))) | exact Quad.five HQ (Since.alloc (by assumption) _) | exact Quad.five HQ (Since.drew (Since.alloc (by assumption) _)) | exact Quad.five HQ (Own2.set2 (by assumption) _ _) | exact Quad.five HQ (Since.drew (Own2.set2 (by assumption) _ _)))
            (first | (go_at_call 31; refine (calls_own (spec_mul x y _) (B := wr) (x := .int .i64 0) (y := .int .i64 0) (t := 30) (by first | assumption | exact Own2.drew (by assumption) | exact Since.new (by assumption) _ _ _ | exact Own2.drew (Since.new (by assumption) _ _ _))).mono ?_; rintro e w' ⟨⟨rfl, _⟩, hin3⟩; obtain ⟨z0, z1, f0, f1⟩ := Own2.own hin3) | (go_at_call 31; refine (calls_since (spec_mul x y _) (B := wr) (by first | assumption | exact Since.drew (by assumption))).mono ?_; rintro e w' ⟨⟨rfl, _⟩, hin2⟩))
          all_goals
            go_wp2_with fail
            go_meet
            first
            | exact Got.last (by assumption) _ _ _ _
            | exact Got.set (by assumption) _ _ _
            | exact Got.drew (Got.last (by assumption) _ _ _ _)
            | exact Got.drew (Got.set (by assumption) _ _ _)
        case rest =>
          obtain ⟨q, rfl, rfl, m0, m1, hq, hqh, hs1⟩ := hcut
          have HB1 := Lib.hid (hB.out.trans (hs1.low.mono hsz))
          have HR1 := Lib.hid (hR.out.since hs1)
          have HS1 := Lib.hid (hS.out.since hs1)
          have HM := Lib.hid (And.intro m0 (And.intro m1 hq))
          have Hlt := Lib.hid (And.intro hS.out.lt (And.intro hR.out.lt hqh))
          obtain ⟨s0, s1, -, -⟩ := HS1.out.four
          clear hs1 hin HQ p0 p1 q0 q1 hR hS hB hsz hq hqh
          have HC := Lib.hid (spec_add s.1 (Ve.mulR x y))
          have Hno := Lib.hid (Ve.add_mul_no s.1 (x := x) (y := y))
          have HA2 := Lib.hid (show Ve.acc xs ys (k + 1) = (Ve.addR s.1 (Ve.mulR x y), Ve.addK s.1 (Ve.mulR x y)) from HA1.out)
          clear HA1
          generalize Ve.addR s.1 (Ve.mulR x y) = A at *
          generalize hak : Ve.addK s.1 (Ve.mulR x y) = ak at *
          generalize hmk : Ve.mulK x y = mk at *
          generalize Ve.mulR x y = m at *
          clear hak
          go_wp2_with fail
          refine (HC.out _).mono ?_
          rintro e w2 ⟨rfl, hb2⟩
          have HB2 := Lib.hid ((HB1.out.trans (hb2.mono HB1.out.size)).alloc (HB1.out.trans (hb2.mono HB1.out.size)).size (.cells #[.int .i64 A.1, .int .i64 A.2] 30))
          have HR2 := Lib.hid ((HR1.out.below hb2).alloc (.cells #[.int .i64 A.1, .int .i64 A.2] 30))
          have HS2 := Lib.hid ((HS1.out.below hb2).alloc (.cells #[.int .i64 A.1, .int .i64 A.2] 30))
          have HT2 := Lib.hid (BoxAt.new w2 A)
          have HS3 := Lib.hid (show w1.heap.size < w2.heap.size from Nat.lt_of_lt_of_le HS1.out.lt hb2.size)
          clear hb2 HB1 HR1 HS1 m0 m1 s0 s1
          cases ak with
          | false =>
            have hE := Ve.dot_cut (k := k + 1) HL.out (by omega) (by rw [HA2.out])
            rw [HD.out, HK.out] at hE
            have HE1 := Lib.hid hE.1
            have HE2 := Lib.hid hE.2
            clear hE
            obtain ⟨r0, r1, f0, f1⟩ := HR2.out.four
            cases mk
            all_goals
              clear hmk
              go_wp2_with fail
              have hz := pair_set (x := .int .i64 0) (y := .int .i64 0) r0 r1
              rw [HE1.out, HE2.out]
              exact bodyPost_ret (v := .tuple #[.agg #[.int .i64 0, .int .i64 0], .bool false]) (by simp [results, Try.results13, go_sem, hz.1, hz.2]) rfl ⟨rfl, (HB2.out.setCell (p := ⟨w.heap.size, 0, none⟩) (Nat.le_refl _) _).setCell (p := ⟨w.heap.size, 1, none⟩) (Nat.le_refl _) _⟩
          | true =>
            cases mk with
            | false => exact absurd (Hno.out rfl) (by simp)
            | true =>
              clear hmk
              obtain ⟨s0, s1, f0, f1⟩ := HS2.out.four
              obtain ⟨t0, t1, -, -⟩ := HT2.out.four
              have HR3 := Lib.hid (HR2.out.other (q := w1.heap.size) (by omega) 0 1 (.int .i64 A.1) (.int .i64 A.2))
              have HS4 := Lib.hid (HS2.out.set A)
              have HB3 := Lib.hid ((HB2.out.setCell (p := ⟨w1.heap.size, 0, none⟩) (by show w.heap.size ≤ w1.heap.size; omega) (.int .i64 A.1)).setCell (p := ⟨w1.heap.size, 1, none⟩) (by show w.heap.size ≤ w1.heap.size; omega) (.int .i64 A.2))
              go_wp2_with fail
              go_roundg (gk - 1)
              case measure => have := Hj.out; omega
              case rel => exact ⟨k + 1, by have := Hj.out; omega, by go_num, HR3, (by rw [HA2.out]; exact HS4), (by rw [HA2.out]; rfl), HB3⟩
      · have he : k = xs.length := by omega
        have HE : Hid ((Ve.acc xs ys k).1 = D ∧ true = K) := by
          have h3 := Ve.dot_same HL.out
          rw [HD.out, HK.out] at h3
          rw [he]
          refine ⟨h3.1.symm, ?_⟩
          rw [h3.2, ← he]; exact hA.out.symm
        generalize Ve.acc xs ys k = s at *
        obtain ⟨s0, s1, -, -⟩ := hS.out.four
        obtain ⟨r0, r1, f0, f1⟩ := hR.out.four
        clear he
        go_wp2_with fail
        have hz := pair_set (x := .int .i64 s.1.1) (y := .int .i64 s.1.2) r0 r1
        rw [← HE.out.1, ← HE.out.2]
        exact bodyPost_ret (v := .tuple #[.agg #[.int .i64 s.1.1, .int .i64 s.1.2], .bool true]) (by simp [results, Try.results13, go_sem, hz.1, hz.2]) rfl ⟨rfl, (hB.out.setCell (p := ⟨w.heap.size, 0, none⟩) (Nat.le_refl _) _).setCell (p := ⟨w.heap.size, 1, none⟩) (Nat.le_refl _) _⟩
  · obtain ⟨e1, e2⟩ := Ve.dot_len hl
    rw [e1, e2]
    have hlb : ((xs.length : Int) == (ys.length : Int)) = false ∧ ((xs.length : Int) != (ys.length : Int)) = true := by
      have h1 : ((xs.length : Int) == (ys.length : Int)) = false := by rw [beq_eq_false_iff_ne]; omega
      exact ⟨h1, by rw [bne, h1]; rfl⟩
    obtain ⟨l1, l2⟩ := hlb
    clear e1 e2 h1 h2
    go_enter Try.func13, Try.ntmps13
    go_wp2_with fail
    exact bodyPost_ret (v := .tuple #[.agg #[.int .i64 0, .int .i64 0], .bool false]) (by simp [results, Try.results13, go_sem]) rfl ⟨rfl, by (repeat' (first | exact Below.refl _ _ | exact Nat.le_refl _ | refine Below.setCell ?_ ?_ _ | refine Below.alloc ?_ ?_ _ | refine below_drewN ?_ _ | refine Below.drew ?_ | (simp; done) | (simp; omega)))⟩
end Go.Proofs.Ytlaohlcghdbjhaa
