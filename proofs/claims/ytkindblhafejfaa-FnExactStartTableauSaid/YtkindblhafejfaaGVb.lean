/- The parts VeC, VeC2, VeC3. -/
import Derived.Test.YtkindblhafejfaaGVa
import Derived.Laws.AppendOwn
import Derived.Deep.LoopGhost
/- The specification's DotRat, AddScaled, IntsToRats. -/
namespace Go.Proofs.Ytkindblhafejfaa
open Go.RowKit
open Ve (R)

/-- A box of a fraction. -/
def BoxAt (w : World) (p : Nat) (x : R) : Prop := w.heap[p]? = some (.cells #[.int .i64 x.1, .int .i64 x.2] 59)
theorem BoxAt.four {w : World} {p : Nat} {x : R} (h : BoxAt w p x) :
    w.cell? ⟨p, 0, none⟩ = some (.int .i64 x.1) ∧ w.cell? ⟨p, 1, none⟩ = some (.int .i64 x.2) ∧ w.frozen? ⟨p, 0, none⟩ = false ∧ w.frozen? ⟨p, 1, none⟩ = false := cells2_of h
theorem BoxAt.lt {w : World} {p : Nat} {x : R} (h : BoxAt w p x) : p < w.heap.size := lt_of_at h
theorem BoxAt.below {w w' : World} {p : Nat} {x : R} (h : BoxAt w p x) (hb : Below w.heap.size w w') : BoxAt w' p x := (hb.block p h.lt).trans h
theorem BoxAt.since {w w' : World} {p : Nat} {x : R} (h : BoxAt w p x) (hb : Since w w') : BoxAt w' p x := h.below hb.low
theorem BoxAt.alloc {w : World} {p : Nat} {x : R} (h : BoxAt w p x) (o : Obj) : BoxAt (w.alloc o) p x := pr_alloc h o
theorem BoxAt.new (w : World) (x : R) : BoxAt (w.alloc (.cells #[.int .i64 x.1, .int .i64 x.2] 59)) w.heap.size x := pr_new w _
theorem BoxAt.set {w : World} {p : Nat} {x : R} (h : BoxAt w p x) (y : R) : BoxAt ((w.setCell ⟨p, 0, none⟩ (.int .i64 y.1)).setCell ⟨p, 1, none⟩ (.int .i64 y.2)) p y := by
  unfold BoxAt at h ⊢
  simp [World.setCell, Array.getElem?_modify, h]
theorem BoxAt.other {w : World} {p q : Nat} {x : R} (h : BoxAt w p x) (hne : p ≠ q) (i j : Nat) (u v : Value) : BoxAt ((w.setCell ⟨q, i, none⟩ u).setCell ⟨q, j, none⟩ v) p x := by
  unfold BoxAt
  rw [Below.heap_setCell _ _ _ _ hne, Below.heap_setCell _ _ _ _ hne]
  exact h
theorem got_box {B : World} {x : R} {k : Bool} {p b : Value} {wx : World} (h : Got B x.1 x.2 k p b wx) :
    ∃ q : Nat, p = .pointer (some ⟨q, 0, none⟩) ∧ b = .bool k ∧ wx.cell? ⟨q, 0, none⟩ = some (.int .i64 x.1) ∧ wx.cell? ⟨q, 1, none⟩ = some (.int .i64 x.2) ∧ q < wx.heap.size ∧ B.heap.size ≤ q ∧ Since B wx := h

theorem spec_mul (x y : R) (w : World) : Calls Try.prog 72 #[.agg #[.int .i64 x.1, .int .i64 x.2], .agg #[.int .i64 y.1, .int .i64 y.2]] w fun e w' => e = .returned (.tuple #[.agg #[.int .i64 (Ve.mulR x y).1, .int .i64 (Ve.mulR x y).2], .bool (Ve.mulK x y)]) ∧ Below w.heap.size w w' := spec_MulRat x.1 x.2 y.1 y.2 w
theorem spec_add (x y : R) (w : World) : Calls Try.prog 73 #[.agg #[.int .i64 x.1, .int .i64 x.2], .agg #[.int .i64 y.1, .int .i64 y.2]] w fun e w' => e = .returned (.tuple #[.agg #[.int .i64 (Ve.addR x y).1, .int .i64 (Ve.addR x y).2], .bool (Ve.addK x y)]) ∧ Below w.heap.size w w' := spec_AddRat x.1 x.2 y.1 y.2 w
theorem spec_l3Int (n : Int) (w : World) : Calls Try.prog 30 #[.int .i64 n] w fun e w' => e = .returned (.agg #[.int .i64 n, .int .i64 1]) ∧ Below w.heap.size w w' := by
  go_enter Try.func30, Try.ntmps30
  go_wp2_with fail
  exact bodyPost_ret (v := .agg #[.int .i64 n, .int .i64 1]) (by simp [results, Try.results30, go_sem]) rfl ⟨rfl, by (repeat' (first | exact Below.refl _ _ | exact Nat.le_refl _ | refine Below.setCell ?_ ?_ _ | refine Below.alloc ?_ ?_ _ | refine below_drewN ?_ _ | refine Below.drew ?_ | (simp; done) | (simp; omega)))⟩
end Go.Proofs.Ytkindblhafejfaa

/- The specification's AddScaled. -/
namespace Go.Proofs.Ytkindblhafejfaa
open Go.RowKit
open Ve (R)

theorem ret_two {v : Value} {a b : Bool} (h : a = b) : Ending.returned (.tuple #[v, .bool a]) = .returned (.tuple #[v, .bool b]) := by rw [h]
set_option maxRecDepth 100000 in
set_option maxHeartbeats 4000000 in
theorem spec_AddScaled (B : Nat) (a1 a2 : Option Addr) (c1 c2 : Nat) (xs : List R) (u : R) (ys : List R) (hn : xs.length ≤ 1048576) (_hn2 : ys.length ≤ 1048576) (w : World) (hBw : B ≤ w.heap.size) (h1 : RatsIn B w a1 xs) (h2 : RatsIn B w a2 ys) :
    Calls Try.prog 50 #[.slice a1 xs.length c1, .agg #[.int .i64 u.1, .int .i64 u.2], .slice a2 ys.length c2] w (MakesRatsK (Ve.scR xs u ys) (Ve.scK xs u ys) w) := by
  by_cases hl : xs.length = ys.length
  · obtain ⟨D, hD⟩ : ∃ D, Ve.scR xs u ys = D := ⟨_, rfl⟩
    obtain ⟨K, hK⟩ : ∃ K, Ve.scK xs u ys = K := ⟨_, rfl⟩
    rw [hD, hK]
    have HD := Lib.hid hD
    have HK := Lib.hid hK
    have H1 := Lib.hid (h1.mono hBw)
    have H2 := Lib.hid (h2.mono hBw)
    have HL := Lib.hid hl
    obtain ⟨i0, hi, hz0, hz1, hz2⟩ := info_parts info_rat
    have HI := Lib.hid hi
    have HZ0 := Lib.hid hz0
    have HZ1 := Lib.hid hz1
    have HZ2 := Lib.hid hz2
    rw [← hl]
    clear h1 h2 hD hK hl hi hz0 hz1 hz2
    have HU1 := Lib.hid ((BoxAt.new w u).alloc (.cells #[] 59))
    have HO1 : Hid (OwnRats (w.heap.size + 1) ((w.alloc (.cells #[.int .i64 u.1, .int .i64 u.2] 59)).alloc (.cells #[] 59)) (.slice (some ⟨w.heap.size + 1, 0, none⟩) 0 0) []) := by
      have h := World.ownsRow_made (base := w.heap.size + 1) (e := 59) (size := 2) (w.alloc (.cells #[.int .i64 u.1, .int .i64 u.2] 59)) #[] 0 (by rw [size1]; omega) (Nat.zero_le _) rfl
      rw [size1] at h
      exact h
    have HB1 : Hid (Below w.heap.size w ((w.alloc (.cells #[.int .i64 u.1, .int .i64 u.2] 59)).alloc (.cells #[] 59))) := by
      show Below _ _ _
      (repeat' (first | exact Below.refl _ _ | exact Nat.le_refl _ | refine Below.setCell ?_ ?_ _ | refine Below.alloc ?_ ?_ _ | refine below_drewN ?_ _ | refine Below.drew ?_ | (simp; done) | (simp; omega)))
    go_enter Try.func50, Try.ntmps50
    go_wp2_with fail
    go_loopg [8, 9] xs.length (fun gk v i wr => ∃ k : Nat, gk + k = xs.length ∧ i = .int .i64 k ∧ Hid (BoxAt wr w.heap.size u) ∧ Hid (OwnRats (w.heap.size + 1) wr v (Ve.upto (Ve.sc xs u ys) k)) ∧ Hid (∀ j, j < k → (Ve.sc xs u ys j).2 = true) ∧ Hid (Below w.heap.size w wr))
    case atStart => exact ⟨0, by omega, rfl, HU1, HO1, fun j hj => absurd hj (by omega), HB1⟩
    case round =>
      obtain ⟨k, hk, rfl, hU, hO, hA, hB⟩ := hrel
      by_cases hlt : k < xs.length
      · obtain ⟨b1, o1, rfl, l1, p0, p1⟩ := (H1.out.below hB.out).at k hlt
        obtain ⟨b2, o2, rfl, l2, q0, q1⟩ := (H2.out.below hB.out).at k (HL.out ▸ hlt)
        obtain ⟨u0, u1, -, -⟩ := hU.out.four
        have hsz := hB.out.size
        have hul := hU.out.lt
        have HQ : Hid (Quad w.heap.size 0 b2 (o2 + k * 2) u (Ve.at_ ys k) wr) := ⟨u0, u1, q0, q1, by omega, by omega⟩
        have HP : Hid (wr.cell? ⟨b1, o1 + k * 2, none⟩ = some (.int .i64 (Ve.at_ xs k).1) ∧ wr.cell? ⟨b1, o1 + k * 2 + 1, none⟩ = some (.int .i64 (Ve.at_ xs k).2) ∧ b1 < wr.heap.size) := ⟨p0, p1, by omega⟩
        have hin := Since.refl wr
        have HS := Lib.hid (show Ve.sc xs u ys k = (Ve.addR (Ve.at_ xs k) (Ve.mulR u (Ve.at_ ys k)), Ve.addK (Ve.at_ xs k) (Ve.mulR u (Ve.at_ ys k))) from rfl)
        have Hj := Lib.hid hk
        clear hk p0 p1
        generalize Ve.at_ xs k = x at *
        generalize Ve.at_ ys k = y at *
        go_upto_region 7 with (fail)
        go_cut [10, 11] (fun p b wx => Got wr (Ve.mulR u y).1 (Ve.mulR u y).2 (Ve.mulK u y) p b wx)
        case first =>
          go_region_held3 (fun w' => w'.cell? ⟨w.heap.size, 0, none⟩ = some (.int .i64 u.1) ∧ w'.cell? ⟨w.heap.size, 1, none⟩ = some (.int .i64 u.2) ∧ w'.cell? ⟨b2, o2 + k * 2, none⟩ = some (.int .i64 y.1) ∧ w'.cell? ⟨b2, o2 + k * 2 + 1, none⟩ = some (.int .i64 y.2) ∧ Since wr w') (first | exact Quad.five HQ (by assumption) | exact Quad.five HQ (Since.drew (by assumption)) | exact Quad.five HQ (Own2.since (by assumption)) | exact Quad.five HQ (Since.drew (Own2.since (by assumption))) | exact Quad.five HQ (Since.alloc (by assumption) _) | exact Quad.five HQ (Since.drew (Since.alloc (by assumption) _)) | exact Quad.five HQ (Own2.set2 (by assumption) _ _) | exact Quad.five HQ (Since.drew (Own2.set2 (by assumption) _ _)))
            (first | (go_at_call 72; refine (calls_own (spec_mul u y _) (B := wr) (x := .int .i64 0) (y := .int .i64 0) (t := 59) (by first | assumption | exact Own2.drew (by assumption) | exact Since.new (by assumption) _ _ _ | exact Own2.drew (Since.new (by assumption) _ _ _))).mono ?_; rintro e w' ⟨⟨rfl, _⟩, hin3⟩; obtain ⟨z0, z1, f0, f1⟩ := Own2.own hin3) | (go_at_call 72; refine (calls_since (spec_mul u y _) (B := wr) (by first | assumption | exact Since.drew (by assumption))).mono ?_; rintro e w' ⟨⟨rfl, _⟩, hin2⟩))
          all_goals
            go_wp2_with fail
            go_meet
            first
            | exact Got.last (by assumption) _ _ _ _
            | exact Got.set (by assumption) _ _ _
            | exact Got.drew (Got.last (by assumption) _ _ _ _)
            | exact Got.drew (Got.set (by assumption) _ _ _)
        case rest =>
          obtain ⟨wd, rfl⟩ : ∃ wd : World, wd = wc := ⟨_, rfl⟩
          obtain ⟨q, rfl, rfl, m0, m1, hq, hqh, hs1⟩ := hcut
          have HS1 := Lib.hid hs1
          have hsz1 := hs1.low.size
          have Hno := Lib.hid (Ve.add_mul_no x (x := u) (y := y))
          generalize hmk : Ve.mulK u y = mk at *
          generalize Ve.mulR u y = m at *
          have p0 := hs1.cell (p := ⟨b1, o1 + k * 2, none⟩) HP.out.2.2 HP.out.1
          have p1 := hs1.cell (p := ⟨b1, o1 + k * 2 + 1, none⟩) HP.out.2.2 HP.out.2.1
          have HQ2 : Hid (Quad b1 (o1 + k * 2) q 0 x m wd) := ⟨p0, p1, m0, m1, by have := HP.out.2.2; omega, hq⟩
          have Hmk := Lib.hid hmk
          clear hs1 hin HQ q0 q1 u0 u1 hq hqh hmk HP
          have hin := Since.refl wd
          go_upto_region 8 with (fail)
          go_cut [12, 13] (fun p b wx => Got wd (Ve.addR x m).1 (Ve.addR x m).2 (Ve.addK x m) p b wx)
          case first =>
            go_region_held3 (fun w' => w'.cell? ⟨b1, o1 + k * 2, none⟩ = some (.int .i64 x.1) ∧ w'.cell? ⟨b1, o1 + k * 2 + 1, none⟩ = some (.int .i64 x.2) ∧ w'.cell? ⟨q, 0, none⟩ = some (.int .i64 m.1) ∧ w'.cell? ⟨q, 1, none⟩ = some (.int .i64 m.2) ∧ Since wd w') (first | exact Quad.five HQ2 (by assumption) | exact Quad.five HQ2 (Since.drew (by assumption)) | exact Quad.five HQ2 (Own2.since (by assumption)) | exact Quad.five HQ2 (Since.drew (Own2.since (by assumption))) | exact Quad.five HQ2 (Since.alloc (by assumption) _) | exact Quad.five HQ2 (Since.drew (Since.alloc (by assumption) _)) | exact Quad.five HQ2 (Own2.set2 (by assumption) _ _) | exact Quad.five HQ2 (Since.drew (Own2.set2 (by assumption) _ _)))
              (first | (go_at_call 73; refine (calls_own (spec_add x m _) (B := wd) (x := .int .i64 0) (y := .int .i64 0) (t := 59) (by first | assumption | exact Own2.drew (by assumption) | exact Since.new (by assumption) _ _ _ | exact Own2.drew (Since.new (by assumption) _ _ _))).mono ?_; rintro e w' ⟨⟨rfl, _⟩, hin3⟩; obtain ⟨z0, z1, f0, f1⟩ := Own2.own hin3) | (go_at_call 73; refine (calls_since (spec_add x m _) (B := wd) (by first | assumption | exact Since.drew (by assumption))).mono ?_; rintro e w' ⟨⟨rfl, _⟩, hin2⟩))
            all_goals
              go_wp2_with fail
              go_meet
              first
              | exact Got.last (by assumption) _ _ _ _
              | exact Got.set (by assumption) _ _ _
              | exact Got.drew (Got.last (by assumption) _ _ _ _)
              | exact Got.drew (Got.set (by assumption) _ _ _)
          case rest =>
            obtain ⟨wf, rfl⟩ : ∃ wf : World, wf = wc := ⟨_, rfl⟩
            obtain ⟨q2, rfl, rfl, n0, n1, hq2, hq2h, hs2⟩ := hcut
            have HS2 := Lib.hid (HS1.out.trans (hs2.low.mono (Nat.le_refl _)))
            have HB2 := Lib.hid (hB.out.trans (HS2.out.low.mono hsz))
            have HU2 := Lib.hid (hU.out.since HS2.out)
            have HO2 := Lib.hid (hO.out.below HS2.out.low)
            clear hs2 HS1 HS2 p0 p1 m0 m1 hin HQ2 hq2 hq2h hU hO hB
            generalize Ve.addR x m = A at *
            generalize Ve.addK x m = ak at *
            cases ak with
            | false =>
              have hE0 := Ve.allK_no (n := xs.length) hlt (show (Ve.sc xs u ys k).2 = false by rw [HS.out])
              have hE := Ve.sc_same (a := xs) (k := u) (b := ys) HL.out
              rw [HD.out, HK.out, Ve.out_no hE0, hE0] at hE
              have HE1 := Lib.hid hE.1
              have HE2 := Lib.hid hE.2
              clear hE hE0
              cases mk
              all_goals
                go_wp2_with fail
                go_ret2
                refine ⟨_, ret_two HE2.out.symm, ?_, HB2.out.alloc HB2.out.size _⟩
                rw [HE1.out]
                exact World.ownsRow_made _ #[] 0 HB2.out.size (Nat.zero_le _) rfl
            | true =>
              cases mk with
              | false => exact absurd (Hno.out rfl) (by simp)
              | true =>
                have hsz2 := HB2.out.size
                have hlen := Nat.le_of_eq (Ve.upto_len (Ve.sc xs u ys) k)
                have Hown := Lib.hid (World.ownsRow.alloc HO2.out (.cells #[.int .i64 A.1, .int .i64 A.2] 59))
                have He := Lib.hid (show Ve.upto (Ve.sc xs u ys) (k + 1) = Ve.upto (Ve.sc xs u ys) k ++ [A] by rw [Ve.upto_succ, HS.out])
                have HA2 : Hid (∀ j, j < k + 1 → (Ve.sc xs u ys j).2 = true) := fun j hj => by
                  by_cases e : j = k
                  · subst e; rw [HS.out]
                  · exact hA.out j (by omega)
                generalize Ve.upto (Ve.sc xs u ys) k = zs at *
                go_wp2_with (at_builtin; refine wpList_append_own _ rfl _ _ 32 rfl (w.heap.size + 1) 59 i0 (.agg #[.int .i64 0, .int .i64 0]) 2 16 Try.underlying32 HI.out HZ0.out HZ1.out HZ2.out rfl (by decide) _ _ _ rfl Hown.out ⟨wf.heap.size, 0, none⟩ 1 1 [.int .i64 A.1, .int .i64 A.2] rfl rfl ?c1 ?c2 ?c3 ?c4 ?c5 ?_)
                case c1 =>
                  intro j u hj
                  match j, hj with
                  | 0, hj => simp at hj; subst hj; simp [Addr.add]
                  | 1, hj => simp at hj; subst hj; simp [Addr.add]
                case c2 => intro u hu; simp at hu; rcases hu with rfl | rfl <;> rfl
                case c3 => unfold maxLen; omega
                case c4 => omega
                case c5 => simp; omega
                intro v' w1 hown' hgrow _
                have hne := Hown.out.lt
                have Ho1 := Lib.hid (OwnRats.more (x := A) hown')
                have Hb1 := Lib.hid ((HB2.out.alloc hsz2 (.cells #[.int .i64 A.1, .int .i64 A.2] 59)).grown hgrow (by simp; omega) (fun g hg => by have := (hne g hg).1; omega))
                have Hu1 : Hid (BoxAt w1 w.heap.size u) := (hgrow.block w.heap.size ((HU2.out.alloc _).lt) (fun e => by have := (hne w.heap.size e.symm).1; omega)).trans (HU2.out.alloc _)
                rw [← He.out] at Ho1
                clear hown' hgrow hne
                go_wp2_with fail
                go_roundg (gk - 1)
                case measure => have := Hj.out; omega
                case rel => exact ⟨k + 1, by have := Hj.out; omega, by go_num, Hu1, Ho1, HA2, Hb1⟩
      · have he : k = xs.length := by omega
        have HE : Hid (Ve.upto (Ve.sc xs u ys) k = D ∧ true = K) := by
          have h3 := Ve.sc_same (a := xs) (k := u) (b := ys) HL.out
          have h4 : Ve.allK (Ve.sc xs u ys) xs.length = true := by
            unfold Ve.allK
            rw [List.all_eq_true]
            exact fun j hj => hA.out j (by rw [he]; simpa using hj)
          rw [HD.out, HK.out, Ve.out_yes h4, h4] at h3
          rw [he]
          exact ⟨h3.1.symm, h3.2.symm⟩
        clear he
        go_wp2_with fail
        go_ret2
        exact ⟨_, ret_two HE.out.2, (by rw [← HE.out.1]; exact hO.out.lower (Nat.le_succ _)), hB.out⟩
  · obtain ⟨e1, e2⟩ := Ve.sc_len (k := u) hl
    rw [e1, e2]
    have hlb : ((xs.length : Int) == (ys.length : Int)) = false ∧ ((xs.length : Int) != (ys.length : Int)) = true := by
      have h1 : ((xs.length : Int) == (ys.length : Int)) = false := by rw [beq_eq_false_iff_ne]; omega
      exact ⟨h1, by rw [bne, h1]; rfl⟩
    obtain ⟨l1, l2⟩ := hlb
    have HO1 : Hid (OwnRats w.heap.size ((w.alloc (.cells #[.int .i64 u.1, .int .i64 u.2] 59)).alloc (.cells #[] 59)) (.slice (some ⟨w.heap.size + 1, 0, none⟩) 0 0) []) := by
      have h := World.ownsRow_made (base := w.heap.size) (e := 59) (size := 2) (w.alloc (.cells #[.int .i64 u.1, .int .i64 u.2] 59)) #[] 0 (by rw [size1]; omega) (Nat.zero_le _) rfl
      rw [size1] at h
      exact h
    clear e1 e2 h1 h2
    go_enter Try.func50, Try.ntmps50
    go_wp2_with fail
    go_ret2
    exact ⟨_, rfl, HO1.out, by (repeat' (first | exact Below.refl _ _ | exact Nat.le_refl _ | refine Below.setCell ?_ ?_ _ | refine Below.alloc ?_ ?_ _ | refine below_drewN ?_ _ | refine Below.drew ?_ | (simp; done) | (simp; omega)))⟩
end Go.Proofs.Ytkindblhafejfaa

/- The specification's IntsToRats. -/
namespace Go.Proofs.Ytkindblhafejfaa
open Go.RowKit
open Ve (R)
/-- The slice at a reads as the ints zs; its block lies below B. -/
def NumsIn (B : Nat) (w : World) (a : Option Addr) (zs : List Int) : Prop := ∀ j, j < zs.length → ∃ b o : Nat, a = some ⟨b, o, none⟩ ∧ b < B ∧ w.cell? ⟨b, o + j, none⟩ = some (.int .i64 (zs.getD j 0))
theorem NumsIn.below {B : Nat} {w w' : World} {a : Option Addr} {zs : List Int} (h : NumsIn B w a zs) (hb : Below B w w') : NumsIn B w' a zs := fun j hj => by
  obtain ⟨b, o, h1, h2, h3⟩ := h j hj
  exact ⟨b, o, h1, h2, by rw [hb.cell (p := ⟨b, o + j, none⟩) h2]; exact h3⟩
theorem NumsIn.mono {B B' : Nat} {w : World} {a : Option Addr} {zs : List Int} (h : NumsIn B w a zs) (hB : B ≤ B') : NumsIn B' w a zs := fun j hj => by
  obtain ⟨b, o, h1, h2, h3⟩ := h j hj
  exact ⟨b, o, h1, by omega, h3⟩
theorem NumsIn.of_ints {B : Nat} {w : World} {a : Option Addr} {zs : List Int} (h : IntsIn w a zs) (ha : ∀ p, a = some p → p.block < B) : NumsIn B w a zs := fun j hj => by
  obtain ⟨b, o, h1, h2⟩ := h j _ (List.getElem?_eq_getElem hj)
  refine ⟨b, o, h1, ha ⟨b, o, none⟩ h1, ?_⟩
  rw [List.getD_eq_getElem?_getD, List.getElem?_eq_getElem hj]
  exact h2
end Go.Proofs.Ytkindblhafejfaa
