/- spec.l6Divide. -/
import Derived.Test.YtfbhnjdbamahkaaTaA
import Derived.Test.YtfbhnjdbamahkaaGVb
namespace Go.Proofs.Ytfbhnjdbamahkaa
open Go.RowKit
open Ve (R)
open Ta (T)
theorem spec_div (x y : R) (w : World) : Calls Try.prog 108 #[.agg #[.int .i64 x.1, .int .i64 x.2], .agg #[.int .i64 y.1, .int .i64 y.2]] w fun e w' => e = .returned (.tuple #[.agg #[.int .i64 (Ta.divR x y).1, .int .i64 (Ta.divR x y).2], .bool (Ta.divK x y)]) ∧ Below w.heap.size w w' := spec_DivRat x.1 x.2 y.1 y.2 w
set_option maxRecDepth 100000 in
set_option maxHeartbeats 4000000 in
theorem spec_l6Divide (B : Nat) (a1 : Option Addr) (c1 : Nat) (xs : List R) (u : R) (hn : xs.length ≤ 1048576) (w : World) (hBw : B ≤ w.heap.size) (h1 : RatsIn B w a1 xs) :
    Calls Try.prog 59 #[.slice a1 xs.length c1, .agg #[.int .i64 u.1, .int .i64 u.2]] w (MakesRatsK (Ta.dvR xs u) (Ta.dvK xs u) w) := by
  obtain ⟨D, hD⟩ : ∃ D, Ta.dvR xs u = D := ⟨_, rfl⟩
  obtain ⟨K, hK⟩ : ∃ K, Ta.dvK xs u = K := ⟨_, rfl⟩
  rw [hD, hK]
  have HD := Lib.hid hD
  have HK := Lib.hid hK
  have H1 := Lib.hid (h1.mono hBw)
  clear h1 hD hK
  have HU1 := Lib.hid ((BoxAt.new w u).alloc (.cells #[] 34))
  have HO1 : Hid (OwnRats (w.heap.size + 1) ((w.alloc (.cells #[.int .i64 u.1, .int .i64 u.2] 34)).alloc (.cells #[] 34)) (.slice (some ⟨w.heap.size + 1, 0, none⟩) 0 0) []) := by
    have h := World.ownsRow_made (base := w.heap.size + 1) (e := 34) (size := 2) (w.alloc (.cells #[.int .i64 u.1, .int .i64 u.2] 34)) #[] 0 (by rw [size1]; omega) (Nat.zero_le _) rfl
    rw [size1] at h
    exact h
  have HB1 : Hid (Below w.heap.size w ((w.alloc (.cells #[.int .i64 u.1, .int .i64 u.2] 34)).alloc (.cells #[] 34))) := by
    show Below _ _ _
    (repeat' (first | exact Below.refl _ _ | exact Nat.le_refl _ | refine Below.setCell ?_ ?_ _ | refine Below.alloc ?_ ?_ _ | refine below_drewN ?_ _ | refine Below.drew ?_ | (simp; done) | (simp; omega)))
  go_enter Try.func59, Try.ntmps59
  go_wp2_with fail
  go_loopg [6, 7] xs.length (fun gk v i wr => ∃ k : Nat, gk + k = xs.length ∧ i = .int .i64 k ∧ Hid (BoxAt wr w.heap.size u) ∧ Hid (OwnRats (w.heap.size + 1) wr v (Ve.upto (Ta.dv xs u) k)) ∧ Hid (∀ j, j < k → (Ta.dv xs u j).2 = true) ∧ Hid (Below w.heap.size w wr))
  case atStart => exact ⟨0, by omega, rfl, HU1, HO1, fun j hj => absurd hj (by omega), HB1⟩
  case round =>
    obtain ⟨k, hk, rfl, hU, hO, hA, hB⟩ := hrel
    by_cases hlt : k < xs.length
    · obtain ⟨b1, o1, rfl, l1, p0, p1⟩ := (H1.out.below hB.out).at k hlt
      obtain ⟨u0, u1, -, -⟩ := hU.out.four
      have hsz := hB.out.size
      have hul := hU.out.lt
      have HQ : Hid (Quad b1 (o1 + k * 2) w.heap.size 0 (Ve.at_ xs k) u wr) := ⟨p0, p1, u0, u1, by omega, by omega⟩
      have hin := Since.refl wr
      have HS := Lib.hid (show Ta.dv xs u k = (Ta.divR (Ve.at_ xs k) u, Ta.divK (Ve.at_ xs k) u) from rfl)
      have Hj := Lib.hid hk
      clear hk
      generalize Ve.at_ xs k = x at *
      go_upto_region 5 with (fail)
      go_cut [8, 9] (fun p b wx => Got wr (Ta.divR x u).1 (Ta.divR x u).2 (Ta.divK x u) p b wx)
      case first =>
        go_region_held3 (fun w' => w'.cell? ⟨b1, o1 + k * 2, none⟩ = some (.int .i64 x.1) ∧ w'.cell? ⟨b1, o1 + k * 2 + 1, none⟩ = some (.int .i64 x.2) ∧ w'.cell? ⟨w.heap.size, 0, none⟩ = some (.int .i64 u.1) ∧ w'.cell? ⟨w.heap.size, 1, none⟩ = some (.int .i64 u.2) ∧ Since wr w') (first | exact Quad.five HQ (by assumption) | exact Quad.five HQ (Since.drew (by assumption)) | exact Quad.five HQ (Own2.since (by assumption)) | exact Quad.five HQ (Since.drew (Own2.since (by assumption))) | exact Quad.five HQ (Since.alloc (by assumption) _) | exact Quad.five HQ (Since.drew (Since.alloc (by assumption) _)) | exact Quad.five HQ (Own2.set2 (by assumption) _ _) | exact Quad.five HQ (Since.drew (Own2.set2 (by assumption) _ _)))
          (first | (go_at_call 108; refine (calls_own (spec_div x u _) (B := wr) (x := .int .i64 0) (y := .int .i64 0) (t := 34) (by first | assumption | exact Own2.drew (by assumption) | exact Since.new (by assumption) _ _ _ | exact Own2.drew (Since.new (by assumption) _ _ _))).mono ?_; rintro e w' ⟨⟨rfl, _⟩, hin3⟩; obtain ⟨z0, z1, f0, f1⟩ := Own2.own hin3) | (go_at_call 108; refine (calls_since (spec_div x u _) (B := wr) (by first | assumption | exact Since.drew (by assumption))).mono ?_; rintro e w' ⟨⟨rfl, _⟩, hin2⟩))
        all_goals
          go_wp2_with fail
          go_meet
          first
          | exact Got.last (by assumption) _ _ _ _
          | exact Got.set (by assumption) _ _ _
          | exact Got.drew (Got.last (by assumption) _ _ _ _)
          | exact Got.drew (Got.set (by assumption) _ _ _)
      case rest =>
        obtain ⟨wf, rfl⟩ : ∃ wf : World, wf = wc := ⟨_, rfl⟩
        obtain ⟨q2, rfl, rfl, n0, n1, hq2, hq2h, hs2⟩ := hcut
        have HB2 := Lib.hid (hB.out.trans (hs2.low.mono hsz))
        have HU2 := Lib.hid (hU.out.below hs2.low)
        have HO2 := Lib.hid (hO.out.below hs2.low)
        clear hs2 p0 p1 u0 u1 hin HQ hq2 hq2h hU hO hB
        generalize Ta.divR x u = A at *
        generalize Ta.divK x u = ak at *
        cases ak with
        | false =>
          have hE0 : Ta.dvK xs u = false := Ve.allK_no (n := xs.length) hlt (show (Ta.dv xs u k).2 = false by rw [HS.out])
          have HE1 : Hid ([] = D) := by show _ = _; rw [← HD.out]; unfold Ta.dvR; exact (Ve.out_no hE0).symm
          have HE2 : Hid (false = K) := by show _ = _; rw [← HK.out, hE0]
          clear hE0
          go_wp2_with fail
          go_ret2
          refine ⟨_, ret_two HE2.out, ?_, HB2.out.alloc HB2.out.size _⟩
          rw [← HE1.out]
          exact World.ownsRow_made _ #[] 0 HB2.out.size (Nat.zero_le _) rfl
        | true =>
          have hsz2 := HB2.out.size
          have hlen := Nat.le_of_eq (Ve.upto_len (Ta.dv xs u) k)
          have Hown : Hid (OwnRats (w.heap.size + 1) (wf.alloc (.cells #[.int .i64 A.1, .int .i64 A.2] 34)) _ _) := OwnRats.alloc HO2.out (.cells #[.int .i64 A.1, .int .i64 A.2] 34)
          have He := Lib.hid (show Ve.upto (Ta.dv xs u) (k + 1) = Ve.upto (Ta.dv xs u) k ++ [A] by rw [Ve.upto_succ, HS.out])
          have HA2 : Hid (∀ j, j < k + 1 → (Ta.dv xs u j).2 = true) := fun j hj => by
            by_cases e : j = k
            · subst e; rw [HS.out]
            · exact hA.out j (by omega)
          have Hone := Lib.hid (one_rat wf A)
          generalize Ve.upto (Ta.dv xs u) k = zs at *
          go_wp2_with (at_builtin; refine wpList_append_rats rfl _ _ rfl (w.heap.size + 1) _ zs rfl Hown.out _ [A] 1 1 rfl rfl _ Hone.out (by simp; omega) (by rw [size1]; have := HU2.out.lt; omega) ?_)
          intro v' w1 hown' hgrow
          have hne := World.ownsRow.lt Hown.out
          have Ho1 := Lib.hid hown'
          have Hb1 := Lib.hid ((HB2.out.alloc hsz2 (.cells #[.int .i64 A.1, .int .i64 A.2] 34)).grown hgrow (by simp; omega) (fun g hg => by have := (hne g hg).1; omega))
          have Hu1 : Hid (BoxAt w1 w.heap.size u) := (hgrow.block w.heap.size ((HU2.out.alloc _).lt) (fun e => by have := (hne w.heap.size e.symm).1; omega)).trans (HU2.out.alloc _)
          rw [← He.out] at Ho1
          clear hown' hgrow hne
          go_wp2_with fail
          go_roundg (gk - 1)
          case measure => have := Hj.out; omega
          case rel => exact ⟨k + 1, by have := Hj.out; omega, by go_num, Hu1, Ho1, HA2, Hb1⟩
    · have he : k = xs.length := by omega
      have HE : Hid (Ve.upto (Ta.dv xs u) k = D ∧ true = K) := by
        have h4 : Ta.dvK xs u = true := by
          unfold Ta.dvK Ve.allK
          rw [List.all_eq_true]
          exact fun j hj => hA.out j (by rw [he]; simpa using hj)
        have h5 : Ta.dvR xs u = Ve.upto (Ta.dv xs u) xs.length := Ve.out_yes h4
        rw [HD.out] at h5
        rw [HK.out] at h4
        rw [he]
        exact ⟨h5.symm, h4.symm⟩
      clear he
      go_wp2_with fail
      go_ret2
      exact ⟨_, ret_two HE.out.2, (by rw [← HE.out.1]; exact hO.out.lower (Nat.le_succ _)), hB.out⟩
end Go.Proofs.Ytfbhnjdbamahkaa
