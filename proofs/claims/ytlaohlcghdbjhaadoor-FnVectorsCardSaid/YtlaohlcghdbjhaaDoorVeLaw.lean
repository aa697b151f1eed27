/- The walk of FnVectors: whatever the code, the law returns true: products are linear, where they fit. -/
import Derived.Test.YtlaohlcghdbjhaaDoorVeDraw2
import Derived.Test.YtlaohlcghdbjhaaDoorVeFL
import Derived.Test.YtlaohlcghdbjhaaDoorVeAS
import Derived.Test.YtlaohlcghdbjhaaDoorBig
namespace Go.Proofs.YtlaohlcghdbjhaaDoor
open Go.RowKit
open Ve (R)
theorem eqV_self (xs : List R) : eqV xs xs = true := by unfold eqV; simp
theorem eq_same (B : Nat) (a1 a2 : Option Addr) (c1 c2 : Nat) (xs : List R) (hn : xs.length ≤ 1048576) (w : World) (h1 : RatsIn B w a1 xs) (h2 : RatsIn B w a2 xs) :
    Calls Tryd.prog 9 #[.slice a1 xs.length c1, .slice a2 xs.length c2] w fun e w' => e = .returned (.bool true) ∧ ∃ d, w' = w.drewN d := by
  have := impl_EqualVector B a1 a2 c1 c2 xs xs hn hn w h1 h2
  rw [eqV_self] at this
  exact this
theorem spec_eq_same (B : Nat) (a1 a2 : Option Addr) (c1 c2 : Nat) (xs : List R) (hn : xs.length ≤ 1048576) (w : World) (h1 : RatsIn B w a1 xs) (h2 : RatsIn B w a2 xs) :
    Calls Tryd.prog 16 #[.slice a1 xs.length c1, .slice a2 xs.length c2] w fun e w' => e = .returned (.bool true) ∧ ∃ d, w' = w.drewN d := by
  have := spec_EqualVector B a1 a2 c1 c2 xs xs hn hn w h1 h2
  rw [eqV_self] at this
  exact this
namespace fnVectors
set_option maxRecDepth 100000 in
set_option maxHeartbeats 16000000 in
theorem walk0 (a : Option Addr) (len cap : Nat) (w : World) (hp : PowAt w) (hcode : CodeAt w.heap.size w a len) :
    Calls Tryd.prog 3 #[.slice a len cap] w fun e w' => e = .returned (.bool true) ∧ Below w.heap.size w w' := by
  have Hc := Lib.hid hcode
  have HP := Lib.hid hp
  obtain ⟨i0, hi, hz0, hz1, hz2⟩ := info_parts info_rat
  have HI := Lib.hid hi
  have HZ0 := Lib.hid hz0
  have HZ1 := Lib.hid hz1
  have HZ2 := Lib.hid hz2
  clear hcode hp hi hz0 hz1 hz2
  by_cases hbig : 1048576 < len
  · go_enter Tryd.func3, Tryd.ntmps3
    go_wp2_with fail
    refine (big_yes a len cap hbig w).mono ?_
    rintro e w1 ⟨rfl, rfl⟩
    go_wp2_with fail
    go_ret
    exact ⟨rfl, Below.refl _ _⟩
  · go_enter Tryd.func3, Tryd.ntmps3
    go_wp2_with fail
    refine (big_no a len cap (by omega) w).mono ?_
    rintro e w1 ⟨rfl, rfl⟩
    go_wp2_with fail
    refine (spec_DrawAddScaled a len cap w Hc.out).mono ?_
    rintro e v1 ⟨vva, vvb, xs, ys, u, rfl, hxl, hyl, hoa, hob, hb1⟩
    obtain ⟨va, ca, rfl, hra, -, -⟩ := own_rats hoa
    obtain ⟨vb, cb, rfl, hrb, -, -⟩ := own_rats hob
    have hal := (Below.refl v1.heap.size v1).alloc (Nat.le_refl _) (.cells #[.int .i64 u.1, .int .i64 u.2] 26)
    have HL1 := Lib.hid ((((AllIn.start v1).add hra).add hrb).below hal)
    have Hb1 := Lib.hid (hb1.trans (hal.mono hb1.size))
    have HXk1 := Lib.hid (BoxAt.new v1 u)
    have Hlin := Lib.hid (fun os => Ve.linear xs ys u os)
    have hDs := Ve.sc_short xs u ys
    have hDl : (Ve.scR xs u ys).length ≤ 1048576 := by omega
    have HV1 := Lib.hid (fun B a c w h1 h2 => impl_AllValid B a c xs (by omega) w h1 h2)
    have HV2 := Lib.hid (fun B a c w h1 h2 => spec_AllValid B a c xs (by omega) w h1 h2)
    have HF1 := Lib.hid (fun B a c w hp h1 h2 => impl_FormatVector B a c xs (by omega) w hp h1 h2)
    have HF2 := Lib.hid (fun B a c w h1 h2 => spec_FormatVector B a c xs (by omega) w h1 h2)
    obtain ⟨tx, htx⟩ : ∃ tx : ByteArray, (⟨(Lib.join ((xs.map txtB).map (·.data.toList)) (ByteArray.mk #[32]).data.toList).toArray⟩ : ByteArray) = tx := ⟨_, rfl⟩
    unfold JoinPost at HF1 HF2
    rw [htx] at HF1 HF2
    have hl : (tx.toList == tx.toList) = true := by simp
    clear hoa hob hb1 hra hrb hal htx hDs
    obtain ⟨D, hD⟩ : ∃ D, Ve.scR xs u ys = D := ⟨_, rfl⟩
    obtain ⟨K, hK⟩ : ∃ K, Ve.scK xs u ys = K := ⟨_, rfl⟩
    have HAI := Lib.hid (fun B a1 a2 c1 c2 w h0 h1 h2 => impl_AddScaled B a1 a2 c1 c2 xs u ys (by omega) (by omega) w h0 h1 h2)
    have HAS := Lib.hid (fun B a1 a2 c1 c2 w h0 h1 h2 => spec_AddScaled B a1 a2 c1 c2 xs u ys (by omega) (by omega) w h0 h1 h2)
    rw [hD, hK] at HAI HAS
    rw [hD] at hDl
    simp only [hD, hK] at Hlin
    generalize Ve.good xs = gd at *
    clear hD hK
    obtain ⟨kx0, kx1, -, -⟩ := HXk1.out.four
    go_wp2_with fail
    refine (HAI.out _ va vb ca cb _ (Nat.le_refl _) (HL1.out.get va xs (by simp)) (HL1.out.get vb ys (by simp))).mono ?_
    rintro e w2 ⟨v2, rfl, ho2, hb2⟩
    obtain ⟨sa, sac, rfl, hr2, -, -⟩ := own_rats ho2
    have Hb2 := Lib.hid (Hb1.out.trans (hb2.mono Hb1.out.size))
    have HL2 := Lib.hid ((HL1.out.below hb2).add hr2)
    have HXk2 := Lib.hid (HXk1.out.below hb2)
    clear hr2 ho2 hb2 HL1 Hb1 HXk1 kx0 kx1
    obtain ⟨kx0, kx1, -, -⟩ := HXk2.out.four
    go_wp2_with fail
    refine (HAS.out _ va vb ca cb _ (Nat.le_refl _) (HL2.out.get va xs (by simp)) (HL2.out.get vb ys (by simp))).mono ?_
    rintro e w3 ⟨v3, rfl, ho3, hb3⟩
    obtain ⟨wa, wac, rfl, hr3, -, -⟩ := own_rats ho3
    have Hb3 := Lib.hid (Hb2.out.trans (hb3.mono Hb2.out.size))
    have HL3 := Lib.hid ((HL2.out.below hb3).add hr3)
    have HXk3 := Lib.hid (HXk2.out.below hb3)
    clear hr3 ho3 hb3 HL2 Hb2 HXk2 kx0 kx1
    obtain ⟨kx0, kx1, -, -⟩ := HXk3.out.four
    go_wp2_with fail
    refine (drawn_below (eq_same _ sa wa sac wac D hDl _ (HL3.out.get sa D (by simp)) (HL3.out.get wa D (by simp)))).mono ?_
    rintro e w4 ⟨rfl, hb4⟩
    have Hb4 := Lib.hid (Hb3.out.trans (hb4.mono Hb3.out.size))
    have HL4 := Lib.hid (HL3.out.below hb4)
    have HXk4 := Lib.hid (HXk3.out.below hb4)
    clear hb4 HL3 Hb3 HXk3 kx0 kx1
    obtain ⟨kx0, kx1, -, -⟩ := HXk4.out.four
    go_wp2_with fail
    have HO0 : Hid (OwnRats w4.heap.size (w4.alloc (.cells #[] 26)) (.slice (some ⟨w4.heap.size, 0, none⟩) 0 0) (Ve.ones 0)) := World.ownsRow_made w4 #[] 0 (Nat.le_refl _) (Nat.zero_le _) rfl
    have HSI0 := Lib.hid ((Since.refl w4).alloc (.cells #[] 26))
    clear kx0 kx1
    go_loopw [10, 11] (fun v i wr => ∃ k : Nat, k ≤ xs.length ∧ i = .int .i64 k ∧ Hid (OwnRats w4.heap.size wr v (Ve.ones k)) ∧ Hid (Since w4 wr)) (fun _ i _ => xs.length - (intOf i).toNat)
    case atStart => exact ⟨0, Nat.zero_le _, rfl, HO0, HSI0⟩
    case round =>
      obtain ⟨k, hk, rfl, hO, hS⟩ := hrel
      have hsz := hS.out.low.size
      by_cases hlt : k < xs.length
      · have hol := Nat.le_of_eq (Ve.ones_len k)
        have He := Lib.hid (Ve.ones_succ k)
        have Hown := Lib.hid (World.ownsRow.alloc hO.out (.cells #[.int .i64 ((k : Int) + 1), .int .i64 1] 26))
        generalize Ve.ones k = os at *
        go_wp2_with (at_builtin; refine wpList_append_own _ rfl _ _ 24 rfl w4.heap.size 26 i0 (.agg #[.int .i64 0, .int .i64 0]) 2 16 Tryd.underlying24 HI.out HZ0.out HZ1.out HZ2.out rfl (by decide) _ _ _ rfl Hown.out ⟨wr.heap.size, 0, none⟩ 1 1 [.int .i64 ((k : Int) + 1), .int .i64 1] rfl rfl ?c1 ?c2 ?c3 ?c4 ?c5 ?_)
        case c1 =>
          intro j u hj
          match j, hj with
          | 0, hj => simp at hj; subst hj; simp [Addr.add]
          | 1, hj => simp at hj; subst hj; simp [Addr.add]
        case c2 => intro u hu; simp at hu; rcases hu with rfl | rfl <;> rfl
        case c3 => unfold maxLen; omega
        case c4 => omega
        case c5 => simp; omega
        intro v' wq hown' hgrow _
        have hne := Hown.out.lt
        have Ho1 := Lib.hid (OwnRats.more (x := ((k : Int) + 1, 1)) hown')
        have Hs1 := Lib.hid ((hS.out.alloc _).grown hgrow (fun g hg => (hne g hg).1))
        have He2 : Hid (Ve.ones (k + 1) = os ++ [((k : Int) + 1, 1)]) := He.out
        rw [← He2.out] at Ho1
        clear hown' hgrow hne
        go_wp2_with fail
        go_roundw
        case rel => exact ⟨k + 1, by omega, by go_num, Ho1, Hs1⟩
        case measure => simp [intOf]; omega
      · have he : k = xs.length := by omega
        have HO : Hid (OwnRats w4.heap.size wr u10 (Ve.ones xs.length)) := by rw [← he]; exact hO
        clear he
        have HOL := Lib.hid (Ve.ones_len xs.length)
        generalize Ve.ones xs.length = os at *
        obtain ⟨w5, hw5⟩ : ∃ wn, wr = wn := ⟨_, rfl⟩
        rw [hw5] at HO hS hsz ⊢
        clear hw5
        obtain ⟨oa, oc, hoe, hor, -, -⟩ := own_rats HO.out
        have Hb5 := Lib.hid (Hb4.out.trans (hS.out.low.mono Hb4.out.size))
        have HL5 := Lib.hid ((HL4.out.below hS.out.low).add hor)
        have HXk5 := Lib.hid (HXk4.out.below hS.out.low)
        have hol : os.length ≤ 1048576 := by have := HOL.out; omega
        subst hoe
        clear hor HO hS HL4 Hb4 HXk4
        obtain ⟨kx0, kx1, -, -⟩ := HXk5.out.four
        go_wp2_with fail
        refine (impl_DotRat _ sa oa sac oc D os hDl hol _ (Nat.le_refl _) (HL5.out.get sa D (by simp)) (HL5.out.get oa os (by simp))).mono ?_
        rintro e v6 ⟨rfl, hb6⟩
        have hbb6 := hb6.alloc hb6.size (.cells #[.int .i64 (Ve.dotR D os).1, .int .i64 (Ve.dotR D os).2] 26)
        have Hb6 := Lib.hid (Hb5.out.trans (hbb6.mono Hb5.out.size))
        have HL6 := Lib.hid (HL5.out.below hbb6)
        have HXk6 := Lib.hid (HXk5.out.below hbb6)
        have HXx6 := Lib.hid (BoxAt.new v6 (Ve.dotR D os))
        clear hb6 hbb6 HL5 Hb5 HXk5 kx0 kx1
        obtain ⟨kx0, kx1, -, -⟩ := HXk6.out.four
        obtain ⟨xx0, xx1, -, -⟩ := HXx6.out.four
        go_wp2_with fail
        refine (impl_DotRat _ va oa ca oc xs os (by omega) hol _ (Nat.le_refl _) (HL6.out.get va xs (by simp)) (HL6.out.get oa os (by simp))).mono ?_
        rintro e v7 ⟨rfl, hb7⟩
        have hbb7 := hb7.alloc hb7.size (.cells #[.int .i64 (Ve.dotR xs os).1, .int .i64 (Ve.dotR xs os).2] 26)
        have Hb7 := Lib.hid (Hb6.out.trans (hbb7.mono Hb6.out.size))
        have HL7 := Lib.hid (HL6.out.below hbb7)
        have HXk7 := Lib.hid (HXk6.out.below hbb7)
        have HXx7 := Lib.hid (HXx6.out.below hbb7)
        have HXy7 := Lib.hid (BoxAt.new v7 (Ve.dotR xs os))
        clear hb7 hbb7 HL6 Hb6 HXk6 HXx6 kx0 kx1 xx0 xx1
        obtain ⟨kx0, kx1, -, -⟩ := HXk7.out.four
        obtain ⟨xx0, xx1, -, -⟩ := HXx7.out.four
        obtain ⟨yx0, yx1, -, -⟩ := HXy7.out.four
        go_wp2_with fail
        refine (impl_DotRat _ vb oa cb oc ys os (by omega) hol _ (Nat.le_refl _) (HL7.out.get vb ys (by simp)) (HL7.out.get oa os (by simp))).mono ?_
        rintro e v8 ⟨rfl, hb8⟩
        have hbb8 := hb8.alloc hb8.size (.cells #[.int .i64 (Ve.dotR ys os).1, .int .i64 (Ve.dotR ys os).2] 26)
        have Hb8 := Lib.hid (Hb7.out.trans (hbb8.mono Hb7.out.size))
        have HL8 := Lib.hid (HL7.out.below hbb8)
        have HXk8 := Lib.hid (HXk7.out.below hbb8)
        have HXx8 := Lib.hid (HXx7.out.below hbb8)
        have HXy8 := Lib.hid (HXy7.out.below hbb8)
        have HXz8 := Lib.hid (BoxAt.new v8 (Ve.dotR ys os))
        clear hb8 hbb8 HL7 Hb7 HXk7 HXx7 HXy7 kx0 kx1 xx0 xx1 yx0 yx1
        obtain ⟨kx0, kx1, -, -⟩ := HXk8.out.four
        obtain ⟨xx0, xx1, -, -⟩ := HXx8.out.four
        obtain ⟨yx0, yx1, -, -⟩ := HXy8.out.four
        obtain ⟨zx0, zx1, -, -⟩ := HXz8.out.four
        go_wp2_with fail
        refine (impl_mul u (Ve.dotR ys os) _).mono ?_
        rintro e v9 ⟨rfl, hb9⟩
        have hbb9 := hb9.alloc hb9.size (.cells #[.int .i64 (Ve.mulR u (Ve.dotR ys os)).1, .int .i64 (Ve.mulR u (Ve.dotR ys os)).2] 26)
        have Hb9 := Lib.hid (Hb8.out.trans (hbb9.mono Hb8.out.size))
        have HL9 := Lib.hid (HL8.out.below hbb9)
        have HXk9 := Lib.hid (HXk8.out.below hbb9)
        have HXx9 := Lib.hid (HXx8.out.below hbb9)
        have HXy9 := Lib.hid (HXy8.out.below hbb9)
        have HXz9 := Lib.hid (HXz8.out.below hbb9)
        have HXv9 := Lib.hid (BoxAt.new v9 (Ve.mulR u (Ve.dotR ys os)))
        clear hb9 hbb9 HL8 Hb8 HXk8 HXx8 HXy8 HXz8 kx0 kx1 xx0 xx1 yx0 yx1 zx0 zx1
        obtain ⟨kx0, kx1, -, -⟩ := HXk9.out.four
        obtain ⟨xx0, xx1, -, -⟩ := HXx9.out.four
        obtain ⟨yx0, yx1, -, -⟩ := HXy9.out.four
        obtain ⟨zx0, zx1, -, -⟩ := HXz9.out.four
        obtain ⟨vx0, vx1, -, -⟩ := HXv9.out.four
        go_wp2_with fail
        refine (impl_add (Ve.dotR xs os) (Ve.mulR u (Ve.dotR ys os)) _).mono ?_
        rintro e v10 ⟨rfl, hb10⟩
        have hbb10 := hb10.alloc hb10.size (.cells #[.int .i64 (Ve.addR (Ve.dotR xs os) (Ve.mulR u (Ve.dotR ys os))).1, .int .i64 (Ve.addR (Ve.dotR xs os) (Ve.mulR u (Ve.dotR ys os))).2] 26)
        have Hb10 := Lib.hid (Hb9.out.trans (hbb10.mono Hb9.out.size))
        have HL10 := Lib.hid (HL9.out.below hbb10)
        have HXk10 := Lib.hid (HXk9.out.below hbb10)
        have HXx10 := Lib.hid (HXx9.out.below hbb10)
        have HXy10 := Lib.hid (HXy9.out.below hbb10)
        have HXz10 := Lib.hid (HXz9.out.below hbb10)
        have HXv10 := Lib.hid (HXv9.out.below hbb10)
        have HXq10 := Lib.hid (BoxAt.new v10 (Ve.addR (Ve.dotR xs os) (Ve.mulR u (Ve.dotR ys os))))
        clear hb10 hbb10 HL9 Hb9 HXk9 HXx9 HXy9 HXz9 HXv9 kx0 kx1 xx0 xx1 yx0 yx1 zx0 zx1 vx0 vx1
        obtain ⟨kx0, kx1, -, -⟩ := HXk10.out.four
        obtain ⟨xx0, xx1, -, -⟩ := HXx10.out.four
        obtain ⟨yx0, yx1, -, -⟩ := HXy10.out.four
        obtain ⟨zx0, zx1, -, -⟩ := HXz10.out.four
        obtain ⟨vx0, vx1, -, -⟩ := HXv10.out.four
        obtain ⟨qx0, qx1, -, -⟩ := HXq10.out.four
        have HLin := Lib.hid (Hlin.out os)
        clear Hlin
        generalize Ve.dotR D os = X at *
        generalize Ve.dotK D os = k1 at *
        generalize Ve.addR (Ve.dotR xs os) (Ve.mulR u (Ve.dotR ys os)) = Q at *
        generalize Ve.addK (Ve.dotR xs os) (Ve.mulR u (Ve.dotR ys os)) = k5 at *
        generalize Ve.mulK u (Ve.dotR ys os) = k4 at *
        generalize Ve.dotK xs os = k2 at *
        generalize Ve.dotK ys os = k3 at *
        clear kx0 kx1 yx0 yx1 zx0 zx1 vx0 vx1 HXk10 HXy10 HXz10 HXv10
        go_upto_region 18 with fail
        go_cut [121] (fun q wx => q = .bool false ∧ v10.alloc (.cells #[.int .i64 Q.1, .int .i64 Q.2] 26) = wx)
        case first =>
          cases K with
          | false => go_wp2_with fail; go_meet; exact ⟨rfl, rfl⟩
          | true =>
            cases k1 with
            | false => go_wp2_with fail; go_meet; exact ⟨rfl, rfl⟩
            | true =>
              cases k2 with
              | false => go_wp2_with fail; go_meet; exact ⟨rfl, rfl⟩
              | true =>
                cases k3 with
                | false => go_wp2_with fail; go_meet; exact ⟨rfl, rfl⟩
                | true =>
                  cases k4 with
                  | false => go_wp2_with fail; go_meet; exact ⟨rfl, rfl⟩
                  | true =>
                    cases k5 with
                    | false => go_wp2_with fail; go_meet; exact ⟨rfl, rfl⟩
                    | true =>
                      have hX := HLin.out rfl rfl rfl rfl rfl rfl
                      have h1 : (X.1 == Q.1 && X.2 == Q.2) = true := by rw [hX]; simp
                      clear hX
                      have he := eq_rat; have hne := ne_rat; have hgu := eqg_rat
                      go_wp2_with fail
                      go_meet
                      exact ⟨rfl, rfl⟩
        case rest =>
          obtain ⟨rfl, hw10⟩ := hcut
          obtain ⟨w10, hx10⟩ : ∃ wn, wc = wn := ⟨_, rfl⟩
          rw [hx10] at hw10 ⊢
          rw [hw10] at Hb10 HL10 HXx10 HXq10 xx0 xx1 qx0 qx1
          clear hw10 hx10
          clear xx0 xx1 qx0 qx1 HXx10 HXq10 HLin
          go_wp2_with fail
          refine (spec_DrawIntsToRats a len cap w10 ((Hc.out.below Hb10.out).mono Hb10.out.size)).mono ?_
          rintro e w11 ⟨zv, zs, rfl, hzl, hzo, hb11⟩
          obtain ⟨za, zc, rfl, hzr, hza, -⟩ := own_reads hzo
          have Hb11 := Lib.hid (Hb10.out.trans (hb11.mono Hb10.out.size))
          have HL11 := Lib.hid (HL10.out.below hb11)
          have HN11 := Lib.hid (NumsIn.of_ints hzr (fun p hp => (hza p hp).2))
          clear hb11 HL10 Hb10 hzr hza hzo
          go_wp2_with fail
          refine (impl_IntsToRats _ za zc zs (by omega) _ (Nat.le_refl _) HN11.out).mono ?_
          rintro e w12 ⟨v12, rfl, ho12, hb12⟩
          obtain ⟨ra, rc, rfl, hr12, -, -⟩ := own_rats ho12
          have hdl2 := Ve.out_len (Ve.ofI zs) zs.length
          have Hb12 := Lib.hid (Hb11.out.trans (hb12.mono Hb11.out.size))
          have HL12 := Lib.hid ((HL11.out.below hb12).add hr12)
          have HN12 := Lib.hid ((HN11.out.below hb12).mono hb12.size)
          clear hr12 ho12 hb12 HL11 Hb11 HN11
          go_wp2_with fail
          refine (spec_IntsToRats _ za zc zs (by omega) _ (Nat.le_refl _) HN12.out).mono ?_
          rintro e w13 ⟨v13, rfl, ho13, hb13⟩
          obtain ⟨qa, qc, rfl, hr13, -, -⟩ := own_rats ho13
          have Hb13 := Lib.hid (Hb12.out.trans (hb13.mono Hb12.out.size))
          have HL13 := Lib.hid ((HL12.out.below hb13).add hr13)
          clear hr13 ho13 hb13 HL12 Hb12 HN12
          generalize Ve.outR (Ve.ofI zs) zs.length = D2 at *
          generalize Ve.allK (Ve.ofI zs) zs.length = K2 at *
          have hK2 : (K2 == K2) = true := by simp
          go_wp2_with fail
          refine (drawn_below (spec_eq_same _ ra qa rc qc D2 (by omega) _ (HL13.out.get ra D2 (by simp)) (HL13.out.get qa D2 (by simp)))).mono ?_
          rintro e w14 ⟨rfl, hb14⟩
          have Hb14 := Lib.hid (Hb13.out.trans (hb14.mono Hb13.out.size))
          have HL14 := Lib.hid (HL13.out.below hb14)
          clear hb14 HL13 Hb13
          go_wp2_with fail
          refine (HF1.out _ va ca _ (HP.out.below Hb14.out) (Nat.le_refl _) (HL14.out.get va xs (by simp))).mono ?_
          rintro e w15 ⟨rfl, hb15⟩
          have Hb15 := Lib.hid (Hb14.out.trans (hb15.mono Hb14.out.size))
          have HL15 := Lib.hid (HL14.out.below hb15)
          clear hb15 HL14 Hb14
          go_wp2_with fail
          refine (HF2.out _ va ca _ (Nat.le_refl _) (HL15.out.get va xs (by simp))).mono ?_
          rintro e w16 ⟨rfl, hb16⟩
          have Hb16 := Lib.hid (Hb15.out.trans (hb16.mono Hb15.out.size))
          have HL16 := Lib.hid (HL15.out.below hb16)
          clear hb16 HL15 Hb15
          go_wp2_with fail
          refine (HV1.out _ va ca _ (Nat.le_refl _) (HL16.out.get va xs (by simp))).mono ?_
          rintro e w17 ⟨rfl, hb17⟩
          have Hb17 := Lib.hid (Hb16.out.trans (hb17.mono Hb16.out.size))
          have HL17 := Lib.hid (HL16.out.below hb17)
          clear hb17 HL16 Hb16
          go_wp2_with fail
          refine (HV2.out _ va ca _ (Nat.le_refl _) (HL17.out.get va xs (by simp))).mono ?_
          rintro e w18 ⟨rfl, hb18⟩
          have Hb18 := Lib.hid (Hb17.out.trans (hb18.mono Hb17.out.size))
          have HL18 := Lib.hid (HL17.out.below hb18)
          clear hb18 HL17 Hb17
          go_wp2_with fail
          go_ret
          exact ⟨rfl, Hb18.out⟩
theorem walk (a : Option Addr) (len cap : Nat) (zs : List Int) (w : World) (hz : IntsAt .u8 w.heap.size w a len zs) (hp : PowAt w) :
    Calls Tryd.prog 3 #[.slice a len cap] w fun e w' => e = .returned (.bool true) ∧ Below w.heap.size w w' := walk0 a len cap w hp (code_of hz)
end fnVectors
end Go.Proofs.YtlaohlcghdbjhaaDoor
