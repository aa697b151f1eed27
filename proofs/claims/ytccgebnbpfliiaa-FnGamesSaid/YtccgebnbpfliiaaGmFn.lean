/- The walk of FnGames: whatever the code, the law returns true. -/
import Derived.Test.YtccgebnbpfliiaaGmW3
import Derived.Test.YtccgebnbpfliiaaGmDt
import Derived.Test.YtccgebnbpfliiaaBig
import Derived.Deep.RegionHeld
namespace Go.Proofs.Ytccgebnbpfliiaa
open Go.RowKit
open Gm (G)
theorem eqG_self (g : G) : Gm.eqG g g = true := by unfold Gm.eqG; simp
theorem in_ints {B : Nat} {w : World} {v : Value} {zs : List Int} (h : OwnInts B w v zs) : InInts w v zs := by
  obtain ⟨a, c, rfl, hr, ha, _⟩ := own_reads h
  exact ⟨a, c, rfl, NumsIn.of_ints hr fun p hp => (ha p hp).2⟩
theorem calls_pure {P : Program} {f : FuncId} {args : Array Value} {w : World} {v : Value} (h : Calls P f args w fun e w' => e = .returned v ∧ w = w') : Calls P f args w fun e w' => e = .returned v ∧ Below w.heap.size w w' :=
  h.mono fun _ _ ⟨h1, h2⟩ => ⟨h1, h2 ▸ Below.refl _ _⟩
theorem grand_bd (g : G) : -500 ≤ Gm.grand g ∧ Gm.grand g ≤ 500 := by
  cases h : Gm.vld g with
  | false => rw [Gm.grand_no h]; omega
  | true =>
    rw [Gm.grand_yes h]
    have := Gm.vld_len h
    exact Gm.vld_at h (by omega)
theorem grand_add (a b : G) : (Gm.add a b).2 = true → Gm.grand (Gm.add a b).1 = Gm.grand a + Gm.grand b := by
  cases hk : Gm.addOk a b with
  | false => rw [Gm.add_no hk]; intro h; cases h
  | true =>
    obtain ⟨ha, hb, hn⟩ := Gm.addOk_parts hk
    rw [Gm.add_yes hk]
    cases hv : Gm.vld (Gm.mk a.n (Gm.addAt a b) a.v.length) with
    | false => rw [Gm.keep_no hv]; intro h; cases h
    | true =>
      intro _
      rw [Gm.keep_yes hv]
      have hl := Gm.vld_len ha
      have hlb : b.v.length = a.v.length := by rw [Gm.vld_pow ha, Gm.vld_pow hb, hn]
      simp only
      rw [Gm.grand_yes hv, Gm.grand_yes ha, Gm.grand_yes hb, Gm.mk_len, Gm.mk_at _ _ (by omega), hlb]
      rfl
theorem wide_top : ∀ s : Fin 32, Gm.wide (Co.mem (s.val : Int) 5) ((2 ^ (Co.mem (s.val : Int) 5).length - 1 : Nat) : Int) (Co.mem (s.val : Int) 5).length = (s.val : Int) := by decide +kernel
theorem mem_size : ∀ s : Fin 32, ((Co.mem (s.val : Int) 5).length : Int) = Co.size (s.val : Int) 5 := by decide +kernel
theorem grand_res (g : G) (s : Int) : (Gm.res g s).2 = true → Gm.grand (Gm.res g s).1 = Gm.val g s ∧ Co.size s 5 = (Gm.res g s).1.n := by
  cases hk : Gm.resOk g s with
  | false => rw [Gm.res_no hk]; intro h; cases h
  | true =>
    intro _
    obtain ⟨hv, h1, h2⟩ := Gm.resOk_parts hk
    have hl := Gm.vld_len hv
    rw [Gm.res_yes hk]
    have hr := Gm.res_vld hk
    obtain ⟨n, rfl⟩ : ∃ n : Nat, s = n := ⟨s.toNat, by omega⟩
    have hp : 0 < 2 ^ (Co.mem (n : Int) 5).length := Nat.pow_pos (by omega)
    refine ⟨?_, (mem_size ⟨n, by omega⟩).symm⟩
    simp only
    rw [Gm.grand_yes hr, Gm.val_in (by omega), show (Gm.resG g n).v.length = 2 ^ (Co.mem (n : Int) 5).length from Gm.mk_len _ _ _, show (Gm.resG g n).v.getD (2 ^ (Co.mem (n : Int) 5).length - 1) 0 = Gm.resAt g n (2 ^ (Co.mem (n : Int) 5).length - 1) from Gm.mk_at _ _ (by omega)]
    unfold Gm.resAt
    rw [wide_top ⟨n, by omega⟩]
    simp
set_option maxRecDepth 100000 in
set_option maxHeartbeats 16000000 in
theorem fnGames.walk0 (a : Option Addr) (len cap : Nat) (w : World) (hcode : CodeAt w.heap.size w a len) :
    Calls Try.prog 3 #[.slice a len cap] w fun e w' => e = .returned (.bool true) ∧ Below w.heap.size w w' := by
  have Hc := Lib.hid hcode
  clear hcode
  by_cases hbig : 1048576 < len
  · go_enter Try.func3, Try.ntmps3
    go_wp2_with fail
    refine (big_yes a len cap hbig w).mono ?_
    rintro e w1 ⟨rfl, rfl⟩
    go_wp2_with fail
    go_ret
    exact ⟨rfl, Below.refl _ _⟩
  · go_enter Try.func3, Try.ntmps3
    go_wp2_with fail
    refine (big_no a len cap (by omega) w).mono ?_
    rintro e wz ⟨rfl, rfl⟩
    go_wp2_with fail
    refine (spec_DrawAddGames a len cap w Hc.out).mono ?_
    rintro e w1 ⟨ga, gb, va, vb, rfl, hA, hB, fA, fB, k⟩
    have HB := Lib.hid k
    have GGA := Lib.hid hA
    have GGB := Lib.hid hB
    have FA := Lib.hid fA
    have FB := Lib.hid fB
    have HXa := Lib.hid (add_ok ga gb)
    have HSum := Lib.hid (grand_add ga gb)
    obtain ⟨R, hR⟩ : ∃ R, Gm.add ga gb = R := ⟨_, rfl⟩
    have HIm := Lib.hid (fun (w : World) (x y x' y' : Value) (h : GmC w x y ga) (h' : GmC w x' y' gb) => hR ▸ impl_AddGames h h' FA.out FB.out)
    have HSp := Lib.hid (fun (w : World) (x y x' y' : Value) (h : GmC w x y ga) (h' : GmC w x' y' gb) => hR ▸ spec_AddGames h h' FA.out FB.out)
    rw [hR] at HXa HSum
    obtain ⟨na, hna⟩ : ∃ na : Int, ga.n = na := ⟨_, rfl⟩
    obtain ⟨nb, hnb⟩ : ∃ nb : Int, gb.n = nb := ⟨_, rfl⟩
    rw [hna] at GGA ⊢
    rw [hnb] at GGB ⊢
    clear k hA hB fA fB hR hna hnb
    obtain ⟨_, o1⟩ := GGA.out.one
    have t1 := sto o1
    obtain ⟨_, o2⟩ := GGB.out.one
    have t2 := sto o2
    clear o1 o2
    replace GGA := Lib.hid (GGA.out.up ((Below.refl _ _).alloc (Nat.le_refl _) (.cells #[.int .i64 na, va] 26)))
    replace GGB := Lib.hid (GGB.out.up ((Below.refl _ _).alloc (Nat.le_refl _) (.cells #[.int .i64 na, va] 26)))
    replace HB := Lib.hid (HB.out.alloc HB.out.size (.cells #[.int .i64 na, va] 26))
    have BX3 := Lib.hid (CellsAt.new w1 #[.int .i64 na, va] 26)
    replace BX3 := Lib.hid (BX3.out.more (.cells #[.int .i64 nb, vb] 26))
    replace GGA := Lib.hid (GGA.out.up ((Below.refl _ _).alloc (Nat.le_refl _) (.cells #[.int .i64 nb, vb] 26)))
    replace GGB := Lib.hid (GGB.out.up ((Below.refl _ _).alloc (Nat.le_refl _) (.cells #[.int .i64 nb, vb] 26)))
    replace HB := Lib.hid (HB.out.alloc HB.out.size (.cells #[.int .i64 nb, vb] 26))
    have hbx := CellsAt.new (w1.alloc (.cells #[.int .i64 na, va] 26)) #[.int .i64 nb, vb] 26
    rw [size1] at hbx
    have BX4 := Lib.hid hbx
    clear hbx
    go_wp2_with fail
    clear t1 t2
    generalize hWw2 : ((w1.alloc (.cells #[.int .i64 na, va] 26)).alloc (.cells #[.int .i64 nb, vb] 26)) = w2 at *
    refine (HIm.out _ _ _ _ _ GGA.out GGB.out).mono ?_
    rintro e w3 ⟨⟨x5, y5, rfl, hr⟩, k⟩
    replace BX3 := Lib.hid (BX3.out.below k)
    replace BX4 := Lib.hid (BX4.out.below k)
    replace GGA := Lib.hid (GGA.out.up k)
    replace GGB := Lib.hid (GGB.out.up k)
    replace HB := Lib.hid (HB.out.trans (k.mono HB.out.size))
    clear k
    have GGS := Lib.hid hr
    clear hr
    replace GGS := Lib.hid GGS.out.reads_c
    obtain ⟨o0, o1⟩ := GGS.out.one
    have t0 := sto o0
    have t1 := sto o1
    clear o0 o1
    replace BX3 := Lib.hid (BX3.out.more (.cells #[x5, y5] 26))
    replace BX4 := Lib.hid (BX4.out.more (.cells #[x5, y5] 26))
    replace GGA := Lib.hid (GGA.out.up ((Below.refl _ _).alloc (Nat.le_refl _) (.cells #[x5, y5] 26)))
    replace GGB := Lib.hid (GGB.out.up ((Below.refl _ _).alloc (Nat.le_refl _) (.cells #[x5, y5] 26)))
    replace GGS := Lib.hid (GGS.out.up ((Below.refl _ _).alloc (Nat.le_refl _) (.cells #[x5, y5] 26)))
    replace HB := Lib.hid (HB.out.alloc HB.out.size (.cells #[x5, y5] 26))
    have BX5 := Lib.hid (CellsAt.new w3 #[x5, y5] 26)
    obtain ⟨m1a, m1b⟩ := two BX3.out
    obtain ⟨m2a, m2b⟩ := two BX4.out
    go_wp2_with fail
    clear t0 t1 m1a m1b m2a m2b
    generalize hWw4 : (w3.alloc (.cells #[x5, y5] 26)) = w4 at *
    refine (HSp.out _ _ _ _ _ GGA.out GGB.out).mono ?_
    rintro e w5 ⟨⟨x7, y7, rfl, hr⟩, k⟩
    replace BX3 := Lib.hid (BX3.out.below k)
    replace BX4 := Lib.hid (BX4.out.below k)
    replace BX5 := Lib.hid (BX5.out.below k)
    replace GGA := Lib.hid (GGA.out.up k)
    replace GGB := Lib.hid (GGB.out.up k)
    replace GGS := Lib.hid (GGS.out.up k)
    replace HB := Lib.hid (HB.out.trans (k.mono HB.out.size))
    clear k
    have GGT := Lib.hid hr
    clear hr
    replace GGT := Lib.hid GGT.out.reads_c
    obtain ⟨o0, o1⟩ := GGT.out.one
    have t0 := sto o0
    have t1 := sto o1
    clear o0 o1
    replace BX3 := Lib.hid (BX3.out.more (.cells #[x7, y7] 26))
    replace BX4 := Lib.hid (BX4.out.more (.cells #[x7, y7] 26))
    replace BX5 := Lib.hid (BX5.out.more (.cells #[x7, y7] 26))
    replace GGA := Lib.hid (GGA.out.up ((Below.refl _ _).alloc (Nat.le_refl _) (.cells #[x7, y7] 26)))
    replace GGB := Lib.hid (GGB.out.up ((Below.refl _ _).alloc (Nat.le_refl _) (.cells #[x7, y7] 26)))
    replace GGS := Lib.hid (GGS.out.up ((Below.refl _ _).alloc (Nat.le_refl _) (.cells #[x7, y7] 26)))
    replace GGT := Lib.hid (GGT.out.up ((Below.refl _ _).alloc (Nat.le_refl _) (.cells #[x7, y7] 26)))
    replace HB := Lib.hid (HB.out.alloc HB.out.size (.cells #[x7, y7] 26))
    have BX7 := Lib.hid (CellsAt.new w5 #[x7, y7] 26)
    clear HIm HSp
    go_wp2_with fail
    clear t0 t1
    generalize hWw6 : (w5.alloc (.cells #[x7, y7] 26)) = w6 at *
    refine (spec_DrawScaleGame a len cap _ (Hc.out.below HB.out |>.mono HB.out.size)).mono ?_
    rintro e w7 ⟨gg, vg, kf, vu, zs, rfl, hg, fG, hu, hzl, k⟩
    replace BX3 := Lib.hid (BX3.out.below k)
    replace BX4 := Lib.hid (BX4.out.below k)
    replace BX5 := Lib.hid (BX5.out.below k)
    replace BX7 := Lib.hid (BX7.out.below k)
    replace GGA := Lib.hid (GGA.out.up k)
    replace GGB := Lib.hid (GGB.out.up k)
    replace GGS := Lib.hid (GGS.out.up k)
    replace GGT := Lib.hid (GGT.out.up k)
    replace HB := Lib.hid (HB.out.trans (k.mono HB.out.size))
    clear k
    have GGG := Lib.hid (GmC.of_owns (g := gg) hg)
    have FG := Lib.hid fG
    have HU := Lib.hid (in_ints hu)
    have hz6 : zs.length ≤ 1048576 := by omega
    have HXs := Lib.hid (scl_ok gg kf zs)
    obtain ⟨Q, hQ⟩ : ∃ Q, Gm.scl gg kf zs = Q := ⟨_, rfl⟩
    have HIm := Lib.hid (fun (w : World) (x y u : Value) (h : GmC w x y gg) (h' : InInts w u zs) => hQ ▸ impl_ScaleGame (kf := kf) h h' FG.out hz6)
    have HSp := Lib.hid (fun (w : World) (x y u : Value) (h : GmC w x y gg) (h' : InInts w u zs) => hQ ▸ spec_ScaleGame (kf := kf) h h' FG.out hz6)
    rw [hQ] at HXs
    obtain ⟨ng, hng⟩ : ∃ ng : Int, gg.n = ng := ⟨_, rfl⟩
    rw [hng] at GGG ⊢
    clear hg fG hu hng hQ
    have GGU := HU
    clear HU
    obtain ⟨_, o1⟩ := GGG.out.one
    have t1 := sto o1
    clear o1
    replace BX3 := Lib.hid (BX3.out.more (.cells #[.int .i64 ng, vg] 26))
    replace BX4 := Lib.hid (BX4.out.more (.cells #[.int .i64 ng, vg] 26))
    replace BX5 := Lib.hid (BX5.out.more (.cells #[.int .i64 ng, vg] 26))
    replace BX7 := Lib.hid (BX7.out.more (.cells #[.int .i64 ng, vg] 26))
    replace GGA := Lib.hid (GGA.out.up ((Below.refl _ _).alloc (Nat.le_refl _) (.cells #[.int .i64 ng, vg] 26)))
    replace GGB := Lib.hid (GGB.out.up ((Below.refl _ _).alloc (Nat.le_refl _) (.cells #[.int .i64 ng, vg] 26)))
    replace GGS := Lib.hid (GGS.out.up ((Below.refl _ _).alloc (Nat.le_refl _) (.cells #[.int .i64 ng, vg] 26)))
    replace GGT := Lib.hid (GGT.out.up ((Below.refl _ _).alloc (Nat.le_refl _) (.cells #[.int .i64 ng, vg] 26)))
    replace GGG := Lib.hid (GGG.out.up ((Below.refl _ _).alloc (Nat.le_refl _) (.cells #[.int .i64 ng, vg] 26)))
    replace GGU := Lib.hid (GGU.out.up ((Below.refl _ _).alloc (Nat.le_refl _) (.cells #[.int .i64 ng, vg] 26)))
    replace HB := Lib.hid (HB.out.alloc HB.out.size (.cells #[.int .i64 ng, vg] 26))
    have BX9 := Lib.hid (CellsAt.new w7 #[.int .i64 ng, vg] 26)
    go_wp2_with fail
    clear t1
    generalize hWw8 : (w7.alloc (.cells #[.int .i64 ng, vg] 26)) = w8 at *
    refine (HIm.out _ _ _ _ GGG.out GGU.out).mono ?_
    rintro e w9 ⟨⟨x12, y12, rfl, hr⟩, k⟩
    replace BX3 := Lib.hid (BX3.out.below k)
    replace BX4 := Lib.hid (BX4.out.below k)
    replace BX5 := Lib.hid (BX5.out.below k)
    replace BX7 := Lib.hid (BX7.out.below k)
    replace BX9 := Lib.hid (BX9.out.below k)
    replace GGA := Lib.hid (GGA.out.up k)
    replace GGB := Lib.hid (GGB.out.up k)
    replace GGS := Lib.hid (GGS.out.up k)
    replace GGT := Lib.hid (GGT.out.up k)
    replace GGG := Lib.hid (GGG.out.up k)
    replace GGU := Lib.hid (GGU.out.up k)
    replace HB := Lib.hid (HB.out.trans (k.mono HB.out.size))
    clear k
    have GGX := Lib.hid hr
    clear hr
    replace GGX := Lib.hid GGX.out.reads_c
    obtain ⟨o0, o1⟩ := GGX.out.one
    have t0 := sto o0
    have t1 := sto o1
    clear o0 o1
    replace BX3 := Lib.hid (BX3.out.more (.cells #[x12, y12] 26))
    replace BX4 := Lib.hid (BX4.out.more (.cells #[x12, y12] 26))
    replace BX5 := Lib.hid (BX5.out.more (.cells #[x12, y12] 26))
    replace BX7 := Lib.hid (BX7.out.more (.cells #[x12, y12] 26))
    replace BX9 := Lib.hid (BX9.out.more (.cells #[x12, y12] 26))
    replace GGA := Lib.hid (GGA.out.up ((Below.refl _ _).alloc (Nat.le_refl _) (.cells #[x12, y12] 26)))
    replace GGB := Lib.hid (GGB.out.up ((Below.refl _ _).alloc (Nat.le_refl _) (.cells #[x12, y12] 26)))
    replace GGS := Lib.hid (GGS.out.up ((Below.refl _ _).alloc (Nat.le_refl _) (.cells #[x12, y12] 26)))
    replace GGT := Lib.hid (GGT.out.up ((Below.refl _ _).alloc (Nat.le_refl _) (.cells #[x12, y12] 26)))
    replace GGG := Lib.hid (GGG.out.up ((Below.refl _ _).alloc (Nat.le_refl _) (.cells #[x12, y12] 26)))
    replace GGU := Lib.hid (GGU.out.up ((Below.refl _ _).alloc (Nat.le_refl _) (.cells #[x12, y12] 26)))
    replace GGX := Lib.hid (GGX.out.up ((Below.refl _ _).alloc (Nat.le_refl _) (.cells #[x12, y12] 26)))
    replace HB := Lib.hid (HB.out.alloc HB.out.size (.cells #[x12, y12] 26))
    have BX12 := Lib.hid (CellsAt.new w9 #[x12, y12] 26)
    obtain ⟨m3a, m3b⟩ := two BX9.out
    go_wp2_with fail
    clear t0 t1 m3a m3b
    generalize hWw10 : (w9.alloc (.cells #[x12, y12] 26)) = w10 at *
    refine (HSp.out _ _ _ _ GGG.out GGU.out).mono ?_
    rintro e w11 ⟨⟨x14, y14, rfl, hr⟩, k⟩
    replace BX3 := Lib.hid (BX3.out.below k)
    replace BX4 := Lib.hid (BX4.out.below k)
    replace BX5 := Lib.hid (BX5.out.below k)
    replace BX7 := Lib.hid (BX7.out.below k)
    replace BX9 := Lib.hid (BX9.out.below k)
    replace BX12 := Lib.hid (BX12.out.below k)
    replace GGA := Lib.hid (GGA.out.up k)
    replace GGB := Lib.hid (GGB.out.up k)
    replace GGS := Lib.hid (GGS.out.up k)
    replace GGT := Lib.hid (GGT.out.up k)
    replace GGG := Lib.hid (GGG.out.up k)
    replace GGU := Lib.hid (GGU.out.up k)
    replace GGX := Lib.hid (GGX.out.up k)
    replace HB := Lib.hid (HB.out.trans (k.mono HB.out.size))
    clear k
    have GGY := Lib.hid hr
    clear hr
    replace GGY := Lib.hid GGY.out.reads_c
    obtain ⟨o0, o1⟩ := GGY.out.one
    have t0 := sto o0
    have t1 := sto o1
    clear o0 o1
    replace BX3 := Lib.hid (BX3.out.more (.cells #[x14, y14] 26))
    replace BX4 := Lib.hid (BX4.out.more (.cells #[x14, y14] 26))
    replace BX5 := Lib.hid (BX5.out.more (.cells #[x14, y14] 26))
    replace BX7 := Lib.hid (BX7.out.more (.cells #[x14, y14] 26))
    replace BX9 := Lib.hid (BX9.out.more (.cells #[x14, y14] 26))
    replace BX12 := Lib.hid (BX12.out.more (.cells #[x14, y14] 26))
    replace GGA := Lib.hid (GGA.out.up ((Below.refl _ _).alloc (Nat.le_refl _) (.cells #[x14, y14] 26)))
    replace GGB := Lib.hid (GGB.out.up ((Below.refl _ _).alloc (Nat.le_refl _) (.cells #[x14, y14] 26)))
    replace GGS := Lib.hid (GGS.out.up ((Below.refl _ _).alloc (Nat.le_refl _) (.cells #[x14, y14] 26)))
    replace GGT := Lib.hid (GGT.out.up ((Below.refl _ _).alloc (Nat.le_refl _) (.cells #[x14, y14] 26)))
    replace GGG := Lib.hid (GGG.out.up ((Below.refl _ _).alloc (Nat.le_refl _) (.cells #[x14, y14] 26)))
    replace GGU := Lib.hid (GGU.out.up ((Below.refl _ _).alloc (Nat.le_refl _) (.cells #[x14, y14] 26)))
    replace GGX := Lib.hid (GGX.out.up ((Below.refl _ _).alloc (Nat.le_refl _) (.cells #[x14, y14] 26)))
    replace GGY := Lib.hid (GGY.out.up ((Below.refl _ _).alloc (Nat.le_refl _) (.cells #[x14, y14] 26)))
    replace HB := Lib.hid (HB.out.alloc HB.out.size (.cells #[x14, y14] 26))
    have BX14 := Lib.hid (CellsAt.new w11 #[x14, y14] 26)
    clear HIm HSp
    have HBC := HB
    obtain ⟨ok, hok⟩ : ∃ ok, R.2 = ok := ⟨_, rfl⟩
    obtain ⟨fine, hfine⟩ : ∃ fine, Q.2 = fine := ⟨_, rfl⟩
    have hnf := ne_selfb fine
    rw [hok] at HSum ⊢
    rw [hfine]
    clear hok hfine
    go_upto_region 9 with fail
    clear t0 t1
    generalize hWw12 : (w11.alloc (.cells #[x14, y14] 26)) = w12 at *
    have Cell := Lib.hid (fun w' (h : Since w12 w') => (show w'.cell? ⟨w1.heap.size, 0, none⟩ = some (.int .i64 na) ∧ w'.cell? ⟨w1.heap.size, 1, none⟩ = some (va) ∧ w'.cell? ⟨w1.heap.size + 1, 0, none⟩ = some (.int .i64 nb) ∧ w'.cell? ⟨w1.heap.size + 1, 1, none⟩ = some (vb) ∧ w'.cell? ⟨w3.heap.size, 0, none⟩ = some (x5) ∧ w'.cell? ⟨w3.heap.size, 1, none⟩ = some (y5) ∧ w'.cell? ⟨w5.heap.size, 0, none⟩ = some (x7) ∧ w'.cell? ⟨w5.heap.size, 1, none⟩ = some (y7) ∧ w'.cell? ⟨w9.heap.size, 0, none⟩ = some (x12) ∧ w'.cell? ⟨w9.heap.size, 1, none⟩ = some (y12) ∧ w'.cell? ⟨w11.heap.size, 0, none⟩ = some (x14) ∧ w'.cell? ⟨w11.heap.size, 1, none⟩ = some (y14) ∧ Since w12 w' from ⟨h.cell (p := ⟨w1.heap.size, 0, none⟩) (lt_of_at BX3.out) (BX3.out.cell 0), h.cell (p := ⟨w1.heap.size, 1, none⟩) (lt_of_at BX3.out) (BX3.out.cell 1), h.cell (p := ⟨w1.heap.size + 1, 0, none⟩) (lt_of_at BX4.out) (BX4.out.cell 0), h.cell (p := ⟨w1.heap.size + 1, 1, none⟩) (lt_of_at BX4.out) (BX4.out.cell 1), h.cell (p := ⟨w3.heap.size, 0, none⟩) (lt_of_at BX5.out) (BX5.out.cell 0), h.cell (p := ⟨w3.heap.size, 1, none⟩) (lt_of_at BX5.out) (BX5.out.cell 1), h.cell (p := ⟨w5.heap.size, 0, none⟩) (lt_of_at BX7.out) (BX7.out.cell 0), h.cell (p := ⟨w5.heap.size, 1, none⟩) (lt_of_at BX7.out) (BX7.out.cell 1), h.cell (p := ⟨w9.heap.size, 0, none⟩) (lt_of_at BX12.out) (BX12.out.cell 0), h.cell (p := ⟨w9.heap.size, 1, none⟩) (lt_of_at BX12.out) (BX12.out.cell 1), h.cell (p := ⟨w11.heap.size, 0, none⟩) (lt_of_at BX14.out) (BX14.out.cell 0), h.cell (p := ⟨w11.heap.size, 1, none⟩) (lt_of_at BX14.out) (BX14.out.cell 1), h⟩))
    have hin := (Since.refl w12).drew
    go_cut [93] (fun v wx => v = .bool false ∧ Below w.heap.size w wx)
    case first =>
      have hgl := HXa.out
      cases ok with
      | true =>
        have hsum := HSum.out rfl
        have hgb := grand_bd R.1
        have hga := grand_bd ga
        have hgc := grand_bd gb
        have HG1 := Lib.hid (fun (w : World) (x y : Value) (h : GmC w x y R.1) => hsum ▸ impl_GrandValue h HXa.out)
        have HG2 := Lib.hid (fun (w : World) (x y : Value) (h : GmC w x y ga) => impl_GrandValue h FA.out)
        have HG3 := Lib.hid (fun (w : World) (x y : Value) (h : GmC w x y gb) => impl_GrandValue h FB.out)
        generalize Gm.grand ga = za at *
        generalize Gm.grand gb = zb at *
        have hs1 : IntKind.i64.wrap (za + zb) = za + zb := IntWalk.i64_in _ (by omega)
        have hne : (za + zb != za + zb) = false := by simp
        clear hsum hgb
        refine wp_region_held_drew (S := fun w' => w'.cell? ⟨w1.heap.size, 0, none⟩ = some (.int .i64 na) ∧ w'.cell? ⟨w1.heap.size, 1, none⟩ = some (va) ∧ w'.cell? ⟨w1.heap.size + 1, 0, none⟩ = some (.int .i64 nb) ∧ w'.cell? ⟨w1.heap.size + 1, 1, none⟩ = some (vb) ∧ w'.cell? ⟨w3.heap.size, 0, none⟩ = some (x5) ∧ w'.cell? ⟨w3.heap.size, 1, none⟩ = some (y5) ∧ w'.cell? ⟨w5.heap.size, 0, none⟩ = some (x7) ∧ w'.cell? ⟨w5.heap.size, 1, none⟩ = some (y7) ∧ w'.cell? ⟨w9.heap.size, 0, none⟩ = some (x12) ∧ w'.cell? ⟨w9.heap.size, 1, none⟩ = some (y12) ∧ w'.cell? ⟨w11.heap.size, 0, none⟩ = some (x14) ∧ w'.cell? ⟨w11.heap.size, 1, none⟩ = some (y14) ∧ Since w12 w') (by kernel_rfl) ?_ (fun hHeld => ?_)
        · exact Cell.out _ hin
        have hh := hin
        refine wpAnyH_take (i := 0) (oi := { dst := some 61, op := Op.move (Operand.tmp 6), type := 4, pos := "laws.go:341", after := #[], guard := none }) (v := ?_) rfl (by kernel_rfl) (by kernel_rfl) (by kernel_rfl) (fun _ _ _ h => h) (Or.inl ⟨by rfl, ?_⟩) (by assumption) ?_
        rotate_left 1
        · intro w hSw; (try dsimp only at hSw); go_simp; try (with_reducible rfl)
        try simp only [Act.put, List.setIfInBounds_toArray, List.set_cons_zero, List.set_cons_succ]
        refine wpAnyH_take (i := 1) (oi := { dst := some 62, op := Op.move (Operand.tmp 8), type := 4, pos := "laws.go:341", after := #[], guard := none }) (v := ?_) rfl (by kernel_rfl) (by kernel_rfl) (by kernel_rfl) (fun _ _ _ h => h) (Or.inl ⟨by rfl, ?_⟩) (by assumption) ?_
        rotate_left 1
        · intro w hSw; (try dsimp only at hSw); go_simp; try (with_reducible rfl)
        try simp only [Act.put, List.setIfInBounds_toArray, List.set_cons_zero, List.set_cons_succ]
        refine wpAnyH_take (i := 2) (oi := { dst := some 63, op := Op.binOp BinOp.neq 4 (Operand.tmp 61) (Operand.tmp 62) 4, type := 4, pos := "laws.go:341", after := #[{ on := 0, ground := Ground.data }, { on := 1, ground := Ground.data }], guard := none }) (v := ?_) rfl (by kernel_rfl) (by kernel_rfl) (by kernel_rfl) (fun _ _ _ h => h) (Or.inl ⟨by rfl, ?_⟩) (by assumption) ?_
        rotate_left 1
        · intro w hSw; (try dsimp only at hSw); go_simp; try (with_reducible rfl)
        try simp only [Act.put, List.setIfInBounds_toArray, List.set_cons_zero, List.set_cons_succ]
        refine wpAnyH_take (i := 3) (oi := { dst := some 64, op := Op.move (Operand.tmp 63), type := 4, pos := "laws.go:341", after := #[{ on := 2, ground := Ground.data }], guard := none }) (v := ?_) rfl (by kernel_rfl) (by kernel_rfl) (by kernel_rfl) (fun _ _ _ h => h) (Or.inl ⟨by rfl, ?_⟩) (by assumption) ?_
        rotate_left 1
        · intro w hSw; (try dsimp only at hSw); go_simp; try (with_reducible rfl)
        try simp only [Act.put, List.setIfInBounds_toArray, List.set_cons_zero, List.set_cons_succ]
        refine wpAnyH_take (i := 4) (oi := { dst := some 65, op := Op.load 26 (Operand.tmp 5), type := 26, pos := "laws.go:341", after := #[{ on := 3, ground := Ground.guard }], guard := some (3, false) }) (v := ?_) rfl (by kernel_rfl) (by kernel_rfl) (by kernel_rfl) (fun _ _ _ h => h) (Or.inl ⟨by rfl, ?_⟩) (by assumption) ?_
        rotate_left 1
        · intro w hSw; (try dsimp only at hSw); go_simp; try (with_reducible rfl)
        try simp only [Act.put, List.setIfInBounds_toArray, List.set_cons_zero, List.set_cons_succ]
        refine wpAnyH_take (i := 5) (oi := { dst := some 66, op := Op.load 26 (Operand.tmp 7), type := 26, pos := "laws.go:341", after := #[{ on := 3, ground := Ground.guard }], guard := some (3, false) }) (v := ?_) rfl (by kernel_rfl) (by kernel_rfl) (by kernel_rfl) (fun _ _ _ h => h) (Or.inl ⟨by rfl, ?_⟩) (by assumption) ?_
        rotate_left 1
        · intro w hSw; (try dsimp only at hSw); go_simp; try (with_reducible rfl)
        try simp only [Act.put, List.setIfInBounds_toArray, List.set_cons_zero, List.set_cons_succ]
        refine wpAnyH_ready (rs := [6]) (by kernel_rfl) (by simp) ?_
        refine AllReadyH.cons (o := { dst := some 67, op := Op.call { callee := Callee.value (Operand.func 18), args := #[Operand.tmp 65, Operand.tmp 66], argTypes := #[26, 26] }, type := 4, pos := "laws.go:341", after := #[{ on := 4, ground := Ground.data }, { on := 5, ground := Ground.data }, { on := 3, ground := Ground.chain }, { on := 3, ground := Ground.guard }], guard := some (3, false) }) (rs := []) rfl (fun K hK => ?_) AllReadyH.nil
        go_simp
        (go_at_call 18; refine (calls_since (impl_EqualGame true (eqG_self R.1) (GGS.out.up (hh : Since w12 _).low) (GGT.out.up (hh : Since w12 _).low) HXa.out HXa.out) hh).mono ?_; rintro e wq ⟨⟨rfl, _⟩, hh2⟩; clear hh; have hh := hh2; clear hh2)
        refine hK.out _ _ ?_ (fun hHeld => ?_)
        · exact Cell.out _ hh
        clear hK K
        try simp only [Act.put, List.setIfInBounds_toArray, List.set_cons_zero, List.set_cons_succ]
        refine wpAnyH_take (i := 7) (oi := { dst := some 68, op := Op.unOp UnOp.not 4 (Operand.tmp 67), type := 4, pos := "laws.go:341", after := #[{ on := 6, ground := Ground.data }, { on := 3, ground := Ground.guard }], guard := some (3, false) }) (v := ?_) rfl (by kernel_rfl) (by kernel_rfl) (by kernel_rfl) (fun _ _ _ h => h) (Or.inl ⟨by rfl, ?_⟩) (by assumption) ?_
        rotate_left 1
        · intro w hSw; (try dsimp only at hSw); go_simp; try (with_reducible rfl)
        try simp only [Act.put, List.setIfInBounds_toArray, List.set_cons_zero, List.set_cons_succ]
        refine wpAnyH_take (i := 8) (oi := { dst := some 69, op := Op.pick (Operand.tmp 64) (Operand.const (Value.bool true)) (Operand.tmp 68), type := 4, pos := "laws.go:341", after := #[{ on := 3, ground := Ground.data }, { on := 7, ground := Ground.data }], guard := none }) (v := ?_) rfl (by kernel_rfl) (by kernel_rfl) (by kernel_rfl) (fun _ _ _ h => h) (Or.inl ⟨by rfl, ?_⟩) (by assumption) ?_
        rotate_left 1
        · intro w hSw; (try dsimp only at hSw); go_simp; try (with_reducible rfl)
        try simp only [Act.put, List.setIfInBounds_toArray, List.set_cons_zero, List.set_cons_succ]
        refine wpAnyH_take (i := 9) (oi := { dst := some 70, op := Op.move (Operand.tmp 69), type := 4, pos := "laws.go:341", after := #[{ on := 8, ground := Ground.data }, { on := 6, ground := Ground.chain }], guard := none }) (v := ?_) rfl (by kernel_rfl) (by kernel_rfl) (by kernel_rfl) (fun _ _ _ h => h) (Or.inl ⟨by rfl, ?_⟩) (by assumption) ?_
        rotate_left 1
        · intro w hSw; (try dsimp only at hSw); go_simp; try (with_reducible rfl)
        try simp only [Act.put, List.setIfInBounds_toArray, List.set_cons_zero, List.set_cons_succ]
        refine wpAnyH_take (i := 10) (oi := { dst := some 71, op := Op.move (Operand.tmp 13), type := 4, pos := "laws.go:341", after := #[{ on := 9, ground := Ground.guard }], guard := some (9, false) }) (v := ?_) rfl (by kernel_rfl) (by kernel_rfl) (by kernel_rfl) (fun _ _ _ h => h) (Or.inl ⟨by rfl, ?_⟩) (by assumption) ?_
        rotate_left 1
        · intro w hSw; (try dsimp only at hSw); go_simp; try (with_reducible rfl)
        try simp only [Act.put, List.setIfInBounds_toArray, List.set_cons_zero, List.set_cons_succ]
        refine wpAnyH_take (i := 11) (oi := { dst := some 72, op := Op.move (Operand.tmp 15), type := 4, pos := "laws.go:341", after := #[{ on := 9, ground := Ground.guard }], guard := some (9, false) }) (v := ?_) rfl (by kernel_rfl) (by kernel_rfl) (by kernel_rfl) (fun _ _ _ h => h) (Or.inl ⟨by rfl, ?_⟩) (by assumption) ?_
        rotate_left 1
        · intro w hSw; (try dsimp only at hSw); go_simp; try (with_reducible rfl)
        try simp only [Act.put, List.setIfInBounds_toArray, List.set_cons_zero, List.set_cons_succ]
        refine wpAnyH_take (i := 12) (oi := { dst := some 73, op := Op.binOp BinOp.neq 4 (Operand.tmp 71) (Operand.tmp 72) 4, type := 4, pos := "laws.go:341", after := #[{ on := 10, ground := Ground.data }, { on := 11, ground := Ground.data }, { on := 9, ground := Ground.guard }], guard := some (9, false) }) (v := ?_) rfl (by kernel_rfl) (by kernel_rfl) (by kernel_rfl) (fun _ _ _ h => h) (Or.inl ⟨by rfl, ?_⟩) (by assumption) ?_
        rotate_left 1
        · intro w hSw; (try dsimp only at hSw); go_simp; try (with_reducible rfl)
        try simp only [Act.put, List.setIfInBounds_toArray, List.set_cons_zero, List.set_cons_succ]
        refine wpAnyH_take (i := 13) (oi := { dst := some 74, op := Op.pick (Operand.tmp 70) (Operand.const (Value.bool true)) (Operand.tmp 73), type := 4, pos := "laws.go:341", after := #[{ on := 9, ground := Ground.data }, { on := 12, ground := Ground.data }], guard := none }) (v := ?_) rfl (by kernel_rfl) (by kernel_rfl) (by kernel_rfl) (fun _ _ _ h => h) (Or.inl ⟨by rfl, ?_⟩) (by assumption) ?_
        rotate_left 1
        · intro w hSw; (try dsimp only at hSw); go_simp; try (with_reducible rfl)
        try simp only [Act.put, List.setIfInBounds_toArray, List.set_cons_zero, List.set_cons_succ]
        refine wpAnyH_take (i := 14) (oi := { dst := some 75, op := Op.move (Operand.tmp 74), type := 4, pos := "laws.go:341", after := #[{ on := 13, ground := Ground.data }, { on := 9, ground := Ground.chain }], guard := none }) (v := ?_) rfl (by kernel_rfl) (by kernel_rfl) (by kernel_rfl) (fun _ _ _ h => h) (Or.inl ⟨by rfl, ?_⟩) (by assumption) ?_
        rotate_left 1
        · intro w hSw; (try dsimp only at hSw); go_simp; try (with_reducible rfl)
        try simp only [Act.put, List.setIfInBounds_toArray, List.set_cons_zero, List.set_cons_succ]
        refine wpAnyH_take (i := 15) (oi := { dst := some 76, op := Op.load 26 (Operand.tmp 12), type := 26, pos := "laws.go:341", after := #[{ on := 14, ground := Ground.guard }], guard := some (14, false) }) (v := ?_) rfl (by kernel_rfl) (by kernel_rfl) (by kernel_rfl) (fun _ _ _ h => h) (Or.inl ⟨by rfl, ?_⟩) (by assumption) ?_
        rotate_left 1
        · intro w hSw; (try dsimp only at hSw); go_simp; try (with_reducible rfl)
        try simp only [Act.put, List.setIfInBounds_toArray, List.set_cons_zero, List.set_cons_succ]
        refine wpAnyH_take (i := 16) (oi := { dst := some 77, op := Op.load 26 (Operand.tmp 14), type := 26, pos := "laws.go:341", after := #[{ on := 14, ground := Ground.guard }], guard := some (14, false) }) (v := ?_) rfl (by kernel_rfl) (by kernel_rfl) (by kernel_rfl) (fun _ _ _ h => h) (Or.inl ⟨by rfl, ?_⟩) (by assumption) ?_
        rotate_left 1
        · intro w hSw; (try dsimp only at hSw); go_simp; try (with_reducible rfl)
        try simp only [Act.put, List.setIfInBounds_toArray, List.set_cons_zero, List.set_cons_succ]
        refine wpAnyH_ready (rs := [17]) (by kernel_rfl) (by simp) ?_
        refine AllReadyH.cons (o := { dst := some 78, op := Op.call { callee := Callee.value (Operand.func 18), args := #[Operand.tmp 76, Operand.tmp 77], argTypes := #[26, 26] }, type := 4, pos := "laws.go:341", after := #[{ on := 15, ground := Ground.data }, { on := 16, ground := Ground.data }, { on := 14, ground := Ground.chain }, { on := 14, ground := Ground.guard }], guard := some (14, false) }) (rs := []) rfl (fun K hK => ?_) AllReadyH.nil
        go_simp
        (go_at_call 18; refine (calls_since (impl_EqualGame true (eqG_self Q.1) (GGX.out.up (hh : Since w12 _).low) (GGY.out.up (hh : Since w12 _).low) HXs.out HXs.out) hh).mono ?_; rintro e wq ⟨⟨rfl, _⟩, hh2⟩; clear hh; have hh := hh2; clear hh2)
        refine hK.out _ _ ?_ (fun hHeld => ?_)
        · exact Cell.out _ hh
        clear hK K
        try simp only [Act.put, List.setIfInBounds_toArray, List.set_cons_zero, List.set_cons_succ]
        refine wpAnyH_take (i := 18) (oi := { dst := some 79, op := Op.unOp UnOp.not 4 (Operand.tmp 78), type := 4, pos := "laws.go:341", after := #[{ on := 17, ground := Ground.data }, { on := 14, ground := Ground.guard }], guard := some (14, false) }) (v := ?_) rfl (by kernel_rfl) (by kernel_rfl) (by kernel_rfl) (fun _ _ _ h => h) (Or.inl ⟨by rfl, ?_⟩) (by assumption) ?_
        rotate_left 1
        · intro w hSw; (try dsimp only at hSw); go_simp; try (with_reducible rfl)
        try simp only [Act.put, List.setIfInBounds_toArray, List.set_cons_zero, List.set_cons_succ]
        refine wpAnyH_take (i := 19) (oi := { dst := some 80, op := Op.pick (Operand.tmp 75) (Operand.const (Value.bool true)) (Operand.tmp 79), type := 4, pos := "laws.go:341", after := #[{ on := 14, ground := Ground.data }, { on := 18, ground := Ground.data }], guard := none }) (v := ?_) rfl (by kernel_rfl) (by kernel_rfl) (by kernel_rfl) (fun _ _ _ h => h) (Or.inl ⟨by rfl, ?_⟩) (by assumption) ?_
        rotate_left 1
        · intro w hSw; (try dsimp only at hSw); go_simp; try (with_reducible rfl)
        try simp only [Act.put, List.setIfInBounds_toArray, List.set_cons_zero, List.set_cons_succ]
        refine wpAnyH_take (i := 20) (oi := { dst := some 81, op := Op.move (Operand.tmp 80), type := 4, pos := "laws.go:341", after := #[{ on := 19, ground := Ground.data }, { on := 17, ground := Ground.chain }], guard := none }) (v := ?_) rfl (by kernel_rfl) (by kernel_rfl) (by kernel_rfl) (fun _ _ _ h => h) (Or.inl ⟨by rfl, ?_⟩) (by assumption) ?_
        rotate_left 1
        · intro w hSw; (try dsimp only at hSw); go_simp; try (with_reducible rfl)
        try simp only [Act.put, List.setIfInBounds_toArray, List.set_cons_zero, List.set_cons_succ]
        refine wpAnyH_take (i := 21) (oi := { dst := some 82, op := Op.move (Operand.tmp 6), type := 4, pos := "laws.go:341", after := #[{ on := 20, ground := Ground.guard }], guard := some (20, false) }) (v := ?_) rfl (by kernel_rfl) (by kernel_rfl) (by kernel_rfl) (fun _ _ _ h => h) (Or.inl ⟨by rfl, ?_⟩) (by assumption) ?_
        rotate_left 1
        · intro w hSw; (try dsimp only at hSw); go_simp; try (with_reducible rfl)
        try simp only [Act.put, List.setIfInBounds_toArray, List.set_cons_zero, List.set_cons_succ]
        refine wpAnyH_take (i := 22) (oi := { dst := some 83, op := Op.move (Operand.tmp 82), type := 4, pos := "laws.go:341", after := #[{ on := 21, ground := Ground.data }, { on := 20, ground := Ground.chain }, { on := 20, ground := Ground.guard }], guard := some (20, false) }) (v := ?_) rfl (by kernel_rfl) (by kernel_rfl) (by kernel_rfl) (fun _ _ _ h => h) (Or.inl ⟨by rfl, ?_⟩) (by assumption) ?_
        rotate_left 1
        · intro w hSw; (try dsimp only at hSw); go_simp; try (with_reducible rfl)
        try simp only [Act.put, List.setIfInBounds_toArray, List.set_cons_zero, List.set_cons_succ]
        refine wpAnyH_take (i := 23) (oi := { dst := some 84, op := Op.load 26 (Operand.tmp 5), type := 26, pos := "laws.go:341", after := #[{ on := 22, ground := Ground.guard }], guard := some (22, true) }) (v := ?_) rfl (by kernel_rfl) (by kernel_rfl) (by kernel_rfl) (fun _ _ _ h => h) (Or.inl ⟨by rfl, ?_⟩) (by assumption) ?_
        rotate_left 1
        · intro w hSw; (try dsimp only at hSw); go_simp; try (with_reducible rfl)
        try simp only [Act.put, List.setIfInBounds_toArray, List.set_cons_zero, List.set_cons_succ]
        refine wpAnyH_take (i := 25) (oi := { dst := some 86, op := Op.load 26 (Operand.tmp 3), type := 26, pos := "laws.go:341", after := #[{ on := 22, ground := Ground.guard }], guard := some (22, true) }) (v := ?_) rfl (by kernel_rfl) (by kernel_rfl) (by kernel_rfl) (fun _ _ _ h => h) (Or.inl ⟨by rfl, ?_⟩) (by assumption) ?_
        rotate_left 1
        · intro w hSw; (try dsimp only at hSw); go_simp; try (with_reducible rfl)
        try simp only [Act.put, List.setIfInBounds_toArray, List.set_cons_zero, List.set_cons_succ]
        refine wpAnyH_take (i := 27) (oi := { dst := some 88, op := Op.load 26 (Operand.tmp 4), type := 26, pos := "laws.go:341", after := #[{ on := 22, ground := Ground.guard }], guard := some (22, true) }) (v := ?_) rfl (by kernel_rfl) (by kernel_rfl) (by kernel_rfl) (fun _ _ _ h => h) (Or.inl ⟨by rfl, ?_⟩) (by assumption) ?_
        rotate_left 1
        · intro w hSw; (try dsimp only at hSw); go_simp; try (with_reducible rfl)
        try simp only [Act.put, List.setIfInBounds_toArray, List.set_cons_zero, List.set_cons_succ]
        refine wpAnyH_ready (rs := [24]) (by kernel_rfl) (by simp) ?_
        refine AllReadyH.cons (o := { dst := some 85, op := Op.call { callee := Callee.value (Operand.func 19), args := #[Operand.tmp 84], argTypes := #[26] }, type := 3, pos := "laws.go:341", after := #[{ on := 23, ground := Ground.data }, { on := 22, ground := Ground.chain }, { on := 22, ground := Ground.guard }], guard := some (22, true) }) (rs := []) rfl (fun K hK => ?_) AllReadyH.nil
        go_simp
        (go_at_call 19; refine (calls_since (HG1.out _ _ _ (GGS.out.up (hh : Since w12 _).low)) hh).mono ?_; rintro e wq ⟨⟨rfl, _⟩, hh2⟩; clear hh; have hh := hh2; clear hh2)
        refine hK.out _ _ ?_ (fun hHeld => ?_)
        · exact Cell.out _ hh
        clear hK K
        try simp only [Act.put, List.setIfInBounds_toArray, List.set_cons_zero, List.set_cons_succ]
        refine wpAnyH_ready (rs := [26]) (by kernel_rfl) (by simp) ?_
        refine AllReadyH.cons (o := { dst := some 87, op := Op.call { callee := Callee.value (Operand.func 19), args := #[Operand.tmp 86], argTypes := #[26] }, type := 3, pos := "laws.go:341", after := #[{ on := 25, ground := Ground.data }, { on := 24, ground := Ground.chain }, { on := 22, ground := Ground.guard }], guard := some (22, true) }) (rs := []) rfl (fun K hK => ?_) AllReadyH.nil
        go_simp
        (go_at_call 19; refine (calls_since (HG2.out _ _ _ (GGA.out.up (hh : Since w12 _).low)) hh).mono ?_; rintro e wq ⟨⟨rfl, _⟩, hh2⟩; clear hh; have hh := hh2; clear hh2)
        refine hK.out _ _ ?_ (fun hHeld => ?_)
        · exact Cell.out _ hh
        clear hK K
        try simp only [Act.put, List.setIfInBounds_toArray, List.set_cons_zero, List.set_cons_succ]
        refine wpAnyH_ready (rs := [28]) (by kernel_rfl) (by simp) ?_
        refine AllReadyH.cons (o := { dst := some 89, op := Op.call { callee := Callee.value (Operand.func 19), args := #[Operand.tmp 88], argTypes := #[26] }, type := 3, pos := "laws.go:341", after := #[{ on := 27, ground := Ground.data }, { on := 26, ground := Ground.chain }, { on := 22, ground := Ground.guard }], guard := some (22, true) }) (rs := []) rfl (fun K hK => ?_) AllReadyH.nil
        go_simp
        (go_at_call 19; refine (calls_since (HG3.out _ _ _ (GGB.out.up (hh : Since w12 _).low)) hh).mono ?_; rintro e wq ⟨⟨rfl, _⟩, hh2⟩; clear hh; have hh := hh2; clear hh2)
        refine hK.out _ _ ?_ (fun hHeld => ?_)
        · exact Cell.out _ hh
        clear hK K
        try simp only [Act.put, List.setIfInBounds_toArray, List.set_cons_zero, List.set_cons_succ]
        refine wpAnyH_take (i := 29) (oi := { dst := some 90, op := Op.binOp BinOp.add 3 (Operand.tmp 87) (Operand.tmp 89) 3, type := 3, pos := "laws.go:341", after := #[{ on := 26, ground := Ground.data }, { on := 28, ground := Ground.data }, { on := 22, ground := Ground.guard }], guard := some (22, true) }) (v := ?_) rfl (by kernel_rfl) (by kernel_rfl) (by kernel_rfl) (fun _ _ _ h => h) (Or.inl ⟨by rfl, ?_⟩) (by assumption) ?_
        rotate_left 1
        · intro w hSw; (try dsimp only at hSw); go_simp; try (with_reducible rfl)
        try simp only [Act.put, List.setIfInBounds_toArray, List.set_cons_zero, List.set_cons_succ]
        refine wpAnyH_take (i := 30) (oi := { dst := some 91, op := Op.binOp BinOp.neq 3 (Operand.tmp 85) (Operand.tmp 90) 3, type := 4, pos := "laws.go:341", after := #[{ on := 24, ground := Ground.data }, { on := 29, ground := Ground.data }, { on := 22, ground := Ground.guard }], guard := some (22, true) }) (v := ?_) rfl (by kernel_rfl) (by kernel_rfl) (by kernel_rfl) (fun _ _ _ h => h) (Or.inl ⟨by rfl, ?_⟩) (by assumption) ?_
        rotate_left 1
        · intro w hSw; (try dsimp only at hSw); go_simp; try (with_reducible rfl)
        try simp only [Act.put, List.setIfInBounds_toArray, List.set_cons_zero, List.set_cons_succ]
        refine wpAnyH_take (i := 31) (oi := { dst := some 92, op := Op.pick (Operand.tmp 83) (Operand.tmp 91) (Operand.const (Value.bool false)), type := 4, pos := "laws.go:341", after := #[{ on := 22, ground := Ground.data }, { on := 30, ground := Ground.data }, { on := 20, ground := Ground.guard }], guard := some (20, false) }) (v := ?_) rfl (by kernel_rfl) (by kernel_rfl) (by kernel_rfl) (fun _ _ _ h => h) (Or.inl ⟨by rfl, ?_⟩) (by assumption) ?_
        rotate_left 1
        · intro w hSw; (try dsimp only at hSw); go_simp; try (with_reducible rfl)
        try simp only [Act.put, List.setIfInBounds_toArray, List.set_cons_zero, List.set_cons_succ]
        refine wpAnyH_take (i := 32) (oi := { dst := some 93, op := Op.pick (Operand.tmp 81) (Operand.const (Value.bool true)) (Operand.tmp 92), type := 4, pos := "laws.go:341", after := #[{ on := 20, ground := Ground.data }, { on := 31, ground := Ground.data }], guard := none }) (v := ?_) rfl (by kernel_rfl) (by kernel_rfl) (by kernel_rfl) (fun _ _ _ h => h) (Or.inl ⟨by rfl, ?_⟩) (by assumption) ?_
        rotate_left 1
        · intro w hSw; (try dsimp only at hSw); go_simp; try (with_reducible rfl)
        try simp only [Act.put, List.setIfInBounds_toArray, List.set_cons_zero, List.set_cons_succ]
        refine wpAnyH_done (by kernel_rfl) ?_ _
        go_wp2_with fail
        go_meet
        exact ⟨rfl, HB.out.trans (hh.low.mono HB.out.size)⟩
      | false =>
        refine wp_region_held_drew (S := fun w' => w'.cell? ⟨w1.heap.size, 0, none⟩ = some (.int .i64 na) ∧ w'.cell? ⟨w1.heap.size, 1, none⟩ = some (va) ∧ w'.cell? ⟨w1.heap.size + 1, 0, none⟩ = some (.int .i64 nb) ∧ w'.cell? ⟨w1.heap.size + 1, 1, none⟩ = some (vb) ∧ w'.cell? ⟨w3.heap.size, 0, none⟩ = some (x5) ∧ w'.cell? ⟨w3.heap.size, 1, none⟩ = some (y5) ∧ w'.cell? ⟨w5.heap.size, 0, none⟩ = some (x7) ∧ w'.cell? ⟨w5.heap.size, 1, none⟩ = some (y7) ∧ w'.cell? ⟨w9.heap.size, 0, none⟩ = some (x12) ∧ w'.cell? ⟨w9.heap.size, 1, none⟩ = some (y12) ∧ w'.cell? ⟨w11.heap.size, 0, none⟩ = some (x14) ∧ w'.cell? ⟨w11.heap.size, 1, none⟩ = some (y14) ∧ Since w12 w') (by kernel_rfl) ?_ (fun hHeld => ?_)
        · exact Cell.out _ hin
        have hh := hin
        refine wpAnyH_take (i := 0) (oi := { dst := some 61, op := Op.move (Operand.tmp 6), type := 4, pos := "laws.go:341", after := #[], guard := none }) (v := ?_) rfl (by kernel_rfl) (by kernel_rfl) (by kernel_rfl) (fun _ _ _ h => h) (Or.inl ⟨by rfl, ?_⟩) (by assumption) ?_
        rotate_left 1
        · intro w hSw; (try dsimp only at hSw); go_simp; try (with_reducible rfl)
        try simp only [Act.put, List.setIfInBounds_toArray, List.set_cons_zero, List.set_cons_succ]
        refine wpAnyH_take (i := 1) (oi := { dst := some 62, op := Op.move (Operand.tmp 8), type := 4, pos := "laws.go:341", after := #[], guard := none }) (v := ?_) rfl (by kernel_rfl) (by kernel_rfl) (by kernel_rfl) (fun _ _ _ h => h) (Or.inl ⟨by rfl, ?_⟩) (by assumption) ?_
        rotate_left 1
        · intro w hSw; (try dsimp only at hSw); go_simp; try (with_reducible rfl)
        try simp only [Act.put, List.setIfInBounds_toArray, List.set_cons_zero, List.set_cons_succ]
        refine wpAnyH_take (i := 2) (oi := { dst := some 63, op := Op.binOp BinOp.neq 4 (Operand.tmp 61) (Operand.tmp 62) 4, type := 4, pos := "laws.go:341", after := #[{ on := 0, ground := Ground.data }, { on := 1, ground := Ground.data }], guard := none }) (v := ?_) rfl (by kernel_rfl) (by kernel_rfl) (by kernel_rfl) (fun _ _ _ h => h) (Or.inl ⟨by rfl, ?_⟩) (by assumption) ?_
        rotate_left 1
        · intro w hSw; (try dsimp only at hSw); go_simp; try (with_reducible rfl)
        try simp only [Act.put, List.setIfInBounds_toArray, List.set_cons_zero, List.set_cons_succ]
        refine wpAnyH_take (i := 3) (oi := { dst := some 64, op := Op.move (Operand.tmp 63), type := 4, pos := "laws.go:341", after := #[{ on := 2, ground := Ground.data }], guard := none }) (v := ?_) rfl (by kernel_rfl) (by kernel_rfl) (by kernel_rfl) (fun _ _ _ h => h) (Or.inl ⟨by rfl, ?_⟩) (by assumption) ?_
        rotate_left 1
        · intro w hSw; (try dsimp only at hSw); go_simp; try (with_reducible rfl)
        try simp only [Act.put, List.setIfInBounds_toArray, List.set_cons_zero, List.set_cons_succ]
        refine wpAnyH_take (i := 4) (oi := { dst := some 65, op := Op.load 26 (Operand.tmp 5), type := 26, pos := "laws.go:341", after := #[{ on := 3, ground := Ground.guard }], guard := some (3, false) }) (v := ?_) rfl (by kernel_rfl) (by kernel_rfl) (by kernel_rfl) (fun _ _ _ h => h) (Or.inl ⟨by rfl, ?_⟩) (by assumption) ?_
        rotate_left 1
        · intro w hSw; (try dsimp only at hSw); go_simp; try (with_reducible rfl)
        try simp only [Act.put, List.setIfInBounds_toArray, List.set_cons_zero, List.set_cons_succ]
        refine wpAnyH_take (i := 5) (oi := { dst := some 66, op := Op.load 26 (Operand.tmp 7), type := 26, pos := "laws.go:341", after := #[{ on := 3, ground := Ground.guard }], guard := some (3, false) }) (v := ?_) rfl (by kernel_rfl) (by kernel_rfl) (by kernel_rfl) (fun _ _ _ h => h) (Or.inl ⟨by rfl, ?_⟩) (by assumption) ?_
        rotate_left 1
        · intro w hSw; (try dsimp only at hSw); go_simp; try (with_reducible rfl)
        try simp only [Act.put, List.setIfInBounds_toArray, List.set_cons_zero, List.set_cons_succ]
        refine wpAnyH_ready (rs := [6]) (by kernel_rfl) (by simp) ?_
        refine AllReadyH.cons (o := { dst := some 67, op := Op.call { callee := Callee.value (Operand.func 18), args := #[Operand.tmp 65, Operand.tmp 66], argTypes := #[26, 26] }, type := 4, pos := "laws.go:341", after := #[{ on := 4, ground := Ground.data }, { on := 5, ground := Ground.data }, { on := 3, ground := Ground.chain }, { on := 3, ground := Ground.guard }], guard := some (3, false) }) (rs := []) rfl (fun K hK => ?_) AllReadyH.nil
        go_simp
        (go_at_call 18; refine (calls_since (impl_EqualGame true (eqG_self R.1) (GGS.out.up (hh : Since w12 _).low) (GGT.out.up (hh : Since w12 _).low) HXa.out HXa.out) hh).mono ?_; rintro e wq ⟨⟨rfl, _⟩, hh2⟩; clear hh; have hh := hh2; clear hh2)
        refine hK.out _ _ ?_ (fun hHeld => ?_)
        · exact Cell.out _ hh
        clear hK K
        try simp only [Act.put, List.setIfInBounds_toArray, List.set_cons_zero, List.set_cons_succ]
        refine wpAnyH_take (i := 7) (oi := { dst := some 68, op := Op.unOp UnOp.not 4 (Operand.tmp 67), type := 4, pos := "laws.go:341", after := #[{ on := 6, ground := Ground.data }, { on := 3, ground := Ground.guard }], guard := some (3, false) }) (v := ?_) rfl (by kernel_rfl) (by kernel_rfl) (by kernel_rfl) (fun _ _ _ h => h) (Or.inl ⟨by rfl, ?_⟩) (by assumption) ?_
        rotate_left 1
        · intro w hSw; (try dsimp only at hSw); go_simp; try (with_reducible rfl)
        try simp only [Act.put, List.setIfInBounds_toArray, List.set_cons_zero, List.set_cons_succ]
        refine wpAnyH_take (i := 8) (oi := { dst := some 69, op := Op.pick (Operand.tmp 64) (Operand.const (Value.bool true)) (Operand.tmp 68), type := 4, pos := "laws.go:341", after := #[{ on := 3, ground := Ground.data }, { on := 7, ground := Ground.data }], guard := none }) (v := ?_) rfl (by kernel_rfl) (by kernel_rfl) (by kernel_rfl) (fun _ _ _ h => h) (Or.inl ⟨by rfl, ?_⟩) (by assumption) ?_
        rotate_left 1
        · intro w hSw; (try dsimp only at hSw); go_simp; try (with_reducible rfl)
        try simp only [Act.put, List.setIfInBounds_toArray, List.set_cons_zero, List.set_cons_succ]
        refine wpAnyH_take (i := 9) (oi := { dst := some 70, op := Op.move (Operand.tmp 69), type := 4, pos := "laws.go:341", after := #[{ on := 8, ground := Ground.data }, { on := 6, ground := Ground.chain }], guard := none }) (v := ?_) rfl (by kernel_rfl) (by kernel_rfl) (by kernel_rfl) (fun _ _ _ h => h) (Or.inl ⟨by rfl, ?_⟩) (by assumption) ?_
        rotate_left 1
        · intro w hSw; (try dsimp only at hSw); go_simp; try (with_reducible rfl)
        try simp only [Act.put, List.setIfInBounds_toArray, List.set_cons_zero, List.set_cons_succ]
        refine wpAnyH_take (i := 10) (oi := { dst := some 71, op := Op.move (Operand.tmp 13), type := 4, pos := "laws.go:341", after := #[{ on := 9, ground := Ground.guard }], guard := some (9, false) }) (v := ?_) rfl (by kernel_rfl) (by kernel_rfl) (by kernel_rfl) (fun _ _ _ h => h) (Or.inl ⟨by rfl, ?_⟩) (by assumption) ?_
        rotate_left 1
        · intro w hSw; (try dsimp only at hSw); go_simp; try (with_reducible rfl)
        try simp only [Act.put, List.setIfInBounds_toArray, List.set_cons_zero, List.set_cons_succ]
        refine wpAnyH_take (i := 11) (oi := { dst := some 72, op := Op.move (Operand.tmp 15), type := 4, pos := "laws.go:341", after := #[{ on := 9, ground := Ground.guard }], guard := some (9, false) }) (v := ?_) rfl (by kernel_rfl) (by kernel_rfl) (by kernel_rfl) (fun _ _ _ h => h) (Or.inl ⟨by rfl, ?_⟩) (by assumption) ?_
        rotate_left 1
        · intro w hSw; (try dsimp only at hSw); go_simp; try (with_reducible rfl)
        try simp only [Act.put, List.setIfInBounds_toArray, List.set_cons_zero, List.set_cons_succ]
        refine wpAnyH_take (i := 12) (oi := { dst := some 73, op := Op.binOp BinOp.neq 4 (Operand.tmp 71) (Operand.tmp 72) 4, type := 4, pos := "laws.go:341", after := #[{ on := 10, ground := Ground.data }, { on := 11, ground := Ground.data }, { on := 9, ground := Ground.guard }], guard := some (9, false) }) (v := ?_) rfl (by kernel_rfl) (by kernel_rfl) (by kernel_rfl) (fun _ _ _ h => h) (Or.inl ⟨by rfl, ?_⟩) (by assumption) ?_
        rotate_left 1
        · intro w hSw; (try dsimp only at hSw); go_simp; try (with_reducible rfl)
        try simp only [Act.put, List.setIfInBounds_toArray, List.set_cons_zero, List.set_cons_succ]
        refine wpAnyH_take (i := 13) (oi := { dst := some 74, op := Op.pick (Operand.tmp 70) (Operand.const (Value.bool true)) (Operand.tmp 73), type := 4, pos := "laws.go:341", after := #[{ on := 9, ground := Ground.data }, { on := 12, ground := Ground.data }], guard := none }) (v := ?_) rfl (by kernel_rfl) (by kernel_rfl) (by kernel_rfl) (fun _ _ _ h => h) (Or.inl ⟨by rfl, ?_⟩) (by assumption) ?_
        rotate_left 1
        · intro w hSw; (try dsimp only at hSw); go_simp; try (with_reducible rfl)
        try simp only [Act.put, List.setIfInBounds_toArray, List.set_cons_zero, List.set_cons_succ]
        refine wpAnyH_take (i := 14) (oi := { dst := some 75, op := Op.move (Operand.tmp 74), type := 4, pos := "laws.go:341", after := #[{ on := 13, ground := Ground.data }, { on := 9, ground := Ground.chain }], guard := none }) (v := ?_) rfl (by kernel_rfl) (by kernel_rfl) (by kernel_rfl) (fun _ _ _ h => h) (Or.inl ⟨by rfl, ?_⟩) (by assumption) ?_
        rotate_left 1
        · intro w hSw; (try dsimp only at hSw); go_simp; try (with_reducible rfl)
        try simp only [Act.put, List.setIfInBounds_toArray, List.set_cons_zero, List.set_cons_succ]
        refine wpAnyH_take (i := 15) (oi := { dst := some 76, op := Op.load 26 (Operand.tmp 12), type := 26, pos := "laws.go:341", after := #[{ on := 14, ground := Ground.guard }], guard := some (14, false) }) (v := ?_) rfl (by kernel_rfl) (by kernel_rfl) (by kernel_rfl) (fun _ _ _ h => h) (Or.inl ⟨by rfl, ?_⟩) (by assumption) ?_
        rotate_left 1
        · intro w hSw; (try dsimp only at hSw); go_simp; try (with_reducible rfl)
        try simp only [Act.put, List.setIfInBounds_toArray, List.set_cons_zero, List.set_cons_succ]
        refine wpAnyH_take (i := 16) (oi := { dst := some 77, op := Op.load 26 (Operand.tmp 14), type := 26, pos := "laws.go:341", after := #[{ on := 14, ground := Ground.guard }], guard := some (14, false) }) (v := ?_) rfl (by kernel_rfl) (by kernel_rfl) (by kernel_rfl) (fun _ _ _ h => h) (Or.inl ⟨by rfl, ?_⟩) (by assumption) ?_
        rotate_left 1
        · intro w hSw; (try dsimp only at hSw); go_simp; try (with_reducible rfl)
        try simp only [Act.put, List.setIfInBounds_toArray, List.set_cons_zero, List.set_cons_succ]
        refine wpAnyH_ready (rs := [17]) (by kernel_rfl) (by simp) ?_
        refine AllReadyH.cons (o := { dst := some 78, op := Op.call { callee := Callee.value (Operand.func 18), args := #[Operand.tmp 76, Operand.tmp 77], argTypes := #[26, 26] }, type := 4, pos := "laws.go:341", after := #[{ on := 15, ground := Ground.data }, { on := 16, ground := Ground.data }, { on := 14, ground := Ground.chain }, { on := 14, ground := Ground.guard }], guard := some (14, false) }) (rs := []) rfl (fun K hK => ?_) AllReadyH.nil
        go_simp
        (go_at_call 18; refine (calls_since (impl_EqualGame true (eqG_self Q.1) (GGX.out.up (hh : Since w12 _).low) (GGY.out.up (hh : Since w12 _).low) HXs.out HXs.out) hh).mono ?_; rintro e wq ⟨⟨rfl, _⟩, hh2⟩; clear hh; have hh := hh2; clear hh2)
        refine hK.out _ _ ?_ (fun hHeld => ?_)
        · exact Cell.out _ hh
        clear hK K
        try simp only [Act.put, List.setIfInBounds_toArray, List.set_cons_zero, List.set_cons_succ]
        refine wpAnyH_take (i := 18) (oi := { dst := some 79, op := Op.unOp UnOp.not 4 (Operand.tmp 78), type := 4, pos := "laws.go:341", after := #[{ on := 17, ground := Ground.data }, { on := 14, ground := Ground.guard }], guard := some (14, false) }) (v := ?_) rfl (by kernel_rfl) (by kernel_rfl) (by kernel_rfl) (fun _ _ _ h => h) (Or.inl ⟨by rfl, ?_⟩) (by assumption) ?_
        rotate_left 1
        · intro w hSw; (try dsimp only at hSw); go_simp; try (with_reducible rfl)
        try simp only [Act.put, List.setIfInBounds_toArray, List.set_cons_zero, List.set_cons_succ]
        refine wpAnyH_take (i := 19) (oi := { dst := some 80, op := Op.pick (Operand.tmp 75) (Operand.const (Value.bool true)) (Operand.tmp 79), type := 4, pos := "laws.go:341", after := #[{ on := 14, ground := Ground.data }, { on := 18, ground := Ground.data }], guard := none }) (v := ?_) rfl (by kernel_rfl) (by kernel_rfl) (by kernel_rfl) (fun _ _ _ h => h) (Or.inl ⟨by rfl, ?_⟩) (by assumption) ?_
        rotate_left 1
        · intro w hSw; (try dsimp only at hSw); go_simp; try (with_reducible rfl)
        try simp only [Act.put, List.setIfInBounds_toArray, List.set_cons_zero, List.set_cons_succ]
        refine wpAnyH_take (i := 20) (oi := { dst := some 81, op := Op.move (Operand.tmp 80), type := 4, pos := "laws.go:341", after := #[{ on := 19, ground := Ground.data }, { on := 17, ground := Ground.chain }], guard := none }) (v := ?_) rfl (by kernel_rfl) (by kernel_rfl) (by kernel_rfl) (fun _ _ _ h => h) (Or.inl ⟨by rfl, ?_⟩) (by assumption) ?_
        rotate_left 1
        · intro w hSw; (try dsimp only at hSw); go_simp; try (with_reducible rfl)
        try simp only [Act.put, List.setIfInBounds_toArray, List.set_cons_zero, List.set_cons_succ]
        refine wpAnyH_take (i := 21) (oi := { dst := some 82, op := Op.move (Operand.tmp 6), type := 4, pos := "laws.go:341", after := #[{ on := 20, ground := Ground.guard }], guard := some (20, false) }) (v := ?_) rfl (by kernel_rfl) (by kernel_rfl) (by kernel_rfl) (fun _ _ _ h => h) (Or.inl ⟨by rfl, ?_⟩) (by assumption) ?_
        rotate_left 1
        · intro w hSw; (try dsimp only at hSw); go_simp; try (with_reducible rfl)
        try simp only [Act.put, List.setIfInBounds_toArray, List.set_cons_zero, List.set_cons_succ]
        refine wpAnyH_take (i := 22) (oi := { dst := some 83, op := Op.move (Operand.tmp 82), type := 4, pos := "laws.go:341", after := #[{ on := 21, ground := Ground.data }, { on := 20, ground := Ground.chain }, { on := 20, ground := Ground.guard }], guard := some (20, false) }) (v := ?_) rfl (by kernel_rfl) (by kernel_rfl) (by kernel_rfl) (fun _ _ _ h => h) (Or.inl ⟨by rfl, ?_⟩) (by assumption) ?_
        rotate_left 1
        · intro w hSw; (try dsimp only at hSw); go_simp; try (with_reducible rfl)
        try simp only [Act.put, List.setIfInBounds_toArray, List.set_cons_zero, List.set_cons_succ]
        refine wpAnyH_take (i := 23) (oi := { dst := some 84, op := Op.load 26 (Operand.tmp 5), type := 26, pos := "laws.go:341", after := #[{ on := 22, ground := Ground.guard }], guard := some (22, true) }) (v := undef) rfl (by kernel_rfl) (by kernel_rfl) (by kernel_rfl) (fun _ _ _ h => h) (Or.inr ⟨by rfl, rfl⟩) (by assumption) ?_
        try simp only [Act.put, List.setIfInBounds_toArray, List.set_cons_zero, List.set_cons_succ]
        refine wpAnyH_take (i := 24) (oi := { dst := some 85, op := Op.call { callee := Callee.value (Operand.func 19), args := #[Operand.tmp 84], argTypes := #[26] }, type := 3, pos := "laws.go:341", after := #[{ on := 23, ground := Ground.data }, { on := 22, ground := Ground.chain }, { on := 22, ground := Ground.guard }], guard := some (22, true) }) (v := undef) rfl (by kernel_rfl) (by kernel_rfl) (by kernel_rfl) (fun _ _ _ h => h) (Or.inr ⟨by rfl, rfl⟩) (by assumption) ?_
        try simp only [Act.put, List.setIfInBounds_toArray, List.set_cons_zero, List.set_cons_succ]
        refine wpAnyH_take (i := 25) (oi := { dst := some 86, op := Op.load 26 (Operand.tmp 3), type := 26, pos := "laws.go:341", after := #[{ on := 22, ground := Ground.guard }], guard := some (22, true) }) (v := undef) rfl (by kernel_rfl) (by kernel_rfl) (by kernel_rfl) (fun _ _ _ h => h) (Or.inr ⟨by rfl, rfl⟩) (by assumption) ?_
        try simp only [Act.put, List.setIfInBounds_toArray, List.set_cons_zero, List.set_cons_succ]
        refine wpAnyH_take (i := 26) (oi := { dst := some 87, op := Op.call { callee := Callee.value (Operand.func 19), args := #[Operand.tmp 86], argTypes := #[26] }, type := 3, pos := "laws.go:341", after := #[{ on := 25, ground := Ground.data }, { on := 24, ground := Ground.chain }, { on := 22, ground := Ground.guard }], guard := some (22, true) }) (v := undef) rfl (by kernel_rfl) (by kernel_rfl) (by kernel_rfl) (fun _ _ _ h => h) (Or.inr ⟨by rfl, rfl⟩) (by assumption) ?_
        try simp only [Act.put, List.setIfInBounds_toArray, List.set_cons_zero, List.set_cons_succ]
        refine wpAnyH_take (i := 27) (oi := { dst := some 88, op := Op.load 26 (Operand.tmp 4), type := 26, pos := "laws.go:341", after := #[{ on := 22, ground := Ground.guard }], guard := some (22, true) }) (v := undef) rfl (by kernel_rfl) (by kernel_rfl) (by kernel_rfl) (fun _ _ _ h => h) (Or.inr ⟨by rfl, rfl⟩) (by assumption) ?_
        try simp only [Act.put, List.setIfInBounds_toArray, List.set_cons_zero, List.set_cons_succ]
        refine wpAnyH_take (i := 28) (oi := { dst := some 89, op := Op.call { callee := Callee.value (Operand.func 19), args := #[Operand.tmp 88], argTypes := #[26] }, type := 3, pos := "laws.go:341", after := #[{ on := 27, ground := Ground.data }, { on := 26, ground := Ground.chain }, { on := 22, ground := Ground.guard }], guard := some (22, true) }) (v := undef) rfl (by kernel_rfl) (by kernel_rfl) (by kernel_rfl) (fun _ _ _ h => h) (Or.inr ⟨by rfl, rfl⟩) (by assumption) ?_
        try simp only [Act.put, List.setIfInBounds_toArray, List.set_cons_zero, List.set_cons_succ]
        refine wpAnyH_take (i := 29) (oi := { dst := some 90, op := Op.binOp BinOp.add 3 (Operand.tmp 87) (Operand.tmp 89) 3, type := 3, pos := "laws.go:341", after := #[{ on := 26, ground := Ground.data }, { on := 28, ground := Ground.data }, { on := 22, ground := Ground.guard }], guard := some (22, true) }) (v := undef) rfl (by kernel_rfl) (by kernel_rfl) (by kernel_rfl) (fun _ _ _ h => h) (Or.inr ⟨by rfl, rfl⟩) (by assumption) ?_
        try simp only [Act.put, List.setIfInBounds_toArray, List.set_cons_zero, List.set_cons_succ]
        refine wpAnyH_take (i := 30) (oi := { dst := some 91, op := Op.binOp BinOp.neq 3 (Operand.tmp 85) (Operand.tmp 90) 3, type := 4, pos := "laws.go:341", after := #[{ on := 24, ground := Ground.data }, { on := 29, ground := Ground.data }, { on := 22, ground := Ground.guard }], guard := some (22, true) }) (v := undef) rfl (by kernel_rfl) (by kernel_rfl) (by kernel_rfl) (fun _ _ _ h => h) (Or.inr ⟨by rfl, rfl⟩) (by assumption) ?_
        try simp only [Act.put, List.setIfInBounds_toArray, List.set_cons_zero, List.set_cons_succ]
        refine wpAnyH_take (i := 31) (oi := { dst := some 92, op := Op.pick (Operand.tmp 83) (Operand.tmp 91) (Operand.const (Value.bool false)), type := 4, pos := "laws.go:341", after := #[{ on := 22, ground := Ground.data }, { on := 30, ground := Ground.data }, { on := 20, ground := Ground.guard }], guard := some (20, false) }) (v := ?_) rfl (by kernel_rfl) (by kernel_rfl) (by kernel_rfl) (fun _ _ _ h => h) (Or.inl ⟨by rfl, ?_⟩) (by assumption) ?_
        rotate_left 1
        · intro w hSw; (try dsimp only at hSw); go_simp; try (with_reducible rfl)
        try simp only [Act.put, List.setIfInBounds_toArray, List.set_cons_zero, List.set_cons_succ]
        refine wpAnyH_take (i := 32) (oi := { dst := some 93, op := Op.pick (Operand.tmp 81) (Operand.const (Value.bool true)) (Operand.tmp 92), type := 4, pos := "laws.go:341", after := #[{ on := 20, ground := Ground.data }, { on := 31, ground := Ground.data }], guard := none }) (v := ?_) rfl (by kernel_rfl) (by kernel_rfl) (by kernel_rfl) (fun _ _ _ h => h) (Or.inl ⟨by rfl, ?_⟩) (by assumption) ?_
        rotate_left 1
        · intro w hSw; (try dsimp only at hSw); go_simp; try (with_reducible rfl)
        try simp only [Act.put, List.setIfInBounds_toArray, List.set_cons_zero, List.set_cons_succ]
        refine wpAnyH_done (by kernel_rfl) ?_ _
        go_wp2_with fail
        go_meet
        exact ⟨rfl, HB.out.trans (hh.low.mono HB.out.size)⟩
    case rest =>
    obtain ⟨w13, rfl⟩ : ∃ q : World, q = wc := ⟨_, rfl⟩
    obtain ⟨rfl, hb9⟩ := hcut
    clear HB hin Cell HXa HXs HSum FA FB FG HBC BX3 BX4 BX5 BX7 BX9 BX12 BX14 GGA GGB GGS GGT GGG GGU GGX GGY
    have HB := Lib.hid hb9
    clear hb9
    go_wp2_with fail
    refine (spec_DrawRestrict a len cap _ (Hc.out.below HB.out |>.mono HB.out.size)).mono ?_
    rintro e w14 ⟨gh, vh, s, rfl, hg, fH, hs0, hs1, k⟩
    replace HB := Lib.hid (HB.out.trans (k.mono HB.out.size))
    clear k
    have GGH := Lib.hid (GmC.of_owns (g := gh) hg)
    have FH := Lib.hid fH
    have HXr := Lib.hid (res_ok gh s)
    have HGr := Lib.hid (grand_res gh s)
    obtain ⟨R, hR⟩ : ∃ R, Gm.res gh s = R := ⟨_, rfl⟩
    have HIm := Lib.hid (fun (w : World) (x y : Value) (h : GmC w x y gh) => hR ▸ impl_Restrict (s := s) h FH.out)
    have HSp := Lib.hid (fun (w : World) (x y : Value) (h : GmC w x y gh) => hR ▸ spec_Restrict (s := s) h FH.out)
    rw [hR] at HXr HGr
    obtain ⟨nh, hnh⟩ : ∃ nh : Int, gh.n = nh := ⟨_, rfl⟩
    rw [hnh] at GGH ⊢
    clear hg fH hnh hR
    obtain ⟨_, o1⟩ := GGH.out.one
    have t1 := sto o1
    clear o1
    replace GGH := Lib.hid (GGH.out.up ((Below.refl _ _).alloc (Nat.le_refl _) (.cells #[.int .i64 nh, vh] 26)))
    replace HB := Lib.hid (HB.out.alloc HB.out.size (.cells #[.int .i64 nh, vh] 26))
    have BX16 := Lib.hid (CellsAt.new w14 #[.int .i64 nh, vh] 26)
    go_wp2_with fail
    clear t1
    generalize hWw15 : (w14.alloc (.cells #[.int .i64 nh, vh] 26)) = w15 at *
    refine (HIm.out _ _ _ GGH.out).mono ?_
    rintro e w16 ⟨⟨x18, y18, rfl, hr⟩, k⟩
    replace BX16 := Lib.hid (BX16.out.below k)
    replace GGH := Lib.hid (GGH.out.up k)
    replace HB := Lib.hid (HB.out.trans (k.mono HB.out.size))
    clear k
    have GGS := Lib.hid hr
    clear hr
    replace GGS := Lib.hid GGS.out.reads_c
    obtain ⟨a18, c18, e18, e18b, hn18⟩ := GGS.out
    obtain ⟨nr, hnr⟩ : ∃ nr : Int, R.1.n = nr := ⟨_, rfl⟩
    rw [hnr] at e18
    subst e18
    clear e18b hn18
    have HNr := Lib.hid hnr
    clear hnr
    obtain ⟨_, o1⟩ := GGS.out.one
    have t1 := sto o1
    clear o1
    replace BX16 := Lib.hid (BX16.out.more (.cells #[.int .i64 nr, y18] 26))
    replace GGH := Lib.hid (GGH.out.up ((Below.refl _ _).alloc (Nat.le_refl _) (.cells #[.int .i64 nr, y18] 26)))
    replace GGS := Lib.hid (GGS.out.up ((Below.refl _ _).alloc (Nat.le_refl _) (.cells #[.int .i64 nr, y18] 26)))
    replace HB := Lib.hid (HB.out.alloc HB.out.size (.cells #[.int .i64 nr, y18] 26))
    have BX18 := Lib.hid (CellsAt.new w16 #[.int .i64 nr, y18] 26)
    obtain ⟨m4a, m4b⟩ := two BX16.out
    go_wp2_with fail
    clear t1 m4a m4b
    generalize hWw17 : (w16.alloc (.cells #[.int .i64 nr, y18] 26)) = w17 at *
    refine (HSp.out _ _ _ GGH.out).mono ?_
    rintro e w18 ⟨⟨x20, y20, rfl, hr⟩, k⟩
    replace BX16 := Lib.hid (BX16.out.below k)
    replace BX18 := Lib.hid (BX18.out.below k)
    replace GGH := Lib.hid (GGH.out.up k)
    replace GGS := Lib.hid (GGS.out.up k)
    replace HB := Lib.hid (HB.out.trans (k.mono HB.out.size))
    clear k
    have GGT := Lib.hid hr
    clear hr
    replace GGT := Lib.hid GGT.out.reads_c
    obtain ⟨o0, o1⟩ := GGT.out.one
    have t0 := sto o0
    have t1 := sto o1
    clear o0 o1
    replace BX16 := Lib.hid (BX16.out.more (.cells #[x20, y20] 26))
    replace BX18 := Lib.hid (BX18.out.more (.cells #[x20, y20] 26))
    replace GGH := Lib.hid (GGH.out.up ((Below.refl _ _).alloc (Nat.le_refl _) (.cells #[x20, y20] 26)))
    replace GGS := Lib.hid (GGS.out.up ((Below.refl _ _).alloc (Nat.le_refl _) (.cells #[x20, y20] 26)))
    replace GGT := Lib.hid (GGT.out.up ((Below.refl _ _).alloc (Nat.le_refl _) (.cells #[x20, y20] 26)))
    replace HB := Lib.hid (HB.out.alloc HB.out.size (.cells #[x20, y20] 26))
    have BX20 := Lib.hid (CellsAt.new w18 #[x20, y20] 26)
    clear HIm HSp
    obtain ⟨ok, hok⟩ : ∃ ok, R.2 = ok := ⟨_, rfl⟩
    rw [hok] at HGr ⊢
    clear hok
    go_upto_region 14 with fail
    clear t0 t1
    generalize hWw19 : (w18.alloc (.cells #[x20, y20] 26)) = w19 at *
    have Cell := Lib.hid (fun w' (h : Since w19 w') => (show w'.cell? ⟨w14.heap.size, 0, none⟩ = some (.int .i64 nh) ∧ w'.cell? ⟨w14.heap.size, 1, none⟩ = some (vh) ∧ w'.cell? ⟨w16.heap.size, 0, none⟩ = some (.int .i64 nr) ∧ w'.cell? ⟨w16.heap.size, 1, none⟩ = some (y18) ∧ w'.cell? ⟨w18.heap.size, 0, none⟩ = some (x20) ∧ w'.cell? ⟨w18.heap.size, 1, none⟩ = some (y20) ∧ Since w19 w' from ⟨h.cell (p := ⟨w14.heap.size, 0, none⟩) (lt_of_at BX16.out) (BX16.out.cell 0), h.cell (p := ⟨w14.heap.size, 1, none⟩) (lt_of_at BX16.out) (BX16.out.cell 1), h.cell (p := ⟨w16.heap.size, 0, none⟩) (lt_of_at BX18.out) (BX18.out.cell 0), h.cell (p := ⟨w16.heap.size, 1, none⟩) (lt_of_at BX18.out) (BX18.out.cell 1), h.cell (p := ⟨w18.heap.size, 0, none⟩) (lt_of_at BX20.out) (BX20.out.cell 0), h.cell (p := ⟨w18.heap.size, 1, none⟩) (lt_of_at BX20.out) (BX20.out.cell 1), h⟩))
    have hin := (Since.refl w19).drew
    go_cut [137] (fun v wx => v = .bool false ∧ Since w19 wx)
    case first =>
      cases ok with
      | true =>
        obtain ⟨hg1, hg2⟩ := HGr.out rfl
        have HG1 := Lib.hid (fun (w : World) (x y : Value) (h : GmC w x y R.1) => hg1 ▸ impl_GrandValue h HXr.out)
        have HG2 := Lib.hid (fun (w : World) (x y : Value) (h : GmC w x y gh) => impl_ValueOf s h FH.out)
        have HG3 := Lib.hid (fun (w : World) => calls_pure (hg2 ▸ impl_SizeOf s w))
        rw [HNr.out] at HG3
        generalize Gm.val gh s = za at *
        have hne : (za != za) = false := by simp
        have hne2 : (nr != nr) = false := by simp
        clear hg1 hg2
        refine wp_region_held_drew (S := fun w' => w'.cell? ⟨w14.heap.size, 0, none⟩ = some (.int .i64 nh) ∧ w'.cell? ⟨w14.heap.size, 1, none⟩ = some (vh) ∧ w'.cell? ⟨w16.heap.size, 0, none⟩ = some (.int .i64 nr) ∧ w'.cell? ⟨w16.heap.size, 1, none⟩ = some (y18) ∧ w'.cell? ⟨w18.heap.size, 0, none⟩ = some (x20) ∧ w'.cell? ⟨w18.heap.size, 1, none⟩ = some (y20) ∧ Since w19 w') (by kernel_rfl) ?_ (fun hHeld => ?_)
        · exact Cell.out _ hin
        have hh := hin
        refine wpAnyH_take (i := 0) (oi := { dst := some 111, op := Op.move (Operand.tmp 19), type := 4, pos := "laws.go:347", after := #[], guard := none }) (v := ?_) rfl (by kernel_rfl) (by kernel_rfl) (by kernel_rfl) (fun _ _ _ h => h) (Or.inl ⟨by rfl, ?_⟩) (by assumption) ?_
        rotate_left 1
        · intro w hSw; (try dsimp only at hSw); go_simp; try (with_reducible rfl)
        try simp only [Act.put, List.setIfInBounds_toArray, List.set_cons_zero, List.set_cons_succ]
        refine wpAnyH_take (i := 1) (oi := { dst := some 112, op := Op.move (Operand.tmp 21), type := 4, pos := "laws.go:347", after := #[], guard := none }) (v := ?_) rfl (by kernel_rfl) (by kernel_rfl) (by kernel_rfl) (fun _ _ _ h => h) (Or.inl ⟨by rfl, ?_⟩) (by assumption) ?_
        rotate_left 1
        · intro w hSw; (try dsimp only at hSw); go_simp; try (with_reducible rfl)
        try simp only [Act.put, List.setIfInBounds_toArray, List.set_cons_zero, List.set_cons_succ]
        refine wpAnyH_take (i := 2) (oi := { dst := some 113, op := Op.binOp BinOp.neq 4 (Operand.tmp 111) (Operand.tmp 112) 4, type := 4, pos := "laws.go:347", after := #[{ on := 0, ground := Ground.data }, { on := 1, ground := Ground.data }], guard := none }) (v := ?_) rfl (by kernel_rfl) (by kernel_rfl) (by kernel_rfl) (fun _ _ _ h => h) (Or.inl ⟨by rfl, ?_⟩) (by assumption) ?_
        rotate_left 1
        · intro w hSw; (try dsimp only at hSw); go_simp; try (with_reducible rfl)
        try simp only [Act.put, List.setIfInBounds_toArray, List.set_cons_zero, List.set_cons_succ]
        refine wpAnyH_take (i := 3) (oi := { dst := some 114, op := Op.move (Operand.tmp 113), type := 4, pos := "laws.go:347", after := #[{ on := 2, ground := Ground.data }], guard := none }) (v := ?_) rfl (by kernel_rfl) (by kernel_rfl) (by kernel_rfl) (fun _ _ _ h => h) (Or.inl ⟨by rfl, ?_⟩) (by assumption) ?_
        rotate_left 1
        · intro w hSw; (try dsimp only at hSw); go_simp; try (with_reducible rfl)
        try simp only [Act.put, List.setIfInBounds_toArray, List.set_cons_zero, List.set_cons_succ]
        refine wpAnyH_take (i := 4) (oi := { dst := some 115, op := Op.load 26 (Operand.tmp 18), type := 26, pos := "laws.go:347", after := #[{ on := 3, ground := Ground.guard }], guard := some (3, false) }) (v := ?_) rfl (by kernel_rfl) (by kernel_rfl) (by kernel_rfl) (fun _ _ _ h => h) (Or.inl ⟨by rfl, ?_⟩) (by assumption) ?_
        rotate_left 1
        · intro w hSw; (try dsimp only at hSw); go_simp; try (with_reducible rfl)
        try simp only [Act.put, List.setIfInBounds_toArray, List.set_cons_zero, List.set_cons_succ]
        refine wpAnyH_take (i := 5) (oi := { dst := some 116, op := Op.load 26 (Operand.tmp 20), type := 26, pos := "laws.go:347", after := #[{ on := 3, ground := Ground.guard }], guard := some (3, false) }) (v := ?_) rfl (by kernel_rfl) (by kernel_rfl) (by kernel_rfl) (fun _ _ _ h => h) (Or.inl ⟨by rfl, ?_⟩) (by assumption) ?_
        rotate_left 1
        · intro w hSw; (try dsimp only at hSw); go_simp; try (with_reducible rfl)
        try simp only [Act.put, List.setIfInBounds_toArray, List.set_cons_zero, List.set_cons_succ]
        refine wpAnyH_ready (rs := [6]) (by kernel_rfl) (by simp) ?_
        refine AllReadyH.cons (o := { dst := some 117, op := Op.call { callee := Callee.value (Operand.func 18), args := #[Operand.tmp 115, Operand.tmp 116], argTypes := #[26, 26] }, type := 4, pos := "laws.go:347", after := #[{ on := 4, ground := Ground.data }, { on := 5, ground := Ground.data }, { on := 3, ground := Ground.chain }, { on := 3, ground := Ground.guard }], guard := some (3, false) }) (rs := []) rfl (fun K hK => ?_) AllReadyH.nil
        go_simp
        (go_at_call 18; refine (calls_since (impl_EqualGame true (eqG_self R.1) (GGS.out.up (hh : Since w19 _).low) (GGT.out.up (hh : Since w19 _).low) HXr.out HXr.out) hh).mono ?_; rintro e wq ⟨⟨rfl, _⟩, hh2⟩; clear hh; have hh := hh2; clear hh2)
        refine hK.out _ _ ?_ (fun hHeld => ?_)
        · exact Cell.out _ hh
        clear hK K
        try simp only [Act.put, List.setIfInBounds_toArray, List.set_cons_zero, List.set_cons_succ]
        refine wpAnyH_take (i := 7) (oi := { dst := some 118, op := Op.unOp UnOp.not 4 (Operand.tmp 117), type := 4, pos := "laws.go:347", after := #[{ on := 6, ground := Ground.data }, { on := 3, ground := Ground.guard }], guard := some (3, false) }) (v := ?_) rfl (by kernel_rfl) (by kernel_rfl) (by kernel_rfl) (fun _ _ _ h => h) (Or.inl ⟨by rfl, ?_⟩) (by assumption) ?_
        rotate_left 1
        · intro w hSw; (try dsimp only at hSw); go_simp; try (with_reducible rfl)
        try simp only [Act.put, List.setIfInBounds_toArray, List.set_cons_zero, List.set_cons_succ]
        refine wpAnyH_take (i := 8) (oi := { dst := some 119, op := Op.pick (Operand.tmp 114) (Operand.const (Value.bool true)) (Operand.tmp 118), type := 4, pos := "laws.go:347", after := #[{ on := 3, ground := Ground.data }, { on := 7, ground := Ground.data }], guard := none }) (v := ?_) rfl (by kernel_rfl) (by kernel_rfl) (by kernel_rfl) (fun _ _ _ h => h) (Or.inl ⟨by rfl, ?_⟩) (by assumption) ?_
        rotate_left 1
        · intro w hSw; (try dsimp only at hSw); go_simp; try (with_reducible rfl)
        try simp only [Act.put, List.setIfInBounds_toArray, List.set_cons_zero, List.set_cons_succ]
        refine wpAnyH_take (i := 9) (oi := { dst := some 120, op := Op.move (Operand.tmp 119), type := 4, pos := "laws.go:347", after := #[{ on := 8, ground := Ground.data }, { on := 6, ground := Ground.chain }], guard := none }) (v := ?_) rfl (by kernel_rfl) (by kernel_rfl) (by kernel_rfl) (fun _ _ _ h => h) (Or.inl ⟨by rfl, ?_⟩) (by assumption) ?_
        rotate_left 1
        · intro w hSw; (try dsimp only at hSw); go_simp; try (with_reducible rfl)
        try simp only [Act.put, List.setIfInBounds_toArray, List.set_cons_zero, List.set_cons_succ]
        refine wpAnyH_take (i := 10) (oi := { dst := some 121, op := Op.move (Operand.tmp 19), type := 4, pos := "laws.go:347", after := #[{ on := 9, ground := Ground.guard }], guard := some (9, false) }) (v := ?_) rfl (by kernel_rfl) (by kernel_rfl) (by kernel_rfl) (fun _ _ _ h => h) (Or.inl ⟨by rfl, ?_⟩) (by assumption) ?_
        rotate_left 1
        · intro w hSw; (try dsimp only at hSw); go_simp; try (with_reducible rfl)
        try simp only [Act.put, List.setIfInBounds_toArray, List.set_cons_zero, List.set_cons_succ]
        refine wpAnyH_take (i := 11) (oi := { dst := some 122, op := Op.move (Operand.tmp 121), type := 4, pos := "laws.go:347", after := #[{ on := 10, ground := Ground.data }, { on := 9, ground := Ground.chain }, { on := 9, ground := Ground.guard }], guard := some (9, false) }) (v := ?_) rfl (by kernel_rfl) (by kernel_rfl) (by kernel_rfl) (fun _ _ _ h => h) (Or.inl ⟨by rfl, ?_⟩) (by assumption) ?_
        rotate_left 1
        · intro w hSw; (try dsimp only at hSw); go_simp; try (with_reducible rfl)
        try simp only [Act.put, List.setIfInBounds_toArray, List.set_cons_zero, List.set_cons_succ]
        refine wpAnyH_take (i := 12) (oi := { dst := some 123, op := Op.load 26 (Operand.tmp 18), type := 26, pos := "laws.go:347", after := #[{ on := 11, ground := Ground.guard }], guard := some (11, true) }) (v := ?_) rfl (by kernel_rfl) (by kernel_rfl) (by kernel_rfl) (fun _ _ _ h => h) (Or.inl ⟨by rfl, ?_⟩) (by assumption) ?_
        rotate_left 1
        · intro w hSw; (try dsimp only at hSw); go_simp; try (with_reducible rfl)
        try simp only [Act.put, List.setIfInBounds_toArray, List.set_cons_zero, List.set_cons_succ]
        refine wpAnyH_take (i := 14) (oi := { dst := some 125, op := Op.load 26 (Operand.tmp 16), type := 26, pos := "laws.go:347", after := #[{ on := 11, ground := Ground.guard }], guard := some (11, true) }) (v := ?_) rfl (by kernel_rfl) (by kernel_rfl) (by kernel_rfl) (fun _ _ _ h => h) (Or.inl ⟨by rfl, ?_⟩) (by assumption) ?_
        rotate_left 1
        · intro w hSw; (try dsimp only at hSw); go_simp; try (with_reducible rfl)
        try simp only [Act.put, List.setIfInBounds_toArray, List.set_cons_zero, List.set_cons_succ]
        refine wpAnyH_take (i := 15) (oi := { dst := some 126, op := Op.move (Operand.tmp 17), type := 3, pos := "laws.go:347", after := #[{ on := 11, ground := Ground.guard }], guard := some (11, true) }) (v := ?_) rfl (by kernel_rfl) (by kernel_rfl) (by kernel_rfl) (fun _ _ _ h => h) (Or.inl ⟨by rfl, ?_⟩) (by assumption) ?_
        rotate_left 1
        · intro w hSw; (try dsimp only at hSw); go_simp; try (with_reducible rfl)
        try simp only [Act.put, List.setIfInBounds_toArray, List.set_cons_zero, List.set_cons_succ]
        refine wpAnyH_ready (rs := [13]) (by kernel_rfl) (by simp) ?_
        refine AllReadyH.cons (o := { dst := some 124, op := Op.call { callee := Callee.value (Operand.func 19), args := #[Operand.tmp 123], argTypes := #[26] }, type := 3, pos := "laws.go:347", after := #[{ on := 12, ground := Ground.data }, { on := 11, ground := Ground.chain }, { on := 11, ground := Ground.guard }], guard := some (11, true) }) (rs := []) rfl (fun K hK => ?_) AllReadyH.nil
        go_simp
        (go_at_call 19; refine (calls_since (HG1.out _ _ _ (GGS.out.up (hh : Since w19 _).low)) hh).mono ?_; rintro e wq ⟨⟨rfl, _⟩, hh2⟩; clear hh; have hh := hh2; clear hh2)
        refine hK.out _ _ ?_ (fun hHeld => ?_)
        · exact Cell.out _ hh
        clear hK K
        try simp only [Act.put, List.setIfInBounds_toArray, List.set_cons_zero, List.set_cons_succ]
        refine wpAnyH_ready (rs := [16]) (by kernel_rfl) (by simp) ?_
        refine AllReadyH.cons (o := { dst := some 127, op := Op.call { callee := Callee.value (Operand.func 23), args := #[Operand.tmp 125, Operand.tmp 126], argTypes := #[26, 3] }, type := 3, pos := "laws.go:347", after := #[{ on := 14, ground := Ground.data }, { on := 15, ground := Ground.data }, { on := 13, ground := Ground.chain }, { on := 11, ground := Ground.guard }], guard := some (11, true) }) (rs := []) rfl (fun K hK => ?_) AllReadyH.nil
        go_simp
        (go_at_call 23; refine (calls_since (HG2.out _ _ _ (GGH.out.up (hh : Since w19 _).low)) hh).mono ?_; rintro e wq ⟨⟨rfl, _⟩, hh2⟩; clear hh; have hh := hh2; clear hh2)
        refine hK.out _ _ ?_ (fun hHeld => ?_)
        · exact Cell.out _ hh
        clear hK K
        try simp only [Act.put, List.setIfInBounds_toArray, List.set_cons_zero, List.set_cons_succ]
        refine wpAnyH_take (i := 17) (oi := { dst := some 128, op := Op.binOp BinOp.neq 3 (Operand.tmp 124) (Operand.tmp 127) 3, type := 4, pos := "laws.go:347", after := #[{ on := 13, ground := Ground.data }, { on := 16, ground := Ground.data }, { on := 11, ground := Ground.guard }], guard := some (11, true) }) (v := ?_) rfl (by kernel_rfl) (by kernel_rfl) (by kernel_rfl) (fun _ _ _ h => h) (Or.inl ⟨by rfl, ?_⟩) (by assumption) ?_
        rotate_left 1
        · intro w hSw; (try dsimp only at hSw); go_simp; try (with_reducible rfl)
        try simp only [Act.put, List.setIfInBounds_toArray, List.set_cons_zero, List.set_cons_succ]
        refine wpAnyH_take (i := 18) (oi := { dst := some 129, op := Op.move (Operand.tmp 128), type := 4, pos := "laws.go:347", after := #[{ on := 17, ground := Ground.data }, { on := 16, ground := Ground.chain }, { on := 11, ground := Ground.guard }], guard := some (11, true) }) (v := ?_) rfl (by kernel_rfl) (by kernel_rfl) (by kernel_rfl) (fun _ _ _ h => h) (Or.inl ⟨by rfl, ?_⟩) (by assumption) ?_
        rotate_left 1
        · intro w hSw; (try dsimp only at hSw); go_simp; try (with_reducible rfl)
        try simp only [Act.put, List.setIfInBounds_toArray, List.set_cons_zero, List.set_cons_succ]
        refine wpAnyH_take (i := 19) (oi := { dst := some 130, op := Op.fieldAddr 26 (Operand.tmp 18) 0, type := 0, pos := "laws.go:347", after := #[{ on := 18, ground := Ground.guard }], guard := some (18, false) }) (v := ?_) rfl (by kernel_rfl) (by kernel_rfl) (by kernel_rfl) (fun _ _ _ h => h) (Or.inl ⟨by rfl, ?_⟩) (by assumption) ?_
        rotate_left 1
        · intro w hSw; (try dsimp only at hSw); go_simp; try (with_reducible rfl)
        try simp only [Act.put, List.setIfInBounds_toArray, List.set_cons_zero, List.set_cons_succ]
        refine wpAnyH_take (i := 20) (oi := { dst := some 131, op := Op.load 3 (Operand.tmp 130), type := 3, pos := "laws.go:347", after := #[{ on := 19, ground := Ground.data }, { on := 18, ground := Ground.guard }], guard := some (18, false) }) (v := ?_) rfl (by kernel_rfl) (by kernel_rfl) (by kernel_rfl) (fun _ _ _ h => h) (Or.inl ⟨by rfl, ?_⟩) (by assumption) ?_
        rotate_left 1
        · intro w hSw; (try dsimp only at hSw); go_simp; try (with_reducible rfl)
        try simp only [Act.put, List.setIfInBounds_toArray, List.set_cons_zero, List.set_cons_succ]
        refine wpAnyH_take (i := 21) (oi := { dst := some 132, op := Op.move (Operand.tmp 17), type := 3, pos := "laws.go:347", after := #[{ on := 18, ground := Ground.guard }], guard := some (18, false) }) (v := ?_) rfl (by kernel_rfl) (by kernel_rfl) (by kernel_rfl) (fun _ _ _ h => h) (Or.inl ⟨by rfl, ?_⟩) (by assumption) ?_
        rotate_left 1
        · intro w hSw; (try dsimp only at hSw); go_simp; try (with_reducible rfl)
        try simp only [Act.put, List.setIfInBounds_toArray, List.set_cons_zero, List.set_cons_succ]
        refine wpAnyH_ready (rs := [22]) (by kernel_rfl) (by simp) ?_
        refine AllReadyH.cons (o := { dst := some 133, op := Op.call { callee := Callee.value (Operand.func 24), args := #[Operand.tmp 132], argTypes := #[3] }, type := 3, pos := "laws.go:347", after := #[{ on := 21, ground := Ground.data }, { on := 18, ground := Ground.chain }, { on := 18, ground := Ground.guard }], guard := some (18, false) }) (rs := []) rfl (fun K hK => ?_) AllReadyH.nil
        go_simp
        (go_at_call 24; refine (calls_since (HG3.out _) hh).mono ?_; rintro e wq ⟨⟨rfl, _⟩, hh2⟩; clear hh; have hh := hh2; clear hh2)
        refine hK.out _ _ ?_ (fun hHeld => ?_)
        · exact Cell.out _ hh
        clear hK K
        try simp only [Act.put, List.setIfInBounds_toArray, List.set_cons_zero, List.set_cons_succ]
        refine wpAnyH_take (i := 23) (oi := { dst := some 134, op := Op.binOp BinOp.neq 3 (Operand.tmp 131) (Operand.tmp 133) 3, type := 4, pos := "laws.go:347", after := #[{ on := 20, ground := Ground.data }, { on := 22, ground := Ground.data }, { on := 18, ground := Ground.guard }], guard := some (18, false) }) (v := ?_) rfl (by kernel_rfl) (by kernel_rfl) (by kernel_rfl) (fun _ _ _ h => h) (Or.inl ⟨by rfl, ?_⟩) (by assumption) ?_
        rotate_left 1
        · intro w hSw; (try dsimp only at hSw); go_simp; try (with_reducible rfl)
        try simp only [Act.put, List.setIfInBounds_toArray, List.set_cons_zero, List.set_cons_succ]
        refine wpAnyH_take (i := 24) (oi := { dst := some 135, op := Op.pick (Operand.tmp 129) (Operand.const (Value.bool true)) (Operand.tmp 134), type := 4, pos := "laws.go:347", after := #[{ on := 18, ground := Ground.data }, { on := 23, ground := Ground.data }, { on := 11, ground := Ground.guard }], guard := some (11, true) }) (v := ?_) rfl (by kernel_rfl) (by kernel_rfl) (by kernel_rfl) (fun _ _ _ h => h) (Or.inl ⟨by rfl, ?_⟩) (by assumption) ?_
        rotate_left 1
        · intro w hSw; (try dsimp only at hSw); go_simp; try (with_reducible rfl)
        try simp only [Act.put, List.setIfInBounds_toArray, List.set_cons_zero, List.set_cons_succ]
        refine wpAnyH_take (i := 25) (oi := { dst := some 136, op := Op.pick (Operand.tmp 122) (Operand.tmp 135) (Operand.const (Value.bool false)), type := 4, pos := "laws.go:347", after := #[{ on := 11, ground := Ground.data }, { on := 24, ground := Ground.data }, { on := 9, ground := Ground.guard }], guard := some (9, false) }) (v := ?_) rfl (by kernel_rfl) (by kernel_rfl) (by kernel_rfl) (fun _ _ _ h => h) (Or.inl ⟨by rfl, ?_⟩) (by assumption) ?_
        rotate_left 1
        · intro w hSw; (try dsimp only at hSw); go_simp; try (with_reducible rfl)
        try simp only [Act.put, List.setIfInBounds_toArray, List.set_cons_zero, List.set_cons_succ]
        refine wpAnyH_take (i := 26) (oi := { dst := some 137, op := Op.pick (Operand.tmp 120) (Operand.const (Value.bool true)) (Operand.tmp 136), type := 4, pos := "laws.go:347", after := #[{ on := 9, ground := Ground.data }, { on := 25, ground := Ground.data }], guard := none }) (v := ?_) rfl (by kernel_rfl) (by kernel_rfl) (by kernel_rfl) (fun _ _ _ h => h) (Or.inl ⟨by rfl, ?_⟩) (by assumption) ?_
        rotate_left 1
        · intro w hSw; (try dsimp only at hSw); go_simp; try (with_reducible rfl)
        try simp only [Act.put, List.setIfInBounds_toArray, List.set_cons_zero, List.set_cons_succ]
        refine wpAnyH_done (by kernel_rfl) ?_ _
        go_wp2_with fail
        go_meet
        exact ⟨rfl, hh⟩
      | false =>
        refine wp_region_held_drew (S := fun w' => w'.cell? ⟨w14.heap.size, 0, none⟩ = some (.int .i64 nh) ∧ w'.cell? ⟨w14.heap.size, 1, none⟩ = some (vh) ∧ w'.cell? ⟨w16.heap.size, 0, none⟩ = some (.int .i64 nr) ∧ w'.cell? ⟨w16.heap.size, 1, none⟩ = some (y18) ∧ w'.cell? ⟨w18.heap.size, 0, none⟩ = some (x20) ∧ w'.cell? ⟨w18.heap.size, 1, none⟩ = some (y20) ∧ Since w19 w') (by kernel_rfl) ?_ (fun hHeld => ?_)
        · exact Cell.out _ hin
        have hh := hin
        refine wpAnyH_take (i := 0) (oi := { dst := some 111, op := Op.move (Operand.tmp 19), type := 4, pos := "laws.go:347", after := #[], guard := none }) (v := ?_) rfl (by kernel_rfl) (by kernel_rfl) (by kernel_rfl) (fun _ _ _ h => h) (Or.inl ⟨by rfl, ?_⟩) (by assumption) ?_
        rotate_left 1
        · intro w hSw; (try dsimp only at hSw); go_simp; try (with_reducible rfl)
        try simp only [Act.put, List.setIfInBounds_toArray, List.set_cons_zero, List.set_cons_succ]
        refine wpAnyH_take (i := 1) (oi := { dst := some 112, op := Op.move (Operand.tmp 21), type := 4, pos := "laws.go:347", after := #[], guard := none }) (v := ?_) rfl (by kernel_rfl) (by kernel_rfl) (by kernel_rfl) (fun _ _ _ h => h) (Or.inl ⟨by rfl, ?_⟩) (by assumption) ?_
        rotate_left 1
        · intro w hSw; (try dsimp only at hSw); go_simp; try (with_reducible rfl)
        try simp only [Act.put, List.setIfInBounds_toArray, List.set_cons_zero, List.set_cons_succ]
        refine wpAnyH_take (i := 2) (oi := { dst := some 113, op := Op.binOp BinOp.neq 4 (Operand.tmp 111) (Operand.tmp 112) 4, type := 4, pos := "laws.go:347", after := #[{ on := 0, ground := Ground.data }, { on := 1, ground := Ground.data }], guard := none }) (v := ?_) rfl (by kernel_rfl) (by kernel_rfl) (by kernel_rfl) (fun _ _ _ h => h) (Or.inl ⟨by rfl, ?_⟩) (by assumption) ?_
        rotate_left 1
        · intro w hSw; (try dsimp only at hSw); go_simp; try (with_reducible rfl)
        try simp only [Act.put, List.setIfInBounds_toArray, List.set_cons_zero, List.set_cons_succ]
        refine wpAnyH_take (i := 3) (oi := { dst := some 114, op := Op.move (Operand.tmp 113), type := 4, pos := "laws.go:347", after := #[{ on := 2, ground := Ground.data }], guard := none }) (v := ?_) rfl (by kernel_rfl) (by kernel_rfl) (by kernel_rfl) (fun _ _ _ h => h) (Or.inl ⟨by rfl, ?_⟩) (by assumption) ?_
        rotate_left 1
        · intro w hSw; (try dsimp only at hSw); go_simp; try (with_reducible rfl)
        try simp only [Act.put, List.setIfInBounds_toArray, List.set_cons_zero, List.set_cons_succ]
        refine wpAnyH_take (i := 4) (oi := { dst := some 115, op := Op.load 26 (Operand.tmp 18), type := 26, pos := "laws.go:347", after := #[{ on := 3, ground := Ground.guard }], guard := some (3, false) }) (v := ?_) rfl (by kernel_rfl) (by kernel_rfl) (by kernel_rfl) (fun _ _ _ h => h) (Or.inl ⟨by rfl, ?_⟩) (by assumption) ?_
        rotate_left 1
        · intro w hSw; (try dsimp only at hSw); go_simp; try (with_reducible rfl)
        try simp only [Act.put, List.setIfInBounds_toArray, List.set_cons_zero, List.set_cons_succ]
        refine wpAnyH_take (i := 5) (oi := { dst := some 116, op := Op.load 26 (Operand.tmp 20), type := 26, pos := "laws.go:347", after := #[{ on := 3, ground := Ground.guard }], guard := some (3, false) }) (v := ?_) rfl (by kernel_rfl) (by kernel_rfl) (by kernel_rfl) (fun _ _ _ h => h) (Or.inl ⟨by rfl, ?_⟩) (by assumption) ?_
        rotate_left 1
        · intro w hSw; (try dsimp only at hSw); go_simp; try (with_reducible rfl)
        try simp only [Act.put, List.setIfInBounds_toArray, List.set_cons_zero, List.set_cons_succ]
        refine wpAnyH_ready (rs := [6]) (by kernel_rfl) (by simp) ?_
        refine AllReadyH.cons (o := { dst := some 117, op := Op.call { callee := Callee.value (Operand.func 18), args := #[Operand.tmp 115, Operand.tmp 116], argTypes := #[26, 26] }, type := 4, pos := "laws.go:347", after := #[{ on := 4, ground := Ground.data }, { on := 5, ground := Ground.data }, { on := 3, ground := Ground.chain }, { on := 3, ground := Ground.guard }], guard := some (3, false) }) (rs := []) rfl (fun K hK => ?_) AllReadyH.nil
        go_simp
        (go_at_call 18; refine (calls_since (impl_EqualGame true (eqG_self R.1) (GGS.out.up (hh : Since w19 _).low) (GGT.out.up (hh : Since w19 _).low) HXr.out HXr.out) hh).mono ?_; rintro e wq ⟨⟨rfl, _⟩, hh2⟩; clear hh; have hh := hh2; clear hh2)
        refine hK.out _ _ ?_ (fun hHeld => ?_)
        · exact Cell.out _ hh
        clear hK K
        try simp only [Act.put, List.setIfInBounds_toArray, List.set_cons_zero, List.set_cons_succ]
        refine wpAnyH_take (i := 7) (oi := { dst := some 118, op := Op.unOp UnOp.not 4 (Operand.tmp 117), type := 4, pos := "laws.go:347", after := #[{ on := 6, ground := Ground.data }, { on := 3, ground := Ground.guard }], guard := some (3, false) }) (v := ?_) rfl (by kernel_rfl) (by kernel_rfl) (by kernel_rfl) (fun _ _ _ h => h) (Or.inl ⟨by rfl, ?_⟩) (by assumption) ?_
        rotate_left 1
        · intro w hSw; (try dsimp only at hSw); go_simp; try (with_reducible rfl)
        try simp only [Act.put, List.setIfInBounds_toArray, List.set_cons_zero, List.set_cons_succ]
        refine wpAnyH_take (i := 8) (oi := { dst := some 119, op := Op.pick (Operand.tmp 114) (Operand.const (Value.bool true)) (Operand.tmp 118), type := 4, pos := "laws.go:347", after := #[{ on := 3, ground := Ground.data }, { on := 7, ground := Ground.data }], guard := none }) (v := ?_) rfl (by kernel_rfl) (by kernel_rfl) (by kernel_rfl) (fun _ _ _ h => h) (Or.inl ⟨by rfl, ?_⟩) (by assumption) ?_
        rotate_left 1
        · intro w hSw; (try dsimp only at hSw); go_simp; try (with_reducible rfl)
        try simp only [Act.put, List.setIfInBounds_toArray, List.set_cons_zero, List.set_cons_succ]
        refine wpAnyH_take (i := 9) (oi := { dst := some 120, op := Op.move (Operand.tmp 119), type := 4, pos := "laws.go:347", after := #[{ on := 8, ground := Ground.data }, { on := 6, ground := Ground.chain }], guard := none }) (v := ?_) rfl (by kernel_rfl) (by kernel_rfl) (by kernel_rfl) (fun _ _ _ h => h) (Or.inl ⟨by rfl, ?_⟩) (by assumption) ?_
        rotate_left 1
        · intro w hSw; (try dsimp only at hSw); go_simp; try (with_reducible rfl)
        try simp only [Act.put, List.setIfInBounds_toArray, List.set_cons_zero, List.set_cons_succ]
        refine wpAnyH_take (i := 10) (oi := { dst := some 121, op := Op.move (Operand.tmp 19), type := 4, pos := "laws.go:347", after := #[{ on := 9, ground := Ground.guard }], guard := some (9, false) }) (v := ?_) rfl (by kernel_rfl) (by kernel_rfl) (by kernel_rfl) (fun _ _ _ h => h) (Or.inl ⟨by rfl, ?_⟩) (by assumption) ?_
        rotate_left 1
        · intro w hSw; (try dsimp only at hSw); go_simp; try (with_reducible rfl)
        try simp only [Act.put, List.setIfInBounds_toArray, List.set_cons_zero, List.set_cons_succ]
        refine wpAnyH_take (i := 11) (oi := { dst := some 122, op := Op.move (Operand.tmp 121), type := 4, pos := "laws.go:347", after := #[{ on := 10, ground := Ground.data }, { on := 9, ground := Ground.chain }, { on := 9, ground := Ground.guard }], guard := some (9, false) }) (v := ?_) rfl (by kernel_rfl) (by kernel_rfl) (by kernel_rfl) (fun _ _ _ h => h) (Or.inl ⟨by rfl, ?_⟩) (by assumption) ?_
        rotate_left 1
        · intro w hSw; (try dsimp only at hSw); go_simp; try (with_reducible rfl)
        try simp only [Act.put, List.setIfInBounds_toArray, List.set_cons_zero, List.set_cons_succ]
        refine wpAnyH_take (i := 12) (oi := { dst := some 123, op := Op.load 26 (Operand.tmp 18), type := 26, pos := "laws.go:347", after := #[{ on := 11, ground := Ground.guard }], guard := some (11, true) }) (v := undef) rfl (by kernel_rfl) (by kernel_rfl) (by kernel_rfl) (fun _ _ _ h => h) (Or.inr ⟨by rfl, rfl⟩) (by assumption) ?_
        try simp only [Act.put, List.setIfInBounds_toArray, List.set_cons_zero, List.set_cons_succ]
        refine wpAnyH_take (i := 13) (oi := { dst := some 124, op := Op.call { callee := Callee.value (Operand.func 19), args := #[Operand.tmp 123], argTypes := #[26] }, type := 3, pos := "laws.go:347", after := #[{ on := 12, ground := Ground.data }, { on := 11, ground := Ground.chain }, { on := 11, ground := Ground.guard }], guard := some (11, true) }) (v := undef) rfl (by kernel_rfl) (by kernel_rfl) (by kernel_rfl) (fun _ _ _ h => h) (Or.inr ⟨by rfl, rfl⟩) (by assumption) ?_
        try simp only [Act.put, List.setIfInBounds_toArray, List.set_cons_zero, List.set_cons_succ]
        refine wpAnyH_take (i := 14) (oi := { dst := some 125, op := Op.load 26 (Operand.tmp 16), type := 26, pos := "laws.go:347", after := #[{ on := 11, ground := Ground.guard }], guard := some (11, true) }) (v := undef) rfl (by kernel_rfl) (by kernel_rfl) (by kernel_rfl) (fun _ _ _ h => h) (Or.inr ⟨by rfl, rfl⟩) (by assumption) ?_
        try simp only [Act.put, List.setIfInBounds_toArray, List.set_cons_zero, List.set_cons_succ]
        refine wpAnyH_take (i := 15) (oi := { dst := some 126, op := Op.move (Operand.tmp 17), type := 3, pos := "laws.go:347", after := #[{ on := 11, ground := Ground.guard }], guard := some (11, true) }) (v := undef) rfl (by kernel_rfl) (by kernel_rfl) (by kernel_rfl) (fun _ _ _ h => h) (Or.inr ⟨by rfl, rfl⟩) (by assumption) ?_
        try simp only [Act.put, List.setIfInBounds_toArray, List.set_cons_zero, List.set_cons_succ]
        refine wpAnyH_take (i := 16) (oi := { dst := some 127, op := Op.call { callee := Callee.value (Operand.func 23), args := #[Operand.tmp 125, Operand.tmp 126], argTypes := #[26, 3] }, type := 3, pos := "laws.go:347", after := #[{ on := 14, ground := Ground.data }, { on := 15, ground := Ground.data }, { on := 13, ground := Ground.chain }, { on := 11, ground := Ground.guard }], guard := some (11, true) }) (v := undef) rfl (by kernel_rfl) (by kernel_rfl) (by kernel_rfl) (fun _ _ _ h => h) (Or.inr ⟨by rfl, rfl⟩) (by assumption) ?_
        try simp only [Act.put, List.setIfInBounds_toArray, List.set_cons_zero, List.set_cons_succ]
        refine wpAnyH_take (i := 17) (oi := { dst := some 128, op := Op.binOp BinOp.neq 3 (Operand.tmp 124) (Operand.tmp 127) 3, type := 4, pos := "laws.go:347", after := #[{ on := 13, ground := Ground.data }, { on := 16, ground := Ground.data }, { on := 11, ground := Ground.guard }], guard := some (11, true) }) (v := undef) rfl (by kernel_rfl) (by kernel_rfl) (by kernel_rfl) (fun _ _ _ h => h) (Or.inr ⟨by rfl, rfl⟩) (by assumption) ?_
        try simp only [Act.put, List.setIfInBounds_toArray, List.set_cons_zero, List.set_cons_succ]
        refine wpAnyH_take (i := 18) (oi := { dst := some 129, op := Op.move (Operand.tmp 128), type := 4, pos := "laws.go:347", after := #[{ on := 17, ground := Ground.data }, { on := 16, ground := Ground.chain }, { on := 11, ground := Ground.guard }], guard := some (11, true) }) (v := undef) rfl (by kernel_rfl) (by kernel_rfl) (by kernel_rfl) (fun _ _ _ h => h) (Or.inr ⟨by rfl, rfl⟩) (by assumption) ?_
        try simp only [Act.put, List.setIfInBounds_toArray, List.set_cons_zero, List.set_cons_succ]
        refine wpAnyH_take (i := 19) (oi := { dst := some 130, op := Op.fieldAddr 26 (Operand.tmp 18) 0, type := 0, pos := "laws.go:347", after := #[{ on := 18, ground := Ground.guard }], guard := some (18, false) }) (v := undef) rfl (by kernel_rfl) (by kernel_rfl) (by kernel_rfl) (fun _ _ _ h => h) (Or.inr ⟨by rfl, rfl⟩) (by assumption) ?_
        try simp only [Act.put, List.setIfInBounds_toArray, List.set_cons_zero, List.set_cons_succ]
        refine wpAnyH_take (i := 20) (oi := { dst := some 131, op := Op.load 3 (Operand.tmp 130), type := 3, pos := "laws.go:347", after := #[{ on := 19, ground := Ground.data }, { on := 18, ground := Ground.guard }], guard := some (18, false) }) (v := undef) rfl (by kernel_rfl) (by kernel_rfl) (by kernel_rfl) (fun _ _ _ h => h) (Or.inr ⟨by rfl, rfl⟩) (by assumption) ?_
        try simp only [Act.put, List.setIfInBounds_toArray, List.set_cons_zero, List.set_cons_succ]
        refine wpAnyH_take (i := 21) (oi := { dst := some 132, op := Op.move (Operand.tmp 17), type := 3, pos := "laws.go:347", after := #[{ on := 18, ground := Ground.guard }], guard := some (18, false) }) (v := undef) rfl (by kernel_rfl) (by kernel_rfl) (by kernel_rfl) (fun _ _ _ h => h) (Or.inr ⟨by rfl, rfl⟩) (by assumption) ?_
        try simp only [Act.put, List.setIfInBounds_toArray, List.set_cons_zero, List.set_cons_succ]
        refine wpAnyH_take (i := 22) (oi := { dst := some 133, op := Op.call { callee := Callee.value (Operand.func 24), args := #[Operand.tmp 132], argTypes := #[3] }, type := 3, pos := "laws.go:347", after := #[{ on := 21, ground := Ground.data }, { on := 18, ground := Ground.chain }, { on := 18, ground := Ground.guard }], guard := some (18, false) }) (v := undef) rfl (by kernel_rfl) (by kernel_rfl) (by kernel_rfl) (fun _ _ _ h => h) (Or.inr ⟨by rfl, rfl⟩) (by assumption) ?_
        try simp only [Act.put, List.setIfInBounds_toArray, List.set_cons_zero, List.set_cons_succ]
        refine wpAnyH_take (i := 23) (oi := { dst := some 134, op := Op.binOp BinOp.neq 3 (Operand.tmp 131) (Operand.tmp 133) 3, type := 4, pos := "laws.go:347", after := #[{ on := 20, ground := Ground.data }, { on := 22, ground := Ground.data }, { on := 18, ground := Ground.guard }], guard := some (18, false) }) (v := undef) rfl (by kernel_rfl) (by kernel_rfl) (by kernel_rfl) (fun _ _ _ h => h) (Or.inr ⟨by rfl, rfl⟩) (by assumption) ?_
        try simp only [Act.put, List.setIfInBounds_toArray, List.set_cons_zero, List.set_cons_succ]
        refine wpAnyH_take (i := 24) (oi := { dst := some 135, op := Op.pick (Operand.tmp 129) (Operand.const (Value.bool true)) (Operand.tmp 134), type := 4, pos := "laws.go:347", after := #[{ on := 18, ground := Ground.data }, { on := 23, ground := Ground.data }, { on := 11, ground := Ground.guard }], guard := some (11, true) }) (v := undef) rfl (by kernel_rfl) (by kernel_rfl) (by kernel_rfl) (fun _ _ _ h => h) (Or.inr ⟨by rfl, rfl⟩) (by assumption) ?_
        try simp only [Act.put, List.setIfInBounds_toArray, List.set_cons_zero, List.set_cons_succ]
        refine wpAnyH_take (i := 25) (oi := { dst := some 136, op := Op.pick (Operand.tmp 122) (Operand.tmp 135) (Operand.const (Value.bool false)), type := 4, pos := "laws.go:347", after := #[{ on := 11, ground := Ground.data }, { on := 24, ground := Ground.data }, { on := 9, ground := Ground.guard }], guard := some (9, false) }) (v := ?_) rfl (by kernel_rfl) (by kernel_rfl) (by kernel_rfl) (fun _ _ _ h => h) (Or.inl ⟨by rfl, ?_⟩) (by assumption) ?_
        rotate_left 1
        · intro w hSw; (try dsimp only at hSw); go_simp; try (with_reducible rfl)
        try simp only [Act.put, List.setIfInBounds_toArray, List.set_cons_zero, List.set_cons_succ]
        refine wpAnyH_take (i := 26) (oi := { dst := some 137, op := Op.pick (Operand.tmp 120) (Operand.const (Value.bool true)) (Operand.tmp 136), type := 4, pos := "laws.go:347", after := #[{ on := 9, ground := Ground.data }, { on := 25, ground := Ground.data }], guard := none }) (v := ?_) rfl (by kernel_rfl) (by kernel_rfl) (by kernel_rfl) (fun _ _ _ h => h) (Or.inl ⟨by rfl, ?_⟩) (by assumption) ?_
        rotate_left 1
        · intro w hSw; (try dsimp only at hSw); go_simp; try (with_reducible rfl)
        try simp only [Act.put, List.setIfInBounds_toArray, List.set_cons_zero, List.set_cons_succ]
        refine wpAnyH_done (by kernel_rfl) ?_ _
        go_wp2_with fail
        go_meet
        exact ⟨rfl, hh⟩
    case rest =>
    obtain ⟨w20, rfl⟩ : ∃ q : World, q = wc := ⟨_, rfl⟩
    obtain ⟨rfl, hb9⟩ := hcut
    replace BX16 := Lib.hid (BX16.out.below hb9.low)
    replace GGH := Lib.hid (GGH.out.up hb9.low)
    replace HB := Lib.hid (HB.out.trans (hb9.low.mono HB.out.size))
    clear hin Cell HXr HGr HNr hb9 BX18 BX20 GGS GGT
    have HV1 := Lib.hid (fun (w : World) (x y : Value) (h : GmC w x y gh) => impl_IsValidGame _ rfl h FH.out)
    have HV2 := Lib.hid (fun (w : World) (x y : Value) (h : GmC w x y gh) => spec_IsValidGame _ rfl h FH.out)
    have HV3 := Lib.hid (fun (w : World) (x y : Value) (h : GmC w x y gh) => impl_ValueOf s h FH.out)
    have HV4 := Lib.hid (fun (w : World) (x y : Value) (h : GmC w x y gh) => spec_ValueOf s h FH.out)
    generalize Gm.vld gh = bv at *
    generalize Gm.val gh s = zv at *
    have hbb : (bv == bv) = true := by simp
    have hzz : (zv == zv) = true := by simp
    go_upto_region 16 with fail
    generalize hWw21 : w20 = w21 at *
    have Cell := Lib.hid (fun w' (h : Since w21 w') => (show w'.cell? ⟨w14.heap.size, 0, none⟩ = some (.int .i64 nh) ∧ w'.cell? ⟨w14.heap.size, 1, none⟩ = some (vh) ∧ Since w21 w' from ⟨h.cell (p := ⟨w14.heap.size, 0, none⟩) (lt_of_at BX16.out) (BX16.out.cell 0), h.cell (p := ⟨w14.heap.size, 1, none⟩) (lt_of_at BX16.out) (BX16.out.cell 1), h⟩))
    have hin := (Since.refl w21).drew
    go_cut [2] (fun v wx => v = .bool true ∧ Below w.heap.size w wx)
    case first =>
      refine wp_region_held_drew (S := fun w' => w'.cell? ⟨w14.heap.size, 0, none⟩ = some (.int .i64 nh) ∧ w'.cell? ⟨w14.heap.size, 1, none⟩ = some (vh) ∧ Since w21 w') (by kernel_rfl) ?_ (fun hHeld => ?_)
      · exact Cell.out _ hin
      have hh := hin
      refine wpAnyH_take (i := 0) (oi := { dst := some 138, op := Op.load 26 (Operand.tmp 16), type := 26, pos := "laws.go:350", after := #[], guard := none }) (v := ?_) rfl (by kernel_rfl) (by kernel_rfl) (by kernel_rfl) (fun _ _ _ h => h) (Or.inl ⟨by rfl, ?_⟩) (by assumption) ?_
      rotate_left 1
      · intro w hSw; (try dsimp only at hSw); go_simp; try (with_reducible rfl)
      try simp only [Act.put, List.setIfInBounds_toArray, List.set_cons_zero, List.set_cons_succ]
      refine wpAnyH_take (i := 2) (oi := { dst := some 140, op := Op.load 26 (Operand.tmp 16), type := 26, pos := "laws.go:350", after := #[], guard := none }) (v := ?_) rfl (by kernel_rfl) (by kernel_rfl) (by kernel_rfl) (fun _ _ _ h => h) (Or.inl ⟨by rfl, ?_⟩) (by assumption) ?_
      rotate_left 1
      · intro w hSw; (try dsimp only at hSw); go_simp; try (with_reducible rfl)
      try simp only [Act.put, List.setIfInBounds_toArray, List.set_cons_zero, List.set_cons_succ]
      refine wpAnyH_ready (rs := [1]) (by kernel_rfl) (by simp) ?_
      refine AllReadyH.cons (o := { dst := some 139, op := Op.call { callee := Callee.value (Operand.func 25), args := #[Operand.tmp 138], argTypes := #[26] }, type := 4, pos := "laws.go:350", after := #[{ on := 0, ground := Ground.data }], guard := none }) (rs := []) rfl (fun K hK => ?_) AllReadyH.nil
      go_simp
      (go_at_call 25; refine (calls_since (HV1.out _ _ _ (GGH.out.up (hh : Since w21 _).low)) hh).mono ?_; rintro e wq ⟨⟨rfl, _⟩, hh2⟩; clear hh; have hh := hh2; clear hh2)
      refine hK.out _ _ ?_ (fun hHeld => ?_)
      · exact Cell.out _ hh
      clear hK K
      try simp only [Act.put, List.setIfInBounds_toArray, List.set_cons_zero, List.set_cons_succ]
      refine wpAnyH_ready (rs := [3]) (by kernel_rfl) (by simp) ?_
      refine AllReadyH.cons (o := { dst := some 141, op := Op.call { callee := Callee.value (Operand.func 26), args := #[Operand.tmp 140], argTypes := #[26] }, type := 4, pos := "laws.go:350", after := #[{ on := 2, ground := Ground.data }, { on := 1, ground := Ground.chain }], guard := none }) (rs := []) rfl (fun K hK => ?_) AllReadyH.nil
      go_simp
      (go_at_call 26; refine (calls_since (HV2.out _ _ _ (GGH.out.up (hh : Since w21 _).low)) hh).mono ?_; rintro e wq ⟨⟨rfl, _⟩, hh2⟩; clear hh; have hh := hh2; clear hh2)
      refine hK.out _ _ ?_ (fun hHeld => ?_)
      · exact Cell.out _ hh
      clear hK K
      try simp only [Act.put, List.setIfInBounds_toArray, List.set_cons_zero, List.set_cons_succ]
      refine wpAnyH_take (i := 4) (oi := { dst := some 142, op := Op.binOp BinOp.eql 4 (Operand.tmp 139) (Operand.tmp 141) 4, type := 4, pos := "laws.go:350", after := #[{ on := 1, ground := Ground.data }, { on := 3, ground := Ground.data }], guard := none }) (v := ?_) rfl (by kernel_rfl) (by kernel_rfl) (by kernel_rfl) (fun _ _ _ h => h) (Or.inl ⟨by rfl, ?_⟩) (by assumption) ?_
      rotate_left 1
      · intro w hSw; (try dsimp only at hSw); go_simp; try (with_reducible rfl)
      try simp only [Act.put, List.setIfInBounds_toArray, List.set_cons_zero, List.set_cons_succ]
      refine wpAnyH_take (i := 5) (oi := { dst := some 143, op := Op.move (Operand.tmp 142), type := 4, pos := "laws.go:350", after := #[{ on := 4, ground := Ground.data }, { on := 3, ground := Ground.chain }], guard := none }) (v := ?_) rfl (by kernel_rfl) (by kernel_rfl) (by kernel_rfl) (fun _ _ _ h => h) (Or.inl ⟨by rfl, ?_⟩) (by assumption) ?_
      rotate_left 1
      · intro w hSw; (try dsimp only at hSw); go_simp; try (with_reducible rfl)
      try simp only [Act.put, List.setIfInBounds_toArray, List.set_cons_zero, List.set_cons_succ]
      refine wpAnyH_take (i := 6) (oi := { dst := some 144, op := Op.load 26 (Operand.tmp 16), type := 26, pos := "laws.go:350", after := #[{ on := 5, ground := Ground.guard }], guard := some (5, true) }) (v := ?_) rfl (by kernel_rfl) (by kernel_rfl) (by kernel_rfl) (fun _ _ _ h => h) (Or.inl ⟨by rfl, ?_⟩) (by assumption) ?_
      rotate_left 1
      · intro w hSw; (try dsimp only at hSw); go_simp; try (with_reducible rfl)
      try simp only [Act.put, List.setIfInBounds_toArray, List.set_cons_zero, List.set_cons_succ]
      refine wpAnyH_take (i := 7) (oi := { dst := some 145, op := Op.move (Operand.tmp 17), type := 3, pos := "laws.go:350", after := #[{ on := 5, ground := Ground.guard }], guard := some (5, true) }) (v := ?_) rfl (by kernel_rfl) (by kernel_rfl) (by kernel_rfl) (fun _ _ _ h => h) (Or.inl ⟨by rfl, ?_⟩) (by assumption) ?_
      rotate_left 1
      · intro w hSw; (try dsimp only at hSw); go_simp; try (with_reducible rfl)
      try simp only [Act.put, List.setIfInBounds_toArray, List.set_cons_zero, List.set_cons_succ]
      refine wpAnyH_take (i := 9) (oi := { dst := some 147, op := Op.load 26 (Operand.tmp 16), type := 26, pos := "laws.go:350", after := #[{ on := 5, ground := Ground.guard }], guard := some (5, true) }) (v := ?_) rfl (by kernel_rfl) (by kernel_rfl) (by kernel_rfl) (fun _ _ _ h => h) (Or.inl ⟨by rfl, ?_⟩) (by assumption) ?_
      rotate_left 1
      · intro w hSw; (try dsimp only at hSw); go_simp; try (with_reducible rfl)
      try simp only [Act.put, List.setIfInBounds_toArray, List.set_cons_zero, List.set_cons_succ]
      refine wpAnyH_take (i := 10) (oi := { dst := some 148, op := Op.move (Operand.tmp 17), type := 3, pos := "laws.go:350", after := #[{ on := 5, ground := Ground.guard }], guard := some (5, true) }) (v := ?_) rfl (by kernel_rfl) (by kernel_rfl) (by kernel_rfl) (fun _ _ _ h => h) (Or.inl ⟨by rfl, ?_⟩) (by assumption) ?_
      rotate_left 1
      · intro w hSw; (try dsimp only at hSw); go_simp; try (with_reducible rfl)
      try simp only [Act.put, List.setIfInBounds_toArray, List.set_cons_zero, List.set_cons_succ]
      refine wpAnyH_ready (rs := [8]) (by kernel_rfl) (by simp) ?_
      refine AllReadyH.cons (o := { dst := some 146, op := Op.call { callee := Callee.value (Operand.func 23), args := #[Operand.tmp 144, Operand.tmp 145], argTypes := #[26, 3] }, type := 3, pos := "laws.go:350", after := #[{ on := 6, ground := Ground.data }, { on := 7, ground := Ground.data }, { on := 5, ground := Ground.chain }, { on := 5, ground := Ground.guard }], guard := some (5, true) }) (rs := []) rfl (fun K hK => ?_) AllReadyH.nil
      go_simp
      (go_at_call 23; refine (calls_since (HV3.out _ _ _ (GGH.out.up (hh : Since w21 _).low)) hh).mono ?_; rintro e wq ⟨⟨rfl, _⟩, hh2⟩; clear hh; have hh := hh2; clear hh2)
      refine hK.out _ _ ?_ (fun hHeld => ?_)
      · exact Cell.out _ hh
      clear hK K
      try simp only [Act.put, List.setIfInBounds_toArray, List.set_cons_zero, List.set_cons_succ]
      refine wpAnyH_ready (rs := [11]) (by kernel_rfl) (by simp) ?_
      refine AllReadyH.cons (o := { dst := some 149, op := Op.call { callee := Callee.value (Operand.func 27), args := #[Operand.tmp 147, Operand.tmp 148], argTypes := #[26, 3] }, type := 3, pos := "laws.go:350", after := #[{ on := 9, ground := Ground.data }, { on := 10, ground := Ground.data }, { on := 8, ground := Ground.chain }, { on := 5, ground := Ground.guard }], guard := some (5, true) }) (rs := []) rfl (fun K hK => ?_) AllReadyH.nil
      go_simp
      (go_at_call 27; refine (calls_since (HV4.out _ _ _ (GGH.out.up (hh : Since w21 _).low)) hh).mono ?_; rintro e wq ⟨⟨rfl, _⟩, hh2⟩; clear hh; have hh := hh2; clear hh2)
      refine hK.out _ _ ?_ (fun hHeld => ?_)
      · exact Cell.out _ hh
      clear hK K
      try simp only [Act.put, List.setIfInBounds_toArray, List.set_cons_zero, List.set_cons_succ]
      refine wpAnyH_take (i := 12) (oi := { dst := some 150, op := Op.binOp BinOp.eql 3 (Operand.tmp 146) (Operand.tmp 149) 3, type := 4, pos := "laws.go:350", after := #[{ on := 8, ground := Ground.data }, { on := 11, ground := Ground.data }, { on := 5, ground := Ground.guard }], guard := some (5, true) }) (v := ?_) rfl (by kernel_rfl) (by kernel_rfl) (by kernel_rfl) (fun _ _ _ h => h) (Or.inl ⟨by rfl, ?_⟩) (by assumption) ?_
      rotate_left 1
      · intro w hSw; (try dsimp only at hSw); go_simp; try (with_reducible rfl)
      try simp only [Act.put, List.setIfInBounds_toArray, List.set_cons_zero, List.set_cons_succ]
      refine wpAnyH_take (i := 13) (oi := { dst := some 151, op := Op.pick (Operand.tmp 143) (Operand.tmp 150) (Operand.const (Value.bool false)), type := 4, pos := "laws.go:350", after := #[{ on := 5, ground := Ground.data }, { on := 12, ground := Ground.data }], guard := none }) (v := ?_) rfl (by kernel_rfl) (by kernel_rfl) (by kernel_rfl) (fun _ _ _ h => h) (Or.inl ⟨by rfl, ?_⟩) (by assumption) ?_
      rotate_left 1
      · intro w hSw; (try dsimp only at hSw); go_simp; try (with_reducible rfl)
      try simp only [Act.put, List.setIfInBounds_toArray, List.set_cons_zero, List.set_cons_succ]
      refine wpAnyH_take (i := 14) (oi := { dst := some 2, op := Op.assign (Operand.tmp 151), type := 4, pos := "laws.go:350", after := #[{ on := 13, ground := Ground.data }, { on := 11, ground := Ground.chain }, { on := 0, ground := Ground.phase }, { on := 1, ground := Ground.phase }, { on := 2, ground := Ground.phase }, { on := 3, ground := Ground.phase }, { on := 4, ground := Ground.phase }, { on := 5, ground := Ground.phase }, { on := 6, ground := Ground.phase }, { on := 7, ground := Ground.phase }, { on := 8, ground := Ground.phase }, { on := 9, ground := Ground.phase }, { on := 10, ground := Ground.phase }, { on := 11, ground := Ground.phase }, { on := 12, ground := Ground.phase }, { on := 13, ground := Ground.phase }], guard := none }) (v := ?_) rfl (by kernel_rfl) (by kernel_rfl) (by kernel_rfl) (fun _ _ _ h => h) (Or.inl ⟨by rfl, ?_⟩) (by assumption) ?_
      rotate_left 1
      · intro w hSw; (try dsimp only at hSw); go_simp; try (with_reducible rfl)
      try simp only [Act.put, List.setIfInBounds_toArray, List.set_cons_zero, List.set_cons_succ]
      refine wpAnyH_done (by kernel_rfl) ?_ _
      go_wp2_with fail
      go_meet
      exact ⟨rfl, HB.out.trans (hh.low.mono HB.out.size)⟩
    case rest =>
    obtain ⟨rfl, hb9⟩ := hcut
    have HBe := Lib.hid hb9
    clear hb9
    go_wp2_with fail
    go_ret
    exact ⟨rfl, HBe.out⟩
theorem fnGames.walk (a : Option Addr) (len cap : Nat) (zs : List Int) (w : World) (h : IntsAt .u8 w.heap.size w a len zs) :
    Calls Try.prog 3 #[.slice a len cap] w fun e w' => e = .returned (.bool true) ∧ Below w.heap.size w w' := fnGames.walk0 a len cap w (code_of h)
end Go.Proofs.Ytccgebnbpfliiaa
