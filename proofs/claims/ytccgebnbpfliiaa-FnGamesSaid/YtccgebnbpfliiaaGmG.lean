/- The specification's l8Wide, Restrict. -/
import Derived.Test.YtccgebnbpfliiaaGmF
import Derived.Test.YtccgebnbpfliiaaCoMem
namespace Go.Proofs.Ytccgebnbpfliiaa
open Go.RowKit
open Gm (G)
set_option maxRecDepth 100000 in
set_option maxHeartbeats 2000000 in
theorem spec_l8Wide (B : Nat) (a : Option Addr) (c : Nat) (m : List Int) (t : Nat) (ht : t ≤ 31) (hl : m.length ≤ 5) (hm : ∀ k, k < m.length → 0 ≤ m.getD k 0 ∧ m.getD k 0 < 5) (hb : ∀ j, j ≤ m.length → 0 ≤ Gm.wide m (t : Int) j ∧ Gm.wide m (t : Int) j ≤ 31) (w : World) (h1 : NumsIn B w a m) :
    Calls Try.prog 60 #[.slice a m.length c, .int .i64 t] w fun e w' => e = .returned (.int .i64 (Gm.wide m (t : Int) m.length)) ∧ w' = w := by
  have H1 := Lib.hid h1
  have HM := Lib.hid hm
  have HBd := Lib.hid hb
  clear h1 hm hb
  go_enter Try.func60, Try.ntmps60
  go_wp2_with fail
  go_loop [5, 6] (fun o i => ∃ (k : Nat) (n : Int), k ≤ m.length ∧ i = .int .i64 k ∧ o = .int .i64 n ∧ 0 ≤ n ∧ n ≤ 31 ∧ Hid (n = Gm.wide m (t : Int) k)) (fun _ i => m.length - (intOf i).toNat)
  case atStart => exact ⟨0, 0, Nat.zero_le _, rfl, rfl, by omega, by omega, rfl⟩
  case round =>
    obtain ⟨k, n, hk, rfl, rfl, hn0, hn1, hn2⟩ := hrel
    by_cases hlt : k < m.length
    · obtain ⟨b, o, rfl, _, c1⟩ := H1.out k hlt
      have hmk := HM.out k hlt
      rcases hh : Co.has (t : Int) k with _ | _
      · have He : Hid (n = Gm.wide m (t : Int) (k + 1)) := by show _ = _; rw [Gm.wide_no hh]; exact hn2.out
        have Hhas := Lib.hid (fun W => spec_HasPlayer (t : Int) (by omega) k (by omega) false hh W)
        clear hh
        go_wp2_with fail
        refine (Hhas.out _).mono ?_
        rintro e w9 ⟨rfl, rfl⟩
        go_wp2_with fail
        go_round
        case rel => exact ⟨k + 1, n, by omega, by go_num, rfl, hn0, hn1, He⟩
        case measure => simp [intOf]; omega
      · obtain ⟨p, hp⟩ : ∃ p : Nat, m.getD k 0 = p := ⟨(m.getD k 0).toNat, by omega⟩
        have hp5 : p < 5 := by omega
        have hbd := HBd.out (k + 1) (by omega)
        have he : n + ((2 ^ p : Nat) : Int) = Gm.wide m (t : Int) (k + 1) := by rw [Gm.wide_yes hh, ← hn2.out, hp]; simp
        have hb2 : 0 ≤ n + ((2 ^ p : Nat) : Int) ∧ n + ((2 ^ p : Nat) : Int) ≤ 31 := by rw [he]; exact hbd
        have He : Hid (n + ((2 ^ p : Nat) : Int) = Gm.wide m (t : Int) (k + 1)) := he
        have Hhas := Lib.hid (fun W => spec_HasPlayer (t : Int) (by omega) k (by omega) true hh W)
        have Hbit := Lib.hid (fun W => spec_l2Bit p (by omega) W)
        rw [hp] at c1
        clear hh hp he hmk
        generalize 2 ^ p = P at *
        go_wp2_with fail
        refine (Hhas.out _).mono ?_
        rintro e w9 ⟨rfl, rfl⟩
        go_wp2_with fail
        refine (Hbit.out _).mono ?_
        rintro e w9 ⟨rfl, rfl⟩
        go_wp2_with fail
        go_round
        case rel => exact ⟨k + 1, n + P, by omega, by go_num, rfl, hb2.1, hb2.2, He⟩
        case measure => simp [intOf]; omega
    · have hke : k = m.length := by omega
      have He : Hid (n = Gm.wide m (t : Int) m.length) := by rw [← hke]; exact hn2
      clear hke
      go_wp2_with fail
      go_ret
      exact ⟨ret_int He.out, rfl⟩
/-- A coalition's members, as the specification's restricted games take them. -/
theorem memR_good {s : Int} (h : 0 ≤ s ∧ s ≤ 31) : memR s = Co.mem s 5 := by unfold memR; rw [show Co.good s = true by unfold Co.good; rw [decide_eq_true_iff]; exact h]; rfl
theorem mem_at {s : Int} {k : Nat} (h : k < (Co.mem s 5).length) : 0 ≤ (Co.mem s 5).getD k 0 ∧ (Co.mem s 5).getD k 0 < 5 := by
  have := Co.mem_bd s 5 _ (List.getElem_mem h)
  rw [List.getD_eq_getElem?_getD, List.getElem?_eq_getElem h]
  simpa using this
theorem wide_small {s : Int} (h : 0 ≤ s ∧ s ≤ 31) {t : Nat} (ht : t ≤ 31) {j : Nat} (hj : j ≤ (Co.mem s 5).length) : 0 ≤ Gm.wide (Co.mem s 5) (t : Int) j ∧ Gm.wide (Co.mem s 5) (t : Int) j ≤ 31 := by
  have hs : s = ((⟨s.toNat, by omega⟩ : Fin 32).val : Int) := by show s = ((s.toNat : Nat) : Int); omega
  have hl : (Co.mem s 5).length ≤ 5 := Co.mem_len s 5
  have := Gm.wide_bd ⟨s.toNat, by omega⟩ ⟨t, by omega⟩ ⟨j, by omega⟩ (by rw [← hs]; exact hj)
  rw [← hs] at this
  simp only at this
  omega
set_option maxRecDepth 100000 in
set_option maxHeartbeats 4000000 in
theorem spec_Restrict {w : World} {x y : Value} {g : G} {s : Int} (h : GmC w x y g) (hf : GmOk g) :
    Calls Try.prog 22 #[.agg #[x, y], .int .i64 s] w (MakesGm (Gm.res g s) w) := by
  obtain ⟨W, hW⟩ : ∃ W, W = (w.alloc (.cells #[x, y] 26)).alloc (.cells #[.int .i64 0, .slice none 0 0] 26) := ⟨_, rfl⟩
  obtain ⟨q1, q3, q4, q5⟩ := two_boxes w x y 26 W hW
  have HA := Lib.hid (h.up q4)
  have HC1 := Lib.hid q1
  have HC3 := Lib.hid q3
  have HB := Lib.hid q4
  have HW := Lib.hid hW
  have HF := Lib.hid hf
  obtain ⟨R, hR⟩ : ∃ R, Gm.res g s = R := ⟨_, rfl⟩
  have HR0 := Lib.hid hR
  rw [hR]
  clear q1 q3 q4 h hW hf hR
  rcases hv : Gm.vld g with _ | _
  · have Hr := Lib.hid (show (Gm.G0, false) = R by rw [← HR0.out]; exact (Gm.res_no (by unfold Gm.resOk; rw [hv]; rfl)).symm)
    have HV := Lib.hid hv
    clear hv HR0
    go_enter Try.func22, Try.ntmps22
    go_wp2_with fail
    rw [← HW.out]
    refine (spec_IsValidGame false HV.out HA.out HF.out).mono ?_
    rintro e w1 ⟨rfl, k⟩
    have HB1 := Lib.hid (HB.out.trans (k.mono (by omega)))
    have HC4 := Lib.hid (HC3.out.below k)
    clear k HW
    have HR := Lib.hid ((HC4.out.s0 (.int .i64 0)).s1 (.slice none 0 0))
    have HBz := Lib.hid ((HB1.out.setCell (p := ⟨w.heap.size + 1, 0, none⟩) (by simp only; omega) (.int .i64 0)).setCell (p := ⟨w.heap.size + 1, 1, none⟩) (by simp only; omega) (.slice none 0 0))
    obtain ⟨d0, d1, e0, e1⟩ := two' HC4.out
    go_wp2_with fail
    refine bodyPost_ret (v := .tuple #[.agg #[.int .i64 0, .slice none 0 0], .bool false]) (by
      obtain ⟨z0, z1⟩ := two HR.out
      revert z0 z1
      generalize ((w1.setCell ⟨w.heap.size + 1, 0, none⟩ (.int .i64 0)).setCell ⟨w.heap.size + 1, 1, none⟩ (.slice none 0 0)) = W4
      intro z0 z1
      simp [results, Try.results22, go_sem, z0, z1]) rfl (by rw [← Hr.out]; exact ⟨⟨_, _, rfl, ResGm.zero _ _⟩, HBz.out⟩)
  · have HV := Lib.hid hv
    obtain ⟨gn, gv⟩ := g
    obtain ⟨a, c, rfl, rfl, hi⟩ := HA.out
    have hl := Gm.vld_len hv
    dsimp only at hl hi
    have hgl : gv.length ≤ 32 := hl.2
    have hgl1 : 2 ≤ gv.length := hl.1
    by_cases hs : 1 ≤ s ∧ s < gv.length
    · have hok : Gm.resOk ⟨gn, gv⟩ s = true := by unfold Gm.resOk; rw [hv]; simp only [Bool.true_and, decide_eq_true_iff]; exact hs
      have Hr := Lib.hid (show (Gm.resG ⟨gn, gv⟩ s, true) = R by rw [← HR0.out]; exact (Gm.res_yes hok).symm)
      have Hd := Lib.hid (show decide (1 ≤ s ∧ s ≤ (gv.length : Int) - 1) = true by rw [decide_eq_true_iff]; omega)
      have hs31 : 0 ≤ s ∧ s ≤ 31 := by omega
      have HMem := Lib.hid (memR_good hs31)
      have hml : (Co.mem s 5).length ≤ 5 := Co.mem_len s 5
      have hp : 2 ^ (Co.mem s 5).length ≤ 32 := Nat.pow_le_pow_right (by omega) hml
      have HAt := Lib.hid (fun k (hk : k < (Co.mem s 5).length) => mem_at hk)
      have HWb := Lib.hid (fun (t : Nat) (ht : t ≤ 31) j (hj : j ≤ (Co.mem s 5).length) => wide_small hs31 ht hj)
      have HWi := Lib.hid (fun (t : Nat) (ht : t < 2 ^ (Co.mem s 5).length) => show 0 ≤ Gm.wide (Co.mem s 5) (t : Int) (Co.mem s 5).length ∧ Gm.wide (Co.mem s 5) (t : Int) (Co.mem s 5).length < gv.length from Gm.wide_in hok ht)
      have HRa := Lib.hid (fun t => show Gm.resAt ⟨gn, gv⟩ s t = gv.getD (Gm.wide (Co.mem s 5) (t : Int) (Co.mem s 5).length).toNat 0 from rfl)
      have hRG : Gm.resG ⟨gn, gv⟩ s = Gm.mk ((Co.mem s 5).length : Nat) (Gm.resAt ⟨gn, gv⟩ s) (2 ^ (Co.mem s 5).length) := rfl
      rw [hRG] at Hr
      obtain ⟨f, hfe⟩ : ∃ f, Gm.resAt ⟨gn, gv⟩ s = f := ⟨_, rfl⟩
      rw [hfe] at Hr HRa
      have HCnt := Lib.hid (fun W => spec_CountCoalitions (Co.mem s 5).length hml W)
      have HN := Lib.hid hi
      generalize Co.mem s 5 = mm at *
      clear hv HR0 hi hs hok hRG hfe hs31
      go_enter Try.func22, Try.ntmps22
      go_wp2_with fail
      rw [← HW.out]
      refine (spec_IsValidGame true HV.out HA.out HF.out).mono ?_
      rintro e w1 ⟨rfl, k⟩
      have HK1 := Lib.hid k
      have hs1 := k.size
      obtain ⟨m0, m1⟩ := two (HC1.out.below k)
      clear k HW
      go_wp2_with fail
      refine (spec_l1In s 1 ((gv.length : Int) - 1) true Hd.out _).mono ?_
      rintro e w9 ⟨rfl, rfl⟩
      go_wp2_with fail
      refine (spec_MembersOf s w1).mono ?_
      rintro e w2 ⟨vm, rfl, hom, k⟩
      rw [HMem.out] at hom
      obtain ⟨am, cm, rfl, rm, pm, _⟩ := own_reads hom
      have hs2 := k.size
      have HK2 := Lib.hid (HK1.out.trans (k.mono hs1))
      have HMm := Lib.hid (NumsIn.of_ints (B := w2.heap.size) rm fun p hp => (pm p hp).2)
      obtain ⟨N, hN⟩ : ∃ N, 2 ^ mm.length = N := ⟨_, rfl⟩
      rw [hN] at Hr hp HWi HCnt
      have HQ := Lib.hid (CellsAt.new w2 #[.int .i64 mm.length, .slice none 0 0] 26)
      have HK4 := Lib.hid ((Below.refl w2.heap.size w2).alloc (Nat.le_refl _) (.cells #[.int .i64 mm.length, .slice none 0 0] 26))
      have HO4 : Hid (OwnInts (w2.heap.size + 1) (w2.alloc (.cells #[.int .i64 mm.length, .slice none 0 0] 26)) (.slice none 0 0) (Gm.mk (mm.length : Nat) f 0).v) := World.ownsRow_nil _ _ _ _
      have hsz4 := size1 w2 (.cells #[.int .i64 mm.length, .slice none 0 0] 26)
      have HSz4 : Hid (w2.heap.size + 1 ≤ (w2.alloc (.cells #[.int .i64 mm.length, .slice none 0 0] 26)).heap.size) := by show _ ≤ _; omega
      clear k hom rm pm m0 m1 hN HMem hsz4
      go_wp2_with fail
      refine (HCnt.out _).mono ?_
      rintro e w9 ⟨rfl, rfl⟩
      go_wp2_with fail
      go_loopw [9] (fun i wr => ∃ (k : Nat) (v : Value), k ≤ N ∧ i = .int .i64 k ∧ Hid (CellsAt wr w2.heap.size #[.int .i64 mm.length, v] 26) ∧ Hid (OwnInts (w2.heap.size + 1) wr v (Gm.mk (mm.length : Nat) f k).v) ∧ Hid (Below w2.heap.size w2 wr) ∧ w2.heap.size + 1 ≤ wr.heap.size) (fun i _ => N - (intOf i).toNat)
      case atStart => exact ⟨0, _, Nat.zero_le _, rfl, HQ, HO4, HK4, HSz4.out⟩
      case round =>
        obtain ⟨k, v, hk, rfl, hQ, hO, hB, hsw⟩ := hrel
        have hKW := HK2.out.trans (hB.out.mono (by omega))
        by_cases hlt : k < N
        · obtain ⟨q0, q1, f0, f1⟩ := two' hQ.out
          obtain ⟨m2, m3⟩ := two (HC1.out.below hKW)
          have hwi := HWi.out k hlt
          obtain ⟨ix, hix⟩ : ∃ ix : Nat, Gm.wide mm (k : Int) mm.length = ix := ⟨(Gm.wide mm (k : Int) mm.length).toNat, by omega⟩
          have hixl : ix < gv.length := by omega
          obtain ⟨b1, u1, rfl, hb1l, c1⟩ := (HN.out.below hKW) ix hixl
          have hz : gv.getD ix 0 = f k := by rw [HRa.out, hix]; simp
          rw [hz] at c1
          have hne : v.ownBlock ≠ some w2.heap.size := own_apart hO.out hQ.out.ty (by decide)
          have hne2 : ∀ g, g < w2.heap.size → v.ownBlock ≠ some g := fun g hg e => by have := (World.ownsRow.lt hO.out g e).1; omega
          have HX1 := Lib.hid (Gm.mk_more (mm.length : Nat) f k)
          have HXL := Lib.hid (Gm.mk_len (mm.length : Nat) f k)
          have HXL2 := Lib.hid (Gm.mk_len (mm.length : Nat) f (k + 1))
          have Cell := Lib.hid (fun w' (h : wr.grownBy w' v.ownBlock) => (show w'.cell? ⟨w2.heap.size, 1, none⟩ = some v ∧ w'.cell? ⟨w.heap.size, 1, none⟩ = some (.slice (some ⟨b1, u1, none⟩) gv.length c) ∧ w'.cell? ⟨b1, u1 + ix, none⟩ = some (.int .i64 (f k)) ∧ wr.grownBy w' v.ownBlock from
            ⟨gr_cell (p := ⟨w2.heap.size, 1, none⟩) h (lt_of_at hQ.out) hne q1, gr_cell (p := ⟨w.heap.size, 1, none⟩) h (show w.heap.size < wr.heap.size by omega) (hne2 _ (show w.heap.size < w2.heap.size by omega)) m3, gr_cell (p := ⟨b1, u1 + ix, none⟩) h (show b1 < wr.heap.size by omega) (hne2 _ (show b1 < w2.heap.size by omega)) c1, h⟩))
          have hg0 : wr.grownBy wr.drew v.ownBlock := gr_drew (World.grownBy.refl _ _)
          have hsn := (Since.refl wr).drew
          have Hq := Lib.hid hne
          have HCall := Lib.hid (spec_l8Wide w2.heap.size am cm mm k (by omega) hml HAt.out (HWb.out k (by omega)) wr.drew ((HMm.out.below hB.out.drew)))
          rw [hix] at HCall
          have hix2 : (ix : Int) < (gv.length : Int) := by omega
          generalize f k = z at *
          clear q0 q1 f0 f1 hne hne2 HQ HO4 HK4 hwi hix hz c1 m2 m3 hKW
          go_upto_region 9 with fail
          refine wp_region_T_drew (S := (fun w' => w'.cell? ⟨w2.heap.size, 1, none⟩ = some v ∧ w'.cell? ⟨w.heap.size, 1, none⟩ = some (.slice (some ⟨b1, u1, none⟩) gv.length c) ∧ w'.cell? ⟨b1, u1 + ix, none⟩ = some (.int .i64 z) ∧ wr.grownBy w' v.ownBlock)) 12 (by kernel_rfl) ?_ (fun hHeld => ?_)
          · exact Cell.out _ hg0
          refine wpAnyT_take (i := 0) (oi := { dst := some 36, op := Op.fieldAddr 26 (Operand.tmp 7) 1, type := 0, pos := "l08_game.go:104", after := #[], guard := none }) (v := ?_) rfl (by kernel_rfl) (fun _ _ _ h => h) (Or.inl ⟨by rfl, ?_⟩) (by assumption) ?_
          rotate_left 1
          · intro w hSw; (try dsimp only at hSw); go_simp; try (with_reducible rfl)
          try simp only [Act.put, List.setIfInBounds_toArray, List.set_cons_zero, List.set_cons_succ]
          refine wpAnyT_take (i := 1) (oi := { dst := some 37, op := Op.load 24 (Operand.tmp 36), type := 24, pos := "l08_game.go:104", after := #[{ on := 0, ground := Ground.data }], guard := none }) (v := ?_) rfl (by kernel_rfl) (fun _ _ _ h => h) (Or.inl ⟨by rfl, ?_⟩) (by assumption) ?_
          rotate_left 1
          · intro w hSw; (try dsimp only at hSw); go_simp; try (with_reducible rfl)
          try simp only [Act.put, List.setIfInBounds_toArray, List.set_cons_zero, List.set_cons_succ]
          refine wpAnyT_take (i := 2) (oi := { dst := some 38, op := Op.fieldAddr 26 (Operand.tmp 2) 1, type := 0, pos := "l08_game.go:104", after := #[], guard := none }) (v := ?_) rfl (by kernel_rfl) (fun _ _ _ h => h) (Or.inl ⟨by rfl, ?_⟩) (by assumption) ?_
          rotate_left 1
          · intro w hSw; (try dsimp only at hSw); go_simp; try (with_reducible rfl)
          try simp only [Act.put, List.setIfInBounds_toArray, List.set_cons_zero, List.set_cons_succ]
          refine wpAnyT_take (i := 3) (oi := { dst := some 39, op := Op.load 24 (Operand.tmp 38), type := 24, pos := "l08_game.go:104", after := #[{ on := 2, ground := Ground.data }], guard := none }) (v := ?_) rfl (by kernel_rfl) (fun _ _ _ h => h) (Or.inl ⟨by rfl, ?_⟩) (by assumption) ?_
          rotate_left 1
          · intro w hSw; (try dsimp only at hSw); go_simp; try (with_reducible rfl)
          try simp only [Act.put, List.setIfInBounds_toArray, List.set_cons_zero, List.set_cons_succ]
          refine wpAnyT_take (i := 4) (oi := { dst := some 40, op := Op.move (Operand.tmp 6), type := 24, pos := "l08_game.go:104", after := #[], guard := none }) (v := ?_) rfl (by kernel_rfl) (fun _ _ _ h => h) (Or.inl ⟨by rfl, ?_⟩) (by assumption) ?_
          rotate_left 1
          · intro w hSw; (try dsimp only at hSw); go_simp; try (with_reducible rfl)
          try simp only [Act.put, List.setIfInBounds_toArray, List.set_cons_zero, List.set_cons_succ]
          refine wpAnyT_take (i := 5) (oi := { dst := some 41, op := Op.move (Operand.tmp 9), type := 3, pos := "l08_game.go:104", after := #[], guard := none }) (v := ?_) rfl (by kernel_rfl) (fun _ _ _ h => h) (Or.inl ⟨by rfl, ?_⟩) (by assumption) ?_
          rotate_left 1
          · intro w hSw; (try dsimp only at hSw); go_simp; try (with_reducible rfl)
          try simp only [Act.put, List.setIfInBounds_toArray, List.set_cons_zero, List.set_cons_succ]
          refine wpAnyT_ready (rs := [6]) (by kernel_rfl) (by simp) ?_
          refine (AllReadyT.cons (o := { dst := some 42, op := Op.call { callee := Callee.value (Operand.func 60), args := #[Operand.tmp 40, Operand.tmp 41], argTypes := #[24, 3] }, type := 3, pos := "l08_game.go:104", after := #[{ on := 4, ground := Ground.data }, { on := 5, ground := Ground.data }], guard := none }) (rs := []) rfl (fun K hK => ?_) AllReadyT.nil)
          go_simp
          (go_at_call 60; refine HCall.out.mono ?_; rintro e w9 ⟨rfl, rfl⟩)
          refine hK.out _ _ ?_ (fun hHeld => ?_)
          · exact Cell.out _ hg0
          clear hK K
          try simp only [Act.put, List.setIfInBounds_toArray, List.set_cons_zero, List.set_cons_succ]
          refine wpAnyT_take (i := 7) (oi := { dst := some 43, op := Op.indexAddr 24 (Operand.tmp 39) (Operand.tmp 42), type := 0, pos := "l08_game.go:104", after := #[{ on := 3, ground := Ground.data }, { on := 6, ground := Ground.data }], guard := none }) (v := ?_) rfl (by kernel_rfl) (fun _ _ _ h => h) (Or.inl ⟨by rfl, ?_⟩) (by assumption) ?_
          rotate_left 1
          · intro w hSw; (try dsimp only at hSw); go_simp; try (with_reducible rfl)
          try simp only [Act.put, List.setIfInBounds_toArray, List.set_cons_zero, List.set_cons_succ]
          refine wpAnyT_take (i := 8) (oi := { dst := some 44, op := Op.load 3 (Operand.tmp 43), type := 3, pos := "l08_game.go:104", after := #[{ on := 7, ground := Ground.data }], guard := none }) (v := ?_) rfl (by kernel_rfl) (fun _ _ _ h => h) (Or.inl ⟨by rfl, ?_⟩) (by assumption) ?_
          rotate_left 1
          · intro w hSw; (try dsimp only at hSw); go_simp; try (with_reducible rfl)
          try simp only [Act.put, List.setIfInBounds_toArray, List.set_cons_zero, List.set_cons_succ]
          have hg3 := gr_alloc hg0 (.cells #[.int .i64 z] 3)
          have hs3 := hsn.alloc (.cells #[.int .i64 z] 3)
          have hO3 := hO.out.below hs3.low
          have hn3 := one_num wr.drew z
          refine wpAnyT_ready (rs := [9]) (by kernel_rfl) (by simp) ?_
          refine (AllReadyT.cons (o := { dst := some 45, op := Op.buildSlice 24 1 #[(0, Operand.tmp 44)], type := 24, pos := "l08_game.go:104", after := #[{ on := 8, ground := Ground.data }], guard := none }) (rs := []) rfl (fun K hK => ?_) AllReadyT.nil)
          go_simp
          refine hK.out _ _ ?_ (fun hHeld => ?_)
          · exact Cell.out _ hg3
          clear hK K
          try simp only [Act.put, List.setIfInBounds_toArray, List.set_cons_zero, List.set_cons_succ]
          refine wpAnyT_ready (rs := [10]) (by kernel_rfl) (by simp) ?_
          refine (AllReadyT.cons (o := { dst := some 46, op := Op.call { callee := Callee.builtin Builtin.append, args := #[Operand.tmp 37, Operand.tmp 45], argTypes := #[24, 24] }, type := 24, pos := "l08_game.go:104", after := #[{ on := 1, ground := Ground.data }, { on := 9, ground := Ground.data }, { on := 6, ground := Ground.chain }], guard := none }) (rs := []) rfl (fun K hK => ?_) AllReadyT.nil)
          (refine step_append_ints rfl _ _ rfl (w2.heap.size + 1) v (Gm.mk (mm.length : Nat) f k).v rfl hO3 (some ⟨wr.heap.size, 0, none⟩) [z] _ _ rfl rfl (wr.heap.size + 1) hn3 (by simp only [List.length_singleton]; have := HXL.out; omega) (Nat.le_trans hsw hs3.low.size) ?_; intro v' w' hown hgrow; rw [← HX1.out] at hown; obtain ⟨av, cv, rfl⟩ := ints_shape hown; rw [HXL2.out]; rw [HXL2.out] at hown; have hg4 := gr_trans hg3 hgrow)
          refine hK.out _ _ ?_ (fun hHeld => ?_)
          · exact Cell.out _ hg4
          clear hK K
          try simp only [Act.put, List.setIfInBounds_toArray, List.set_cons_zero, List.set_cons_succ]
          refine wpAnyT_take (i := 11) (oi := { dst := some 47, op := Op.fieldAddr 26 (Operand.tmp 7) 1, type := 0, pos := "l08_game.go:104", after := #[{ on := 0, ground := Ground.phase }, { on := 1, ground := Ground.phase }, { on := 2, ground := Ground.phase }, { on := 3, ground := Ground.phase }, { on := 4, ground := Ground.phase }, { on := 5, ground := Ground.phase }, { on := 6, ground := Ground.phase }, { on := 7, ground := Ground.phase }, { on := 8, ground := Ground.phase }, { on := 9, ground := Ground.phase }, { on := 10, ground := Ground.phase }], guard := none }) (v := ?_) rfl (by kernel_rfl) (fun _ _ _ h => h) (Or.inl ⟨by rfl, ?_⟩) (by assumption) ?_
          rotate_left 1
          · intro w hSw; (try dsimp only at hSw); go_simp; try (with_reducible rfl)
          try simp only [Act.put, List.setIfInBounds_toArray, List.set_cons_zero, List.set_cons_succ]
          have hQ4 : CellsAt w' w2.heap.size #[.int .i64 mm.length, v] 26 := (hg4.block _ (lt_of_at hQ.out) (fun e => Hq.out e.symm)).trans hQ.out
          obtain ⟨y0, y1, e0, e1⟩ := two' hQ4
          refine wpAnyT_ready (rs := [12]) (by kernel_rfl) (by simp) ?_
          refine (AllReadyT.last (o := { dst := none, op := Op.store 24 (Operand.tmp 47) (Operand.tmp 46), type := 0, pos := "l08_game.go:104", after := #[{ on := 11, ground := Ground.data }, { on := 10, ground := Ground.data }, { on := 10, ground := Ground.chain }, { on := 0, ground := Ground.phase }, { on := 1, ground := Ground.phase }, { on := 2, ground := Ground.phase }, { on := 3, ground := Ground.phase }, { on := 4, ground := Ground.phase }, { on := 5, ground := Ground.phase }, { on := 6, ground := Ground.phase }, { on := 7, ground := Ground.phase }, { on := 8, ground := Ground.phase }, { on := 9, ground := Ground.phase }, { on := 10, ground := Ground.phase }], guard := none }) (rs := []) rfl (by rfl) (fun K hK => ?_) AllReadyT.nil)
          go_simp
          refine hK.out _ _ ?_
          clear hK K
          refine wpAnyT_done (by kernel_rfl) ?_ _
          have hb4 := below_gr (B := w2.heap.size) hB.out hg4 (by omega) (fun g hg => by have := (World.ownsRow.lt hO.out g hg).1; omega)
          have HQ5 := Lib.hid (hQ4.s1 (.slice av (k + 1) cv))
          have HO5 : Hid (OwnInts (w2.heap.size + 1) (w'.setCell ⟨w2.heap.size, 1, none⟩ (.slice av (k + 1) cv)) (.slice av (k + 1) cv) (Gm.mk (mm.length : Nat) f (k + 1)).v) := owns_set (i := 1) (u := .slice av (k + 1) cv) hown (own_apart hown hQ4.ty (by decide))
          have HB5 := Lib.hid (hb4.setCell (p := ⟨w2.heap.size, 1, none⟩) (Nat.le_refl _) (.slice av (k + 1) cv))
          have hsz5 : w2.heap.size + 1 ≤ w'.heap.size := by have := hg4.size; omega
          clear y0 y1 e0 e1 hQ4 hown hgrow hg4 hg3 hs3 hO3 hn3 Cell hg0 hsn hb4
          go_wp2_with fail
          go_roundw
          case rel => exact ⟨k + 1, _, by omega, by go_num, HQ5, HO5, HB5, by simpa [World.setCell] using hsz5⟩
          case measure => simp [intOf]; omega
        · have hke : k = N := by omega
          subst hke
          have HXL := Lib.hid (Gm.mk_len (mm.length : Nat) f k)
          obtain ⟨av, cv, rfl⟩ := ints_shape hO.out
          obtain ⟨X, hX⟩ : ∃ X, Gm.mk (mm.length : Nat) f k = X := ⟨_, rfl⟩
          have HXn := Lib.hid (show X.n = (mm.length : Int) by rw [← hX]; rfl)
          rw [hX] at hO Hr hQ
          obtain ⟨L, hXl⟩ : ∃ L, X.v.length = L := ⟨_, rfl⟩
          rw [hXl] at hO hQ
          have HXl := Lib.hid hXl
          have HC6 := Lib.hid (HC3.out.below hKW)
          have HB6 := Lib.hid (HB.out.trans (hKW.mono (by omega)))
          obtain ⟨o2, o3⟩ := two hQ.out
          obtain ⟨d0, d1, e0, e1⟩ := two' HC6.out
          have HR := Lib.hid ((HC6.out.s0 (.int .i64 mm.length)).s1 (.slice av L cv))
          have hne2 : (Value.slice av L cv).ownBlock ≠ some (w.heap.size + 1) := own_apart hO.out HC6.out.ty (by decide)
          have HY := Lib.hid (owns_set (i := 1) (u := .slice av L cv) (owns_set (i := 0) (u := .int .i64 mm.length) hO.out hne2) hne2)
          have HB7 := Lib.hid ((HB6.out.setCell (p := ⟨w.heap.size + 1, 0, none⟩) (by simp only; omega) (.int .i64 mm.length)).setCell (p := ⟨w.heap.size + 1, 1, none⟩) (by simp only; omega) (.slice av L cv))
          clear hX hXl hne2 hKW
          go_wp2_with fail
          refine bodyPost_ret (v := .tuple #[.agg #[.int .i64 mm.length, .slice av L cv], .bool true]) (by
            obtain ⟨z0, z1⟩ := two HR.out
            revert z0 z1
            generalize ((wr.setCell ⟨w.heap.size + 1, 0, none⟩ (.int .i64 mm.length)).setCell ⟨w.heap.size + 1, 1, none⟩ (.slice av L cv)) = W4
            intro z0 z1
            simp [results, Try.results22, go_sem, z0, z1]) rfl (by rw [← Hr.out]; exact ⟨⟨_, _, rfl, ResGm.of_own' HXn.out (OwnInts.raise2 (B' := w.heap.size) HY.out (by omega))⟩, HB7.out⟩)
    · have Hr := Lib.hid (show (Gm.G0, false) = R by rw [← HR0.out]; exact (Gm.res_no (by unfold Gm.resOk; simp only [hs, decide_false, Bool.and_false])).symm)
      have Hd := Lib.hid (show decide (1 ≤ s ∧ s ≤ (gv.length : Int) - 1) = false by rw [decide_eq_false_iff_not]; omega)
      clear hv HR0 hi hs
      go_enter Try.func22, Try.ntmps22
      go_wp2_with fail
      rw [← HW.out]
      refine (spec_IsValidGame true HV.out HA.out HF.out).mono ?_
      rintro e w1 ⟨rfl, k⟩
      have HB1 := Lib.hid (HB.out.trans (k.mono (by omega)))
      have HC4 := Lib.hid (HC3.out.below k)
      obtain ⟨m0, m1⟩ := two (HC1.out.below k)
      clear k HW
      go_wp2_with fail
      refine (spec_l1In s 1 ((gv.length : Int) - 1) false Hd.out _).mono ?_
      rintro e w9 ⟨rfl, rfl⟩
      have HR := Lib.hid ((HC4.out.s0 (.int .i64 0)).s1 (.slice none 0 0))
      have HBz := Lib.hid ((HB1.out.setCell (p := ⟨w.heap.size + 1, 0, none⟩) (by simp only; omega) (.int .i64 0)).setCell (p := ⟨w.heap.size + 1, 1, none⟩) (by simp only; omega) (.slice none 0 0))
      obtain ⟨d0, d1, e0, e1⟩ := two' HC4.out
      go_wp2_with fail
      refine bodyPost_ret (v := .tuple #[.agg #[.int .i64 0, .slice none 0 0], .bool false]) (by
        obtain ⟨z0, z1⟩ := two HR.out
        revert z0 z1
        generalize ((w1.setCell ⟨w.heap.size + 1, 0, none⟩ (.int .i64 0)).setCell ⟨w.heap.size + 1, 1, none⟩ (.slice none 0 0)) = W4
        intro z0 z1
        simp [results, Try.results22, go_sem, z0, z1]) rfl (by rw [← Hr.out]; exact ⟨⟨_, _, rfl, ResGm.zero _ _⟩, HBz.out⟩)
end Go.Proofs.Ytccgebnbpfliiaa
