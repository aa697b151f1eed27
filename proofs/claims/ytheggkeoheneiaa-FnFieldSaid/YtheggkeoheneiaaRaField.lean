/- The walk of FnField: whatever the code, the law returns true. -/
import Derived.Test.YtheggkeoheneiaaRaDraw2
import Derived.Test.YtheggkeoheneiaaPairs
import Derived.Test.YtheggkeoheneiaaRaM2
import Derived.Test.YtheggkeoheneiaaBig
import Derived.Test.YtheggkeoheneiaaRaL0
namespace Go.Proofs.Ytheggkeoheneiaa
open Go.RowKit

abbrev R (n d : Int) : Obj := .cells #[.int .i64 n, .int .i64 d] 25
def OpIs (f : FuncId) (an ad bn bd N D : Int) (k : Bool) : Prop :=
  ∀ w : World, Calls Try.prog f #[.agg #[.int .i64 an, .int .i64 ad], .agg #[.int .i64 bn, .int .i64 bd]] w fun e w' => e = .returned (.tuple #[.agg #[.int .i64 N, .int .i64 D], .bool k]) ∧ Below w.heap.size w w'
/-- What the operations on two fractions give, and how they hang together. -/
theorem field_facts (an ad bn bd : Int) : ∃ (sN sD dN dD pN pD qN qD n eN eD : Int) (sK dK pK qK eK : Bool),
    OpIs 15 an ad bn bd sN sD sK ∧ OpIs 16 an ad bn bd sN sD sK ∧ OpIs 17 sN sD bn bd dN dD dK ∧ OpIs 18 an ad bn bd pN pD pK ∧ OpIs 19 pN pD bn bd qN qD qK ∧ OpIs 17 an ad bn bd eN eD eK ∧
    (∀ w : World, Calls Try.prog 20 #[.agg #[.int .i64 an, .int .i64 ad], .agg #[.int .i64 bn, .int .i64 bd]] w fun e w' => e = .returned (.int .i64 n) ∧ Below w.heap.size w w') ∧
    (∀ w : World, Calls Try.prog 21 #[.agg #[.int .i64 an, .int .i64 ad], .agg #[.int .i64 bn, .int .i64 bd]] w fun e w' => e = .returned (.int .i64 n) ∧ Below w.heap.size w w') ∧
    (sK = true → dK = true → (dN == an && dD == ad) = true) ∧ (pK = true → qK = true → (qN == an && qD == ad) = true) ∧ (eK = true → decide (0 < eN) = decide (0 < n)) := by
  refine ⟨_, _, _, _, _, _, _, _, _, _, _, _, _, _, _, _, impl_AddRat an ad bn bd, spec_AddRat an ad bn bd, impl_SubRat _ _ bn bd, impl_MulRat an ad bn bd, impl_DivRat _ _ bn bd, impl_SubRat an ad bn bd, impl_CompareRat an ad bn bd, spec_CompareRat an ad bn bd, ?_, ?_, ?_⟩
  · exact Ra.field_add an ad bn bd
  · exact Ra.field_mul an ad bn bd
  · exact Ra.field_cmp an ad bn bd

theorem three_pairs {t : TypeId} {B wx : World} {p q r : Nat} {a b c d e f : Int} (HP : Hid (PairsAt t B [(p, a, b), (q, c, d), (r, e, f)])) (h : Since B wx) :
    wx.cell? ⟨p, 0, none⟩ = some (.int .i64 a) ∧ wx.cell? ⟨p, 1, none⟩ = some (.int .i64 b) ∧ wx.cell? ⟨q, 0, none⟩ = some (.int .i64 c) ∧ wx.cell? ⟨q, 1, none⟩ = some (.int .i64 d) ∧
    wx.cell? ⟨r, 0, none⟩ = some (.int .i64 e) ∧ wx.cell? ⟨r, 1, none⟩ = some (.int .i64 f) ∧ Since B wx := by
  have H := HP.out.below h.low
  obtain ⟨a0, a1, _⟩ := H.get (p := p) (n := a) (d := b) (by simp)
  obtain ⟨b0, b1, _⟩ := H.get (p := q) (n := c) (d := d) (by simp)
  obtain ⟨c0, c1, _⟩ := H.get (p := r) (n := e) (d := f) (by simp)
  exact ⟨a0, a1, b0, b1, c0, c1, h⟩
namespace fnField
set_option maxRecDepth 100000 in
set_option maxHeartbeats 4000000 in
theorem walk0 (a : Option Addr) (len cap : Nat) (w : World) (hcode : CodeAt w.heap.size w a len) :
    Calls Try.prog 3 #[.slice a len cap] w fun e w' => e = .returned (.bool true) ∧ Below w.heap.size w w' := by
  have Hc := Lib.hid hcode
  have he := eq_rat
  have hn := ne_rat
  have hg := eqg_rat
  clear hcode
  by_cases hbig : 1048576 < len
  · go_enter Try.func3, Try.ntmps3
    go_wp2_with fail
    refine (big_yes a len cap hbig w).mono ?_
    rintro e w1 ⟨rfl, rfl⟩
    go_wp2_with fail
    go_ret
    exact ⟨rfl, Below.refl _ _⟩
  · go_enter Try.func3, Try.ntmps3
    go_wp2_with fail
    refine (big_no a len cap (by omega) w).mono ?_
    rintro e w1 ⟨rfl, rfl⟩
    go_wp2_with fail
    refine (spec_DrawAddRat a len cap w Hc.out).mono ?_
    rintro e w1 ⟨an, ad, bn, bd, rfl, hb1⟩
    obtain ⟨sN, sD, dN, dD, pN, pD, qN, qD, n, eN, eD, sK, dK, pK, qK, eK, cAdd, cAdd2, cSub, cMul, cDiv, cSub2, cCmp, cCmp2, f1, f2, f3⟩ := field_facts an ad bn bd
    have CAdd := Lib.hid cAdd
    have CAdd2 := Lib.hid cAdd2
    have CSub := Lib.hid cSub
    have CMul := Lib.hid cMul
    have CDiv := Lib.hid cDiv
    have CSub2 := Lib.hid cSub2
    have CCmp := Lib.hid cCmp
    have CCmp2 := Lib.hid cCmp2
    have F1 := Lib.hid f1
    have F2 := Lib.hid f2
    have F3 := Lib.hid f3
    clear cAdd cAdd2 cSub cMul cDiv cSub2 cCmp cCmp2 f1 f2 f3
    -- a and b are laid
    have Hb1 := Lib.hid ((hb1.alloc hb1.size (R an ad)).alloc (by rw [size1]; have := hb1.size; omega) (R bn bd))
    have HP1 := Lib.hid (((PairsAt.nil 25 w1).add an ad).add bn bd)
    rw [size1] at HP1
    clear hb1
    go_wp2_with fail
    refine (CAdd.out _).mono ?_
    rintro e w2 ⟨rfl, hb2⟩
    have Hb2 := Lib.hid ((Hb1.out.trans (hb2.mono Hb1.out.size)).alloc (Hb1.out.trans (hb2.mono Hb1.out.size)).size (R sN sD))
    have HP2 := Lib.hid ((HP1.out.below hb2).add sN sD)
    have Hl2 := Lib.hid (show w1.heap.size + 2 ≤ w2.heap.size by have := hb2.size; rw [size2] at this; exact this)
    clear hb2 Hb1 HP1
    obtain ⟨a0, a1, az⟩ := HP2.out.get (p := w1.heap.size) (n := an) (d := ad) (by simp)
    obtain ⟨b0, b1, bz⟩ := HP2.out.get (p := w1.heap.size + 1) (n := bn) (d := bd) (by simp)
    go_wp2_with fail
    refine (CAdd2.out _).mono ?_
    rintro e w3 ⟨rfl, hb3⟩
    have Hb3 := Lib.hid ((Hb2.out.trans (hb3.mono Hb2.out.size)).alloc (Hb2.out.trans (hb3.mono Hb2.out.size)).size (R sN sD))
    have HP3 := Lib.hid ((HP2.out.below hb3).more (R sN sD))
    clear hb3 Hb2 HP2 a0 a1 az b0 b1 bz
    obtain ⟨a0, a1, az⟩ := HP3.out.get (p := w1.heap.size) (n := an) (d := ad) (by simp)
    obtain ⟨b0, b1, bz⟩ := HP3.out.get (p := w1.heap.size + 1) (n := bn) (d := bd) (by simp)
    obtain ⟨s0, s1, sz⟩ := HP3.out.get (p := w2.heap.size) (n := sN) (d := sD) (by simp)
    go_wp2_with fail
    refine (CSub.out _).mono ?_
    rintro e w4 ⟨rfl, hb4⟩
    have Hb4 := Lib.hid ((Hb3.out.trans (hb4.mono Hb3.out.size)).alloc (Hb3.out.trans (hb4.mono Hb3.out.size)).size (R dN dD))
    have HP4 := Lib.hid ((HP3.out.below hb4).add dN dD)
    clear hb4 Hb3 HP3 a0 a1 az b0 b1 bz s0 s1 sz
    obtain ⟨a0, a1, az⟩ := HP4.out.get (p := w1.heap.size) (n := an) (d := ad) (by simp)
    obtain ⟨b0, b1, bz⟩ := HP4.out.get (p := w1.heap.size + 1) (n := bn) (d := bd) (by simp)
    go_upto_region 9 with fail
    go_cut [65] (fun q wx => q = .bool false ∧ w4.alloc (R dN dD) = wx)
    case first =>
      cases sK with
      | false =>
        go_wp2_with fail
        go_meet
        exact ⟨rfl, rfl⟩
      | true =>
        cases dK with
        | false =>
          go_wp2_with fail
          go_meet
          exact ⟨rfl, rfl⟩
        | true =>
          have hq := F1.out rfl rfl
          go_wp2_with fail
          go_meet
          exact ⟨rfl, rfl⟩
    case rest =>
      obtain ⟨rfl, rfl⟩ := hcut
      go_wp2_with fail
      refine (CMul.out _).mono ?_
      rintro e w5 ⟨rfl, hb5⟩
      have Hb5 := Lib.hid ((Hb4.out.trans (hb5.mono Hb4.out.size)).alloc (Hb4.out.trans (hb5.mono Hb4.out.size)).size (R pN pD))
      have HP5 := Lib.hid ((HP4.out.below hb5).add pN pD)
      clear hb5 Hb4 HP4 a0 a1 az b0 b1 bz
      obtain ⟨a0, a1, az⟩ := HP5.out.get (p := w1.heap.size) (n := an) (d := ad) (by simp)
      obtain ⟨b0, b1, bz⟩ := HP5.out.get (p := w1.heap.size + 1) (n := bn) (d := bd) (by simp)
      go_wp2_with fail
      refine (CDiv.out _).mono ?_
      rintro e w6 ⟨rfl, hb6⟩
      have Hb6 := Lib.hid ((Hb5.out.trans (hb6.mono Hb5.out.size)).alloc (Hb5.out.trans (hb6.mono Hb5.out.size)).size (R qN qD))
      have HP6 := Lib.hid ((HP5.out.below hb6).add qN qD)
      clear hb6 Hb5 HP5 a0 a1 az b0 b1 bz
      obtain ⟨a0, a1, az⟩ := HP6.out.get (p := w1.heap.size) (n := an) (d := ad) (by simp)
      obtain ⟨b0, b1, bz⟩ := HP6.out.get (p := w1.heap.size + 1) (n := bn) (d := bd) (by simp)
      go_upto_region 13 with fail
      go_cut [86] (fun q wx => q = .bool false ∧ w6.alloc (R qN qD) = wx)
      case first =>
        cases pK with
        | false =>
          go_wp2_with fail
          go_meet
          exact ⟨rfl, rfl⟩
        | true =>
          cases qK with
          | false =>
            go_wp2_with fail
            go_meet
            exact ⟨rfl, rfl⟩
          | true =>
            have hq := F2.out rfl rfl
            go_wp2_with fail
            go_meet
            exact ⟨rfl, rfl⟩
      case rest =>
        obtain ⟨rfl, rfl⟩ := hcut
        go_wp2_with fail
        refine (CCmp.out _).mono ?_
        rintro e w7 ⟨rfl, hb7⟩
        have Hb7 := Lib.hid (Hb6.out.trans (hb7.mono Hb6.out.size))
        have HP7 := Lib.hid (HP6.out.below hb7)
        clear hb7 Hb6 HP6 a0 a1 az b0 b1 bz
        obtain ⟨a0, a1, az⟩ := HP7.out.get (p := w1.heap.size) (n := an) (d := ad) (by simp)
        obtain ⟨b0, b1, bz⟩ := HP7.out.get (p := w1.heap.size + 1) (n := bn) (d := bd) (by simp)
        go_wp2_with fail
        refine (CSub2.out _).mono ?_
        rintro e w8 ⟨rfl, hb8⟩
        have Hb8 := Lib.hid ((Hb7.out.trans (hb8.mono Hb7.out.size)).alloc (Hb7.out.trans (hb8.mono Hb7.out.size)).size (R eN eD))
        have HP8 := Lib.hid ((HP7.out.below hb8).add eN eD)
        clear hb8 Hb7 HP7 a0 a1 az b0 b1 bz
        obtain ⟨a0, a1, az⟩ := HP8.out.get (p := w1.heap.size) (n := an) (d := ad) (by simp)
        obtain ⟨b0, b1, bz⟩ := HP8.out.get (p := w1.heap.size + 1) (n := bn) (d := bd) (by simp)
        go_upto_region 17 with fail
        go_cut [111] (fun q wx => q = .bool false ∧ Hid (Below w.heap.size w wx ∧ PairsAt 25 wx [(w1.heap.size, an, ad)]))
        case first =>
          go_wp2_with fail
          refine (CCmp2.out _).mono ?_
          rintro e w9 ⟨rfl, hb9⟩
          have Hb9 := Lib.hid (And.intro (Hb8.out.trans (hb9.mono Hb8.out.size)) (show PairsAt 25 w9 [(w1.heap.size, an, ad)] from fun x hx => (HP8.out.below hb9) x (by rw [List.mem_singleton.1 hx]; simp)))
          have HP9 := Lib.hid (HP8.out.below hb9)
          clear hb9 a0 a1 az b0 b1 bz
          obtain ⟨e0, e1, ez⟩ := HP9.out.get (p := w8.heap.size) (n := eN) (d := eD) (by simp)
          cases eK with
          | false =>
            go_wp2_with fail
            go_meet
            exact ⟨rfl, Hb9⟩
          | true =>
            have hq := F3.out rfl
            go_wp2_with fail
            go_meet
            exact ⟨rfl, Hb9⟩
        case rest =>
          obtain ⟨rfl, hH⟩ := hcut
          obtain ⟨wd, rfl⟩ : ∃ wd : World, wd = wc := ⟨_, rfl⟩
          clear a0 a1 az b0 b1 bz Hb8 HP8
          go_wp2_with fail
          refine (spec_DrawRatOf a len cap wd ((Hc.out.below hH.out.1).mono hH.out.1.size)).mono ?_
          rintro e w10 ⟨x, y, rfl, hb10⟩
          have Hb10 := Lib.hid (hH.out.1.trans (hb10.mono hH.out.1.size))
          have HP10 := Lib.hid (hH.out.2.below hb10)
          have hcI := impl_RatOf x y
          have hcS := spec_RatOf x y
          have hv : Ra.fits x y = true → Ra.vld (Ra.rn x y) (Ra.rd x y) = true := Ra.fits_vld
          generalize Ra.rn x y = rN at *
          generalize Ra.rd x y = rD at *
          generalize Ra.fits x y = rK at *
          have HcI := Lib.hid hcI
          have HcS := Lib.hid hcS
          have Hv := Lib.hid hv
          clear hb10 hH hcI hcS hv
          go_wp2_with fail
          refine (HcI.out _).mono ?_
          rintro e w11 ⟨rfl, hb11⟩
          have Hb11 := Lib.hid ((Hb10.out.trans (hb11.mono Hb10.out.size)).alloc (Hb10.out.trans (hb11.mono Hb10.out.size)).size (R rN rD))
          have HP11 := Lib.hid ((HP10.out.below hb11).add rN rD)
          clear hb11 Hb10 HP10
          go_wp2_with fail
          refine (HcS.out _).mono ?_
          rintro e w12 ⟨rfl, hb12⟩
          have Hb12 := Lib.hid ((Hb11.out.trans (hb12.mono Hb11.out.size)).alloc (Hb11.out.trans (hb12.mono Hb11.out.size)).size (R rN rD))
          have HP12 := Lib.hid ((HP11.out.below hb12).add rN rD)
          clear hb12 Hb11 HP11
          have hin := Since.refl (w12.alloc (R rN rD))
          have hes : ∀ W : World, (binOp .eql 25 (.agg #[.int .i64 rN, .int .i64 rD]) (.agg #[.int .i64 rN, .int .i64 rD])).run Try.prog W = .ok (.bool true) W := fun W => by rw [eq_rat]; simp
          clear he hn
          go_wp2_with fail
          cases rK with
          | false =>
            clear Hv
            refine wp_region_held_drew (S := (fun w' => w'.cell? ⟨w12.heap.size, 0, none⟩ = some (.int .i64 rN) ∧ w'.cell? ⟨w12.heap.size, 1, none⟩ = some (.int .i64 rD) ∧ w'.cell? ⟨w11.heap.size, 0, none⟩ = some (.int .i64 rN) ∧ w'.cell? ⟨w11.heap.size, 1, none⟩ = some (.int .i64 rD) ∧ w'.cell? ⟨w1.heap.size, 0, none⟩ = some (.int .i64 an) ∧ w'.cell? ⟨w1.heap.size, 1, none⟩ = some (.int .i64 ad) ∧ Since (w12.alloc (R rN rD)) w')) (by kernel_rfl) ?_ (fun hHeld => ?_)
            · exact three_pairs HP12 (Since.drew hin)
            have hin1 := Since.drew hin
            refine wpAnyH_take (i := 0) (oi := { dst := some 129, op := Op.load 25 (Operand.tmp 20), type := 25, pos := "laws.go:157", after := #[], guard := none }) (v := ?_) rfl (by kernel_rfl) (by kernel_rfl) (by kernel_rfl) (fun _ _ _ h => h) (Or.inl ⟨by rfl, ?_⟩) (by assumption) ?_
            rotate_left 1
            · intro w hSw; (try dsimp only at hSw); go_simp; try (with_reducible rfl)
            try simp only [Act.put, List.setIfInBounds_toArray, List.set_cons_zero, List.set_cons_succ]
            refine wpAnyH_take (i := 1) (oi := { dst := some 130, op := Op.load 25 (Operand.tmp 22), type := 25, pos := "laws.go:157", after := #[], guard := none }) (v := ?_) rfl (by kernel_rfl) (by kernel_rfl) (by kernel_rfl) (fun _ _ _ h => h) (Or.inl ⟨by rfl, ?_⟩) (by assumption) ?_
            rotate_left 1
            · intro w hSw; (try dsimp only at hSw); go_simp; try (with_reducible rfl)
            try simp only [Act.put, List.setIfInBounds_toArray, List.set_cons_zero, List.set_cons_succ]
            refine wpAnyH_take (i := 2) (oi := { dst := some 131, op := Op.binOp BinOp.eql 25 (Operand.tmp 129) (Operand.tmp 130) 25, type := 4, pos := "laws.go:157", after := #[{ on := 0, ground := Ground.data }, { on := 1, ground := Ground.data }], guard := none }) (v := ?_) rfl (by kernel_rfl) (by kernel_rfl) (by kernel_rfl) (fun _ _ _ h => h) (Or.inl ⟨by rfl, ?_⟩) (by assumption) ?_
            rotate_left 1
            · intro w hSw; (try dsimp only at hSw); go_simp; try (with_reducible rfl)
            try simp only [Act.put, List.setIfInBounds_toArray, List.set_cons_zero, List.set_cons_succ]
            refine wpAnyH_take (i := 3) (oi := { dst := some 132, op := Op.move (Operand.tmp 131), type := 4, pos := "laws.go:157", after := #[{ on := 2, ground := Ground.data }], guard := none }) (v := ?_) rfl (by kernel_rfl) (by kernel_rfl) (by kernel_rfl) (fun _ _ _ h => h) (Or.inl ⟨by rfl, ?_⟩) (by assumption) ?_
            rotate_left 1
            · intro w hSw; (try dsimp only at hSw); go_simp; try (with_reducible rfl)
            try simp only [Act.put, List.setIfInBounds_toArray, List.set_cons_zero, List.set_cons_succ]
            refine wpAnyH_take (i := 4) (oi := { dst := some 133, op := Op.move (Operand.tmp 21), type := 4, pos := "laws.go:157", after := #[{ on := 3, ground := Ground.guard }], guard := some (3, true) }) (v := ?_) rfl (by kernel_rfl) (by kernel_rfl) (by kernel_rfl) (fun _ _ _ h => h) (Or.inl ⟨by rfl, ?_⟩) (by assumption) ?_
            rotate_left 1
            · intro w hSw; (try dsimp only at hSw); go_simp; try (with_reducible rfl)
            try simp only [Act.put, List.setIfInBounds_toArray, List.set_cons_zero, List.set_cons_succ]
            refine wpAnyH_take (i := 5) (oi := { dst := some 134, op := Op.move (Operand.tmp 23), type := 4, pos := "laws.go:157", after := #[{ on := 3, ground := Ground.guard }], guard := some (3, true) }) (v := ?_) rfl (by kernel_rfl) (by kernel_rfl) (by kernel_rfl) (fun _ _ _ h => h) (Or.inl ⟨by rfl, ?_⟩) (by assumption) ?_
            rotate_left 1
            · intro w hSw; (try dsimp only at hSw); go_simp; try (with_reducible rfl)
            try simp only [Act.put, List.setIfInBounds_toArray, List.set_cons_zero, List.set_cons_succ]
            refine wpAnyH_take (i := 6) (oi := { dst := some 135, op := Op.binOp BinOp.eql 4 (Operand.tmp 133) (Operand.tmp 134) 4, type := 4, pos := "laws.go:157", after := #[{ on := 4, ground := Ground.data }, { on := 5, ground := Ground.data }, { on := 3, ground := Ground.guard }], guard := some (3, true) }) (v := ?_) rfl (by kernel_rfl) (by kernel_rfl) (by kernel_rfl) (fun _ _ _ h => h) (Or.inl ⟨by rfl, ?_⟩) (by assumption) ?_
            rotate_left 1
            · intro w hSw; (try dsimp only at hSw); go_simp; try (with_reducible rfl)
            try simp only [Act.put, List.setIfInBounds_toArray, List.set_cons_zero, List.set_cons_succ]
            refine wpAnyH_take (i := 7) (oi := { dst := some 136, op := Op.pick (Operand.tmp 132) (Operand.tmp 135) (Operand.const (Value.bool false)), type := 4, pos := "laws.go:157", after := #[{ on := 3, ground := Ground.data }, { on := 6, ground := Ground.data }], guard := none }) (v := ?_) rfl (by kernel_rfl) (by kernel_rfl) (by kernel_rfl) (fun _ _ _ h => h) (Or.inl ⟨by rfl, ?_⟩) (by assumption) ?_
            rotate_left 1
            · intro w hSw; (try dsimp only at hSw); go_simp; try (with_reducible rfl)
            try simp only [Act.put, List.setIfInBounds_toArray, List.set_cons_zero, List.set_cons_succ]
            refine wpAnyH_take (i := 8) (oi := { dst := some 137, op := Op.move (Operand.tmp 136), type := 4, pos := "laws.go:157", after := #[{ on := 7, ground := Ground.data }, { on := 3, ground := Ground.chain }], guard := none }) (v := ?_) rfl (by kernel_rfl) (by kernel_rfl) (by kernel_rfl) (fun _ _ _ h => h) (Or.inl ⟨by rfl, ?_⟩) (by assumption) ?_
            rotate_left 1
            · intro w hSw; (try dsimp only at hSw); go_simp; try (with_reducible rfl)
            try simp only [Act.put, List.setIfInBounds_toArray, List.set_cons_zero, List.set_cons_succ]
            refine wpAnyH_take (i := 9) (oi := { dst := some 138, op := Op.move (Operand.tmp 21), type := 4, pos := "laws.go:157", after := #[{ on := 8, ground := Ground.guard }], guard := some (8, true) }) (v := ?_) rfl (by kernel_rfl) (by kernel_rfl) (by kernel_rfl) (fun _ _ _ h => h) (Or.inl ⟨by rfl, ?_⟩) (by assumption) ?_
            rotate_left 1
            · intro w hSw; (try dsimp only at hSw); go_simp; try (with_reducible rfl)
            try simp only [Act.put, List.setIfInBounds_toArray, List.set_cons_zero, List.set_cons_succ]
            refine wpAnyH_take (i := 10) (oi := { dst := some 139, op := Op.unOp UnOp.not 4 (Operand.tmp 138), type := 4, pos := "laws.go:157", after := #[{ on := 9, ground := Ground.data }, { on := 8, ground := Ground.guard }], guard := some (8, true) }) (v := ?_) rfl (by kernel_rfl) (by kernel_rfl) (by kernel_rfl) (fun _ _ _ h => h) (Or.inl ⟨by rfl, ?_⟩) (by assumption) ?_
            rotate_left 1
            · intro w hSw; (try dsimp only at hSw); go_simp; try (with_reducible rfl)
            try simp only [Act.put, List.setIfInBounds_toArray, List.set_cons_zero, List.set_cons_succ]
            refine wpAnyH_take (i := 11) (oi := { dst := some 140, op := Op.move (Operand.tmp 139), type := 4, pos := "laws.go:157", after := #[{ on := 10, ground := Ground.data }, { on := 8, ground := Ground.chain }, { on := 8, ground := Ground.guard }], guard := some (8, true) }) (v := ?_) rfl (by kernel_rfl) (by kernel_rfl) (by kernel_rfl) (fun _ _ _ h => h) (Or.inl ⟨by rfl, ?_⟩) (by assumption) ?_
            rotate_left 1
            · intro w hSw; (try dsimp only at hSw); go_simp; try (with_reducible rfl)
            try simp only [Act.put, List.setIfInBounds_toArray, List.set_cons_zero, List.set_cons_succ]
            refine wpAnyH_take (i := 12) (oi := { dst := some 141, op := Op.load 25 (Operand.tmp 20), type := 25, pos := "laws.go:157", after := #[{ on := 11, ground := Ground.guard }], guard := some (11, false) }) (v := undef) rfl (by kernel_rfl) (by kernel_rfl) (by kernel_rfl) (fun _ _ _ h => h) (Or.inr ⟨by rfl, rfl⟩) (by assumption) ?_
            try simp only [Act.put, List.setIfInBounds_toArray, List.set_cons_zero, List.set_cons_succ]
            refine wpAnyH_take (i := 13) (oi := { dst := some 142, op := Op.call { callee := Callee.value (Operand.func 25), args := #[Operand.tmp 141], argTypes := #[25] }, type := 4, pos := "laws.go:157", after := #[{ on := 12, ground := Ground.data }, { on := 11, ground := Ground.chain }, { on := 11, ground := Ground.guard }], guard := some (11, false) }) (v := undef) rfl (by kernel_rfl) (by kernel_rfl) (by kernel_rfl) (fun _ _ _ h => h) (Or.inr ⟨by rfl, rfl⟩) (by assumption) ?_
            try simp only [Act.put, List.setIfInBounds_toArray, List.set_cons_zero, List.set_cons_succ]
            refine wpAnyH_take (i := 14) (oi := { dst := some 143, op := Op.pick (Operand.tmp 140) (Operand.const (Value.bool true)) (Operand.tmp 142), type := 4, pos := "laws.go:157", after := #[{ on := 11, ground := Ground.data }, { on := 13, ground := Ground.data }, { on := 8, ground := Ground.guard }], guard := some (8, true) }) (v := ?_) rfl (by kernel_rfl) (by kernel_rfl) (by kernel_rfl) (fun _ _ _ h => h) (Or.inl ⟨by rfl, ?_⟩) (by assumption) ?_
            rotate_left 1
            · intro w hSw; (try dsimp only at hSw); go_simp; try (with_reducible rfl)
            try simp only [Act.put, List.setIfInBounds_toArray, List.set_cons_zero, List.set_cons_succ]
            refine wpAnyH_take (i := 15) (oi := { dst := some 144, op := Op.pick (Operand.tmp 137) (Operand.tmp 143) (Operand.const (Value.bool false)), type := 4, pos := "laws.go:157", after := #[{ on := 8, ground := Ground.data }, { on := 14, ground := Ground.data }], guard := none }) (v := ?_) rfl (by kernel_rfl) (by kernel_rfl) (by kernel_rfl) (fun _ _ _ h => h) (Or.inl ⟨by rfl, ?_⟩) (by assumption) ?_
            rotate_left 1
            · intro w hSw; (try dsimp only at hSw); go_simp; try (with_reducible rfl)
            try simp only [Act.put, List.setIfInBounds_toArray, List.set_cons_zero, List.set_cons_succ]
            refine wpAnyH_take (i := 16) (oi := { dst := some 145, op := Op.move (Operand.tmp 144), type := 4, pos := "laws.go:157", after := #[{ on := 15, ground := Ground.data }, { on := 13, ground := Ground.chain }], guard := none }) (v := ?_) rfl (by kernel_rfl) (by kernel_rfl) (by kernel_rfl) (fun _ _ _ h => h) (Or.inl ⟨by rfl, ?_⟩) (by assumption) ?_
            rotate_left 1
            · intro w hSw; (try dsimp only at hSw); go_simp; try (with_reducible rfl)
            try simp only [Act.put, List.setIfInBounds_toArray, List.set_cons_zero, List.set_cons_succ]
            refine wpAnyH_take (i := 17) (oi := { dst := some 146, op := Op.load 25 (Operand.tmp 3), type := 25, pos := "laws.go:157", after := #[{ on := 16, ground := Ground.guard }], guard := some (16, true) }) (v := ?_) rfl (by kernel_rfl) (by kernel_rfl) (by kernel_rfl) (fun _ _ _ h => h) (Or.inl ⟨by rfl, ?_⟩) (by assumption) ?_
            rotate_left 1
            · intro w hSw; (try dsimp only at hSw); go_simp; try (with_reducible rfl)
            try simp only [Act.put, List.setIfInBounds_toArray, List.set_cons_zero, List.set_cons_succ]
            refine wpAnyH_take (i := 19) (oi := { dst := some 148, op := Op.load 25 (Operand.tmp 3), type := 25, pos := "laws.go:157", after := #[{ on := 16, ground := Ground.guard }], guard := some (16, true) }) (v := ?_) rfl (by kernel_rfl) (by kernel_rfl) (by kernel_rfl) (fun _ _ _ h => h) (Or.inl ⟨by rfl, ?_⟩) (by assumption) ?_
            rotate_left 1
            · intro w hSw; (try dsimp only at hSw); go_simp; try (with_reducible rfl)
            try simp only [Act.put, List.setIfInBounds_toArray, List.set_cons_zero, List.set_cons_succ]
            refine wpAnyH_ready (rs := [18]) (by kernel_rfl) (by simp) ?_
            refine AllReadyH.cons (o := { dst := some 147, op := Op.call { callee := Callee.value (Operand.func 25), args := #[Operand.tmp 146], argTypes := #[25] }, type := 4, pos := "laws.go:157", after := #[{ on := 17, ground := Ground.data }, { on := 16, ground := Ground.chain }, { on := 16, ground := Ground.guard }], guard := some (16, true) }) (rs := []) rfl (fun K hK => ?_) AllReadyH.nil
            go_simp
            (go_at_call 25; refine (calls_since (impl_IsValidRat _ _ _ rfl _) (B := (w12.alloc (R rN rD))) (by first | assumption | exact Since.drew (by assumption))).mono ?_; rintro e w' ⟨⟨rfl, _⟩, hin2⟩)
            refine hK.out _ _ ?_ (fun hHeld => ?_)
            · (first | exact three_pairs HP12 (by assumption) | exact three_pairs HP12 (Since.drew (by assumption)))
            clear hK K
            try simp only [Act.put, List.setIfInBounds_toArray, List.set_cons_zero, List.set_cons_succ]
            refine wpAnyH_ready (rs := [20]) (by kernel_rfl) (by simp) ?_
            refine AllReadyH.cons (o := { dst := some 149, op := Op.call { callee := Callee.value (Operand.func 26), args := #[Operand.tmp 148], argTypes := #[25] }, type := 4, pos := "laws.go:157", after := #[{ on := 19, ground := Ground.data }, { on := 18, ground := Ground.chain }, { on := 16, ground := Ground.guard }], guard := some (16, true) }) (rs := []) rfl (fun K hK => ?_) AllReadyH.nil
            go_simp
            (go_at_call 26; refine (calls_since (spec_IsValidRat _ _ _ rfl _) (B := (w12.alloc (R rN rD))) (by first | assumption | exact Since.drew (by assumption))).mono ?_; rintro e w' ⟨⟨rfl, _⟩, hin2⟩)
            refine hK.out _ _ ?_ (fun hHeld => ?_)
            · (first | exact three_pairs HP12 (by assumption) | exact three_pairs HP12 (Since.drew (by assumption)))
            clear hK K
            try simp only [Act.put, List.setIfInBounds_toArray, List.set_cons_zero, List.set_cons_succ]
            refine wpAnyH_take (i := 21) (oi := { dst := some 150, op := Op.binOp BinOp.eql 4 (Operand.tmp 147) (Operand.tmp 149) 4, type := 4, pos := "laws.go:157", after := #[{ on := 18, ground := Ground.data }, { on := 20, ground := Ground.data }, { on := 16, ground := Ground.guard }], guard := some (16, true) }) (v := ?_) rfl (by kernel_rfl) (by kernel_rfl) (by kernel_rfl) (fun _ _ _ h => h) (Or.inl ⟨by rfl, ?_⟩) (by assumption) ?_
            rotate_left 1
            · intro w hSw; (try dsimp only at hSw); go_simp; try (with_reducible rfl)
            try simp only [Act.put, List.setIfInBounds_toArray, List.set_cons_zero, List.set_cons_succ]
            refine wpAnyH_take (i := 22) (oi := { dst := some 151, op := Op.pick (Operand.tmp 145) (Operand.tmp 150) (Operand.const (Value.bool false)), type := 4, pos := "laws.go:157", after := #[{ on := 16, ground := Ground.data }, { on := 21, ground := Ground.data }], guard := none }) (v := ?_) rfl (by kernel_rfl) (by kernel_rfl) (by kernel_rfl) (fun _ _ _ h => h) (Or.inl ⟨by rfl, ?_⟩) (by assumption) ?_
            rotate_left 1
            · intro w hSw; (try dsimp only at hSw); go_simp; try (with_reducible rfl)
            try simp only [Act.put, List.setIfInBounds_toArray, List.set_cons_zero, List.set_cons_succ]
            refine wpAnyH_take (i := 23) (oi := { dst := some 2, op := Op.assign (Operand.tmp 151), type := 4, pos := "laws.go:157", after := #[{ on := 22, ground := Ground.data }, { on := 20, ground := Ground.chain }, { on := 0, ground := Ground.phase }, { on := 1, ground := Ground.phase }, { on := 2, ground := Ground.phase }, { on := 3, ground := Ground.phase }, { on := 4, ground := Ground.phase }, { on := 5, ground := Ground.phase }, { on := 6, ground := Ground.phase }, { on := 7, ground := Ground.phase }, { on := 8, ground := Ground.phase }, { on := 9, ground := Ground.phase }, { on := 10, ground := Ground.phase }, { on := 11, ground := Ground.phase }, { on := 12, ground := Ground.phase }, { on := 13, ground := Ground.phase }, { on := 14, ground := Ground.phase }, { on := 15, ground := Ground.phase }, { on := 16, ground := Ground.phase }, { on := 17, ground := Ground.phase }, { on := 18, ground := Ground.phase }, { on := 19, ground := Ground.phase }, { on := 20, ground := Ground.phase }, { on := 21, ground := Ground.phase }, { on := 22, ground := Ground.phase }], guard := none }) (v := ?_) rfl (by kernel_rfl) (by kernel_rfl) (by kernel_rfl) (fun _ _ _ h => h) (Or.inl ⟨by rfl, ?_⟩) (by assumption) ?_
            rotate_left 1
            · intro w hSw; (try dsimp only at hSw); go_simp; try (with_reducible rfl)
            try simp only [Act.put, List.setIfInBounds_toArray, List.set_cons_zero, List.set_cons_succ]
            refine wpAnyH_done (by kernel_rfl) ?_ _
            all_goals
              go_wp2_with fail
              go_ret
              exact ⟨ret_bool (by simp), Hb12.out.trans (Below.mono (Since.low (by assumption)) Hb12.out.size)⟩
          | true =>
            have hv := Hv.out rfl
            go_region_held3 (fun w' => w'.cell? ⟨w12.heap.size, 0, none⟩ = some (.int .i64 rN) ∧ w'.cell? ⟨w12.heap.size, 1, none⟩ = some (.int .i64 rD) ∧ w'.cell? ⟨w11.heap.size, 0, none⟩ = some (.int .i64 rN) ∧ w'.cell? ⟨w11.heap.size, 1, none⟩ = some (.int .i64 rD) ∧ w'.cell? ⟨w1.heap.size, 0, none⟩ = some (.int .i64 an) ∧ w'.cell? ⟨w1.heap.size, 1, none⟩ = some (.int .i64 ad) ∧ Since (w12.alloc (R rN rD)) w') (first | exact three_pairs HP12 (by assumption) | exact three_pairs HP12 (Since.drew (by assumption)))
              (first | (go_at_call 25; refine (calls_since (impl_IsValidRat _ _ _ rfl _) (B := (w12.alloc (R rN rD))) (by first | assumption | exact Since.drew (by assumption))).mono ?_; rintro e w' ⟨⟨rfl, _⟩, hin2⟩) | (go_at_call 26; refine (calls_since (spec_IsValidRat _ _ _ rfl _) (B := (w12.alloc (R rN rD))) (by first | assumption | exact Since.drew (by assumption))).mono ?_; rintro e w' ⟨⟨rfl, _⟩, hin2⟩))
            all_goals
              go_wp2_with fail
              go_ret
              exact ⟨ret_bool (by simp), Hb12.out.trans (Below.mono (Since.low (by assumption)) Hb12.out.size)⟩
theorem walk (a : Option Addr) (len cap : Nat) (zs : List Int) (w : World) (hz : IntsAt .u8 w.heap.size w a len zs) :
    Calls Try.prog 3 #[.slice a len cap] w fun e w' => e = .returned (.bool true) ∧ Below w.heap.size w w' :=
  walk0 a len cap w (code_of hz)
end fnField
end Go.Proofs.Ytheggkeoheneiaa
