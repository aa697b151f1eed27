/- FormatGame on both sides: the text of a game; condition on impl's: the table of powers of ten that strconv reads is laid. -/
import Derived.Test.YtambneapofaclaaGreatDoorGtM
import Derived.Test.YtambneapofaclaaGreatDoorGmI
import Derived.Test.YtambneapofaclaaGreatDoorCoFmt
import Derived.Test.YtambneapofaclaaGreatDoorSpFmt
import Derived.Test.YtambneapofaclaaGreatDoorPowA
namespace Go.Proofs.YtambneapofaclaaGreatDoor
open Go.RowKit
open Gm (G)
theorem Two.keep {wr w' : World} {p q : Addr} {u v : Value} (H : Hid ((wr.cell? p = some u ∧ p.block < wr.heap.size) ∧ (wr.cell? q = some v ∧ q.block < wr.heap.size))) (h : Since wr w') :
    w'.cell? p = some u ∧ w'.cell? q = some v ∧ Since wr w' := ⟨h.cell H.out.1.2 H.out.1.1, h.cell H.out.2.2 H.out.2.1, h⟩
def big12 (n : Int) : Prop := -999999999999 ≤ n ∧ n ≤ 999999999999
theorem spec_num (n : Int) (h : big12 n) (w : World) : Calls Tryz.prog 24 #[.int .i64 n] w fun e w' => e = .returned (.string (Gt.num n)) ∧ Below w.heap.size w w' :=
  spec_FormatInt n (by unfold big12 at h; omega) (by unfold big12 at h; omega) w
theorem impl_num (n : Int) (h : big12 n) (w : World) (hp : PowAt w) : Calls Tryz.prog 41 #[.int .i64 n] w fun e w' => e = .returned (.string (Gt.num n)) ∧ Below w.heap.size w w' :=
  impl_FormatInt0 n (by unfold big12 at h; omega) (by unfold big12 at h; omega) w hp
set_option maxHeartbeats 1000000 in
theorem impl_textLine (a : ByteArray) (n : Int) (ha : a.size ≤ 100) (hn : big12 n) (w : World) (hp : PowAt w) :
    Calls Tryz.prog 20 #[.string a, .int .i64 n] w fun e w' => e = .returned (.string (Gt.lineOf a n)) ∧ Below w.heap.size w w' := by
  have HF := Lib.hid (impl_num n hn w hp)
  have h1 := Gt.num_size n hn
  have HL := Lib.hid (show Gt.lineOf a n = ((a ++ ⟨#[32]⟩) ++ Gt.num n) ++ ⟨#[10]⟩ from rfl)
  generalize Gt.lineOf a n = t at *
  generalize Gt.num n = x at *
  have z1 : (⟨#[32]⟩ : ByteArray).size = 1 := rfl
  have z2 : (⟨#[10]⟩ : ByteArray).size = 1 := rfl
  have k1 := run_string_add_sum (P := Tryz.prog) w a ⟨#[32]⟩ (by omega)
  have k2 := fun w => run_string_add_sum (P := Tryz.prog) w (a ++ ⟨#[32]⟩) x (by rw [ByteArray.size_append]; omega)
  have k3 := fun w => run_string_add_sum (P := Tryz.prog) w ((a ++ ⟨#[32]⟩) ++ x) ⟨#[10]⟩ (by rw [ByteArray.size_append, ByteArray.size_append]; omega)
  clear hp h1 hn ha z1 z2
  go_enter Tryz.func20, Tryz.ntmps20
  go_wp2_with fail
  refine HF.out.mono ?_
  rintro e w1 ⟨rfl, hb⟩
  have Hb := Lib.hid hb
  clear hb
  go_wp2_with fail
  go_ret
  exact ⟨ret_str HL.out.symm, Hb.out⟩
set_option maxRecDepth 100000 in
set_option maxHeartbeats 4000000 in
theorem spec_FormatGame {w : World} {x y : Value} {g : G} (h : GmC w x y g) (hf : GmOk g) :
    Calls Tryz.prog 9 #[.agg #[x, y]] w fun e w' => e = .returned (.string (Gt.text g)) ∧ Below w.heap.size w w' := by
  rcases hv : Gm.vld g with _ | _
  · have Hg := Lib.hid (Gt.text_no hv)
    have HV := Lib.hid hv
    have HX := Lib.hid (gm_box h 26).1
    have HB := Lib.hid (gm_box h 26).2
    rw [Hg.out]
    clear hv h
    go_enter Tryz.func9, Tryz.ntmps9
    go_wp2_with fail
    refine (spec_IsValidGame false HV.out HX.out hf).mono ?_
    rintro e w1 ⟨rfl, k⟩
    have HB1 := Lib.hid (HB.out.trans (k.mono HB.out.size))
    clear k
    go_wp2_with fail
    go_ret
    exact ⟨rfl, HB1.out⟩
  · have Hg := Lib.hid (Gt.text_yes hv)
    have HV := Lib.hid hv
    have HN := Lib.hid (spec_num g.n (by have := Gm.vld_n hv; unfold big12; omega))
    have hl := Gm.vld_len hv
    have hnx := Gt.num_size g.n (by have := Gm.vld_n hv; omega)
    have HO := Lib.hid (show (⟨#[112, 108, 97, 121, 101, 114, 115, 32]⟩ ++ Gt.num g.n) ++ ⟨#[10]⟩ = Gt.body g 1 from (Gt.body_one hv).symm)
    have HX := Lib.hid (gm_box h 26).1
    have HB := Lib.hid (gm_box h 26).2
    obtain ⟨a, c, rfl, rfl, hi⟩ := h
    have HC := Lib.hid (CellsAt.new w #[.int .i64 g.n, .slice a g.v.length c] 26)
    have HI := Lib.hid hi
    have HBZ := Lib.hid (fun k hk => Gt.body_size hv k hk)
    have HAT := Lib.hid (fun k (hk : k < g.v.length) => Gm.vld_at hv hk)
    rw [Hg.out]
    clear hv hi
    go_enter Tryz.func9, Tryz.ntmps9
    go_wp2_with fail
    refine (spec_IsValidGame true HV.out HX.out hf).mono ?_
    rintro e w1 ⟨rfl, k⟩
    have HB1 := Lib.hid (HB.out.trans (k.mono HB.out.size))
    have HC1 := Lib.hid (HC.out.below k)
    clear k HB HC HX
    obtain ⟨m0, m1⟩ := two HC1.out
    have z1 : (⟨#[112, 108, 97, 121, 101, 114, 115, 32]⟩ : ByteArray).size = 8 := rfl
    have z2 : (⟨#[10]⟩ : ByteArray).size = 1 := rfl
    have k1 := fun w => run_string_add_sum (P := Tryz.prog) w ⟨#[112, 108, 97, 121, 101, 114, 115, 32]⟩ (Gt.num g.n) (by omega)
    have k2 := fun w => run_string_add_sum (P := Tryz.prog) w (⟨#[112, 108, 97, 121, 101, 114, 115, 32]⟩ ++ Gt.num g.n) ⟨#[10]⟩ (by rw [ByteArray.size_append]; omega)
    generalize Gt.num g.n = nx at *
    clear z1 z2 hnx
    go_wp2_with fail
    refine (HN.out w1).mono ?_
    rintro e w2 ⟨rfl, k⟩
    have HB2 := Lib.hid (HB1.out.trans (k.mono HB1.out.size))
    have HC2 := Lib.hid (HC1.out.below k)
    clear k m0 m1 HB1 HC1
    go_wp2_with fail
    clear k1 k2
    go_loopw [3, 4] (fun o i wr => ∃ k : Nat, 1 ≤ k ∧ k ≤ g.v.length ∧ i = .int .i64 k ∧ o = .string (Gt.body g k) ∧ Hid (CellsAt wr w.heap.size #[.int .i64 g.n, .slice a g.v.length c] 26) ∧ Hid (Below w.heap.size w wr)) (fun _ i _ => g.v.length - (intOf i).toNat)
    case atStart => exact ⟨1, Nat.le_refl _, by omega, rfl, by rw [HO.out], HC2, HB2⟩
    case round =>
      obtain ⟨k, hk1, hk, rfl, rfl, hC, hB⟩ := hrel
      obtain ⟨m0, m1⟩ := two hC.out
      by_cases hlt : k < g.v.length
      · obtain ⟨bb, o, rfl, hbb, hc⟩ := (HI.out.below hB.out) k hlt
        have hbb2 : bb < wr.heap.size := Nat.lt_of_lt_of_le hbb hB.out.size
        have hbw : w.heap.size < wr.heap.size := lt_of_at hC.out
        rcases hz : (g.v.getD k 0 != 0) with _ | _
        · have HE := Lib.hid (Gt.body_skip (g := g) (k := k) (by simpa using hz))
          generalize g.v.getD k 0 = x at *
          generalize Gt.body g k = b at *
          go_wp2_with fail
          go_roundw
          case rel => exact ⟨k + 1, by omega, by omega, by go_num, by rw [HE.out], hC, hB⟩
          case measure => simp [intOf]; omega
        · have HE := Lib.hid (Gt.body_more (g := g) (k := k) (by simpa using hz))
          have hbz := HBZ.out k hk
          have hat := HAT.out k hlt
          have hq := Gt.num_size (g.v.getD k 0) (by omega)
          have hty := Gt.text_size (k : Int)
          have HFn := Lib.hid (spec_num (g.v.getD k 0) (by unfold big12; omega))
          have HFc := Lib.hid (fun w => spec_FormatCoalition (k : Int) w)
          have HK := Lib.hid (show (wr.cell? ⟨w.heap.size, 1, none⟩ = some (.slice (some ⟨bb, o, none⟩) g.v.length c) ∧ (⟨w.heap.size, 1, none⟩ : Addr).block < wr.heap.size) ∧ (wr.cell? ⟨bb, o + k, none⟩ = some (.int .i64 (g.v.getD k 0)) ∧ (⟨bb, o + k, none⟩ : Addr).block < wr.heap.size) from ⟨⟨m1, hbw⟩, ⟨hc, hbb2⟩⟩)
          have HL := Lib.hid (show Gt.lineOf (Co.text k) (g.v.getD k 0) = ((Co.text k ++ ⟨#[32]⟩) ++ Gt.num (g.v.getD k 0)) ++ ⟨#[10]⟩ from rfl)
          unfold TextPost at HFc
          generalize Gt.lineOf (Co.text k) (g.v.getD k 0) = ln at *
          generalize Gt.num (g.v.getD k 0) = nv at *
          generalize Co.text (k : Int) = tx at *
          generalize g.v.getD k 0 = xv at *
          generalize Gt.body g k = b at *
          have z1 : (⟨#[32]⟩ : ByteArray).size = 1 := rfl
          have z2 : (⟨#[10]⟩ : ByteArray).size = 1 := rfl
          have k1 := fun w => run_string_add_sum (P := Tryz.prog) w b tx (by omega)
          have k2 := fun w => run_string_add_sum (P := Tryz.prog) w (b ++ tx) ⟨#[32]⟩ (by rw [ByteArray.size_append]; omega)
          have k3 := fun w => run_string_add_sum (P := Tryz.prog) w ((b ++ tx) ++ ⟨#[32]⟩) nv (by rw [ByteArray.size_append, ByteArray.size_append]; omega)
          have k4 := fun w => run_string_add_sum (P := Tryz.prog) w (((b ++ tx) ++ ⟨#[32]⟩) ++ nv) ⟨#[10]⟩ (by rw [ByteArray.size_append, ByteArray.size_append, ByteArray.size_append]; omega)
          have HS : Hid ((((b ++ tx) ++ ⟨#[32]⟩) ++ nv) ++ ⟨#[10]⟩ = Gt.body g (k + 1)) := by
            show _ = _
            rw [HE.out, HL.out]
            simp only [ByteArray.append_assoc]
          clear z1 z2 hbz hat hq hty
          go_wp2_with fail
          go_region_held3 (fun w' => w'.cell? ⟨w.heap.size, 1, none⟩ = some (.slice (some ⟨bb, o, none⟩) g.v.length c) ∧ w'.cell? ⟨bb, o + k, none⟩ = some (.int .i64 xv) ∧ Since wr w') (first | exact Two.keep HK (by assumption) | exact Two.keep HK (Since.drew (by assumption)) | exact Two.keep HK (Since.refl _).drew)
            (first | (go_at_call 25; refine (calls_since (HFc.out _) (B := wr) (by first | assumption | exact Since.drew (by assumption) | exact (Since.refl _).drew)).mono ?_; rintro e w' ⟨⟨rfl, _⟩, hin2⟩) | (go_at_call 24; refine (calls_since (HFn.out _) (B := wr) (by first | assumption | exact Since.drew (by assumption) | exact (Since.refl _).drew)).mono ?_; rintro e w' ⟨⟨rfl, _⟩, hin2⟩))
          all_goals
            have HS2 : Hid (Since wr _) := Lib.hid (by assumption)
            clear k1 k2 k3 k4
            go_wp2_with fail
            go_roundw
            case rel => exact ⟨k + 1, by omega, by omega, by go_num, by rw [HS.out], Lib.hid (hC.out.below HS2.out.low), Lib.hid (hB.out.trans (HS2.out.low.mono hB.out.size))⟩
            case measure => simp [intOf]; omega
      · have he : k = g.v.length := by omega
        have HE := Lib.hid (show Gt.body g k = Gt.body g g.v.length by rw [he])
        clear he
        generalize Gt.body g k = b at *
        go_wp2_with fail
        go_ret
        exact ⟨ret_str HE.out, hB.out⟩
set_option maxRecDepth 100000 in
set_option maxHeartbeats 4000000 in
theorem impl_FormatGame {w : World} {x y : Value} {g : G} (h : GmC w x y g) (hp : PowAt w) (hf : GmOk g) :
    Calls Tryz.prog 7 #[.agg #[x, y]] w fun e w' => e = .returned (.string (Gt.text g)) ∧ Below w.heap.size w w' := by
  rcases hv : Gm.vld g with _ | _
  · have Hg := Lib.hid (Gt.text_no hv)
    have HV := Lib.hid hv
    have HX := Lib.hid (gm_box h 26).1
    have HB := Lib.hid (gm_box h 26).2
    rw [Hg.out]
    clear hv h hp
    go_enter Tryz.func7, Tryz.ntmps7
    go_wp2_with fail
    refine (impl_IsValidGame false HV.out HX.out hf).mono ?_
    rintro e w1 ⟨rfl, k⟩
    have HB1 := Lib.hid (HB.out.trans (k.mono HB.out.size))
    clear k
    go_wp2_with fail
    go_ret
    exact ⟨rfl, HB1.out⟩
  · have Hg := Lib.hid (Gt.text_yes hv)
    have HV := Lib.hid hv
    have HP := Lib.hid hp
    have HN := Lib.hid (fun w hp => impl_textLine ⟨#[112, 108, 97, 121, 101, 114, 115]⟩ g.n (by decide) (by have := Gm.vld_n hv; unfold big12; omega) w hp)
    have hl := Gm.vld_len hv
    have HO := Lib.hid (show Gt.lineOf ⟨#[112, 108, 97, 121, 101, 114, 115]⟩ g.n = Gt.body g 0 from rfl)
    have HX := Lib.hid (gm_box h 26).1
    have HB := Lib.hid (gm_box h 26).2
    obtain ⟨a, c, rfl, rfl, hi⟩ := h
    have HC := Lib.hid (CellsAt.new w #[.int .i64 g.n, .slice a g.v.length c] 26)
    have HI := Lib.hid hi
    have HBZ := Lib.hid (fun k hk => Gt.body_size hv k hk)
    have HAT := Lib.hid (fun k (hk : k < g.v.length) => Gm.vld_at hv hk)
    rw [Hg.out]
    clear hv hi hp
    generalize Gt.lineOf ⟨#[112, 108, 97, 121, 101, 114, 115]⟩ g.n = b0 at *
    go_enter Tryz.func7, Tryz.ntmps7
    go_wp2_with fail
    refine (impl_IsValidGame true HV.out HX.out hf).mono ?_
    rintro e w1 ⟨rfl, k⟩
    have HB1 := Lib.hid (HB.out.trans (k.mono HB.out.size))
    have HC1 := Lib.hid (HC.out.below k)
    clear k HB HC HX
    obtain ⟨m0, m1⟩ := two HC1.out
    go_wp2_with fail
    refine (HN.out w1 (HP.out.below HB1.out)).mono ?_
    rintro e w2 ⟨rfl, k⟩
    have HB2 := Lib.hid (HB1.out.trans (k.mono HB1.out.size))
    have HC2 := Lib.hid (HC1.out.below k)
    clear k m0 m1 HB1 HC1
    obtain ⟨m0, m1⟩ := two HC2.out
    go_wp2_with fail
    clear m0 m1
    go_loopw [3, 4, 5, 15] (fun o _ _ i wr => ∃ k : Nat, k ≤ g.v.length ∧ i = .int .i64 k ∧ o = .string (Gt.body g k) ∧ Hid (Below w.heap.size w wr)) (fun _ _ _ i _ => g.v.length - (intOf i).toNat)
    case atStart => exact ⟨0, Nat.zero_le _, rfl, by rw [HO.out], HB2⟩
    case round =>
      obtain ⟨k, hk, rfl, rfl, hB⟩ := hrel
      by_cases hlt : k < g.v.length
      · obtain ⟨bb, o, rfl, hbb, hc⟩ := (HI.out.below hB.out) k hlt
        rcases hz : (g.v.getD k 0 != 0) with _ | _
        · have HE := Lib.hid (Gt.body_skip (g := g) (k := k) (by simpa using hz))
          generalize g.v.getD k 0 = x at *
          generalize Gt.body g k = b at *
          go_wp2_with fail
          go_roundw
          case rel => exact ⟨k + 1, by omega, by go_num, by rw [HE.out], hB⟩
          case measure => simp [intOf]; omega
        · have HE := Lib.hid (Gt.body_more (g := g) (k := k) (by simpa using hz))
          have hbz := HBZ.out k hk
          have hat := HAT.out k hlt
          have hq := Gt.num_size (g.v.getD k 0) (by omega)
          have hty := Gt.text_size (k : Int)
          have HFn := Lib.hid (fun w hp => impl_textLine (Co.text k) (g.v.getD k 0) (by omega) (by unfold big12; omega) w hp)
          have HFc := Lib.hid (fun w => impl_FormatCoalition (k : Int) w)
          have hls := Gt.line_size (Co.text k) (g.v.getD k 0)
          have hln : (Gt.lineOf (Co.text k) (g.v.getD k 0)).size ≤ 30 := by omega
          unfold TextPost at HFc
          clear hls
          generalize Gt.lineOf (Co.text k) (g.v.getD k 0) = ln at *
          generalize Co.text (k : Int) = tx at *
          generalize g.v.getD k 0 = xv at *
          generalize Gt.body g k = b at *
          have k1 := fun w => run_string_add_sum (P := Tryz.prog) w b ln (by omega)
          clear hbz hat hq hty hln
          go_wp2_with fail
          refine (HFc.out _).mono ?_
          rintro e w3 ⟨rfl, kb⟩
          have HB3 := Lib.hid (hB.out.trans (kb.mono hB.out.size))
          clear kb
          go_wp2_with fail
          refine (HFn.out _ (HP.out.below HB3.out)).mono ?_
          rintro e w4 ⟨rfl, kb⟩
          have HB4 := Lib.hid (HB3.out.trans (kb.mono HB3.out.size))
          clear kb
          go_wp2_with fail
          clear k1
          go_roundw
          case rel => exact ⟨k + 1, by omega, by go_num, by rw [HE.out], HB4⟩
          case measure => simp [intOf]; omega
      · have he : k = g.v.length := by omega
        have HE := Lib.hid (show Gt.body g k = Gt.body g g.v.length by rw [he])
        clear he
        generalize Gt.body g k = b at *
        go_wp2_with fail
        go_ret
        exact ⟨ret_str HE.out, hB.out⟩
end Go.Proofs.YtambneapofaclaaGreatDoor
