/- The walks of the exact laws of fractions: for every input the law returns true. -/
import Derived.Test.YtheggkeoheneiaaRaL0
namespace Go.Proofs.Ytheggkeoheneiaa
open Go.RowKit

set_option maxHeartbeats 4000000 in
theorem fnExactAddRat.walk (an ad bn bd : Int) (w : World) :
    Calls Try.prog 6 #[.agg #[.int .i64 an, .int .i64 ad], .agg #[.int .i64 bn, .int .i64 bd]] w fun e w' => e = .returned (.bool true) ∧ Below w.heap.size w w' := by
  obtain ⟨N, D, k, hS, hI⟩ : ∃ (N D : Int) (k : Bool), (∀ w, Calls Try.prog 16 #[.agg #[.int .i64 an, .int .i64 ad], .agg #[.int .i64 bn, .int .i64 bd]] w fun e w' => e = .returned (.tuple #[.agg #[.int .i64 N, .int .i64 D], .bool k]) ∧ Below w.heap.size w w') ∧ (∀ w, Calls Try.prog 15 #[.agg #[.int .i64 an, .int .i64 ad], .agg #[.int .i64 bn, .int .i64 bd]] w fun e w' => e = .returned (.tuple #[.agg #[.int .i64 N, .int .i64 D], .bool k]) ∧ Below w.heap.size w w') :=
    ⟨_, _, _, fun w => spec_AddRat an ad bn bd w, fun w => impl_AddRat an ad bn bd w⟩
  have HS := Lib.hid hS
  have HI := Lib.hid hI
  clear hS hI
  have hin := Since.refl ((w.alloc (.cells #[.int .i64 an, .int .i64 ad] 35)).alloc (.cells #[.int .i64 bn, .int .i64 bd] 35))
  have Hbx := Lib.hid (boxes_start w an ad bn bd 35 35)
  go_enter Try.func6, Try.ntmps6
  go_upto_region 1 with fail
  go_cut [5, 6] (fun p b wx => Got ((w.alloc (.cells #[.int .i64 an, .int .i64 ad] 35)).alloc (.cells #[.int .i64 bn, .int .i64 bd] 35)) N D k p b wx)
  case first =>
    go_region_held3 (fun w' => w'.cell? ⟨w.heap.size, 0, none⟩ = some (.int .i64 an) ∧ w'.cell? ⟨w.heap.size, 1, none⟩ = some (.int .i64 ad) ∧ w'.cell? ⟨w.heap.size + 1, 0, none⟩ = some (.int .i64 bn) ∧ w'.cell? ⟨w.heap.size + 1, 1, none⟩ = some (.int .i64 bd) ∧ Since ((w.alloc (.cells #[.int .i64 an, .int .i64 ad] 35)).alloc (.cells #[.int .i64 bn, .int .i64 bd] 35)) w') (first | exact Boxes.five Hbx (by assumption) | exact Boxes.five Hbx (Since.drew (by assumption)) | exact Boxes.five Hbx (Own2.since (by assumption)) | exact Boxes.five Hbx (Since.drew (Own2.since (by assumption))) | exact Boxes.five Hbx (Since.alloc (by assumption) _) | exact Boxes.five Hbx (Since.drew (Since.alloc (by assumption) _)) | exact Boxes.five Hbx (Own2.set2 (by assumption) _ _) | exact Boxes.five Hbx (Since.drew (Own2.set2 (by assumption) _ _)))
      (first | (go_at_call 27; refine (toRat_own ((w.alloc (.cells #[.int .i64 an, .int .i64 ad] 35)).alloc (.cells #[.int .i64 bn, .int .i64 bd] 35)) (.int .i64 0) (.int .i64 0) 25 _ _ _ _ (by first | assumption | exact Own2.drew (by assumption) | exact new2 w _ _ _ _ _ | exact Own2.drew (new2 w _ _ _ _ _) | exact Since.new (by assumption) _ _ _ | exact Own2.drew (Since.new (by assumption) _ _ _))).mono ?_; rintro e w' ⟨rfl, hin3⟩; obtain ⟨z0, z1, f0, f1⟩ := Own2.own hin3) | (go_at_call 27; refine (toRat_since ((w.alloc (.cells #[.int .i64 an, .int .i64 ad] 35)).alloc (.cells #[.int .i64 bn, .int .i64 bd] 35)) _ _ _ (by first | assumption | exact Since.drew (by assumption))).mono ?_; rintro e w' ⟨rfl, hin2⟩) | (go_at_call 16; refine (calls_own (HS.out _) (B := ((w.alloc (.cells #[.int .i64 an, .int .i64 ad] 35)).alloc (.cells #[.int .i64 bn, .int .i64 bd] 35))) (x := .int .i64 0) (y := .int .i64 0) (t := 25) (by first | assumption | exact Own2.drew (by assumption) | exact new2 w _ _ _ _ _ | exact Own2.drew (new2 w _ _ _ _ _) | exact Since.new (by assumption) _ _ _ | exact Own2.drew (Since.new (by assumption) _ _ _))).mono ?_; rintro e w' ⟨⟨rfl, _⟩, hin3⟩; obtain ⟨z0, z1, f0, f1⟩ := Own2.own hin3) | (go_at_call 16; refine (calls_since (HS.out _) (B := ((w.alloc (.cells #[.int .i64 an, .int .i64 ad] 35)).alloc (.cells #[.int .i64 bn, .int .i64 bd] 35))) (by first | assumption | exact Since.drew (by assumption))).mono ?_; rintro e w' ⟨⟨rfl, _⟩, hin2⟩))
    all_goals
      go_wp2_with fail
      go_meet
      first
      | exact Got.last (by assumption) _ _ _ _
      | exact Got.set (by assumption) _ _ _
      | exact Got.drew (Got.last (by assumption) _ _ _ _)
      | exact Got.drew (Got.set (by assumption) _ _ _)
  case rest =>
    obtain ⟨wd, rfl⟩ : ∃ wd : World, wd = wc := ⟨_, rfl⟩
    obtain ⟨q, rfl, rfl, c0, c1, hlt, hhi, hs1⟩ := hcut
    have Hbx2 := Lib.hid (Hbx.out.since hs1)
    have Hq := Lib.hid (And.intro c0 (And.intro c1 hlt))
    have Hs1 := Lib.hid hs1
    clear Hbx hin hs1 c0 c1 hlt hhi
    have hin := Since.refl wd
    go_upto_region 2 with fail
    go_cut [7, 8] (fun p b wx => Got wd N D k p b wx)
    case first =>
      go_region_held3 (fun w' => w'.cell? ⟨w.heap.size, 0, none⟩ = some (.int .i64 an) ∧ w'.cell? ⟨w.heap.size, 1, none⟩ = some (.int .i64 ad) ∧ w'.cell? ⟨w.heap.size + 1, 0, none⟩ = some (.int .i64 bn) ∧ w'.cell? ⟨w.heap.size + 1, 1, none⟩ = some (.int .i64 bd) ∧ Since wd w') (first | exact Boxes.five Hbx2 (by assumption) | exact Boxes.five Hbx2 (Since.drew (by assumption)) | exact Boxes.five Hbx2 (Own2.since (by assumption)) | exact Boxes.five Hbx2 (Since.drew (Own2.since (by assumption))) | exact Boxes.five Hbx2 (Since.alloc (by assumption) _) | exact Boxes.five Hbx2 (Since.drew (Since.alloc (by assumption) _)) | exact Boxes.five Hbx2 (Own2.set2 (by assumption) _ _) | exact Boxes.five Hbx2 (Since.drew (Own2.set2 (by assumption) _ _)))
        (first | (go_at_call 27; refine (toRat_own wd (.int .i64 0) (.int .i64 0) 25 _ _ _ _ (by first | assumption | exact Own2.drew (by assumption) | exact Since.new (by assumption) _ _ _ | exact Own2.drew (Since.new (by assumption) _ _ _))).mono ?_; rintro e w' ⟨rfl, hin3⟩; obtain ⟨z0, z1, f0, f1⟩ := Own2.own hin3) | (go_at_call 27; refine (toRat_since wd _ _ _ (by first | assumption | exact Since.drew (by assumption))).mono ?_; rintro e w' ⟨rfl, hin2⟩) | (go_at_call 15; refine (calls_own (HI.out _) (B := wd) (x := .int .i64 0) (y := .int .i64 0) (t := 25) (by first | assumption | exact Own2.drew (by assumption) | exact Since.new (by assumption) _ _ _ | exact Own2.drew (Since.new (by assumption) _ _ _))).mono ?_; rintro e w' ⟨⟨rfl, _⟩, hin3⟩; obtain ⟨z0, z1, f0, f1⟩ := Own2.own hin3) | (go_at_call 15; refine (calls_since (HI.out _) (B := wd) (by first | assumption | exact Since.drew (by assumption))).mono ?_; rintro e w' ⟨⟨rfl, _⟩, hin2⟩))
      all_goals
        go_wp2_with fail
        go_meet
        first
        | exact Got.last (by assumption) _ _ _ _
        | exact Got.set (by assumption) _ _ _
        | exact Got.drew (Got.last (by assumption) _ _ _ _)
        | exact Got.drew (Got.set (by assumption) _ _ _)
    case rest =>
      obtain ⟨q2, rfl, rfl, d0, d1, hlt2, hhi2, hs2⟩ := hcut
      have e0 := hs2.cell Hq.out.2.2 Hq.out.1
      have e1 := hs2.cell Hq.out.2.2 Hq.out.2.1
      have Hf := Lib.hid (low2 (Hs1.out.trans hs2.low).low)
      clear Hq Hs1 hin Hbx2 hs2 hlt2 hhi2
      go_wp2_with fail
      refine (laws_eqRat N D _).mono ?_
      rintro e w1 ⟨rfl, hb⟩
      have Hg := Lib.hid (Hf.out.trans (hb.mono Hf.out.size))
      clear hb
      go_wp2_with fail
      go_ret
      exact ⟨rfl, Hg.out⟩

set_option maxHeartbeats 4000000 in
theorem fnExactSubRat.walk (an ad bn bd : Int) (w : World) :
    Calls Try.prog 7 #[.agg #[.int .i64 an, .int .i64 ad], .agg #[.int .i64 bn, .int .i64 bd]] w fun e w' => e = .returned (.bool true) ∧ Below w.heap.size w w' := by
  obtain ⟨N, D, k, hS, hI⟩ : ∃ (N D : Int) (k : Bool), (∀ w, Calls Try.prog 29 #[.agg #[.int .i64 an, .int .i64 ad], .agg #[.int .i64 bn, .int .i64 bd]] w fun e w' => e = .returned (.tuple #[.agg #[.int .i64 N, .int .i64 D], .bool k]) ∧ Below w.heap.size w w') ∧ (∀ w, Calls Try.prog 17 #[.agg #[.int .i64 an, .int .i64 ad], .agg #[.int .i64 bn, .int .i64 bd]] w fun e w' => e = .returned (.tuple #[.agg #[.int .i64 N, .int .i64 D], .bool k]) ∧ Below w.heap.size w w') :=
    ⟨_, _, _, fun w => spec_SubRat an ad bn bd w, fun w => impl_SubRat an ad bn bd w⟩
  have HS := Lib.hid hS
  have HI := Lib.hid hI
  clear hS hI
  have hin := Since.refl ((w.alloc (.cells #[.int .i64 an, .int .i64 ad] 35)).alloc (.cells #[.int .i64 bn, .int .i64 bd] 35))
  have Hbx := Lib.hid (boxes_start w an ad bn bd 35 35)
  go_enter Try.func7, Try.ntmps7
  go_upto_region 1 with fail
  go_cut [5, 6] (fun p b wx => Got ((w.alloc (.cells #[.int .i64 an, .int .i64 ad] 35)).alloc (.cells #[.int .i64 bn, .int .i64 bd] 35)) N D k p b wx)
  case first =>
    go_region_held3 (fun w' => w'.cell? ⟨w.heap.size, 0, none⟩ = some (.int .i64 an) ∧ w'.cell? ⟨w.heap.size, 1, none⟩ = some (.int .i64 ad) ∧ w'.cell? ⟨w.heap.size + 1, 0, none⟩ = some (.int .i64 bn) ∧ w'.cell? ⟨w.heap.size + 1, 1, none⟩ = some (.int .i64 bd) ∧ Since ((w.alloc (.cells #[.int .i64 an, .int .i64 ad] 35)).alloc (.cells #[.int .i64 bn, .int .i64 bd] 35)) w') (first | exact Boxes.five Hbx (by assumption) | exact Boxes.five Hbx (Since.drew (by assumption)) | exact Boxes.five Hbx (Own2.since (by assumption)) | exact Boxes.five Hbx (Since.drew (Own2.since (by assumption))) | exact Boxes.five Hbx (Since.alloc (by assumption) _) | exact Boxes.five Hbx (Since.drew (Since.alloc (by assumption) _)) | exact Boxes.five Hbx (Own2.set2 (by assumption) _ _) | exact Boxes.five Hbx (Since.drew (Own2.set2 (by assumption) _ _)))
      (first | (go_at_call 27; refine (toRat_own ((w.alloc (.cells #[.int .i64 an, .int .i64 ad] 35)).alloc (.cells #[.int .i64 bn, .int .i64 bd] 35)) (.int .i64 0) (.int .i64 0) 25 _ _ _ _ (by first | assumption | exact Own2.drew (by assumption) | exact new2 w _ _ _ _ _ | exact Own2.drew (new2 w _ _ _ _ _) | exact Since.new (by assumption) _ _ _ | exact Own2.drew (Since.new (by assumption) _ _ _))).mono ?_; rintro e w' ⟨rfl, hin3⟩; obtain ⟨z0, z1, f0, f1⟩ := Own2.own hin3) | (go_at_call 27; refine (toRat_since ((w.alloc (.cells #[.int .i64 an, .int .i64 ad] 35)).alloc (.cells #[.int .i64 bn, .int .i64 bd] 35)) _ _ _ (by first | assumption | exact Since.drew (by assumption))).mono ?_; rintro e w' ⟨rfl, hin2⟩) | (go_at_call 29; refine (calls_own (HS.out _) (B := ((w.alloc (.cells #[.int .i64 an, .int .i64 ad] 35)).alloc (.cells #[.int .i64 bn, .int .i64 bd] 35))) (x := .int .i64 0) (y := .int .i64 0) (t := 25) (by first | assumption | exact Own2.drew (by assumption) | exact new2 w _ _ _ _ _ | exact Own2.drew (new2 w _ _ _ _ _) | exact Since.new (by assumption) _ _ _ | exact Own2.drew (Since.new (by assumption) _ _ _))).mono ?_; rintro e w' ⟨⟨rfl, _⟩, hin3⟩; obtain ⟨z0, z1, f0, f1⟩ := Own2.own hin3) | (go_at_call 29; refine (calls_since (HS.out _) (B := ((w.alloc (.cells #[.int .i64 an, .int .i64 ad] 35)).alloc (.cells #[.int .i64 bn, .int .i64 bd] 35))) (by first | assumption | exact Since.drew (by assumption))).mono ?_; rintro e w' ⟨⟨rfl, _⟩, hin2⟩))
    all_goals
      go_wp2_with fail
      go_meet
      first
      | exact Got.last (by assumption) _ _ _ _
      | exact Got.set (by assumption) _ _ _
      | exact Got.drew (Got.last (by assumption) _ _ _ _)
      | exact Got.drew (Got.set (by assumption) _ _ _)
  case rest =>
    obtain ⟨wd, rfl⟩ : ∃ wd : World, wd = wc := ⟨_, rfl⟩
    obtain ⟨q, rfl, rfl, c0, c1, hlt, hhi, hs1⟩ := hcut
    have Hbx2 := Lib.hid (Hbx.out.since hs1)
    have Hq := Lib.hid (And.intro c0 (And.intro c1 hlt))
    have Hs1 := Lib.hid hs1
    clear Hbx hin hs1 c0 c1 hlt hhi
    have hin := Since.refl wd
    go_upto_region 2 with fail
    go_cut [7, 8] (fun p b wx => Got wd N D k p b wx)
    case first =>
      go_region_held3 (fun w' => w'.cell? ⟨w.heap.size, 0, none⟩ = some (.int .i64 an) ∧ w'.cell? ⟨w.heap.size, 1, none⟩ = some (.int .i64 ad) ∧ w'.cell? ⟨w.heap.size + 1, 0, none⟩ = some (.int .i64 bn) ∧ w'.cell? ⟨w.heap.size + 1, 1, none⟩ = some (.int .i64 bd) ∧ Since wd w') (first | exact Boxes.five Hbx2 (by assumption) | exact Boxes.five Hbx2 (Since.drew (by assumption)) | exact Boxes.five Hbx2 (Own2.since (by assumption)) | exact Boxes.five Hbx2 (Since.drew (Own2.since (by assumption))) | exact Boxes.five Hbx2 (Since.alloc (by assumption) _) | exact Boxes.five Hbx2 (Since.drew (Since.alloc (by assumption) _)) | exact Boxes.five Hbx2 (Own2.set2 (by assumption) _ _) | exact Boxes.five Hbx2 (Since.drew (Own2.set2 (by assumption) _ _)))
        (first | (go_at_call 27; refine (toRat_own wd (.int .i64 0) (.int .i64 0) 25 _ _ _ _ (by first | assumption | exact Own2.drew (by assumption) | exact Since.new (by assumption) _ _ _ | exact Own2.drew (Since.new (by assumption) _ _ _))).mono ?_; rintro e w' ⟨rfl, hin3⟩; obtain ⟨z0, z1, f0, f1⟩ := Own2.own hin3) | (go_at_call 27; refine (toRat_since wd _ _ _ (by first | assumption | exact Since.drew (by assumption))).mono ?_; rintro e w' ⟨rfl, hin2⟩) | (go_at_call 17; refine (calls_own (HI.out _) (B := wd) (x := .int .i64 0) (y := .int .i64 0) (t := 25) (by first | assumption | exact Own2.drew (by assumption) | exact Since.new (by assumption) _ _ _ | exact Own2.drew (Since.new (by assumption) _ _ _))).mono ?_; rintro e w' ⟨⟨rfl, _⟩, hin3⟩; obtain ⟨z0, z1, f0, f1⟩ := Own2.own hin3) | (go_at_call 17; refine (calls_since (HI.out _) (B := wd) (by first | assumption | exact Since.drew (by assumption))).mono ?_; rintro e w' ⟨⟨rfl, _⟩, hin2⟩))
      all_goals
        go_wp2_with fail
        go_meet
        first
        | exact Got.last (by assumption) _ _ _ _
        | exact Got.set (by assumption) _ _ _
        | exact Got.drew (Got.last (by assumption) _ _ _ _)
        | exact Got.drew (Got.set (by assumption) _ _ _)
    case rest =>
      obtain ⟨q2, rfl, rfl, d0, d1, hlt2, hhi2, hs2⟩ := hcut
      have e0 := hs2.cell Hq.out.2.2 Hq.out.1
      have e1 := hs2.cell Hq.out.2.2 Hq.out.2.1
      have Hf := Lib.hid (low2 (Hs1.out.trans hs2.low).low)
      clear Hq Hs1 hin Hbx2 hs2 hlt2 hhi2
      go_wp2_with fail
      refine (laws_eqRat N D _).mono ?_
      rintro e w1 ⟨rfl, hb⟩
      have Hg := Lib.hid (Hf.out.trans (hb.mono Hf.out.size))
      clear hb
      go_wp2_with fail
      go_ret
      exact ⟨rfl, Hg.out⟩
end Go.Proofs.Ytheggkeoheneiaa
