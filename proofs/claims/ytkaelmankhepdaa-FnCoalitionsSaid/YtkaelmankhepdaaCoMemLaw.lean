/- The walk of FnExactMembersOf: for every int the law returns true. -/
import Derived.Test.YtkaelmankhepdaaCoMem
import Derived.Test.YtkaelmankhepdaaIntsLaw
namespace Go.Proofs.Ytkaelmankhepdaa
open Go.RowKit

theorem memR_len (s : Int) : (memR s).length ≤ 5 := by
  unfold memR
  split
  · exact Co.mem_len s 5
  · simp
set_option maxRecDepth 100000 in
set_option maxHeartbeats 1000000 in
theorem fnExactMembersOf.walk (s : Int) (_wf : (Lit.int .i64 s).wf = true) (w : World) :
    Calls Try.prog 10 #[.int .i64 s] w fun e w' => e = .returned (.bool true) ∧ Below w.heap.size w w' := by
  have hlen := memR_len s
  have HS := Lib.hid (fun w => spec_MembersOf s w)
  have HI := Lib.hid (fun w => impl_MembersOf s w)
  generalize memR s = xs at *
  go_enter Try.func10, Try.ntmps10
  go_wp2_with fail
  refine (HS.out w).mono ?_
  rintro e w1 ⟨v, rfl, ho1, hb1⟩
  obtain ⟨a1, c1, rfl, hr1, ha1, _⟩ := own_reads ho1
  have Hr1 := Lib.hid hr1
  have Ha1 := Lib.hid ha1
  have Hb1 := Lib.hid hb1
  clear ho1 hr1 ha1 hb1
  go_wp2_with fail
  refine (HI.out w1).mono ?_
  rintro e w2 ⟨v, rfl, ho2, hb2⟩
  obtain ⟨a2, c2, rfl, hr2, ha2, _⟩ := own_reads ho2
  have Ho2 := Lib.hid ho2
  have Ha2 := Lib.hid ha2
  have Hr2 := Lib.hid hr2
  have Hr12 := Lib.hid (Hr1.out.below (fun p hp => (Ha1.out p hp).2) hb2)
  have Hb2 := Lib.hid (Hb1.out.trans (hb2.mono Hb1.out.size))
  have Hsz2 := Lib.hid hb2.size
  clear ho2 hr2 ha2 hb2
  go_wp2_with fail
  refine (laws_eqIntS a2 a1 c2 c1 xs (by omega) w2 Hr2.out Hr12.out).mono ?_
  rintro e w3 ⟨rfl, d, rfl⟩
  go_wp2_with fail
  refine (laws_markIntS w1.heap.size _ 1 xs (by omega) (by omega) (w2.drewN d) (Ho2.out.drewN d)).mono ?_
  rintro e w4 ⟨rfl, ho4, hg4⟩
  have hmk := own_reads ho4
  rw [marksI_len] at hmk
  obtain ⟨a4, c4, he4, hr4, ha4, _⟩ := hmk
  obtain ⟨rfl, rfl⟩ : a4 = a2 ∧ c4 = c2 := by injection he4 with h1 h2 h3; exact ⟨h1.symm, h3.symm⟩
  have Hr4 := Lib.hid hr4
  have Ha4 := Lib.hid ha4
  have Hr14 : Hid (IntsIn w4 a1 xs) := by
    refine Hr12.out.same fun p hp => hg4.block p.block ?_ ?_
    · exact Nat.lt_of_lt_of_le (Ha1.out p hp).2 Hsz2.out
    · intro e
      have h1 := (Ha1.out p hp).2
      cases a4 with
      | none => cases e
      | some q =>
        have h2 := (Ha2.out q rfl).1
        have h3 : p.block = q.block := Option.some.inj e
        omega
  have Hb4 : Hid (Below w.heap.size w w4) := by
    have e1 : Below w.heap.size w (w2.drewN d) := ⟨Hb2.out.os, Hb2.out.tape, Hb2.out.output, Hb2.out.size, Hb2.out.block⟩
    refine e1.grown hg4 e1.size fun k hk => ?_
    cases a4 with
    | none => cases hk
    | some q =>
      have h2 := (Ha2.out q rfl).1
      have h3 : q.block = k := Option.some.inj hk
      have := Hb1.out.size
      omega
  have Ha14 : Hid (∀ p, a1 = some p → p.block < w4.heap.size) := fun p hp => Nat.lt_of_lt_of_le (Ha1.out p hp).2 (Nat.le_trans Hsz2.out hg4.size)
  clear he4 hr4 ha4 ho4 hg4
  go_wp2_with fail
  refine (laws_heldIntS a4 c4 1 xs.length (by omega) (by omega) w4 Hr4.out).mono ?_
  rintro e w5 ⟨rfl, rfl⟩
  go_wp2_with fail
  refine (HI.out w4).mono ?_
  rintro e w6 ⟨v, rfl, ho6, hb6⟩
  obtain ⟨a6, c6, rfl, hr6, ha6, _⟩ := own_reads ho6
  have Hr6 := Lib.hid hr6
  have Hr16 := Lib.hid (Hr14.out.below Ha14.out hb6)
  have Hr46 := Lib.hid (Hr4.out.below (fun p hp => (Ha4.out p hp).2) hb6)
  have Hb6 := Lib.hid (Hb4.out.trans (hb6.mono Hb4.out.size))
  clear ho6 hr6 ha6 hb6
  go_wp2_with fail
  refine (laws_eqIntS a6 a1 c6 c1 xs (by omega) w6 Hr6.out Hr16.out).mono ?_
  rintro e w7 ⟨rfl, d7, rfl⟩
  have Hb7 : Hid (Below w.heap.size w (w6.drewN d7)) := ⟨Hb6.out.os, Hb6.out.tape, Hb6.out.output, Hb6.out.size, Hb6.out.block⟩
  go_wp2_with fail
  refine (laws_heldIntS a4 c4 1 xs.length (by omega) (by omega) (w6.drewN d7) (Hr46.out.drewN d7)).mono ?_
  rintro e w8 ⟨rfl, rfl⟩
  go_wp2_with fail
  go_ret
  exact ⟨rfl, Hb7⟩
end Go.Proofs.Ytkaelmankhepdaa
