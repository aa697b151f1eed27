/- The draw of a game for its properties. -/
import Derived.Test.YtodjapljoimkgaaGmDt
namespace Go.Proofs.Ytodjapljoimkgaa
open Go.RowKit
open Gm (G)
/-- A game has been drawn. -/
def DrewG (w : World) (e : Ending) (w' : World) : Prop :=
  ∃ (g : G) (v : Value), e = .returned (.agg #[.int .i64 g.n, v]) ∧ OwnInts w.heap.size w' v g.v ∧ GmOk g ∧ Below w.heap.size w w'
set_option maxRecDepth 100000 in
set_option maxHeartbeats 4000000 in
theorem spec_DrawConvexFault (a : Option Addr) (len cap : Nat) (w : World) (hcode : CodeAt w.heap.size w a len) :
    Calls Try.prog 13 #[.slice a len cap] w (DrewG w) := by
  have Hc := Lib.hid hcode
  have hz1 := CellsAt.new w #[.int .i64 0, .slice none 0 0] 26
  have hb0 := (Below.refl w.heap.size w).alloc (Nat.le_refl _) (.cells #[.int .i64 0, .slice none 0 0] 26)
  have hs0 := size1 w (.cells #[.int .i64 0, .slice none 0 0] 26)
  have HZ1 := Lib.hid hz1
  have HB0 := Lib.hid hb0
  have Hs0 := Lib.hid hs0
  clear hz1 hb0 hs0 hcode
  go_enter Try.func13, Try.ntmps13
  go_wp2_with fail
  refine (spec_l1New w.heap.size a len cap _ (Hc.out.below HB0.out)).mono ?_
  rintro e w1 ⟨rfl, hc1, hb1, hsz1⟩
  rw [Hs0.out] at hc1 hb1 hsz1 ⊢
  obtain ⟨p, hp⟩ : ∃ p, w.heap.size + 1 = p := ⟨_, rfl⟩
  have HY1 := Lib.hid (show CellsAt w1 w.heap.size #[.int .i64 0, .slice none 0 0] 26 from (hb1.block _ (by omega)).trans HZ1.out)
  have HB1 := Lib.hid (HB0.out.trans (hb1.mono (by omega)))
  rw [hp] at hc1 hsz1 ⊢
  have HU1 := Lib.hid hc1
  have hBp : w.heap.size ≤ p := by omega
  have hp2 : w.heap.size + 1 ≤ p := by omega
  clear hc1 hb1 HZ1 HB0 Hs0 hp
  go_wp2_with fail
  refine (spec_l8Bent w.heap.size p a len cap w1 hBp HU1.out (Hc.out.below HB1.out)).mono ?_
  rintro e w2 ⟨g, v, rfl, hx2, hn1, hn2, hl2, hc2, ho2⟩
  obtain ⟨gn, gv⟩ := g
  simp only at hx2 hn1 hn2 hl2 ⊢
  obtain ⟨av, cv, rfl⟩ := ints_shape hx2
  have HY3 := Lib.hid (HY1.out.only ho2 (by omega))
  have HB3 := Lib.hid (HB1.out.trans (ho2.below hBp))
  have n1 := own_away hx2 HY3.out.ty (by decide)
  have HA5 := Lib.hid (owns_set (i := 1) (u := .slice av gv.length cv) (owns_set (i := 0) (u := .int .i64 gn) hx2 n1) n1)
  have HE1 := Lib.hid ((HY3.out.s0 (.int .i64 gn)).s1 (.slice av gv.length cv))
  have HBe := Lib.hid ((HB3.out.setCell (p := ⟨w.heap.size, 0, none⟩) (Nat.le_refl _) (.int .i64 gn)).setCell (p := ⟨w.heap.size, 1, none⟩) (Nat.le_refl _) (.slice av gv.length cv))
  have HOk : Hid (GmOk ⟨gn, gv⟩) := bent_ok hn1 hn2 hl2.2
  have hle : w.heap.size ≤ w1.heap.size := HB1.out.size
  obtain ⟨d0, d1, f0, f1⟩ := two' HY3.out
  clear hx2 hc2 ho2 n1 hl2 hn1 hn2 HY1 HB1 HU1
  generalize hN : gv.length = N at *
  have HN := Lib.hid hN
  clear hN
  go_wp2_with fail
  refine bodyPost_ret (v := .agg #[.int .i64 gn, .slice av N cv]) (by
    obtain ⟨z0, z1⟩ := two HE1.out
    revert z0 z1
    generalize ((w2.setCell ⟨w.heap.size, 0, none⟩ (.int .i64 gn)).setCell ⟨w.heap.size, 1, none⟩ (.slice av N cv)) = W4
    intro z0 z1
    simp [results, Try.results13, go_sem, z0, z1]) rfl ⟨⟨gn, gv⟩, _, rfl, OwnInts.raise2 (by rw [← HN.out] at HA5 ⊢; exact HA5.out) hle, HOk.out, HBe.out⟩
end Go.Proofs.Ytodjapljoimkgaa
