/- A map from integers to functions that the call makes; impl.certificateChecks. -/
import Derived.Test.YtfbhnjdbamahkaaLpI8
import Derived.Test.YtfbhnjdbamahkaaLpI7
import Derived.Maps.Own
import Derived.Maps.OwnOps
import Derived.WideLaws
import Derived.Laws.EntriesVeiled
namespace Go.Proofs.Ytfbhnjdbamahkaa
open Go.RowKit
open Ve (R)
open Lp (P Res)
/-- An element reads as itself. -/
def asIs (v : Value) : Option (DataW Value × List MemPlace) := some (.held v, [])
/-- The entries. -/
def certs : DataW Value := .map [(.int .i64 1, .held (.func (.func 126) #[] #[])), (.int .i64 2, .held (.func (.func 127) #[] #[])), (.int .i64 3, .held (.func (.func 128) #[] #[]))]
def Certs (w : World) (b : Nat) : Prop := w.ownsMap Try.prog 3 asIs b 3 certs
theorem Certs.below {w w' : World} {b : Nat} (h : Certs w b) (hb : Below w.heap.size w w') : Certs w' b := by
  obtain ⟨es, cl, h1, h2, h3, h4⟩ := h
  exact ⟨es, cl, (hb.block b (Array.getElem?_eq_some_iff.1 h1).1).trans h1, h2, h3, h4⟩
theorem zero_check (w : World) : (zeroValue 115).run Try.prog w = .ok .nilFunc w := by kernel_rfl
theorem nil_held (f : Value) : (DataW.nil : DataW Value) ≠ .held f := by intro h; cases h
theorem certs_yes {w : World} {b : Nat} (h : Certs w b) {st : Int} {f : Value} (hw : (Lit.int .i64 st).wf = true) (hat : ∀ zd, certs.atKey (.int .i64 st) zd = .held f) :
    (Instr.lookup 117 (.map (some b)) (.int .i64 st) true).run Try.prog w = .ok (.tuple #[f, .bool true]) w := by
  obtain ⟨es, cl, h1, F, h3, h4⟩ := h
  rcases Maps.fit_look true (Maps.int_keyed Try.underlying3) Try.underlying117 (zero_check w) h1 F (Maps.keyOf_int_mk Try.underlying3 hw) with ⟨_, _, hn⟩ | ⟨e0, y, _, _, hrun, hR, ha, _⟩
  · rw [← h4] at hn
    have h7 : (DataW.nil : DataW Value) = .held f := (hn .nil).symm.trans (hat .nil)
    exact absurd h7 (nil_held _)
  · rw [← h4] at ha
    have h5 := (ha .nil).symm.trans (hat .nil)
    unfold asIs at hR
    have h6 := Option.some.inj hR
    rw [← h6] at h5
    have h7 : DataW.held e0.val = .held f := h5
    rw [hrun, DataW.held.inj h7]; rfl
theorem certs_no {w : World} {b : Nat} (h : Certs w b) {st : Int} (hw : (Lit.int .i64 st).wf = true) (hat : ∀ zd, certs.atKey (.int .i64 st) zd = zd) :
    (Instr.lookup 117 (.map (some b)) (.int .i64 st) true).run Try.prog w = .ok (.tuple #[.nilFunc, .bool false]) w := by
  obtain ⟨es, cl, h1, F, h3, h4⟩ := h
  rcases Maps.fit_look true (Maps.int_keyed Try.underlying3) Try.underlying117 (zero_check w) h1 F (Maps.keyOf_int_mk Try.underlying3 hw) with ⟨hrun, _, _⟩ | ⟨e0, y, _, _, hrun, hR, ha, _⟩
  · rw [hrun]; rfl
  · rw [← h4] at ha
    have h5 := (ha .nil).symm.trans (hat .nil)
    unfold asIs at hR
    have h6 := Option.some.inj hR
    rw [← h6] at h5
    have h7 : (DataW.held e0.val : DataW Value) = .nil := h5
    exact absurd h7.symm (nil_held _)
theorem at_one (zd : DataW Value) : certs.atKey (.int .i64 1) zd = .held (.func (.func 126) #[] #[]) := rfl
theorem at_two (zd : DataW Value) : certs.atKey (.int .i64 2) zd = .held (.func (.func 127) #[] #[]) := rfl
theorem at_three (zd : DataW Value) : certs.atKey (.int .i64 3) zd = .held (.func (.func 128) #[] #[]) := rfl
theorem at_other {st : Int} (h1 : st ≠ 1) (h2 : st ≠ 2) (h3 : st ≠ 3) (zd : DataW Value) : certs.atKey (.int .i64 st) zd = zd := by
  have e1 : (1 : Int) ≠ st := fun h => h1 h.symm
  have e2 : (2 : Int) ≠ st := fun h => h2 h.symm
  have e3 : (3 : Int) ≠ st := fun h => h3 h.symm
  simp [certs, DataW.atKey, Lit.sameKey, e1, e2, e3]
set_option maxHeartbeats 1000000 in
theorem impl_certificateChecks (w : World) : Calls Try.prog 97 #[] w fun e w' => (∃ b, e = .returned (.map (some b)) ∧ Certs w' b) ∧ Below w.heap.size w w' := by
  have m0 : (w.alloc (.map #[] 0)).ownsMap Try.prog 3 asIs w.heap.size 0 (.map []) := World.ownsMap_made w Try.prog 3 asIs
  have K := Maps.int_keyed (P := Try.prog) Try.underlying3
  obtain ⟨w1, r1, m1, g1⟩ := m0.update (val := .func (.func 126) #[] #[]) K Try.underlying117 (by unfold maxLen; omega) (Maps.keyOf_int_mk Try.underlying3 (q := .i64) (a := 1) (by decide)) rfl
  obtain ⟨w2, r2, m2, g2⟩ := m1.update (val := .func (.func 127) #[] #[]) K Try.underlying117 (by unfold maxLen; omega) (Maps.keyOf_int_mk Try.underlying3 (q := .i64) (a := 2) (by decide)) rfl
  obtain ⟨w3, r3, m3, g3⟩ := m2.update (val := .func (.func 128) #[] #[]) K Try.underlying117 (by unfold maxLen; omega) (Maps.keyOf_int_mk Try.underlying3 (q := .i64) (a := 3) (by decide)) rfl
  have hc : Hid (Certs w3 w.heap.size) := m3
  have hl : ∀ g, some w.heap.size = some g → w.heap.size ≤ g := fun g h => by injection h with h; omega
  have hb : Hid (Below w.heap.size w w3) :=
    ((((Below.refl w.heap.size w).alloc (Nat.le_refl _) (.map #[] 0)).grown g1 (by simp) hl).grown g2 (by have := g1.size; simp at this; omega) hl).grown g3 (by have := g1.size; have := g2.size; simp at *; omega) hl
  have hmm := @run_makeMap Try.prog
  clear m0 m1 m2 m3 g1 g2 g3 K hl
  go_enter Try.func97, Try.ntmps97
  go_wp2_with fail
  go_ret
  exact ⟨⟨_, rfl, hc.out⟩, hb.out⟩
end Go.Proofs.Ytfbhnjdbamahkaa
