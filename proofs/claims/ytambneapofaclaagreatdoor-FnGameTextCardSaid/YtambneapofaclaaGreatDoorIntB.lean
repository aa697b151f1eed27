/- impl's FormatInt, integerBetween, ParseNumber, ParseInt at every string; conditions: the tables and the two errors that strconv reads are laid; the string has fewer than 2^48 bytes. -/
import Derived.Test.YtambneapofaclaaGreatDoorChecked
import Derived.Test.YtambneapofaclaaGreatDoorDec
import Derived.Test.YtambneapofaclaaGreatDoorIntF
import Derived.Test.YtambneapofaclaaGreatDoorShelf
import Derived.Handy
import Derived.Below
import Derived.Outline
import Derived.Lib.Hide
import Derived.WalkSpells
import Derived.WalkLawsBesides
import Derived.Defers
import Derived.Recover
import Derived.Laws.Pointers
import Derived.Lib.AppendIntMem
import Derived.Lib.SmallJoins
import Derived.Lib.ConvBytes
import Derived.Lib.AtoiBound
namespace Go.Proofs.YtambneapofaclaaGreatDoor
open Go.RowKit

theorem gSyn : Tryz.prog.globalNamed "strconv.ErrSyntax" = some 3 := by kernel_rfl
theorem gRng : Tryz.prog.globalNamed "strconv.ErrRange" = some 4 := by kernel_rfl

/-- What the tables hold. -/
structure Tabs (w : World) : Prop where
  pow : Lib.TabIs Tryz.prog w "internal/strconv.uint64pow10" .u64 Lib.pow10Tab
  syn : ∃ tp p, w.var? Tryz.prog "strconv.ErrSyntax" = some #[.iface tp p]
  rng : ∃ tp p, w.var? Tryz.prog "strconv.ErrRange" = some #[.iface tp p]
theorem Tabs.below {w w' : World} (h : Tabs w) (hb : Below w.heap.size w w') : Tabs w' :=
  ⟨Joins.var_stays gPow h.pow hb (Nat.le_refl _), by obtain ⟨t, p, e⟩ := h.syn; exact ⟨t, p, Joins.var_stays gSyn e hb (Nat.le_refl _)⟩,
   by obtain ⟨t, p, e⟩ := h.rng; exact ⟨t, p, Joins.var_stays gRng e hb (Nat.le_refl _)⟩⟩

theorem impl_FormatInt (n : Int) (h0 : -9223372036854775808 ≤ n) (h1 : n ≤ 9223372036854775807) (w : World) (ht : Tabs w) :
    Calls Tryz.prog 41 #[.int .i64 n] w fun e w' => e = .returned (.string ⟨(Lib.itoa n).toArray⟩) ∧ Below w.heap.size w w' :=
  impl_FormatInt0 n h0 h1 w ht.pow

theorem below_atoi {w w1 : World} (h : w1 = w ∨ ∃ t, w1 = Lib.bytesWorld w 5 t) : Below w.heap.size w w1 := by
  rcases h with rfl | ⟨t, rfl⟩
  · exact Below.refl _ _
  · exact Joins.below_bytesWorld _ _ _ _ (Nat.le_refl _)

theorem between_ok (s : ByteArray) (lo hi n : Int) (hs : Lib.itoa n = s.data.toList) (hlo : lo ≤ n) (hhi : n ≤ hi) (hl : -999999999999 ≤ lo) (hh : hi ≤ 999999999999) (w : World) (ht : Tabs w) :
    Calls Tryz.prog 81 #[.string s, .int .i64 lo, .int .i64 hi] w fun e w' => e = .returned (.int .i64 n) ∧ Below w.heap.size w w' := by
  have ha : Lib.atoiAll s.data.toList = .ok n := by rw [← hs]; exact Dec.atoiAll_itoa n (by omega) (by omega)
  have hsz : s.size ≤ 13 := by
    have := Dec.itoa_len13 n (by omega) (by omega)
    rw [hs] at this; simpa using this
  have Ha := Lib.hid ha
  have Ht := Lib.hid ht
  have hse : s = ⟨(Lib.itoa n).toArray⟩ := by rw [hs]
  have Hse := Lib.hid hse
  clear ha ht hs hse
  go_enter Tryz.func81, Tryz.ntmps81
  go_wp2_with fail
  refine (Tryz.strconv_Atoi_ok s (by omega) n Ha.out _).mono ?_
  rintro e w1 ⟨rfl, hw⟩
  have hb1 := below_atoi hw
  clear hw
  have Ht1 := Lib.hid (Ht.out.below hb1)
  go_wp2_with fail
  refine (impl_FormatInt n (by omega) (by omega) _ Ht1.out).mono ?_
  rintro e w2 ⟨rfl, hb2⟩
  rw [← Hse.out]
  go_wp2_with fail
  go_ret
  exact ⟨rfl, hb1.trans (hb2.mono hb1.size)⟩

/-- The panic's value. -/
def Sick (e : Ending) : Prop := ∃ pv, e = .panicked [{ v := .iface 9 pv, recovered := false }]

theorem between_bad (s : ByteArray) (lo hi : Int) (hno : ∀ n : Int, lo ≤ n → n ≤ hi → Lib.itoa n ≠ s.data.toList) (hsz : s.size ≤ 281474976710656) (w : World) (ht : Tabs w) :
    Calls Tryz.prog 81 #[.string s, .int .i64 lo, .int .i64 hi] w fun e w' => Sick e ∧ Below w.heap.size w w' := by
  have Ht := Lib.hid ht
  have Hno := Lib.hid hno
  clear ht hno
  rcases ha : Lib.atoiAll s.data.toList with v | _ | _
  ·
    obtain ⟨b1, b2⟩ := Lib.atoiAll_bounds ha
    have Ha := Lib.hid ha
    clear ha
    by_cases h1 : v < lo
    · have h1' : decide (v < lo) = true := by simpa using h1
      go_enter Tryz.func81, Tryz.ntmps81
      go_wp2_with fail
      refine (Tryz.strconv_Atoi_ok s (by omega) v Ha.out _).mono ?_
      rintro e w1 ⟨rfl, hw⟩
      have hb1 := below_atoi hw
      clear hw
      go_wp2_with fail
      exact ⟨rfl, ⟨_, rfl⟩, hb1⟩
    · by_cases h2 : hi < v
      · have h1' : decide (v < lo) = false := by simpa using h1
        have h2' : decide (hi < v) = true := by simpa using h2
        go_enter Tryz.func81, Tryz.ntmps81
        go_wp2_with fail
        refine (Tryz.strconv_Atoi_ok s (by omega) v Ha.out _).mono ?_
        rintro e w1 ⟨rfl, hw⟩
        have hb1 := below_atoi hw
        clear hw
        go_wp2_with fail
        exact ⟨rfl, ⟨_, rfl⟩, hb1⟩
      · have h1' : decide (v < lo) = false := by simpa using h1
        have h2' : decide (hi < v) = false := by simpa using h2
        have hne := Hno.out v (by omega) (by omega)
        have hne2 : (Lib.itoa v == s.toList) = false := by
          rw [beq_eq_false_iff_ne]; intro e; apply hne; rw [e, ByteArray.toList_eq]
        clear hne
        go_enter Tryz.func81, Tryz.ntmps81
        go_wp2_with fail
        refine (Tryz.strconv_Atoi_ok s (by omega) v Ha.out _).mono ?_
        rintro e w1 ⟨rfl, hw⟩
        have hb1 := below_atoi hw
        clear hw
        have Ht1 := Lib.hid (Ht.out.below hb1)
        go_wp2_with fail
        refine (impl_FormatInt v (by omega) (by omega) _ Ht1.out).mono ?_
        rintro e w2 ⟨rfl, hb2⟩
        go_wp2_with fail
        exact ⟨rfl, ⟨_, rfl⟩, hb1.trans (hb2.mono hb1.size)⟩
  ·
    have Ha := Lib.hid ha
    clear ha
    obtain ⟨tp, p, hv⟩ := Ht.out.syn
    have Hv := Lib.hid hv
    clear hv
    go_enter Tryz.func81, Tryz.ntmps81
    go_wp2_with fail
    refine (Any.strconv_Atoi_syntax_var Tryz.laysC172 s hsz Ha.out tp p _ Hv.out).mono ?_
    rintro e w1 ⟨N, rfl, _, _, hb1⟩
    go_wp2_with fail
    exact ⟨rfl, ⟨_, rfl⟩, hb1⟩
  ·
    have Ha := Lib.hid ha
    clear ha
    obtain ⟨tp, p, hv⟩ := Ht.out.rng
    have Hv := Lib.hid hv
    clear hv
    go_enter Tryz.func81, Tryz.ntmps81
    go_wp2_with fail
    refine (Tryz.strconv_Atoi_range_var s hsz Ha.out tp p _ Hv.out).mono ?_
    rintro e w1 ⟨N, rfl, _, _, hb1⟩
    go_wp2_with fail
    exact ⟨rfl, ⟨_, rfl⟩, hb1⟩

theorem two_cells {w w1 : World} {x y : Value} {t1 t2 : TypeId} (hb : Below ((w.alloc (.cells #[x] t1)).alloc (.cells #[y] t2)).heap.size ((w.alloc (.cells #[x] t1)).alloc (.cells #[y] t2)) w1) :
    w1.cell? ⟨w.heap.size, 0, none⟩ = some x ∧ w1.cell? ⟨w.heap.size + 1, 0, none⟩ = some y ∧ w1.frozen? ⟨w.heap.size, 0, none⟩ = false ∧ w1.frozen? ⟨w.heap.size + 1, 0, none⟩ = false ∧ Below w.heap.size w w1 := by
  refine ⟨?_, ?_, ?_, ?_, ?_⟩
  · rw [hb.cell (p := ⟨w.heap.size, 0, none⟩) (by simp; omega)]; simp
  · rw [hb.cell (p := ⟨w.heap.size + 1, 0, none⟩) (by simp)]; simp
  · rw [hb.frozen (p := ⟨w.heap.size, 0, none⟩) (by simp; omega)]; simp
  · rw [hb.frozen (p := ⟨w.heap.size + 1, 0, none⟩) (by simp)]; simp
  · exact ((((Below.refl _ _).alloc (Nat.le_refl _) _).alloc (by simp) _).trans (hb.mono (by simp; omega)))

theorem pn_catch (a b : Addr) (x : Int) (y : Bool) (pv : Value) (w : World) (ha : w.cell? a = some (.int .i64 x)) (hb : w.cell? b = some (.bool y)) (za : w.frozen? a = false) (zb : w.frozen? b = false) (hab : b ≠ a) :
    CallsD Tryz.prog 80 #[.pointer (some a), .pointer (some b)] (.panicking [{ v := .iface 9 pv, recovered := false }]) w fun e u' w' =>
      e = .returned (.tuple #[]) ∧ u' = .panicking [{ v := .iface 9 pv, recovered := true }] ∧ w' = (w.setCell a (.int .i64 0)).setCell b (.bool false) := by
  refine callsD_of_wpS Tryz.func80 rfl fun c₀ cs hu => ?_
  apply wpS_seq
  apply wpS_region
  simp [wpOpsS, go_sem, recoverD, hu, Tryz.ntmps80, Exit.thenS]
  refine wpS_cond (t := true) (by simp [Act.eval, Array.replicate]) ?_
  simp only [if_true]
  apply wpS_region
  have hb' : (w.setCell a (.int .i64 0)).cell? b = some (.bool y) := by rw [World.cell?_setCell_other _ _ _ _ (Ne.symm hab)]; exact hb
  simp [wpOpsS, go_sem, ha, hb', za, zb, bodyPostS, results, Tryz.results80]

theorem pn_idle (a b : Addr) (w : World) :
    CallsD Tryz.prog 80 #[.pointer (some a), .pointer (some b)] .returning w fun e u' w' => e = .returned (.tuple #[]) ∧ u' = .returning ∧ w' = w := by
  refine callsD_of_wpS Tryz.func80 rfl fun c₀ cs hu => ?_
  apply wpS_seq
  apply wpS_region
  simp [wpOpsS, go_sem, recoverD, hu, Tryz.ntmps80, Exit.thenS]
  refine wpS_cond (t := false) (by simp [Act.eval, Array.replicate]) ?_
  simp only [Bool.false_eq_true, if_false]
  refine wpS_of_wp (wp_skip ?_)
  cases c₀
  simp_all [bodyPostS, results, Tryz.results80]

theorem impl_ParseNumber_ok (s : ByteArray) (n : Int) (hs : Lib.itoa n = s.data.toList) (hlo : 0 ≤ n) (hhi : n ≤ 999999) (w : World) (ht : Tabs w) :
    Calls Tryz.prog 67 #[.string s] w fun e w' => e = .returned (.tuple #[.int .i64 n, .bool true]) ∧ Below w.heap.size w w' := by
  have hmf : ∀ (fn : Fn) (first cap : Array Value) (w : World), (Instr.makeFunc fn first cap).run Tryz.prog w = .ok (.func fn first cap) w := fun _ _ _ _ => rfl
  have Hs := Lib.hid hs
  have Ht := Lib.hid ht
  clear hs ht
  go_enter_defers Tryz.func67, Tryz.ntmps67
  go_wp2_with fail
  refine (between_ok s _ _ n Hs.out (by omega) (by omega) (by omega) (by omega) _ (Ht.out.below (((Below.refl _ _).alloc (Nat.le_refl _) _).alloc (by simp) _))).mono ?_
  rintro e w1 ⟨rfl, hb1⟩
  obtain ⟨c0, c1, f0, f1, hb⟩ := two_cells hb1
  clear hb1
  go_wp2_with fail
  refine leaves_cons (f := 80) (args := #[.pointer (some ⟨w.heap.size, 0, none⟩), .pointer (some ⟨w.heap.size + 1, 0, none⟩)]) (by simp) (by simp [go_sem]) ?_
  refine (pn_idle _ _ _).mono ?_
  rintro e u' w'' ⟨rfl, rfl, rfl⟩
  have hb2 := (hb.setCell (p := ⟨w.heap.size, 0, none⟩) (Nat.le_refl _) (.int .i64 n)).setCell (p := ⟨w.heap.size + 1, 0, none⟩) (Nat.le_succ _) (.bool true)
  simp [Leaves, settle, results, Tryz.results67, go_sem, c0, c1]
  exact hb2

theorem impl_ParseNumber_bad (s : ByteArray) (hno : ∀ n : Int, 0 ≤ n → n ≤ 999999 → Lib.itoa n ≠ s.data.toList) (hsz : s.size ≤ 281474976710656) (w : World) (ht : Tabs w) :
    Calls Tryz.prog 67 #[.string s] w fun e w' => e = .returned (.tuple #[.int .i64 0, .bool false]) ∧ Below w.heap.size w w' := by
  have hmf : ∀ (fn : Fn) (first cap : Array Value) (w : World), (Instr.makeFunc fn first cap).run Tryz.prog w = .ok (.func fn first cap) w := fun _ _ _ _ => rfl
  have Hno := Lib.hid hno
  have Ht := Lib.hid ht
  clear hno ht
  go_enter_defers Tryz.func67, Tryz.ntmps67
  go_wp2_with fail
  refine (between_bad s _ _ Hno.out hsz _ (Ht.out.below (((Below.refl _ _).alloc (Nat.le_refl _) _).alloc (by simp) _))).mono ?_
  rintro e w1 ⟨⟨pv, rfl⟩, hb1⟩
  obtain ⟨c0, c1, f0, f1, hb⟩ := two_cells hb1
  clear hb1
  go_wp2_with fail
  refine leaves_cons (f := 80) (args := #[.pointer (some ⟨w.heap.size, 0, none⟩), .pointer (some ⟨w.heap.size + 1, 0, none⟩)]) (by simp) (by simp [go_sem]) ?_
  refine (pn_catch _ _ 0 false pv _ c0 c1 f0 f1 (by simp)).mono ?_
  rintro e u' w'' ⟨rfl, rfl, rfl⟩
  have hb2 := (hb.setCell (p := ⟨w.heap.size, 0, none⟩) (Nat.le_refl _) (.int .i64 0)).setCell (p := ⟨w.heap.size + 1, 0, none⟩) (Nat.le_succ _) (.bool false)
  simp [Leaves, settle, results, Tryz.results67, go_sem, c0, c1]
  exact hb2

theorem pi_catch (a b : Addr) (x : Int) (y : Bool) (pv : Value) (w : World) (ha : w.cell? a = some (.int .i64 x)) (hb : w.cell? b = some (.bool y)) (za : w.frozen? a = false) (zb : w.frozen? b = false) (hab : b ≠ a) :
    CallsD Tryz.prog 83 #[.pointer (some a), .pointer (some b)] (.panicking [{ v := .iface 9 pv, recovered := false }]) w fun e u' w' =>
      e = .returned (.tuple #[]) ∧ u' = .panicking [{ v := .iface 9 pv, recovered := true }] ∧ w' = (w.setCell a (.int .i64 0)).setCell b (.bool false) := by
  refine callsD_of_wpS Tryz.func83 rfl fun c₀ cs hu => ?_
  apply wpS_seq
  apply wpS_region
  simp [wpOpsS, go_sem, recoverD, hu, Tryz.ntmps83, Exit.thenS]
  refine wpS_cond (t := true) (by simp [Act.eval, Array.replicate]) ?_
  simp only [if_true]
  apply wpS_region
  have hb' : (w.setCell a (.int .i64 0)).cell? b = some (.bool y) := by rw [World.cell?_setCell_other _ _ _ _ (Ne.symm hab)]; exact hb
  simp [wpOpsS, go_sem, ha, hb', za, zb, bodyPostS, results, Tryz.results83]

theorem pi_idle (a b : Addr) (w : World) :
    CallsD Tryz.prog 83 #[.pointer (some a), .pointer (some b)] .returning w fun e u' w' => e = .returned (.tuple #[]) ∧ u' = .returning ∧ w' = w := by
  refine callsD_of_wpS Tryz.func83 rfl fun c₀ cs hu => ?_
  apply wpS_seq
  apply wpS_region
  simp [wpOpsS, go_sem, recoverD, hu, Tryz.ntmps83, Exit.thenS]
  refine wpS_cond (t := false) (by simp [Act.eval, Array.replicate]) ?_
  simp only [Bool.false_eq_true, if_false]
  refine wpS_of_wp (wp_skip ?_)
  cases c₀
  simp_all [bodyPostS, results, Tryz.results83]

theorem impl_ParseInt_ok (s : ByteArray) (n : Int) (hs : Lib.itoa n = s.data.toList) (hlo : -999999999999 ≤ n) (hhi : n ≤ 999999999999) (w : World) (ht : Tabs w) :
    Calls Tryz.prog 70 #[.string s] w fun e w' => e = .returned (.tuple #[.int .i64 n, .bool true]) ∧ Below w.heap.size w w' := by
  have hmf : ∀ (fn : Fn) (first cap : Array Value) (w : World), (Instr.makeFunc fn first cap).run Tryz.prog w = .ok (.func fn first cap) w := fun _ _ _ _ => rfl
  have Hs := Lib.hid hs
  have Ht := Lib.hid ht
  clear hs ht
  go_enter_defers Tryz.func70, Tryz.ntmps70
  go_wp2_with fail
  refine (between_ok s _ _ n Hs.out (by omega) (by omega) (by omega) (by omega) _ (Ht.out.below (((Below.refl _ _).alloc (Nat.le_refl _) _).alloc (by simp) _))).mono ?_
  rintro e w1 ⟨rfl, hb1⟩
  obtain ⟨c0, c1, f0, f1, hb⟩ := two_cells hb1
  clear hb1
  go_wp2_with fail
  refine leaves_cons (f := 83) (args := #[.pointer (some ⟨w.heap.size, 0, none⟩), .pointer (some ⟨w.heap.size + 1, 0, none⟩)]) (by simp) (by simp [go_sem]) ?_
  refine (pi_idle _ _ _).mono ?_
  rintro e u' w'' ⟨rfl, rfl, rfl⟩
  have hb2 := (hb.setCell (p := ⟨w.heap.size, 0, none⟩) (Nat.le_refl _) (.int .i64 n)).setCell (p := ⟨w.heap.size + 1, 0, none⟩) (Nat.le_succ _) (.bool true)
  simp [Leaves, settle, results, Tryz.results70, go_sem, c0, c1]
  exact hb2

theorem impl_ParseInt_bad (s : ByteArray) (hno : ∀ n : Int, -999999999999 ≤ n → n ≤ 999999999999 → Lib.itoa n ≠ s.data.toList) (hsz : s.size ≤ 281474976710656) (w : World) (ht : Tabs w) :
    Calls Tryz.prog 70 #[.string s] w fun e w' => e = .returned (.tuple #[.int .i64 0, .bool false]) ∧ Below w.heap.size w w' := by
  have hmf : ∀ (fn : Fn) (first cap : Array Value) (w : World), (Instr.makeFunc fn first cap).run Tryz.prog w = .ok (.func fn first cap) w := fun _ _ _ _ => rfl
  have Hno := Lib.hid hno
  have Ht := Lib.hid ht
  clear hno ht
  go_enter_defers Tryz.func70, Tryz.ntmps70
  go_wp2_with fail
  refine (between_bad s _ _ Hno.out hsz _ (Ht.out.below (((Below.refl _ _).alloc (Nat.le_refl _) _).alloc (by simp) _))).mono ?_
  rintro e w1 ⟨⟨pv, rfl⟩, hb1⟩
  obtain ⟨c0, c1, f0, f1, hb⟩ := two_cells hb1
  clear hb1
  go_wp2_with fail
  refine leaves_cons (f := 83) (args := #[.pointer (some ⟨w.heap.size, 0, none⟩), .pointer (some ⟨w.heap.size + 1, 0, none⟩)]) (by simp) (by simp [go_sem]) ?_
  refine (pi_catch _ _ 0 false pv _ c0 c1 f0 f1 (by simp)).mono ?_
  rintro e u' w'' ⟨rfl, rfl, rfl⟩
  have hb2 := (hb.setCell (p := ⟨w.heap.size, 0, none⟩) (Nat.le_refl _) (.int .i64 0)).setCell (p := ⟨w.heap.size + 1, 0, none⟩) (Nat.le_succ _) (.bool false)
  simp [Leaves, settle, results, Tryz.results70, go_sem, c0, c1]
  exact hb2

end Go.Proofs.YtambneapofaclaaGreatDoor
