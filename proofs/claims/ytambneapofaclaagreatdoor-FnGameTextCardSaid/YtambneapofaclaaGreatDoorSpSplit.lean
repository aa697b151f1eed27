/- spec.SplitByte: the parts of a text at a byte, in a row of the call's own; condition: the text has at most 2^20 bytes. -/
import Derived.Test.YtambneapofaclaaGreatDoorChecked
import Derived.Test.YtambneapofaclaaGreatDoorSplitM
import Derived.Handy
import Derived.Below
import Derived.LoopTactic
import Derived.Outline
import Derived.Lib.Hide
import Derived.WalkSpells
import Derived.WalkLawsBesides
import Derived.Laws.AppendOwn
import Derived.Laws.OwnMore
import Derived.Lib.Strings
namespace Go.Proofs.YtambneapofaclaaGreatDoor
open Go.RowKit

theorem info_string : (Tryz.prog.info? 9).map (fun i => (i.zero, i.size, i.bytes)) = some (some (.string ⟨#[]⟩), 1, 16) := by kernel_rfl

/-- A row of the call's own that holds the strings xs. -/
def OwnStrs (B : Nat) (w : World) (v : Value) (xs : List ByteArray) : Prop := w.ownsRow B 9 1 v xs.length (xs.map Value.string)
def SplitRel (b : UInt8) (s : ByteArray) (k fr : Nat) (done : List ByteArray) : Prop :=
  (k ≤ s.size ∧ Cut.Kept b s.data.toList k done fr) ∨ (k = s.size + 1 ∧ fr = s.size + 1 ∧ done = Cut.parts b s.data.toList)
def SplitPost (b : UInt8) (s : ByteArray) (w : World) (e : Ending) (w' : World) : Prop :=
  ∃ v, e = .returned v ∧ OwnStrs w.heap.size w' v (Cut.parts b s.data.toList) ∧ Below w.heap.size w w'

theorem own_more {B : Nat} {w' : World} {v' : Value} {done : List ByteArray} {p : ByteArray} (h : w'.ownsRow B 9 1 v' (done.length + 1) (done.map Value.string ++ [.string p])) : OwnStrs B w' v' (done ++ [p]) := by
  unfold OwnStrs
  simpa using h
theorem rel_hit {b : UInt8} {s : ByteArray} {k fr : Nat} {done : List ByteArray} (h : SplitRel b s k fr done) (hk : k < s.size) (hb : s[k] = b) : SplitRel b s (k + 1) (k + 1) (done ++ [s.extract fr k]) := by
  rcases h with ⟨_, h⟩ | ⟨h, _⟩
  · refine .inl ⟨by omega, Cut.kept_hit h (by simpa using hk) hb _ (Lib.extract_data _ _ _)⟩
  · omega
theorem rel_pass {b : UInt8} {s : ByteArray} {k fr : Nat} {done : List ByteArray} (h : SplitRel b s k fr done) (hk : k < s.size) (hb : s[k] ≠ b) : SplitRel b s (k + 1) fr done := by
  rcases h with ⟨_, h⟩ | ⟨h, _⟩
  · exact .inl ⟨by omega, Cut.kept_pass h (by simpa using hk) hb⟩
  · omega
theorem rel_end {b : UInt8} {s : ByteArray} {fr : Nat} {done : List ByteArray} (h : SplitRel b s s.size fr done) : SplitRel b s (s.size + 1) (s.size + 1) (done ++ [s.extract fr s.size]) := by
  rcases h with ⟨_, h⟩ | ⟨h, _⟩
  · refine .inr ⟨rfl, rfl, ?_⟩
    have e : s.size = s.data.toList.length := by simp
    rw [e] at h
    exact Cut.kept_end h _ (by rw [Lib.extract_data, e])
  · omega
theorem rel_out {b : UInt8} {s : ByteArray} {fr : Nat} {done : List ByteArray} (h : SplitRel b s (s.size + 1) fr done) : done = Cut.parts b s.data.toList := by
  rcases h with ⟨h, _⟩ | ⟨_, _, h⟩
  · omega
  · exact h
theorem byte_is (c b : UInt8) : ((c.toNat : Int) == (b.toNat : Int)) = decide (c = b) := by
  rw [Bool.eq_iff_iff, beq_iff_eq, decide_eq_true_iff]
  constructor
  · intro h; apply UInt8.toNat_inj.1; omega
  · rintro rfl; rfl

set_option maxRecDepth 100000 in
set_option maxHeartbeats 1000000 in
theorem spec_SplitByte (s : ByteArray) (b : UInt8) (hs : s.size ≤ 1048576) (w : World) :
    Calls Tryz.prog 31 #[.string s, .int .u8 b.toNat] w (SplitPost b s w) := by
  obtain ⟨i0, hi, hz0, hz1, hz2⟩ := info_parts info_string
  have HI := Lib.hid hi
  have HZ0 := Lib.hid hz0
  have HZ1 := Lib.hid hz1
  have HZ2 := Lib.hid hz2
  clear hi hz0 hz1 hz2
  go_enter Tryz.func31, Tryz.ntmps31
  go_wp2_with fail
  go_loopw [5, 6, 7] (fun v f i wr => ∃ (k fr : Nat) (done : List ByteArray), k ≤ s.size + 1 ∧ fr ≤ k ∧ done.length ≤ k ∧ f = .int .i64 fr ∧ i = .int .i64 k ∧ Hid (SplitRel b s k fr done) ∧ Hid (OwnStrs w.heap.size wr v done) ∧ Hid (Below w.heap.size w wr))
    (fun _ _ i _ => s.size + 1 - (intOf i).toNat)
  case atStart => exact ⟨0, 0, [], Nat.zero_le _, Nat.le_refl _, Nat.le_refl _, rfl, rfl, .inl ⟨Nat.zero_le _, Cut.kept_start _ _⟩, World.ownsRow_made w #[] 0 (Nat.le_refl _) (Nat.zero_le _) rfl, (Below.refl _ _).alloc (Nat.le_refl _) _⟩
  case round =>
    obtain ⟨k, fr, done, hk, hf, hd, rfl, rfl, hR, hO, hB⟩ := hrel
    have hsz := hB.out.size
    have hown := World.ownsRow.alloc hO.out (.cells #[.string (s.extract fr k)] 9)
    have Hown := Lib.hid hown
    clear hown
    by_cases h1 : k < s.size
    · by_cases hb : s[k] = b
      · have e1 := Lib.hid (rel_hit hR.out h1 hb)
        have e2 : ((s[k].toNat : Int) == (b.toNat : Int)) = true := by rw [byte_is]; simpa using hb
        have e3 : ((k : Int) == (s.size : Int)) = false := by rw [beq_eq_false_iff_ne]; omega
        go_wp2_with (at_builtin; refine wpList_append_own _ rfl _ _ 54 rfl w.heap.size 9 i0 (.string ⟨#[]⟩) 1 16 Tryz.underlying54 HI.out HZ0.out HZ1.out HZ2.out rfl (by decide) _ _ _ rfl Hown.out ⟨wr.heap.size, 0, none⟩ 1 1 [.string (s.extract fr k)] rfl rfl ?c1 ?c2 ?c3 ?c4 ?c5 ?_)
        case c1 =>
          intro j u hj
          match j, hj with
          | 0, hj => simp at hj; subst hj; simp [Addr.add]
        case c2 => intro u hu; simp at hu; subst hu; rfl
        case c3 => unfold maxLen; omega
        case c4 => omega
        case c5 => simp; omega
        intro v' w1 hown' hgrow _
        have Ho1 := Lib.hid (own_more hown')
        have Hb1 := Lib.hid ((hB.out.alloc hsz _).grown hgrow (by simp; omega) (fun g hg => (Hown.out.lt g hg).1))
        clear hown' hgrow
        go_wp2_with fail
        go_roundw
        case rel => exact ⟨k + 1, k + 1, done ++ [s.extract fr k], by omega, by omega, by simp; omega, by go_num, by go_num, e1, Ho1, Hb1⟩
        case measure => simp [intOf]; omega
      · have e1 := Lib.hid (rel_pass hR.out h1 hb)
        have e2 : ((s[k].toNat : Int) == (b.toNat : Int)) = false := by rw [byte_is]; simpa using hb
        have e3 : ((k : Int) == (s.size : Int)) = false := by rw [beq_eq_false_iff_ne]; omega
        go_wp2_with fail
        go_roundw
        case rel => exact ⟨k + 1, fr, done, by omega, by omega, by omega, rfl, by go_num, e1, hO, hB⟩
        case measure => simp [intOf]; omega
    · by_cases h2 : k = s.size
      · have e1 : Hid (SplitRel b s (k + 1) (k + 1) (done ++ [s.extract fr k])) := by
          subst h2
          exact rel_end hR.out
        have e3 : ((k : Int) == (s.size : Int)) = true := by rw [beq_iff_eq]; omega
        have hle : s.size ≤ k := by omega
        have hge : k ≤ s.size := by omega
        clear h2
        go_wp2_with (at_builtin; refine wpList_append_own _ rfl _ _ 54 rfl w.heap.size 9 i0 (.string ⟨#[]⟩) 1 16 Tryz.underlying54 HI.out HZ0.out HZ1.out HZ2.out rfl (by decide) _ _ _ rfl Hown.out ⟨wr.heap.size, 0, none⟩ 1 1 [.string (s.extract fr k)] rfl rfl ?c1 ?c2 ?c3 ?c4 ?c5 ?_)
        case c1 =>
          intro j u hj
          match j, hj with
          | 0, hj => simp at hj; subst hj; simp [Addr.add]
        case c2 => intro u hu; simp at hu; subst hu; rfl
        case c3 => unfold maxLen; omega
        case c4 => omega
        case c5 => simp; omega
        intro v' w1 hown' hgrow _
        have Ho1 := Lib.hid (own_more hown')
        have Hb1 := Lib.hid ((hB.out.alloc hsz _).grown hgrow (by simp; omega) (fun g hg => (Hown.out.lt g hg).1))
        clear hown' hgrow
        go_wp2_with fail
        go_roundw
        case rel => exact ⟨k + 1, k + 1, done ++ [s.extract fr k], by omega, by omega, by simp; omega, by go_num, by go_num, e1, Ho1, Hb1⟩
        case measure => simp [intOf]; omega
      · have h3 : k = s.size + 1 := by omega
        subst h3
        have e1 := Lib.hid (rel_out hR.out)
        go_wp2_with fail
        go_ret
        exact ⟨_, rfl, by rw [← e1.out]; exact hO, hB⟩
end Go.Proofs.YtambneapofaclaaGreatDoor
