/- spec.l1Read, spec.ParseNumber, spec.ParseInt at every string; no condition but the string's length. -/
import Derived.Test.YtambneapofaclaaGreatDoorSpFmt
import Derived.Deep.DeepCutAuto
import Derived.Deep.LoopGhost
namespace Go.Proofs.YtambneapofaclaaGreatDoor
open Go.RowKit

/-- A pair of an int and whether there is one. -/
def pairOf : Option Int → Value
  | some n => .tuple #[.int .i64 n, .bool true]
  | none => .tuple #[.int .i64 0, .bool false]


theorem head_pos (s : ByteArray) (h : 0 < s.size) : s.data.toList.head? = some s[0] := by
  obtain ⟨⟨l⟩⟩ := s
  cases l with
  | nil => exact absurd h (by decide)
  | cons c r => rfl
theorem byte_eq (c : UInt8) (k : Nat) (hk : k < 256) : ((c.toNat : Int) == (k : Int)) = decide (c = UInt8.ofNat k) := by
  rw [Bool.eq_iff_iff, beq_iff_eq, decide_eq_true_iff]
  constructor
  · intro h; apply UInt8.toNat_inj.1; rw [UInt8.toNat_ofNat_of_lt' hk]; omega
  · rintro rfl; rw [UInt8.toNat_ofNat_of_lt' hk]

set_option maxRecDepth 100000 in
set_option maxHeartbeats 1000000 in
theorem spec_l1Read (s : ByteArray) (m : Nat) (hm : m ≤ 12) (hsz : s.size ≤ 281474976710656) (w : World) :
    Calls Tryz.prog 75 #[.string s, .int .i64 m] w fun e w' => e = .returned (pairOf (Dec.rd m s.data.toList)) ∧ Below w.heap.size w w' := by
  go_enter Tryz.func75, Tryz.ntmps75
  go_upto_region 1 with fail
  go_cut [6] (fun b wx => ∃ bb : Bool, b = .bool bb ∧ Hid (bb = decide (s.data.toList.head? = some 45)) ∧ w = wx)
  case first =>
    by_cases hp : 0 < s.size
    · have h0 := head_pos s hp
      have hx := byte_eq s[0] 45 (by decide)
      have hf : Hid (((s[0].toNat : Int) == 45) = decide (s.data.toList.head? = some 45)) := by
        show _ = _
        rw [h0]; simpa using hx
      clear h0 hx
      go_wp2_with fail
      go_meet
      exact ⟨_, rfl, hf, rfl⟩
    · have hf : Hid (false = decide (s.data.toList.head? = some 45)) := by
        show false = _
        have h1 : s.data.toList = [] := by
          have : s.data.toList.length = s.size := by simp
          apply List.eq_nil_of_length_eq_zero; omega
        rw [h1]; rfl
      go_wp2_with fail
      go_meet
      exact ⟨_, rfl, hf, rfl⟩
  case rest =>
    obtain ⟨bb, rfl, hbb, rfl⟩ := hcut
    go_upto_if 19 with fail
    go_cut [7] (fun t wx => ∃ tt : ByteArray, t = .string tt ∧ tt.size ≤ 281474976710656 ∧ Hid (tt.data.toList = Dec.bodyOf s.data.toList) ∧ w = wx)
    case first =>
      cases bb with
      | true =>
        have hp : 0 < s.size := by
          rcases Nat.eq_zero_or_pos s.size with h | h
          · exfalso
            have h1 : s.data.toList = [] := by
              have : s.data.toList.length = s.size := by simp
              apply List.eq_nil_of_length_eq_zero; omega
            have h2 : true = decide (s.data.toList.head? = some 45) := hbb
            rw [h1] at h2; simp at h2
          · exact h
        have hx : Hid ((s.extract 1 s.size).data.toList = Dec.bodyOf s.data.toList) := by
          show _ = _
          have h2 : true = decide (s.data.toList.head? = some 45) := hbb
          unfold Dec.bodyOf
          rw [if_pos (by simpa using h2.symm)]
          obtain ⟨⟨l⟩⟩ := s
          cases l with
          | nil => rfl
          | cons c r => simp [ByteArray.data_extract, ByteArray.size]
        have hxs : (s.extract 1 s.size).size ≤ 281474976710656 := by simp; omega
        go_wp2_with fail
        go_meet
        exact ⟨_, rfl, hxs, hx, rfl⟩
      | false =>
        have hx : Hid (s.data.toList = Dec.bodyOf s.data.toList) := by
          show _ = _
          have h2 : false = decide (s.data.toList.head? = some 45) := hbb
          unfold Dec.bodyOf
          rw [if_neg (by simpa using h2.symm)]
        go_wp2_with fail
        go_meet
        exact ⟨_, rfl, hsz, hx, rfl⟩
    case rest =>
      obtain ⟨t, rfl, htl, hte, rfl⟩ := hcut
      have hlen : t.data.toList.length = t.size := by simp
      by_cases h1 : t.size < 1
      · have hr : Hid (Dec.rd m s.data.toList = none) := Dec.rd_len (by rw [← hte.out, hlen]; omega)
        clear hlen
        have hb1 : decide (t.size < 1) = true := by simpa using h1
        go_wp2_with fail
        go_ret2
        exact ⟨by rw [hr.out]; rfl, Below.refl _ _⟩
      · by_cases h2 : m < t.size
        · have hr : Hid (Dec.rd m s.data.toList = none) := Dec.rd_len (by rw [← hte.out, hlen]; omega)
          clear hlen
          go_wp2_with fail
          go_ret2
          exact ⟨by rw [hr.out]; rfl, Below.refl _ _⟩
        · have hmid : Hid (¬ ((Dec.bodyOf s.data.toList).length < 1 ∨ m < (Dec.bodyOf s.data.toList).length)) := by
            show ¬ _
            rw [← hte.out, hlen]; omega
          clear hlen
          have hb1 : decide (t.size < 1) = false := by simpa using h1
          go_wp2_with fail
          go_loop [8, 9] (fun a i => ∃ k u : Nat, k ≤ t.size ∧ u < 1000000000000 ∧ i = .int .i64 k ∧ a = .int .i64 u ∧ Hid (Lib.decFrom 0 (t.data.toList.take k) = some u)) (fun _ i => t.size - (intOf i).toNat)
          case atStart => exact ⟨0, 0, Nat.zero_le _, by decide, rfl, rfl, rfl⟩
          case round =>
            obtain ⟨k, u, hk, hu, rfl, rfl, hd⟩ := hrel
            by_cases hlt : k < t.size
            · have hget : t.data.toList[k]? = some t[k] := by
                rw [List.getElem?_eq_getElem (by simpa using hlt)]; rfl
              by_cases hdig : 48 ≤ t[k].toNat ∧ t[k].toNat ≤ 57
              · have hd2 := Dec.dec_step hd.out hget hdig
                have hu2 := Dec.dec_bound hd2 (by omega)
                have Hd2 := Lib.hid hd2
                obtain ⟨g1, g2⟩ := hdig
                clear hd2 hget
                go_wp2_with fail
                go_round
                case rel => exact ⟨k + 1, u * 10 + (t[k].toNat - 48), by omega, hu2, by go_num, by go_num, Hd2⟩
                case measure => simp [intOf]; omega
              · have hr : Hid (Dec.rd m s.data.toList = none) := Dec.rd_sick k t[k] (by rw [← hte.out]; exact hget) hdig
                clear hget
                by_cases h48 : t[k].toNat < 48
                · go_wp2_with fail
                  go_ret2
                  exact ⟨by rw [hr.out]; rfl, Below.refl _ _⟩
                · have h57 : 57 < t[k].toNat := by omega
                  clear hdig
                  go_wp2_with fail
                  go_ret2
                  exact ⟨by rw [hr.out]; rfl, Below.refl _ _⟩
            · have hke : k = t.size := by omega
              have hfull : Hid (Lib.decFrom 0 (Dec.bodyOf s.data.toList) = some u) := by
                show _ = _
                rw [← hte.out, ← hd.out, hke, List.take_of_length_le (by simp)]
              have Hy := Lib.hid (Dec.rd_yes hmid.out hfull.out)
              clear hke
              cases bb with
              | true =>
                have hsg : Dec.signed s.data.toList u = -(u : Int) := by
                  have h2 : true = decide (s.data.toList.head? = some 45) := hbb
                  unfold Dec.signed; rw [if_pos (by simpa using h2.symm)]
                have Hsg := Lib.hid hsg
                clear hsg
                have Hy2 : Hid (Dec.rd m s.data.toList = if Lib.itoa (-(u : Int)) = s.data.toList then some (-(u : Int)) else none) := by
                  have := Hy.out; rw [Hsg.out] at this; exact this
                clear Hy Hsg
                by_cases hEq : Lib.itoa (-(u : Int)) = s.data.toList
                · have Hr : Hid (Dec.rd m s.data.toList = some (-(u : Int))) := by rw [if_pos hEq] at Hy2; exact Hy2
                  have hne : (Lib.itoa (-(u : Int)) == s.toList) = true := by rw [beq_iff_eq, hEq, ByteArray.toList_eq]
                  have Hne := Lib.hid hne
                  clear hEq hne Hy2
                  go_wp2_with fail
                  refine (spec_FormatInt (-(u : Int)) (by omega) (by omega) _).mono ?_
                  rintro e w1 ⟨rfl, hb1⟩
                  have hne := Hne.out
                  go_wp2_with fail
                  go_ret2
                  exact ⟨by rw [Hr.out]; rfl, hb1⟩
                · have Hr : Hid (Dec.rd m s.data.toList = none) := by rw [if_neg hEq] at Hy2; exact Hy2
                  have hne : (Lib.itoa (-(u : Int)) == s.toList) = false := by rw [beq_eq_false_iff_ne, ByteArray.toList_eq]; exact hEq
                  have Hne := Lib.hid hne
                  clear hEq hne Hy2
                  go_wp2_with fail
                  refine (spec_FormatInt (-(u : Int)) (by omega) (by omega) _).mono ?_
                  rintro e w1 ⟨rfl, hb1⟩
                  have hne := Hne.out
                  go_wp2_with fail
                  go_ret2
                  exact ⟨by rw [Hr.out]; rfl, hb1⟩
              | false =>
                have hsg : Dec.signed s.data.toList u = (u : Int) := by
                  have h2 : false = decide (s.data.toList.head? = some 45) := hbb
                  unfold Dec.signed; rw [if_neg (by simpa using h2.symm)]
                have Hsg := Lib.hid hsg
                clear hsg
                have Hy2 : Hid (Dec.rd m s.data.toList = if Lib.itoa ((u : Int)) = s.data.toList then some ((u : Int)) else none) := by
                  have := Hy.out; rw [Hsg.out] at this; exact this
                clear Hy Hsg
                by_cases hEq : Lib.itoa ((u : Int)) = s.data.toList
                · have Hr : Hid (Dec.rd m s.data.toList = some ((u : Int))) := by rw [if_pos hEq] at Hy2; exact Hy2
                  have hne : (Lib.itoa ((u : Int)) == s.toList) = true := by rw [beq_iff_eq, hEq, ByteArray.toList_eq]
                  have Hne := Lib.hid hne
                  clear hEq hne Hy2
                  go_wp2_with fail
                  refine (spec_FormatInt ((u : Int)) (by omega) (by omega) _).mono ?_
                  rintro e w1 ⟨rfl, hb1⟩
                  have hne := Hne.out
                  go_wp2_with fail
                  go_ret2
                  exact ⟨by rw [Hr.out]; rfl, hb1⟩
                · have Hr : Hid (Dec.rd m s.data.toList = none) := by rw [if_neg hEq] at Hy2; exact Hy2
                  have hne : (Lib.itoa ((u : Int)) == s.toList) = false := by rw [beq_eq_false_iff_ne, ByteArray.toList_eq]; exact hEq
                  have Hne := Lib.hid hne
                  clear hEq hne Hy2
                  go_wp2_with fail
                  refine (spec_FormatInt ((u : Int)) (by omega) (by omega) _).mono ?_
                  rintro e w1 ⟨rfl, hb1⟩
                  have hne := Hne.out
                  go_wp2_with fail
                  go_ret2
                  exact ⟨by rw [Hr.out]; rfl, hb1⟩

theorem spec_ParseInt_ok (s : ByteArray) (n : Int) (hs : Lib.itoa n = s.data.toList) (hlo : -999999999999 ≤ n) (hhi : n ≤ 999999999999) (hsz : s.size ≤ 281474976710656) (w : World) :
    Calls Tryz.prog 59 #[.string s] w fun e w' => e = .returned (.tuple #[.int .i64 n, .bool true]) ∧ Below w.heap.size w w' := by
  have hr : pairOf (Dec.rd 12 s.data.toList) = .tuple #[.int .i64 n, .bool true] := by
    rw [← hs, Dec.rd_ok n (by decide) (by show _ < 1000000000000; omega)]; rfl
  have Hr := Lib.hid hr
  clear hr hs
  go_enter Tryz.func59, Tryz.ntmps59
  go_wp2_with fail
  refine (spec_l1Read s 12 (by decide) hsz _).mono ?_
  rintro e w1 ⟨rfl, hb1⟩
  rw [Hr.out]
  go_wp2_with fail
  go_ret2
  exact ⟨rfl, hb1⟩
theorem spec_ParseInt_bad (s : ByteArray) (hno : ∀ n : Int, -999999999999 ≤ n → n ≤ 999999999999 → Lib.itoa n ≠ s.data.toList) (hsz : s.size ≤ 281474976710656) (w : World) :
    Calls Tryz.prog 59 #[.string s] w fun e w' => e = .returned (.tuple #[.int .i64 0, .bool false]) ∧ Below w.heap.size w w' := by
  have hr : pairOf (Dec.rd 12 s.data.toList) = .tuple #[.int .i64 0, .bool false] := by
    rw [Dec.rd_none (fun n hn => hno n (by have : n.natAbs < 1000000000000 := hn; omega) (by have : n.natAbs < 1000000000000 := hn; omega))]; rfl
  have Hr := Lib.hid hr
  clear hr hno
  go_enter Tryz.func59, Tryz.ntmps59
  go_wp2_with fail
  refine (spec_l1Read s 12 (by decide) hsz _).mono ?_
  rintro e w1 ⟨rfl, hb1⟩
  rw [Hr.out]
  go_wp2_with fail
  go_ret2
  exact ⟨rfl, hb1⟩
theorem spec_ParseNumber_ok (s : ByteArray) (n : Int) (hs : Lib.itoa n = s.data.toList) (hlo : 0 ≤ n) (hhi : n ≤ 999999) (hsz : s.size ≤ 281474976710656) (w : World) :
    Calls Tryz.prog 57 #[.string s] w fun e w' => e = .returned (.tuple #[.int .i64 n, .bool true]) ∧ Below w.heap.size w w' := by
  have hr : pairOf (Dec.rd 6 s.data.toList) = .tuple #[.int .i64 n, .bool true] := by
    rw [← hs, Dec.rd_ok n (by decide) (by show _ < 1000000; omega)]; rfl
  have Hr := Lib.hid hr
  clear hr hs
  go_enter Tryz.func57, Tryz.ntmps57
  go_wp2_with fail
  refine (spec_l1Read s 6 (by decide) hsz _).mono ?_
  rintro e w1 ⟨rfl, hb1⟩
  rw [Hr.out]
  go_wp2_with fail
  go_ret2
  exact ⟨rfl, hb1⟩
theorem spec_ParseNumber_bad (s : ByteArray) (hno : ∀ n : Int, 0 ≤ n → n ≤ 999999 → Lib.itoa n ≠ s.data.toList) (hsz : s.size ≤ 281474976710656) (w : World) :
    Calls Tryz.prog 57 #[.string s] w fun e w' => e = .returned (.tuple #[.int .i64 0, .bool false]) ∧ Below w.heap.size w w' := by
  cases hr : Dec.rd 6 s.data.toList with
  | none =>
    have Hr := Lib.hid hr
    clear hr hno
    go_enter Tryz.func57, Tryz.ntmps57
    go_wp2_with fail
    refine (spec_l1Read s 6 (by decide) hsz _).mono ?_
    rintro e w1 ⟨rfl, hb1⟩
    rw [Hr.out]
    unfold pairOf
    go_wp2_with fail
    go_ret2
    exact ⟨rfl, hb1⟩
  | some n =>
    obtain ⟨h1, h2⟩ := Dec.rd_some hr
    have h2' : n.natAbs < 1000000 := h2
    have hneg : n < 0 := by
      rcases Int.lt_or_le n 0 with h | h
      · exact h
      · exact absurd h1 (hno n h (by omega))
    have Hr := Lib.hid hr
    clear hr hno h1 h2 h2'
    have hd : decide (n < 0) = true := by simpa using hneg
    go_enter Tryz.func57, Tryz.ntmps57
    go_wp2_with fail
    refine (spec_l1Read s 6 (by decide) hsz _).mono ?_
    rintro e w1 ⟨rfl, hb1⟩
    rw [Hr.out]
    unfold pairOf
    go_wp2_with fail
    go_ret2
    exact ⟨rfl, hb1⟩
end Go.Proofs.YtambneapofaclaaGreatDoor
