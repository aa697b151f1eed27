/- FormatRat on both sides: the text of a fraction; condition on impl's: the table of powers of ten that strconv reads is laid. -/
import Derived.Test.YtlaohlcghdbjhaaDoorRaL0
import Derived.Test.YtlaohlcghdbjhaaDoorRaTM
import Derived.Test.YtlaohlcghdbjhaaDoorIntF
import Derived.Test.YtlaohlcghdbjhaaDoorSpFmt
import Derived.Lib.ItoaLen
namespace Go.Proofs.YtlaohlcghdbjhaaDoor
open Go.RowKit

theorem ret_str {a b : ByteArray} (h : a = b) : Ending.returned (.string a) = .returned (.string b) := by rw [h]
def PowAt (w : World) : Prop := Lib.TabIs Tryd.prog w "internal/strconv.uint64pow10" .u64 Lib.pow10Tab
theorem PowAt.below {w w' : World} (h : PowAt w) (hb : Below w.heap.size w w') : PowAt w' := Joins.var_stays gPow h hb (Nat.le_refl _)
theorem PowAt.alloc {w : World} (h : PowAt w) (o : Obj) : PowAt (w.alloc o) := h.below ((Below.refl _ _).alloc (Nat.le_refl _) o)
theorem PowAt.since {B w : World} (h : PowAt B) (hb : Since B w) : PowAt w := h.below hb.low
/-- A fraction's box, read later. -/
def Box (p : Nat) (n d : Int) (B : World) : Prop := B.cell? ⟨p, 0, none⟩ = some (.int .i64 n) ∧ B.cell? ⟨p, 1, none⟩ = some (.int .i64 d) ∧ p < B.heap.size
theorem box_start (w : World) (n d : Int) (t : TypeId) : Box w.heap.size n d (w.alloc (.cells #[.int .i64 n, .int .i64 d] t)) := by
  obtain ⟨a, b, c⟩ := kept1 (Below.refl _ (w.alloc (.cells #[.int .i64 n, .int .i64 d] t)))
  exact ⟨a, b, c⟩
theorem Box.three {p : Nat} {n d : Int} {B wx : World} (H : Hid (Box p n d B)) (h : Since B wx) :
    wx.cell? ⟨p, 0, none⟩ = some (.int .i64 n) ∧ wx.cell? ⟨p, 1, none⟩ = some (.int .i64 d) ∧ Since B wx :=
  ⟨h.cell H.out.2.2 H.out.1, h.cell H.out.2.2 H.out.2.1, h⟩
theorem txt_bytes {n d : Int} (h : d ≠ 1) : (ByteArray.mk (Lib.itoa n).toArray ++ ByteArray.mk #[47]) ++ ByteArray.mk (Lib.itoa d).toArray = ByteArray.mk (Ra.txt n d).toArray := by
  unfold Ra.txt
  rw [if_neg h]
  apply ByteArray.ext
  simp
set_option maxHeartbeats 1000000 in
theorem spec_FormatRat (n d : Int) (w : World) : Calls Tryd.prog 42 #[.agg #[.int .i64 n, .int .i64 d]] w fun e w' => e = .returned (.string ⟨(Ra.fmt n d).toArray⟩) ∧ Below w.heap.size w w' := by
  rcases h : Ra.vld n d with _ | _
  · rw [Ra.fmt_no h]
    have H := Lib.hid h
    clear h
    go_enter Tryd.func42, Tryd.ntmps42
    go_wp2_with fail
    refine (spec_IsValidRat n d false H.out _).mono ?_
    rintro e w1 ⟨rfl, hb1⟩
    have Hb := Lib.hid (low1 hb1)
    clear hb1
    go_wp2_with fail
    go_ret
    exact ⟨rfl, Hb.out⟩
  · rw [Ra.fmt_yes h]
    have v := Ra.vld_yes h
    have H := Lib.hid h
    have n0 : -9223372036854775808 ≤ n := by omega
    have n1 : n ≤ 9223372036854775807 := by omega
    have d0 : -9223372036854775808 ≤ d := by omega
    have d1 : d ≤ 9223372036854775807 := by omega
    clear h v
    by_cases hd : d = 1
    · subst hd
      go_enter Tryd.func42, Tryd.ntmps42
      go_wp2_with fail
      refine (spec_IsValidRat n 1 true H.out _).mono ?_
      rintro e w1 ⟨rfl, hb1⟩
      have Hb := Lib.hid (low1 hb1)
      obtain ⟨a0, a1, hz⟩ := kept1 hb1
      clear hb1
      go_wp2_with fail
      refine (spec_FormatInt n n0 n1 _).mono ?_
      rintro e w2 ⟨rfl, hb2⟩
      have Hb2 := Lib.hid (Hb.out.trans (hb2.mono Hb.out.size))
      clear hb2
      go_wp2_with fail
      go_ret
      exact ⟨rfl, Hb2.out⟩
    · have hb : (d == 1) = false := by rw [beq_eq_false_iff_ne]; exact hd
      have Ht := Lib.hid (txt_bytes (n := n) hd)
      have Hbx := Lib.hid (box_start w n d 26)
      have hl1 := Lib.itoa_length_le n n0 n1
      have hl2 := Lib.itoa_length_le d d0 d1
      have k1 := fun w => run_string_add_sum (P := Tryd.prog) w (ByteArray.mk (Lib.itoa n).toArray) (ByteArray.mk #[47]) (by simp [ByteArray.size]; omega)
      have k2 := fun w => run_string_add_sum (P := Tryd.prog) w (ByteArray.mk (Lib.itoa n).toArray ++ ByteArray.mk #[47]) (ByteArray.mk (Lib.itoa d).toArray) (by simp [ByteArray.size]; omega)
      clear hd
      go_enter Tryd.func42, Tryd.ntmps42
      go_wp2_with fail
      refine (spec_IsValidRat n d true H.out _).mono ?_
      rintro e w1 ⟨rfl, hb1⟩
      have hin : Since (w.alloc (.cells #[.int .i64 n, .int .i64 d] 26)) w1 := ⟨hb1⟩
      obtain ⟨a0, a1, hz⟩ := kept1 hb1
      clear hb1
      go_wp2_with fail
      go_region_held3 (fun w' => w'.cell? ⟨w.heap.size, 0, none⟩ = some (.int .i64 n) ∧ w'.cell? ⟨w.heap.size, 1, none⟩ = some (.int .i64 d) ∧ Since (w.alloc (.cells #[.int .i64 n, .int .i64 d] 26)) w') (first | exact Box.three Hbx (by assumption) | exact Box.three Hbx (Since.drew (by assumption)))
        (first | (go_at_call 58; refine (calls_since (spec_FormatInt _ (by omega) (by omega) _) (B := (w.alloc (.cells #[.int .i64 n, .int .i64 d] 26))) (by first | assumption | exact Since.drew (by assumption))).mono ?_; rintro e w' ⟨⟨rfl, _⟩, hin2⟩))
      all_goals
        go_wp2_with fail
        go_ret
        exact ⟨ret_str Ht.out, low1 (Since.low (by assumption))⟩
set_option maxHeartbeats 1000000 in
theorem impl_FormatRat (n d : Int) (w : World) (hpow : PowAt w) : Calls Tryd.prog 40 #[.agg #[.int .i64 n, .int .i64 d]] w fun e w' => e = .returned (.string ⟨(Ra.fmt n d).toArray⟩) ∧ Below w.heap.size w w' := by
  have Hp := Lib.hid (hpow.alloc (.cells #[.int .i64 n, .int .i64 d] 26))
  clear hpow
  rcases h : Ra.vld n d with _ | _
  · rw [Ra.fmt_no h]
    have H := Lib.hid h
    clear h
    go_enter Tryd.func40, Tryd.ntmps40
    go_wp2_with fail
    refine (impl_IsValidRat n d false H.out _).mono ?_
    rintro e w1 ⟨rfl, hb1⟩
    have Hb := Lib.hid (low1 hb1)
    clear hb1
    go_wp2_with fail
    go_ret
    exact ⟨rfl, Hb.out⟩
  · rw [Ra.fmt_yes h]
    have v := Ra.vld_yes h
    have H := Lib.hid h
    have n0 : -9223372036854775808 ≤ n := by omega
    have n1 : n ≤ 9223372036854775807 := by omega
    have d0 : -9223372036854775808 ≤ d := by omega
    have d1 : d ≤ 9223372036854775807 := by omega
    clear h v
    by_cases hd : d = 1
    · subst hd
      go_enter Tryd.func40, Tryd.ntmps40
      go_wp2_with fail
      refine (impl_IsValidRat n 1 true H.out _).mono ?_
      rintro e w1 ⟨rfl, hb1⟩
      have Hb := Lib.hid (low1 hb1)
      have Hp1 := Lib.hid (Hp.out.below hb1)
      obtain ⟨a0, a1, hz⟩ := kept1 hb1
      clear hb1
      go_wp2_with fail
      refine (impl_FormatInt0 n n0 n1 _ Hp1.out).mono ?_
      rintro e w2 ⟨rfl, hb2⟩
      have Hb2 := Lib.hid (Hb.out.trans (hb2.mono Hb.out.size))
      clear hb2
      go_wp2_with fail
      go_ret
      exact ⟨rfl, Hb2.out⟩
    · have hb : (d == 1) = false := by rw [beq_eq_false_iff_ne]; exact hd
      have Ht := Lib.hid (txt_bytes (n := n) hd)
      have Hbx := Lib.hid (box_start w n d 26)
      have hl1 := Lib.itoa_length_le n n0 n1
      have hl2 := Lib.itoa_length_le d d0 d1
      have k1 := fun w => run_string_add_sum (P := Tryd.prog) w (ByteArray.mk (Lib.itoa n).toArray) (ByteArray.mk #[47]) (by simp [ByteArray.size]; omega)
      have k2 := fun w => run_string_add_sum (P := Tryd.prog) w (ByteArray.mk (Lib.itoa n).toArray ++ ByteArray.mk #[47]) (ByteArray.mk (Lib.itoa d).toArray) (by simp [ByteArray.size]; omega)
      clear hd
      go_enter Tryd.func40, Tryd.ntmps40
      go_wp2_with fail
      refine (impl_IsValidRat n d true H.out _).mono ?_
      rintro e w1 ⟨rfl, hb1⟩
      have hin : Since (w.alloc (.cells #[.int .i64 n, .int .i64 d] 26)) w1 := ⟨hb1⟩
      obtain ⟨a0, a1, hz⟩ := kept1 hb1
      clear hb1
      go_wp2_with fail
      go_region_held3 (fun w' => w'.cell? ⟨w.heap.size, 0, none⟩ = some (.int .i64 n) ∧ w'.cell? ⟨w.heap.size, 1, none⟩ = some (.int .i64 d) ∧ Since (w.alloc (.cells #[.int .i64 n, .int .i64 d] 26)) w') (first | exact Box.three Hbx (by assumption) | exact Box.three Hbx (Since.drew (by assumption)))
        (first | (go_at_call 56; refine (calls_since (impl_FormatInt0 _ (by omega) (by omega) _ (PowAt.since Hp.out (by first | assumption | exact Since.drew (by assumption)))) (B := (w.alloc (.cells #[.int .i64 n, .int .i64 d] 26))) (by first | assumption | exact Since.drew (by assumption))).mono ?_; rintro e w' ⟨⟨rfl, _⟩, hin2⟩))
      all_goals
        go_wp2_with fail
        go_ret
        exact ⟨ret_str Ht.out, low1 (Since.low (by assumption))⟩
end Go.Proofs.YtlaohlcghdbjhaaDoor
