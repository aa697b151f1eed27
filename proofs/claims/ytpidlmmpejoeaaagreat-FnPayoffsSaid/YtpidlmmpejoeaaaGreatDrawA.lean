/- The cursor that draws (spec.l1New, l1Byte, l1Below, l1Once): whatever the bytes, a number in range is drawn, and nothing but the cursor's own block turns. -/
import Derived.Test.YtpidlmmpejoeaaaGreatChecked
import Derived.Test.YtpidlmmpejoeaaaGreatOnl
import Derived.Handy
import Derived.Below
import Derived.OneCell
import Derived.LoopTactic
import Derived.Outline
import Derived.Lib.Hide
import Derived.WalkSpells
import Derived.WalkLawsBesides
import Derived.Deep.QuietTactic
import Derived.BigQuiet
import Derived.Deep.DeepCutAuto
set_option maxRecDepth 100000
namespace Go.Proofs.YtpidlmmpejoeaaaGreat
open Go.RowKit

def CodeAt (B : Nat) (w : World) (a : Option Addr) (len : Nat) : Prop :=
 len ≤ 9223372036854775807 ∧ ∀ i, i < len → ∃ (b o : Nat) (z : Int), a = some ⟨b, o, none⟩ ∧ b < B ∧ 0 ≤ z ∧ z ≤ 255 ∧ w.cell? ⟨b, o + i, none⟩ = some (.int .u8 z)
theorem CodeAt.below {B : Nat} {w w' : World} {a : Option Addr} {len : Nat} (h : CodeAt B w a len) (hb : Below B w w') : CodeAt B w' a len :=
 ⟨h.1, fun i hi => by obtain ⟨b, o, z, h1, h2, h3, h4, h5⟩ := h.2 i hi; exact ⟨b, o, z, h1, h2, h3, h4, by rw [hb.cell (p := ⟨b, o + i, none⟩) h2]; exact h5⟩⟩

theorem CodeAt.mono {B B' : Nat} {w : World} {a : Option Addr} {len : Nat} (h : CodeAt B w a len) (hB : B ≤ B') : CodeAt B' w a len :=
 ⟨h.1, fun i hi => by obtain ⟨b, o, z, h1, h2, h3⟩ := h.2 i hi; exact ⟨b, o, z, h1, Nat.lt_of_lt_of_le h2 hB, h3⟩⟩

def Cur (w : World) (p : Nat) (a : Option Addr) (len cap : Nat) : Prop :=
 ∃ i h : Int, 0 ≤ i ∧ i ≤ len ∧ w.heap[p]? = some (.cells #[.slice a len cap, .int .i64 i, .int .i64 h] 82)

theorem cells_of {w : World} {p : Nat} {x y z : Value} {t : TypeId} (h : w.heap[p]? = some (.cells #[x, y, z] t)) :
  w.cell? ⟨p, 0, none⟩ = some x ∧ w.cell? ⟨p, 1, none⟩ = some y ∧ w.cell? ⟨p, 2, none⟩ = some z ∧
  w.frozen? ⟨p, 0, none⟩ = false ∧ w.frozen? ⟨p, 1, none⟩ = false ∧ w.frozen? ⟨p, 2, none⟩ = false := by
 simp [World.cell?, World.frozen?, h]

def DrewInt (lo hi : Int) (p : Nat) (a : Option Addr) (len cap : Nat) (w : World) (e : Ending) (w' : World) : Prop :=
 ∃ x : Int, e = .returned (.int .i64 x) ∧ lo ≤ x ∧ x ≤ hi ∧ Cur w' p a len cap ∧ Only p w w'

theorem and_255 (x : Int) : 0 ≤ bits .and .i64 x 255 ∧ bits .and .i64 x 255 ≤ 255 := by
 have h : (BitVec.ofInt 64 x &&& BitVec.ofInt 64 255).toNat ≤ 255 := by
  rw [BitVec.toNat_and]
  exact Nat.le_trans Nat.and_le_right (by decide)
 have e : bits .and .i64 x 255 = IntKind.i64.wrap (((BitVec.ofInt 64 x &&& BitVec.ofInt 64 255).toNat : Nat) : Int) := rfl
 rw [e, IntWalk.i64_in _ (by omega)]
 omega
theorem set_at {w : World} {p : Nat} {cs : Array Value} {t : TypeId} (h : w.heap[p]? = some (.cells cs t)) (k : Nat) (u : Value) :
  (w.setCell ⟨p, k, none⟩ u).heap[p]? = some (.cells (cs.setIfInBounds k u) t) := by
 have hlt := lt_of_block h
 have h' : w.heap[p] = .cells cs t := by simpa [Array.getElem?_eq_getElem hlt] using h
 show (w.heap.modify p _)[p]? = _
 rw [Array.getElem?_eq_getElem (by simpa using hlt), Array.getElem_modify_self, h']
 rfl
theorem set2 {w : World} {p : Nat} {x y z : Value} {t : TypeId} (h : w.heap[p]? = some (.cells #[x, y, z] t)) (u : Value) :
  (w.setCell ⟨p, 2, none⟩ u).heap[p]? = some (.cells #[x, y, u] t) := by rw [set_at h]; rfl
theorem set1 {w : World} {p : Nat} {x y z : Value} {t : TypeId} (h : w.heap[p]? = some (.cells #[x, y, z] t)) (u : Value) :
  (w.setCell ⟨p, 1, none⟩ u).heap[p]? = some (.cells #[x, u, z] t) := by rw [set_at h]; rfl
set_option maxHeartbeats 1000000 in
theorem spec_l1Byte (B p : Nat) (a : Option Addr) (len cap : Nat) (w : World) (hB : B ≤ p) (hcur : Cur w p a len cap) (hcode : CodeAt B w a len) :
  Calls Tryz.prog 75 #[.pointer (some ⟨p, 0, none⟩)] w (DrewInt 0 255 p a len cap w) := by
 obtain ⟨i, h, hi0, hi1, hblk⟩ := hcur
 obtain ⟨c0, c1, c2, f0, f1, f2⟩ := cells_of hblk
 have Hb := Lib.hid hblk
 have Hc := Lib.hid hcode
 clear hblk hcode
 go_enter Tryz.func75, Tryz.ntmps75
 go_wp2_with fail
 go_cut [3] (fun x wx => ∃ (n : Nat) (v : Int), x = .int .i64 v ∧ 0 ≤ v ∧ v ≤ 255 ∧ Cur wx p a len cap ∧ Only p w wx)
 case first =>
  go_quiet (fail)
  go_wp2_with fail
  go_meet
  have hx := and_255 (bits .xor .i64 (wrap64 (wrap64 (h * 6364136223846793005) + 1442695040888963407) / 8589934592) (wrap64 (wrap64 (h * 6364136223846793005) + 1442695040888963407) / 35184372088832))
  exact ⟨0, _, rfl, hx.1, hx.2, ⟨i, _, hi0, hi1, set2 Hb _⟩, ((Only.refl _ _).setCell _ _).drewN _⟩
 case rest =>
  clear c0 c1 c2 f0 f1 f2 Hb
  obtain ⟨n, v, rfl, hv0, hv1, hcur, hon⟩ := hcut
  obtain ⟨i, h, hi0, hi1, hblk⟩ := hcur
  obtain ⟨c0, c1, c2, f0, f1, f2⟩ := cells_of hblk
  have Hb := Lib.hid hblk
  have Hon := Lib.hid hon
  clear hblk hon
  have hlen := Hc.out.1
  obtain ⟨j, rfl⟩ := Int.eq_ofNat_of_zero_le hi0
  by_cases hlt : j < len
  ·
   obtain ⟨b, o, z, rfl, hbB, hz0, hz1, hcell⟩ := (Hc.out.below (Hon.out.below hB)).2 j hlt
   have hb : decide ((j : Int) < (len : Int)) = true := by rw [decide_eq_true_iff]; omega
   go_wp2_with fail
   go_quiet (fail)
   go_wp2_with fail
   go_quiet (fail)
   go_wp2_with fail
   go_ret
   have hx := and_255 (v + z)
   exact ⟨_, rfl, hx.1, hx.2, ⟨j + 1, h, by omega, by omega, set1 Hb _⟩, Hon.out.trans (((Only.refl _ _).drewN _).setCell _ _)⟩
  ·
   have hb : decide ((j : Int) < (len : Int)) = false := by rw [decide_eq_false_iff_not]; omega
   go_wp2_with fail
   go_quiet (fail)
   go_wp2_with fail
   go_ret
   exact ⟨_, rfl, hv0, hv1, ⟨j, h, by omega, by omega, Hb⟩, Hon.out.trans ((Only.refl _ _).drewN _)⟩

theorem spec_l1Below (B p : Nat) (a : Option Addr) (len cap : Nat) (n : Int) (hn1 : 1 ≤ n) (hn2 : n ≤ 1099511627776) (w : World) (hB : B ≤ p) (hcur : Cur w p a len cap) (hcode : CodeAt B w a len) :
  Calls Tryz.prog 51 #[.pointer (some ⟨p, 0, none⟩), .int .i64 n] w (DrewInt 0 (n - 1) p a len cap w) := by
 have Hc := Lib.hid hcode
 have Hu := Lib.hid hcur
 clear hcode hcur
 by_cases h256 : n ≤ 256
 ·
  have hb : decide (n ≤ 256) = true := by rw [decide_eq_true_iff]; omega
  go_enter Tryz.func51, Tryz.ntmps51
  go_wp2_with fail
  refine (spec_l1Byte B p a len cap w hB Hu.out Hc.out).mono ?_
  rintro e w1 ⟨x, rfl, hx0, hx1, hc1, ho1⟩
  have Hc1 := Lib.hid hc1
  have Ho1 := Lib.hid ho1
  clear hc1 ho1
  go_wp2_with fail
  go_ret
  exact ⟨_, rfl, Int.emod_nonneg _ (by omega), by have := Int.emod_lt_of_pos x (show 0 < n by omega); omega, Hc1, Ho1⟩
 ·
  have hb : decide (n ≤ 256) = false := by rw [decide_eq_false_iff_not]; omega
  go_enter Tryz.func51, Tryz.ntmps51
  go_wp2_with fail
  refine (spec_l1Byte B p a len cap w hB Hu.out Hc.out).mono ?_
  rintro e w1 ⟨x, rfl, hx0, hx1, hc1, ho1⟩
  have Hc1 := Lib.hid hc1
  have Ho1 := Lib.hid ho1
  clear hc1 ho1
  go_wp2_with fail
  refine (spec_l1Byte B p a len cap w1 hB Hc1.out (Hc.out.below (Ho1.out.below hB))).mono ?_
  rintro e w2 ⟨y, rfl, hy0, hy1, hc2, ho2⟩
  have Hc2 := Lib.hid hc2
  have Ho2 := Lib.hid (Ho1.out.trans ho2)
  clear hc2 ho2
  go_wp2_with fail
  refine (spec_l1Byte B p a len cap w2 hB Hc2.out (Hc.out.below (Ho2.out.below hB))).mono ?_
  rintro e w3 ⟨z, rfl, hz0, hz1, hc3, ho3⟩
  have Hc3 := Lib.hid hc3
  have Ho3 := Lib.hid (Ho2.out.trans ho3)
  clear hc3 ho3
  go_wp2_with fail
  refine (spec_l1Byte B p a len cap w3 hB Hc3.out (Hc.out.below (Ho3.out.below hB))).mono ?_
  rintro e w4 ⟨v, rfl, hv0, hv1, hc4, ho4⟩
  have Hc4 := Lib.hid hc4
  have Ho4 := Lib.hid (Ho3.out.trans ho4)
  clear hc4 ho4
  go_wp2_with fail
  go_ret
  exact ⟨_, rfl, Int.emod_nonneg _ (by omega), by have := Int.emod_lt_of_pos (x * 16777216 + y * 65536 + z * 256 + v) (show 0 < n by omega); omega, Hc4, Ho4⟩

def DrewBool (p : Nat) (a : Option Addr) (len cap : Nat) (w : World) (e : Ending) (w' : World) : Prop :=
 ∃ x : Bool, e = .returned (.bool x) ∧ Cur w' p a len cap ∧ Only p w w'
theorem spec_l1Once (B p : Nat) (a : Option Addr) (len cap : Nat) (n : Int) (hn1 : 1 ≤ n) (hn2 : n ≤ 1099511627776) (w : World) (hB : B ≤ p) (hcur : Cur w p a len cap) (hcode : CodeAt B w a len) :
  Calls Tryz.prog 63 #[.pointer (some ⟨p, 0, none⟩), .int .i64 n] w (DrewBool p a len cap w) := by
 have Hc := Lib.hid hcode
 have Hu := Lib.hid hcur
 clear hcode hcur
 go_enter Tryz.func63, Tryz.ntmps63
 go_wp2_with fail
 refine (spec_l1Below B p a len cap n hn1 hn2 w hB Hu.out Hc.out).mono ?_
 rintro e w1 ⟨x, rfl, hx0, hx1, hc1, ho1⟩
 have Hc1 := Lib.hid hc1
 have Ho1 := Lib.hid ho1
 clear hc1 ho1
 go_wp2_with fail
 go_ret
 exact ⟨_, rfl, Hc1, Ho1⟩

def ListAt (w : World) (q : Nat) (vs : List Value) : Prop := ∀ i (h : i < vs.length), w.cell? ⟨q, i, none⟩ = some vs[i]
def DrewOf (vs : List Value) (p : Nat) (a : Option Addr) (len cap : Nat) (w : World) (e : Ending) (w' : World) : Prop :=
 ∃ v, e = .returned v ∧ v ∈ vs ∧ Cur w' p a len cap ∧ Only p w w'
theorem ListAt.only {w w' : World} {p q : Nat} {vs : List Value} (h : ListAt w q vs) (ho : Only p w w') (hq : q ≠ p) (hl : q < w.heap.size) : ListAt w' q vs :=
 fun i hi => by rw [World.cell?_of_block (w := w) (ho.block hq hl)]; exact h i hi
theorem spec_l1PickInt (B p q : Nat) (a : Option Addr) (len cap c2 : Nat) (ss : List Int) (hs1 : 1 ≤ ss.length) (hs2 : ss.length ≤ 1000000) (w : World) (hB : B ≤ p) (hq : q ≠ p) (hql : q < w.heap.size)
  (hl : ListAt w q (ss.map (Value.int .i64))) (hcur : Cur w p a len cap) (hcode : CodeAt B w a len) :
  Calls Tryz.prog 74 #[.pointer (some ⟨p, 0, none⟩), .slice (some ⟨q, 0, none⟩) ss.length c2] w (DrewOf (ss.map (Value.int .i64)) p a len cap w) := by
 have Hc := Lib.hid hcode
 have Hu := Lib.hid hcur
 have Hl := Lib.hid hl
 clear hcode hcur hl
 go_enter Tryz.func74, Tryz.ntmps74
 go_wp2_with fail
 refine (spec_l1Below B p a len cap _ (by omega) (by omega) w hB Hu.out Hc.out).mono ?_
 rintro e w1 ⟨x, rfl, hx0, hx1, hc1, ho1⟩
 obtain ⟨j, rfl⟩ := Int.eq_ofNat_of_zero_le hx0
 have hj : j < ss.length := by omega
 have hcell := (Hl.out.only ho1 hq hql) j (by simpa using hj)
 rw [List.getElem_map] at hcell
 have Hc1 := Lib.hid hc1
 have Ho1 := Lib.hid ho1
 clear hc1 ho1
 go_wp2_with fail
 go_ret
 exact ⟨_, rfl, List.mem_map_of_mem (List.getElem_mem hj), Hc1, Ho1⟩

def NewCur (a : Option Addr) (len cap : Nat) (w : World) (e : Ending) (w' : World) : Prop :=
 e = .returned (.pointer (some ⟨w.heap.size, 0, none⟩)) ∧ Cur w' w.heap.size a len cap ∧ Below w.heap.size w w' ∧ w'.heap.size = w.heap.size + 1
theorem new_at (w : World) (o : Obj) : (w.alloc o).heap[w.heap.size]? = some o := by show (w.heap.push o)[w.heap.size]? = some o; simp
set_option maxHeartbeats 400000 in
theorem spec_l1New (B : Nat) (a : Option Addr) (len cap : Nat) (w : World) (hcode : CodeAt B w a len) :
  Calls Tryz.prog 49 #[.slice a len cap] w (NewCur a len cap w) := by
 have hlen := hcode.1
 have Hc := Lib.hid hcode
 clear hcode
 go_enter Tryz.func49, Tryz.ntmps49
 go_wp2_with fail
 go_loop [3, 4] (fun hh i => ∃ (k : Nat) (h : Int), k ≤ len ∧ i = .int .i64 k ∧ hh = .int .i64 h) (fun _ i => len - (intOf i).toNat)
 case atStart => exact ⟨0, _, Nat.zero_le _, rfl, rfl⟩
 case round =>
  obtain ⟨k, h, hk, rfl, rfl⟩ := hrel
  by_cases hlt : k < len
  ·
   by_cases h4 : k < 4000
   ·
    obtain ⟨b, o, z, rfl, hbB, hz0, hz1, hcell⟩ := Hc.out.2 k hlt
    go_wp2_with fail
    go_round
    case rel => exact ⟨k + 1, _, by omega, by go_num, rfl⟩
    case measure => simp [intOf]; omega
   ·
    have hb : decide ((k : Int) < 4000) = false := by rw [decide_eq_false_iff_not]; omega
    go_wp2_with fail
    go_ret
    exact ⟨rfl, ⟨0, h, by omega, by omega, new_at w _⟩, (Below.refl _ _).alloc (Nat.le_refl _) _, by simp⟩
  ·
   have hb : decide ((k : Int) < (len : Int)) = false := by rw [decide_eq_false_iff_not]; omega
   go_wp2_with fail
   go_ret
   exact ⟨rfl, ⟨0, h, by omega, by omega, new_at w _⟩, (Below.refl _ _).alloc (Nat.le_refl _) _, by simp⟩

theorem ListAt.new (w : World) (vs : List Value) (t : TypeId) : ListAt (w.alloc (.cells vs.toArray t)) w.heap.size vs := fun i h => by
 simp only [World.cell?, new_at w (.cells vs.toArray t)]
 simp [h]
theorem Cur.alloc {w : World} {p : Nat} {a : Option Addr} {len cap : Nat} (h : Cur w p a len cap) (o : Obj) : Cur (w.alloc o) p a len cap := by
 obtain ⟨i, x, h1, h2, hb⟩ := h
 exact ⟨i, x, h1, h2, by rw [Below.heap_alloc w o p (lt_of_block hb)]; exact hb⟩
theorem Cur.lt {w : World} {p : Nat} {a : Option Addr} {len cap : Nat} (h : Cur w p a len cap) : p < w.heap.size := by
 obtain ⟨i, x, h1, h2, hb⟩ := h
 exact lt_of_block hb
end Go.Proofs.YtpidlmmpejoeaaaGreat
