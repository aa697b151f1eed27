/- The walk of FnExactParseRat: for every text the law returns true. -/
import Derived.Test.YtheggkeoheneiaaDoorRaParse3
import Derived.Test.YtheggkeoheneiaaDoorTabs
namespace Go.Proofs.YtheggkeoheneiaaDoor
open Go.RowKit
/-- Both sides answer the same at a text of at most 2^20 bytes. -/
theorem both_ParseRat (s : ByteArray) (hs : s.size ≤ 1048576) : ∃ (N D : Int) (k : Bool),
    (∀ w, Calls Tryd.prog 12 #[.string s] w fun e w' => e = .returned (.tuple #[.agg #[.int .i64 N, .int .i64 D], .bool k]) ∧ Below w.heap.size w w') ∧
    (∀ w, Tabs w → Calls Tryd.prog 8 #[.string s] w fun e w' => e = .returned (.tuple #[.agg #[.int .i64 N, .int .i64 D], .bool k]) ∧ Below w.heap.size w w') := by
  by_cases h : ∃ n d : Int, Ra.vld n d = true ∧ Ra.txt n d = s.data.toList
  · obtain ⟨n, d, hv, ht⟩ := h
    exact ⟨n, d, true, spec_ParseRat_ok s n d hv ht hs, impl_ParseRat_ok s n d hv ht hs⟩
  · have hno : ∀ n d : Int, Ra.vld n d = true → Ra.txt n d ≠ s.data.toList := fun n d a b => h ⟨n, d, a, b⟩
    exact ⟨0, 0, false, spec_ParseRat_bad s hno hs, impl_ParseRat_bad s hno hs⟩
namespace fnExactParseRat
end fnExactParseRat
end Go.Proofs.YtheggkeoheneiaaDoor
