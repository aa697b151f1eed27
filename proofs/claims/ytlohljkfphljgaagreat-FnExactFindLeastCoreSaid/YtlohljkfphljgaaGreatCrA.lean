/- spec.BalancedLP. -/
import Derived.Test.YtlohljkfphljgaaGreatHCrP
import Derived.Test.YtlohljkfphljgaaGreatGIx
import Derived.Test.YtlohljkfphljgaaGreatHGmB
import Derived.Test.YtlohljkfphljgaaGreatHApR
import Derived.Test.YtlohljkfphljgaaGreatCoA
import Derived.Test.YtlohljkfphljgaaGreatGB
namespace Go.Proofs.YtlohljkfphljgaaGreat
open Go.RowKit
open Ve (R)
open Gm (G)
def Zi2 (q b s o k:Nat) (vC sl v:Value) (B:World):Prop:=
 B.cell? ⟨q,2,none⟩=some vC/\B.cell? ⟨b,1,none⟩=some sl/\B.cell? ⟨s,o+k,none⟩=some v/\q<B.heap.size/\b<B.heap.size/\s<B.heap.size
theorem Zi2.all {q b s o k:Nat} {vC sl v:Value} {B wx:World} (H:Hid (Zi2 q b s o k vC sl v B)) (h:Since B wx) :
  wx.cell? ⟨q,2,none⟩=some vC/\wx.cell? ⟨b,1,none⟩=some sl/\wx.cell? ⟨s,o+k,none⟩=some v/\Since B wx:=
 have k:=H.out
 ⟨h.cell (p:=⟨q,2,none⟩) k.2.2.2.1 k.1,h.cell (p:=⟨b,1,none⟩) k.2.2.2.2.1 k.2.1,h.cell (p:=⟨s,_,none⟩) k.2.2.2.2.2 k.2.2.1,h⟩
theorem LpBe.since {q:Nat} {w wr w2:World} {vA vB vC:Value} {A:List (List Int)} {B:List Int} {C:List R} (h:LpBe q w wr vA vB vC A B C) (hs:Since wr w2):LpBe q w w2 vA vB vC A B C:=h.below hs.low
theorem Zxv (b:Bool) (n:Int) (h:Cr.bit b=n) (w:World):Calls Tryz.prog 99 #[.bool b] w fun e w'=>e=.returned (.int .i64 n)/\w=w':=by
 subst h;cases b
 ·go_enter Tryz.func99,Tryz.ntmps99
  go_wp2_with fail
  go_ret;exact⟨rfl,rfl⟩
 ·go_enter Tryz.func99,Tryz.ntmps99
  go_wp2_with fail
  go_ret;exact⟨rfl,rfl⟩
end Go.Proofs.YtlohljkfphljgaaGreat
