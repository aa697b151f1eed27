/- spec.IsBalancedCollection, impl.IsBalancedCollection. -/
import Derived.Test.YtjfnleilddgjiaaGreatCrB
import Derived.Test.YtjfnleilddgjiaaGreatGLb
import Derived.Test.YtjfnleilddgjiaaGreatGLp
import Derived.Test.YtjfnleilddgjiaaGreatHPyA
import Derived.Test.YtjfnleilddgjiaaGreatGLi
import Derived.Test.YtjfnleilddgjiaaGreatHLkLpr
namespace Go.Proofs.YtjfnleilddgjiaaGreat
open Go.RowKit
open Ve (R)
open Gm (G)
namespace Cr
theorem Zox {n:Int} {w:List R} (h:¬(1≤n/\n≤5)):Zl7 n w=false:=by unfold Zl7;rw[decide_eq_false h];rfl
theorem Zqk {m:Nat} {w:List R} (h:w.length≠2 ^ m-1):Zl7 (m:Int) w=false:=by
 unfold Zl7;rw[Int.toNat_natCast,decide_eq_false h];simp
end Cr
theorem Zsv (b:Nat):∀(L:List (List Int)),(∀r∈L,r.length≤b)->cellsOf L≤L.length*b
 | [],_=>by simp[cellsOf]
 | r::L,h=>by
  have h1:=Zsv b L fun x hx=>h x (List.mem_cons_of_mem _ hx)
  have h2:=h r (by simp);simp only[cellsOf,List.length_cons,Nat.succ_mul];omega
theorem Zpd (g:G):lpN (Cr.bal g)≤1048576:=by
 unfold lpN
 rcases hv:Gm.vld g with _|_
 ·rw[Cr.Zpc hv]
  simp[Cr.lp0,cellsOf]
 ·rw[Cr.Zkw hv]
  have hn:=Gm.Zhz hv;have hl:=Gm.Zcu hv;have e1:(Cr.lp g).A.length=g.n.toNat:=Cr.Zdn _ _;have e2:(Cr.lp g).B.length=g.n.toNat:=Cr.Zd2 _;have e3:(Cr.lp g).C.length=g.v.length-1:=Cr.Zb1 _ _;have e4:=Zsv 31 (Cr.lp g).A fun r hr=>by
   have hr':r∈Cr.Zdb (g.v.length-1) g.n.toNat:=hr;unfold Cr.Zdb at hr';obtain⟨j,_,rfl⟩:=List.mem_map.1 hr';rw[Cr.Zij];omega
  rw[e1] at e4;rw[e1,e2,e3];have h5:g.n.toNat≤5:=by omega
  have h6:g.n.toNat*31≤5*31:=Nat.mul_le_mul_right _ h5;omega
end Go.Proofs.YtjfnleilddgjiaaGreat
