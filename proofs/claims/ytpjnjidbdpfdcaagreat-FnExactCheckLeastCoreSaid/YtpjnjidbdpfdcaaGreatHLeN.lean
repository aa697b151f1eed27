/- The parts LeM, PyC2, LeQ, EqI, LeN. -/
import Derived.Test.YtpjnjidbdpfdcaaGreatCrM
import Derived.Test.YtpjnjidbdpfdcaaGreatPyA
import Derived.Test.YtpjnjidbdpfdcaaGreatGRa
import Derived.Test.YtpjnjidbdpfdcaaGreatGMt
import Derived.Test.YtpjnjidbdpfdcaaGreatNumI
import Derived.Test.YtpjnjidbdpfdcaaGreatGLa
namespace Go.Proofs.YtpjnjidbdpfdcaaGreat.Le
open Ve (R at_)
open Gm (G)
open Lp (P)
def Zcz (n k:Nat):List (List Int):=(List.range k).map fun j=>Cr.mrow j n++[-1]
theorem Zh8 (n k:Nat):(Zcz n k).length=k:=by simp[Zcz]
theorem Zk4 (n k:Nat):Zcz n (k+1)=Zcz n k++[Cr.mrow k n++[-1]]:=by simp[Zcz,List.range_succ]
def Zbl (k:Nat):List Int:=(List.range k).map fun _=>0
theorem Zf1 (k:Nat):(Zbl k).length=k:=by simp[Zbl]
theorem Zil (k:Nat):Zbl (k+1)=Zbl k++[0]:=by simp[Zbl,List.range_succ]
def lp (g:G):P:=⟨Zcz (g.v.length-2) g.n.toNat++[Cr.Zbc (g.v.length-2)++[0]],Zbl g.n.toNat++[1],Cr.cost g (g.v.length-2)++[(Gm.Zcs g,1)]⟩
def can (g:G):Bool:=Gm.vld g && decide (2≤g.n)
def least (g:G):P:=if can g then lp g else Cr.lp0
theorem Zfm {g:G} (h:can g=true):least g=lp g:=if_pos h
theorem Zg8 {g:G} (h:can g=false):least g=Cr.lp0:=by unfold least;rw[h];rfl
theorem Zlk {g:G} (h:can g=true):Gm.vld g=true/\2≤g.n:=by
 unfold can at h
 simpa using h
theorem Zod {g:G} (h:Gm.vld g=true) (h2:2≤g.n):can g=true:=by unfold can;rw[h,decide_eq_true h2];rfl
structure Lst where
 ok:Bool
 ex:R
 point:List R
 weights:List R
end Go.Proofs.YtpjnjidbdpfdcaaGreat.Le
namespace Go.Proofs.YtpjnjidbdpfdcaaGreat
open Go.RowKit
open Ve (R)
open Gm (G)
theorem Zm1 (x y:R) (w:World):Calls Tryz.prog 33 #[.agg #[.int .i64 x.1,.int .i64 x.2],.agg #[.int .i64 y.1,.int .i64 y.2]] w fun e w'=>e=.returned (.int .i64 (Py.cmp x y))/\Below w.heap.size w w':=Zfv x.1 x.2 y.1 y.2 w
theorem Zl1 (x y:R) (w:World):Calls Tryz.prog 41 #[.agg #[.int .i64 x.1,.int .i64 x.2],.agg #[.int .i64 y.1,.int .i64 y.2]] w fun e w'=>e=.returned (.int .i64 (Py.cmp x y))/\Below w.heap.size w w':=Zfh x.1 x.2 y.1 y.2 w
end Go.Proofs.YtpjnjidbdpfdcaaGreat
namespace Go.Proofs.YtpjnjidbdpfdcaaGreat.Le
open Ve (R)
open Gm (G)
def proved (g:G) (w:List R) (ex:R):Bool:=can g && (Lp.feas (least g) w && (Ve.dotK (least g).C w && decide (Ve.dotR (least g).C w=Ta.negR ex)))
def chkL (g:G) (r:Lst):Bool:=r.ok && (Py.some_ g r.point && (decide (Py.worst g r.point=r.ex) && proved g r.weights r.ex))
end Go.Proofs.YtpjnjidbdpfdcaaGreat.Le
namespace Go.Proofs.YtpjnjidbdpfdcaaGreat
open Go.RowKit
open Gm (G)
theorem Zjz (b:Nat):∀(L:List (List Int)),(∀r∈L,r.length≤b)->cellsOf L≤L.length*b
 | [],_=>by simp[cellsOf]
 | r::L,h=>by
  have h1:=Zjz b L fun x hx=>h x (List.mem_cons_of_mem _ hx)
  have h2:=h r (by simp);simp only[cellsOf,List.length_cons,Nat.succ_mul];omega
theorem Zcn (g:G):lpN (Le.least g)≤1048576:=by
 unfold lpN
 rcases hv:Le.can g with _|_
 ·rw[Le.Zg8 hv]
  simp[Cr.lp0,cellsOf]
 ·rw[Le.Zfm hv]
  have hn:=Gm.Zjo (Le.Zlk hv).1;have hl:=Gm.Zbp (Le.Zlk hv).1;have e1:(Le.lp g).A.length=g.n.toNat+1:=by
   show (Le.Zcz _ _++[_]).length=_;rw[List.length_append,Le.Zh8];rfl
  have e2:(Le.lp g).B.length=g.n.toNat+1:=by
   show (Le.Zbl _++[_]).length=_;rw[List.length_append,Le.Zf1];rfl
  have e3:(Le.lp g).C.length=g.v.length-2+1:=by
   show (Cr.cost _ _++[_]).length=_;rw[List.length_append,Cr.Zcl];rfl
  have e4:=Zjz 31 (Le.lp g).A fun r hr=>by
   have hr':r∈Le.Zcz (g.v.length-2) g.n.toNat++[Cr.Zbc (g.v.length-2)++[0]]:=hr
   rcases List.mem_append.1 hr' with h1|h1
   ·unfold Le.Zcz at h1
    obtain⟨j,_,rfl⟩:=List.mem_map.1 h1;rw[List.length_append,Cr.Zco];simp;omega
   ·simp at h1
    subst h1;rw[List.length_append,Cr.Zec];simp;omega
  rw[e1] at e4;rw[e1,e2,e3];have h5:g.n.toNat+1≤6:=by omega
  have h6:(g.n.toNat+1)*31≤6*31:=Nat.mul_le_mul_right _ h5;omega
end Go.Proofs.YtpjnjidbdpfdcaaGreat
