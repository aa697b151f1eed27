/- Payoffs in plain terms: shares, excesses, the worst one, the core, imputations, the sorted list, the order of lists; nothing of the program. -/
import Derived.Test.YtlohljkfphljgaaGreatGM
import Derived.Test.YtlohljkfphljgaaGreatGmM
namespace Go.Proofs.YtlohljkfphljgaaGreat.Py
open Ve (R at_ addR addK)
open Gm (G)
def run (x:List R):R->List Int->R×Bool
 | acc,[]=>(acc,true)
 | acc,m::r=>if 0≤m/\m<x.length then (if addK acc (at_ x m.toNat) then run x (addR acc (at_ x m.toNat)) r else ((0,0),false)) else ((0,0),false)
def share (x:List R) (s:Int):R×Bool:=if Co.good s then run x (0,1) (Co.mem s 5) else ((0,0),false)
def subR (x y:R):R:=(Ra.opN (Ra.two x.1 x.2 y.1 y.2) (x.1*y.2-y.1*x.2) (x.2*y.2),Ra.opD (Ra.two x.1 x.2 y.1 y.2) (x.1*y.2-y.1*x.2) (x.2*y.2))
def subK (x y:R):Bool:=Ra.opK (Ra.two x.1 x.2 y.1 y.2) (x.1*y.2-y.1*x.2) (x.2*y.2)
def cmp (x y:R):Int:=Ra.cmp x.1 x.2 y.1 y.2
def all (g:G):Int:=(g.v.length:Int)-1
def Z2k (g:G) (x:List R):Bool:=Gm.vld g && (decide ((x.length:Int)=g.n) && decide (share x (all g)=((Gm.Zga g,1),true)))
def allV (x:List R):Bool:=decide (∀k,k<x.length->Ve.vld (at_ x k)=true)
def whole (n:Int):R:=(n,1)
def Z3q (g:G) (x:List R) (s:Nat):R×Bool:=(subR (whole (g.v.getD s 0)) (share x s).1,subK (whole (g.v.getD s 0)) (share x s).1)
def Z3r (g:G) (s:Int):Bool:=Gm.vld g && decide (0≤s/\s≤(g.v.length:Int)-1)
def exc (g:G) (x:List R) (s:Int):R×Bool:=if Z3r g s then Z3q g x s.toNat else ((0,0),false)
def pre (g:G) (x:List R) (k:Nat):List R:=(List.range k).map fun j:Nat=>(exc g x ((j:Int)+1)).1
def Zz8 (g:G) (x:List R):Nat->Bool
 | 0=>true
 | k+1=>Zz8 g x k && (exc g x ((k:Int)+1)).2
def okE (g:G) (x:List R):Bool:=Z2k g x && Zz8 g x (g.v.length-2)
def lst (g:G) (x:List R):List R:=if okE g x then pre g x (g.v.length-2) else []
def mx (l:List R):Nat->R
 | 0=>at_ l 0
 | k+1=>if 0<cmp (at_ l (k+1)) (mx l k) then at_ l (k+1) else mx l k
def tied (l:List R) (b:R):Nat->List Int
 | 0=>[]
 | k+1=>if at_ l k=b then tied l b k++[(k:Int)+1] else tied l b k
def some_ (g:G) (x:List R):Bool:=okE g x && decide ((lst g x).length≠0)
def worst (g:G) (x:List R):R:=if some_ g x then mx (lst g x) ((lst g x).length-1) else (0,0)
def Z4d (g:G) (x:List R):List Int:=if some_ g x then tied (lst g x) (mx (lst g x) ((lst g x).length-1)) (lst g x).length else []
def low (l:List R):Nat->Bool
 | 0=>true
 | k+1=>low l k && decide ((at_ l k).1≤0)
def inC (g:G) (x:List R):Bool:=okE g x && low (lst g x) (lst g x).length
def fair (g:G) (x:List R):Nat->Bool
 | 0=>true
 | k+1=>fair g x k && !decide (cmp (at_ x k) (whole (Gm.val g ((2 ^ k:Nat):Int)))<0)
def cnt (x:List R):Nat:=if x.length<5 then x.length else 5
def imp (g:G) (x:List R):Bool:=Z2k g x && fair g x (cnt x)
def spot (l:List R) (x:R):Nat->Nat
 | 0=>0
 | k+1=>if cmp (at_ l k) x<0 then spot l x k else k+1
def ins (l:List R) (x:R):List R:=l.take (spot l x l.length)++[x]++l.drop (spot l x l.length)
def srt (l:List R):Nat->List R
 | 0=>[]
 | k+1=>ins (srt l k) (at_ l k)
def vec (g:G) (x:List R):List R:=srt (lst g x) (lst g x).length
def cmpL:List R->List R->Int
 | [],[]=>0
 | [],_::_=>-1
 | _::_,[]=>1
 | x::xs,y::ys=>if cmp x y=0 then cmpL xs ys else cmp x y
end Go.Proofs.YtlohljkfphljgaaGreat.Py
