/- Payoffs in plain terms: shares, excesses, the worst one, the core, imputations, the sorted list, the order of lists; nothing of the program. -/
import Derived.Test.YtpjnjidbdpfdcaaGreatGM
import Derived.Test.YtpjnjidbdpfdcaaGreatGmM
namespace Go.Proofs.YtpjnjidbdpfdcaaGreat.Py
open Ve (R at_ addR addK)
open Gm (G)
def run (x:List R):R->List Int->R×Bool
 | acc,[]=>(acc,true)
 | acc,m::r=>if 0≤m/\m<x.length then (if addK acc (at_ x m.toNat) then run x (addR acc (at_ x m.toNat)) r else ((0,0),false)) else ((0,0),false)
theorem Zms {x:List R} {acc:R} {m:Int} {r:List Int} (h:¬(0≤m/\m<x.length)):run x acc (m::r)=((0,0),false):=by unfold run;rw[if_neg h]
theorem Zov {x:List R} {acc:R} {k:Nat} {r:List Int} (h:k<x.length) (ha:addK acc (at_ x k)=false):run x acc ((k:Int)::r)=((0,0),false):=by
 unfold run;rw[if_pos ⟨by omega,by omega⟩,Int.toNat_natCast,ha];rfl
theorem Zmt {x:List R} {acc:R} {k:Nat} {r:List Int} (h:k<x.length) (ha:addK acc (at_ x k)=true):run x acc ((k:Int)::r)=run x (addR acc (at_ x k)) r:=by
 rw[run,if_pos ⟨by omega,by omega⟩,Int.toNat_natCast,ha,if_pos rfl]
theorem Zke {x:List R}:∀ {ms:List Int} {acc:R},(run x acc ms).2=false->(run x acc ms).1=(0,0)
 | [],acc,h=>by simp[run] at h
 | m::r,acc,h=>by
  unfold run at h ⊢
  split
  ·rename_i h1
   rw[if_pos h1] at h
   split
   ·rename_i h2
    rw[if_pos h2] at h;exact Zke h
   ·rfl
  ·rfl
theorem Zmq {x:List R}:∀ {ms:List Int} {acc:R},(run x acc ms).2=true->∀m∈ms,m.toNat<x.length/\Ve.vld (at_ x m.toNat)=true
 | [],acc,_,m,hm=>by simp at hm
 | m::r,acc,h,p,hp=>by
  unfold run at h
  split at h
  ·rename_i h1
   split at h
   ·rename_i h2
    rcases List.mem_cons.1 hp with rfl|hp
    ·exact⟨by omega,(Ve.Znc h2).2⟩
    ·exact Zmq h p hp
   ·simp at h
  ·simp at h
def share (x:List R) (s:Int):R×Bool:=if Co.good s then run x (0,1) (Co.mem s 5) else ((0,0),false)
theorem Zd1 {x:List R} {s:Int} (h:Co.good s=true):share x s=run x (0,1) (Co.mem s 5):=if_pos h
theorem Zhe {x:List R} {s:Int} (h:Co.good s=false):share x s=((0,0),false):=by unfold share;rw[h];rfl
theorem Zk6 {x:List R} {s:Int} (h:(share x s).2=false):(share x s).1=(0,0):=by
 rcases hg:Co.good s with _|_
 ·rw[Zhe hg]
 ·rw[Zd1 hg] at h ⊢;exact Zke h
def subR (x y:R):R:=(Ra.opN (Ra.two x.1 x.2 y.1 y.2) (x.1*y.2-y.1*x.2) (x.2*y.2),Ra.opD (Ra.two x.1 x.2 y.1 y.2) (x.1*y.2-y.1*x.2) (x.2*y.2))
def subK (x y:R):Bool:=Ra.opK (Ra.two x.1 x.2 y.1 y.2) (x.1*y.2-y.1*x.2) (x.2*y.2)
theorem Zox {x y:R} (h:subK x y=false):subR x y=(0,0):=by
 obtain⟨h1,h2⟩:=Ve.Zjb h;unfold subR;rw[h1,h2]
theorem Zk9 (x y:R) (h:Ve.vld y=false):subK x y=false:=by unfold subK;rw[Ve.Zig x y h];rfl
def cmp (x y:R):Int:=Ra.cmp x.1 x.2 y.1 y.2
def all (g:G):Int:=(g.v.length:Int)-1
def Zcw (g:G) (x:List R):Bool:=Gm.vld g && (decide ((x.length:Int)=g.n) && decide (share x (all g)=((Gm.Zcs g,1),true)))
theorem Zhz {g:G} {x:List R} (h:Gm.vld g=false):Zcw g x=false:=by unfold Zcw;rw[h];rfl
theorem Zhy {g:G} {x:List R} (h:decide ((x.length:Int)=g.n)=false):Zcw g x=false:=by unfold Zcw;rw[h];simp
theorem Zjy {g:G} {x:List R} (h:Gm.vld g=true) (h2:decide ((x.length:Int)=g.n)=true):Zcw g x=decide (share x (all g)=((Gm.Zcs g,1),true)):=by unfold Zcw;rw[h,h2];rfl
theorem Zdk {g:G} {x:List R} (h:Zcw g x=true):Gm.vld g=true/\(x.length:Int)=g.n/\share x (all g)=((Gm.Zcs g,1),true):=by
 unfold Zcw at h;simp only[Bool.and_eq_true,decide_eq_true_iff] at h;exact⟨h.1,h.2.1,h.2.2⟩
theorem Zpd:∀n:Fin 6,∀k:Fin 5,k.val<n.val->((k.val:Nat):Int)∈Co.mem (((2 ^ n.val:Nat):Int)-1) 5:=by decide +kernel
theorem all_good {g:G} (h:Gm.vld g=true):Co.good (all g)=true:=by
 have:=Gm.Zbp h;unfold all Co.good;rw[decide_eq_true_iff];omega
theorem Zh5 {g:G} {x:List R} (h:Gm.vld g=true) (hl:(x.length:Int)=g.n) (hs:(share x (all g)).2=true):∀k,k<x.length->Ve.vld (at_ x k)=true:=by
 intro k hk;have hn:=Gm.Zjo h;have hp:=Gm.Zeh h;rw[Zd1 (all_good h)] at hs;have hm:=Zpd ⟨g.n.toNat,by omega⟩ ⟨k,by omega⟩ (by show k<g.n.toNat;omega);have hm':(k:Int)∈Co.mem (all g) 5:=by unfold all;rw[hp];exact hm
 have:=(Zmq hs _ hm').2
 rwa [Int.toNat_natCast] at this
def allV (x:List R):Bool:=decide (∀k,k<x.length->Ve.vld (at_ x k)=true)
def whole (n:Int):R:=(n,1)
def Zkv (g:G) (x:List R) (s:Nat):R×Bool:=(subR (whole (g.v.getD s 0)) (share x s).1,subK (whole (g.v.getD s 0)) (share x s).1)
def Zhp (g:G) (s:Int):Bool:=Gm.vld g && decide (0≤s/\s≤(g.v.length:Int)-1)
def exc (g:G) (x:List R) (s:Int):R×Bool:=if Zhp g s then Zkv g x s.toNat else ((0,0),false)
theorem Zhr {g:G} {x:List R} {s:Int} (h:Zhp g s=false):exc g x s=((0,0),false):=by unfold exc;rw[h];rfl
theorem Zhq {g:G} {s:Int} (h:Gm.vld g=false):Zhp g s=false:=by unfold Zhp;rw[h];rfl
theorem Zfd {g:G} {s:Int} (h:decide (0≤s/\s≤(g.v.length:Int)-1)=false):Zhp g s=false:=by unfold Zhp;rw[h];simp
theorem Zls {g:G} {k:Nat} (h:Gm.vld g=true) (hk:k<g.v.length):Zhp g (k:Int)=true:=by
 unfold Zhp;rw[h];simp only[Bool.true_and,decide_eq_true_iff];omega
theorem Zlt {g:G} {x:List R} {k:Nat} (h:Gm.vld g=true) (hk:k<g.v.length):exc g x (k:Int)=Zkv g x k:=by
 unfold exc;rw[Zls h hk,if_pos rfl,Int.toNat_natCast]
theorem Zit {g:G} {x:List R} {s:Nat} (h:(share x s).2=false):Zkv g x s=((0,0),false):=by
 have h1:subK (whole (g.v.getD s 0)) (share x s).1=false:=by rw[Zk6 h];exact Zk9 _ _ Ve.Ze5
 unfold Zkv;rw[h1,Zox h1]
def pre (g:G) (x:List R) (k:Nat):List R:=(List.range k).map fun j:Nat=>(exc g x ((j:Int)+1)).1
theorem Zjc (g:G) (x:List R) (k:Nat):(pre g x k).length=k:=by simp[pre]
theorem Zka (g:G) (x:List R) (k:Nat):pre g x (k+1)=pre g x k++[(exc g x ((k:Int)+1)).1]:=by simp[pre,List.range_succ]
def Zbr (g:G) (x:List R):Nat->Bool
 | 0=>true
 | k+1=>Zbr g x k && (exc g x ((k:Int)+1)).2
theorem Zhs {g:G} {x:List R} {k n:Nat} (h:(exc g x ((k:Int)+1)).2=false) (hk:k<n):Zbr g x n=false:=by
 induction n with
 | zero=>omega
 | succ n ih=>
  unfold Zbr
  by_cases e:k=n
  ·subst e;rw[h];simp
  ·rw[ih (by omega)];rfl
def okE (g:G) (x:List R):Bool:=Zcw g x && Zbr g x (g.v.length-2)
def lst (g:G) (x:List R):List R:=if okE g x then pre g x (g.v.length-2) else []
theorem Zmh {g:G} {x:List R} (h:Zcw g x=false):okE g x=false:=by unfold okE;rw[h];rfl
theorem Zor {g:G} {x:List R} (h:Zcw g x=true):okE g x=Zbr g x (g.v.length-2):=by unfold okE;rw[h];rfl
theorem Zh1 {g:G} {x:List R} (h:okE g x=false):lst g x = []:=by unfold lst;rw[h];rfl
theorem Zi6 {g:G} {x:List R} (h:okE g x=true):lst g x=pre g x (g.v.length-2):=if_pos h
theorem Zmg {g:G} {x:List R} (h:okE g x=true):Zcw g x=true/\Zbr g x (g.v.length-2)=true:=by unfold okE at h;rw[Bool.and_eq_true] at h;exact h
theorem Zl9 (g:G) (x:List R):(lst g x).length≤30:=by
 rcases h:okE g x with _|_
 ·rw[Zh1 h];simp
 ·rw[Zi6 h,Zjc]
  have:=(Gm.Zbp (Zdk (Zmg h).1).1).2;omega
def mx (l:List R):Nat->R
 | 0=>at_ l 0
 | k+1=>if 0<cmp (at_ l (k+1)) (mx l k) then at_ l (k+1) else mx l k
theorem Zoo {l:List R} {k:Nat} (h:decide (0<cmp (at_ l (k+1)) (mx l k))=true):mx l (k+1)=at_ l (k+1):=by rw[mx,if_pos (of_decide_eq_true h)]
theorem Zqm {l:List R} {k:Nat} (h:decide (0<cmp (at_ l (k+1)) (mx l k))=false):mx l (k+1)=mx l k:=by rw[mx,if_neg (of_decide_eq_false h)]
theorem Znf (x:R):cmp x x=0:=Ra.cmp_eq rfl
def tied (l:List R) (b:R):Nat->List Int
 | 0=>[]
 | k+1=>if at_ l k=b then tied l b k++[(k:Int)+1] else tied l b k
theorem Zkm {l:List R} {b:R} {k:Nat} (h:at_ l k=b):tied l b (k+1)=tied l b k++[(k:Int)+1]:=by rw[tied,if_pos h]
theorem Zm3 {l:List R} {b:R} {k:Nat} (h:at_ l k≠b):tied l b (k+1)=tied l b k:=by rw[tied,if_neg h]
theorem Zhi (l:List R) (b:R):∀k,(tied l b k).length≤k
 | 0=>by simp[tied]
 | k+1=>by have:=Zhi l b k;unfold tied;split<;>simp<;>omega
def some_ (g:G) (x:List R):Bool:=okE g x && decide ((lst g x).length≠0)
def worst (g:G) (x:List R):R:=if some_ g x then mx (lst g x) ((lst g x).length-1) else (0,0)
def Zd5 (g:G) (x:List R):List Int:=if some_ g x then tied (lst g x) (mx (lst g x) ((lst g x).length-1)) (lst g x).length else []
theorem Zm0 {g:G} {x:List R} (h:okE g x=false):some_ g x=false:=by unfold some_;rw[h];rfl
theorem Zki {g:G} {x:List R} (h:(lst g x).length=0):some_ g x=false:=by unfold some_;rw[h];simp
theorem Zmz {g:G} {x:List R} (h:okE g x=true) (h2:(lst g x).length≠0):some_ g x=true:=by unfold some_;rw[h];simpa using h2
theorem Ze6 {g:G} {x:List R} (h:some_ g x=false):worst g x=(0,0)/\Zd5 g x = []:=by unfold worst Zd5;rw[h];exact⟨rfl,rfl⟩
theorem Zij {g:G} {x:List R} (h:some_ g x=true):worst g x=mx (lst g x) ((lst g x).length-1)/\Zd5 g x=tied (lst g x) (mx (lst g x) ((lst g x).length-1)) (lst g x).length:=⟨if_pos h,if_pos h⟩
def low (l:List R):Nat->Bool
 | 0=>true
 | k+1=>low l k && decide ((at_ l k).1≤0)
def inC (g:G) (x:List R):Bool:=okE g x && low (lst g x) (lst g x).length
def fair (g:G) (x:List R):Nat->Bool
 | 0=>true
 | k+1=>fair g x k && !decide (cmp (at_ x k) (whole (Gm.val g ((2 ^ k:Nat):Int)))<0)
def cnt (x:List R):Nat:=if x.length<5 then x.length else 5
def imp (g:G) (x:List R):Bool:=Zcw g x && fair g x (cnt x)
def spot (l:List R) (x:R):Nat->Nat
 | 0=>0
 | k+1=>if cmp (at_ l k) x<0 then spot l x k else k+1
def ins (l:List R) (x:R):List R:=l.take (spot l x l.length)++[x]++l.drop (spot l x l.length)
def srt (l:List R):Nat->List R
 | 0=>[]
 | k+1=>ins (srt l k) (at_ l k)
def vec (g:G) (x:List R):List R:=srt (lst g x) (lst g x).length
def cmpL:List R->List R->Int
 | [],[]=>0
 | [],_::_=>-1
 | _::_,[]=>1
 | x::xs,y::ys=>if cmp x y=0 then cmpL xs ys else cmp x y
end Go.Proofs.YtpjnjidbdpfdcaaGreat.Py
