/- The parts GmM, PyM. -/
import Derived.Test.YtjfnleilddgjiaaGreatHDrawA
import Derived.Test.YtjfnleilddgjiaaGreatHHeldT
import Derived.Test.YtjfnleilddgjiaaGreatGM
namespace Go.Proofs.YtjfnleilddgjiaaGreat.Gm
structure G where
 n:Int
 v:List Int
def G0:G:=⟨0,[]⟩
def shape (g:G):Bool:=decide (1≤g.n/\g.n≤5) && decide (g.v.length=2 ^ g.n.toNat)
def Zyb (g:G):Bool:=decide (g.v.getD 0 0=0)
def vld (g:G):Bool:=shape g && (within 500 g.v && Zyb g)
theorem Zhs {g:G} (h:shape g=true):(1≤g.n/\g.n≤5)/\g.v.length=2 ^ g.n.toNat:=by
 unfold shape at h;simp only[Bool.and_eq_true,decide_eq_true_iff] at h;exact h
theorem Zw8 {n:Int} (h:1≤n/\n≤5):2≤2 ^ n.toNat/\2 ^ n.toNat≤32:=by
 have h2:n=1\/n=2\/n=3\/n=4\/n=5:=by omega
 rcases h2 with rfl|rfl|rfl|rfl|rfl<;>decide
theorem Zqk {g:G} (h:shape g=true):2≤g.v.length/\g.v.length≤32:=by
 have h2:=Zhs h;rw[h2.2];exact Zw8 h2.1
theorem Zar {g:G} (h:vld g=true):shape g=true/\within 500 g.v=true/\g.v.getD 0 0=0:=by
 unfold vld at h;simp only[Bool.and_eq_true] at h;exact⟨h.1,h.2.1,of_decide_eq_true h.2.2⟩
theorem Zcu {g:G} (h:vld g=true):2≤g.v.length/\g.v.length≤32:=Zqk (Zar h).1
theorem Zhz {g:G} (h:vld g=true):1≤g.n/\g.n≤5:=(Zhs (Zar h).1).1
theorem Zmo {g:G} (h:vld g=true):g.v.length=2 ^ g.n.toNat:=(Zhs (Zar h).1).2
theorem Ziy {g:G} (h:vld g=true) {k:Nat} (hk:k<g.v.length):-500≤g.v.getD k 0/\g.v.getD k 0≤500:=Zq6 (Zar h).2.1 hk
theorem Zg2 {g:G} (h:shape g=false):vld g=false:=by unfold vld;rw[h];rfl
theorem Znn {g:G} (h:within 500 g.v=false):vld g=false:=by unfold vld;rw[h];simp
theorem Zkl {g:G} (h:Zyb g=false):vld g=false:=by unfold vld;rw[h];simp
theorem Zt1 {g:G} (h1:shape g=true) (h2:within 500 g.v=true):vld g=Zyb g:=by unfold vld;rw[h1,h2];rfl
def val (g:G) (s:Int):Int:=if 0≤s/\s<g.v.length then g.v.getD s.toNat 0 else 0
def Zbt (g:G):Int:=if vld g then g.v.getD (g.v.length-1) 0 else 0
theorem Zgn {g:G} (h:vld g=true):Zbt g=g.v.getD (g.v.length-1) 0:=if_pos h
theorem Zoc {g:G} (h:vld g=false):Zbt g=0:=by unfold Zbt;rw[h];rfl
def eqG (a b:G):Bool:=decide (a.n=b.n) && decide (a.v=b.v)
def keep (g:G):G×Bool:=if vld g then (g,true) else (G0,false)
def mk (n:Int) (f:Nat->Int) (m:Nat):G:=⟨n,(List.range m).map f⟩
def part (f:Nat->Int) (l:List Int) (k:Nat):List Int:=(List.range k).map f++l.drop k
def Z4l (a b:G) (k:Nat):Int:=a.v.getD k 0+b.v.getD k 0
def Z22 (a b:G):Bool:=vld a && (vld b && decide (a.n=b.n))
def add (a b:G):G×Bool:=if Z22 a b then keep (mk a.n (Z4l a b) a.v.length) else (G0,false)
theorem Z0g {a b:G} (h:Z22 a b=false):add a b=(G0,false):=by unfold add;rw[h];rfl
def tot (list:List Int) (s:Int):Nat->Int
 | 0=>0
 | j+1=>tot list s j+if Co.has s j then list.getD j 0 else 0
def Z4t (g:G) (k:Int) (list:List Int) (s:Nat):Int:=k*g.v.getD s 0+tot list s list.length
def Z4u (g:G) (k:Int) (list:List Int):Bool:=vld g && (decide (-500≤k/\k≤500) && (decide ((list.length:Int)=g.n) && within 500 list))
def scl (g:G) (k:Int) (list:List Int):G×Bool:=if Z4u g k list then keep (mk g.n (Z4t g k list) g.v.length) else (G0,false)
theorem Znj {k x:Int} (hk:-500≤k/\k≤500) (hx:-500≤x/\x≤500):-250000≤k*x/\k*x≤250000:=by
 have h1:(500-k)*(500-x)≥0:=Int.mul_nonneg (by omega) (by omega);have h2:(500+k)*(500+x)≥0:=Int.mul_nonneg (by omega) (by omega);have h3:(500-k)*(500+x)≥0:=Int.mul_nonneg (by omega) (by omega);have h4:(500+k)*(500-x)≥0:=Int.mul_nonneg (by omega) (by omega);have e1:(500-k)*(500-x)=250000-500*x-500*k+k*x:=by rw[Int.sub_mul,Int.mul_sub,Int.mul_sub];omega
 have e2:(500+k)*(500+x)=250000+500*x+500*k+k*x:=by rw[Int.add_mul,Int.mul_add,Int.mul_add];omega
 have e3:(500-k)*(500+x)=250000+500*x-500*k-k*x:=by rw[Int.sub_mul,Int.mul_add,Int.mul_add];omega
 have e4:(500+k)*(500-x)=250000-500*x+500*k-k*x:=by rw[Int.add_mul,Int.mul_sub,Int.mul_sub];omega
 omega
def totM (list:List Int):List Int->Int
 | []=>0
 | x::r=>list.getD x.toNat 0+totM list r
def wide (m:List Int) (t:Int):Nat->Int
 | 0=>0
 | j+1=>wide m t j+if Co.has t j then 2 ^ (m.getD j 0).toNat else 0
theorem Ziz {m:List Int} {t:Int} {j:Nat} (h:Co.has t j=true):wide m t (j+1)=wide m t j+2 ^ (m.getD j 0).toNat:=by simp[wide,h]
def Z3y (m:List Int):List Int->Int
 | []=>0
 | x::r=>Co.uni (2 ^ (m.getD x.toNat 0).toNat) (Z3y m r) 5
def Z5d (m q:List Int) (j:Nat):Int:=Z3y m (q.take j).reverse
def Z4s (g:G) (s:Int):Bool:=vld g && decide (1≤s/\s<g.v.length)
def Z4r (g:G) (s:Int) (t:Nat):Int:=g.v.getD (wide (Co.mem s 5) (t:Int) (Co.mem s 5).length).toNat 0
def resG (g:G) (s:Int):G:=mk ((Co.mem s 5).length:Nat) (Z4r g s) (2 ^ (Co.mem s 5).length)
def res (g:G) (s:Int):G×Bool:=if Z4s g s then (resG g s,true) else (G0,false)
end Go.Proofs.YtjfnleilddgjiaaGreat.Gm
namespace Go.Proofs.YtjfnleilddgjiaaGreat.Py
open Ve (R at_ addR addK)
open Gm (G)
def run (x:List R):R->List Int->R×Bool
 | acc,[]=>(acc,true)
 | acc,m::r=>if 0≤m/\m<x.length then (if addK acc (at_ x m.toNat) then run x (addR acc (at_ x m.toNat)) r else ((0,0),false)) else ((0,0),false)
theorem Zxn {x:List R} {acc:R} {m:Int} {r:List Int} (h:¬(0≤m/\m<x.length)):run x acc (m::r)=((0,0),false):=by unfold run;rw[if_neg h]
theorem Z3o {x:List R} {acc:R} {k:Nat} {r:List Int} (h:k<x.length) (ha:addK acc (at_ x k)=false):run x acc ((k:Int)::r)=((0,0),false):=by
 unfold run;rw[if_pos ⟨by omega,by omega⟩,Int.toNat_natCast,ha];rfl
theorem Z2e {x:List R} {acc:R} {k:Nat} {r:List Int} (h:k<x.length) (ha:addK acc (at_ x k)=true):run x acc ((k:Int)::r)=run x (addR acc (at_ x k)) r:=by
 rw[run,if_pos ⟨by omega,by omega⟩,Int.toNat_natCast,ha,if_pos rfl]
theorem Zto {x:List R}:∀ {ms:List Int} {acc:R},(run x acc ms).2=false->(run x acc ms).1=(0,0)
 | [],acc,h=>by simp[run] at h
 | m::r,acc,h=>by
  unfold run at h ⊢
  split
  ·rename_i h1
   rw[if_pos h1] at h
   split
   ·rename_i h2
    rw[if_pos h2] at h;exact Zto h
   ·rfl
  ·rfl
theorem Zxl {x:List R}:∀ {ms:List Int} {acc:R},(run x acc ms).2=true->∀m∈ms,m.toNat<x.length/\Ve.vld (at_ x m.toNat)=true
 | [],acc,_,m,hm=>by simp at hm
 | m::r,acc,h,p,hp=>by
  unfold run at h
  split at h
  ·rename_i h1
   split at h
   ·rename_i h2
    rcases List.mem_cons.1 hp with rfl|hp
    ·exact⟨by omega,(Ve.Zso h2).2⟩
    ·exact Zxl h p hp
   ·simp at h
  ·simp at h
def share (x:List R) (s:Int):R×Bool:=if Co.good s then run x (0,1) (Co.mem s 5) else ((0,0),false)
theorem Zio {x:List R} {s:Int} (h:Co.good s=true):share x s=run x (0,1) (Co.mem s 5):=if_pos h
theorem Zoy {x:List R} {s:Int} (h:Co.good s=false):share x s=((0,0),false):=by unfold share;rw[h];rfl
theorem Zuw {x:List R} {s:Int} (h:(share x s).2=false):(share x s).1=(0,0):=by
 rcases hg:Co.good s with _|_
 ·rw[Zoy hg]
 ·rw[Zio hg] at h ⊢;exact Zto h
def subR (x y:R):R:=(Ra.opN (Ra.two x.1 x.2 y.1 y.2) (x.1*y.2-y.1*x.2) (x.2*y.2),Ra.opD (Ra.two x.1 x.2 y.1 y.2) (x.1*y.2-y.1*x.2) (x.2*y.2))
def subK (x y:R):Bool:=Ra.opK (Ra.two x.1 x.2 y.1 y.2) (x.1*y.2-y.1*x.2) (x.2*y.2)
theorem Z1d {x y:R} (h:subK x y=false):subR x y=(0,0):=by
 obtain⟨h1,h2⟩:=Ve.Zoo h;unfold subR;rw[h1,h2]
theorem Zu2 (x y:R) (h:Ve.vld y=false):subK x y=false:=by unfold subK;rw[Ve.Zq3 x y h];rfl
theorem Z2j {x y:R} (h:subK x y=true):Ve.vld (subR x y)=true:=by
 obtain⟨_,f,e1,e2⟩:=Ra.Zei h;unfold Ve.vld subR;rw[e1,e2];exact Ra.Zf6 f
def cmp (x y:R):Int:=Ra.cmp x.1 x.2 y.1 y.2
def all (g:G):Int:=(g.v.length:Int)-1
def Zho (g:G) (x:List R):Bool:=Gm.vld g && (decide ((x.length:Int)=g.n) && decide (share x (all g)=((Gm.Zbt g,1),true)))
theorem Zwg {g:G} {x:List R} (h:Gm.vld g=false):Zho g x=false:=by unfold Zho;rw[h];rfl
theorem Zwf {g:G} {x:List R} (h:decide ((x.length:Int)=g.n)=false):Zho g x=false:=by unfold Zho;rw[h];simp
theorem Zy6 {g:G} {x:List R} (h:Gm.vld g=true) (h2:decide ((x.length:Int)=g.n)=true):Zho g x=decide (share x (all g)=((Gm.Zbt g,1),true)):=by unfold Zho;rw[h,h2];rfl
theorem Zhp {g:G} {x:List R} (h:Zho g x=true):Gm.vld g=true/\(x.length:Int)=g.n/\share x (all g)=((Gm.Zbt g,1),true):=by
 unfold Zho at h;simp only[Bool.and_eq_true,decide_eq_true_iff] at h;exact⟨h.1,h.2.1,h.2.2⟩
theorem Z1z:∀n:Fin 6,∀k:Fin 5,k.val<n.val->((k.val:Nat):Int)∈Co.mem (((2 ^ n.val:Nat):Int)-1) 5:=by decide +kernel
theorem all_good {g:G} (h:Gm.vld g=true):Co.good (all g)=true:=by
 have:=Gm.Zcu h;unfold all Co.good;rw[decide_eq_true_iff];omega
theorem Zw2 {g:G} {x:List R} (h:Gm.vld g=true) (hl:(x.length:Int)=g.n) (hs:(share x (all g)).2=true):∀k,k<x.length->Ve.vld (at_ x k)=true:=by
 intro k hk;have hn:=Gm.Zhz h;have hp:=Gm.Zmo h;rw[Zio (all_good h)] at hs;have hm:=Z1z ⟨g.n.toNat,by omega⟩ ⟨k,by omega⟩ (by show k<g.n.toNat;omega);have hm':(k:Int)∈Co.mem (all g) 5:=by unfold all;rw[hp];exact hm
 have:=(Zxl hs _ hm').2
 rwa [Int.toNat_natCast] at this
def allV (x:List R):Bool:=decide (∀k,k<x.length->Ve.vld (at_ x k)=true)
def whole (n:Int):R:=(n,1)
def Zpq (g:G) (x:List R) (s:Nat):R×Bool:=(subR (whole (g.v.getD s 0)) (share x s).1,subK (whole (g.v.getD s 0)) (share x s).1)
def Zpr (g:G) (s:Int):Bool:=Gm.vld g && decide (0≤s/\s≤(g.v.length:Int)-1)
def exc (g:G) (x:List R) (s:Int):R×Bool:=if Zpr g s then Zpq g x s.toNat else ((0,0),false)
theorem Z0r {g:G} {x:List R} {s:Int} (h:Zpr g s=false):exc g x s=((0,0),false):=by unfold exc;rw[h];rfl
theorem Zvv {g:G} {s:Int} (h:Gm.vld g=false):Zpr g s=false:=by unfold Zpr;rw[h];rfl
theorem Zvu {g:G} {s:Int} (h:decide (0≤s/\s≤(g.v.length:Int)-1)=false):Zpr g s=false:=by unfold Zpr;rw[h];simp
theorem Zvt {g:G} {k:Nat} (h:Gm.vld g=true) (hk:k<g.v.length):Zpr g (k:Int)=true:=by
 unfold Zpr;rw[h];simp only[Bool.true_and,decide_eq_true_iff];omega
theorem Zvw {g:G} {x:List R} {k:Nat} (h:Gm.vld g=true) (hk:k<g.v.length):exc g x (k:Int)=Zpq g x k:=by
 unfold exc;rw[Zvt h hk,if_pos rfl,Int.toNat_natCast]
theorem Zlc {g:G} {x:List R} {s:Nat} (h:(share x s).2=false):Zpq g x s=((0,0),false):=by
 have h1:subK (whole (g.v.getD s 0)) (share x s).1=false:=by rw[Zuw h];exact Zu2 _ _ Ve.Zkl
 unfold Zpq;rw[h1,Z1d h1]
theorem Z1q {g:G} {x:List R} {s:Int} (h:(exc g x s).2=true):Ve.vld (exc g x s).1=true:=by
 unfold exc at h ⊢
 split
 ·rename_i h1;rw[if_pos h1] at h;exact Z2j h
 ·rename_i h1;rw[if_neg h1] at h;cases h
def pre (g:G) (x:List R) (k:Nat):List R:=(List.range k).map fun j:Nat=>(exc g x ((j:Int)+1)).1
theorem Zja (g:G) (x:List R) (k:Nat):(pre g x k).length=k:=by simp[pre]
theorem Zos (g:G) (x:List R) (k:Nat):pre g x (k+1)=pre g x k++[(exc g x ((k:Int)+1)).1]:=by simp[pre,List.range_succ]
def Zfi (g:G) (x:List R):Nat->Bool
 | 0=>true
 | k+1=>Zfi g x k && (exc g x ((k:Int)+1)).2
theorem Zv0 {g:G} {x:List R} {k n:Nat} (h:(exc g x ((k:Int)+1)).2=false) (hk:k<n):Zfi g x n=false:=by
 induction n with
 | zero=>omega
 | succ n ih=>
  unfold Zfi
  by_cases e:k=n
  ·subst e;rw[h];simp
  ·rw[ih (by omega)];rfl
theorem Zps {g:G} {x:List R}:∀ {n:Nat},Zfi g x n=true->∀k,k<n->(exc g x ((k:Int)+1)).2=true
 | n+1,h,k,hk=>by
  unfold Zfi at h;rw[Bool.and_eq_true] at h
  by_cases e:k=n
  ·subst e;exact h.2
  ·exact Zps h.1 k (by omega)
def okE (g:G) (x:List R):Bool:=Zho g x && Zfi g x (g.v.length-2)
def lst (g:G) (x:List R):List R:=if okE g x then pre g x (g.v.length-2) else []
theorem Z16 {g:G} {x:List R} (h:Zho g x=false):okE g x=false:=by unfold okE;rw[h];rfl
theorem Z3l {g:G} {x:List R} (h:Zho g x=true):okE g x=Zfi g x (g.v.length-2):=by unfold okE;rw[h];rfl
theorem Zwk {g:G} {x:List R} (h:okE g x=false):lst g x = []:=by unfold lst;rw[h];rfl
theorem Zom {g:G} {x:List R} (h:okE g x=true):lst g x=pre g x (g.v.length-2):=if_pos h
theorem Zqc {g:G} {x:List R} (h:okE g x=true):Zho g x=true/\Zfi g x (g.v.length-2)=true:=by unfold okE at h;rw[Bool.and_eq_true] at h;exact h
theorem Z1x (g:G) (x:List R):(lst g x).length≤30:=by
 rcases h:okE g x with _|_
 ·rw[Zwk h];simp
 ·rw[Zom h,Zja]
  have:=(Gm.Zcu (Zhp (Zqc h).1).1).2;omega
def mx (l:List R):Nat->R
 | 0=>at_ l 0
 | k+1=>if 0<cmp (at_ l (k+1)) (mx l k) then at_ l (k+1) else mx l k
def tied (l:List R) (b:R):Nat->List Int
 | 0=>[]
 | k+1=>if at_ l k=b then tied l b k++[(k:Int)+1] else tied l b k
def some_ (g:G) (x:List R):Bool:=okE g x && decide ((lst g x).length≠0)
def worst (g:G) (x:List R):R:=if some_ g x then mx (lst g x) ((lst g x).length-1) else (0,0)
def Z48 (g:G) (x:List R):List Int:=if some_ g x then tied (lst g x) (mx (lst g x) ((lst g x).length-1)) (lst g x).length else []
def low (l:List R):Nat->Bool
 | 0=>true
 | k+1=>low l k && decide ((at_ l k).1≤0)
theorem Z0v {l:List R} {k n:Nat} (h:0<(at_ l k).1) (hk:k<n):low l n=false:=by
 induction n with
 | zero=>omega
 | succ n ih=>
  unfold low
  by_cases e:k=n
  ·subst e;rw[decide_eq_false (by omega)];simp
  ·rw[ih (by omega)];rfl
theorem Z1w {l:List R} {k:Nat} (h:low l k=true) (h2:¬0<(at_ l k).1):low l (k+1)=true:=by unfold low;rw[h,decide_eq_true (by omega)];rfl
def inC (g:G) (x:List R):Bool:=okE g x && low (lst g x) (lst g x).length
def fair (g:G) (x:List R):Nat->Bool
 | 0=>true
 | k+1=>fair g x k && !decide (cmp (at_ x k) (whole (Gm.val g ((2 ^ k:Nat):Int)))<0)
def cnt (x:List R):Nat:=if x.length<5 then x.length else 5
def imp (g:G) (x:List R):Bool:=Zho g x && fair g x (cnt x)
def spot (l:List R) (x:R):Nat->Nat
 | 0=>0
 | k+1=>if cmp (at_ l k) x<0 then spot l x k else k+1
def ins (l:List R) (x:R):List R:=l.take (spot l x l.length)++[x]++l.drop (spot l x l.length)
def srt (l:List R):Nat->List R
 | 0=>[]
 | k+1=>ins (srt l k) (at_ l k)
def vec (g:G) (x:List R):List R:=srt (lst g x) (lst g x).length
def cmpL:List R->List R->Int
 | [],[]=>0
 | [],_::_=>-1
 | _::_,[]=>1
 | x::xs,y::ys=>if cmp x y=0 then cmpL xs ys else cmp x y
end Go.Proofs.YtjfnleilddgjiaaGreat.Py
