/- The parts TaM, TaPm, SiM, StM, SxM. -/
import Derived.Test.YtlohljkfphljgaaGreatGM
namespace Go.Proofs.YtlohljkfphljgaaGreat.Ta
open Ve (R at_)
structure T where
  rows:List (List R)
  basis:List Int
  cols:Int
def row (t:T) (k:Nat):List R:=t.rows.getD k []
def bas (t:T) (k:Nat):Int:=t.basis.getD k 0
def rowOk (t:T) (k:Nat):Bool:=decide (((row t k).length:Int)=t.cols+t.rows.length+1) && decide (0≤bas t k/\bas t k≤t.cols+t.rows.length-1)
def good (t:T):Bool:=decide (0≤t.cols) && (decide (t.cols≤1000) && (decide (t.basis.length=t.rows.length) && (List.range t.rows.length).all (rowOk t)))
theorem Za2 {t:T} (h:good t=true):0≤t.cols/\t.cols≤1000/\t.basis.length=t.rows.length/\∀k,k<t.rows.length->((row t k).length:Int)=t.cols+t.rows.length+1/\0≤bas t k/\bas t k≤t.cols+t.rows.length-1:=by
  unfold good at h;simp only[Bool.and_eq_true,decide_eq_true_eq,List.all_eq_true,List.mem_range] at h;refine⟨h.1,h.2.1,h.2.2.1,fun k hk=>?_⟩;have:=h.2.2.2 k hk;unfold rowOk at this;simp only[Bool.and_eq_true,decide_eq_true_eq] at this;exact⟨this.1,this.2.1,this.2.2⟩
theorem Znw {t:T} (h0:0≤t.cols) (h1:t.cols≤1000) (h2:t.basis.length=t.rows.length) (h:∀k,k<t.rows.length->rowOk t k=true):good t=true:=by
  unfold good;simp only[Bool.and_eq_true,decide_eq_true_eq,List.all_eq_true,List.mem_range];exact⟨h0,h1,h2,h⟩
theorem Zq5 {t:T} {k:Nat} (hk:k<t.rows.length) (h:rowOk t k=false):good t=false:=by
  rw[Bool.eq_false_iff];intro h2;unfold good at h2;simp only[Bool.and_eq_true,decide_eq_true_eq,List.all_eq_true,List.mem_range] at h2;rw[h2.2.2.2 k hk] at h;cases h
def divR (x y:R):R:=(Ra.opN (Ra.two x.1 x.2 y.1 y.2) (x.1*y.2) (x.2*y.1),Ra.opD (Ra.two x.1 x.2 y.1 y.2) (x.1*y.2) (x.2*y.1))
def divK (x y:R):Bool:=Ra.opK (Ra.two x.1 x.2 y.1 y.2) (x.1*y.2) (x.2*y.1)
def dv (l:List R) (y:R) (j:Nat):R×Bool:=(divR (at_ l j) y,divK (at_ l j) y)
def dvR (l:List R) (y:R):List R:=Ve.outR (dv l y) l.length
def dvK (l:List R) (y:R):Bool:=Ve.allK (dv l y) l.length
def w64 (x:Int):Int:=(x+9223372036854775808) % 18446744073709551616-9223372036854775808
def negR (x:R):R:=(w64 (-x.1),x.2)
def main (t:T) (r c:Nat):List R:=dvR (row t r) (at_ (row t r) c)
def Zgq (t:T) (r c:Nat):Bool:=dvK (row t r) (at_ (row t r) c)
def still (t:T) (r c k:Nat):Bool:=decide (k=r) || decide (at_ (row t k) c=(0,1))
def nextR (t:T) (r c k:Nat):List R:=if k=r then main t r c else if at_ (row t k) c=(0,1) then row t k else Ve.scR (row t k) (negR (at_ (row t k) c)) (main t r c)
def nextK (t:T) (r c k:Nat):Bool:=still t r c k || Ve.scK (row t k) (negR (at_ (row t k) c)) (main t r c)
def Zbm (t:T) (r c n:Nat):Bool:=(List.range n).all (nextK t r c)
theorem Zox (t:T) (r c k:Nat):Zbm t r c (k+1)=(Zbm t r c k && nextK t r c k):=by simp[Zbm,List.range_succ]
theorem Zi3 {t:T} {r c k n:Nat} (hk:k<n) (h:nextK t r c k=false):Zbm t r c n=false:=by
  rw[Bool.eq_false_iff];intro h2;unfold Zbm at h2;rw[List.all_eq_true] at h2;rw[h2 k (by simpa using hk)] at h;cases h
def Zbc (t:T) (r c k:Nat):List (List R):=(List.range t.rows.length).map fun j=>if j=r then main t r c else if j<k then nextR t r c j else row t j
theorem Zbh (t:T) (r c k:Nat):(Zbc t r c k).length=t.rows.length:=by simp[Zbc]
theorem Zcy (t:T) (r c k j:Nat) (h:j<t.rows.length):(Zbc t r c k)[j]? = some (if j=r then main t r c else if j<k then nextR t r c j else row t j):=by simp[Zbc,h]
def may (t:T) (r c:Int):Bool:=good t && (decide (0≤r/\r≤(t.rows.length:Int)-1) && (decide (0≤c/\c≤t.cols+t.rows.length-1) && !decide ((at_ (row t r.toNat) c.toNat).1=0)))
def pivK (t:T) (r c:Int):Bool:=may t r c && (Zgq t r.toNat c.toNat && Zbm t r.toNat c.toNat t.rows.length)
def piv (t:T) (r c:Int):T:=if pivK t r c then ⟨Zbc t r.toNat c.toNat t.rows.length,t.basis.set r.toNat c,t.cols⟩ else t
def cr (t:T) (cost:List R):Nat->List R×Bool
  | 0=>(cost++[(0,1)],Ve.good cost)
  | k+1=>if (cr t cost k).2 then (Ve.scR (cr t cost k).1 (negR (at_ cost (bas t k).toNat)) (row t k),Ve.scK (cr t cost k).1 (negR (at_ cost (bas t k).toNat)) (row t k)) else cr t cost k
def Zco (t:T) (cost:List R):Bool:=(good t && decide ((cost.length:Int)=t.cols+t.rows.length)) && (cr t cost t.rows.length).2
def Zdm (t:T) (cost:List R):List R:=if Zco t cost then (cr t cost t.rows.length).1 else []
theorem Zgg {t:T} {cost:List R} {k:Nat} (h:(cr t cost k).2=false):∀n,k≤n->(cr t cost n).2=false
  | 0, hn => by obtain rfl : k = 0 := by omega
                exact h
  | n+1,hn=>by
    by_cases e:k=n+1
    · subst e;exact h
    · have:=Zgg h n (by omega)
      show (if (cr t cost n).2 then _ else cr t cost n).2=false;rw[this];exact this
theorem Zkw {t:T} {cost:List R} {k:Nat} (h:(cr t cost k).2=true):cr t cost (k+1)=(Ve.scR (cr t cost k).1 (negR (at_ cost (bas t k).toNat)) (row t k),Ve.scK (cr t cost k).1 (negR (at_ cost (bas t k).toNat)) (row t k)):=by
  show (if (cr t cost k).2 then _ else _)=_;rw[h];rfl
theorem Zw0 {a:List R} {u:R} {b:List R} (h:Ve.scK a u b=true):(Ve.scR a u b).length=a.length:=by
  unfold Ve.scK at h;unfold Ve.scR;simp only[Bool.and_eq_true,decide_eq_true_eq] at h;rw[if_pos h.1,Ve.Zds h.2,Ve.Zb6]
theorem Zqz {l:List R} {y:R} (h:dvK l y=true):(dvR l y).length=l.length:=by
  unfold dvR;rw[Ve.Zds h,Ve.Zb6]
theorem Zkv {t:T} {cost:List R}:∀ {k:Nat},(cr t cost k).2=true->(cr t cost k).1.length=cost.length+1
  | 0,_=>by simp[cr]
  | k+1,h=>by
    by_cases hk:(cr t cost k).2=true
    · rw[Zkw hk] at h ⊢
      rw[Zw0 h];exact Zkv hk
    · have:=Zgg (k:=k) (by simpa using hk) (k+1) (by omega)
      rw[this] at h;cases h
theorem Zbj {t:T} {cost:List R} (h:Zco t cost=true):((Zdm t cost).length:Int)=t.cols+t.rows.length+1:=by
  have h':=h;unfold Zco at h';simp only[Bool.and_eq_true,decide_eq_true_eq] at h';unfold Zdm;rw[if_pos h,Zkv h'.2];omega
def sol (t:T):Nat->List R
  | 0=>Lp.Za1 (t.cols+t.rows.length).toNat
  | k+1=>(sol t k).set (bas t k).toNat (at_ (row t k) (t.cols+t.rows.length).toNat)
def solR (t:T):List R:=if good t then sol t t.rows.length else []
theorem Zhr (t:T):∀k,(sol t k).length=(t.cols+t.rows.length).toNat
  | 0=>by simp[sol,Lp.Za1]
  | k+1=>by simp[sol,Zhr t k]
theorem Zs3 {t:T} {r c:Int} (h:good t=true):good (piv t r c)=true/\(piv t r c).rows.length=t.rows.length/\(piv t r c).cols=t.cols:=by
  unfold piv
  by_cases hp:pivK t r c=true
  · rw[if_pos hp]
    unfold pivK may at hp;simp only[Bool.and_eq_true,decide_eq_true_eq] at hp;obtain⟨⟨_,⟨hr0,hr1⟩,⟨hc0,hc1⟩,_⟩,hm,hall⟩:=hp;obtain⟨g0,g1,g2,g3⟩:=Za2 h;have hrl:r.toNat<t.rows.length:=by omega
    have hml:((main t r.toNat c.toNat).length:Int)=t.cols+t.rows.length+1:=by
      unfold main;rw[Zqz hm];exact (g3 r.toNat hrl).1
    refine⟨Znw g0 g1 (by simp[Zbh,g2]) fun k hk=>?_,Zbh _ _ _ _,rfl⟩;have hk2:k<t.rows.length:=by simpa [Zbh] using hk
    unfold rowOk;have hrow:row ⟨Zbc t r.toNat c.toNat t.rows.length,t.basis.set r.toNat c,t.cols⟩ k=if k=r.toNat then main t r.toNat c.toNat else nextR t r.toNat c.toNat k:=by
      unfold row;rw[List.getD_eq_getElem?_getD,Zcy _ _ _ _ _ hk2];simp[hk2]
    have hbas:bas ⟨Zbc t r.toNat c.toNat t.rows.length,t.basis.set r.toNat c,t.cols⟩ k=if k=r.toNat then c else bas t k:=by
      unfold bas;rw[List.getD_eq_getElem?_getD,List.getD_eq_getElem?_getD]
      by_cases e:k=r.toNat
      · subst e
        rw[List.getElem?_set_self (by omega),if_pos rfl];rfl
      · rw[List.getElem?_set_ne (fun h=>e h.symm),if_neg e]
    simp only[Zbh];rw[hrow,hbas];have hg:=g3 k hk2
    by_cases e:k=r.toNat
    · rw[if_pos e,if_pos e]
      simp only[Bool.and_eq_true,decide_eq_true_eq];exact⟨hml,by omega,by omega⟩
    · rw[if_neg e,if_neg e]
      simp only[Bool.and_eq_true,decide_eq_true_eq];refine⟨?_,hg.2⟩;unfold nextR;rw[if_neg e]
      by_cases hz:at_ (row t k) c.toNat=(0,1)
      · rw[if_pos hz];exact hg.1
      · rw[if_neg hz]
        have hn:nextK t r.toNat c.toNat k=true:=by
          unfold Zbm at hall;rw[List.all_eq_true] at hall;exact hall k (by simpa using hk2)
        unfold nextK still at hn;simp only[e,hz,decide_false,Bool.false_or] at hn;rw[Zw0 hn];exact hg.1
  · rw[if_neg hp]
    exact⟨h,rfl,rfl⟩
theorem Zlp (t:T) (r c:Nat):Zbc t r c 0=t.rows.set r (main t r c):=by
 refine List.ext_getElem? fun j=>?_
 by_cases h:j<t.rows.length
 ·rw[Zcy t r c 0 j h]
  by_cases e:j=r
  ·subst e;simp[h]
  ·rw[if_neg e,if_neg (Nat.not_lt_zero j),List.getElem?_set_ne (fun e'=>e e'.symm)]
   unfold row;rw[List.getD_eq_getElem?_getD,List.getElem?_eq_getElem h];rfl
 ·rw[List.getElem?_eq_none (by rw[Zbh];omega),List.getElem?_eq_none (by simp;omega)]
theorem Zgv {t:T} {r c k:Nat} (h:still t r c k=true):Zbc t r c (k+1)=Zbc t r c k:=by
 refine List.ext_getElem? fun j=>?_
 by_cases hl:j<t.rows.length
 ·rw[Zcy t r c _ j hl,Zcy t r c _ j hl]
  by_cases e:j=r
  ·rw[if_pos e,if_pos e]
  ·rw[if_neg e,if_neg e]
   by_cases ek:j=k
   ·subst ek
    rw[if_pos (Nat.lt_succ_self j),if_neg (Nat.lt_irrefl j)];unfold still at h;simp only[Bool.or_eq_true,decide_eq_true_eq] at h;unfold nextR;rw[if_neg e,if_pos (h.resolve_left e)]
   ·by_cases hk:j<k
    ·rw[if_pos (by omega),if_pos hk]
    ·rw[if_neg (by omega),if_neg hk]
 ·rw[List.getElem?_eq_none (by rw[Zbh];omega),List.getElem?_eq_none (by rw[Zbh];omega)]
theorem Zlo {t:T} {r c k:Nat} (h:still t r c k=false):Zbc t r c (k+1)=(Zbc t r c k).set k (Ve.scR (row t k) (negR (at_ (row t k) c)) (main t r c)):=by
 unfold still at h;simp only[Bool.or_eq_false_iff,decide_eq_false_iff_not] at h;refine List.ext_getElem? fun j=>?_
 by_cases hl:j<t.rows.length
 ·rw[Zcy t r c _ j hl]
  by_cases ek:j=k
  ·subst ek
   rw[if_neg h.1,if_pos (Nat.lt_succ_self j),List.getElem?_set_self (by rw[Zbh];exact hl)];unfold nextR;rw[if_neg h.1,if_neg h.2]
  ·rw[List.getElem?_set_ne (fun e=>ek e.symm),Zcy t r c _ j hl]
   by_cases e:j=r
   ·rw[if_pos e,if_pos e]
   ·rw[if_neg e,if_neg e]
    by_cases hk:j<k
    ·rw[if_pos (by omega),if_pos hk]
    ·rw[if_neg (by omega),if_neg hk]
 ·rw[List.getElem?_eq_none (by rw[Zbh];omega),List.getElem?_eq_none (by simp;rw[Zbh];omega)]
theorem Zv1 {t:T} {r c:Int} (h:may t r c=true):good t=true/\(0≤r/\r≤(t.rows.length:Int)-1)/\(0≤c/\c≤t.cols+t.rows.length-1)/\(at_ (row t r.toNat) c.toNat).1≠0:=by
 unfold may at h;simp only[Bool.and_eq_true,decide_eq_true_eq,Bool.not_eq_true',decide_eq_false_iff_not] at h;exact⟨h.1,h.2.1,h.2.2.1,h.2.2.2⟩
theorem Z0i {t:T} {r c:Int} (h:pivK t r c=false):piv t r c=t:=by unfold piv;rw[h];rfl
theorem Zwl {t:T} {r c:Int} (h:pivK t r c=true):piv t r c=⟨Zbc t r.toNat c.toNat t.rows.length,t.basis.set r.toNat c,t.cols⟩:=by unfold piv;rw[h];rfl
theorem Zy2 {t:T} {r c:Int} (h:may t r c=false):pivK t r c=false:=by unfold pivK;rw[h];rfl
theorem Zwk {t:T} {r c:Int} (h:Zgq t r.toNat c.toNat=false):pivK t r c=false:=by unfold pivK;rw[h];simp
theorem Zy3 {t:T} {r c:Int} {k:Nat} (hk:k<t.rows.length) (h:nextK t r.toNat c.toNat k=false):pivK t r c=false:=by
 unfold pivK;rw[Zi3 hk h];simp
theorem Zy1 {t:T} {r c:Int} (h1:may t r c=true) (h2:Zgq t r.toNat c.toNat=true) (h3:Zbm t r.toNat c.toNat t.rows.length=true):pivK t r c=true:=by
 unfold pivK;rw[h1,h2,h3];rfl
theorem Zoy (t:T) (r c:Nat):Zbm t r c 0=true:=rfl
theorem Ze6 {t:T} {r c k:Nat} (h:Zbm t r c k=true) (h2:nextK t r c k=true):Zbm t r c (k+1)=true:=by rw[Zox,h,h2];rfl
theorem Zlj {t:T} {r c k:Nat} (h:still t r c k=true):nextK t r c k=true:=by unfold nextK;rw[h];rfl
theorem Zyt {t:T} {r c k:Nat} (h:still t r c k=false):nextK t r c k=Ve.scK (row t k) (negR (at_ (row t k) c)) (main t r c):=by unfold nextK;rw[h];rfl
def sgn (x:R):Int:=Ra.cmp x.1 x.2 0 1
def ent (cost:List R):Nat->Int
 | 0=>-1
 | k+1=>if 0≤ent cost k then ent cost k else if sgn (at_ cost k)<0 then k else -1
theorem Zj3 {cost:List R}:∀ {k:Nat},(∀j,j<k->¬sgn (at_ cost j)<0)->ent cost k=-1
 | 0,_=>rfl
 | k+1,h=>by
  have h1:=Zj3 (k:=k) fun j hj=>h j (by omega)
  unfold ent;rw[h1,if_neg (by omega),if_neg (h k (by omega))]
theorem Zky {cost:List R} {j:Nat} (h:∀i,i<j->¬sgn (at_ cost i)<0) (hj:sgn (at_ cost j)<0):∀n,j<n->ent cost n=j
 | 0,hn=>absurd hn (by omega)
 | n+1,hn=>by
  by_cases e:j=n
  ·subst e
   unfold ent;rw[Zj3 h,if_neg (by omega),if_pos hj]
  ·have:=Zky h hj n (by omega)
   unfold ent;rw[this,if_pos (by omega)]
def entR (cost:List R) (last:Int):Int:=if last≤cost.length then ent cost last.toNat else -1
def lvOk (t:T) (c k:Nat):Bool:=decide (0<sgn (at_ (row t k) c)) && divK (at_ (row t k) (t.cols+t.rows.length).toNat) (at_ (row t k) c)
def lvQ (t:T) (c k:Nat):R:=divR (at_ (row t k) (t.cols+t.rows.length).toNat) (at_ (row t k) c)
def how (x y:R):Int:=Ra.cmp x.1 x.2 y.1 y.2
def takes (t:T) (best:Int) (least q:R) (k:Nat):Bool:=decide (best<0) || (decide (how q least<0) || (decide (how q least=0) && decide (bas t k<bas t best.toNat)))
def lv (t:T) (c:Nat):Nat->Int×R
 | 0=>(-1,(0,0))
 | k+1=>if lvOk t c k && takes t (lv t c k).1 (lv t c k).2 (lvQ t c k) k then ((k:Int),lvQ t c k) else lv t c k
theorem Z0d {t:T} {c k:Nat} (h:lvOk t c k=true) (h2:takes t (lv t c k).1 (lv t c k).2 (lvQ t c k) k=true):lv t c (k+1)=((k:Int),lvQ t c k):=by
 show (if _ then _ else _)=_;rw[h,h2];rfl
theorem Zrj {t:T} {c k:Nat} (h:lvOk t c k=false):lv t c (k+1)=lv t c k:=by
 show (if _ then _ else _)=_;rw[h];rfl
theorem Zvv {t:T} {c k:Nat} (h2:takes t (lv t c k).1 (lv t c k).2 (lvQ t c k) k=false):lv t c (k+1)=lv t c k:=by
 show (if _ then _ else _)=_;rw[h2,Bool.and_false];rfl
theorem Zss (t:T) (c:Nat):∀k,-1≤(lv t c k).1/\(lv t c k).1<k
 | 0=>by simp[lv]
 | k+1=>by
  have h:=Zss t c k;show -1≤(if _ then _ else lv t c k:Int×R).1/\(if _ then _ else lv t c k:Int×R).1<_
  split
  ·simp only;omega
  ·omega
def lvR (t:T) (c:Int):Int:=if good t && decide (0≤c/\c≤t.cols+t.rows.length-1) then (lv t c.toNat t.rows.length).1 else -1
theorem Zvu {t:T} {c:Int} (h:good t=false):lvR t c=-1:=by unfold lvR;rw[h];rfl
theorem Zvt {t:T} {c:Int} (h:decide (0≤c/\c≤t.cols+t.rows.length-1)=false):lvR t c=-1:=by unfold lvR;rw[h,Bool.and_false];rfl
theorem Z0c {t:T} {c:Nat} (h:good t=true) (h2:decide (0≤(c:Int)/\(c:Int)≤t.cols+t.rows.length-1)=true):lvR t c=(lv t c t.rows.length).1:=by unfold lvR;rw[h,h2];rfl
theorem Zw3 {x:R} (h:Ra.vld x.1 x.2=true):(0<sgn x↔0<x.1)/\(sgn x<0↔x.1<0):=by
 have h2:Ra.two x.1 x.2 0 1=true:=by unfold Ra.two;rw[h];rfl
 unfold sgn Ra.cmp;rw[if_pos h2]
 rcases Int.lt_trichotomy x.1 0 with h3|h3|h3
 ·rw[if_pos (by omega)];omega
 ·rw[if_neg (by omega),if_neg (by omega)];omega
 ·rw[if_neg (by omega),if_pos (by omega)];omega
theorem Zxy {x y:R} (h:divK x y=true):Ra.vld x.1 x.2=true/\Ra.vld y.1 y.2=true:=by
 unfold divK at h;obtain⟨k,_⟩:=Ra.Zfl h;exact⟨(Ra.Zd2 k).1,(Ra.Zd2 k).2⟩
theorem Zyh (t:T) (c k:Nat):lvOk t c k=(decide (0<(at_ (row t k) c).1) && divK (at_ (row t k) (t.cols+t.rows.length).toNat) (at_ (row t k) c)):=by
 unfold lvOk
 rcases h:divK (at_ (row t k) (t.cols+t.rows.length).toNat) (at_ (row t k) c) with _|_
 ·simp
 ·rw[decide_eq_decide.2 (Zw3 (Zxy h).2).1]
def sg (p:Lp.P) (k:Nat):Int:=if p.B.getD k 0<0 then -1 else 1
def Zjf (n k:Nat):List Int:=(List.range n).map fun i=>if i=k then 1 else 0
def nums (p:Lp.P) (k:Nat):List Int:=(Lp.row p k).map (fun a=>sg p k*a)++(Zjf p.A.length k++[sg p k*p.B.getD k 0])
def asR (l:List Int):List R:=l.map fun z=>(z,1)
def Zcj (p:Lp.P) (k:Nat):List R:=asR (nums p k)
def Zap (p:Lp.P) (k:Nat):T:=⟨(List.range k).map (Zcj p),(List.range k).map (fun i:Nat=>(p.C.length:Int)+(i:Int)),p.C.length⟩
def start (p:Lp.P):T:=if Lp.vldP p then Zap p p.A.length else ⟨[],[],0⟩
theorem Ze1 {p:Lp.P} (h:Lp.vldP p=true):start p=Zap p p.A.length:=by unfold start;rw[if_pos h]
theorem Zth {p:Lp.P} (h:Lp.vldP p=false):start p=⟨[],[],0⟩:=by unfold start;rw[h];rfl
theorem Zpx (p:Lp.P) (k:Nat):(Zap p (k+1)).rows=(Zap p k).rows++[Zcj p k]:=by simp[Zap,List.range_succ]
theorem Zmt (p:Lp.P) (k:Nat):(Zap p (k+1)).basis=(Zap p k).basis++[(p.C.length:Int)+(k:Int)]:=by simp[Zap,List.range_succ]
theorem Zir {l:List Int} (h:Lp.small l=true) (k:Nat):-5000≤l.getD k 0/\l.getD k 0≤5000:=by
 rcases Nat.lt_or_ge k l.length with hk|hk
 ·unfold Lp.small at h
  rw[List.all_eq_true] at h;have:=h l[k] (List.getElem_mem hk);rw[List.getD_eq_getElem?_getD,List.getElem?_eq_getElem hk]
  simpa using this
 ·rw[List.getD_eq_getElem?_getD,List.getElem?_eq_none hk]
  simp
theorem Zp2 {l:List Int} (h:Lp.small l=true) {z:Int} (hz:z∈l):-5000≤z/\z≤5000:=by
 unfold Lp.small at h;rw[List.all_eq_true] at h
 simpa using h z hz
theorem Zw1 (p:Lp.P) (k:Nat):sg p k=1\/sg p k=-1:=by
 unfold sg
 split
 ·exact .inr rfl
 ·exact .inl rfl
theorem Zue {p:Lp.P} (h:Lp.vldP p=true) {k:Nat} (hk:k<p.A.length):∀z∈nums p k,-5000≤z/\z≤5000:=by
 obtain⟨h1,_,_,_,h5,_⟩:=Lp.Zas h;have h2:=(Lp.Zed h1 hk).2;intro z hz;unfold nums at hz;rw[List.mem_append,List.mem_append] at hz
 rcases hz with hz|hz|hz
 ·obtain⟨a,ha,rfl⟩:=List.mem_map.1 hz
  have:=Zp2 h2 ha
  rcases Zw1 p k with e|e<;>rw[e]<;>omega
 ·unfold Zjf at hz
  obtain⟨i,_,rfl⟩:=List.mem_map.1 hz
  split<;>omega
 ·have:z=sg p k*p.B.getD k 0:=by simpa using hz
  subst this;have:=Zir h5 k
  rcases Zw1 p k with e|e<;>rw[e]<;>omega
theorem Zyv {p:Lp.P} (h:Lp.vldP p=true) {k:Nat} (hk:k<p.A.length):(nums p k).length=p.C.length+p.A.length+1:=by
 obtain⟨h1,_⟩:=Lp.Zas h;have h2:=(Lp.Zed h1 hk).1;simp[nums,Zjf,h2];omega
theorem Zyd {l:List Int} (h:∀z∈l,-5000≤z/\z≤5000):Lp.irK l=true/\Lp.ir l=asR l:=by
 have hf:∀j,j<l.length->(Ve.ofI l j)=((l.getD j 0,1),true):=fun j hj=>by
  have hz:=h l[j] (List.getElem_mem hj);have e:l.getD j 0=l[j]:=by rw[List.getD_eq_getElem?_getD,List.getElem?_eq_getElem hj];rfl
  have h2:Ve.inr (l.getD j 0)=true:=by rw[e];unfold Ve.inr;rw[decide_eq_true_iff];omega
  obtain⟨e1,e2⟩:=Ve.Zvm h2;unfold Ve.ofI;rw[e1,e2,Ve.Zij,h2]
 have hK:Lp.irK l=true:=by
  unfold Lp.irK Ve.allK;rw[List.all_eq_true];intro j hj;rw[hf j (by simpa using hj)]
 refine⟨hK,?_⟩;unfold Lp.ir;rw[Ve.Zds hK];refine List.ext_getElem? fun j=>?_
 by_cases hj:j<l.length
 ·simp only[Ve.upto,asR,List.getElem?_map,List.getElem?_range hj,List.getElem?_eq_getElem hj,Option.map_some,hf j hj,List.getD_eq_getElem?_getD,Option.getD_some]
 ·rw[List.getElem?_eq_none (by rw[Ve.Zb6];omega),List.getElem?_eq_none (by simp[asR];omega)]
theorem Zr7 {p:Lp.P} (h:Lp.vldP p=true) {k:Nat} (hk:k<p.A.length):Lp.irK (nums p k)=true/\Lp.ir (nums p k)=Zcj p k:=Zyd (Zue h hk)
theorem Zqd {p:Lp.P} (h:Lp.vldP p=true) {k:Nat} (hk:k<p.A.length):(Zcj p k).length=p.C.length+p.A.length+1:=by
 unfold Zcj asR;rw[List.length_map,Zyv h hk]
theorem Zuo {p:Lp.P} (h:Lp.vldP p=true):good (start p)=true:=by
 rw[Ze1 h];have hv:=Lp.Zas h;refine Znw (by show (0:Int)≤(p.C.length:Int);omega) (by show (p.C.length:Int)≤1000;omega) (by simp[Zap]) fun k hk=>?_
 have hk':k<p.A.length:=by simpa [Zap] using hk
 have e1:row (Zap p p.A.length) k=Zcj p k:=by unfold row Zap;simp[List.getD_eq_getElem?_getD,hk']
 have e2:bas (Zap p p.A.length) k=(p.C.length:Int)+(k:Int):=by unfold bas Zap;simp[List.getD_eq_getElem?_getD,hk']
 unfold rowOk;rw[e1,e2,Zqd h hk'];simp only[Zap,List.length_map,List.length_range,Bool.and_eq_true,decide_eq_true_eq];omega
def Zcc (s:T×Nat) (r c:Int):Option (T×Nat):=if s.2<1000 then (if pivK s.1 r c then some (piv s.1 r c,s.2+1) else none) else none
theorem Zfy {s s':T×Nat} {r c:Int} (h:Zcc s r c=some s'):s.2<1000/\pivK s.1 r c=true/\s'=(piv s.1 r c,s.2+1):=by
  unfold Zcc at h
  by_cases h1:s.2<1000
  · rw[if_pos h1] at h
    by_cases h2:pivK s.1 r c=true
    · rw[if_pos h2] at h
      exact⟨h1,h2,(Option.some.inj h).symm⟩
    · rw[if_neg h2] at h;cases h
  · rw[if_neg h1] at h;cases h
theorem Zqf {s:T×Nat} {r c:Int} (h:¬s.2<1000):Zcc s r c=none:=by unfold Zcc;rw[if_neg h]
theorem Zxc {s:T×Nat} {r c:Int} (h:pivK s.1 r c=false):Zcc s r c=none:=by unfold Zcc;rw[h];simp
theorem Zti {s:T×Nat} {r c:Int} (h:s.2<1000) (h2:pivK s.1 r c=true):Zcc s r c=some (piv s.1 r c,s.2+1):=by unfold Zcc;rw[if_pos h,if_pos h2]
def entC (t:T) (cost:List R):Int:=entR (Zdm t cost) t.cols
def phase (cost:List R):Nat->T×Nat->Option ((T×Nat)×List R×Int)
  | 0,_=>none
  | f+1,s=>
    if Zco s.1 cost then
      if lvR s.1 (entC s.1 cost)<0 then some (s,Zdm s.1 cost,entC s.1 cost)
      else match Zcc s (lvR s.1 (entC s.1 cost)) (entC s.1 cost) with
        | none=>none
        | some s'=>phase cost f s'
    else none
def ph (cost:List R) (s:T×Nat):Option ((T×Nat)×List R×Int):=phase cost (1001-s.2) s
theorem Z0g {cost:List R} {s:T×Nat} (h:Zco s.1 cost=false):ph cost s=none:=by
  unfold ph
  rcases e:1001 - s.2 with _|f
  · rfl
  · show (if _ then _ else none)=none
    rw[h];rfl
theorem Zrp {cost:List R} {s:T×Nat} (hn:s.2≤1000) (h:Zco s.1 cost=true) (h2:lvR s.1 (entC s.1 cost)<0):ph cost s=some (s,Zdm s.1 cost,entC s.1 cost):=by
  unfold ph;rw[show 1001-s.2=(1000-s.2)+1 by omega];show (if Zco s.1 cost=true then (if lvR s.1 (entC s.1 cost)<0 then some (s,Zdm s.1 cost,entC s.1 cost) else match Zcc s (lvR s.1 (entC s.1 cost)) (entC s.1 cost) with|none=>none|some s'=>phase cost (1000 - s.2) s') else none)=_;rw[if_pos h,if_pos h2]
theorem Zwi {cost:List R} {s:T×Nat} (h2:¬lvR s.1 (entC s.1 cost)<0) (h3:Zcc s (lvR s.1 (entC s.1 cost)) (entC s.1 cost)=none):ph cost s=none:=by
  unfold ph
  rcases e:1001 - s.2 with _|f
  · rfl
  · show (if _ then (if _ then _ else match Zcc s (lvR s.1 (entC s.1 cost)) (entC s.1 cost) with|none=>none|some s'=>phase cost f s') else none)=none
    rw[if_neg h2,h3]
    split<;>rfl
theorem Zwh {cost:List R} {s s':T×Nat} (h:Zco s.1 cost=true) (h2:¬lvR s.1 (entC s.1 cost)<0) (h3:Zcc s (lvR s.1 (entC s.1 cost)) (entC s.1 cost)=some s'):ph cost s=ph cost s':=by
  obtain⟨h4,_,h5⟩:=Zfy h3;have e:1001-s.2=(1001-s'.2)+1:=by rw[h5];show _=1001-(s.2+1)+1;omega
  unfold ph;rw[e];show (if Zco s.1 cost=true then (if lvR s.1 (entC s.1 cost)<0 then some (s,Zdm s.1 cost,entC s.1 cost) else match Zcc s (lvR s.1 (entC s.1 cost)) (entC s.1 cost) with|none=>none|some s''=>phase cost (1001 - s'.2) s'') else none)=_;rw[if_pos h,if_neg h2,h3]
theorem Z00 {t:T} {c:Int} (h:c<0):lvR t c=-1:=Zvt (by rw[decide_eq_false_iff_not];omega)
def fstN (l:List R):Nat->Int
  | 0=>-1
  | k+1=>if 0≤fstN l k then fstN l k else if (at_ l k).1≠0 then k else -1
theorem Zj4 {l:List R}:∀ {k:Nat},(∀j,j<k->(at_ l j).1=0)->fstN l k=-1
  | 0,_=>rfl
  | k+1,h=>by
    have h1:=Zj4 (k:=k) fun j hj=>h j (by omega)
    unfold fstN;rw[h1,if_neg (by omega),if_neg (by rw[h k (by omega)];simp)]
theorem Zk3 {l:List R} {j:Nat} (h:∀i,i<j->(at_ l i).1=0) (hj:(at_ l j).1≠0):∀n,j<n->fstN l n=j
  | 0,hn=>absurd hn (by omega)
  | n+1,hn=>by
    by_cases e:j=n
    · subst e
      unfold fstN;rw[Zj4 h,if_neg (by omega),if_pos hj]
    · have:=Zk3 h hj n (by omega)
      unfold fstN;rw[this,if_pos (by omega)]
def drive (s:T×Nat):Nat->Option (T×Nat)
  | 0=>some s
  | k+1=>match drive s k with
    | none=>none
    | some u=>if bas u.1 k<u.1.cols then some u else if fstN (row u.1 k) u.1.cols.toNat<0 then some u else Zcc u k (fstN (row u.1 k) u.1.cols.toNat)
theorem Zgi {s:T×Nat} {k:Nat} (h:drive s k=none):∀n,k≤n->drive s n=none
  | 0, hn => by obtain rfl : k = 0 := by omega
                exact h
  | n+1,hn=>by
    by_cases e:k=n+1
    · subst e;exact h
    · have h1:=Zgi h n (by omega)
      unfold drive;rw[h1]
theorem Zfo {s u:T×Nat} {k:Nat} (h:drive s k=some u):drive s (k+1)=(if bas u.1 k<u.1.cols then some u else if fstN (row u.1 k) u.1.cols.toNat<0 then some u else Zcc u k (fstN (row u.1 k) u.1.cols.toNat)):=by
  conv=>lhs;unfold drive
  rw[h]
def Zgf (p:Lp.P):List R:=Lp.Za1 p.C.length++(List.range p.A.length).map fun _=>(1,1)
def Zdq (p:Lp.P):List R:=p.C++Lp.Za1 p.A.length
def Same (p:Lp.P) (s:T×Nat):Prop:=good s.1=true/\s.1.rows.length=p.A.length/\s.1.cols=p.C.length/\s.2≤1000
theorem Zet {p:Lp.P} (h:Lp.vldP p=true):Same p (start p,0):=by
  refine⟨Zuo h,?_,?_,Nat.zero_le _⟩
  · show (start p).rows.length=_
    rw[Ze1 h];simp[Zap]
  · show (start p).cols=_
    rw[Ze1 h];rfl
theorem Zin {p:Lp.P} {s s':T×Nat} {r c:Int} (h:Same p s) (h2:Zcc s r c=some s'):Same p s':=by
  obtain⟨h3,_,rfl⟩:=Zfy h2;obtain⟨a1,a2,a3,a4⟩:=h;obtain⟨q1,q2,q3⟩:=Zs3 (r:=r) (c:=c) a1;exact⟨q1,q2.trans a2,q3.trans a3,by show s.2+1≤1000;omega⟩
theorem Znc {p:Lp.P} {cost:List R}:∀(f:Nat) {s s':T×Nat} {cs:List R} {col:Int},Same p s->phase cost f s=some (s',cs,col)->
    Same p s'/\Zco s'.1 cost=true/\cs=Zdm s'.1 cost/\col=entC s'.1 cost/\lvR s'.1 col<0
  | 0,_,_,_,_,_,h=>by cases h
  | f+1,s,s',cs,col,hs,h=>by
    change (if Zco s.1 cost=true then (if lvR s.1 (entC s.1 cost)<0 then some (s,Zdm s.1 cost,entC s.1 cost) else match Zcc s (lvR s.1 (entC s.1 cost)) (entC s.1 cost) with|none=>none|some s'=>phase cost f s') else none)=_ at h
    by_cases h1:Zco s.1 cost=true
    · rw[if_pos h1] at h
      by_cases h2:lvR s.1 (entC s.1 cost)<0
      · rw[if_pos h2] at h
        injection h with h
        injection h with e1 e2
        injection e2 with e2 e3
        subst e1 e2 e3;exact⟨hs,h1,rfl,rfl,h2⟩
      · rw[if_neg h2] at h
        rcases h3:Zcc s (lvR s.1 (entC s.1 cost)) (entC s.1 cost) with _|s1
        · rw[h3] at h;cases h
        · rw[h3] at h
          exact Znc f (Zin hs h3) h
    · rw[if_neg h1] at h;cases h
theorem Zgs {p:Lp.P} {cost:List R} {s s':T×Nat} {cs:List R} {col:Int} (hs:Same p s) (h:ph cost s=some (s',cs,col)):Same p s'/\Zco s'.1 cost=true/\cs=Zdm s'.1 cost/\col=entC s'.1 cost/\lvR s'.1 col<0:=Znc _ hs h
theorem Zdy {p:Lp.P} {s:T×Nat} (hs:Same p s):∀ {k:Nat} {u:T×Nat},drive s k=some u->Same p u
  | 0,u,h=>by
    obtain rfl:=Option.some.inj h;exact hs
  | k+1,u,h=>by
    rcases h1:drive s k with _|v
    · rw[Zgi h1 (k+1) (by omega)] at h;cases h
    · have hv:=Zdy hs h1
      rw[Zfo h1] at h
      by_cases h2:bas v.1 k<v.1.cols
      · rw[if_pos h2] at h
        obtain rfl:=Option.some.inj h;exact hv
      · rw[if_neg h2] at h
        by_cases h3:fstN (row v.1 k) v.1.cols.toNat<0
        · rw[if_pos h3] at h
          obtain rfl:=Option.some.inj h;exact hv
        · rw[if_neg h3] at h
          exact Zin hv h
def subR (x y:R):R:=(Ra.opN (Ra.two x.1 x.2 y.1 y.2) (x.1*y.2-y.1*x.2) (x.2*y.2),Ra.opD (Ra.two x.1 x.2 y.1 y.2) (x.1*y.2-y.1*x.2) (x.2*y.2))
def Zek (p:Lp.P) (cs:List R) (base:Int) (k:Nat):R:=if p.B.getD k 0<0 then negR (subR (base,1) (at_ cs (p.C.length+k))) else subR (base,1) (at_ cs (p.C.length+k))
def Zc8 (p:Lp.P) (cs:List R) (base:Int):List R:=(List.range p.A.length).map (Zek p cs base)
def Zdn (t:T) (col:Nat):Nat->List R
  | 0=>(List.range t.cols.toNat).map fun j=>if j=col then (1,1) else (0,1)
  | k+1=>if bas t k<t.cols then (Zdn t col k).set (bas t k).toNat (negR (at_ (row t k) col)) else Zdn t col k
theorem Zft (t:T) (col:Nat):∀k,(Zdn t col k).length=t.cols.toNat
  | 0=>by simp[Zdn]
  | k+1=>by
    unfold Zdn
    split
    · rw[List.length_set,Zft t col k]
    · exact Zft t col k
def Zcr (cs:List R):R:=at_ cs (cs.length-1)
def xR (t:T):List R:=(solR t).take t.cols.toNat
def noR:R:=(0,0)
def run1 (p:Lp.P):Option Lp.Res:=match ph (Zgf p) (start p,0) with
  | none=>none
  | some (s1,c1,_)=>
    if sgn (Zcr c1)<0 then some ⟨2,[],Zc8 p c1 1,[],noR,s1.2⟩
    else match drive s1 p.A.length with
      | none=>none
      | some s2=>match ph (Zdq p) s2 with
        | none=>none
        | some (s3,c3,col)=>if 0≤col then some ⟨3,xR s3.1,[],Zdn s3.1 col.toNat p.A.length,noR,s3.2⟩ else some ⟨1,xR s3.1,Zc8 p c3 0,[],negR (Zcr c3),s3.2⟩
def solve (p:Lp.P):Lp.Res:=if Lp.vldP p then (match run1 p with
  | none=>⟨4,[],[],[],noR,0⟩
  | some r=>if Lp.chk p r then r else ⟨4,[],[],[],noR,0⟩) else ⟨0,[],[],[],noR,0⟩
theorem Zxa (p:Lp.P):Lp.chk p (solve p)=true\/(Lp.vldP p=false/\solve p=⟨0,[],[],[],noR,0⟩)\/(Lp.vldP p=true/\solve p=⟨4,[],[],[],noR,0⟩):=by
  unfold solve
  rcases hv:Lp.vldP p with _|_
  · exact .inr (.inl ⟨rfl,by simp⟩)
  · rcases hr:run1 p with _|r
    · exact .inr (.inr ⟨rfl,by simp⟩)
    · rcases hc:Lp.chk p r with _|_
      · exact .inr (.inr ⟨rfl,by simp[hc]⟩)
      · exact .inl (by simp[hc])
end Go.Proofs.YtlohljkfphljgaaGreat.Ta
