/- The parts TaM, TaPm, SiM, StM, SxM. -/
import Derived.Test.YtjfnleilddgjiaaGreatGM
namespace Go.Proofs.YtjfnleilddgjiaaGreat.Ta
open Ve (R at_)
structure T where
  rows:List (List R)
  basis:List Int
  cols:Int
def row (t:T) (k:Nat):List R:=t.rows.getD k []
def bas (t:T) (k:Nat):Int:=t.basis.getD k 0
def rowOk (t:T) (k:Nat):Bool:=decide (((row t k).length:Int)=t.cols+t.rows.length+1) && decide (0≤bas t k/\bas t k≤t.cols+t.rows.length-1)
def good (t:T):Bool:=decide (0≤t.cols) && (decide (t.cols≤1000) && (decide (t.basis.length=t.rows.length) && (List.range t.rows.length).all (rowOk t)))
theorem Za4 {t:T} (h:good t=true):0≤t.cols/\t.cols≤1000/\t.basis.length=t.rows.length/\∀k,k<t.rows.length->((row t k).length:Int)=t.cols+t.rows.length+1/\0≤bas t k/\bas t k≤t.cols+t.rows.length-1:=by
  unfold good at h;simp only[Bool.and_eq_true,decide_eq_true_eq,List.all_eq_true,List.mem_range] at h;refine⟨h.1,h.2.1,h.2.2.1,fun k hk=>?_⟩;have:=h.2.2.2 k hk;unfold rowOk at this;simp only[Bool.and_eq_true,decide_eq_true_eq] at this;exact⟨this.1,this.2.1,this.2.2⟩
theorem Zn7 {t:T} (h0:0≤t.cols) (h1:t.cols≤1000) (h2:t.basis.length=t.rows.length) (h:∀k,k<t.rows.length->rowOk t k=true):good t=true:=by
  unfold good;simp only[Bool.and_eq_true,decide_eq_true_eq,List.all_eq_true,List.mem_range];exact⟨h0,h1,h2,h⟩
theorem Zn8 {t:T} {k:Nat} (hk:k<t.rows.length) (h:rowOk t k=false):good t=false:=by
  rw[Bool.eq_false_iff];intro h2;unfold good at h2;simp only[Bool.and_eq_true,decide_eq_true_eq,List.all_eq_true,List.mem_range] at h2;rw[h2.2.2.2 k hk] at h;cases h
def divR (x y:R):R:=(Ra.opN (Ra.two x.1 x.2 y.1 y.2) (x.1*y.2) (x.2*y.1),Ra.opD (Ra.two x.1 x.2 y.1 y.2) (x.1*y.2) (x.2*y.1))
def divK (x y:R):Bool:=Ra.opK (Ra.two x.1 x.2 y.1 y.2) (x.1*y.2) (x.2*y.1)
def dv (l:List R) (y:R) (j:Nat):R×Bool:=(divR (at_ l j) y,divK (at_ l j) y)
def dvR (l:List R) (y:R):List R:=Ve.outR (dv l y) l.length
def dvK (l:List R) (y:R):Bool:=Ve.allK (dv l y) l.length
def w64 (x:Int):Int:=(x+9223372036854775808) % 18446744073709551616-9223372036854775808
def negR (x:R):R:=(w64 (-x.1),x.2)
def main (t:T) (r c:Nat):List R:=dvR (row t r) (at_ (row t r) c)
def Zgq (t:T) (r c:Nat):Bool:=dvK (row t r) (at_ (row t r) c)
def still (t:T) (r c k:Nat):Bool:=decide (k=r) || decide (at_ (row t k) c=(0,1))
def nextR (t:T) (r c k:Nat):List R:=if k=r then main t r c else if at_ (row t k) c=(0,1) then row t k else Ve.scR (row t k) (negR (at_ (row t k) c)) (main t r c)
def nextK (t:T) (r c k:Nat):Bool:=still t r c k || Ve.scK (row t k) (negR (at_ (row t k) c)) (main t r c)
def Zbk (t:T) (r c n:Nat):Bool:=(List.range n).all (nextK t r c)
theorem Zpa (t:T) (r c k:Nat):Zbk t r c (k+1)=(Zbk t r c k && nextK t r c k):=by simp[Zbk,List.range_succ]
theorem Zi5 {t:T} {r c k n:Nat} (hk:k<n) (h:nextK t r c k=false):Zbk t r c n=false:=by
  rw[Bool.eq_false_iff];intro h2;unfold Zbk at h2;rw[List.all_eq_true] at h2;rw[h2 k (by simpa using hk)] at h;cases h
def Zbb (t:T) (r c k:Nat):List (List R):=(List.range t.rows.length).map fun j=>if j=r then main t r c else if j<k then nextR t r c j else row t j
theorem Zbg (t:T) (r c k:Nat):(Zbb t r c k).length=t.rows.length:=by simp[Zbb]
theorem Zcy (t:T) (r c k j:Nat) (h:j<t.rows.length):(Zbb t r c k)[j]? = some (if j=r then main t r c else if j<k then nextR t r c j else row t j):=by simp[Zbb,h]
def may (t:T) (r c:Int):Bool:=good t && (decide (0≤r/\r≤(t.rows.length:Int)-1) && (decide (0≤c/\c≤t.cols+t.rows.length-1) && !decide ((at_ (row t r.toNat) c.toNat).1=0)))
def pivK (t:T) (r c:Int):Bool:=may t r c && (Zgq t r.toNat c.toNat && Zbk t r.toNat c.toNat t.rows.length)
def piv (t:T) (r c:Int):T:=if pivK t r c then ⟨Zbb t r.toNat c.toNat t.rows.length,t.basis.set r.toNat c,t.cols⟩ else t
def cr (t:T) (cost:List R):Nat->List R×Bool
  | 0=>(cost++[(0,1)],Ve.good cost)
  | k+1=>if (cr t cost k).2 then (Ve.scR (cr t cost k).1 (negR (at_ cost (bas t k).toNat)) (row t k),Ve.scK (cr t cost k).1 (negR (at_ cost (bas t k).toNat)) (row t k)) else cr t cost k
def Zcp (t:T) (cost:List R):Bool:=(good t && decide ((cost.length:Int)=t.cols+t.rows.length)) && (cr t cost t.rows.length).2
def Zdq (t:T) (cost:List R):List R:=if Zcp t cost then (cr t cost t.rows.length).1 else []
theorem Zgk {t:T} {cost:List R} {k:Nat} (h:(cr t cost k).2=false):∀n,k≤n->(cr t cost n).2=false
  | 0, hn => by obtain rfl : k = 0 := by omega
                exact h
  | n+1,hn=>by
    by_cases e:k=n+1
    · subst e;exact h
    · have:=Zgk h n (by omega)
      show (if (cr t cost n).2 then _ else cr t cost n).2=false;rw[this];exact this
theorem Zk8 {t:T} {cost:List R} {k:Nat} (h:(cr t cost k).2=true):cr t cost (k+1)=(Ve.scR (cr t cost k).1 (negR (at_ cost (bas t k).toNat)) (row t k),Ve.scK (cr t cost k).1 (negR (at_ cost (bas t k).toNat)) (row t k)):=by
  show (if (cr t cost k).2 then _ else _)=_;rw[h];rfl
theorem Zxp {a:List R} {u:R} {b:List R} (h:Ve.scK a u b=true):(Ve.scR a u b).length=a.length:=by
  unfold Ve.scK at h;unfold Ve.scR;simp only[Bool.and_eq_true,decide_eq_true_eq] at h;rw[if_pos h.1,Ve.Zdw h.2,Ve.Zb3]
theorem Zrk {l:List R} {y:R} (h:dvK l y=true):(dvR l y).length=l.length:=by
  unfold dvR;rw[Ve.Zdw h,Ve.Zb3]
theorem Zk7 {t:T} {cost:List R}:∀ {k:Nat},(cr t cost k).2=true->(cr t cost k).1.length=cost.length+1
  | 0,_=>by simp[cr]
  | k+1,h=>by
    by_cases hk:(cr t cost k).2=true
    · rw[Zk8 hk] at h ⊢
      rw[Zxp h];exact Zk7 hk
    · have:=Zgk (k:=k) (by simpa using hk) (k+1) (by omega)
      rw[this] at h;cases h
theorem Zb1 {t:T} {cost:List R} (h:Zcp t cost=true):((Zdq t cost).length:Int)=t.cols+t.rows.length+1:=by
  have h':=h;unfold Zcp at h';simp only[Bool.and_eq_true,decide_eq_true_eq] at h';unfold Zdq;rw[if_pos h,Zk7 h'.2];omega
def sol (t:T):Nat->List R
  | 0=>Lp.Za3 (t.cols+t.rows.length).toNat
  | k+1=>(sol t k).set (bas t k).toNat (at_ (row t k) (t.cols+t.rows.length).toNat)
def solR (t:T):List R:=if good t then sol t t.rows.length else []
theorem Zht (t:T):∀k,(sol t k).length=(t.cols+t.rows.length).toNat
  | 0=>by simp[sol,Lp.Za3]
  | k+1=>by simp[sol,Zht t k]
theorem Zth {t:T} {r c:Int} (h:good t=true):good (piv t r c)=true/\(piv t r c).rows.length=t.rows.length/\(piv t r c).cols=t.cols:=by
  unfold piv
  by_cases hp:pivK t r c=true
  · rw[if_pos hp]
    unfold pivK may at hp;simp only[Bool.and_eq_true,decide_eq_true_eq] at hp;obtain⟨⟨_,⟨hr0,hr1⟩,⟨hc0,hc1⟩,_⟩,hm,hall⟩:=hp;obtain⟨g0,g1,g2,g3⟩:=Za4 h;have hrl:r.toNat<t.rows.length:=by omega
    have hml:((main t r.toNat c.toNat).length:Int)=t.cols+t.rows.length+1:=by
      unfold main;rw[Zrk hm];exact (g3 r.toNat hrl).1
    refine⟨Zn7 g0 g1 (by simp[Zbg,g2]) fun k hk=>?_,Zbg _ _ _ _,rfl⟩;have hk2:k<t.rows.length:=by simpa [Zbg] using hk
    unfold rowOk;have hrow:row ⟨Zbb t r.toNat c.toNat t.rows.length,t.basis.set r.toNat c,t.cols⟩ k=if k=r.toNat then main t r.toNat c.toNat else nextR t r.toNat c.toNat k:=by
      unfold row;rw[List.getD_eq_getElem?_getD,Zcy _ _ _ _ _ hk2];simp[hk2]
    have hbas:bas ⟨Zbb t r.toNat c.toNat t.rows.length,t.basis.set r.toNat c,t.cols⟩ k=if k=r.toNat then c else bas t k:=by
      unfold bas;rw[List.getD_eq_getElem?_getD,List.getD_eq_getElem?_getD]
      by_cases e:k=r.toNat
      · subst e
        rw[List.getElem?_set_self (by omega),if_pos rfl];rfl
      · rw[List.getElem?_set_ne (fun h=>e h.symm),if_neg e]
    simp only[Zbg];rw[hrow,hbas];have hg:=g3 k hk2
    by_cases e:k=r.toNat
    · rw[if_pos e,if_pos e]
      simp only[Bool.and_eq_true,decide_eq_true_eq];exact⟨hml,by omega,by omega⟩
    · rw[if_neg e,if_neg e]
      simp only[Bool.and_eq_true,decide_eq_true_eq];refine⟨?_,hg.2⟩;unfold nextR;rw[if_neg e]
      by_cases hz:at_ (row t k) c.toNat=(0,1)
      · rw[if_pos hz];exact hg.1
      · rw[if_neg hz]
        have hn:nextK t r.toNat c.toNat k=true:=by
          unfold Zbk at hall;rw[List.all_eq_true] at hall;exact hall k (by simpa using hk2)
        unfold nextK still at hn;simp only[e,hz,decide_false,Bool.false_or] at hn;rw[Zxp hn];exact hg.1
  · rw[if_neg hp]
    exact⟨h,rfl,rfl⟩
theorem Zl3 (t:T) (r c:Nat):Zbb t r c 0=t.rows.set r (main t r c):=by
 refine List.ext_getElem? fun j=>?_
 by_cases h:j<t.rows.length
 ·rw[Zcy t r c 0 j h]
  by_cases e:j=r
  ·subst e;simp[h]
  ·rw[if_neg e,if_neg (Nat.not_lt_zero j),List.getElem?_set_ne (fun e'=>e e'.symm)]
   unfold row;rw[List.getD_eq_getElem?_getD,List.getElem?_eq_getElem h];rfl
 ·rw[List.getElem?_eq_none (by rw[Zbg];omega),List.getElem?_eq_none (by simp;omega)]
theorem Zgv {t:T} {r c k:Nat} (h:still t r c k=true):Zbb t r c (k+1)=Zbb t r c k:=by
 refine List.ext_getElem? fun j=>?_
 by_cases hl:j<t.rows.length
 ·rw[Zcy t r c _ j hl,Zcy t r c _ j hl]
  by_cases e:j=r
  ·rw[if_pos e,if_pos e]
  ·rw[if_neg e,if_neg e]
   by_cases ek:j=k
   ·subst ek
    rw[if_pos (Nat.lt_succ_self j),if_neg (Nat.lt_irrefl j)];unfold still at h;simp only[Bool.or_eq_true,decide_eq_true_eq] at h;unfold nextR;rw[if_neg e,if_pos (h.resolve_left e)]
   ·by_cases hk:j<k
    ·rw[if_pos (by omega),if_pos hk]
    ·rw[if_neg (by omega),if_neg hk]
 ·rw[List.getElem?_eq_none (by rw[Zbg];omega),List.getElem?_eq_none (by rw[Zbg];omega)]
theorem Zl2 {t:T} {r c k:Nat} (h:still t r c k=false):Zbb t r c (k+1)=(Zbb t r c k).set k (Ve.scR (row t k) (negR (at_ (row t k) c)) (main t r c)):=by
 unfold still at h;simp only[Bool.or_eq_false_iff,decide_eq_false_iff_not] at h;refine List.ext_getElem? fun j=>?_
 by_cases hl:j<t.rows.length
 ·rw[Zcy t r c _ j hl]
  by_cases ek:j=k
  ·subst ek
   rw[if_neg h.1,if_pos (Nat.lt_succ_self j),List.getElem?_set_self (by rw[Zbg];exact hl)];unfold nextR;rw[if_neg h.1,if_neg h.2]
  ·rw[List.getElem?_set_ne (fun e=>ek e.symm),Zcy t r c _ j hl]
   by_cases e:j=r
   ·rw[if_pos e,if_pos e]
   ·rw[if_neg e,if_neg e]
    by_cases hk:j<k
    ·rw[if_pos (by omega),if_pos hk]
    ·rw[if_neg (by omega),if_neg hk]
 ·rw[List.getElem?_eq_none (by rw[Zbg];omega),List.getElem?_eq_none (by simp;rw[Zbg];omega)]
theorem Zwq {t:T} {r c:Int} (h:may t r c=true):good t=true/\(0≤r/\r≤(t.rows.length:Int)-1)/\(0≤c/\c≤t.cols+t.rows.length-1)/\(at_ (row t r.toNat) c.toNat).1≠0:=by
 unfold may at h;simp only[Bool.and_eq_true,decide_eq_true_eq,Bool.not_eq_true',decide_eq_false_iff_not] at h;exact⟨h.1,h.2.1,h.2.2.1,h.2.2.2⟩
theorem Z06 {t:T} {r c:Int} (h:pivK t r c=false):piv t r c=t:=by unfold piv;rw[h];rfl
theorem Zw7 {t:T} {r c:Int} (h:pivK t r c=true):piv t r c=⟨Zbb t r.toNat c.toNat t.rows.length,t.basis.set r.toNat c,t.cols⟩:=by unfold piv;rw[h];rfl
theorem Zzp {t:T} {r c:Int} (h:may t r c=false):pivK t r c=false:=by unfold pivK;rw[h];rfl
theorem Zw6 {t:T} {r c:Int} (h:Zgq t r.toNat c.toNat=false):pivK t r c=false:=by unfold pivK;rw[h];simp
theorem Zzq {t:T} {r c:Int} {k:Nat} (hk:k<t.rows.length) (h:nextK t r.toNat c.toNat k=false):pivK t r c=false:=by
 unfold pivK;rw[Zi5 hk h];simp
theorem Zzo {t:T} {r c:Int} (h1:may t r c=true) (h2:Zgq t r.toNat c.toNat=true) (h3:Zbk t r.toNat c.toNat t.rows.length=true):pivK t r c=true:=by
 unfold pivK;rw[h1,h2,h3];rfl
theorem Zpb (t:T) (r c:Nat):Zbk t r c 0=true:=rfl
theorem Zff {t:T} {r c k:Nat} (h:Zbk t r c k=true) (h2:nextK t r c k=true):Zbk t r c (k+1)=true:=by rw[Zpa,h,h2];rfl
theorem Zlv {t:T} {r c k:Nat} (h:still t r c k=true):nextK t r c k=true:=by unfold nextK;rw[h];rfl
theorem Zzf {t:T} {r c k:Nat} (h:still t r c k=false):nextK t r c k=Ve.scK (row t k) (negR (at_ (row t k) c)) (main t r c):=by unfold nextK;rw[h];rfl
def sgn (x:R):Int:=Ra.cmp x.1 x.2 0 1
def ent (cost:List R):Nat->Int
 | 0=>-1
 | k+1=>if 0≤ent cost k then ent cost k else if sgn (at_ cost k)<0 then k else -1
theorem Zj9 {cost:List R}:∀ {k:Nat},(∀j,j<k->¬sgn (at_ cost j)<0)->ent cost k=-1
 | 0,_=>rfl
 | k+1,h=>by
  have h1:=Zj9 (k:=k) fun j hj=>h j (by omega)
  unfold ent;rw[h1,if_neg (by omega),if_neg (h k (by omega))]
theorem Zla {cost:List R} {j:Nat} (h:∀i,i<j->¬sgn (at_ cost i)<0) (hj:sgn (at_ cost j)<0):∀n,j<n->ent cost n=j
 | 0,hn=>absurd hn (by omega)
 | n+1,hn=>by
  by_cases e:j=n
  ·subst e
   unfold ent;rw[Zj9 h,if_neg (by omega),if_pos hj]
  ·have:=Zla h hj n (by omega)
   unfold ent;rw[this,if_pos (by omega)]
def entR (cost:List R) (last:Int):Int:=if last≤cost.length then ent cost last.toNat else -1
def lvOk (t:T) (c k:Nat):Bool:=decide (0<sgn (at_ (row t k) c)) && divK (at_ (row t k) (t.cols+t.rows.length).toNat) (at_ (row t k) c)
def lvQ (t:T) (c k:Nat):R:=divR (at_ (row t k) (t.cols+t.rows.length).toNat) (at_ (row t k) c)
def how (x y:R):Int:=Ra.cmp x.1 x.2 y.1 y.2
def takes (t:T) (best:Int) (least q:R) (k:Nat):Bool:=decide (best<0) || (decide (how q least<0) || (decide (how q least=0) && decide (bas t k<bas t best.toNat)))
def lv (t:T) (c:Nat):Nat->Int×R
 | 0=>(-1,(0,0))
 | k+1=>if lvOk t c k && takes t (lv t c k).1 (lv t c k).2 (lvQ t c k) k then ((k:Int),lvQ t c k) else lv t c k
theorem Z0z {t:T} {c k:Nat} (h:lvOk t c k=true) (h2:takes t (lv t c k).1 (lv t c k).2 (lvQ t c k) k=true):lv t c (k+1)=((k:Int),lvQ t c k):=by
 show (if _ then _ else _)=_;rw[h,h2];rfl
theorem Zrx {t:T} {c k:Nat} (h:lvOk t c k=false):lv t c (k+1)=lv t c k:=by
 show (if _ then _ else _)=_;rw[h];rfl
theorem Zwn {t:T} {c k:Nat} (h2:takes t (lv t c k).1 (lv t c k).2 (lvQ t c k) k=false):lv t c (k+1)=lv t c k:=by
 show (if _ then _ else _)=_;rw[h2,Bool.and_false];rfl
theorem Zs7 (t:T) (c:Nat):∀k,-1≤(lv t c k).1/\(lv t c k).1<k
 | 0=>by simp[lv]
 | k+1=>by
  have h:=Zs7 t c k;show -1≤(if _ then _ else lv t c k:Int×R).1/\(if _ then _ else lv t c k:Int×R).1<_
  split
  ·simp only;omega
  ·omega
def lvR (t:T) (c:Int):Int:=if good t && decide (0≤c/\c≤t.cols+t.rows.length-1) then (lv t c.toNat t.rows.length).1 else -1
theorem Zwm {t:T} {c:Int} (h:good t=false):lvR t c=-1:=by unfold lvR;rw[h];rfl
theorem Zwl {t:T} {c:Int} (h:decide (0≤c/\c≤t.cols+t.rows.length-1)=false):lvR t c=-1:=by unfold lvR;rw[h,Bool.and_false];rfl
theorem Z0y {t:T} {c:Nat} (h:good t=true) (h2:decide (0≤(c:Int)/\(c:Int)≤t.cols+t.rows.length-1)=true):lvR t c=(lv t c t.rows.length).1:=by unfold lvR;rw[h,h2];rfl
theorem Zxs {x:R} (h:Ra.vld x.1 x.2=true):(0<sgn x↔0<x.1)/\(sgn x<0↔x.1<0):=by
 have h2:Ra.two x.1 x.2 0 1=true:=by unfold Ra.two;rw[h];rfl
 unfold sgn Ra.cmp;rw[if_pos h2]
 rcases Int.lt_trichotomy x.1 0 with h3|h3|h3
 ·rw[if_pos (by omega)];omega
 ·rw[if_neg (by omega),if_neg (by omega)];omega
 ·rw[if_neg (by omega),if_pos (by omega)];omega
theorem Zyq {x y:R} (h:divK x y=true):Ra.vld x.1 x.2=true/\Ra.vld y.1 y.2=true:=by
 unfold divK at h;obtain⟨k,_⟩:=Ra.Zei h;exact⟨(Ra.Zdi k).1,(Ra.Zdi k).2⟩
theorem Zza (t:T) (c k:Nat):lvOk t c k=(decide (0<(at_ (row t k) c).1) && divK (at_ (row t k) (t.cols+t.rows.length).toNat) (at_ (row t k) c)):=by
 unfold lvOk
 rcases h:divK (at_ (row t k) (t.cols+t.rows.length).toNat) (at_ (row t k) c) with _|_
 ·simp
 ·rw[decide_eq_decide.2 (Zxs (Zyq h).2).1]
def sg (p:Lp.P) (k:Nat):Int:=if p.B.getD k 0<0 then -1 else 1
def Zji (n k:Nat):List Int:=(List.range n).map fun i=>if i=k then 1 else 0
def nums (p:Lp.P) (k:Nat):List Int:=(Lp.row p k).map (fun a=>sg p k*a)++(Zji p.A.length k++[sg p k*p.B.getD k 0])
def asR (l:List Int):List R:=l.map fun z=>(z,1)
def Zcl (p:Lp.P) (k:Nat):List R:=asR (nums p k)
def Zan (p:Lp.P) (k:Nat):T:=⟨(List.range k).map (Zcl p),(List.range k).map (fun i:Nat=>(p.C.length:Int)+(i:Int)),p.C.length⟩
def start (p:Lp.P):T:=if Lp.vldP p then Zan p p.A.length else ⟨[],[],0⟩
theorem Zfb {p:Lp.P} (h:Lp.vldP p=true):start p=Zan p p.A.length:=by unfold start;rw[if_pos h]
theorem Ztv {p:Lp.P} (h:Lp.vldP p=false):start p=⟨[],[],0⟩:=by unfold start;rw[h];rfl
theorem Zqf (p:Lp.P) (k:Nat):(Zan p (k+1)).rows=(Zan p k).rows++[Zcl p k]:=by simp[Zan,List.range_succ]
theorem Zm5 (p:Lp.P) (k:Nat):(Zan p (k+1)).basis=(Zan p k).basis++[(p.C.length:Int)+(k:Int)]:=by simp[Zan,List.range_succ]
theorem Zis {l:List Int} (h:Lp.small l=true) (k:Nat):-5000≤l.getD k 0/\l.getD k 0≤5000:=by
 rcases Nat.lt_or_ge k l.length with hk|hk
 ·unfold Lp.small at h
  rw[List.all_eq_true] at h;have:=h l[k] (List.getElem_mem hk);rw[List.getD_eq_getElem?_getD,List.getElem?_eq_getElem hk]
  simpa using this
 ·rw[List.getD_eq_getElem?_getD,List.getElem?_eq_none hk]
  simp
theorem Zqm {l:List Int} (h:Lp.small l=true) {z:Int} (hz:z∈l):-5000≤z/\z≤5000:=by
 unfold Lp.small at h;rw[List.all_eq_true] at h
 simpa using h z hz
theorem Zxq (p:Lp.P) (k:Nat):sg p k=1\/sg p k=-1:=by
 unfold sg
 split
 ·exact .inr rfl
 ·exact .inl rfl
theorem Zun {p:Lp.P} (h:Lp.vldP p=true) {k:Nat} (hk:k<p.A.length):∀z∈nums p k,-5000≤z/\z≤5000:=by
 obtain⟨h1,_,_,_,h5,_⟩:=Lp.Zar h;have h2:=(Lp.Zej h1 hk).2;intro z hz;unfold nums at hz;rw[List.mem_append,List.mem_append] at hz
 rcases hz with hz|hz|hz
 ·obtain⟨a,ha,rfl⟩:=List.mem_map.1 hz
  have:=Zqm h2 ha
  rcases Zxq p k with e|e<;>rw[e]<;>omega
 ·unfold Zji at hz
  obtain⟨i,_,rfl⟩:=List.mem_map.1 hz
  split<;>omega
 ·have:z=sg p k*p.B.getD k 0:=by simpa using hz
  subst this;have:=Zis h5 k
  rcases Zxq p k with e|e<;>rw[e]<;>omega
theorem Zzh {p:Lp.P} (h:Lp.vldP p=true) {k:Nat} (hk:k<p.A.length):(nums p k).length=p.C.length+p.A.length+1:=by
 obtain⟨h1,_⟩:=Lp.Zar h;have h2:=(Lp.Zej h1 hk).1;simp[nums,Zji,h2];omega
theorem Zy5 {l:List Int} (h:∀z∈l,-5000≤z/\z≤5000):Lp.irK l=true/\Lp.ir l=asR l:=by
 have hf:∀j,j<l.length->(Ve.ofI l j)=((l.getD j 0,1),true):=fun j hj=>by
  have hz:=h l[j] (List.getElem_mem hj);have e:l.getD j 0=l[j]:=by rw[List.getD_eq_getElem?_getD,List.getElem?_eq_getElem hj];rfl
  have h2:Ve.inr (l.getD j 0)=true:=by rw[e];unfold Ve.inr;rw[decide_eq_true_iff];omega
  obtain⟨e1,e2⟩:=Ve.Zwc h2;unfold Ve.ofI;rw[e1,e2,Ve.Zih,h2]
 have hK:Lp.irK l=true:=by
  unfold Lp.irK Ve.allK;rw[List.all_eq_true];intro j hj;rw[hf j (by simpa using hj)]
 refine⟨hK,?_⟩;unfold Lp.ir;rw[Ve.Zdw hK];refine List.ext_getElem? fun j=>?_
 by_cases hj:j<l.length
 ·simp only[Ve.upto,asR,List.getElem?_map,List.getElem?_range hj,List.getElem?_eq_getElem hj,Option.map_some,hf j hj,List.getD_eq_getElem?_getD,Option.getD_some]
 ·rw[List.getElem?_eq_none (by rw[Ve.Zb3];omega),List.getElem?_eq_none (by simp[asR];omega)]
theorem Zsj {p:Lp.P} (h:Lp.vldP p=true) {k:Nat} (hk:k<p.A.length):Lp.irK (nums p k)=true/\Lp.ir (nums p k)=Zcl p k:=Zy5 (Zun h hk)
theorem Zqy {p:Lp.P} (h:Lp.vldP p=true) {k:Nat} (hk:k<p.A.length):(Zcl p k).length=p.C.length+p.A.length+1:=by
 unfold Zcl asR;rw[List.length_map,Zzh h hk]
theorem Zu1 {p:Lp.P} (h:Lp.vldP p=true):good (start p)=true:=by
 rw[Zfb h];have hv:=Lp.Zar h;refine Zn7 (by show (0:Int)≤(p.C.length:Int);omega) (by show (p.C.length:Int)≤1000;omega) (by simp[Zan]) fun k hk=>?_
 have hk':k<p.A.length:=by simpa [Zan] using hk
 have e1:row (Zan p p.A.length) k=Zcl p k:=by unfold row Zan;simp[List.getD_eq_getElem?_getD,hk']
 have e2:bas (Zan p p.A.length) k=(p.C.length:Int)+(k:Int):=by unfold bas Zan;simp[List.getD_eq_getElem?_getD,hk']
 unfold rowOk;rw[e1,e2,Zqy h hk'];simp only[Zan,List.length_map,List.length_range,Bool.and_eq_true,decide_eq_true_eq];omega
def Zcb (s:T×Nat) (r c:Int):Option (T×Nat):=if s.2<1000 then (if pivK s.1 r c then some (piv s.1 r c,s.2+1) else none) else none
theorem Zf2 {s s':T×Nat} {r c:Int} (h:Zcb s r c=some s'):s.2<1000/\pivK s.1 r c=true/\s'=(piv s.1 r c,s.2+1):=by
  unfold Zcb at h
  by_cases h1:s.2<1000
  · rw[if_pos h1] at h
    by_cases h2:pivK s.1 r c=true
    · rw[if_pos h2] at h
      exact⟨h1,h2,(Option.some.inj h).symm⟩
    · rw[if_neg h2] at h;cases h
  · rw[if_neg h1] at h;cases h
theorem Zq0 {s:T×Nat} {r c:Int} (h:¬s.2<1000):Zcb s r c=none:=by unfold Zcb;rw[if_neg h]
theorem Zx3 {s:T×Nat} {r c:Int} (h:pivK s.1 r c=false):Zcb s r c=none:=by unfold Zcb;rw[h];simp
theorem Ztw {s:T×Nat} {r c:Int} (h:s.2<1000) (h2:pivK s.1 r c=true):Zcb s r c=some (piv s.1 r c,s.2+1):=by unfold Zcb;rw[if_pos h,if_pos h2]
def entC (t:T) (cost:List R):Int:=entR (Zdq t cost) t.cols
def phase (cost:List R):Nat->T×Nat->Option ((T×Nat)×List R×Int)
  | 0,_=>none
  | f+1,s=>
    if Zcp s.1 cost then
      if lvR s.1 (entC s.1 cost)<0 then some (s,Zdq s.1 cost,entC s.1 cost)
      else match Zcb s (lvR s.1 (entC s.1 cost)) (entC s.1 cost) with
        | none=>none
        | some s'=>phase cost f s'
    else none
def ph (cost:List R) (s:T×Nat):Option ((T×Nat)×List R×Int):=phase cost (1001-s.2) s
theorem Z04 {cost:List R} {s:T×Nat} (h:Zcp s.1 cost=false):ph cost s=none:=by
  unfold ph
  rcases e:1001 - s.2 with _|f
  · rfl
  · show (if _ then _ else none)=none
    rw[h];rfl
theorem Zr1 {cost:List R} {s:T×Nat} (hn:s.2≤1000) (h:Zcp s.1 cost=true) (h2:lvR s.1 (entC s.1 cost)<0):ph cost s=some (s,Zdq s.1 cost,entC s.1 cost):=by
  unfold ph;rw[show 1001-s.2=(1000-s.2)+1 by omega];show (if Zcp s.1 cost=true then (if lvR s.1 (entC s.1 cost)<0 then some (s,Zdq s.1 cost,entC s.1 cost) else match Zcb s (lvR s.1 (entC s.1 cost)) (entC s.1 cost) with|none=>none|some s'=>phase cost (1000 - s.2) s') else none)=_;rw[if_pos h,if_pos h2]
theorem Zw4 {cost:List R} {s:T×Nat} (h2:¬lvR s.1 (entC s.1 cost)<0) (h3:Zcb s (lvR s.1 (entC s.1 cost)) (entC s.1 cost)=none):ph cost s=none:=by
  unfold ph
  rcases e:1001 - s.2 with _|f
  · rfl
  · show (if _ then (if _ then _ else match Zcb s (lvR s.1 (entC s.1 cost)) (entC s.1 cost) with|none=>none|some s'=>phase cost f s') else none)=none
    rw[if_neg h2,h3]
    split<;>rfl
theorem Zw3 {cost:List R} {s s':T×Nat} (h:Zcp s.1 cost=true) (h2:¬lvR s.1 (entC s.1 cost)<0) (h3:Zcb s (lvR s.1 (entC s.1 cost)) (entC s.1 cost)=some s'):ph cost s=ph cost s':=by
  obtain⟨h4,_,h5⟩:=Zf2 h3;have e:1001-s.2=(1001-s'.2)+1:=by rw[h5];show _=1001-(s.2+1)+1;omega
  unfold ph;rw[e];show (if Zcp s.1 cost=true then (if lvR s.1 (entC s.1 cost)<0 then some (s,Zdq s.1 cost,entC s.1 cost) else match Zcb s (lvR s.1 (entC s.1 cost)) (entC s.1 cost) with|none=>none|some s''=>phase cost (1001 - s'.2) s'') else none)=_;rw[if_pos h,if_neg h2,h3]
theorem Z1y {t:T} {c:Int} (h:c<0):lvR t c=-1:=Zwl (by rw[decide_eq_false_iff_not];omega)
def fstN (l:List R):Nat->Int
  | 0=>-1
  | k+1=>if 0≤fstN l k then fstN l k else if (at_ l k).1≠0 then k else -1
theorem Zka {l:List R}:∀ {k:Nat},(∀j,j<k->(at_ l j).1=0)->fstN l k=-1
  | 0,_=>rfl
  | k+1,h=>by
    have h1:=Zka (k:=k) fun j hj=>h j (by omega)
    unfold fstN;rw[h1,if_neg (by omega),if_neg (by rw[h k (by omega)];simp)]
theorem Zlg {l:List R} {j:Nat} (h:∀i,i<j->(at_ l i).1=0) (hj:(at_ l j).1≠0):∀n,j<n->fstN l n=j
  | 0,hn=>absurd hn (by omega)
  | n+1,hn=>by
    by_cases e:j=n
    · subst e
      unfold fstN;rw[Zka h,if_neg (by omega),if_pos hj]
    · have:=Zlg h hj n (by omega)
      unfold fstN;rw[this,if_pos (by omega)]
def drive (s:T×Nat):Nat->Option (T×Nat)
  | 0=>some s
  | k+1=>match drive s k with
    | none=>none
    | some u=>if bas u.1 k<u.1.cols then some u else if fstN (row u.1 k) u.1.cols.toNat<0 then some u else Zcb u k (fstN (row u.1 k) u.1.cols.toNat)
theorem Zgl {s:T×Nat} {k:Nat} (h:drive s k=none):∀n,k≤n->drive s n=none
  | 0, hn => by obtain rfl : k = 0 := by omega
                exact h
  | n+1,hn=>by
    by_cases e:k=n+1
    · subst e;exact h
    · have h1:=Zgl h n (by omega)
      unfold drive;rw[h1]
theorem Zfv {s u:T×Nat} {k:Nat} (h:drive s k=some u):drive s (k+1)=(if bas u.1 k<u.1.cols then some u else if fstN (row u.1 k) u.1.cols.toNat<0 then some u else Zcb u k (fstN (row u.1 k) u.1.cols.toNat)):=by
  conv=>lhs;unfold drive
  rw[h]
def Zgj (p:Lp.P):List R:=Lp.Za3 p.C.length++(List.range p.A.length).map fun _=>(1,1)
def Zdu (p:Lp.P):List R:=p.C++Lp.Za3 p.A.length
def Same (p:Lp.P) (s:T×Nat):Prop:=good s.1=true/\s.1.rows.length=p.A.length/\s.1.cols=p.C.length/\s.2≤1000
theorem Zex {p:Lp.P} (h:Lp.vldP p=true):Same p (start p,0):=by
  refine⟨Zu1 h,?_,?_,Nat.zero_le _⟩
  · show (start p).rows.length=_
    rw[Zfb h];simp[Zan]
  · show (start p).cols=_
    rw[Zfb h];rfl
theorem Zim {p:Lp.P} {s s':T×Nat} {r c:Int} (h:Same p s) (h2:Zcb s r c=some s'):Same p s':=by
  obtain⟨h3,_,rfl⟩:=Zf2 h2;obtain⟨a1,a2,a3,a4⟩:=h;obtain⟨q1,q2,q3⟩:=Zth (r:=r) (c:=c) a1;exact⟨q1,q2.trans a2,q3.trans a3,by show s.2+1≤1000;omega⟩
theorem Znl {p:Lp.P} {cost:List R}:∀(f:Nat) {s s':T×Nat} {cs:List R} {col:Int},Same p s->phase cost f s=some (s',cs,col)->
    Same p s'/\Zcp s'.1 cost=true/\cs=Zdq s'.1 cost/\col=entC s'.1 cost/\lvR s'.1 col<0
  | 0,_,_,_,_,_,h=>by cases h
  | f+1,s,s',cs,col,hs,h=>by
    change (if Zcp s.1 cost=true then (if lvR s.1 (entC s.1 cost)<0 then some (s,Zdq s.1 cost,entC s.1 cost) else match Zcb s (lvR s.1 (entC s.1 cost)) (entC s.1 cost) with|none=>none|some s'=>phase cost f s') else none)=_ at h
    by_cases h1:Zcp s.1 cost=true
    · rw[if_pos h1] at h
      by_cases h2:lvR s.1 (entC s.1 cost)<0
      · rw[if_pos h2] at h
        injection h with h
        injection h with e1 e2
        injection e2 with e2 e3
        subst e1 e2 e3;exact⟨hs,h1,rfl,rfl,h2⟩
      · rw[if_neg h2] at h
        rcases h3:Zcb s (lvR s.1 (entC s.1 cost)) (entC s.1 cost) with _|s1
        · rw[h3] at h;cases h
        · rw[h3] at h
          exact Znl f (Zim hs h3) h
    · rw[if_neg h1] at h;cases h
theorem Zgt {p:Lp.P} {cost:List R} {s s':T×Nat} {cs:List R} {col:Int} (hs:Same p s) (h:ph cost s=some (s',cs,col)):Same p s'/\Zcp s'.1 cost=true/\cs=Zdq s'.1 cost/\col=entC s'.1 cost/\lvR s'.1 col<0:=Znl _ hs h
theorem Zd1 {p:Lp.P} {s:T×Nat} (hs:Same p s):∀ {k:Nat} {u:T×Nat},drive s k=some u->Same p u
  | 0,u,h=>by
    obtain rfl:=Option.some.inj h;exact hs
  | k+1,u,h=>by
    rcases h1:drive s k with _|v
    · rw[Zgl h1 (k+1) (by omega)] at h;cases h
    · have hv:=Zd1 hs h1
      rw[Zfv h1] at h
      by_cases h2:bas v.1 k<v.1.cols
      · rw[if_pos h2] at h
        obtain rfl:=Option.some.inj h;exact hv
      · rw[if_neg h2] at h
        by_cases h3:fstN (row v.1 k) v.1.cols.toNat<0
        · rw[if_pos h3] at h
          obtain rfl:=Option.some.inj h;exact hv
        · rw[if_neg h3] at h
          exact Zim hv h
def subR (x y:R):R:=(Ra.opN (Ra.two x.1 x.2 y.1 y.2) (x.1*y.2-y.1*x.2) (x.2*y.2),Ra.opD (Ra.two x.1 x.2 y.1 y.2) (x.1*y.2-y.1*x.2) (x.2*y.2))
def Zep (p:Lp.P) (cs:List R) (base:Int) (k:Nat):R:=if p.B.getD k 0<0 then negR (subR (base,1) (at_ cs (p.C.length+k))) else subR (base,1) (at_ cs (p.C.length+k))
def Zc8 (p:Lp.P) (cs:List R) (base:Int):List R:=(List.range p.A.length).map (Zep p cs base)
def Zdr (t:T) (col:Nat):Nat->List R
  | 0=>(List.range t.cols.toNat).map fun j=>if j=col then (1,1) else (0,1)
  | k+1=>if bas t k<t.cols then (Zdr t col k).set (bas t k).toNat (negR (at_ (row t k) col)) else Zdr t col k
theorem Zfz (t:T) (col:Nat):∀k,(Zdr t col k).length=t.cols.toNat
  | 0=>by simp[Zdr]
  | k+1=>by
    unfold Zdr
    split
    · rw[List.length_set,Zfz t col k]
    · exact Zfz t col k
def Zcf (cs:List R):R:=at_ cs (cs.length-1)
def xR (t:T):List R:=(solR t).take t.cols.toNat
def noR:R:=(0,0)
def run1 (p:Lp.P):Option Lp.Res:=match ph (Zgj p) (start p,0) with
  | none=>none
  | some (s1,c1,_)=>
    if sgn (Zcf c1)<0 then some ⟨2,[],Zc8 p c1 1,[],noR,s1.2⟩
    else match drive s1 p.A.length with
      | none=>none
      | some s2=>match ph (Zdu p) s2 with
        | none=>none
        | some (s3,c3,col)=>if 0≤col then some ⟨3,xR s3.1,[],Zdr s3.1 col.toNat p.A.length,noR,s3.2⟩ else some ⟨1,xR s3.1,Zc8 p c3 0,[],negR (Zcf c3),s3.2⟩
def solve (p:Lp.P):Lp.Res:=if Lp.vldP p then (match run1 p with
  | none=>⟨4,[],[],[],noR,0⟩
  | some r=>if Lp.chk p r then r else ⟨4,[],[],[],noR,0⟩) else ⟨0,[],[],[],noR,0⟩
theorem Zx1 (p:Lp.P):Lp.chk p (solve p)=true\/(Lp.vldP p=false/\solve p=⟨0,[],[],[],noR,0⟩)\/(Lp.vldP p=true/\solve p=⟨4,[],[],[],noR,0⟩):=by
  unfold solve
  rcases hv:Lp.vldP p with _|_
  · exact .inr (.inl ⟨rfl,by simp⟩)
  · rcases hr:run1 p with _|r
    · exact .inr (.inr ⟨rfl,by simp⟩)
    · rcases hc:Lp.chk p r with _|_
      · exact .inr (.inr ⟨rfl,by simp[hc]⟩)
      · exact .inl (by simp[hc])
end Go.Proofs.YtjfnleilddgjiaaGreat.Ta
