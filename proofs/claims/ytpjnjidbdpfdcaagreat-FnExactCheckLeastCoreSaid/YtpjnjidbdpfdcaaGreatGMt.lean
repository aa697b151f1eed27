/- The parts TaM, TaPm, SiM, StM, SxM. -/
import Derived.Test.YtpjnjidbdpfdcaaGreatGM
namespace Go.Proofs.YtpjnjidbdpfdcaaGreat.Ta
open Ve (R at_)
structure T where
  rows:List (List R)
  basis:List Int
  cols:Int
def row (t:T) (k:Nat):List R:=t.rows.getD k []
def bas (t:T) (k:Nat):Int:=t.basis.getD k 0
def rowOk (t:T) (k:Nat):Bool:=decide (((row t k).length:Int)=t.cols+t.rows.length+1) && decide (0≤bas t k/\bas t k≤t.cols+t.rows.length-1)
def good (t:T):Bool:=decide (0≤t.cols) && (decide (t.cols≤1000) && (decide (t.basis.length=t.rows.length) && (List.range t.rows.length).all (rowOk t)))
theorem Zlx {t:T} {k:Nat} (hk:k<t.rows.length) (h:rowOk t k=false):good t=false:=by
  rw[Bool.eq_false_iff];intro h2;unfold good at h2;simp only[Bool.and_eq_true,decide_eq_true_eq,List.all_eq_true,List.mem_range] at h2;rw[h2.2.2.2 k hk] at h;cases h
def divR (x y:R):R:=(Ra.opN (Ra.two x.1 x.2 y.1 y.2) (x.1*y.2) (x.2*y.1),Ra.opD (Ra.two x.1 x.2 y.1 y.2) (x.1*y.2) (x.2*y.1))
def divK (x y:R):Bool:=Ra.opK (Ra.two x.1 x.2 y.1 y.2) (x.1*y.2) (x.2*y.1)
def dv (l:List R) (y:R) (j:Nat):R×Bool:=(divR (at_ l j) y,divK (at_ l j) y)
def dvR (l:List R) (y:R):List R:=Ve.outR (dv l y) l.length
def dvK (l:List R) (y:R):Bool:=Ve.allK (dv l y) l.length
def w64 (x:Int):Int:=(x+9223372036854775808) % 18446744073709551616-9223372036854775808
def negR (x:R):R:=(w64 (-x.1),x.2)
def main (t:T) (r c:Nat):List R:=dvR (row t r) (at_ (row t r) c)
def Zri (t:T) (r c:Nat):Bool:=dvK (row t r) (at_ (row t r) c)
def still (t:T) (r c k:Nat):Bool:=decide (k=r) || decide (at_ (row t k) c=(0,1))
def nextR (t:T) (r c k:Nat):List R:=if k=r then main t r c else if at_ (row t k) c=(0,1) then row t k else Ve.scR (row t k) (negR (at_ (row t k) c)) (main t r c)
def nextK (t:T) (r c k:Nat):Bool:=still t r c k || Ve.scK (row t k) (negR (at_ (row t k) c)) (main t r c)
def Zo2 (t:T) (r c n:Nat):Bool:=(List.range n).all (nextK t r c)
def Zqs (t:T) (r c k:Nat):List (List R):=(List.range t.rows.length).map fun j=>if j=r then main t r c else if j<k then nextR t r c j else row t j
def may (t:T) (r c:Int):Bool:=good t && (decide (0≤r/\r≤(t.rows.length:Int)-1) && (decide (0≤c/\c≤t.cols+t.rows.length-1) && !decide ((at_ (row t r.toNat) c.toNat).1=0)))
def pivK (t:T) (r c:Int):Bool:=may t r c && (Zri t r.toNat c.toNat && Zo2 t r.toNat c.toNat t.rows.length)
def piv (t:T) (r c:Int):T:=if pivK t r c then ⟨Zqs t r.toNat c.toNat t.rows.length,t.basis.set r.toNat c,t.cols⟩ else t
def cr (t:T) (cost:List R):Nat->List R×Bool
  | 0=>(cost++[(0,1)],Ve.good cost)
  | k+1=>if (cr t cost k).2 then (Ve.scR (cr t cost k).1 (negR (at_ cost (bas t k).toNat)) (row t k),Ve.scK (cr t cost k).1 (negR (at_ cost (bas t k).toNat)) (row t k)) else cr t cost k
def Zng (t:T) (cost:List R):Bool:=(good t && decide ((cost.length:Int)=t.cols+t.rows.length)) && (cr t cost t.rows.length).2
def Znh (t:T) (cost:List R):List R:=if Zng t cost then (cr t cost t.rows.length).1 else []
theorem Zlo {t:T} {cost:List R} {k:Nat} (h:(cr t cost k).2=false):∀n,k≤n->(cr t cost n).2=false
  | 0, hn => by obtain rfl : k = 0 := by omega
                exact h
  | n+1,hn=>by
    by_cases e:k=n+1
    · subst e;exact h
    · have:=Zlo h n (by omega)
      show (if (cr t cost n).2 then _ else cr t cost n).2=false;rw[this];exact this
theorem Zo6 {t:T} {cost:List R} {k:Nat} (h:(cr t cost k).2=true):cr t cost (k+1)=(Ve.scR (cr t cost k).1 (negR (at_ cost (bas t k).toNat)) (row t k),Ve.scK (cr t cost k).1 (negR (at_ cost (bas t k).toNat)) (row t k)):=by
  show (if (cr t cost k).2 then _ else _)=_;rw[h];rfl
theorem Zps {a:List R} {u:R} {b:List R} (h:Ve.scK a u b=true):(Ve.scR a u b).length=a.length:=by
  unfold Ve.scK at h;unfold Ve.scR;simp only[Bool.and_eq_true,decide_eq_true_eq] at h;rw[if_pos h.1,Ve.Zed h.2,Ve.Zcp]
theorem Zog {t:T} {cost:List R}:∀ {k:Nat},(cr t cost k).2=true->(cr t cost k).1.length=cost.length+1
  | 0,_=>by simp[cr]
  | k+1,h=>by
    by_cases hk:(cr t cost k).2=true
    · rw[Zo6 hk] at h ⊢
      rw[Zps h];exact Zog hk
    · have:=Zlo (k:=k) (by simpa using hk) (k+1) (by omega)
      rw[this] at h;cases h
theorem Zcl {t:T} {cost:List R} (h:Zng t cost=true):((Znh t cost).length:Int)=t.cols+t.rows.length+1:=by
  have h':=h;unfold Zng at h';simp only[Bool.and_eq_true,decide_eq_true_eq] at h';unfold Znh;rw[if_pos h,Zog h'.2];omega
def sol (t:T):Nat->List R
  | 0=>Lp.Zer (t.cols+t.rows.length).toNat
  | k+1=>(sol t k).set (bas t k).toNat (at_ (row t k) (t.cols+t.rows.length).toNat)
def solR (t:T):List R:=if good t then sol t t.rows.length else []
def sgn (x:R):Int:=Ra.cmp x.1 x.2 0 1
def ent (cost:List R):Nat->Int
 | 0=>-1
 | k+1=>if 0≤ent cost k then ent cost k else if sgn (at_ cost k)<0 then k else -1
def entR (cost:List R) (last:Int):Int:=if last≤cost.length then ent cost last.toNat else -1
def lvOk (t:T) (c k:Nat):Bool:=decide (0<sgn (at_ (row t k) c)) && divK (at_ (row t k) (t.cols+t.rows.length).toNat) (at_ (row t k) c)
def lvQ (t:T) (c k:Nat):R:=divR (at_ (row t k) (t.cols+t.rows.length).toNat) (at_ (row t k) c)
def how (x y:R):Int:=Ra.cmp x.1 x.2 y.1 y.2
def takes (t:T) (best:Int) (least q:R) (k:Nat):Bool:=decide (best<0) || (decide (how q least<0) || (decide (how q least=0) && decide (bas t k<bas t best.toNat)))
def lv (t:T) (c:Nat):Nat->Int×R
 | 0=>(-1,(0,0))
 | k+1=>if lvOk t c k && takes t (lv t c k).1 (lv t c k).2 (lvQ t c k) k then ((k:Int),lvQ t c k) else lv t c k
def lvR (t:T) (c:Int):Int:=if good t && decide (0≤c/\c≤t.cols+t.rows.length-1) then (lv t c.toNat t.rows.length).1 else -1
def sg (p:Lp.P) (k:Nat):Int:=if p.B.getD k 0<0 then -1 else 1
def Zrs (n k:Nat):List Int:=(List.range n).map fun i=>if i=k then 1 else 0
def nums (p:Lp.P) (k:Nat):List Int:=(Lp.row p k).map (fun a=>sg p k*a)++(Zrs p.A.length k++[sg p k*p.B.getD k 0])
def asR (l:List Int):List R:=l.map fun z=>(z,1)
def Zn7 (p:Lp.P) (k:Nat):List R:=asR (nums p k)
def Zpv (p:Lp.P) (k:Nat):T:=⟨(List.range k).map (Zn7 p),(List.range k).map (fun i:Nat=>(p.C.length:Int)+(i:Int)),p.C.length⟩
def start (p:Lp.P):T:=if Lp.vldP p then Zpv p p.A.length else ⟨[],[],0⟩
def Zqv (s:T×Nat) (r c:Int):Option (T×Nat):=if s.2<1000 then (if pivK s.1 r c then some (piv s.1 r c,s.2+1) else none) else none
def entC (t:T) (cost:List R):Int:=entR (Znh t cost) t.cols
def phase (cost:List R):Nat->T×Nat->Option ((T×Nat)×List R×Int)
 | 0,_=>none
 | f+1,s=>
  if Zng s.1 cost then
   if lvR s.1 (entC s.1 cost)<0 then some (s,Znh s.1 cost,entC s.1 cost)
   else match Zqv s (lvR s.1 (entC s.1 cost)) (entC s.1 cost) with
    | none=>none
    | some s'=>phase cost f s'
  else none
def ph (cost:List R) (s:T×Nat):Option ((T×Nat)×List R×Int):=phase cost (1001-s.2) s
def fstN (l:List R):Nat->Int
 | 0=>-1
 | k+1=>if 0≤fstN l k then fstN l k else if (at_ l k).1≠0 then k else -1
def drive (s:T×Nat):Nat->Option (T×Nat)
 | 0=>some s
 | k+1=>match drive s k with
  | none=>none
  | some u=>if bas u.1 k<u.1.cols then some u else if fstN (row u.1 k) u.1.cols.toNat<0 then some u else Zqv u k (fstN (row u.1 k) u.1.cols.toNat)
def Zrb (p:Lp.P):List R:=Lp.Zer p.C.length++(List.range p.A.length).map fun _=>(1,1)
def Zrc (p:Lp.P):List R:=p.C++Lp.Zer p.A.length
def Same (p:Lp.P) (s:T×Nat):Prop:=good s.1=true/\s.1.rows.length=p.A.length/\s.1.cols=p.C.length/\s.2≤1000
def subR (x y:R):R:=(Ra.opN (Ra.two x.1 x.2 y.1 y.2) (x.1*y.2-y.1*x.2) (x.2*y.2),Ra.opD (Ra.two x.1 x.2 y.1 y.2) (x.1*y.2-y.1*x.2) (x.2*y.2))
def Zrd (p:Lp.P) (cs:List R) (base:Int) (k:Nat):R:=if p.B.getD k 0<0 then negR (subR (base,1) (at_ cs (p.C.length+k))) else subR (base,1) (at_ cs (p.C.length+k))
def Zqf (p:Lp.P) (cs:List R) (base:Int):List R:=(List.range p.A.length).map (Zrd p cs base)
def Zpp (t:T) (col:Nat):Nat->List R
 | 0=>(List.range t.cols.toNat).map fun j=>if j=col then (1,1) else (0,1)
 | k+1=>if bas t k<t.cols then (Zpp t col k).set (bas t k).toNat (negR (at_ (row t k) col)) else Zpp t col k
def Zqk (cs:List R):R:=at_ cs (cs.length-1)
def xR (t:T):List R:=(solR t).take t.cols.toNat
def noR:R:=(0,0)
def run1 (p:Lp.P):Option Lp.Res:=match ph (Zrb p) (start p,0) with
 | none=>none
 | some (s1,c1,_)=>
  if sgn (Zqk c1)<0 then some ⟨2,[],Zqf p c1 1,[],noR,s1.2⟩
  else match drive s1 p.A.length with
   | none=>none
   | some s2=>match ph (Zrc p) s2 with
    | none=>none
    | some (s3,c3,col)=>if 0≤col then some ⟨3,xR s3.1,[],Zpp s3.1 col.toNat p.A.length,noR,s3.2⟩ else some ⟨1,xR s3.1,Zqf p c3 0,[],negR (Zqk c3),s3.2⟩
def solve (p:Lp.P):Lp.Res:=if Lp.vldP p then (match run1 p with
 | none=>⟨4,[],[],[],noR,0⟩
 | some r=>if Lp.chk p r then r else ⟨4,[],[],[],noR,0⟩) else ⟨0,[],[],[],noR,0⟩
end Go.Proofs.YtpjnjidbdpfdcaaGreat.Ta
