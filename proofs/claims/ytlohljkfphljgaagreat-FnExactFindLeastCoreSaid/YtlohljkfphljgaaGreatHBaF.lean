/- The parts DeM, BaF. -/
import Derived.Test.YtlohljkfphljgaaGreatGM
namespace Go.Proofs.YtlohljkfphljgaaGreat.De
open Lp (sm Zdu Zlt)
def upd (M:Nat->Nat->Rat) (k:Nat) (v:Nat->Rat):Nat->Nat->Rat:=fun c=>if c=k then v else M c
theorem Zb5 (M:Nat->Nat->Rat) (k:Nat) (v:Nat->Rat):upd M k v k=v:=if_pos rfl
theorem upd_ne {M:Nat->Nat->Rat} {k c:Nat} (v:Nat->Rat) (h:c≠k):upd M k v c=M c:=if_neg h
theorem Zop {M:Nat->Nat->Rat} {j k:Nat} (h:j≠k) (u v:Nat->Rat):upd (upd M j u) k v=upd (upd M k v) j u:=by
 funext c
 by_cases h1:c=k
 ·subst h1;rw[Zb5,upd_ne _ (Ne.symm h),Zb5]
 ·rw[upd_ne _ h1]
  by_cases h2:c=j
  ·subst h2;rw[Zb5,Zb5]
  ·rw[upd_ne _ h2,upd_ne _ h2,upd_ne _ h1]
theorem Zxg {M:Nat->Nat->Rat} {k:Nat} {v:Nat->Rat} (h:M k=v):upd M k v=M:=by
 funext c
 by_cases h1:c=k
 ·subst h1;rw[Zb5,h]
 ·rw[upd_ne _ h1]
def skip (c i:Nat):Nat:=if i<c then i else i+1
def mnr (M:Nat->Nat->Rat) (c:Nat):Nat->Nat->Rat:=fun i r=>M (skip c i) (r+1)
def sgn:Nat->Rat
 | 0=>1
 | n+1=>- sgn n
theorem Zlv {f:Nat->Rat} {n:Nat} (h:∀i,i<n->f i=0):sm f n=0:=by
 induction n with
 | zero=>rfl
 | succ n ih=>show sm f n+f n=0;rw[ih fun i hi=>h i (by omega),h n (by omega)];grind
theorem Zlu (f:Nat->Rat) (c:Rat):∀n:Nat,sm (fun i=>c*f i) n=c*sm f n
 | 0=>by show (0:Rat)=c*0;grind
 | n+1=>by show sm (fun i=>c*f i) n+c*f n=c*(sm f n+f n);rw[Zlu f c n];grind
theorem Ztd {f:Nat->Rat} {n k:Nat} (hk:k<n) (h:∀i,i<n->i≠k->f i=0):sm f n=f k:=by
 induction n with
 | zero=>omega
 | succ n ih=>
  show sm f n+f n=f k
  by_cases e:k=n
  ·subst e;rw[Zlv fun i hi=>h i (by omega) (by omega)];grind
  ·rw[ih (by omega) fun i hi hne=>h i (by omega) hne,h n (by omega) (fun e2=>e e2.symm)];grind
theorem Z20 {f:Nat->Rat} {n k:Nat} (hk:k+1<n) (h:∀i,i<n->i≠k->i≠k+1->f i=0):sm f n=f k+f (k+1):=by
 induction n with
 | zero=>omega
 | succ n ih=>
  show sm f n+f n=_
  by_cases e:k+1=n
  ·subst e
   rw[Ztd (k:=k) (by omega) fun i hi hne=>h i (by omega) hne (by omega)]
  ·rw[ih (by omega) fun i hi h1 h2=>h i (by omega) h1 h2,h n (by omega) (by omega) (fun e2=>e e2.symm)];grind
def det:Nat->(Nat->Nat->Rat)->Rat
 | 0,_=>1
 | m+1,M=>sm (fun c=>sgn c*(M c 0*det m (mnr M c))) (m+1)
theorem Zh3:∀ {m:Nat} {M N:Nat->Nat->Rat},(∀c r,c<m->r<m->M c r=N c r)->det m M=det m N
 | 0,_,_,_=>rfl
 | m+1,M,N,h=>by
  unfold det;refine Zdu fun c hc=>?_
  rw[h c 0 hc (by omega),Zh3 (M:=mnr M c) (N:=mnr N c) fun i r hi hr=>?_];unfold mnr;exact h _ _ (by unfold skip;split<;>omega) (by omega)
theorem Zoe (M:Nat->Nat->Rat) (k:Nat) (v:Nat->Rat):mnr (upd M k v) k=mnr M k:=by
 funext i r
 unfold mnr;rw[upd_ne];unfold skip
 split<;>omega
def back (c k:Nat):Nat:=if k<c then k else k-1
theorem Zrm {M:Nat->Nat->Rat} {c k:Nat} (v:Nat->Rat) (h:c≠k):mnr (upd M k v) c=upd (mnr M c) (back c k) fun r=>v (r+1):=by
 funext i r
 unfold mnr
 by_cases e:skip c i=k
 ·have e2:i=back c k:=by unfold back;unfold skip at e;split at e<;>split<;>omega
  rw[e,Zb5,e2,Zb5]
 ·have e2:i≠back c k:=by unfold back;unfold skip at e;split at e<;>split<;>omega
  rw[upd_ne _ e,upd_ne _ e2]
theorem Zns:∀ {m:Nat} (M:Nat->Nat->Rat) {k:Nat} (a:Rat) (u v:Nat->Rat),k<m->det m (upd M k fun r=>a*u r+v r)=a*det m (upd M k u)+det m (upd M k v)
 | m+1,M,k,a,u,v,hk=>by
  unfold det;rw[<-Zlu,<-Zlt];refine Zdu fun c hc=>?_
  by_cases e:c=k
  ·subst e
   rw[Zoe,Zoe,Zoe,Zb5,Zb5,Zb5]
   grind
  ·rw[Zrm _ e,Zrm _ e,Zrm _ e,upd_ne _ e,upd_ne _ e,upd_ne _ e,Zns (mnr M c) a (fun r=>u (r+1)) (fun r=>v (r+1)) (by unfold back;split<;>omega)]
   grind
theorem Znr:∀ {m:Nat} {M:Nat->Nat->Rat} {k:Nat},k+1<m->(∀r,r<m->M k r=M (k+1) r)->det m M=0
 | m+1,M,k,hk,h=>by
  unfold det;rw[Z20 (k:=k) hk fun c hc h1 h2=>?_]
  ·rw[h 0 (by omega),Zh3 (M:=mnr M k) (N:=mnr M (k+1)) fun i r hi hr=>?_]
   ·show sgn k*_+(- sgn k)*_=0
    grind
   ·unfold mnr skip
    by_cases e:i=k
    ·subst e
     rw[if_neg (by omega),if_pos (by omega)];exact (h _ (by omega)).symm
    ·by_cases e2:i<k
     ·rw[if_pos e2,if_pos (by omega)]
     ·rw[if_neg e2,if_neg (by omega)]
  ·have:det m (mnr M c)=0:=by
    by_cases e:c<k
    ·refine Znr (k:=k-1) (by omega) fun r hr=>?_
     unfold mnr skip;rw[if_neg (by omega),if_neg (by omega),show k-1+1=k by omega];exact h _ (by omega)
    ·refine Znr (k:=k) (by omega) fun r hr=>?_
     unfold mnr skip;rw[if_pos (by omega),if_pos (by omega)];exact h _ (by omega)
   rw[this];grind
theorem Zu2 {m:Nat} (M:Nat->Nat->Rat) {k:Nat} (u v:Nat->Rat) (h:k<m):det m (upd M k fun r=>u r+v r)=det m (upd M k u)+det m (upd M k v):=by
 have:=Zns M 1 u v h;rw[show (fun r=>1*u r+v r)=fun r=>u r+v r from by funext r;grind] at this;rw[this];grind
theorem Zxw {m:Nat} (M:Nat->Nat->Rat) {k:Nat} (u v:Nat->Rat) (h:k+1<m):det m (upd (upd M k u) (k+1) v)=- det m (upd (upd M k v) (k+1) u):=by
 have hne:k≠k+1:=by omega
 have z:∀x:Nat->Rat,det m (upd (upd M k x) (k+1) x)=0:=fun x=>Znr h fun r _=>by rw[upd_ne _ hne,Zb5,Zb5]
 have p:∀y:Nat->Rat,det m (upd (upd M k fun r=>u r+v r) (k+1) y)=det m (upd (upd M k u) (k+1) y)+det m (upd (upd M k v) (k+1) y):=fun y=>by
  rw[Zop hne,Zu2 _ _ _ (by omega),Zop hne.symm,Zop hne.symm]
 have z1:=z fun r=>u r+v r
 rw[Zu2 _ _ _ h,p u,p v,z u,z v] at z1
 grind
theorem Znt:∀ {d m:Nat} {M:Nat->Nat->Rat} {i:Nat},i+d+1<m->M i=M (i+d+1)->det m M=0
 | 0,m,M,i,hm,h=>Znr (k:=i) hm fun r _=>by rw[h]
 | d+1,m,M,i,hm,h=>by
  have e:M=upd (upd M (i+d+1) (M (i+d+1))) (i+d+1+1) (M (i+d+1+1)):=by rw[Zxg rfl,Zxg rfl]
  rw[e,Zxw _ _ _ (by omega)];have:det m (upd (upd M (i+d+1) (M (i+d+1+1))) (i+d+1+1) (M (i+d+1)))=0:=by
   refine Znt (d:=d) (i:=i) (by omega) ?_;rw[upd_ne _ (by omega),upd_ne _ (by omega),upd_ne _ (by omega),Zb5];exact h
  rw[this];grind
theorem Zxx {m:Nat} {M:Nat->Nat->Rat} {i j:Nat} (hi:i<m) (hj:j<m) (hij:i≠j) (h:M i=M j):det m M=0:=by
 rcases Nat.lt_or_ge i j with hl|hl
 ·refine Znt (d:=j-i-1) (i:=i) (by omega) ?_
  rw[show i+(j-i-1)+1=j by omega];exact h
 ·refine Znt (d:=i-j-1) (i:=j) (by omega) ?_
  rw[show j+(i-j-1)+1=i by omega];exact h.symm
theorem Zsc {m:Nat} (M:Nat->Nat->Rat) {k:Nat} (t:Nat->Rat) (hk:k<m):∀n,n≤m->det m (upd M k fun r=>sm (fun i=>t i*M i r) n)=if k<n then t k*det m M else 0
 | 0,_=>by
  rw[if_neg (by omega)];have:=Zns M (-1) (fun _=>0) (fun _=>0) hk;rw[show (fun r:Nat=>(-1:Rat)*0+0)=fun _=>(0:Rat) from by funext r;grind] at this;show det m (upd M k fun r=>(0:Rat))=0
  grind
 | n+1,hn=>by
  have e:(fun r=>sm (fun i=>t i*M i r) (n+1))=fun r=>t n*M n r+sm (fun i=>t i*M i r) n:=by
   funext r
   show sm _ n+t n*M n r=_
   grind
  rw[e,Zns _ _ _ _ hk,Zsc M t hk n (by omega)]
  by_cases h:k=n
  ·subst h
   rw[if_neg (Nat.lt_irrefl _),if_pos (by omega),Zxg rfl]
   grind
  ·have z:det m (upd M k (M n))=0:=Zxx (i:=k) (j:=n) hk (by omega) h (by rw[Zb5,upd_ne _ (fun e2=>h e2.symm)])
   rw[z]
   by_cases h2:k<n
   ·rw[if_pos h2,if_pos (by omega)];grind
   ·rw[if_neg h2,if_neg (by omega)];grind
theorem Zz4 {m:Nat} (M:Nat->Nat->Rat) {k:Nat} (t b:Nat->Rat) (hk:k<m) (h:∀r,r<m->b r=sm (fun i=>t i*M i r) m):det m (upd M k b)=t k*det m M:=by
 have:=Zsc M t hk m (Nat.le_refl _);rw[if_pos hk] at this;rw[<-this];refine Zh3 fun c r _ hr=>?_
 by_cases e:c=k
 ·subst e;rw[Zb5,Zb5];exact h r hr
 ·rw[upd_ne _ e,upd_ne _ e]
theorem Zu3:∀ {m:Nat} {M:Nat->Nat->Rat},(∀c r,c<m->r<m->M c r=if c=r then 1 else 0)->det m M=1
 | 0,_,_=>rfl
 | m+1,M,h=>by
  unfold det;rw[Ztd (k:=0) (by omega) fun c hc hne=>by rw[h c 0 hc (by omega),if_neg hne];grind];rw[h 0 0 (by omega) (by omega),if_pos rfl,Zu3 fun c r hc hr=>?_]
  ·show (1:Rat)*(1*1)=1;grind
  ·unfold mnr skip
   rw[if_neg (by omega),h _ _ (by omega) (by omega)]
   by_cases e:c=r
   ·rw[if_pos (by omega),if_pos e]
   ·rw[if_neg (by omega),if_neg e]
def fact:Nat->Nat
 | 0=>1
 | n+1=>(n+1)*fact n
def IntB (b:Nat) (x:Rat):Prop:=∃z:Int,x=z/\-(b:Int)≤z/\z≤b
theorem IntB.add {a b:Nat} {x y:Rat} (h:IntB a x) (k:IntB b y):IntB (a+b) (x+y):=by
 obtain⟨z,rfl,h1,h2⟩:=h;obtain⟨u,rfl,k1,k2⟩:=k;exact⟨z+u,by rw[Rat.intCast_add],by omega,by omega⟩
theorem IntB.neg {a:Nat} {x:Rat} (h:IntB a x):IntB a (-x):=by
 obtain⟨z,rfl,h1,h2⟩:=h;exact⟨-z,by rw[Rat.intCast_neg],by omega,by omega⟩
theorem IntB.mul {a b:Nat} {x y:Rat} (h:IntB a x) (k:IntB b y):IntB (a*b) (x*y):=by
 obtain⟨z,rfl,h1,h2⟩:=h;obtain⟨u,rfl,k1,k2⟩:=k;have e:(z*u).natAbs≤a*b:=by
  rw[Int.natAbs_mul];exact Nat.mul_le_mul (by omega) (by omega)
 refine⟨z*u,by rw[Rat.intCast_mul],?_,?_⟩
 ·have h1:((z*u).natAbs:Int)≤((a*b:Nat):Int):=Int.ofNat_le.2 e
  omega
 ·have h1:((z*u).natAbs:Int)≤((a*b:Nat):Int):=Int.ofNat_le.2 e
  omega
theorem IntB.mono {a b:Nat} {x:Rat} (h:IntB a x) (hab:a≤b):IntB b x:=by
 obtain⟨z,e,h1,h2⟩:=h;exact⟨z,e,by omega,by omega⟩
theorem IntB.zero:IntB 0 0:=⟨0,by simp,by simp,by simp⟩
theorem IntB.one:IntB 1 1:=⟨1,by simp,by simp,by simp⟩
theorem IntB.sum {b:Nat} {f:Nat->Rat}:∀ {n:Nat},(∀i,i<n->IntB b (f i))->IntB (n*b) (sm f n)
 | 0,_=>by rw[Nat.zero_mul];exact IntB.zero
 | n+1,h=>by
  rw[Nat.succ_mul];exact (IntB.sum fun i hi=>h i (by omega)).add (h n (by omega))
theorem Zw2:∀n,IntB 1 (sgn n)
 | 0=>IntB.one
 | n+1=>(Zw2 n).neg
theorem Zqv:∀ {m:Nat} {M:Nat->Nat->Rat},(∀c r,c<m->r<m->IntB 1 (M c r))->IntB (fact m) (det m M)
 | 0,_,_=>IntB.one
 | m+1,M,h=>by
  unfold det fact;refine IntB.sum fun c hc=>?_
  have h1:=(Zw2 c).mul ((h c 0 hc (by omega)).mul (Zqv (m:=m) (M:=mnr M c) fun i r hi hr=>h _ _ (by unfold skip;split<;>omega) (by omega)));rw[Nat.one_mul,Nat.one_mul] at h1;exact h1
end Go.Proofs.YtlohljkfphljgaaGreat.De
namespace Go.Proofs.YtlohljkfphljgaaGreat.Ba
open Ve (R at_ val addR addK mulR mulK)
open De (IntB)
structure Fr (D b:Nat) (x:R):Prop where
 v:Ve.vld x=true
 i:∃z:Int,x.1*(D:Int)=z*x.2/\-(b:Int)≤z/\z≤b
theorem Z2e {n d:Int} (hd:d≠0):Ra.num n d*d=n*Ra.den n d:=by
 have hg:=Ra.Zgk (n:=n) hd;unfold Ra.num Ra.den;obtain⟨a,ha⟩:(Int.gcd n d:Int) ∣ n:=Int.gcd_dvd_left _ _;obtain⟨b,hb⟩:(Int.gcd n d:Int) ∣ d:=Int.gcd_dvd_right _ _;have hg':(Int.gcd n d:Int)≠0:=by omega
 generalize (Int.gcd n d:Int)=g at *;subst ha hb
 split
 ·rw[<-Int.mul_neg,<-Int.mul_neg,Int.mul_ediv_cancel_left _ hg',Int.mul_ediv_cancel_left _ hg'];grind
 ·rw[Int.mul_ediv_cancel_left _ hg',Int.mul_ediv_cancel_left _ hg'];grind
theorem Z0k {a e z:Int} {D b:Nat} (hD:1≤D) (he:1≤e) (hc:Int.gcd a e=1) (h:a*(D:Int)=z*e) (h1:-(b:Int)≤z) (h2:z≤b):e≤D/\-(b:Int)≤a/\a≤b:=by
 have hdv:e ∣ (D:Int):=Ra.Zfg hc ⟨z,by rw[h];exact Int.mul_comm _ _⟩;have he2:e≤D:=Int.le_of_dvd (by omega) hdv;have h3:a.natAbs*D=z.natAbs*e.natAbs:=by
  have:=congrArg Int.natAbs h;rw[Int.natAbs_mul,Int.natAbs_mul] at this;exact this
 have h4:a.natAbs*D≤z.natAbs*D:=by rw[h3];exact Nat.mul_le_mul_left _ (by omega)
 have h5:a.natAbs≤z.natAbs:=Nat.le_of_mul_le_mul_right h4 (by omega);omega
theorem Fr.bd {D b:Nat} {x:R} (h:Fr D b x) (hD:1≤D):x.2≤D/\-(b:Int)≤x.1/\x.1≤b:=by
 obtain⟨v1,v2,v3,v4,v5⟩:=Ra.Zch h.v;obtain⟨z,e,h1,h2⟩:=h.i;exact Z0k hD v1 v5 e h1 h2
theorem Fr.mono {D b c:Nat} {x:R} (h:Fr D b x) (hb:b≤c):Fr D c x:=by
 obtain⟨z,e,h1,h2⟩:=h.i;exact⟨h.v,z,e,by omega,by omega⟩
theorem Zvd {n d z:Int} {D b:Nat} (hd:1≤d) (hD:1≤D) (hD2:D≤1000000000) (hb:b≤1000000000) (h:n*(D:Int)=z*d) (h1:-(b:Int)≤z) (h2:z≤b) (wn:Ra.wide n=true) (wd:Ra.wide d=true):Ra.fits n d=true/\Ra.rn n d*(D:Int)=z*Ra.rd n d:=by
 have hd0:d≠0:=by omega
 have hc:=Z2e (n:=n) hd0;have hp:=Ra.den_pos (n:=n) hd0;have hg:=Ra.Zk4 (n:=n) hd0;have e:Ra.num n d*(D:Int)=z*Ra.den n d:=by
  have h3:(Ra.num n d*(D:Int))*d=(z*Ra.den n d)*d:=by
   calc (Ra.num n d*(D:Int))*d=(Ra.num n d*d)*D:=by grind
    _=(n*D)*Ra.den n d:=by rw[hc];grind
    _=(z*Ra.den n d)*d:=by rw[h];grind
  exact Int.eq_of_mul_eq_mul_right hd0 h3
 obtain⟨r1,r2,r3⟩:=Z0k hD hp hg e h1 h2;have hf:Ra.fits n d=true:=by
  rw[Ra.Zq3 hd0 wn wd,Ra.Zxj hd0];rw[decide_eq_true_iff];omega
 refine⟨hf,?_⟩;obtain⟨e1,e2⟩:=Ra.Zs8 hf;rw[e1,e2];exact e
theorem Ze0 {a b:Int} {m n:Nat} (h1:-(m:Int)≤a) (h2:a≤m) (h3:-(n:Int)≤b) (h4:b≤n):-((m*n:Nat):Int)≤a*b/\a*b≤((m*n:Nat):Int):=by
 have h5:(a*b).natAbs≤m*n:=by rw[Int.natAbs_mul];exact Nat.mul_le_mul (by omega) (by omega)
 have h6:((a*b).natAbs:Int)≤((m*n:Nat):Int):=Int.ofNat_le.2 h5;omega
theorem Fr.add {D a b:Nat} {x y:R} (hx:Fr D a x) (hy:Fr D b y) (hD:1≤D) (hD2:D≤1000000) (hab:a+b≤1000000000):addK x y=true/\Fr D (a+b) (addR x y):=by
 obtain⟨bx1,bx2,bx3⟩:=hx.bd hD;obtain⟨by1,by2,by3⟩:=hy.bd hD;obtain⟨vx1,_,_,_,_⟩:=Ra.Zch hx.v;obtain⟨vy1,_,_,_,_⟩:=Ra.Zch hy.v;obtain⟨z,e,h1,h2⟩:=hx.i;obtain⟨u,e2,k1,k2⟩:=hy.i;have hd:(1:Int)≤x.2*y.2:=by
  have:=Int.mul_le_mul vx1 vy1 (by omega) (by omega)
  simpa using this
 have m1:=Ze0 (m:=1000000000) (n:=1000000) (a:=x.1) (b:=y.2) (by omega) (by omega) (by omega) (by omega);have m2:=Ze0 (m:=1000000000) (n:=1000000) (a:=y.1) (b:=x.2) (by omega) (by omega) (by omega) (by omega);have m3:=Ze0 (m:=1000000) (n:=1000000) (a:=x.2) (b:=y.2) (by omega) (by omega) (by omega) (by omega);have wn:Ra.wide (x.1*y.2+y.1*x.2)=true:=by unfold Ra.wide;rw[decide_eq_true_iff];omega
 have wd:Ra.wide (x.2*y.2)=true:=by unfold Ra.wide;rw[decide_eq_true_iff];omega
 have hE:(x.1*y.2+y.1*x.2)*(D:Int)=(z+u)*(x.2*y.2):=by
  calc (x.1*y.2+y.1*x.2)*(D:Int)=(x.1*D)*y.2+(y.1*D)*x.2:=by grind
   _=(z+u)*(x.2*y.2):=by rw[e,e2];grind
 obtain⟨f,g⟩:=Zvd (b:=a+b) hd hD (by omega) hab hE (by omega) (by omega) wn wd;have h2t:Ra.two x.1 x.2 y.1 y.2=true:=by unfold Ra.two;rw[show Ra.vld x.1 x.2=true from hx.v,show Ra.vld y.1 y.2=true from hy.v];rfl
 have hK:addK x y=true:=by unfold addK Ra.opK;rw[h2t,f];rfl
 refine⟨hK,Ve.Zno hK,z+u,?_,by omega,by omega⟩;unfold addR;rw[h2t];exact g
theorem Fr.scale {D b c:Nat} {x:R} {k:Int} (hx:Fr D b x) (hk1:-(c:Int)≤k) (hk2:k≤c) (hD:1≤D) (hD2:D≤1000000) (hc:c≤1000000000) (hcb:c*b≤1000000000):mulK (k,1) x=true/\Fr D (c*b) (mulR (k,1) x):=by
 obtain⟨bx1,bx2,bx3⟩:=hx.bd hD;obtain⟨vx1,_,_,_,_⟩:=Ra.Zch hx.v;obtain⟨z,e,h1,h2⟩:=hx.i;have m1:=Ze0 hk1 hk2 bx2 bx3;have m2:=Ze0 hk1 hk2 h1 h2;have wn:Ra.wide (k*x.1)=true:=by unfold Ra.wide;rw[decide_eq_true_iff];omega
 have wd:Ra.wide (1*x.2)=true:=by unfold Ra.wide;rw[decide_eq_true_iff];omega
 have hE:(k*x.1)*(D:Int)=(k*z)*(1*x.2):=by
  calc (k*x.1)*(D:Int)=k*(x.1*D):=by grind
   _=(k*z)*(1*x.2):=by rw[e];grind
 obtain⟨f,g⟩:=Zvd (b:=c*b) (by omega) hD (by omega) hcb hE m2.1 m2.2 wn wd;have hkv:Ra.vld k 1=true:=Ra.Zl6 (by omega) (by omega) (by omega) (by omega) (by simp);have h2t:Ra.two k 1 x.1 x.2=true:=by unfold Ra.two;rw[hkv,show Ra.vld x.1 x.2=true from hx.v];rfl
 have hK:mulK (k,1) x=true:=by unfold mulK Ra.opK;simp only;rw[h2t,f];rfl
 refine⟨hK,Ve.Z02 hK,k*z,?_,m2.1,m2.2⟩;unfold mulR;simp only;rw[h2t];exact g
theorem Fr.int {D c:Nat} {k:Int} (hk1:-(c:Int)≤k) (hk2:k≤c) (hc:c≤1000000000):Fr D (c*D) (k,1):=by
 refine⟨Ra.Zl6 (by omega) (by omega) (by omega) (by omega) (by simp),k*D,by simp,?_,?_⟩
 ·exact (Ze0 hk1 hk2 (b:=D) (n:=D) (by omega) (by omega)).1
 ·exact (Ze0 hk1 hk2 (b:=D) (n:=D) (by omega) (by omega)).2
theorem Fr.neg {D b:Nat} {x:R} (h:Fr D b x):Fr D b (-x.1,x.2):=by
 obtain⟨z,e,h1,h2⟩:=h.i;refine⟨?_,-z,?_,by omega,by omega⟩
 ·show Ra.vld (-x.1) x.2=true
  rw[Ra.Zxi];exact h.v
 ·show -x.1*(D:Int)=-z*x.2
  rw[Int.neg_mul,Int.neg_mul,e]
theorem Fr.of {D:Rat} {d b:Nat} {x:R} (hv:Ve.vld x=true) (hd:D=(d:Rat)\/D=-(d:Rat)) (h:IntB b (D*val x)):Fr d b x:=by
 have hx:=Ve.Zgh hv;obtain⟨z,e,h1,h2⟩:=h
 rcases hd with rfl|rfl
 ·refine⟨hv,z,?_,h1,h2⟩
  have h3:((x.1*(d:Int):Int):Rat)=((z*x.2:Int):Rat):=by
   rw[Rat.intCast_mul,Rat.intCast_mul,<-e];unfold val;show (x.1:Rat)*((d:Int):Rat)=(d:Rat)*((x.1:Rat) / (x.2:Rat))*(x.2:Rat);rw[Rat.intCast_natCast]
   grind
  exact Rat.intCast_inj.1 h3
 ·refine⟨hv,-z,?_,by omega,by omega⟩
  have h3:((x.1*(d:Int):Int):Rat)=((-z*x.2:Int):Rat):=by
   rw[Rat.intCast_mul,Rat.intCast_mul,Rat.intCast_neg,<-e];unfold val;show (x.1:Rat)*((d:Int):Rat)=-(-(d:Rat)*((x.1:Rat) / (x.2:Rat)))*(x.2:Rat);rw[Rat.intCast_natCast]
   grind
  exact Rat.intCast_inj.1 h3
theorem Z2f {D:Rat} {b:Nat} (h0:D≠0) (h:IntB b D):∃d:Nat,1≤d/\d≤b/\(D=(d:Rat)\/D=-(d:Rat)):=by
 obtain⟨z,rfl,h1,h2⟩:=h;have hz:z≠0:=by intro e;rw[e] at h0;exact h0 (by simp)
 rcases Int.lt_or_le z 0 with hl|hl
 ·refine⟨z.natAbs,by omega,by omega,.inr ?_⟩
  have:z=-((z.natAbs:Nat):Int):=by omega
  rw[<-Rat.intCast_natCast,<-Rat.intCast_neg,<-this]
 ·refine⟨z.natAbs,by omega,by omega,.inl ?_⟩
  have:z=((z.natAbs:Nat):Int):=by omega
  rw[<-Rat.intCast_natCast,<-this]
theorem Fr.acc {D b c:Nat} (hD:1≤D) (hD2:D≤1000000) {l:List Int} {v:List R} (hi:Lp.irK l=true) (hl:l.length=v.length) (hc:∀i,i<l.length->-(c:Int)≤l.getD i 0/\l.getD i 0≤c) (hv:∀i,i<v.length->Fr D b (at_ v i)) (hb:l.length*(c*b)≤1000000000) (hc2:c≤1000000000):∀n,n≤l.length->(Ve.acc (Lp.ir l) v n).2=true/\Fr D (n*(c*b)) (Ve.acc (Lp.ir l) v n).1
 | 0,_=>⟨rfl,by
   rw[Nat.zero_mul];exact⟨show Ve.vld (0,1)=true by decide,0,by simp[Ve.Zj1],by simp,by simp⟩⟩
 | n+1,hn=>by
  obtain⟨h1,h2⟩:=Fr.acc hD hD2 hi hl hc hv hb hc2 n (by omega);rw[Ve.Ze5,Lp.Z2j hi (by omega)];have hcb:c*b≤1000000000:=Nat.le_trans (Nat.le_mul_of_pos_left _ (by omega)) hb;have hnb:(n+1)*(c*b)≤1000000000:=Nat.le_trans (Nat.mul_le_mul_right _ hn) hb;obtain⟨_,m2⟩:=Fr.scale (hv n (by omega)) (hc n (by omega)).1 (hc n (by omega)).2 hD hD2 hc2 hcb;have:=Fr.add h2 m2 hD hD2 (by rw[Nat.succ_mul] at hnb;exact hnb);rw[Nat.succ_mul];exact this
theorem Fr.id {D b c:Nat} (hD:1≤D) (hD2:D≤1000000) {l:List Int} {v:List R} (hi:Lp.irK l=true) (hl:l.length=v.length) (hc:∀i,i<l.length->-(c:Int)≤l.getD i 0/\l.getD i 0≤c) (hv:∀i,i<v.length->Fr D b (at_ v i)) (hb:l.length*(c*b)≤1000000000) (hc2:c≤1000000000):Lp.idK l v=true/\Fr D (l.length*(c*b)) (Lp.idR l v):=by
 obtain⟨h1,h2⟩:=Fr.acc hD hD2 hi hl hc hv hb hc2 l.length (Nat.le_refl _);have e:=Ve.Zd4 (a:=Lp.ir l) (b:=v) (by rw[Lp.Zpk hi];exact hl);rw[Lp.Zpk hi] at e;have hK:Lp.idK l v=true:=by
  unfold Lp.idK;rw[hi,e.2,h1];rfl
 refine⟨hK,?_⟩;obtain⟨_,_,h5,_⟩:=Lp.Zh9 hK;rw[h5,e.1];exact h2
end Go.Proofs.YtlohljkfphljgaaGreat.Ba
