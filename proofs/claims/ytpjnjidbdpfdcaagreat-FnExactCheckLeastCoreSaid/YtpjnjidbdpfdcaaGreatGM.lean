/- The parts CoM, RaM, RaM2, VeM, LpM, LpM2. -/
import Derived.Laws.BitsLemmas
namespace Go.Proofs.YtpjnjidbdpfdcaaGreat.Co
def has (s:Int) (k:Nat):Bool:=decide (0≤s/\s / 2 ^ k % 2=1)
def good (s:Int):Bool:=decide (0≤s/\s≤31)
theorem Zg2 {s:Int} (h:good s=true):0≤s/\s≤31:=by unfold good at h;exact of_decide_eq_true h
theorem Zlx {s:Int} (h:good s=false):¬(0≤s/\s≤31):=by unfold good at h;exact of_decide_eq_false h
theorem Zjs {s:Int} (h:good s=true):∃n:Fin 32,s=(n.val:Int):=by
 have:=Zg2 h;exact⟨⟨s.toNat,by omega⟩,by show s=((s.toNat:Nat):Int);omega⟩
theorem Ziw {s:Int} {k:Nat} (h:s<0):has s k=false:=by unfold has;rw[decide_eq_false_iff_not];omega
theorem Zg3 {s:Int} {k:Nat} (h:0≤s):has s k=(s / 2 ^ k % 2 == 1):=by
 unfold has;rw[Bool.eq_iff_iff,decide_eq_true_iff,beq_iff_eq];exact⟨fun a=>a.2,fun a=>⟨h,a⟩⟩
theorem and1 (n:Int):bits .and .i64 n 1=n % 2:=by
 have h1:(BitVec.ofInt 64 1).toNat=2 ^ 1-1:=by decide
 have key:(BitVec.ofInt 64 n &&& BitVec.ofInt 64 1).toNat=(n % ((2 ^ 64:Nat):Int)).toNat % 2 ^ 1:=by
  rw[BitVec.toNat_and,BitVec.toNat_ofInt,h1,Nat.and_two_pow_sub_one_eq_mod]
 show IntKind.i64.wrap ((BitVec.ofInt 64 n &&& BitVec.ofInt 64 1).toNat:Nat)=n % 2;rw[key,IntKind.wrap_i64];omega
theorem Zp9 (n:Int):bits .and .i64 n 31=n % 32:=by
 have h1:(BitVec.ofInt 64 31).toNat=2 ^ 5-1:=by decide
 have key:(BitVec.ofInt 64 n &&& BitVec.ofInt 64 31).toNat=(n % ((2 ^ 64:Nat):Int)).toNat % 2 ^ 5:=by
  rw[BitVec.toNat_and,BitVec.toNat_ofInt,h1,Nat.and_two_pow_sub_one_eq_mod]
 show IntKind.i64.wrap ((BitVec.ofInt 64 n &&& BitVec.ofInt 64 31).toNat:Nat)=n % 32;rw[key,IntKind.wrap_i64];omega
def size (s:Int):Nat->Int
 | 0=>0
 | k+1=>size s k+if has s k then 1 else 0
theorem Zpu {s:Int} {k:Nat} (h:has s k=false):size s (k+1)=size s k:=by simp[size,h]
theorem Zkh {s:Int} (h:s<0):∀k,size s k=0
 | 0=>rfl
 | k+1=>by rw[Zpu (Ziw h),Zkh h k]
theorem Zff {s:Int} (h:0≤s):∀k,k<5->has (s % 32) k=has s k:=by
 intro k hk;rw[Zg3 h,Zg3 (by omega),Bool.eq_iff_iff,beq_iff_eq,beq_iff_eq]
 match k,hk with
 | 0,_=>simp<;>omega
 | 1,_=>simp<;>omega
 | 2,_=>simp<;>omega
 | 3,_=>simp<;>omega
 | 4,_=>simp<;>omega
theorem Zn4 {s:Int} (h:0≤s):size (s % 32) 5=size s 5:=by
 simp only[size,Zff h 0 (by omega),Zff h 1 (by omega),Zff h 2 (by omega),Zff h 3 (by omega),Zff h 4 (by omega)]
def uni (a b:Int):Nat->Int
 | 0=>0
 | k+1=>uni a b k+if has a k || has b k then 2 ^ k else 0
def ovl (a b:Int):Nat->Int
 | 0=>0
 | k+1=>ovl a b k+if has a k && has b k then 2 ^ k else 0
def sub (a b:Int):Nat->Bool
 | 0=>true
 | k+1=>sub a b k && (!has a k || has b k)
theorem Zm6 (k:Nat) (h:k<5):(1:Int)≤2 ^ k/\(2:Int) ^ k≤16:=by
 match k,h with
 | 0,_=>decide
 | 1,_=>decide
 | 2,_=>decide
 | 3,_=>decide
 | 4,_=>decide
theorem Zpj:∀a b:Fin 32,ovl (a.val:Int) (b.val:Int) 5=bits .and .i64 (a.val:Int) (b.val:Int):=by decide +kernel
theorem Zqp {a b:Int} (ha:good a=true) (hb:good b=true):bits .and .i64 a b=ovl a b 5:=by
 obtain⟨n,rfl⟩:=Zjs ha;obtain⟨m,rfl⟩:=Zjs hb;exact (Zpj n m).symm
def cnt (n:Int):Int:=if 0≤n/\n≤5 then 2 ^ n.toNat else 0
end Go.Proofs.YtpjnjidbdpfdcaaGreat.Co
namespace Go.Proofs.YtpjnjidbdpfdcaaGreat.Ra
def vld (n d:Int):Bool:=decide (1≤d/\d≤1000000000/\-1000000000≤n/\n≤1000000000/\Int.gcd n d=1)
theorem Zbw {n d:Int} (h:vld n d=true):1≤d/\d≤1000000000/\-1000000000≤n/\n≤1000000000/\Int.gcd n d=1:=by unfold vld at h;exact of_decide_eq_true h
theorem Zo0 {n d:Int} (h1:1≤d) (h2:d≤1000000000) (h3:-1000000000≤n) (h4:n≤1000000000) (h5:Int.gcd n d=1):vld n d=true:=by unfold vld;exact decide_eq_true ⟨h1,h2,h3,h4,h5⟩
def wide (n:Int):Bool:=decide (-1000000000000000000≤n/\n≤1000000000000000000)
theorem Zd4 {n:Int} (h:wide n=true):-1000000000000000000≤n/\n≤1000000000000000000:=by unfold wide at h;exact of_decide_eq_true h
def num (n d:Int):Int:=(if d<0 then -n else n) / (Int.gcd n d:Int)
def den (n d:Int):Int:=(if d<0 then -d else d) / (Int.gcd n d:Int)
def fits (n d:Int):Bool:=d != 0 && wide n && wide d && vld (num n d) (den n d)
def rn (n d:Int):Int:=if fits n d then num n d else 0
def rd (n d:Int):Int:=if fits n d then den n d else 0
theorem Zdi {n d:Int} (h:d≠0):0<Int.gcd n d:=Int.gcd_pos_of_ne_zero_right _ h
theorem den_pos {n d:Int} (h:d≠0):1≤den n d:=by
 have hg:=Zdi (n:=n) h;have hd:(Int.gcd n d:Int) ∣ d:=Int.gcd_dvd_right _ _;unfold den;obtain⟨k,hk⟩:=hd;have hg':(0:Int)<(Int.gcd n d:Int):=by omega
 generalize (Int.gcd n d:Int)=g at *;subst hk
 split
 ·rename_i h1
  rw[<-Int.mul_neg,Int.mul_ediv_cancel_left _ (by omega)]
  rcases Int.lt_or_le k 0 with h2|h2
  ·omega
  ·have:=Int.mul_nonneg (show 0≤g by omega) h2;omega
 ·rename_i h1
  rw[Int.mul_ediv_cancel_left _ (by omega)]
  rcases Int.lt_or_le 0 k with h2|h2
  ·omega
  ·exfalso
   have h3:=Int.mul_nonpos_of_nonneg_of_nonpos (show 0≤g by omega) h2;omega
theorem Ziu {n d:Int} (h:d≠0):Int.gcd (num n d) (den n d)=1:=by
 have hg:=Zdi (n:=n) h;unfold num den
 split
 ·have e:Int.gcd n d=Int.gcd (-n) (-d):=by rw[Int.neg_gcd,Int.gcd_neg]
  rw[e];rw[e] at hg;exact Int.gcd_ediv_gcd_ediv_gcd hg
 ·exact Int.gcd_ediv_gcd_ediv_gcd hg
theorem Zp1 {n d:Int} (h:d≠0):vld (num n d) (den n d)=decide (-1000000000≤num n d/\num n d≤1000000000/\den n d≤1000000000):=by
 have h1:=den_pos (n:=n) h;have h2:=Ziu (n:=n) h;unfold vld;rw[Bool.eq_iff_iff,decide_eq_true_iff,decide_eq_true_iff];exact⟨fun⟨_,b,c,d,_⟩=>⟨c,d,b⟩,fun⟨a,b,c⟩=>⟨h1,c,a,b,h2⟩⟩
theorem Zhb {n d:Int} (h:vld n d=true):fits n d=true/\rn n d=n/\rd n d=d:=by
 have hv:=Zbw h;have e1:num n d=n:=by unfold num;rw[if_neg (by omega),hv.2.2.2.2];simp
 have e2:den n d=d:=by unfold den;rw[if_neg (by omega),hv.2.2.2.2];simp
 have hf:fits n d=true:=by
  unfold fits wide;rw[e1,e2,h];have a:(d != 0)=true:=by rw[bne_iff_ne];omega
  have b:decide (-1000000000000000000≤n/\n≤1000000000000000000)=true:=by rw[decide_eq_true_iff];omega
  have c:decide (-1000000000000000000≤d/\d≤1000000000000000000)=true:=by rw[decide_eq_true_iff];omega
  rw[a,b,c];rfl
 exact⟨hf,by unfold rn;rw[if_pos hf,e1],by unfold rd;rw[if_pos hf,e2]⟩
theorem Zez {n d:Int} (h:fits n d=true):vld (rn n d) (rd n d)=true:=by
 have h2:=h;unfold fits at h2;simp only[Bool.and_eq_true] at h2;unfold rn rd;rw[if_pos h,if_pos h];exact h2.2
theorem Zph {n d:Int} (h:vld n d=false):(fits n d && (rn n d == n && rd n d == d))=false:=by
 rcases hf:fits n d with _|_
 ·rfl
 ·have hv:=Zez hf
  rcases h1:(rn n d == n && rd n d == d) with _|_
  ·rfl
  ·simp only[Bool.and_eq_true,beq_iff_eq] at h1
   rw[h1.1,h1.2,h] at hv;exact absurd hv (by decide)
theorem Zje {n d:Int} (h:fits n d=false):rn n d=0/\rd n d=0:=by
 unfold rn rd;rw[h];exact⟨rfl,rfl⟩
theorem Zpn {a b x y:Int} (ha:-1000000000≤a) (ha':a≤1000000000) (hb:-1000000000≤b) (hb':b≤1000000000) (hx:x=a*b) (_hy:y=0):-1000000000000000000≤x/\x≤1000000000000000000:=by
 subst hx;have h1:a.natAbs≤1000000000:=by omega
 have h2:b.natAbs≤1000000000:=by omega
 have h3:(a*b).natAbs≤1000000000*1000000000:=by rw[Int.natAbs_mul];exact Nat.mul_le_mul h1 h2
 omega
theorem Zgm (a b:Int) (ha:-1000000000≤a) (ha':a≤1000000000) (hb:-1000000000≤b) (hb':b≤1000000000):-1000000000000000000≤a*b/\a*b≤1000000000000000000:=Zpn ha ha' hb hb' rfl (rfl:(0:Int)=0)
theorem cross {n d:Int} (h:fits n d=true):rn n d*d=n*rd n d:=by
 have h2:=h;unfold fits at h2;simp only[Bool.and_eq_true,bne_iff_ne] at h2;have hd:d≠0:=h2.1.1.1;have hg:=Zdi (n:=n) hd;unfold rn rd;rw[if_pos h,if_pos h];unfold num den;obtain⟨a,ha⟩:(Int.gcd n d:Int) ∣ n:=Int.gcd_dvd_left _ _;obtain⟨b,hb⟩:(Int.gcd n d:Int) ∣ d:=Int.gcd_dvd_right _ _;have hg':(Int.gcd n d:Int)≠0:=by omega
 generalize (Int.gcd n d:Int)=g at *;subst ha hb
 split
 ·rw[<-Int.mul_neg,<-Int.mul_neg,Int.mul_ediv_cancel_left _ hg',Int.mul_ediv_cancel_left _ hg'];grind
 ·rw[Int.mul_ediv_cancel_left _ hg',Int.mul_ediv_cancel_left _ hg'];grind
theorem Zc8 {a b c:Int} (h:Int.gcd a b=1) (hd:b ∣ a*c):b ∣ c:=by
 have h1:Nat.Coprime b.natAbs a.natAbs:=by
  have h0:Nat.gcd a.natAbs b.natAbs=1:=by rw[<-Int.gcd_eq_natAbs_gcd_natAbs];exact h
  unfold Nat.Coprime;rw[Nat.gcd_comm];exact h0
 have h2:b.natAbs ∣ a.natAbs*c.natAbs:=by rw[<-Int.natAbs_mul];exact Int.natAbs_dvd_natAbs.2 hd
 exact Int.natAbs_dvd_natAbs.1 (Nat.Coprime.dvd_of_dvd_mul_left h1 h2)
theorem canon {a b c e:Int} (h1:vld a b=true) (h2:vld c e=true) (hx:a*e=c*b):a=c/\b=e:=by
 have v1:=Zbw h1;have v2:=Zbw h2;have d1:b ∣ e:=Zc8 v1.2.2.2.2 ⟨c,by rw[hx,Int.mul_comm]⟩;have d2:e ∣ b:=Zc8 v2.2.2.2.2 ⟨a,by rw[<-hx,Int.mul_comm]⟩;have hbe:b=e:=Int.dvd_antisymm (by omega) (by omega) d1 d2;subst hbe;exact⟨Int.eq_of_mul_eq_mul_right (by omega) hx,rfl⟩
theorem Zkl {n d:Int} (h:d<0):(-n).tdiv (Int.gcd n d:Int)=num n d:=by
 unfold num;rw[if_pos h,Int.tdiv_eq_ediv_of_dvd (Int.dvd_neg.2 (Int.gcd_dvd_left _ _))]
theorem Zif {n d:Int} (h:¬d<0):n.tdiv (Int.gcd n d:Int)=num n d:=by
 unfold num;rw[if_neg h,Int.tdiv_eq_ediv_of_dvd (Int.gcd_dvd_left _ _)]
theorem Zlp {n d:Int} (h:d<0):(-d) / (Int.gcd n d:Int)=den n d:=by unfold den;rw[if_pos h]
theorem Zjp {n d:Int} (h:¬d<0):d / (Int.gcd n d:Int)=den n d:=by unfold den;rw[if_neg h]
theorem Zgu {x g:Int} (hg:0<g) (hd:g ∣ x):(x / g).natAbs≤x.natAbs:=by
 obtain⟨k,rfl⟩:=hd;rw[Int.mul_ediv_cancel_left _ (by omega),Int.natAbs_mul];exact Nat.le_mul_of_pos_left _ (by omega)
theorem Zoq {n d:Int} (h:d≠0) (hn:-1000000000000000000≤n) (hn':n≤1000000000000000000):-1000000000000000000≤num n d/\num n d≤1000000000000000000:=by
 have hg:=Zdi (n:=n) h;have h1:(num n d).natAbs≤n.natAbs:=by
  unfold num
  split
  ·refine Nat.le_trans (Zgu (by omega) (Int.dvd_neg.2 (Int.gcd_dvd_left _ _))) ?_
   rw[Int.natAbs_neg];exact Nat.le_refl _
  ·exact Zgu (by omega) (Int.gcd_dvd_left _ _)
 omega
theorem Zoh {n d:Int} (h:d≠0) (hn:-1000000000000000000≤d) (hn':d≤1000000000000000000):1≤den n d/\den n d≤1000000000000000000:=by
 have hg:=Zdi (n:=n) h;have h1:(den n d).natAbs≤d.natAbs:=by
  unfold den
  split
  ·refine Nat.le_trans (Zgu (by omega) (Int.dvd_neg.2 (Int.gcd_dvd_right _ _))) ?_
   rw[Int.natAbs_neg];exact Nat.le_refl _
  ·exact Zgu (by omega) (Int.gcd_dvd_right _ _)
 have h2:=den_pos (n:=n) h;omega
theorem Zht (n:Int):fits n 0=false:=by unfold fits;simp
theorem Zk0 {n d:Int} (h:wide n=false):fits n d=false:=by unfold fits;rw[h];simp
theorem Zkx {n d:Int} (h:wide d=false):fits n d=false:=by unfold fits;rw[h];simp
theorem Zlv {n d:Int} (h:d≠0) (hn:wide n=true) (hd:wide d=true):fits n d=vld (num n d) (den n d):=by
 unfold fits;rw[hn,hd];have:(d != 0)=true:=by rw[bne_iff_ne];exact h
 rw[this];rfl
theorem Zmo {n d:Int} (h:fits n d=true):rn n d=num n d/\rd n d=den n d:=by unfold rn rd;rw[if_pos h,if_pos h];exact⟨rfl,rfl⟩
def opN (k:Bool) (x y:Int):Int:=if k then rn x y else 0
def opD (k:Bool) (x y:Int):Int:=if k then rd x y else 0
def opK (k:Bool) (x y:Int):Bool:=k && fits x y
theorem Zb7 (x y:Int):opN true x y=rn x y/\opD true x y=rd x y/\opK true x y=fits x y:=⟨rfl,rfl,rfl⟩
theorem Zb2 (x y:Int):opN false x y=0/\opD false x y=0/\opK false x y=false:=⟨rfl,rfl,rfl⟩
def two (an ad bn bd:Int):Bool:=vld an ad && vld bn bd
theorem Zp0 (n d:Int):vld (-n) d=vld n d:=by
 unfold vld;rw[Int.neg_gcd,Bool.eq_iff_iff,decide_eq_true_iff,decide_eq_true_iff];omega
theorem prods {an ad bn bd:Int} (h1:vld an ad=true) (h2:vld bn bd=true) :
  (-1000000000000000000≤an*bd/\an*bd≤1000000000000000000)/\(-1000000000000000000≤bn*ad/\bn*ad≤1000000000000000000)/\
  (-1000000000000000000≤ad*bd/\ad*bd≤1000000000000000000)/\(-1000000000000000000≤an*bn/\an*bn≤1000000000000000000)/\(-1000000000000000000≤ad*bn/\ad*bn≤1000000000000000000):=by
 have v1:=Zbw h1;have v2:=Zbw h2;exact⟨Zgm _ _ (by omega) (by omega) (by omega) (by omega),Zgm _ _ (by omega) (by omega) (by omega) (by omega),Zgm _ _ (by omega) (by omega) (by omega) (by omega),Zgm _ _ (by omega) (by omega) (by omega) (by omega),Zgm _ _ (by omega) (by omega) (by omega) (by omega)⟩
def cmp (an ad bn bd:Int):Int:=if two an ad bn bd then (if an*bd<bn*ad then -1 else if bn*ad<an*bd then 1 else 0) else 0
theorem Zlm {an ad bn bd:Int} (h:two an ad bn bd=false):cmp an ad bn bd=0:=by unfold cmp;rw[h];rfl
theorem Zof {an ad bn bd:Int} (h:two an ad bn bd=true) (hl:an*bd<bn*ad):cmp an ad bn bd=-1:=by unfold cmp;rw[if_pos h,if_pos hl]
theorem Zoe {an ad bn bd:Int} (h:two an ad bn bd=true) (hl:bn*ad<an*bd):cmp an ad bn bd=1:=by unfold cmp;rw[if_pos h,if_neg (by omega),if_pos hl]
theorem cmp_eq {an ad bn bd:Int} (hl:an*bd=bn*ad):cmp an ad bn bd=0:=by unfold cmp;rw[hl];simp
def flo (n d:Int):Int:=if vld n d then n / d else 0
theorem Zeg {an ad bn bd:Int} (h:two an ad bn bd=true):vld an ad=true/\vld bn bd=true:=by unfold two at h;rw[Bool.and_eq_true] at h;exact h
theorem Zpy (an ad bn bd:Int):two an ad (-bn) bd=two an ad bn bd:=by unfold two;rw[Zp0]
theorem Zha {k:Bool} {x y:Int} (h:opK k x y=true):k=true/\fits x y=true/\opN k x y=rn x y/\opD k x y=rd x y:=by
 unfold opK at h;rw[Bool.and_eq_true] at h;exact⟨h.1,h.2,by unfold opN;rw[if_pos h.1],by unfold opD;rw[if_pos h.1]⟩
end Go.Proofs.YtpjnjidbdpfdcaaGreat.Ra
namespace Go.Proofs.YtpjnjidbdpfdcaaGreat.Ve
abbrev R:=Int×Int
def vld (x:R):Bool:=Ra.vld x.1 x.2
def mulR (x y:R):R:=(Ra.opN (Ra.two x.1 x.2 y.1 y.2) (x.1*y.1) (x.2*y.2),Ra.opD (Ra.two x.1 x.2 y.1 y.2) (x.1*y.1) (x.2*y.2))
def mulK (x y:R):Bool:=Ra.opK (Ra.two x.1 x.2 y.1 y.2) (x.1*y.1) (x.2*y.2)
def addR (x y:R):R:=(Ra.opN (Ra.two x.1 x.2 y.1 y.2) (x.1*y.2+y.1*x.2) (x.2*y.2),Ra.opD (Ra.two x.1 x.2 y.1 y.2) (x.1*y.2+y.1*x.2) (x.2*y.2))
def addK (x y:R):Bool:=Ra.opK (Ra.two x.1 x.2 y.1 y.2) (x.1*y.2+y.1*x.2) (x.2*y.2)
theorem Zjb {k:Bool} {x y:Int} (h:Ra.opK k x y=false):Ra.opN k x y=0/\Ra.opD k x y=0:=by
  unfold Ra.opK at h;unfold Ra.opN Ra.opD;cases k
  · exact⟨rfl,rfl⟩
  · exact Ra.Zje (by simpa using h)
theorem Zql {x y:R} (h:mulK x y=false):mulR x y=(0,0):=by
  obtain⟨h1,h2⟩:=Zjb h;unfold mulR;rw[h1,h2]
theorem Zoc {x y:R} (h:addK x y=false):addR x y=(0,0):=by
  obtain⟨h1,h2⟩:=Zjb h;unfold addR;rw[h1,h2]
theorem Ze5:vld (0,0)=false:=by decide
theorem Zig (x y:R) (h:vld y=false):Ra.two x.1 x.2 y.1 y.2=false:=by unfold Ra.two;rw[show Ra.vld y.1 y.2=false from h];simp
theorem Zn8 (x y:R) (h:vld x=false):Ra.two x.1 x.2 y.1 y.2=false:=by unfold Ra.two;rw[show Ra.vld x.1 x.2=false from h];rfl
theorem Zkt (x y:R) (h:vld y=false):addK x y=false:=by unfold addK;rw[Zig x y h];rfl
theorem Zlf (x y:R) (h:vld x=false):addK x y=false:=by unfold addK;rw[Zn8 x y h];rfl
theorem Zc4 (s:R) {x y:R} (h:mulK x y=false):addK s (mulR x y)=false:=Zkt _ _ (by rw[Zql h];exact Ze5)
theorem both {s x y:R}:(mulK x y && addK s (mulR x y))=addK s (mulR x y):=by
  cases h:mulK x y
  · rw[Zc4 s h];rfl
  · rfl
theorem Zlg {x y:R} (h:addK x y=true):vld (addR x y)=true:=by
  obtain⟨_,f,e1,e2⟩:=Ra.Zha h;unfold vld addR;rw[e1,e2];exact Ra.Zez f
theorem Znc {x y:R} (h:addK x y=true):vld x=true/\vld y=true:=Ra.Zeg (Ra.Zha h).1
/-! ### The value of a fraction -/
def val (x:R):Rat:=(x.1:Rat) / (x.2:Rat)
theorem Zge {x:R} (h:vld x=true):(x.2:Rat)≠0:=by
  have:=(Ra.Zbw h).1;intro h0;have h1:x.2=0:=by simpa using h0
  omega
theorem Zqy {n d a b:Int} (hd:d≠0) (hb:b≠0) (h:a*d=n*b):(a:Rat) / (b:Rat)=(n:Rat) / (d:Rat):=by
  have hd':(d:Rat)≠0:=by intro h0;exact hd (by simpa using h0)
  have hb':(b:Rat)≠0:=by intro h0;exact hb (by simpa using h0)
  have h':(a:Rat)*(d:Rat)=(n:Rat)*(b:Rat):=by rw[<-Rat.intCast_mul,<-Rat.intCast_mul,h]
  grind
theorem Zoz {n d:Int} (h:Ra.fits n d=true):((Ra.rn n d:Int):Rat) / ((Ra.rd n d:Int):Rat)=(n:Rat) / (d:Rat):=by
  have hd:d≠0:=by intro h0;rw[h0,Ra.Zht] at h;cases h
  have v:=Ra.Zbw (Ra.Zez h);exact Zqy hd (by omega) (Ra.cross h)
theorem val_mul {x y:R} (h:mulK x y=true):val (mulR x y)=val x*val y:=by
  obtain⟨k,f,e1,e2⟩:=Ra.Zha h;have h1:=Zge (Ra.Zeg k).1;have h2:=Zge (x:=y) (Ra.Zeg k).2;unfold val mulR;rw[e1,e2];show ((Ra.rn _ _:Int):Rat) / ((Ra.rd _ _:Int):Rat)=_;rw[Zoz f,Rat.intCast_mul,Rat.intCast_mul]
  grind
theorem val_add {x y:R} (h:addK x y=true):val (addR x y)=val x+val y:=by
  obtain⟨k,f,e1,e2⟩:=Ra.Zha h;have h1:=Zge (Ra.Zeg k).1;have h2:=Zge (x:=y) (Ra.Zeg k).2;unfold val addR;rw[e1,e2];show ((Ra.rn _ _:Int):Rat) / ((Ra.rd _ _:Int):Rat)=_;rw[Zoz f,Rat.intCast_add,Rat.intCast_mul,Rat.intCast_mul,Rat.intCast_mul]
  grind
theorem val_inj {x y:R} (hx:vld x=true) (hy:vld y=true) (h:val x=val y):x=y:=by
  have h1:=Zge hx;have h2:=Zge hy;have h3:(x.1:Rat)*(y.2:Rat)=(y.1:Rat)*(x.2:Rat):=by unfold val at h;grind
  have h4:x.1*y.2=y.1*x.2:=by
    rw[<-Rat.intCast_mul,<-Rat.intCast_mul] at h3;exact Rat.intCast_inj.1 h3
  obtain⟨e1,e2⟩:=Ra.canon hx hy h4;exact Prod.ext e1 e2
/-! ### Products, by partial sums -/
def at_ (l:List R) (k:Nat):R:=l.getD k (0,0)
def acc (a b:List R):Nat->R×Bool
  | 0=>((0,1),true)
  | k+1=>(addR (acc a b k).1 (mulR (at_ a k) (at_ b k)),addK (acc a b k).1 (mulR (at_ a k) (at_ b k)))
theorem Zgz (a b:List R):acc a b 0=((0,1),true):=rfl
theorem Zc3 (a b:List R) (k:Nat):acc a b (k+1)=(addR (acc a b k).1 (mulR (at_ a k) (at_ b k)),addK (acc a b k).1 (mulR (at_ a k) (at_ b k))):=rfl
theorem Zoa {a b:List R} {k:Nat} (h:(acc a b k).2=false):(acc a b k).1=(0,0):=by
  cases k with
  | zero=>cases h
  | succ k=>rw[Zc3] at h ⊢;exact Zoc h
theorem Zlc {a b:List R} {k:Nat} (h:(acc a b k).2=false):(acc a b (k+1)).2=false:=by
  rw[Zc3,Zoa h];show addK (0,0) (mulR (at_ a k) (at_ b k))=false;exact Zlf _ _ Ze5
theorem Zgx {a b:List R} {k:Nat} (h:(acc a b k).2=false):∀n,k≤n->(acc a b n).2=false
  | 0, hn => by obtain rfl : k = 0 := by omega
                exact h
  | n+1,hn=>by
    by_cases e:k=n+1
    · subst e;exact h
    · exact Zlc (Zgx h n (by omega))
theorem Zgw {a b:List R} {k n:Nat} (h:(acc a b n).2=true) (hk:k≤n):(acc a b k).2=true:=by
  cases h2:(acc a b k).2
  · rw[Zgx h2 n hk] at h;cases h
  · rfl
theorem Zle {a b:List R} {k:Nat} (h:(acc a b k).2=true):vld (acc a b k).1=true:=by
  cases k with
  | zero=>show vld (0,1)=true;decide
  | succ k=>rw[Zc3] at h ⊢;exact Zlg h
theorem Zgy {a b:List R} {k:Nat} (h:(acc a b (k+1)).2=true):val (acc a b (k+1)).1=val (acc a b k).1+val (at_ a k)*val (at_ b k):=by
  rw[Zc3] at h ⊢;have hm:mulK (at_ a k) (at_ b k)=true:=by
    cases h2:mulK (at_ a k) (at_ b k)
    · have:=Zc4 (acc a b k).1 h2
      rw[show addK (acc a b k).1 (mulR (at_ a k) (at_ b k))=true from h] at this;cases this
    · rfl
  rw[show (addR (acc a b k).1 (mulR (at_ a k) (at_ b k)),addK (acc a b k).1 (mulR (at_ a k) (at_ b k))).1=addR (acc a b k).1 (mulR (at_ a k) (at_ b k)) from rfl,val_add h,val_mul hm]
def dotK (a b:List R):Bool:=decide (a.length=b.length) && (acc a b a.length).2
def dotR (a b:List R):R:=if a.length=b.length then (acc a b a.length).1 else (0,0)
theorem Zir {a b:List R} (h:a.length≠b.length):dotR a b=(0,0)/\dotK a b=false:=by unfold dotR dotK;simp[h]
theorem Zb1 {a b:List R} (h:a.length=b.length):dotR a b=(acc a b a.length).1/\dotK a b=(acc a b a.length).2:=by unfold dotR dotK;simp[h]
theorem Ziq {a b:List R} {k:Nat} (h:a.length=b.length) (hk:k≤a.length) (hn:(acc a b k).2=false):dotR a b=(0,0)/\dotK a b=false:=by
  have h1:=Zgx hn a.length hk;obtain⟨e1,e2⟩:=Zb1 h;rw[e1,e2];exact⟨Zoa h1,h1⟩
/-! ### Lists that are built element by element, while each fits -/
def allK (f:Nat->R×Bool) (n:Nat):Bool:=(List.range n).all fun j=>(f j).2
def outR (f:Nat->R×Bool) (n:Nat):List R:=if allK f n then (List.range n).map fun j=>(f j).1 else []
def upto (f:Nat->R×Bool) (k:Nat):List R:=(List.range k).map fun j=>(f j).1
theorem Zm7 (f:Nat->R×Bool) (k:Nat):upto f (k+1)=upto f k++[(f k).1]:=by simp[upto,List.range_succ]
theorem Zcp (f:Nat->R×Bool) (k:Nat):(upto f k).length=k:=by simp[upto]
theorem upto_at (f:Nat->R×Bool) (n j:Nat) (h:j<n):at_ (upto f n) j=(f j).1:=by simp[at_,upto,h]
theorem Zg0 {f:Nat->R×Bool} {n:Nat} (h:allK f n=true):∀j,j<n->(f j).2=true:=by
  intro j hj;unfold allK at h;rw[List.all_eq_true] at h;exact h j (by simpa using hj)
theorem Zlh {f:Nat->R×Bool} {n k:Nat} (hk:k<n) (h:(f k).2=false):allK f n=false:=by
  cases h2:allK f n
  · rfl
  · rw[Zg0 h2 k hk] at h;cases h
theorem Zed {f:Nat->R×Bool} {n:Nat} (h:allK f n=true):outR f n=upto f n:=by unfold outR;rw[if_pos h];rfl
theorem Zos {f:Nat->R×Bool} {n:Nat} (h:allK f n=false):outR f n = []:=by unfold outR;rw[h];rfl
def sc (a:List R) (k:R) (b:List R) (j:Nat):R×Bool:=(addR (at_ a j) (mulR k (at_ b j)),addK (at_ a j) (mulR k (at_ b j)))
def scK (a:List R) (k:R) (b:List R):Bool:=decide (a.length=b.length) && allK (sc a k b) a.length
def scR (a:List R) (k:R) (b:List R):List R:=if a.length=b.length then outR (sc a k b) a.length else []
theorem Zmu {a:List R} {k:R} {b:List R} (h:a.length=b.length):scR a k b=outR (sc a k b) a.length/\scK a k b=allK (sc a k b) a.length:=by unfold scR scK;simp[h]
def inr (n:Int):Bool:=decide (-1000000000≤n/\n≤1000000000)
theorem Ze1 (n:Int):Ra.fits n 1=inr n:=by
  have hg:(Int.gcd n 1:Int)=1:=by rw[Int.gcd_one_right];rfl
  have hn:Ra.num n 1=n:=by unfold Ra.num;rw[hg,if_neg (by omega)];exact Int.ediv_one n
  have hd:Ra.den n 1=1:=by unfold Ra.den;rw[hg,if_neg (by omega)];rfl
  cases h:inr n
  · have h':=of_decide_eq_false h
    cases h2:Ra.fits n 1
    · rfl
    · exfalso
      have v:=Ra.Zbw (Ra.Zez h2);rw[(Ra.Zmo h2).1,hn] at v;omega
  · have h':=of_decide_eq_true h
    have hv:Ra.vld n 1=true:=Ra.Zo0 (by omega) (by omega) h'.1 h'.2 (Int.gcd_one_right n);exact (Ra.Zhb hv).1
theorem Zok {n:Int} (h:inr n=true):Ra.rn n 1=n/\Ra.rd n 1=1:=by
  have h':=of_decide_eq_true h;exact (Ra.Zhb (Ra.Zo0 (by omega) (by omega) h'.1 h'.2 (Int.gcd_one_right n))).2
def ofI (zs:List Int) (j:Nat):R×Bool:=((Ra.rn (zs.getD j 0) 1,Ra.rd (zs.getD j 0) 1),Ra.fits (zs.getD j 0) 1)
def good (v:List R):Bool:=v.all vld
theorem Ziv {v:List R} {k:Nat} (hk:k<v.length) (h:vld (at_ v k)=false):good v=false:=by
  cases h2:good v
  · rfl
  · unfold good at h2
    rw[List.all_eq_true] at h2;have e:at_ v k=v[k]:=by unfold at_;rw[List.getD_eq_getElem?_getD,List.getElem?_eq_getElem hk];rfl
    rw[e,h2 _ (List.getElem_mem hk)] at h;cases h
theorem Zjr {v:List R} (h:∀k,k<v.length->vld (at_ v k)=true):good v=true:=by
  unfold good;rw[List.all_eq_true];intro x hx;obtain⟨k,hk,rfl⟩:=List.mem_iff_getElem.1 hx;have e:at_ v k=v[k]:=by unfold at_;rw[List.getD_eq_getElem?_getD,List.getElem?_eq_getElem hk];rfl
  rw[<-e];exact h k hk
theorem Zli {v:List R} {k:Nat} (hk:k<v.length):v[k]? = some (at_ v k):=by
  unfold at_;rw[List.getD_eq_getElem?_getD,List.getElem?_eq_getElem hk];rfl
def ones (n:Nat):List R:=(List.range n).map fun j=>(((j+1:Nat):Int),1)
theorem Zgl (a b:List R) (k:R) (o:List R) (n:Nat) (hs:allK (sc a k b) n=true)
    (h1:(acc (upto (sc a k b) n) o n).2=true) (h2:(acc a o n).2=true) (h3:(acc b o n).2=true) :
    ∀m,m≤n->val (acc (upto (sc a k b) n) o m).1=val (acc a o m).1+val k*val (acc b o m).1
  | 0,_=>by rw[Zgz,Zgz,Zgz];unfold val;grind
  | m+1,hm=>by
    have ih:=Zgl a b k o n hs h1 h2 h3 m (by omega);rw[Zgy (Zgw h1 hm),Zgy (Zgw h2 hm),Zgy (Zgw h3 hm),ih,upto_at _ _ _ (by omega)];have hk:=Zg0 hs m (by omega);have hm':mulK k (at_ b m)=true:=by
      cases h:mulK k (at_ b m)
      · have:=Zc4 (at_ a m) h
        rw[show addK (at_ a m) (mulR k (at_ b m))=true from hk] at this;cases this
      · rfl
    have e:val (sc a k b m).1=val (at_ a m)+val k*val (at_ b m):=by
      show val (addR (at_ a m) (mulR k (at_ b m)))=_;rw[val_add hk,val_mul hm']
    rw[e]
    grind
theorem linear (a b:List R) (k:R) (o:List R) (hk:scK a k b=true) (h1:dotK (scR a k b) o=true) (h2:dotK a o=true) (h3:dotK b o=true)
    (h4:mulK k (dotR b o)=true) (h5:addK (dotR a o) (mulR k (dotR b o))=true):dotR (scR a k b) o=addR (dotR a o) (mulR k (dotR b o)):=by
  have hl:a.length=b.length:=by unfold scK at hk;simp at hk;exact hk.1
  have hs:allK (sc a k b) a.length=true:=by rw[<-(Zmu hl).2];exact hk
  have e:scR a k b=upto (sc a k b) a.length:=by rw[(Zmu hl).1,Zed hs]
  have ho:a.length=o.length:=by unfold dotK at h2;simp at h2;exact h2.1
  have hol:(scR a k b).length=o.length:=by rw[e,Zcp];exact ho
  have d1:=(Zb1 hol);have d2:=(Zb1 ho);have d3:=(Zb1 (a:=b) (b:=o) (by omega));rw[d1.2,e,Zcp] at h1;rw[d2.2] at h2;rw[d3.2,<-hl] at h3;have hv:=Zgl a b k o a.length hs h1 h2 h3 a.length (Nat.le_refl _);refine val_inj ?_ (Zlg h5) ?_
  · rw[d1.1,e,Zcp];exact Zle h1
  · rw[val_add h5,val_mul h4,d1.1,d2.1,d3.1,e,Zcp,<-hl];exact hv
end Go.Proofs.YtpjnjidbdpfdcaaGreat.Ve
namespace Go.Proofs.YtpjnjidbdpfdcaaGreat.Lp
open Ve (R val at_ acc dotR dotK)
/-! ### Sums -/
def sm (f:Nat->Rat):Nat->Rat
 | 0=>0
 | n+1=>sm f n+f n
theorem Zc6 {f g:Nat->Rat}:∀ {n:Nat},(∀i,i<n->f i=g i)->sm f n=sm g n
 | 0,_=>rfl
 | n+1,h=>by
  show sm f n+f n=sm g n+g n;rw[Zc6 (fun i hi=>h i (by omega)),h n (by omega)]
theorem Zjj:∀n:Nat,sm (fun _=>0) n=0
 | 0=>rfl
 | n+1=>by show sm (fun _=>0) n+0=0;rw[Zjj n];grind
theorem Zow (f g:Nat->Rat):∀n:Nat,sm (fun i=>f i+g i) n=sm f n+sm g n
 | 0=>by show (0:Rat)=0+0;grind
 | n+1=>by show sm (fun i=>f i+g i) n+(f n+g n)=(sm f n+f n)+(sm g n+g n);rw[Zow f g n];grind
theorem Zmw (f:Nat->Rat) (c:Rat):∀n:Nat,sm (fun i=>f i*c) n=sm f n*c
 | 0=>by show (0:Rat)=0*c;grind
 | n+1=>by show sm (fun i=>f i*c) n+f n*c=(sm f n+f n)*c;rw[Zmw f c n];grind
theorem Zmx (f:Nat->Nat->Rat) (m:Nat):∀n:Nat,sm (fun i=>sm (fun j=>f i j) n) m=sm (fun j=>sm (fun i=>f i j) m) n
 | 0=>Zjj m
 | n+1=>by
  show sm (fun i=>sm (fun j=>f i j) n+f i n) m=sm (fun j=>sm (fun i=>f i j) m) n+sm (fun i=>f i n) m;rw[Zow,Zmx f m n]
theorem Zqt {f g:Nat->Rat}:∀ {n:Nat},(∀i,i<n->f i≤g i)->sm f n≤sm g n
 | 0,_=>by show (0:Rat)≤0;grind
 | n+1,h=>by
  have h1:=Zqt (f:=f) (g:=g) (n:=n) (fun i hi=>h i (by omega));have h2:=h n (by omega);show sm f n+f n≤sm g n+g n
  grind
theorem Zj7 {a b c:Rat} (h:a≤b) (hc:0≤c):a*c≤b*c:=Rat.mul_le_mul_of_nonneg_right h hc
theorem weak (a:Nat->Nat->Rat) (m n:Nat) (x y b c:Nat->Rat) (hx:∀j,j<n->0≤x j) (hb:∀i,i<m->sm (fun j=>a i j*x j) n=b i) (hd:∀j,j<n->sm (fun i=>a i j*y i) m≤c j) :
  sm (fun i=>b i*y i) m≤sm (fun j=>c j*x j) n:=by
 have e1:sm (fun i=>b i*y i) m=sm (fun i=>sm (fun j=>a i j*y i*x j) n) m:=Zc6 fun i hi=>by
  rw[<-hb i hi,<-Zmw];exact Zc6 fun j _=>by grind
 have e2:∀j,sm (fun i=>a i j*y i*x j) m=sm (fun i=>a i j*y i) m*x j:=fun j=>Zmw (fun i=>a i j*y i) (x j) m
 rw[e1,Zmx];refine Zqt fun j hj=>?_
 rw[e2 j];exact Zj7 (hd j hj) (hx j hj)
/-! ### Values of products -/
theorem val_zero:val (0,1)=0:=by unfold val;grind
theorem Zld (a b:List R):∀n:Nat,(acc a b n).2=true->val (acc a b n).1=sm (fun i=>val (at_ a i)*val (at_ b i)) n
 | 0,_=>val_zero
 | n+1,h=>by rw[Ve.Zgy h,Zld a b n (Ve.Zgw h (by omega))];rfl
theorem Zfc {a b:List R} (h:dotK a b=true):a.length=b.length/\(acc a b a.length).2=true:=by unfold dotK at h;simpa using h
theorem Zlq {a b:List R} (h:dotK a b=true):val (dotR a b)=sm (fun i=>val (at_ a i)*val (at_ b i)) a.length:=by
 obtain⟨h1,h2⟩:=Zfc h;rw[(Ve.Zb1 h1).1];exact Zld a b _ h2
theorem Zis {a b:List R} (h:dotK a b=true):Ve.vld (dotR a b)=true:=by
 obtain⟨h1,h2⟩:=Zfc h;rw[(Ve.Zb1 h1).1];exact Ve.Zle h2
def ir (l:List Int):List R:=Ve.outR (Ve.ofI l) l.length
def irK (l:List Int):Bool:=Ve.allK (Ve.ofI l) l.length
theorem Zrg {l:List Int} (h:irK l=true) {i:Nat} (hi:i<l.length):at_ (ir l) i=(l.getD i 0,1):=by
 unfold ir;rw[Ve.Zed h,Ve.upto_at _ _ _ hi];have h1:=Ve.Zg0 h i hi;have h2:Ve.inr (l.getD i 0)=true:=by rw[<-Ve.Ze1];exact h1
 obtain⟨e1,e2⟩:=Ve.Zok h2;show (Ra.rn (l.getD i 0) 1,Ra.rd (l.getD i 0) 1)=_;rw[e1,e2]
theorem Zol {l:List Int} (h:irK l=true):(ir l).length=l.length:=by unfold ir;rw[Ve.Zed h,Ve.Zcp]
theorem Zm8 (n:Int):val (n,1)=(n:Rat):=by unfold val;show (n:Rat) / ((1:Int):Rat)=n;grind
def idK (l:List Int) (v:List R):Bool:=irK l && dotK (ir l) v
def idR (l:List Int) (v:List R):R:=if idK l v then dotR (ir l) v else (0,0)
theorem Zjv {l:List Int} {v:List R} (h:idK l v=true):irK l=true/\dotK (ir l) v=true/\idR l v=dotR (ir l) v/\l.length=v.length:=by
 have h':=h;unfold idK at h';rw[Bool.and_eq_true] at h';refine⟨h'.1,h'.2,by unfold idR;rw[if_pos h],?_⟩;have:=(Zfc h'.2).1;rw[Zol h'.1] at this;exact this
theorem Zpc {l:List Int} {v:List R} (h:idK l v=false):idR l v=(0,0):=by unfold idR;rw[h];rfl
theorem Zju {l:List Int} {v:List R} (h:idK l v=true):val (idR l v)=sm (fun i=>((l.getD i 0:Int):Rat)*val (at_ v i)) l.length:=by
 obtain⟨h1,h2,h3,_⟩:=Zjv h;rw[h3,Zlq h2,Zol h1];exact Zc6 fun i hi=>by rw[Zrg h1 hi,Zm8]
theorem Zoj {l:List Int} {v:List R} (h:idK l v=true):Ve.vld (idR l v)=true:=by
 obtain⟨_,h2,h3,_⟩:=Zjv h;rw[h3];exact Zis h2
/-! ### The order of fractions, and values -/
theorem den_pos {x:R} (h:Ve.vld x=true):(0:Rat)<(x.2:Rat):=by
 have:=(Ra.Zbw h).1;have h1:((0:Int):Rat)<((x.2:Int):Rat):=Rat.intCast_lt_intCast.2 (by omega)
 simpa using h1
theorem Zko {x:R} (h:Ve.vld x=true):(0≤val x↔0≤x.1):=by
 have hd:=den_pos h;have hv:val x*(x.2:Rat)=(x.1:Rat):=by unfold val;grind
 constructor
 ·intro h1
  have h2:(0:Rat)*(x.2:Rat)≤val x*(x.2:Rat):=Zj7 h1 (by grind);rw[hv] at h2;have h3:((0:Int):Rat)≤((x.1:Int):Rat):=by simpa using h2
  exact Rat.intCast_le_intCast.1 h3
 ·intro h1
  have h3:((0:Int):Rat)≤((x.1:Int):Rat):=Rat.intCast_le_intCast.2 h1
  rcases Rat.le_total (a:=0) (b:=val x) with h4|h4
  ·exact h4
  ·have h5:val x*(x.2:Rat)≤0*(x.2:Rat):=Zj7 h4 (by grind)
   rw[hv] at h5;have h6:(x.1:Rat)=0:=by
    have:(0:Rat)≤(x.1:Rat):=by simpa using h3
    grind
   have:val x=0:=by unfold val;rw[h6];grind
   rw[this];grind
theorem Zpz {x:R} (h:Ve.vld x=true):(0<val x↔0<x.1):=by
 have h1:=Zko h;have hd:=den_pos h
 constructor
 ·intro h2
  have h3:=h1.1 (by grind)
  rcases Int.lt_or_eq_of_le h3 with h4|h4
  ·exact h4
  ·exfalso
   have:val x=0:=by unfold val;rw[<-h4];grind
   rw[this] at h2
   grind
 ·intro h2
  have h3:=h1.2 (by omega)
  rcases Rat.le_iff_lt_or_eq.1 h3 with h4|h4
  ·exact h4
  ·exfalso
   have hv:val x*(x.2:Rat)=(x.1:Rat):=by unfold val;grind
   rw[<-h4] at hv;have:(x.1:Rat)=((0:Int):Rat):=by rw[<-hv];grind
   have:=Rat.intCast_inj.1 this;omega
def Zi8 (c s:R):Bool:=decide (¬Ra.cmp c.1 c.2 s.1 s.2<0)
theorem Zln {c s:R} (hc:Ve.vld c=true) (hs:Ve.vld s=true):(Ra.cmp c.1 c.2 s.1 s.2<0↔val c<val s):=by
 have hd:=den_pos hc;have he:=den_pos hs;have hv1:val c*(c.2:Rat)=(c.1:Rat):=by unfold val;grind
 have hv2:val s*(s.2:Rat)=(s.1:Rat):=by unfold val;grind
 have h2:Ra.two c.1 c.2 s.1 s.2=true:=by unfold Ra.two;rw[show Ra.vld c.1 c.2=true from hc,show Ra.vld s.1 s.2=true from hs];rfl
 have key:(c.1*s.2<s.1*c.2↔val c<val s):=by
  have e1:((c.1*s.2:Int):Rat)=val c*((c.2:Rat)*(s.2:Rat)):=by rw[Rat.intCast_mul,<-hv1];grind
  have e2:((s.1*c.2:Int):Rat)=val s*((c.2:Rat)*(s.2:Rat)):=by rw[Rat.intCast_mul,<-hv2];grind
  have hp:(0:Rat)<(c.2:Rat)*(s.2:Rat):=Rat.mul_pos hd he;rw[<-Rat.intCast_lt_intCast,e1,e2]
  constructor
  ·intro h
   rcases Rat.le_total (a:=val s) (b:=val c) with h3|h3
   ·have:=Zj7 h3 (show (0:Rat)≤(c.2:Rat)*(s.2:Rat) by grind)
    grind
   ·rcases Rat.le_iff_lt_or_eq.1 h3 with h4|h4
    ·exact h4
    ·rw[h4] at h;grind
  ·intro h
   exact Rat.mul_lt_mul_of_pos_right h hp
 unfold Ra.cmp;rw[if_pos h2]
 constructor
 ·intro h
  split at h
  ·rename_i h3;exact key.1 h3
  ·split at h<;>omega
 ·intro h
  rw[if_pos (key.2 h)]
  decide
theorem Zi9 {c s:R} (hc:Ve.vld c=true) (hs:Ve.vld s=true) (h:Zi8 c s=true):val s≤val c:=by
 have h1:=of_decide_eq_true h;rw[Zln hc hs] at h1
 grind
structure P where
 A:List (List Int)
 B:List Int
 C:List R
structure Res where
 status:Int
 X:List R
 Y:List R
 ray:List R
 value:R
 pivots:Int
def small (l:List Int):Bool:=l.all fun z=>decide (-5000≤z/\z≤5000)
def row (p:P) (i:Nat):List Int:=p.A.getD i []
def rows (p:P):Bool:=(List.range p.A.length).all fun i=>decide ((row p i).length=p.C.length) && small (row p i)
def vldP (p:P):Bool:=rows p && (decide (p.C.length≤70) && (decide (p.A.length≤8) && (decide (p.B.length=p.A.length) && (small p.B && Ve.good p.C))))
def col (p:P) (j:Nat):List Int:=p.A.map fun r=>r.getD j 0
def nonneg (v:List R):Bool:=v.all fun x=>Ve.vld x && decide (0≤x.1)
def gives (p:P) (v:List R) (b:List Int):Bool:=(List.range p.A.length).all fun i=>idK (row p i) v && decide (idR (row p i) v=(b.getD i 0,1))
def feas (p:P) (x:List R):Bool:=vldP p && (decide (x.length=p.C.length) && (nonneg x && gives p x p.B))
def dual (p:P) (y c:List R):Bool:=(List.range p.C.length).all fun j=>idK (col p j) y && Zi8 (at_ c j) (idR (col p j) y)
def Zer (n:Nat):List R:=(List.range n).map fun _=>(0,1)
def Zo1 (n:Nat):List Int:=(List.range n).map fun _=>0
def opt (p:P) (r:Res):Bool:=feas p r.X && (decide (r.Y.length=p.B.length) && (dual p r.Y p.C && (dotK p.C r.X && (idK p.B r.Y && (decide (dotR p.C r.X=idR p.B r.Y) && decide (dotR p.C r.X=r.value))))))
def inf (p:P) (r:Res):Bool:=decide (r.Y.length=p.B.length) && (dual p r.Y (Zer p.C.length) && (idK p.B r.Y && decide (0<(idR p.B r.Y).1)))
def unb (p:P) (r:Res):Bool:=feas p r.X && (decide (r.ray.length=p.C.length) && (nonneg r.ray && (gives p r.ray (Zo1 p.B.length) && (dotK p.C r.ray && decide ((dotR p.C r.ray).1<0)))))
def chk (p:P) (r:Res):Bool:=vldP p && (if r.status=1 then opt p r else if r.status=2 then inf p r else if r.status=3 then unb p r else false)
theorem Zbk {p:P} (h:vldP p=true):rows p=true/\p.C.length≤70/\p.A.length≤8/\p.B.length=p.A.length/\small p.B=true/\Ve.good p.C=true:=by
 unfold vldP at h;simp only[Bool.and_eq_true,decide_eq_true_eq] at h;exact⟨h.1,h.2.1,h.2.2.1,h.2.2.2.1,h.2.2.2.2.1,h.2.2.2.2.2⟩
theorem Zmp {p:P} (h:rows p=true) {i:Nat} (hi:i<p.A.length):(row p i).length=p.C.length/\small (row p i)=true:=by
 unfold rows at h;rw[List.all_eq_true] at h;have:=h i (by simpa using hi)
 simpa using this
theorem Zno {v:List R} (h:Ve.good v=true) {j:Nat} (hj:j<v.length):Ve.vld (at_ v j)=true:=by
 cases h2:Ve.vld (at_ v j)
 ·rw[Ve.Ziv hj h2] at h;cases h
 ·rfl
theorem Zh2 {v:List R} (h:nonneg v=true) {j:Nat} (hj:j<v.length):Ve.vld (at_ v j)=true/\0≤(at_ v j).1:=by
 unfold nonneg at h;rw[List.all_eq_true] at h;have e:at_ v j=v[j]:=by unfold at_;rw[List.getD_eq_getElem?_getD,List.getElem?_eq_getElem hj];rfl
 have:=h v[j] (List.getElem_mem hj);rw[e]
 simpa using this
theorem Zk2 {v:List R} (h:nonneg v=true) {j:Nat} (hj:j<v.length):0≤val (at_ v j):=by
 obtain⟨h1,h2⟩:=Zh2 h hj;exact (Zko h1).2 h2
def co (p:P) (i j:Nat):Rat:=(((row p i).getD j 0:Int):Rat)
theorem Zqe (p:P) (i j:Nat) (hi:i<p.A.length):(((col p j).getD i 0:Int):Rat)=co p i j:=by
 unfold col co row;simp[hi]
theorem Zo5 (p:P) (j:Nat):(col p j).length=p.A.length:=by simp[col]
theorem Znn {p:P} {v:List R} {b:List Int} (h:gives p v b=true) (hr:rows p=true) {i:Nat} (hi:i<p.A.length):sm (fun j=>co p i j*val (at_ v j)) p.C.length=((b.getD i 0:Int):Rat):=by
 unfold gives at h;rw[List.all_eq_true] at h;have h1:=h i (by simpa using hi);rw[Bool.and_eq_true,decide_eq_true_eq] at h1;have h2:=Zju h1.1;rw[h1.2,Zm8,(Zmp hr hi).1] at h2;exact h2.symm
theorem Zo7 {p:P} {y c:List R} (h:dual p y c=true) {j:Nat} (hj:j<p.C.length) (hc:Ve.vld (at_ c j)=true):sm (fun i=>co p i j*val (at_ y i)) p.A.length≤val (at_ c j):=by
 unfold dual at h;rw[List.all_eq_true] at h;have h1:=h j (by simpa using hj);rw[Bool.and_eq_true] at h1;have h2:=Zju h1.1;have h3:=Zi9 hc (Zoj h1.1) h1.2;rw[Zo5] at h2;rw[h2] at h3;have e:sm (fun i=>co p i j*val (at_ y i)) p.A.length=sm (fun i=>(((col p j).getD i 0:Int):Rat)*val (at_ y i)) p.A.length:=Zc6 fun i hi=>by rw[Zqe p i j hi]
 rw[e];exact h3
theorem Zgf {p:P} {x:List R} (h:feas p x=true):vldP p=true/\x.length=p.C.length/\nonneg x=true/\gives p x p.B=true:=by
 unfold feas at h
 simpa using h
theorem Zq0 {p:P} {x y c:List R} {b:List Int} (hr:rows p=true) (hx:nonneg x=true) (hxl:x.length=p.C.length) (hg:gives p x b=true) (hd:dual p y c=true) (hc:∀j,j<p.C.length->Ve.vld (at_ c j)=true) :
  sm (fun i=>((b.getD i 0:Int):Rat)*val (at_ y i)) p.A.length≤sm (fun j=>val (at_ c j)*val (at_ x j)) p.C.length:=
 weak (co p) p.A.length p.C.length (fun j=>val (at_ x j)) (fun i=>val (at_ y i)) (fun i=>((b.getD i 0:Int):Rat)) (fun j=>val (at_ c j))
  (fun j hj=>Zk2 hx (by omega)) (fun i hi=>Znn hg hr hi) (fun j hj=>Zo7 hd hj (hc j hj))
theorem Zkr {n j:Nat} (hj:j<n):at_ (Zer n) j=(0,1):=by simp[at_,Zer,hj]
theorem Zh4 {p:P} {r:Res} (h:opt p r=true):feas p r.X=true/\r.Y.length=p.B.length/\dual p r.Y p.C=true/\dotK p.C r.X=true/\idK p.B r.Y=true/\dotR p.C r.X=idR p.B r.Y/\dotR p.C r.X=r.value:=by
 unfold opt at h
 simpa using h
theorem Zl3 {p:P} {r:Res} (h:inf p r=true):r.Y.length=p.B.length/\dual p r.Y (Zer p.C.length)=true/\idK p.B r.Y=true/\0<(idR p.B r.Y).1:=by
 unfold inf at h
 simpa using h
theorem Zmi {p:P} {r:Res} {x:List R} (ho:opt p r=true) (hf:feas p x=true) (hk:dotK p.C x=true):val r.value≤val (dotR p.C x):=by
 obtain⟨f1,f2,f3,f4,f5,f6,f7⟩:=Zh4 ho;obtain⟨g1,g2,g3,g4⟩:=Zgf hf;obtain⟨v1,v2,v3,v4,v5,v6⟩:=Zbk g1;have h:=Zq0 v1 g3 g2 g4 f3 (fun j hj=>Zno v6 hj);rw[<-f7,f6,Zju f5,v4,Zlq hk];exact h
theorem Znr {p:P} {r:Res} {x:List R} (hi:inf p r=true) (hf:feas p x=true):False:=by
 obtain⟨f1,f2,f3,f4⟩:=Zl3 hi;obtain⟨g1,g2,g3,g4⟩:=Zgf hf;obtain⟨v1,v2,v3,v4,v5,v6⟩:=Zbk g1;have h:=Zq0 v1 g3 g2 g4 f2 (fun j hj=>by rw[Zkr hj];decide);have h2:=(Zpz (Zoj f3)).2 f4;rw[Zju f3,v4] at h2;have h3:sm (fun j=>val (at_ (Zer p.C.length) j)*val (at_ x j)) p.C.length=0:=by
  rw[<-Zjj p.C.length];exact Zc6 fun j hj=>by rw[Zkr hj,val_zero];grind
 rw[h3] at h
 grind
theorem Zll {p:P} {r:Res} (h:chk p r=true):vldP p=true/\((r.status=1/\opt p r=true)\/(r.status=2/\inf p r=true)\/(r.status=3/\unb p r=true)):=by
 unfold chk at h;rw[Bool.and_eq_true] at h;refine⟨h.1,?_⟩;have h2:=h.2
 split at h2
 ·exact .inl ⟨by assumption,h2⟩
 ·split at h2
  ·exact .inr (.inl ⟨by assumption,h2⟩)
  ·split at h2
   ·exact .inr (.inr ⟨by assumption,h2⟩)
   ·cases h2
theorem least {p:P} {r:Res} {x:List R} (hr:chk p r=true) (hf:feas p x=true):r.status≠2/\(r.status=1->dotK p.C x=true->Ra.cmp r.value.1 r.value.2 (dotR p.C x).1 (dotR p.C x).2≤0):=by
 obtain⟨_,h1⟩:=Zll hr
 rcases h1 with ⟨a1,b1⟩ | ⟨a1,b1⟩ | ⟨a1,b1⟩
 ·refine⟨by omega,fun _ hk=>?_⟩
  have h2:=Zmi b1 hf hk;obtain⟨f1,f2,f3,f4,f5,f6,f7⟩:=Zh4 b1;have hv1:Ve.vld r.value=true:=by rw[<-f7];exact Zis f4
  have hv2:=Zis hk;have h3:¬Ra.cmp (dotR p.C x).1 (dotR p.C x).2 r.value.1 r.value.2<0:=by rw[Zln hv2 hv1];grind
  -- the other way round
  unfold Ra.cmp at h3 ⊢;have t1:Ra.two r.value.1 r.value.2 (dotR p.C x).1 (dotR p.C x).2=true:=by unfold Ra.two;rw[show Ra.vld r.value.1 r.value.2=true from hv1,show Ra.vld (dotR p.C x).1 (dotR p.C x).2=true from hv2];rfl
  have t2:Ra.two (dotR p.C x).1 (dotR p.C x).2 r.value.1 r.value.2=true:=by unfold Ra.two;rw[show Ra.vld r.value.1 r.value.2=true from hv1,show Ra.vld (dotR p.C x).1 (dotR p.C x).2=true from hv2];rfl
  rw[if_pos t2] at h3;rw[if_pos t1]
  split
  ·decide
  ·split
   ·rename_i h4 h5
    rw[if_pos h5] at h3;exact absurd (by decide) h3
   ·decide
 ·exact (Znr b1 hf).elim
 ·exact⟨by omega,fun h=>by omega⟩
end Go.Proofs.YtpjnjidbdpfdcaaGreat.Lp
