/- Basic solutions: a pivot's entries; each column of the start as a combination of the basic ones; one denominator for all entries; nothing of the program. -/
import Derived.Test.YtlohljkfphljgaaGreatGMt
import Derived.Test.YtlohljkfphljgaaGreatHApR
import Derived.Test.YtlohljkfphljgaaGreatHBaF
namespace Go.Proofs.YtlohljkfphljgaaGreat.Ba
open Ve (R at_ val)
open Lp (sm Zdu Zlt)
open De (upd det IntB fact)
open Ta (T row bas piv pivK good)
theorem Z1s {x y:R} (h:Ta.divK x y=true):val (Ta.divR x y)=val x / val y/\val y≠0:=by
 obtain⟨k,f,e1,e2⟩:=Ra.Zfl h;have h1:=Ve.Zgh (Ra.Zd2 k).1;have h2:=Ve.Zgh (x:=y) (Ra.Zd2 k).2;have hy:(y.1:Rat)≠0:=by
  intro h0;have h3:y.1=0:=by simpa using h0
  rw[h3,Int.mul_zero,Ra.Zk1] at f;cases f
 refine⟨?_,?_⟩
 ·unfold val Ta.divR
  rw[e1,e2];show ((Ra.rn _ _:Int):Rat) / ((Ra.rd _ _:Int):Rat)=_;rw[Ve.Ztm f,Rat.intCast_mul,Rat.intCast_mul]
  grind
 ·unfold val
  grind
theorem val_neg {x:R} (h:Ve.vld x=true):val (Ta.negR x)=- val x:=by
 rw[Ta.Z2p h];unfold val;show ((-x.1:Int):Rat) / (x.2:Rat)=_;rw[Rat.intCast_neg]
 grind
theorem Zfd:val (0,0)=0:=by unfold val;simp;grind
theorem Zix:val (0,1)=0:=Lp.val_zero
def en (t:T) (i j:Nat):Rat:=val (at_ (row t i) j)
def bn (t:T) (i:Nat):Nat:=(bas t i).toNat
theorem Zlm {t:T} {r c:Int} (h:pivK t r c=true):good t=true/\(0≤r/\r≤(t.rows.length:Int)-1)/\(0≤c/\c≤t.cols+t.rows.length-1)/\Ta.Zgq t r.toNat c.toNat=true/\Ta.Zbm t r.toNat c.toNat t.rows.length=true:=by
 unfold pivK Ta.may at h;simp only[Bool.and_eq_true,decide_eq_true_eq] at h;obtain⟨⟨hg,hr,hc,_⟩,hm,hall⟩:=h;exact⟨hg,hr,hc,hm,hall⟩
theorem Z1f {t:T} {r c:Int} (h:pivK t r c=true) {k:Nat} (hk:k<t.rows.length):row (piv t r c) k=if k=r.toNat then Ta.main t r.toNat c.toNat else Ta.nextR t r.toNat c.toNat k:=by
 unfold piv;rw[if_pos h];unfold row;rw[List.getD_eq_getElem?_getD,Ta.Zcy _ _ _ _ _ hk];simp[hk]
theorem Z1e {t:T} {r c:Int} (h:pivK t r c=true) {k:Nat} (hk:k<t.rows.length):bas (piv t r c) k=if k=r.toNat then c else bas t k:=by
 obtain⟨hg,hr,_⟩:=Zlm h;obtain⟨_,_,g2,_⟩:=Ta.Za2 hg;unfold piv;rw[if_pos h];unfold bas;rw[List.getD_eq_getElem?_getD,List.getD_eq_getElem?_getD]
 by_cases e:k=r.toNat
 ·subst e
  rw[List.getElem?_set_self (by omega),if_pos rfl];rfl
 ·rw[List.getElem?_set_ne (fun h=>e h.symm),if_neg e]
theorem Z0h {t:T} {r c:Int} (h:pivK t r c=true) {k j:Nat} (hk:k<t.rows.length) (hj:(j:Int)<t.cols+t.rows.length+1) :
  en (piv t r c) k j=(if k=r.toNat then en t r.toNat j / en t r.toNat c.toNat else en t k j-en t k c.toNat*(en t r.toNat j / en t r.toNat c.toNat))/\en t r.toNat c.toNat≠0:=by
 obtain⟨hg,hr,hc,hm,hall⟩:=Zlm h;obtain⟨g0,g1,g2,g3⟩:=Ta.Za2 hg;have hlr:=(g3 r.toNat (by omega)).1;have hlk:=(g3 k hk).1;have hmain:val (at_ (Ta.main t r.toNat c.toNat) j)=en t r.toNat j / en t r.toNat c.toNat/\en t r.toNat c.toNat≠0:=by
  obtain⟨h1,h2⟩:=Ta.Z3p (j:=j) hm (by omega);unfold Ta.main;rw[h1];exact Z1s h2
 refine⟨?_,hmain.2⟩;unfold en at hmain ⊢;rw[Z1f h hk]
 by_cases e:k=r.toNat
 ·rw[if_pos e,if_pos e];exact hmain.1
 ·rw[if_neg e,if_neg e]
  unfold Ta.nextR;rw[if_neg e]
  by_cases e0:at_ (row t k) c.toNat=(0,1)
  ·rw[if_pos e0,e0,Zix];grind
  ·rw[if_neg e0]
   have hn:Ta.nextK t r.toNat c.toNat k=true:=by
    cases hh:Ta.nextK t r.toNat c.toNat k
    ·rw[Ta.Zi3 hk hh] at hall;cases hall
    ·rfl
   unfold Ta.nextK Ta.still at hn;rw[decide_eq_false e,decide_eq_false e0] at hn;have hn2:Ve.scK (row t k) (Ta.negR (at_ (row t k) c.toNat)) (Ta.main t r.toNat c.toNat)=true:=by simpa using hn
   obtain⟨h1,h2⟩:=Ta.Z1m (j:=j) hn2 (by omega);obtain⟨_,h4⟩:=Ta.Z1m (j:=c.toNat) hn2 (by omega);have hv:=(Ve.Zxm h4).1;have hm2:Ve.mulK (Ta.negR (at_ (row t k) c.toNat)) (at_ (Ta.main t r.toNat c.toNat) j)=true:=by
    cases h5:Ve.mulK (Ta.negR (at_ (row t k) c.toNat)) (at_ (Ta.main t r.toNat c.toNat) j)
    ·rw[Ve.Zdi _ h5] at h2;cases h2
    ·rfl
   rw[h1,Ve.val_add h2,Ve.val_mul hm2,val_neg hv,hmain.1]
   grind
structure Inv (p:Lp.P) (t:T):Prop where
 fm:good t=true
 nr:t.rows.length=p.A.length
 nc:t.cols=p.C.length
 comb:∀j,j<p.C.length+p.A.length+1->∀k,k<p.A.length->en (Ta.start p) k j=sm (fun i=>en t i j*en (Ta.start p) k (bn t i)) p.A.length
 dne:det p.A.length (fun i k=>en (Ta.start p) k (bn t i))≠0
theorem Zxb {p:Lp.P} (h:Lp.vldP p=true) {k:Nat} (hk:k<p.A.length):row (Ta.start p) k=Ta.Zcj p k:=by
 rw[Ta.Ze1 h];simp[row,Ta.Zap,hk]
theorem Ztg {p:Lp.P} (h:Lp.vldP p=true) {k:Nat} (hk:k<p.A.length) (j:Nat):en (Ta.start p) k j=(((Ta.nums p k).getD j 0:Int):Rat):=by
 unfold en;rw[Zxb h hk];unfold Ta.Zcj Ta.asR at_
 rcases Nat.lt_or_ge j (Ta.nums p k).length with hj|hj
 ·rw[List.getD_eq_getElem?_getD,List.getD_eq_getElem?_getD,List.getElem?_map,List.getElem?_eq_getElem hj]
  exact Lp.Zoq _
 ·rw[List.getD_eq_getElem?_getD,List.getD_eq_getElem?_getD,List.getElem?_map,List.getElem?_eq_none hj]
  exact Zfd
theorem Zzn {p:Lp.P} (h:Lp.vldP p=true) {i:Nat} (hi:i<p.A.length):bn (Ta.start p) i=p.C.length+i:=by
 rw[Ta.Ze1 h];simp[bn,bas,Ta.Zap,hi];omega
theorem Zs0 {p:Lp.P} (h:Lp.vldP p=true) {k:Nat} (hk:k<p.A.length) {i:Nat} (hi:i<p.A.length):(Ta.nums p k).getD (p.C.length+i) 0=if i=k then 1 else 0:=by
 obtain⟨h1,_⟩:=Lp.Zas h;have h2:=(Lp.Zed h1 hk).1;unfold Ta.nums Ta.Zjf;rw[List.getD_eq_getElem?_getD,List.getElem?_append_right (by simp[h2]),List.getElem?_append_left (by simp[h2];omega)];simp[h2,hi]
theorem Zyw {p:Lp.P} (h:Lp.vldP p=true) {k:Nat} (hk:k<p.A.length) {j:Nat} (hj:j<p.C.length):(Ta.nums p k).getD j 0=Ta.sg p k*(Lp.row p k).getD j 0:=by
 obtain⟨h1,_⟩:=Lp.Zas h;have h2:=(Lp.Zed h1 hk).1;have e1:(Lp.row p k)[j]? = some ((Lp.row p k).getD j 0):=by rw[List.getD_eq_getElem?_getD,List.getElem?_eq_getElem (by omega)];rfl
 unfold Ta.nums;rw[List.getD_eq_getElem?_getD,List.getElem?_append_left (by simp[h2];omega),List.getElem?_map,e1];rfl
theorem Zyx {p:Lp.P} (h:Lp.vldP p=true) {k:Nat} (hk:k<p.A.length):(Ta.nums p k).getD (p.C.length+p.A.length) 0=Ta.sg p k*p.B.getD k 0:=by
 obtain⟨h1,_⟩:=Lp.Zas h;have h2:=(Lp.Zed h1 hk).1;unfold Ta.nums Ta.Zjf;rw[List.getD_eq_getElem?_getD,List.getElem?_append_right (by simp[h2]),List.getElem?_append_right (by simp[h2])];simp[h2]
theorem Inv.start {p:Lp.P} (h:Lp.vldP p=true):Inv p (Ta.start p):=by
 obtain⟨a1,a2,a3,_⟩:=Ta.Zet h;have hart:∀k i,k<p.A.length->i<p.A.length->en (Ta.start p) k (bn (Ta.start p) i)=if i=k then 1 else 0:=fun k i hk hi=>by
  rw[Zzn h hi,Ztg h hk,Zs0 h hk hi]
  split<;>simp
 refine⟨a1,a2,a3,fun j hj k hk=>?_,?_⟩
 ·rw[De.Ztd hk fun i hi hne=>by rw[hart k i hk hi,if_neg hne];grind]
  rw[hart k k hk hk,if_pos rfl]
  grind
 ·rw[De.Zu3 fun c r hc hr=>hart r c hr hc]
  grind
theorem Inv.step {p:Lp.P} {t:T} {r c:Int} (h:Inv p t) (hp:pivK t r c=true):Inv p (piv t r c):=by
 obtain⟨q1,q2,q3⟩:=Ta.Zs3 (r:=r) (c:=c) h.fm;obtain⟨_,hr,hc,_⟩:=Zlm hp;have hnr:=h.nr;have hnc:=h.nc;have hcj:c.toNat<p.C.length+p.A.length+1:=by omega
 have hrk:r.toNat<t.rows.length:=by omega
 have hbn:∀i,i<p.A.length->bn (piv t r c) i=if i=r.toNat then c.toNat else bn t i:=fun i hi=>by
  unfold bn;rw[Z1e hp (by omega)]
  split<;>rfl
 have hne:=(Z0h (j:=0) hp hrk (by omega)).2;refine⟨q1,q2.trans h.nr,q3.trans h.nc,fun j hj k hk=>?_,?_⟩
 ·have hS:=h.comb j hj k hk
  have hC:=h.comb c.toNat hcj k hk;have e:∀i,i<p.A.length->en (piv t r c) i j*en (Ta.start p) k (bn (piv t r c) i) =
    (en t i j*en (Ta.start p) k (bn t i)+(-(en t r.toNat j / en t r.toNat c.toNat))*(en t i c.toNat*en (Ta.start p) k (bn t i)))+(if i=r.toNat then (en t r.toNat j / en t r.toNat c.toNat)*en (Ta.start p) k c.toNat else 0):=fun i hi=>by
   rw[(Z0h hp (by omega) (by omega)).1,hbn i hi]
   by_cases ei:i=r.toNat
   ·subst ei
    rw[if_pos rfl,if_pos rfl,if_pos rfl]
    grind
   ·rw[if_neg ei,if_neg ei,if_neg ei]
    grind
  rw[Zdu e,Zlt,Zlt,De.Zlu,<-hS,<-hC,De.Ztd (k:=r.toNat) (by omega) fun i hi hn=>if_neg hn,if_pos rfl]
  grind
 ·have e:det p.A.length (fun i k=>en (Ta.start p) k (bn (piv t r c) i))=det p.A.length (upd (fun i k=>en (Ta.start p) k (bn t i)) r.toNat fun k=>en (Ta.start p) k c.toNat):=De.Zh3 fun i k hi hk=>by
   unfold upd;rw[hbn i hi]
   split<;>rfl
  rw[e,De.Zz4 _ (fun i=>en t i c.toNat) _ (by omega) fun k hk=>h.comb c.toNat hcj k hk];have:=h.dne;intro h0
  rcases Rat.mul_eq_zero.1 h0 with h1|h1
  ·exact hne h1
  ·exact this h1
theorem Zho {Q:T->Prop} (hQ:∀(t:T) (r c:Int),Q t->pivK t r c=true->Q (piv t r c)) {cost:List R}:∀(f:Nat) {s s':T×Nat} {cs:List R} {col:Int},Q s.1->Ta.phase cost f s=some (s',cs,col)->Q s'.1
 | 0,_,_,_,_,_,h=>by cases h
 | f+1,s,s',cs,col,hs,h=>by
  change (if Ta.Zco s.1 cost=true then (if Ta.lvR s.1 (Ta.entC s.1 cost)<0 then some (s,Ta.Zdm s.1 cost,Ta.entC s.1 cost) else match Ta.Zcc s (Ta.lvR s.1 (Ta.entC s.1 cost)) (Ta.entC s.1 cost) with|none=>none|some s'=>Ta.phase cost f s') else none)=_ at h
  by_cases h1:Ta.Zco s.1 cost=true
  ·rw[if_pos h1] at h
   by_cases h2:Ta.lvR s.1 (Ta.entC s.1 cost)<0
   ·rw[if_pos h2] at h
    injection h with h
    injection h with e1 e2
    subst e1;exact hs
   ·rw[if_neg h2] at h
    rcases h3:Ta.Zcc s (Ta.lvR s.1 (Ta.entC s.1 cost)) (Ta.entC s.1 cost) with _|s1
    ·rw[h3] at h;cases h
    ·rw[h3] at h
     obtain⟨_,h4,rfl⟩:=Ta.Zfy h3;exact Zho hQ f (hQ _ _ _ hs h4) h
  ·rw[if_neg h1] at h;cases h
theorem Zkx {Q:T->Prop} (hQ:∀(t:T) (r c:Int),Q t->pivK t r c=true->Q (piv t r c)) {s:T×Nat} (hs:Q s.1):∀ {k:Nat} {u:T×Nat},Ta.drive s k=some u->Q u.1
 | 0,u,h=>by
  obtain rfl:=Option.some.inj h;exact hs
 | k+1,u,h=>by
  rcases h1:Ta.drive s k with _|v
  ·rw[Ta.Zgi h1 (k+1) (by omega)] at h;cases h
  ·have hv:=Zkx hQ hs h1
   rw[Ta.Zfo h1] at h
   by_cases h2:bas v.1 k<v.1.cols
   ·rw[if_pos h2] at h
    obtain rfl:=Option.some.inj h;exact hv
   ·rw[if_neg h2] at h
    by_cases h3:Ta.fstN (row v.1 k) v.1.cols.toNat<0
    ·rw[if_pos h3] at h
     obtain rfl:=Option.some.inj h;exact hv
    ·rw[if_neg h3] at h
     obtain⟨_,h4,rfl⟩:=Ta.Zfy h;exact hQ _ _ _ hv h4
theorem Z1k {p:Lp.P} (hv:Lp.vldP p=true) {r:Lp.Res} (h:Ta.run1 p=some r) (hs:r.status=1):∃t,Inv p t/\Ta.Zco t (Ta.Zdq p)=true/\r.X=Ta.xR t/\r.Y=Ta.Zc8 p (Ta.Zdm t (Ta.Zdq p)) 0:=by
 have hQ:∀(t:T) (r c:Int),Inv p t->pivK t r c=true->Inv p (piv t r c):=fun t r c a b=>a.step b
 unfold Ta.run1 at h
 rcases h1:Ta.ph (Ta.Zgf p) (Ta.start p,0) with _|⟨s1,c1,k1⟩
 ·rw[h1] at h;cases h
 ·rw[h1] at h
  have i1:Inv p s1.1:=Zho hQ _ (show Inv p (Ta.start p,0).1 from Inv.start hv) h1;have m1:=(Ta.Zgs (Ta.Zet hv) h1).1;simp only at h
  by_cases h2:Ta.sgn (Ta.Zcr c1)<0
  ·rw[if_pos h2] at h
   obtain rfl:=Option.some.inj h;simp at hs
  ·rw[if_neg h2] at h
   rcases h3:Ta.drive s1 p.A.length with _|s2
   ·rw[h3] at h;cases h
   ·rw[h3] at h
    have i2:=Zkx hQ i1 h3;have m2:=Ta.Zdy m1 h3;simp only at h
    rcases h4:Ta.ph (Ta.Zdq p) s2 with _|⟨s3,c3,k3⟩
    ·rw[h4] at h;cases h
    ·rw[h4] at h
     have i3:=Zho hQ _ i2 h4;obtain⟨_,b2,b3,_⟩:=Ta.Zgs m2 h4;simp only at h
     by_cases h5:0≤k3
     ·rw[if_pos h5] at h
      obtain rfl:=Option.some.inj h;simp at hs
     ·rw[if_neg h5] at h
      obtain rfl:=Option.some.inj h;exact⟨s3.1,i3,b2,rfl,by rw[b3]⟩
theorem Zlx {p:Lp.P} (hs:(Ta.solve p).status=1):Lp.vldP p=true/\Lp.opt p (Ta.solve p)=true/\∃t,Inv p t/\Ta.Zco t (Ta.Zdq p)=true/\(Ta.solve p).X=Ta.xR t/\(Ta.solve p).Y=Ta.Zc8 p (Ta.Zdm t (Ta.Zdq p)) 0:=by
 have hc:Lp.chk p (Ta.solve p)=true:=by
  rcases Ta.Zxa p with h|⟨_,h⟩ | ⟨_,h⟩
  ·exact h
  ·rw[h] at hs;simp at hs
  ·rw[h] at hs;simp at hs
 obtain⟨hv,ho⟩:=Lp.Zo2 hc;have ho:Lp.opt p (Ta.solve p)=true:=by
  rcases ho with ⟨_,h⟩ | ⟨h,_⟩ | ⟨h,_⟩
  ·exact h
  ·rw[hs] at h;simp at h
  ·rw[hs] at h;simp at h
 refine⟨hv,ho,?_⟩
 rcases hr:Ta.run1 p with _|r
 ·unfold Ta.solve at hs
  rw[if_pos hv,hr] at hs;simp at hs
 ·have e:Ta.solve p=r:=by
   unfold Ta.solve at hs ⊢;rw[if_pos hv,hr] at hs ⊢;simp only at hs ⊢
   by_cases h2:Lp.chk p r=true
   ·rw[if_pos h2]
   ·rw[if_neg h2] at hs;simp at hs
  rw[e] at hs ⊢;exact Z1k hv hr hs
def Uni (p:Lp.P):Prop:=∀k,k<p.A.length->∀j,j<p.C.length+p.A.length+1->IntB 1 (en (Ta.start p) k j)
theorem Inv.basic {p:Lp.P} {t:T} (h:Inv p t) (hu:Uni p):∃D:Rat,D≠0/\IntB (fact p.A.length) D/\∀i,i<p.A.length->∀j,j<p.C.length+p.A.length+1->IntB (fact p.A.length) (D*en t i j):=by
 obtain⟨g0,g1,g2,g3⟩:=Ta.Za2 h.fm;have hnr:=h.nr;have hnc:=h.nc;have hb:∀i,i<p.A.length->bn t i<p.C.length+p.A.length+1:=fun i hi=>by
  have:=(g3 i (by omega)).2;unfold bn;omega
 refine⟨_,h.dne,De.Zqv fun i k hi hk=>hu k hk _ (hb i hi),fun i hi j hj=>?_⟩;have e:=De.Zz4 (fun i k=>en (Ta.start p) k (bn t i)) (fun i=>en t i j) (fun k=>en (Ta.start p) k j) hi fun k hk=>h.comb j hj k hk
 rw[show det p.A.length (fun i k=>en (Ta.start p) k (bn t i))*en t i j=en t i j*det p.A.length (fun i k=>en (Ta.start p) k (bn t i)) by grind,<-e];refine De.Zqv fun c k hc hk=>?_
 unfold upd
 split
 ·exact hu k hk j hj
 ·exact hu k hk _ (hb c hc)
theorem Zp3 (t:T) (j:Nat):∀k,val (at_ (Ta.sol t k) j)=0\/∃i,i<k/\val (at_ (Ta.sol t k) j)=en t i (t.cols+t.rows.length).toNat
 | 0=>by
  left
  unfold Ta.sol Lp.Za1 at_;rw[List.getD_eq_getElem?_getD,List.getElem?_map]
  rcases (List.range (t.cols+t.rows.length).toNat)[j]? with _|x
  ·exact Zfd
  ·exact Zix
 | k+1=>by
  unfold Ta.sol;unfold at_;rw[List.getD_eq_getElem?_getD,List.getElem?_set]
  by_cases h1:(bas t k).toNat=j
  ·rw[if_pos h1]
   by_cases h2:(bas t k).toNat<(Ta.sol t k).length
   ·rw[if_pos h2]
    exact .inr ⟨k,by omega,rfl⟩
   ·rw[if_neg h2]
    exact .inl Zfd
  ·rw[if_neg h1]
   rcases Zp3 t j k with h3|⟨i,hi,h3⟩
   ·left
    unfold at_ at h3;rw[List.getD_eq_getElem?_getD] at h3;exact h3
   ·right
    unfold at_ at h3;rw[List.getD_eq_getElem?_getD] at h3;exact⟨i,by omega,h3⟩
theorem Z35 {t:T} (hg:good t=true) (j:Nat):val (at_ (Ta.xR t) j)=0\/∃i,i<t.rows.length/\val (at_ (Ta.xR t) j)=en t i (t.cols+t.rows.length).toNat:=by
 unfold Ta.xR Ta.solR;rw[if_pos hg]
 rcases Nat.lt_or_ge j t.cols.toNat with hj|hj
 ·have e:at_ ((Ta.sol t t.rows.length).take t.cols.toNat) j=at_ (Ta.sol t t.rows.length) j:=by
   unfold at_;rw[List.getD_eq_getElem?_getD,List.getD_eq_getElem?_getD,List.getElem?_take_of_lt hj]
  rw[e];exact Zp3 t j _
 ·left
  have e:at_ ((Ta.sol t t.rows.length).take t.cols.toNat) j=(0,0):=by
   unfold at_;rw[List.getD_eq_getElem?_getD,List.getElem?_eq_none (by simp;omega)];rfl
  rw[e];exact Zfd
theorem Zz3 {t:T} {cost:List R} {j:Nat} (hj:j<cost.length) (hcv:∀i,i<t.rows.length->Ve.vld (at_ cost (bn t i))=true):∀ {k:Nat},k≤t.rows.length->(Ta.cr t cost k).2=true->val (at_ (Ta.cr t cost k).1 j)=val (at_ cost j)-sm (fun i=>val (at_ cost (bn t i))*en t i j) k
 | 0,_,_=>by
  have e:at_ (cost++[(0,1)]) j=at_ cost j:=by
   unfold at_;rw[List.getD_eq_getElem?_getD,List.getD_eq_getElem?_getD,List.getElem?_append_left hj]
  show val (at_ (cost++[(0,1)]) j)=val (at_ cost j)-0;rw[e]
  grind
 | k+1,hk,h=>by
  by_cases hk2:(Ta.cr t cost k).2=true
  ·have ih:=Zz3 hj hcv (k:=k) (by omega) hk2
   have hl:=Ta.Zkv hk2;rw[Ta.Zkw hk2] at h ⊢;obtain⟨h1,h2⟩:=Ta.Z1m (j:=j) h (by omega);have hm2:Ve.mulK (Ta.negR (at_ cost (bn t k))) (at_ (row t k) j)=true:=by
    cases h5:Ve.mulK (Ta.negR (at_ cost (bn t k))) (at_ (row t k) j)
    ·unfold bn at h5
     rw[Ve.Zdi _ h5] at h2;cases h2
    ·rfl
   have hv:=val_neg (hcv k (by omega));show val (at_ (Ve.scR _ _ _) j)=_-(sm _ k+_);rw[h1,Ve.val_add h2];show _+val (Ve.mulR (Ta.negR (at_ cost (bn t k))) (at_ (row t k) j))=_;rw[Ve.val_mul hm2,hv,ih];unfold en
   grind
  ·have:=Ta.Zgg (k:=k) (by simpa using hk2) (k+1) (by omega)
   rw[this] at h;cases h
theorem Zxu {t:T} {cost:List R} (h:Ta.Zco t cost=true) {j:Nat} (hj:j<cost.length):val (at_ (Ta.Zdm t cost) j)=val (at_ cost j)-sm (fun i=>val (at_ cost (bn t i))*en t i j) t.rows.length:=by
 have h':=h;unfold Ta.Zco at h';simp only[Bool.and_eq_true,decide_eq_true_eq] at h';obtain⟨⟨hg,hl⟩,h2⟩:=h';obtain⟨g0,g1,g2,g3⟩:=Ta.Za2 hg;have hgood:Ve.good cost=true:=by
  rcases h3:Ve.good cost with _|_
  ·have:=Ta.Zgg (t:=t) (cost:=cost) (k:=0) h3 t.rows.length (Nat.zero_le _)
   rw[this] at h2;cases h2
  ·rfl
 unfold Ta.Zdm;rw[if_pos h];exact Zz3 hj (fun i hi=>Lp.Zsj hgood (by have:=(g3 i hi).2;unfold bn;omega)) (Nat.le_refl _) h2
theorem Zzo (x y:R):(val (Ta.subR x y)=val x-val y/\Ve.vld (Ta.subR x y)=true)\/Ta.subR x y=(0,0):=by
 rcases h:Ra.opK (Ra.two x.1 x.2 y.1 y.2) (x.1*y.2 - y.1*x.2) (x.2*y.2) with _|_
 ·obtain⟨h1,h2⟩:=Ve.Zro h
  unfold Ta.subR;rw[h1,h2];exact .inr rfl
 ·obtain⟨k,f,e1,e2⟩:=Ra.Zfl h
  have h1:=Ve.Zgh (Ra.Zd2 k).1;have h2:=Ve.Zgh (x:=y) (Ra.Zd2 k).2;refine .inl ⟨?_,?_⟩
  ·unfold val Ta.subR
   rw[e1,e2];show ((Ra.rn _ _:Int):Rat) / ((Ra.rd _ _:Int):Rat)=_;rw[Ve.Ztm f,Rat.intCast_sub,Rat.intCast_mul,Rat.intCast_mul,Rat.intCast_mul]
   grind
  ·unfold Ve.vld Ta.subR
   rw[e1,e2];exact Ra.Zg9 f
theorem Zx0 (p:Lp.P) (cs:List R) (k:Nat):val (at_ (Ta.Zc8 p cs 0) k)=0\/(k<p.A.length/\(val (at_ (Ta.Zc8 p cs 0) k)=val (at_ cs (p.C.length+k))\/val (at_ (Ta.Zc8 p cs 0) k)=- val (at_ cs (p.C.length+k)))):=by
 rcases Nat.lt_or_ge k p.A.length with hk|hk
 ·have e:at_ (Ta.Zc8 p cs 0) k=Ta.Zek p cs 0 k:=by simp[at_,Ta.Zc8,hk]
  rw[e];unfold Ta.Zek
  rcases Zzo (0,1) (at_ cs (p.C.length+k)) with ⟨h1,h2⟩ | h1
  ·right
   refine⟨hk,?_⟩
   by_cases hb:p.B.getD k 0<0
   ·rw[if_pos hb]
    left
    rw[val_neg h2,h1,Zix]
    grind
   ·rw[if_neg hb]
    right
    rw[h1,Zix]
    grind
  ·left
   by_cases hb:p.B.getD k 0<0
   ·rw[if_pos hb,h1]
    exact Zfd
   ·rw[if_neg hb,h1]
    exact Zfd
 ·left
  have e:at_ (Ta.Zc8 p cs 0) k=(0,0):=by
   unfold at_;rw[List.getD_eq_getElem?_getD,List.getElem?_eq_none (by simp[Ta.Zc8];omega)];rfl
  rw[e];exact Zfd
theorem Zo6 (p:Lp.P) (k:Nat):val (at_ (Ta.Zdq p) (p.C.length+k))=0:=by
 unfold Ta.Zdq at_;rw[List.getD_eq_getElem?_getD,List.getElem?_append_right (by omega),Nat.add_sub_cancel_left];unfold Lp.Za1;rw[List.getElem?_map]
 rcases (List.range p.A.length)[k]? with _|x
 ·exact Zfd
 ·exact Zix
theorem Zxr (p:Lp.P) {b:Nat} (hb:∀j,j<p.C.length->IntB b (val (at_ p.C j))) (j:Nat):IntB b (val (at_ (Ta.Zdq p) j)):=by
 rcases Nat.lt_or_ge j p.C.length with hj|hj
 ·have e:at_ (Ta.Zdq p) j=at_ p.C j:=by
   unfold Ta.Zdq at_;rw[List.getD_eq_getElem?_getD,List.getD_eq_getElem?_getD,List.getElem?_append_left hj]
  rw[e];exact hb j hj
 ·obtain⟨k,rfl⟩:∃k,j=p.C.length+k:=⟨j-p.C.length,by omega⟩
  rw[Zo6];exact IntB.zero.mono (Nat.zero_le _)
theorem Zr1 {p:Lp.P} (hs:(Ta.solve p).status=1) (hu:Uni p) {b:Nat} (hb:∀j,j<p.C.length->IntB b (val (at_ p.C j))) :
  ∃D:Rat,D≠0/\IntB (fact p.A.length) D/\(∀j,IntB (fact p.A.length) (D*val (at_ (Ta.solve p).X j)))/\∀k,IntB (p.A.length*(b*fact p.A.length)) (D*val (at_ (Ta.solve p).Y k)):=by
 obtain⟨hv,ho,t,hi,hc,e1,e2⟩:=Zlx hs;obtain⟨D,d0,d1,d2⟩:=hi.basic hu;have hnr:=hi.nr;have hnc:=hi.nc;refine⟨D,d0,d1,fun j=>?_,fun k=>?_⟩
 ·rw[e1]
  rcases Z35 hi.fm j with h|⟨i,hil,h⟩
  ·rw[h,show D*0=0 by grind]
   exact IntB.zero.mono (Nat.zero_le _)
  ·rw[h]
   exact d2 i (by omega) _ (by omega)
 ·rw[e2]
  have key:k<p.A.length->IntB (p.A.length*(b*fact p.A.length)) (D*val (at_ (Ta.Zdm t (Ta.Zdq p)) (p.C.length+k))):=fun hk=>by
   have hl:(Ta.Zdq p).length=p.C.length+p.A.length:=by simp[Ta.Zdq,Lp.Za1]
   rw[Zxu hc (by omega),Zo6,show ∀s:Rat,D*(0-s)=-(D*s) by intro s;grind,<-De.Zlu,hnr];refine IntB.neg (IntB.sum fun i hil=>?_);rw[show D*(val (at_ (Ta.Zdq p) (bn t i))*en t i (p.C.length+k))=val (at_ (Ta.Zdq p) (bn t i))*(D*en t i (p.C.length+k)) by grind];exact (Zxr p hb _).mul (d2 i hil _ (by omega))
  rcases Zx0 p (Ta.Zdm t (Ta.Zdq p)) k with h|⟨hk,h|h⟩
  ·rw[h,show D*0=0 by grind]
   exact IntB.zero.mono (Nat.zero_le _)
  ·rw[h];exact key hk
  ·rw[h,show ∀s:Rat,D*(-s)=-(D*s) by intro s;grind]
   exact (key hk).neg
end Go.Proofs.YtlohljkfphljgaaGreat.Ba
