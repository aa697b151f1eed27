/- The parts CrM, CrP, LkCo. -/
import Derived.Test.YtjfnleilddgjiaaGreatHPyM
import Derived.Test.YtjfnleilddgjiaaGreatGM
import Derived.Test.YtjfnleilddgjiaaGreatBaM
import Derived.Test.YtjfnleilddgjiaaGreatHBaF
import Derived.Test.YtjfnleilddgjiaaGreatHPyA
import Derived.Test.YtjfnleilddgjiaaGreatHGmB
namespace Go.Proofs.YtjfnleilddgjiaaGreat.Cr
open Ve (R at_)
open Gm (G)
open Lp (P)
def bit (b:Bool):Int:=if b then 1 else 0
def mrow (j k:Nat):List Int:=(List.range k).map fun s:Nat=>bit (Co.has ((s:Int)+1) j)
theorem Zij (j k:Nat):(mrow j k).length=k:=by simp[mrow]
theorem Zp8 (j k:Nat):mrow j (k+1)=mrow j k++[bit (Co.has ((k:Int)+1) j)]:=by simp[mrow,List.range_succ]
theorem Zwu {j k s:Nat} (h:s<k):(mrow j k).getD s 0=bit (Co.has ((s:Int)+1) j):=by simp[mrow,List.getD_eq_getElem?_getD,h]
theorem Z0i (b:Bool):0≤bit b/\bit b≤1:=by cases b<;>decide
def cost (g:G) (k:Nat):List R:=(List.range k).map fun s:Nat=>(-(g.v.getD (s+1) 0),1)
theorem Zb1 (g:G) (k:Nat):(cost g k).length=k:=by simp[cost]
theorem Zpn (g:G) (k:Nat):cost g (k+1)=cost g k++[(-(g.v.getD (k+1) 0),1)]:=by simp[cost,List.range_succ]
theorem Zrg {g:G} {k s:Nat} (h:s<k):at_ (cost g k) s=(-(g.v.getD (s+1) 0),1):=by simp[cost,at_,List.getD_eq_getElem?_getD,h]
def Zdb (n k:Nat):List (List Int):=(List.range k).map fun j=>mrow j n
theorem Zdn (n k:Nat):(Zdb n k).length=k:=by simp[Zdb]
theorem Zl4 (n k:Nat):Zdb n (k+1)=Zdb n k++[mrow k n]:=by simp[Zdb,List.range_succ]
def Zcs (k:Nat):List Int:=(List.range k).map fun _=>1
theorem Zd2 (k:Nat):(Zcs k).length=k:=by simp[Zcs]
theorem Zly (k:Nat):Zcs (k+1)=Zcs k++[1]:=by simp[Zcs,List.range_succ]
theorem Zlx {k i:Nat} (h:i<k):(Zcs k).getD i 0=1:=by simp[Zcs,List.getD_eq_getElem?_getD,h]
def lp (g:G):P:=⟨Zdb (g.v.length-1) g.n.toNat,Zcs g.n.toNat,cost g (g.v.length-1)⟩
def lp0:P:=⟨[],[],[]⟩
def bal (g:G):P:=if Gm.vld g then lp g else lp0
theorem Zkw {g:G} (h:Gm.vld g=true):bal g=lp g:=if_pos h
theorem Zpc {g:G} (h:Gm.vld g=false):bal g=lp0:=by unfold bal;rw[h];rfl
theorem Zwj {g:G} {j:Nat} (h:j<g.n.toNat):Lp.row (lp g) j=mrow j (g.v.length-1):=by
 simp[Lp.row,lp,Zdb,List.getD_eq_getElem?_getD,h]
theorem Zux (j k:Nat):Lp.small (mrow j k)=true:=by
 unfold Lp.small;rw[List.all_eq_true];intro z hz;unfold mrow at hz;obtain⟨s,_,rfl⟩:=List.mem_map.1 hz;have:=Z0i (Co.has ((s:Int)+1) j);rw[decide_eq_true_iff];omega
theorem Z0x {g:G} (h:Gm.vld g=true):Lp.vldP (lp g)=true:=by
 have hn:=Gm.Zhz h;have hl:=Gm.Zcu h;have h1:Lp.rows (lp g)=true:=by
  unfold Lp.rows;rw[List.all_eq_true];intro j hj;have hj2:j<g.n.toNat:=by simpa [lp,Zdn] using hj
  rw[Zwj hj2,Zux];simp[Zij,lp,Zb1]
 have h2:Lp.small (lp g).B=true:=by
  unfold Lp.small;rw[List.all_eq_true];intro z hz;have:z=1:=by
   have hz':z∈Zcs g.n.toNat:=hz;unfold Zcs at hz';obtain⟨_,_,rfl⟩:=List.mem_map.1 hz';rfl
  subst this
  decide
 have h3:Ve.good (lp g).C=true:=Ve.Zn6 fun k hk=>by
  have hk2:k<g.v.length-1:=by simpa [lp,Zb1] using hk
  show Ve.vld (at_ (cost g (g.v.length-1)) k)=true;rw[Zrg hk2];have:=Gm.Ziy h (k:=k+1) (by omega);exact Ra.Zq5 (by omega) (by omega) (by omega) (by omega) (by simp)
 unfold Lp.vldP;rw[h1,h2,h3];simp[lp,Zb1,Zdn,Zd2];omega
def Z4x (w:List R) (j:Nat):Bool:=Lp.idK (mrow j w.length) w && decide (Lp.idR (mrow j w.length) w=(1,1))
def Z1f (w:List R):Nat->Bool
 | 0=>true
 | k+1=>Z1f w k && Z4x w k
def Zl7 (n:Int) (w:List R):Bool:=decide (1≤n/\n≤5) && decide (w.length=2 ^ n.toNat-1)
def blc (n:Int) (w:List R):Bool:=Zl7 n w && (Lp.nonneg w && Z1f w n.toNat)
def nil_ (n:Int):G:=⟨n,Lp.Zbn (2 ^ n.toNat)⟩
structure Cor where
 code:Int
 point:List R
 weights:List R
def Z3z (g:G) (w:List R):Bool:=Lp.idK (g.v.drop 1) w && decide (0<Py.cmp (Lp.idR (g.v.drop 1) w) (Py.whole (Gm.Zbt g)))
def more (g:G) (w:List R):Bool:=blc g.n w && Z3z g w
def chkC (g:G) (r:Cor):Bool:=Gm.vld g && (if r.code=1 then Py.inC g r.point else if r.code=2 then more g r.weights else false)
open Ve (R at_ val addR addK)
open De (IntB fact)
open Ba (Fr)
def sol (g:G):Lp.Res:=Ta.solve (lp g)
def Ze5 (g:G):R:=addR (Py.whole (Gm.Zbt g)) (sol g).value
def Zjq (g:G):Bool:=addK (Py.whole (Gm.Zbt g)) (sol g).value
def negs (v:List R):List R:=v.map Ta.negR
def Zcf (g:G):R:=addR (at_ (negs (sol g).Y) (g.n.toNat-1)) (Ze5 g)
def Zui (g:G):Bool:=addK (at_ (negs (sol g).Y) (g.n.toNat-1)) (Ze5 g)
def find (g:G):Cor:=
 if Gm.vld g then (if (sol g).status=1/\Zjq g=true then (if (Ze5 g).1<0 then ⟨2,[],(sol g).X⟩ else if Zui g then ⟨1,(negs (sol g).Y).set (g.n.toNat-1) (Zcf g),[]⟩ else ⟨3,[],[]⟩) else ⟨3,[],[]⟩) else ⟨0,[],[]⟩
theorem Zsz {g:G} (h:Gm.vld g=false):find g=⟨0,[],[]⟩:=by unfold find;rw[h];rfl
theorem Zld {g:G} (h:Gm.vld g=true) (h2:(sol g).status≠1):find g=⟨3,[],[]⟩:=by unfold find;rw[if_pos h,if_neg (fun h3=>h2 h3.1)]
theorem Zyw {g:G} (h:Gm.vld g=true) (h2:Zjq g=false):find g=⟨3,[],[]⟩:=by unfold find;rw[if_pos h,if_neg (fun h3=>by rw[h2] at h3;exact absurd h3.2 (by decide))]
theorem Znd {g:G} (h:Gm.vld g=true) (h1:(sol g).status=1) (h2:Zjq g=true) (h3:(Ze5 g).1<0):find g=⟨2,[],(sol g).X⟩:=by unfold find;rw[if_pos h,if_pos ⟨h1,h2⟩,if_pos h3]
theorem find_last {g:G} (h:Gm.vld g=true) (h1:(sol g).status=1) (h2:Zjq g=true) (h3:¬(Ze5 g).1<0) (h4:Zui g=false):find g=⟨3,[],[]⟩:=by unfold find;rw[if_pos h,if_pos ⟨h1,h2⟩,if_neg h3,h4];rfl
theorem Zi6 {g:G} (h:Gm.vld g=true) (h1:(sol g).status=1) (h2:Zjq g=true) (h3:¬(Ze5 g).1<0) (h4:Zui g=true):find g=⟨1,(negs (sol g).Y).set (g.n.toNat-1) (Zcf g),[]⟩:=by unfold find;rw[if_pos h,if_pos ⟨h1,h2⟩,if_neg h3,if_pos h4]
theorem Z1b {g:G} (k:Nat):Ta.sg (lp g) k=1:=by
 unfold Ta.sg;rw[if_neg];show ¬(Zcs g.n.toNat).getD k 0<0
 rcases Nat.lt_or_ge k g.n.toNat with h|h
 ·rw[Zlx h];omega
 ·rw[List.getD_eq_getElem?_getD,List.getElem?_eq_none (by rw[Zd2];exact h)];simp
theorem Zy4 (b:Bool):IntB 1 ((bit b:Int):Rat):=by
 have:=Z0i b;exact⟨bit b,rfl,by omega,by omega⟩
theorem Z3f {g:G} (h:Gm.vld g=true):Ba.Uni (lp g):=by
 have hv:=Z0x h;have eA:(lp g).A.length=g.n.toNat:=Zdn _ _;have eC:(lp g).C.length=g.v.length-1:=Zb1 _ _;intro k hk j hj;rw[Ba.Ztu hv hk];have hk':k<g.n.toNat:=by rw[<-eA];exact hk
 rcases Nat.lt_or_ge j (lp g).C.length with h1|h1
 ·rw[Ba.Zzi hv hk h1,Z1b,Zwj hk',Zwu (by rw[<-eC];exact h1),Int.one_mul]
  exact Zy4 _
 ·rcases Nat.lt_or_ge j ((lp g).C.length+(lp g).A.length) with h2|h2
  ·obtain⟨i,rfl⟩:∃i,j=(lp g).C.length+i:=⟨j-(lp g).C.length,by omega⟩
   rw[Ba.Zte hv hk (by omega)]
   split
   ·exact⟨1,rfl,by omega,by omega⟩
   ·exact⟨0,rfl,by omega,by omega⟩
  ·obtain rfl:j=(lp g).C.length+(lp g).A.length:=by omega
   rw[Ba.Zzj hv hk,Z1b,show (lp g).B.getD k 0=1 from Zlx hk',Int.one_mul];exact⟨1,rfl,by omega,by omega⟩
theorem Z1r {m:Nat} (h:m≤5):fact m≤120:=by
 have h2:m=0\/m=1\/m=2\/m=3\/m=4\/m=5:=by omega
 rcases h2 with rfl|rfl|rfl|rfl|rfl|rfl<;>decide
theorem Zx0 {g:G} (h:Gm.vld g=true) (hs:(sol g).status=1):∃d:Nat,1≤d/\d≤120/\Lp.opt (lp g) (sol g)=true/\(∀j,j<(sol g).X.length->Fr d 120 (at_ (sol g).X j))/\(∀k,k<(sol g).Y.length->Fr d 300000 (at_ (sol g).Y k))/\Fr d 1860000 (sol g).value:=by
 have hv:=Z0x h;have hn:=Gm.Zhz h;have hl:=Gm.Zcu h;have eA:(lp g).A.length=g.n.toNat:=Zdn _ _;have eC:(lp g).C.length=g.v.length-1:=Zb1 _ _;have eB:(lp g).B.length=g.n.toNat:=Zd2 _;have hc:∀j,j<(lp g).C.length->at_ (lp g).C j=(-(g.v.getD (j+1) 0),1)/\-500≤g.v.getD (j+1) 0/\g.v.getD (j+1) 0≤500:=fun j hj=>by
  rw[eC] at hj;exact⟨Zrg hj,Gm.Ziy h (by omega)⟩
 have hb:∀j,j<(lp g).C.length->IntB 500 (val (at_ (lp g).C j)):=fun j hj=>by
  obtain⟨e,b1,b2⟩:=hc j hj;rw[e];exact⟨-(g.v.getD (j+1) 0),Lp.Zg1 _,by omega,by omega⟩
 obtain⟨_,ho,_⟩:=Ba.Zqo hs;obtain⟨D,d0,d1,dX,dY⟩:=Ba.Zsb hs (Z3f h) hb;obtain⟨d,e1,e2,e3⟩:=Ba.Z3c d0 d1;obtain⟨hf,hyl,hd,hdk,hbk,hdv,hvv⟩:=Lp.Zgs ho;obtain⟨_,hxl,hnn,_⟩:=Lp.Zg8 hf;have hf5:fact (lp g).A.length≤120:=Z1r (by omega);have hX:∀j,j<(sol g).X.length->Fr d 120 (at_ (sol g).X j):=fun j hj=>(Fr.of (Lp.Zlw hnn hj).1 e3 (dX j)).mono hf5
 have hY:∀k,k<(sol g).Y.length->Fr d 300000 (at_ (sol g).Y k):=fun k hk=>by
  have hvd:Ve.vld (at_ (sol g).Y k)=true:=by
   obtain⟨_,h2,_,_⟩:=Lp.Zh8 hbk;obtain⟨_,h4⟩:=Lp.Zh4 h2;obtain⟨h6,_,_,h7⟩:=Lp.Zh8 hbk;have hkl:k<(Lp.ir (lp g).B).length:=by rw[Lp.Zp2 h6,h7];exact hk
   have h5:=Ve.Zkt h4 (show k+1≤(Lp.ir (lp g).B).length by omega);rw[Ve.Zfe] at h5;have hm:Ve.mulK (at_ (Lp.ir (lp g).B) k) (at_ (sol g).Y k)=true:=by
    cases h8:Ve.mulK (at_ (Lp.ir (lp g).B) k) (at_ (sol g).Y k)
    ·have h9:=Ve.Zdl (Ve.acc (Lp.ir (lp g).B) (sol g).Y k).1 h8
     have h5':addK (Ve.acc (Lp.ir (lp g).B) (sol g).Y k).1 (Ve.mulR (at_ (Lp.ir (lp g).B) k) (at_ (sol g).Y k))=true:=h5;rw[h9] at h5';cases h5'
    ·rfl
   exact (Ve.Zzc hm).2
  refine (Fr.of hvd e3 (dY k)).mono ?_;have h1:(lp g).A.length≤5:=by omega
  calc (lp g).A.length*(500*fact (lp g).A.length)≤5*(500*120):=Nat.mul_le_mul h1 (Nat.mul_le_mul_left _ hf5)
   _=300000:=by decide
 refine⟨d,e1,by omega,ho,hX,hY,?_⟩;have hval:(sol g).value=Ve.dotR (lp g).C (sol g).X:=hvv.symm;have hvd:Ve.vld (sol g).value=true:=by rw[hval];exact Lp.Zn4 hdk
 refine Fr.of (D:=D) hvd e3 ?_;have hdv2:val (Ve.dotR (lp g).C (sol g).X)=Lp.sm (fun i=>val (at_ (lp g).C i)*val (at_ (sol g).X i)) (lp g).C.length:=Lp.Zn3 hdk;rw[hval,hdv2,<-De.Zma];have hs2:=De.IntB.sum (b:=500*120) (n:=(lp g).C.length) (f:=fun i=>D*(val (at_ (lp g).C i)*val (at_ (sol g).X i))) fun i hi=>by
  rw[show D*(val (at_ (lp g).C i)*val (at_ (sol g).X i))=val (at_ (lp g).C i)*(D*val (at_ (sol g).X i)) by grind];exact (hb i hi).mul ((dX i).mono hf5)
 refine hs2.mono ?_
 calc (lp g).C.length*(500*120)≤31*(500*120):=Nat.mul_le_mul_right _ (by omega)
  _=1860000:=by decide
theorem Zkb {g:G} (h:Gm.vld g=true):-500≤Gm.Zbt g/\Gm.Zbt g≤500:=by
 rw[Gm.Zgn h];exact Gm.Ziy h (by have:=Gm.Zcu h;omega)
theorem Zhb {g:G} (h:Gm.vld g=true) (hs:(sol g).status=1):Zjq g=true/\(0<Py.cmp (Ta.negR (sol g).value) (Py.whole (Gm.Zbt g))↔(Ze5 g).1<0):=by
 obtain⟨d,d1,d2,ho,hX,hY,hV⟩:=Zx0 h hs;have hg:=Zkb h;have hW:Fr d (500*d) (Py.whole (Gm.Zbt g)):=Fr.int (by omega) (by omega) (by omega);have hWd:500*d+1860000≤1000000000:=by omega
 obtain⟨k1,k2⟩:=Fr.add hW hV d1 (by omega) hWd;refine⟨k1,?_⟩;have hvv:=hV.v;have hWv:=hW.v;have hneg:Ta.negR (sol g).value=(-(sol g).value.1,(sol g).value.2):=Ta.Z02 hvv;have hnv:Ve.vld (Ta.negR (sol g).value)=true:=by
  rw[hneg];show Ra.vld (-(sol g).value.1) (sol g).value.2=true;rw[Ra.Zsl];exact hvv
 have hsv:=Lp.val_neg k2.v;have hsum:val (Ze5 g)=val (Py.whole (Gm.Zbt g))+val (sol g).value:=Ve.val_add k1;have h1:(Py.cmp (Py.whole (Gm.Zbt g)) (Ta.negR (sol g).value)<0↔val (Py.whole (Gm.Zbt g))<val (Ta.negR (sol g).value)):=Lp.Zny hWv hnv;have h2:(0<Py.cmp (Ta.negR (sol g).value) (Py.whole (Gm.Zbt g))↔Py.cmp (Py.whole (Gm.Zbt g)) (Ta.negR (sol g).value)<0):=by
  unfold Py.cmp Ra.cmp;have t1:Ra.two (Ta.negR (sol g).value).1 (Ta.negR (sol g).value).2 (Py.whole (Gm.Zbt g)).1 (Py.whole (Gm.Zbt g)).2=true:=by unfold Ra.two;rw[show Ra.vld (Ta.negR (sol g).value).1 (Ta.negR (sol g).value).2=true from hnv,show Ra.vld (Py.whole (Gm.Zbt g)).1 (Py.whole (Gm.Zbt g)).2=true from hWv];rfl
  have t2:Ra.two (Py.whole (Gm.Zbt g)).1 (Py.whole (Gm.Zbt g)).2 (Ta.negR (sol g).value).1 (Ta.negR (sol g).value).2=true:=by unfold Ra.two;rw[show Ra.vld (Ta.negR (sol g).value).1 (Ta.negR (sol g).value).2=true from hnv,show Ra.vld (Py.whole (Gm.Zbt g)).1 (Py.whole (Gm.Zbt g)).2=true from hWv];rfl
  rw[if_pos t1,if_pos t2]
  split<;>split<;>(try split)<;>(try split)<;>omega
 rw[h2,h1];have h3:((Ze5 g).1<0↔val (Ze5 g)<0):=hsv.symm;rw[h3,hsum,Ba.val_neg hvv]
 constructor
 ·intro h;grind
 ·intro h;grind
theorem Z3u {g:G} (h:Gm.vld g=true) (hs:(sol g).status=1):(sol g).Y.length=g.n.toNat:=by
 obtain⟨_,_,_,ho,_⟩:=Zx0 h hs;obtain⟨_,hyl,_⟩:=Lp.Zgs ho;rw[hyl];exact Zd2 _
end Go.Proofs.YtjfnleilddgjiaaGreat.Cr
namespace Go.Proofs.YtjfnleilddgjiaaGreat
open Go.RowKit
open Ve (R)
open Cr (Cor)
def Z4b (r:Cor):Prop:=r.point.length≤9223372036854775807/\r.weights.length≤9223372036854775807
def corN (r:Cor):Nat:=r.point.length+r.weights.length
def Zt4 (r:Cor):Prop:=corN r≤1048576
theorem Zt4.p {r:Cor} (h:Zt4 r):r.point.length≤1048576:=by unfold Zt4 corN at h;omega
theorem Zt4.w {r:Cor} (h:Zt4 r):r.weights.length≤1048576:=by unfold Zt4 corN at h;omega
def CorC (w:World) (x y z:Value) (r:Cor):Prop:=x=.int .i64 r.code/\Zcc w y r.point/\Zcc w z r.weights
def Zu6 (lo hi:Nat) (w:World) (v:Value) (r:Cor):Prop:=∃(y z:Value) (l1 n1 l2 n2:Nat),v=.agg #[.int .i64 r.code,y,z]/\Zkq l1 n1 w y r.point/\Zkq l2 n2 w z r.weights/\(lo≤l1/\n1≤hi/\lo≤l2/\n2≤hi)/\(∀k,l1≤k->k<n1->k<l2\/n2≤k)/\hi≤w.heap.size
theorem CorC.up {w w':World} {x y z:Value} {r:Cor} (h:CorC w x y z r) (hb:Below w.heap.size w w'):CorC w' x y z r:=⟨h.1,h.2.1.up hb,h.2.2.up hb⟩
theorem CorC.one {w:World} {x y z:Value} {r:Cor} (h:CorC w x y z r):x.oneCell'=true/\y.oneCell'=true/\z.oneCell'=true:=by
 obtain⟨rfl,⟨a,c,rfl,_⟩,⟨b,d,rfl,_⟩⟩:=h;exact⟨rfl,rfl,rfl⟩
theorem CorC.rg {w:World} {x y z:Value} {r:Cor} (h:CorC w x y z r):Rg (fun w'=>CorC w' x y z r) 0 w.heap.size w:=
 ⟨h,Nat.le_refl _,fun w' hs hk=>⟨h.1,h.2.1.rg.on w' hs hk,h.2.2.rg.on w' hs hk⟩⟩
theorem Zu6.rg {lo hi:Nat} {w:World} {v:Value} {r:Cor} (h:Zu6 lo hi w v r):Rg (fun w'=>Zu6 lo hi w' v r) lo hi w:=by
 have h0:=h;obtain⟨y,z,l1,n1,l2,n2,rfl,r1,r2,⟨q1,q2,q3,q4⟩,hd,hh⟩:=h;exact⟨h0,hh,fun w' hs hk=>⟨y,z,l1,n1,l2,n2,rfl,r1.rg.on w' hs fun k k1 k2=>hk k (by omega) (by omega),r2.rg.on w' hs fun k k1 k2=>hk k (by omega) (by omega),⟨q1,q2,q3,q4⟩,hd,Nat.le_trans hh hs⟩⟩
theorem Zu6.Zdx {lo hi:Nat} {w:World} {x y z:Value} {r:Cor} (h:Zu6 lo hi w (.agg #[x,y,z]) r):CorC w x y z r:=by
 obtain⟨y',z',l1,n1,l2,n2,e,r1,r2,_⟩:=h;injection e with e
 have e0:x=.int .i64 r.code:=by have:=congrArg (fun q=>q[0]?) e;simpa using this
 have e1:y=y':=by have:=congrArg (fun q=>q[1]?) e;simpa using this
 have e2:z=z':=by have:=congrArg (fun q=>q[2]?) e;simpa using this
 subst e0 e1 e2;exact⟨rfl,r1.reads,r2.reads⟩
def Z37 (r:Cor):Cor:=⟨r.code,Zp7 1 r.point.length,Zp7 (1+2*r.point.length) r.weights.length⟩
def Z46 (r:Cor):Int:=1+2*(r.point.length:Int)+2*(r.weights.length:Int)
end Go.Proofs.YtjfnleilddgjiaaGreat
