/- The parts CrM, CrP. -/
import Derived.Test.YtlohljkfphljgaaGreatPyM
import Derived.Test.YtlohljkfphljgaaGreatGM
import Derived.Test.YtlohljkfphljgaaGreatBaM
import Derived.Test.YtlohljkfphljgaaGreatHBaF
namespace Go.Proofs.YtlohljkfphljgaaGreat.Cr
open Ve (R at_)
open Gm (G)
open Lp (P)
def bit (b:Bool):Int:=if b then 1 else 0
def mrow (j k:Nat):List Int:=(List.range k).map fun s:Nat=>bit (Co.has ((s:Int)+1) j)
theorem Zep (j k:Nat):(mrow j k).length=k:=by simp[mrow]
theorem Zli (j k:Nat):mrow j (k+1)=mrow j k++[bit (Co.has ((k:Int)+1) j)]:=by simp[mrow,List.range_succ]
theorem Z01 {j k s:Nat} (h:s<k):(mrow j k).getD s 0=bit (Co.has ((s:Int)+1) j):=by simp[mrow,List.getD_eq_getElem?_getD,h]
theorem Zzx (b:Bool):0≤bit b/\bit b≤1:=by cases b<;>decide
def cost (g:G) (k:Nat):List R:=(List.range k).map fun s:Nat=>(-(g.v.getD (s+1) 0),1)
theorem Zbj (g:G) (k:Nat):(cost g k).length=k:=by simp[cost]
theorem Zkt (g:G) (k:Nat):cost g (k+1)=cost g k++[(-(g.v.getD (k+1) 0),1)]:=by simp[cost,List.range_succ]
theorem Zqu {g:G} {k s:Nat} (h:s<k):at_ (cost g k) s=(-(g.v.getD (s+1) 0),1):=by simp[cost,at_,List.getD_eq_getElem?_getD,h]
def Zez (n k:Nat):List (List Int):=(List.range k).map fun j=>mrow j n
theorem Zfu (n k:Nat):(Zez n k).length=k:=by simp[Zez]
theorem Zrt (n k:Nat):Zez n (k+1)=Zez n k++[mrow k n]:=by simp[Zez,List.range_succ]
def Zbp (k:Nat):List Int:=(List.range k).map fun _=>1
theorem Zdj (k:Nat):(Zbp k).length=k:=by simp[Zbp]
theorem Zll (k:Nat):Zbp (k+1)=Zbp k++[1]:=by simp[Zbp,List.range_succ]
theorem Zpr {k i:Nat} (h:i<k):(Zbp k).getD i 0=1:=by simp[Zbp,List.getD_eq_getElem?_getD,h]
def lp (g:G):P:=⟨Zez (g.v.length-1) g.n.toNat,Zbp g.n.toNat,cost g (g.v.length-1)⟩
def lp0:P:=⟨[],[],[]⟩
def bal (g:G):P:=if Gm.vld g then lp g else lp0
theorem Zux {g:G} (h:Gm.vld g=true):bal g=lp g:=if_pos h
theorem Z2b {g:G} (h:Gm.vld g=false):bal g=lp0:=by unfold bal;rw[h];rfl
theorem Zsr {g:G} {j:Nat} (h:j<g.n.toNat):Lp.row (lp g) j=mrow j (g.v.length-1):=by
 simp[Lp.row,lp,Zez,List.getD_eq_getElem?_getD,h]
theorem Znd (j k:Nat):Lp.small (mrow j k)=true:=by
 unfold Lp.small;rw[List.all_eq_true];intro z hz;unfold mrow at hz;obtain⟨s,_,rfl⟩:=List.mem_map.1 hz;have:=Zzx (Co.has ((s:Int)+1) j);rw[decide_eq_true_iff];omega
theorem Zvs {g:G} (h:Gm.vld g=true):Lp.vldP (lp g)=true:=by
 have hn:=Gm.Zmq h;have hl:=Gm.Zef h;have h1:Lp.rows (lp g)=true:=by
  unfold Lp.rows;rw[List.all_eq_true];intro j hj;have hj2:j<g.n.toNat:=by simpa [lp,Zfu] using hj
  rw[Zsr hj2,Znd];simp[Zep,lp,Zbj]
 have h2:Lp.small (lp g).B=true:=by
  unfold Lp.small;rw[List.all_eq_true];intro z hz;have:z=1:=by
   have hz':z∈Zbp g.n.toNat:=hz;unfold Zbp at hz';obtain⟨_,_,rfl⟩:=List.mem_map.1 hz';rfl
  subst this
  decide
 have h3:Ve.good (lp g).C=true:=Ve.Zj5 fun k hk=>by
  have hk2:k<g.v.length-1:=by simpa [lp,Zbj] using hk
  show Ve.vld (at_ (cost g (g.v.length-1)) k)=true;rw[Zqu hk2];have:=Gm.Zl5 h (k:=k+1) (by omega);exact Ra.Zl6 (by omega) (by omega) (by omega) (by omega) (by simp)
 unfold Lp.vldP;rw[h1,h2,h3];simp[lp,Zbj,Zfu,Zdj];omega
def Z34 (w:List R) (j:Nat):Bool:=Lp.idK (mrow j w.length) w && decide (Lp.idR (mrow j w.length) w=(1,1))
def Z0n (w:List R):Nat->Bool
 | 0=>true
 | k+1=>Z0n w k && Z34 w k
def Z1n (n:Int) (w:List R):Bool:=decide (1≤n/\n≤5) && decide (w.length=2 ^ n.toNat-1)
def blc (n:Int) (w:List R):Bool:=Z1n n w && (Lp.nonneg w && Z0n w n.toNat)
def nil_ (n:Int):G:=⟨n,Lp.Zbr (2 ^ n.toNat)⟩
structure Cor where
 code:Int
 point:List R
 weights:List R
def Z28 (g:G) (w:List R):Bool:=Lp.idK (g.v.drop 1) w && decide (0<Py.cmp (Lp.idR (g.v.drop 1) w) (Py.whole (Gm.Zga g)))
def more (g:G) (w:List R):Bool:=blc g.n w && Z28 g w
def chkC (g:G) (r:Cor):Bool:=Gm.vld g && (if r.code=1 then Py.inC g r.point else if r.code=2 then more g r.weights else false)
open Ve (R at_ val addR addK)
open De (IntB fact)
open Ba (Fr)
def sol (g:G):Lp.Res:=Ta.solve (lp g)
def Zw5 (g:G):R:=addR (Py.whole (Gm.Zga g)) (sol g).value
def Z2y (g:G):Bool:=addK (Py.whole (Gm.Zga g)) (sol g).value
def negs (v:List R):List R:=v.map Ta.negR
def Zcr (g:G):R:=addR (at_ (negs (sol g).Y) (g.n.toNat-1)) (Zw5 g)
def Z3u (g:G):Bool:=addK (at_ (negs (sol g).Y) (g.n.toNat-1)) (Zw5 g)
def find (g:G):Cor:=
 if Gm.vld g then (if (sol g).status=1/\Z2y g=true then (if (Zw5 g).1<0 then ⟨2,[],(sol g).X⟩ else if Z3u g then ⟨1,(negs (sol g).Y).set (g.n.toNat-1) (Zcr g),[]⟩ else ⟨3,[],[]⟩) else ⟨3,[],[]⟩) else ⟨0,[],[]⟩
theorem Zh7 {g:G} (h:Gm.vld g=true) (h2:(sol g).status≠1):find g=⟨3,[],[]⟩:=by unfold find;rw[if_pos h,if_neg (fun h3=>h2 h3.1)]
theorem Z0m {g:G} (k:Nat):Ta.sg (lp g) k=1:=by
 unfold Ta.sg;rw[if_neg];show ¬(Zbp g.n.toNat).getD k 0<0
 rcases Nat.lt_or_ge k g.n.toNat with h|h
 ·rw[Zpr h];omega
 ·rw[List.getD_eq_getElem?_getD,List.getElem?_eq_none (by rw[Zdj];exact h)];simp
theorem Zyc (b:Bool):IntB 1 ((bit b:Int):Rat):=by
 have:=Zzx b;exact⟨bit b,rfl,by omega,by omega⟩
theorem Z2m {g:G} (h:Gm.vld g=true):Ba.Uni (lp g):=by
 have hv:=Zvs h;have eA:(lp g).A.length=g.n.toNat:=Zfu _ _;have eC:(lp g).C.length=g.v.length-1:=Zbj _ _;intro k hk j hj;rw[Ba.Ztg hv hk];have hk':k<g.n.toNat:=by rw[<-eA];exact hk
 rcases Nat.lt_or_ge j (lp g).C.length with h1|h1
 ·rw[Ba.Zyw hv hk h1,Z0m,Zsr hk',Z01 (by rw[<-eC];exact h1),Int.one_mul]
  exact Zyc _
 ·rcases Nat.lt_or_ge j ((lp g).C.length+(lp g).A.length) with h2|h2
  ·obtain⟨i,rfl⟩:∃i,j=(lp g).C.length+i:=⟨j-(lp g).C.length,by omega⟩
   rw[Ba.Zs0 hv hk (by omega)]
   split
   ·exact⟨1,rfl,by omega,by omega⟩
   ·exact⟨0,rfl,by omega,by omega⟩
  ·obtain rfl:j=(lp g).C.length+(lp g).A.length:=by omega
   rw[Ba.Zyx hv hk,Z0m,show (lp g).B.getD k 0=1 from Zpr hk',Int.one_mul];exact⟨1,rfl,by omega,by omega⟩
theorem Z0v {m:Nat} (h:m≤5):fact m≤120:=by
 have h2:m=0\/m=1\/m=2\/m=3\/m=4\/m=5:=by omega
 rcases h2 with rfl|rfl|rfl|rfl|rfl|rfl<;>decide
theorem Z21 {g:G} (h:Gm.vld g=true) (hs:(sol g).status=1):∃d:Nat,1≤d/\d≤120/\Lp.opt (lp g) (sol g)=true/\(∀j,j<(sol g).X.length->Fr d 120 (at_ (sol g).X j))/\(∀k,k<(sol g).Y.length->Fr d 300000 (at_ (sol g).Y k))/\Fr d 1860000 (sol g).value:=by
 have hv:=Zvs h;have hn:=Gm.Zmq h;have hl:=Gm.Zef h;have eA:(lp g).A.length=g.n.toNat:=Zfu _ _;have eC:(lp g).C.length=g.v.length-1:=Zbj _ _;have eB:(lp g).B.length=g.n.toNat:=Zdj _;have hc:∀j,j<(lp g).C.length->at_ (lp g).C j=(-(g.v.getD (j+1) 0),1)/\-500≤g.v.getD (j+1) 0/\g.v.getD (j+1) 0≤500:=fun j hj=>by
  rw[eC] at hj;exact⟨Zqu hj,Gm.Zl5 h (by omega)⟩
 have hb:∀j,j<(lp g).C.length->IntB 500 (val (at_ (lp g).C j)):=fun j hj=>by
  obtain⟨e,b1,b2⟩:=hc j hj;rw[e];exact⟨-(g.v.getD (j+1) 0),Lp.Zoq _,by omega,by omega⟩
 obtain⟨_,ho,_⟩:=Ba.Zlx hs;obtain⟨D,d0,d1,dX,dY⟩:=Ba.Zr1 hs (Z2m h) hb;obtain⟨d,e1,e2,e3⟩:=Ba.Z2f d0 d1;obtain⟨hf,hyl,hd,hdk,hbk,hdv,hvv⟩:=Lp.Zfr ho;obtain⟨_,hxl,hnn,_⟩:=Lp.Zg8 hf;have hf5:fact (lp g).A.length≤120:=Z0v (by omega);have hX:∀j,j<(sol g).X.length->Fr d 120 (at_ (sol g).X j):=fun j hj=>(Fr.of (Lp.Zlk hnn hj).1 e3 (dX j)).mono hf5
 have hY:∀k,k<(sol g).Y.length->Fr d 300000 (at_ (sol g).Y k):=fun k hk=>by
  have hvd:Ve.vld (at_ (sol g).Y k)=true:=by
   obtain⟨_,h2,_,_⟩:=Lp.Zh9 hbk;obtain⟨_,h4⟩:=Lp.Zh4 h2;obtain⟨h6,_,_,h7⟩:=Lp.Zh9 hbk;have hkl:k<(Lp.ir (lp g).B).length:=by rw[Lp.Zpk h6,h7];exact hk
   have h5:=Ve.Zkj h4 (show k+1≤(Lp.ir (lp g).B).length by omega);rw[Ve.Ze5] at h5;have hm:Ve.mulK (at_ (Lp.ir (lp g).B) k) (at_ (sol g).Y k)=true:=by
    cases h8:Ve.mulK (at_ (Lp.ir (lp g).B) k) (at_ (sol g).Y k)
    ·have h9:=Ve.Zdi (Ve.acc (Lp.ir (lp g).B) (sol g).Y k).1 h8
     have h5':addK (Ve.acc (Lp.ir (lp g).B) (sol g).Y k).1 (Ve.mulR (at_ (Lp.ir (lp g).B) k) (at_ (sol g).Y k))=true:=h5;rw[h9] at h5';cases h5'
    ·rfl
   exact (Ve.Zyn hm).2
  refine (Fr.of hvd e3 (dY k)).mono ?_;have h1:(lp g).A.length≤5:=by omega
  calc (lp g).A.length*(500*fact (lp g).A.length)≤5*(500*120):=Nat.mul_le_mul h1 (Nat.mul_le_mul_left _ hf5)
   _=300000:=by decide
 refine⟨d,e1,by omega,ho,hX,hY,?_⟩;have hval:(sol g).value=Ve.dotR (lp g).C (sol g).X:=hvv.symm;have hvd:Ve.vld (sol g).value=true:=by rw[hval];exact Lp.Znu hdk
 refine Fr.of (D:=D) hvd e3 ?_;have hdv2:val (Ve.dotR (lp g).C (sol g).X)=Lp.sm (fun i=>val (at_ (lp g).C i)*val (at_ (sol g).X i)) (lp g).C.length:=Lp.Zqy hdk;rw[hval,hdv2,<-De.Zlu];have hs2:=De.IntB.sum (b:=500*120) (n:=(lp g).C.length) (f:=fun i=>D*(val (at_ (lp g).C i)*val (at_ (sol g).X i))) fun i hi=>by
  rw[show D*(val (at_ (lp g).C i)*val (at_ (sol g).X i))=val (at_ (lp g).C i)*(D*val (at_ (sol g).X i)) by grind];exact (hb i hi).mul ((dX i).mono hf5)
 refine hs2.mono ?_
 calc (lp g).C.length*(500*120)≤31*(500*120):=Nat.mul_le_mul_right _ (by omega)
  _=1860000:=by decide
theorem Zx6 {g:G} (h:Gm.vld g=true):-500≤Gm.Zga g/\Gm.Zga g≤500:=by
 rw[Gm.Zh8 h];exact Gm.Zl5 h (by have:=Gm.Zef h;omega)
theorem Zzl {g:G} (h:Gm.vld g=true) (hs:(sol g).status=1):(sol g).Y.length=g.n.toNat:=by
 obtain⟨_,_,_,ho,_⟩:=Z21 h hs;obtain⟨_,hyl,_⟩:=Lp.Zfr ho;rw[hyl];exact Zdj _
end Go.Proofs.YtlohljkfphljgaaGreat.Cr
