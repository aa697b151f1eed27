/- The parts CrM, CrP. -/
import Derived.Test.YtjfnleilddgjiaaGreatPyM
import Derived.Test.YtjfnleilddgjiaaGreatGM
import Derived.Test.YtjfnleilddgjiaaGreatBaM
import Derived.Test.YtjfnleilddgjiaaGreatHBaF
namespace Go.Proofs.YtjfnleilddgjiaaGreat.Cr
open Ve (R at_)
open Gm (G)
open Lp (P)
def bit (b:Bool):Int:=if b then 1 else 0
def mrow (j k:Nat):List Int:=(List.range k).map fun s:Nat=>bit (Co.has ((s:Int)+1) j)
theorem mrow_len (j k:Nat):(mrow j k).length=k:=by simp[mrow]
theorem mrow_more (j k:Nat):mrow j (k+1)=mrow j k++[bit (Co.has ((k:Int)+1) j)]:=by simp[mrow,List.range_succ]
theorem mrow_at {j k s:Nat} (h:s<k):(mrow j k).getD s 0=bit (Co.has ((s:Int)+1) j):=by simp[mrow,List.getD_eq_getElem?_getD,h]
theorem bit_bd (b:Bool):0≤bit b∧bit b≤1:=by cases b<;>decide
def cost (g:G) (k:Nat):List R:=(List.range k).map fun s:Nat=>(-(g.v.getD (s+1) 0),1)
theorem cost_len (g:G) (k:Nat):(cost g k).length=k:=by simp[cost]
theorem cost_more (g:G) (k:Nat):cost g (k+1)=cost g k++[(-(g.v.getD (k+1) 0),1)]:=by simp[cost,List.range_succ]
theorem cost_at {g:G} {k s:Nat} (h:s<k):at_ (cost g k) s=(-(g.v.getD (s+1) 0),1):=by simp[cost,at_,List.getD_eq_getElem?_getD,h]
def rowsTo (n k:Nat):List (List Int):=(List.range k).map fun j=>mrow j n
theorem rowsTo_len (n k:Nat):(rowsTo n k).length=k:=by simp[rowsTo]
theorem rowsTo_more (n k:Nat):rowsTo n (k+1)=rowsTo n k++[mrow k n]:=by simp[rowsTo,List.range_succ]
def onesTo (k:Nat):List Int:=(List.range k).map fun _=>1
theorem onesTo_len (k:Nat):(onesTo k).length=k:=by simp[onesTo]
theorem onesTo_more (k:Nat):onesTo (k+1)=onesTo k++[1]:=by simp[onesTo,List.range_succ]
theorem onesTo_at {k i:Nat} (h:i<k):(onesTo k).getD i 0=1:=by simp[onesTo,List.getD_eq_getElem?_getD,h]
def lp (g:G):P:=⟨rowsTo (g.v.length-1) g.n.toNat,onesTo g.n.toNat,cost g (g.v.length-1)⟩
def lp0:P:=⟨[],[],[]⟩
def bal (g:G):P:=if Gm.vld g then lp g else lp0
theorem bal_yes {g:G} (h:Gm.vld g=true):bal g=lp g:=if_pos h
theorem bal_no {g:G} (h:Gm.vld g=false):bal g=lp0:=by unfold bal;rw[h];rfl
theorem lp_row {g:G} {j:Nat} (h:j<g.n.toNat):Lp.row (lp g) j=mrow j (g.v.length-1):=by
 simp[Lp.row,lp,rowsTo,List.getD_eq_getElem?_getD,h]
theorem small_bits (j k:Nat):Lp.small (mrow j k)=true:=by
 unfold Lp.small
 rw[List.all_eq_true]
 intro z hz
 unfold mrow at hz
 obtain⟨s,_,rfl⟩:=List.mem_map.1 hz
 have:=bit_bd (Co.has ((s:Int)+1) j)
 rw[decide_eq_true_iff]
 omega
theorem lp_vld {g:G} (h:Gm.vld g=true):Lp.vldP (lp g)=true:=by
 have hn:=Gm.vld_n h
 have hl:=Gm.vld_len h
 have h1:Lp.rows (lp g)=true:=by
  unfold Lp.rows
  rw[List.all_eq_true]
  intro j hj
  have hj2:j<g.n.toNat:=by simpa [lp,rowsTo_len] using hj
  rw[lp_row hj2,small_bits]
  simp[mrow_len,lp,cost_len]
 have h2:Lp.small (lp g).B=true:=by
  unfold Lp.small
  rw[List.all_eq_true]
  intro z hz
  have:z=1:=by
   have hz':z∈onesTo g.n.toNat:=hz
   unfold onesTo at hz'
   obtain⟨_,_,rfl⟩:=List.mem_map.1 hz'
   rfl
  subst this
  decide
 have h3:Ve.good (lp g).C=true:=Ve.good_all fun k hk=>by
  have hk2:k<g.v.length-1:=by simpa [lp,cost_len] using hk
  show Ve.vld (at_ (cost g (g.v.length-1)) k)=true
  rw[cost_at hk2]
  have:=Gm.vld_at h (k:=k+1) (by omega)
  exact Ra.vld_mk (by omega) (by omega) (by omega) (by omega) (by simp)
 unfold Lp.vldP
 rw[h1,h2,h3]
 simp[lp,cost_len,rowsTo_len,onesTo_len]
 omega
def sumOk (w:List R) (j:Nat):Bool:=Lp.idK (mrow j w.length) w && decide (Lp.idR (mrow j w.length) w=(1,1))
def sumsOk (w:List R):Nat→Bool
 | 0=>true
 | k+1=>sumsOk w k && sumOk w k
def shapeOk (n:Int) (w:List R):Bool:=decide (1≤n∧n≤5) && decide (w.length=2 ^ n.toNat-1)
def blc (n:Int) (w:List R):Bool:=shapeOk n w && (Lp.nonneg w && sumsOk w n.toNat)
def nil_ (n:Int):G:=⟨n,Lp.zerosI (2 ^ n.toNat)⟩
structure Cor where
 code:Int
 point:List R
 weights:List R
def worthK (g:G) (w:List R):Bool:=Lp.idK (g.v.drop 1) w && decide (0<Py.cmp (Lp.idR (g.v.drop 1) w) (Py.whole (Gm.grand g)))
def more (g:G) (w:List R):Bool:=blc g.n w && worthK g w
def chkC (g:G) (r:Cor):Bool:=Gm.vld g && (if r.code=1 then Py.inC g r.point else if r.code=2 then more g r.weights else false)
end Go.Proofs.YtjfnleilddgjiaaGreat.Cr
namespace Go.Proofs.YtjfnleilddgjiaaGreat.Cr
open Ve (R at_ val addR addK)
open Gm (G)
open Lp (P)
open De (IntB fact)
open Ba (Fr)
def sol (g:G):Lp.Res:=Ta.solve (lp g)
def slackR (g:G):R:=addR (Py.whole (Gm.grand g)) (sol g).value
def slackK (g:G):Bool:=addK (Py.whole (Gm.grand g)) (sol g).value
def negs (v:List R):List R:=v.map Ta.negR
def lastR (g:G):R:=addR (at_ (negs (sol g).Y) (g.n.toNat-1)) (slackR g)
def lastK (g:G):Bool:=addK (at_ (negs (sol g).Y) (g.n.toNat-1)) (slackR g)
def find (g:G):Cor:=
 if Gm.vld g then (if (sol g).status=1∧slackK g=true then (if (slackR g).1<0 then ⟨2,[],(sol g).X⟩ else if lastK g then ⟨1,(negs (sol g).Y).set (g.n.toNat-1) (lastR g),[]⟩ else ⟨3,[],[]⟩) else ⟨3,[],[]⟩) else ⟨0,[],[]⟩
theorem find_bad {g:G} (h:Gm.vld g=false):find g=⟨0,[],[]⟩:=by unfold find;rw[h];rfl
theorem find_stat {g:G} (h:Gm.vld g=true) (h2:(sol g).status≠1):find g=⟨3,[],[]⟩:=by unfold find;rw[if_pos h,if_neg (fun h3=>h2 h3.1)]
theorem find_fit {g:G} (h:Gm.vld g=true) (h2:slackK g=false):find g=⟨3,[],[]⟩:=by unfold find;rw[if_pos h,if_neg (fun h3=>by rw[h2] at h3;exact absurd h3.2 (by decide))]
theorem find_empty {g:G} (h:Gm.vld g=true) (h1:(sol g).status=1) (h2:slackK g=true) (h3:(slackR g).1<0):find g=⟨2,[],(sol g).X⟩:=by unfold find;rw[if_pos h,if_pos ⟨h1,h2⟩,if_pos h3]
theorem find_last {g:G} (h:Gm.vld g=true) (h1:(sol g).status=1) (h2:slackK g=true) (h3:¬(slackR g).1<0) (h4:lastK g=false):find g=⟨3,[],[]⟩:=by unfold find;rw[if_pos h,if_pos ⟨h1,h2⟩,if_neg h3,h4];rfl
theorem find_point {g:G} (h:Gm.vld g=true) (h1:(sol g).status=1) (h2:slackK g=true) (h3:¬(slackR g).1<0) (h4:lastK g=true):find g=⟨1,(negs (sol g).Y).set (g.n.toNat-1) (lastR g),[]⟩:=by unfold find;rw[if_pos h,if_pos ⟨h1,h2⟩,if_neg h3,if_pos h4]
theorem sg_one {g:G} (k:Nat):Ta.sg (lp g) k=1:=by
 unfold Ta.sg
 rw[if_neg]
 show ¬(onesTo g.n.toNat).getD k 0<0
 rcases Nat.lt_or_ge k g.n.toNat with h|h
 ·rw[onesTo_at h];omega
 ·rw[List.getD_eq_getElem?_getD,List.getElem?_eq_none (by rw[onesTo_len];exact h)];simp
theorem intB_bit (b:Bool):IntB 1 ((bit b:Int):Rat):=by
 have:=bit_bd b
 exact⟨bit b,rfl,by omega,by omega⟩
theorem lp_uni {g:G} (h:Gm.vld g=true):Ba.Uni (lp g):=by
 have hv:=lp_vld h
 have eA:(lp g).A.length=g.n.toNat:=rowsTo_len _ _
 have eC:(lp g).C.length=g.v.length-1:=cost_len _ _
 intro k hk j hj
 rw[Ba.start_en hv hk]
 have hk':k<g.n.toNat:=by rw[←eA];exact hk
 rcases Nat.lt_or_ge j (lp g).C.length with h1|h1
 ·rw[Ba.nums_mat hv hk h1,sg_one,lp_row hk',mrow_at (by rw[←eC];exact h1),Int.one_mul]
  exact intB_bit _
 ·rcases Nat.lt_or_ge j ((lp g).C.length+(lp g).A.length) with h2|h2
  ·obtain⟨i,rfl⟩:∃i,j=(lp g).C.length+i:=⟨j-(lp g).C.length,by omega⟩
   rw[Ba.nums_art hv hk (by omega)]
   split
   ·exact⟨1,rfl,by omega,by omega⟩
   ·exact⟨0,rfl,by omega,by omega⟩
  ·obtain rfl:j=(lp g).C.length+(lp g).A.length:=by omega
   rw[Ba.nums_rhs hv hk,sg_one,show (lp g).B.getD k 0=1 from onesTo_at hk',Int.one_mul]
   exact⟨1,rfl,by omega,by omega⟩
theorem fact_le {m:Nat} (h:m≤5):fact m≤120:=by
 have h2:m=0∨m=1∨m=2∨m=3∨m=4∨m=5:=by omega
 rcases h2 with rfl|rfl|rfl|rfl|rfl|rfl<;>decide
theorem sol_fr {g:G} (h:Gm.vld g=true) (hs:(sol g).status=1):∃d:Nat,1≤d∧d≤120∧Lp.opt (lp g) (sol g)=true∧(∀j,j<(sol g).X.length→Fr d 120 (at_ (sol g).X j))∧(∀k,k<(sol g).Y.length→Fr d 300000 (at_ (sol g).Y k))∧Fr d 1860000 (sol g).value:=by
 have hv:=lp_vld h
 have hn:=Gm.vld_n h
 have hl:=Gm.vld_len h
 have eA:(lp g).A.length=g.n.toNat:=rowsTo_len _ _
 have eC:(lp g).C.length=g.v.length-1:=cost_len _ _
 have eB:(lp g).B.length=g.n.toNat:=onesTo_len _
 have hc:∀j,j<(lp g).C.length→at_ (lp g).C j=(-(g.v.getD (j+1) 0),1)∧-500≤g.v.getD (j+1) 0∧g.v.getD (j+1) 0≤500:=fun j hj=>by
  rw[eC] at hj
  exact⟨cost_at hj,Gm.vld_at h (by omega)⟩
 have hb:∀j,j<(lp g).C.length→IntB 500 (val (at_ (lp g).C j)):=fun j hj=>by
  obtain⟨e,b1,b2⟩:=hc j hj
  rw[e]
  exact⟨-(g.v.getD (j+1) 0),Lp.val_int _,by omega,by omega⟩
 obtain⟨_,ho,_⟩:=Ba.solve_opt hs
 obtain⟨D,d0,d1,dX,dY⟩:=Ba.solve_basic hs (lp_uni h) hb
 obtain⟨d,e1,e2,e3⟩:=Ba.den_of d0 d1
 obtain⟨hf,hyl,hd,hdk,hbk,hdv,hvv⟩:=Lp.opt_parts ho
 obtain⟨_,hxl,hnn,_⟩:=Lp.feas_parts hf
 have hf5:fact (lp g).A.length≤120:=fact_le (by omega)
 have hX:∀j,j<(sol g).X.length→Fr d 120 (at_ (sol g).X j):=fun j hj=>(Fr.of (Lp.nonneg_at hnn hj).1 e3 (dX j)).mono hf5
 have hY:∀k,k<(sol g).Y.length→Fr d 300000 (at_ (sol g).Y k):=fun k hk=>by
  have hvd:Ve.vld (at_ (sol g).Y k)=true:=by
   obtain⟨_,h2,_,_⟩:=Lp.id_yes hbk
   obtain⟨_,h4⟩:=Lp.dot_parts h2
   obtain⟨h6,_,_,h7⟩:=Lp.id_yes hbk
   have hkl:k<(Lp.ir (lp g).B).length:=by rw[Lp.ir_len h6,h7];exact hk
   have h5:=Ve.acc_all h4 (show k+1≤(Lp.ir (lp g).B).length by omega)
   rw[Ve.acc_succ] at h5
   have hm:Ve.mulK (at_ (Lp.ir (lp g).B) k) (at_ (sol g).Y k)=true:=by
    cases h8:Ve.mulK (at_ (Lp.ir (lp g).B) k) (at_ (sol g).Y k)
    ·have h9:=Ve.add_mul_no (Ve.acc (Lp.ir (lp g).B) (sol g).Y k).1 h8
     have h5':addK (Ve.acc (Lp.ir (lp g).B) (sol g).Y k).1 (Ve.mulR (at_ (Lp.ir (lp g).B) k) (at_ (sol g).Y k))=true:=h5
     rw[h9] at h5';cases h5'
    ·rfl
   exact (Ve.mulK_vld hm).2
  refine (Fr.of hvd e3 (dY k)).mono ?_
  have h1:(lp g).A.length≤5:=by omega
  calc (lp g).A.length*(500*fact (lp g).A.length)≤5*(500*120):=Nat.mul_le_mul h1 (Nat.mul_le_mul_left _ hf5)
   _=300000:=by decide
 refine⟨d,e1,by omega,ho,hX,hY,?_⟩
 have hval:(sol g).value=Ve.dotR (lp g).C (sol g).X:=hvv.symm
 have hvd:Ve.vld (sol g).value=true:=by rw[hval];exact Lp.dot_vld hdk
 refine Fr.of (D:=D) hvd e3 ?_
 have hdv2:val (Ve.dotR (lp g).C (sol g).X)=Lp.sm (fun i=>val (at_ (lp g).C i)*val (at_ (sol g).X i)) (lp g).C.length:=Lp.dot_val hdk
 rw[hval,hdv2,←De.sm_left]
 have hs2:=De.IntB.sum (b:=500*120) (n:=(lp g).C.length) (f:=fun i=>D*(val (at_ (lp g).C i)*val (at_ (sol g).X i))) fun i hi=>by
  rw[show D*(val (at_ (lp g).C i)*val (at_ (sol g).X i))=val (at_ (lp g).C i)*(D*val (at_ (sol g).X i)) by grind]
  exact (hb i hi).mul ((dX i).mono hf5)
 refine hs2.mono ?_
 calc (lp g).C.length*(500*120)≤31*(500*120):=Nat.mul_le_mul_right _ (by omega)
  _=1860000:=by decide
theorem grand_bd {g:G} (h:Gm.vld g=true):-500≤Gm.grand g∧Gm.grand g≤500:=by
 rw[Gm.grand_yes h]
 exact Gm.vld_at h (by have:=Gm.vld_len h;omega)
theorem slack_fits {g:G} (h:Gm.vld g=true) (hs:(sol g).status=1):slackK g=true∧(0<Py.cmp (Ta.negR (sol g).value) (Py.whole (Gm.grand g))↔(slackR g).1<0):=by
 obtain⟨d,d1,d2,ho,hX,hY,hV⟩:=sol_fr h hs
 have hg:=grand_bd h
 have hW:Fr d (500*d) (Py.whole (Gm.grand g)):=Fr.int (by omega) (by omega) (by omega)
 have hWd:500*d+1860000≤1000000000:=by omega
 obtain⟨k1,k2⟩:=Fr.add hW hV d1 (by omega) hWd
 refine⟨k1,?_⟩
 have hvv:=hV.v
 have hWv:=hW.v
 have hneg:Ta.negR (sol g).value=(-(sol g).value.1,(sol g).value.2):=Ta.neg_is hvv
 have hnv:Ve.vld (Ta.negR (sol g).value)=true:=by
  rw[hneg]
  show Ra.vld (-(sol g).value.1) (sol g).value.2=true
  rw[Ra.vld_neg]
  exact hvv
 have hsv:=Lp.val_neg k2.v
 have hsum:val (slackR g)=val (Py.whole (Gm.grand g))+val (sol g).value:=Ve.val_add k1
 have h1:(Py.cmp (Py.whole (Gm.grand g)) (Ta.negR (sol g).value)<0↔val (Py.whole (Gm.grand g))<val (Ta.negR (sol g).value)):=Lp.cmp_val hWv hnv
 have h2:(0<Py.cmp (Ta.negR (sol g).value) (Py.whole (Gm.grand g))↔Py.cmp (Py.whole (Gm.grand g)) (Ta.negR (sol g).value)<0):=by
  unfold Py.cmp Ra.cmp
  have t1:Ra.two (Ta.negR (sol g).value).1 (Ta.negR (sol g).value).2 (Py.whole (Gm.grand g)).1 (Py.whole (Gm.grand g)).2=true:=by unfold Ra.two;rw[show Ra.vld (Ta.negR (sol g).value).1 (Ta.negR (sol g).value).2=true from hnv,show Ra.vld (Py.whole (Gm.grand g)).1 (Py.whole (Gm.grand g)).2=true from hWv];rfl
  have t2:Ra.two (Py.whole (Gm.grand g)).1 (Py.whole (Gm.grand g)).2 (Ta.negR (sol g).value).1 (Ta.negR (sol g).value).2=true:=by unfold Ra.two;rw[show Ra.vld (Ta.negR (sol g).value).1 (Ta.negR (sol g).value).2=true from hnv,show Ra.vld (Py.whole (Gm.grand g)).1 (Py.whole (Gm.grand g)).2=true from hWv];rfl
  rw[if_pos t1,if_pos t2]
  split<;>split<;>(try split)<;>(try split)<;>omega
 rw[h2,h1]
 have h3:((slackR g).1<0↔val (slackR g)<0):=hsv.symm
 rw[h3,hsum,Ba.val_neg hvv]
 constructor
 ·intro h;grind
 ·intro h;grind
theorem sol_y {g:G} (h:Gm.vld g=true) (hs:(sol g).status=1):(sol g).Y.length=g.n.toNat:=by
 obtain⟨_,_,_,ho,_⟩:=sol_fr h hs
 obtain⟨_,hyl,_⟩:=Lp.opt_parts ho
 rw[hyl]
 exact onesTo_len _
end Go.Proofs.YtjfnleilddgjiaaGreat.Cr
