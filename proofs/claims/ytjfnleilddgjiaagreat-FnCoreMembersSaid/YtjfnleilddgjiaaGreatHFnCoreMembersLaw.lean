/- FnCoreMembers: for every input the law returns true, and each argument reads as it did. -/
import Derived.Test.YtjfnleilddgjiaaGreatHLkCo
import Derived.Test.YtjfnleilddgjiaaGreatGSh
import Derived.Test.YtjfnleilddgjiaaGreatHPyO
import Derived.Test.YtjfnleilddgjiaaGreatCrF
import Derived.Test.YtjfnleilddgjiaaGreatCrG
import Derived.Test.YtjfnleilddgjiaaGreatHGrI
import Derived.Test.YtjfnleilddgjiaaGreatRows
import Derived.ProofKit
import Derived.OpenShut
import Derived.ShutString
import Derived.ChangeOld
import Derived.Deep.DeepHandedRow
set_option maxRecDepth 100000
namespace Go.Proofs.YtjfnleilddgjiaaGreat.Cr
open Ve (R at_ val addR addK)
open Gm (G)
open Lp (P sm)
theorem val_sub {x y:R} (h:Py.subK x y=true):val (Py.subR x y)=val x-val y:=by
 obtain⟨k,f,e1,e2⟩:=Ra.Zei h;have h1:=Ve.Ze0 (Ra.Zdi k).1;have h2:=Ve.Ze0 (x:=y) (Ra.Zdi k).2;unfold val Py.subR;rw[e1,e2];show ((Ra.rn _ _:Int):Rat) / ((Ra.rd _ _:Int):Rat)=_;rw[Ve.Zq4 f,Rat.intCast_sub,Rat.intCast_mul,Rat.intCast_mul,Rat.intCast_mul]
 grind
def tot (x:List R):List Int->Rat
 | []=>0
 | m::r=>val (at_ x m.toNat)+tot x r
theorem Ztz (x:List R) (m:Int):∀l:List Int,tot x (l++[m])=tot x l+val (at_ x m.toNat)
 | []=>by show val (at_ x m.toNat)+0=0+val (at_ x m.toNat);grind
 | k::r=>by show val (at_ x k.toNat)+tot x (r++[m])=val (at_ x k.toNat)+tot x r+val (at_ x m.toNat);rw[Ztz x m r];grind
theorem Zxo {x:List R}:∀(l:List Int) (acc:R),(Py.run x acc l).2=true->val (Py.run x acc l).1=val acc+tot x l
 | [],acc,_=>by show val acc=val acc+0;grind
 | m::r,acc,h=>by
  by_cases h1:0≤m/\m<x.length
  ·rcases h2:addK acc (at_ x m.toNat) with _|_
   ·unfold Py.run at h
    rw[if_pos h1,h2] at h;cases h
   ·have e:Py.run x acc (m::r)=Py.run x (addR acc (at_ x m.toNat)) r:=by
     rw[Py.run,if_pos h1,h2];rfl
    rw[e] at h ⊢;rw[Zxo r _ h,Ve.val_add h2];show _=val acc+(val (at_ x m.toNat)+tot x r)
    grind
  ·rw[Py.Zxn h1] at h
   cases h
theorem Zsk (x:List R) (s:Int):∀k:Nat,tot x (Co.mem s k)=sm (fun i=>(bit (Co.has s i):Rat)*val (at_ x i)) k
 | 0=>rfl
 | k+1=>by
  show _=sm (fun i=>(bit (Co.has s i):Rat)*val (at_ x i)) k+(bit (Co.has s k):Rat)*val (at_ x k)
  rcases h:Co.has s k with _|_
  ·rw[Co.Z01 h,Zsk x s k]
   show _=_+((0:Int):Rat)*_
   grind
  ·rw[Co.Zws h,Ztz,Zsk x s k,Int.toNat_natCast]
   show _=_+((1:Int):Rat)*_
   grind
theorem Z0c {x:List R} {i:Nat} (h:x.length≤i):val (at_ x i)=0:=by
 have e:at_ x i=(0,0):=by unfold at_;rw[List.getD_eq_getElem?_getD,List.getElem?_eq_none h];rfl
 rw[e];unfold val
 grind
theorem Zxx {f:Nat->Rat} {n:Nat} (h:∀i,n≤i->f i=0):∀k:Nat,sm f (n+k)=sm f n
 | 0=>rfl
 | k+1=>by
  show sm f (n+k)+f (n+k)=_;rw[Zxx h k,h (n+k) (by omega)]
  grind
theorem Zql {x:List R} {s:Int} (hx:x.length≤5) (h:(Py.share x s).2=true):val (Py.share x s).1=sm (fun i=>(bit (Co.has s i):Rat)*val (at_ x i)) x.length:=by
 rcases hg:Co.good s with _|_
 ·rw[Py.Zoy hg] at h
  cases h
 ·rw[Py.Zio hg] at h ⊢
  rw[Zxo _ _ h,Zsk,Lp.val_zero,<-Zxx (f:=fun i=>(bit (Co.has s i):Rat)*val (at_ x i)) (n:=x.length) (fun i hi=>by show _*val (at_ x i)=0;rw[Z0c hi];grind) (5-x.length),show x.length+(5-x.length)=5 by omega]
  grind
theorem Z1v {l:List R}:∀ {n k:Nat},Py.low l n=true->k<n->(at_ l k).1≤0:=by
 intro n k h hk
 by_cases h0:0<(at_ l k).1
 ·rw[Py.Z0v h0 hk] at h
  cases h
 ·omega
theorem Zpk {g:G} {x:List R} (h:Py.inC g x=true):Gm.vld g=true/\(x.length:Int)=g.n/\sm (fun i=>(bit (Co.has (Py.all g) i):Rat)*val (at_ x i)) x.length=(Gm.Zbt g:Rat)/\∀j,j<g.v.length-1->((g.v.getD (j+1) 0:Int):Rat)≤sm (fun i=>(bit (Co.has ((j:Int)+1) i):Rat)*val (at_ x i)) x.length:=by
 unfold Py.inC at h;rw[Bool.and_eq_true] at h;obtain⟨hp,hf⟩:=Py.Zqc h.1;obtain⟨hv,hn,hs⟩:=Py.Zhp hp;have hb:=Gm.Zhz hv;have hl:=Gm.Zcu hv;have h5:x.length≤5:=by omega
 have hall:val (Py.share x (Py.all g)).1=sm (fun i=>(bit (Co.has (Py.all g) i):Rat)*val (at_ x i)) x.length:=Zql h5 (by rw[hs]);rw[hs] at hall;have hall2:sm (fun i=>(bit (Co.has (Py.all g) i):Rat)*val (at_ x i)) x.length=(Gm.Zbt g:Rat):=by rw[<-hall];exact Lp.Zg1 _
 refine⟨hv,hn,hall2,fun j hj=>?_⟩
 by_cases hlast:j+1=g.v.length - 1
 ·have e:((j:Int)+1)=Py.all g:=by unfold Py.all;omega
  rw[e,hall2,Gm.Zgn hv,hlast];exact Rat.le_refl
 ·have h2:=Py.Zps hf j (by omega)
  have h3:(at_ (Py.lst g x) j).1≤0:=Z1v h.2 (by rw[Py.Zom h.1,Py.Zja];omega);have e3:at_ (Py.lst g x) j=(Py.exc g x ((j:Int)+1)).1:=by
   rw[Py.Zom h.1];have hj2:j<g.v.length-2:=by omega
   simp[Py.pre,at_,List.getD_eq_getElem?_getD,hj2]
  rw[e3] at h3;have hev:=Py.Z1q h2;have e4:Py.exc g x ((j:Int)+1)=Py.Zpq g x (j+1):=by
   have:=Py.Zvw (x:=x) hv (show j+1<g.v.length by omega)
   rwa [show (((j+1:Nat):Int))=(j:Int)+1 by omega] at this
  rw[e4] at h2 h3 hev;have hsh:(Py.share x ((j+1:Nat):Int)).2=true:=by
   rcases hq:(Py.share x ((j+1:Nat):Int)).2 with _|_
   ·rw[Py.Zlc hq] at h2
    cases h2
   ·rfl
  have hsum:=Zql h5 hsh;have hsub:val (Py.Zpq g x (j+1)).1=val (Py.whole (g.v.getD (j+1) 0))-val (Py.share x ((j+1:Nat):Int)).1:=val_sub h2;have hle:val (Py.Zpq g x (j+1)).1≤0:=by
   have:=Lp.Zx9 hev
   grind
  rw[hsub,hsum,show val (Py.whole (g.v.getD (j+1) 0))=((g.v.getD (j+1) 0:Int):Rat) from Lp.Zg1 _,show (((j+1:Nat):Int))=(j:Int)+1 by omega] at hle
  grind
theorem Z1l:∀n:Fin 6,∀k:Fin 5,k.val<n.val->Co.has (((2 ^ n.val:Nat):Int)-1) k.val=true:=by decide +kernel
theorem Zxw (f:Nat->Rat):∀n:Nat,sm (fun i=>- f i) n=- sm f n
 | 0=>by show (0:Rat)=-0;grind
 | n+1=>by show sm (fun i=>- f i) n + - f n=-(sm f n+f n);rw[Zxw f n];grind
theorem Zua {g:G} {x:List R} (h:Py.inC g x=true) (hs:(sol g).status=1):¬(Ze5 g).1<0:=by
 obtain⟨hv,hn,ha,hall⟩:=Zpk h;have hb:=Gm.Zhz hv;obtain⟨d,d1,d2,ho,hX,hY,hV⟩:=Zx0 hv hs;obtain⟨hfe,hyl,hdu,hdk,hik,hdi,hvv⟩:=Lp.Zgs ho;obtain⟨hvp,hxl,hnn,hgi⟩:=Lp.Zg8 hfe;have hrows:=(Lp.Zar hvp).1;have eA:(lp g).A.length=g.n.toNat:=Zdn _ _;have eC:(lp g).C.length=g.v.length-1:=Zb1 _ _;have en:x.length=g.n.toNat:=by omega
 have hw:=Lp.weak (Lp.co (lp g)) (lp g).A.length (lp g).C.length (fun j=>val (at_ (sol g).X j)) (fun i=>- val (at_ x i)) (fun i=>(((lp g).B.getD i 0:Int):Rat)) (fun j=>val (at_ (lp g).C j))
  (fun j hj=>Lp.Znk hnn (by omega)) (fun i hi=>Lp.Zs0 hgi hrows hi) (fun j hj=>by
   have h1:=hall j (by omega);have e1:val (at_ (lp g).C j)=- ((g.v.getD (j+1) 0:Int):Rat):=by
    rw[show at_ (lp g).C j=(-(g.v.getD (j+1) 0),1) from Zrg (by omega),Lp.Zg1,Rat.intCast_neg]
   have e2:sm (fun i=>Lp.co (lp g) i j * - val (at_ x i)) (lp g).A.length=- sm (fun i=>(bit (Co.has ((j:Int)+1) i):Rat)*val (at_ x i)) x.length:=by
    rw[<-Zxw,eA,en];refine Lp.Zcz fun i hi=>?_
    unfold Lp.co;rw[Zwj hi,Zwu (by omega)]
    grind
   rw[e1,e2]
   grind)
 have e3:sm (fun i=>(((lp g).B.getD i 0:Int):Rat) * - val (at_ x i)) (lp g).A.length=- (Gm.Zbt g:Rat):=by
  rw[<-ha,<-Zxw,eA,en];refine Lp.Zcz fun i hi=>?_
  rw[show (lp g).B.getD i 0=1 from Zlx hi,show Co.has (Py.all g) i=true by
   have:=Z1l ⟨g.n.toNat,by omega⟩ ⟨i,by omega⟩ hi;unfold Py.all;rw[Gm.Zmo hv];exact this]
  show ((1:Int):Rat)*_=- (((1:Int):Rat)*_)
  grind
 have e4:sm (fun j=>val (at_ (lp g).C j)*val (at_ (sol g).X j)) (lp g).C.length=val (sol g).value:=by rw[<-hvv,Lp.Zn3 hdk]
 rw[e3,e4] at hw;obtain⟨k1,_⟩:=Zhb hv hs;have hsum:val (Ze5 g)=val (Py.whole (Gm.Zbt g))+val (sol g).value:=Ve.val_add k1;rw[show val (Py.whole (Gm.Zbt g))=(Gm.Zbt g:Rat) from Lp.Zg1 _] at hsum;have hvd:Ve.vld (Ze5 g)=true:=Ve.Zku k1;have:=Lp.val_neg hvd;intro h3;have h4:=this.2 h3;rw[hsum] at h4
 grind
theorem Zvh {g:G} {x:List R} (h:Py.inC g x=true):(find g).code=1\/(find g).code=3:=by
 have hv:=(Zpk h).1
 by_cases h1:(sol g).status=1
 ·have hk:=(Zhb hv h1).1
  have h3:=Zua h h1
  rcases h4:Zui g with _|_
  ·rw[find_last hv h1 hk h3 h4];exact .inr rfl
  ·rw[Zi6 hv h1 hk h3 h4];exact .inl rfl
 ·rw[Zld hv h1];exact .inr rfl
end Go.Proofs.YtjfnleilddgjiaaGreat.Cr
namespace Go.Proofs.YtjfnleilddgjiaaGreat
open Go.RowKit
open Ve (R)
open Gm (G)
open Cr (Cor)
theorem Zvy (a:Int) (p q:Option Addr) (n m c d:Nat) (w:World):(Instr.field 28 (.agg #[.int .i64 a,.slice p n c,.slice q m d]) 0).run Tryz.prog w=.ok (.int .i64 a) w:=by kernel_rfl
set_option maxHeartbeats 8000000 in
theorem fnCoreMembers.Z4y (a:Option Addr) (len cap:Nat) (w:World) (hcode:Zc6 w.heap.size w a len) :
  Calls Tryz.prog 5 #[.slice a len cap] w fun e w'=>e=.returned (.bool true)/\Below w.heap.size w w':=by
 have Hc:=zH hcode;clear hcode
 by_cases hbig:1048576<len
 ·go_enter Tryz.func5,Tryz.ntmps5
  go_wp2_with fail
  refine (Z1m a len cap hbig w).mono ?_;rintro e w1 ⟨rfl,rfl⟩
  go_wp2_with fail
  go_ret;exact⟨rfl,Below.refl _ _⟩
 ·go_enter Tryz.func5,Tryz.ntmps5
  go_wp2_with fail
  refine (Z29 a len cap (by omega) w).mono ?_;rintro e wz ⟨rfl,rfl⟩
  go_wp2_with fail
  refine (Zmg a len cap w Hc.out).mono ?_;rintro e w1 ⟨g,v,u,xs,rfl,hg,hok,-,-,hx,hx5,hb⟩;obtain⟨gn,gv⟩:=g;simp only at hg ⊢;obtain⟨av,cv,rfl⟩:=Zau hg;obtain⟨xa,xc,rfl⟩:=Zdm hx;have hroom:=Ztg hg;have HG0:=zH (GmC.Zhg (g:=⟨gn,gv⟩) (hg.alloc (.cells #[.int .i64 gn,.slice av gv.length cv] 30)));have HX0:=zH (Zzm (hx.alloc (.cells #[.int .i64 gn,.slice av gv.length cv] 30)));have HQ0:=zH (Zad.new w1 #[.int .i64 gn,.slice av gv.length cv] 30);have HB0:=zH (hb.alloc hb.size (.cells #[.int .i64 gn,.slice av gv.length cv] 30));have hMl:Hid (xs.length≤1048576):=by show xs.length≤1048576;omega
  have HF:=zH hok;obtain⟨w2,hw2⟩:∃w2,w1.alloc (.cells #[.int .i64 gn,.slice av gv.length cv] 30)=w2:=⟨_,rfl⟩;obtain⟨q,hq⟩:∃q,w1.heap.size=q:=⟨_,rfl⟩;rw[hw2] at HG0 HX0 HQ0 HB0;rw[hq] at HQ0;have HGX:Hid (GmX w2 (.int .i64 gn) (.slice av gv.length cv) ⟨gn,gv⟩):=⟨HG0.out,fun b n c e=>by injection e with _ _ e3;subst e3;exact hroom⟩;have Hw2:=zH hw2;have Hq:=zH hq;clear hg hok hx hx5 hb hw2 hq hroom;obtain⟨ic,hic⟩:∃ic,Py.inC ⟨gn,gv⟩ xs=ic:=⟨_,rfl⟩;obtain⟨F,hF⟩:∃F,Cr.find ⟨gn,gv⟩=F:=⟨_,rfl⟩;obtain⟨cd,hcd⟩:∃cd,F.code=cd:=⟨_,rfl⟩;have hcode:ic=true->cd=1\/cd=3:=fun h=>by
   rw[<-hcd,<-hF];exact Cr.Zvh (hic.trans h)
  have FI:=zH (fun W' (hb:Below w2.heap.size w2 W')=>(show Calls Tryz.prog 10 #[.agg #[.int .i64 gn,.slice av gv.length cv]] W' (Zj5 F W') from hF▸Zoe (HGX.out.up hb) HF.out));have FS:=zH (fun W' (hb:Below w2.heap.size w2 W')=>(show Calls Tryz.prog 8 #[.agg #[.int .i64 gn,.slice av gv.length cv]] W' (Zj5 F W') from hF▸Zo1 (HGX.out.up hb) HF.out));have CS:=zH (fun W' (hb:Below w2.heap.size w2 W')=>Zsd ic hic (HG0.out.up hb) (HX0.out.up hb) HF.out hMl.out);have Hcode:=zH hcode;have Hcd:=zH hcd;clear hic hF hcd hcode;generalize gv.length=N at *;generalize xs.length=M at *;obtain⟨m0,m1⟩:=two HQ0.out
  go_wp2_with fail
  rw[Hw2.out,Hq.out];refine (FI.out _ (Below.refl _ _)).mono ?_;rintro e w3 ⟨⟨y3,z3,rfl,ho1,ho2,-⟩,k3⟩;rw[Hcd.out];obtain⟨a3,c3,rfl⟩:=Zdm ho1;obtain⟨b3,d3,rfl⟩:=Zdm ho2;generalize F.point.length=n1 at *;generalize F.weights.length=n2 at *;have HR:=zH (Zad.new w3 #[.int .i64 cd,.slice a3 n1 c3,.slice b3 n2 d3] 28);have K4:=zH (k3.alloc k3.size (.cells #[.int .i64 cd,.slice a3 n1 c3,.slice b3 n2 d3] 28));obtain⟨q3,hq3⟩:∃q3,w3.heap.size=q3:=⟨_,rfl⟩;have Hq3:=zH hq3;rw[hq3] at HR;obtain⟨w4,hw4⟩:∃w4,w3.alloc (.cells #[.int .i64 cd,.slice a3 n1 c3,.slice b3 n2 d3] 28)=w4:=⟨_,rfl⟩;have Hw4:=zH hw4;rw[hw4] at HR K4;clear ho1 ho2 k3 hq3 hw4 Hw2 Hq FI;have Cell:=zH (fun w' (h:Below w4.heap.size w4 w')=>(show w'.cell? ⟨q,0,none⟩=some (.int .i64 gn)/\w'.cell? ⟨q,1,none⟩=some (.slice av N cv)/\w'.cell? ⟨q3,0,none⟩=some (.int .i64 cd)/\Below w4.heap.size w4 w' from ⟨(two (HQ0.out.below (K4.out.trans (h.mono K4.out.size)))).1,(two (HQ0.out.below (K4.out.trans (h.mono K4.out.size)))).2,(three (HR.out.below h)).1,h⟩));have up4:=zH (fun W' (h:Below w4.heap.size w4 W')=>K4.out.trans (h.mono K4.out.size));have e1:(cd != cd)=false:=by simp
  have hfld:=Zvy
  go_upto_region 5 with fail
  rw[Hw4.out,Hq3.out];have hb0:Below w4.heap.size w4 w4.drew:=(Below.refl _ _).drew;clear m0 m1;refine Zaf (S:=(fun w'=>w'.cell? ⟨q,0,none⟩=some (.int .i64 gn)/\w'.cell? ⟨q,1,none⟩=some (.slice av N cv)/\w'.cell? ⟨q3,0,none⟩=some (.int .i64 cd)/\Below w4.heap.size w4 w')) 5 (by kernel_rfl) ?_ (fun hHeld=>?_)
  ·exact Cell.out _ hb0
  refine tk2 0 ⟨some 15,_,0,_,_,none⟩ ?_;refine tk2 1 ⟨some 16,_,3,_,_,none⟩ ?_;refine tk2 2 ⟨some 17,_,30,_,_,none⟩ ?_
  try simp only[Act.put,zA,zB,zC]
  refine rd2 3 ⟨some 18,_,28,_,_,none⟩ fun K hK=>?_
  go_simp
  (refine (FS.out _ (up4.out _ hb0)).mono ?_;rintro e w5 ⟨⟨y5,z5,rfl,ho5,ho6,-⟩,k5⟩;obtain⟨a5,c5,rfl⟩:=Zdm ho5;obtain⟨b5,d5,rfl⟩:=Zdm ho6;rw[Hcd.out];have hb5:=hb0.trans (k5.mono hb0.size);clear ho5 ho6)
  refine hK.out _ _ ?_ (fun hHeld=>?_)
  ·exact Cell.out _ hb5
  clear hK K;refine tk2 4 ⟨some 19,_,3,_,_,none⟩ ?_
  try simp only[Act.put,zA,zB,zC]
  refine rd3 5 ⟨some 20,_,4,_,_,none⟩ fun K hK=>?_
  go_simp
  refine hK.out _ _ ?_;clear hK K
  try simp only[Act.put,zA,zB,zC]
  refine Zam (by kernel_rfl) ?_ _;have HB5:=zH hb5;obtain⟨m0,m1,m2,-⟩:=Cell.out _ hb5;clear hb0 hb5 k5 FS hfld
  go_wp2_with fail
  refine (CS.out _ (up4.out _ HB5.out)).mono ?_;rintro e w6 ⟨rfl,k6⟩;have hb6:=HB5.out.trans (k6.mono HB5.out.size);have HB6:=zH (HB0.out.trans ((up4.out _ hb6).mono HB0.out.size));obtain⟨n0,n1,n2,-⟩:=Cell.out _ hb6;clear hb6 k6 m0 m1 m2 CS
  rcases ic with _|_
  ·go_wp2_with fail
   go_ret;exact⟨rfl,HB6.out⟩
  ·rcases Hcode.out rfl with rfl|rfl
   ·go_wp2_with fail
    go_ret;exact⟨rfl,HB6.out⟩
   ·go_wp2_with fail
    go_ret;exact⟨rfl,HB6.out⟩
theorem fnCoreMembers.walk (a:Option Addr) (len cap:Nat) (zs:List Int) (w:World) (h:Zo8 .u8 w.heap.size w a len zs) :
  Calls Tryz.prog 5 #[.slice a len cap] w fun e w'=>e=.returned (.bool true)/\Below w.heap.size w w':=fnCoreMembers.Z4y a len cap w (Z1n h)
end Go.Proofs.YtjfnleilddgjiaaGreat
namespace Go.Proofs.YtjfnleilddgjiaaGreat.fnCoreMembers
open Go.ChangeShapes Go.WideShapes Go.ChangeAt Go.RowKit
open Go.ChangeMaps (open_string shut_string)
theorem own:ownKnob Tryz.prog.godebug=none:=by kernel_rfl
theorem laidOut:laidOutB Tryz.prog=true:=by kernel_rfl
theorem contract (H:Type) (enc:TypeId×Value->H) (W:World) (base:Nat) (args:Array Value) (ds gs:List (DataW H)) (before:List MemPlace)
  (hval:∀(j:Nat) t v,Tryz.f5.params[j]? = some t->args[j]? = some v->Value.okWide Tryz.prog W .any base t v)
  (hW:DataW.Whole enc Tryz.prog Tryz.f5.params.toList Rows.fnCoreMembersSpec.vars false W args.toList ds gs before) :
  Calls Tryz.prog 5 args W fun e W'=>∃v,e=.returned v/\Rows.fnCoreMembersSpec.post enc Tryz.prog Tryz.f5 false true false false W args v W':=by
 have hW':=hW;obtain⟨p,q,hA0,hV,rfl,hfz,hnd⟩:=hW;have hA:DataW.TrodAll enc Tryz.prog W 0 (fun _=>true) true Tryz.f5.params.toList args.toList ds p:=hA0;rw[Tryz.params5] at hA hval;obtain⟨v0,vs0,d0,ds0,p0,q0,hargs,rfl,rfl,h0,r0⟩:=trodAll_cons hA;obtain⟨rfl,rfl,rfl⟩:=trodAll_nil r0;obtain rfl:args=#[v0]:=by cases args;simp_all
 obtain⟨rfl,rfl⟩:=trodVars_none hV;obtain⟨a0,len0,cap0,rfl⟩:=okWide_slice Tryz.underlying37 (hval 0 37 v0 rfl rfl);have k0:=h0;have lt0:∀x∈p0,x.block<W.heap.size:=by obtain⟨m,hm⟩:=k0;exact DataW.trod_lt m _ _ _ hm
 obtain⟨z0,w0⟩:∃zs,Zo8 .u8 W.heap.size W a0 len0 zs:=by
  obtain⟨fuel,hf⟩:=h0
  rcases open_ints Tryz.underlying37 Tryz.underlying5 (by kernel_rfl) hf with ⟨hcs,_⟩ | ⟨x,l,c,zs,hcs,_,hl,hm,hz,_,hcell,hwz⟩
  ·simp[Value.cells] at hcs
   obtain⟨rfl,rfl,rfl⟩:=hcs;exact⟨[],Zrv _ _ _⟩
  ·simp[Value.cells] at hcs
   obtain⟨rfl,rfl,rfl⟩:=hcs;exact⟨zs.take len0,ints_at hl hm (by simpa using hz) hcell hwz⟩
 clear hA0;simp only[List.append_nil] at hW';refine (walk a0 len0 cap0 z0 W w0).mono fun e W' ⟨he,bel⟩=>?_
 subst he;exact⟨_,rfl,_,_,_,[],_,[],hW',trodAll_mk1 (shut_bool Tryz.underlying4 _),(trodAll_cons_mk (Below.trod laidOut (by kernel_rfl) (of_decide_eq_true (by kernel_rfl)) k0 bel lt0) trodAll_mk0),rfl,bel.frame _,fun h=>by cases h⟩
theorem lifted (os:Os) (started:os.Started) (H:Type) (enc:TypeId×Value->H) :
  ReturnsInHanded {} Tryz.checked os 5 .any (Rows.fnCoreMembersSpec.pre6 enc Tryz.prog Tryz.f5 Rows.fnCoreMembersRow.domain false) (Rows.fnCoreMembersSpec.post enc Tryz.prog Tryz.f5 false true false false):=by
 refine returnsInHanded_of_change (C:=Tryz.checked) own started (by kernel_rfl) Tryz.func5
  (ChangeSpec.witness6 (enc:=enc) (C:=Tryz.checked) false ⟨#[],#[.slice none 0 0],[]⟩ 8 (by kernel_rfl) (by kernel_rfl) (by kernel_rfl) (by kernel_rfl)) ?_
 intro W base args ds gs before hval hW _ _;exact contract H enc W base args ds gs before hval hW
theorem said:Rows.FnCoreMembersSaid:=
 OpenClaim.holds_of_wide 5 Tryz.f5 rfl rfl rfl rfl rfl rfl rfl ⟨rfl,rfl,rfl,rfl,rfl⟩ rfl rfl rfl rfl rfl (by kernel_rfl) Tryz.func5 (by kernel_rfl)
  (of_decide_eq_true (by kernel_rfl)) (by unfold Func.isWrapper;first | (rw[if_pos (by decide +kernel)];kernel_rfl) | (rw[if_neg (by decide +kernel)];exact⟨rfl,rfl⟩))
  (fun os started H enc _=>lifted os started H enc)
end Go.Proofs.YtjfnleilddgjiaaGreat.fnCoreMembers
