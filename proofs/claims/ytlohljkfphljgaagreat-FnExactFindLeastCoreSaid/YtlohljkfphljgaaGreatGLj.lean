/- The parts LpI5, LpI6, LpI7, LpI8, LpI9, LpI10. -/
import Derived.Test.YtlohljkfphljgaaGreatGLp
import Derived.Test.YtlohljkfphljgaaGreatGLi
import Derived.Test.YtlohljkfphljgaaGreatHLeR
import Derived.Maps.Own
import Derived.Maps.OwnOps
import Derived.WideLaws
import Derived.Laws.EntriesVeiled
import Derived.Test.YtlohljkfphljgaaGreatGLq
set_option maxRecDepth 100000
set_option maxHeartbeats 8000000
namespace Go.Proofs.YtlohljkfphljgaaGreat
open Go.RowKit
open Ve (R)
open Lp (P)
theorem Zzq (a b c d:Int):Ra.two a b c d=Ra.two c d a b:=by unfold Ra.two;exact Bool.and_comm _ _
theorem Zr9 (a b c d:Int):decide (Ra.cmp a b c d>0)=!Lp.Zfk (c,d) (a,b):=by
 have e:(Ra.cmp a b c d>0)↔Ra.cmp c d a b<0:=by
  unfold Ra.cmp;rw[Zzq c d a b];cases Ra.two a b c d
  ·simp
  ·simp only[if_true]
   by_cases h1:a*d<c*b
   ·have h2:¬c*b<a*d:=by omega
    simp[h1,h2]
   ·by_cases h2:c*b<a*d
    ·simp[h1,h2]
    ·simp[h1,h2]
 show decide (Ra.cmp a b c d>0)=!decide (¬Ra.cmp c d a b<0);rw[decide_not,Bool.not_not];exact decide_eq_decide.2 e
theorem Zpi (x y:R) (w:World):Calls Tryz.prog 47 #[.agg #[.int .i64 x.1,.int .i64 x.2],.agg #[.int .i64 y.1,.int .i64 y.2]] w fun e w'=>e=.returned (.int .i64 (Ra.cmp x.1 x.2 y.1 y.2))/\Below w.heap.size w w':=Zgm x.1 x.2 y.1 y.2 w
theorem Ze9 (B:Nat) (a b c ya ca:Option Addr) (c1 c2 c3 yc cc:Nat) (p:P) (y cs:List R) (hn:Zbs p) (hvl:Lp.vldP p=true) (hy:y.length≤1048576) (hcl:cs.length=p.C.length) (g:Bool) (hg:Lp.dual p y cs=g) (w:World) (hBw:B≤w.heap.size) (hz:LpIn B w a b c p) (hy1:Zah B w ya y) (hc1:Zah B w ca cs) :
  Calls Tryz.prog 194 #[.agg #[.slice a p.A.length c1,.slice b p.B.length c2,.slice c p.C.length c3],.slice ya y.length yc,.slice ca cs.length cc] w fun e w'=>e=.returned (.bool g)/\Below w.heap.size w w':=by
 have hb:=(Below.refl w.heap.size w).alloc (Nat.le_refl _) (.cells #[.slice a p.A.length c1,.slice b p.B.length c2,.slice c p.C.length c3] 28);have hsz:w.heap.size≤(w.alloc (.cells #[.slice a p.A.length c1,.slice b p.B.length c2,.slice c p.C.length c3] 28)).heap.size:=by rw[Zar];omega
 have Hx:=zH (Tri.new w (.slice a p.A.length c1) (.slice b p.B.length c2) (.slice c p.C.length c3) 28);have Hz:=zH ((hz.mono hBw).below hb);have Hy:=zH ((hy1.mono hBw).below hb);have Hc:=zH ((hc1.mono hBw).below hb);have Hsz:=zH hsz;have HN:=zH hn;have HCL:=zH hcl;have hA:=hn.A;have hC:cs.length≤1048576:=by rw[hcl];exact hn.C
 have Hrow:=zH (fun j (hj:j<cs.length) k (hk:k<p.A.length)=>(show j<(rw_ p.A k).length by have:=(Lp.Zed (Lp.Zas hvl).1 hk).1;rw[show Lp.row p k=rw_ p.A k from rfl] at this;omega));have Hb:=zH hb;have Hg:=zH hg;have Hst:=zH (Since.refl (w.alloc (.cells #[.slice a p.A.length c1,.slice b p.B.length c2,.slice c p.C.length c3] 28)));clear hz hy1 hc1 hb hg hsz hn hvl hcl
 go_enter Tryz.func194,Tryz.ntmps194
 go_wp2_with fail
 generalize hW0:w.alloc (.cells #[.slice a p.A.length c1,.slice b p.B.length c2,.slice c p.C.length c3] 28)=W0 at *
 go_loopw [13] (fun i wr=>∃k:Nat,k≤cs.length/\i=.int .i64 k/\Hid (∀j,j<k->duOk p y cs j=true)/\Hid (Since W0 wr)) (fun i _=>cs.length-(intOf i).toNat)
 case atStart=>exact⟨0,Nat.zero_le _,rfl,fun j hj=>absurd hj (by omega),Hst.out⟩
 case round=>
  obtain⟨k,hk,rfl,hOk,hS⟩:=hrel;have hlow:=hS.out.low.mono Hsz.out
  by_cases hlt:k<cs.length
  ·obtain⟨b2,o2,rfl,hb2,q0,q1⟩:=(Hc.out.below hlow).at k hlt
   have Hbad:=zH (fun (h:duOk p y cs k=false)=>(show false=g from (Zz6 (by rw[<-HCL.out];exact hlt) h).symm.trans Hg.out));have Hgood:=zH (fun (h:duOk p y cs k=true)=>(fun j (hj:j<k+1)=>(show duOk p y cs j=true from by
     by_cases e:j=k
     ·subst e;exact h
     ·exact hOk.out j (by omega))))
   have Hdef:=zH (show duOk p y cs k=(Lp.idK (Lp.col p k) y && Lp.Zfk (Ve.at_ cs k) (Lp.idR (Lp.col p k) y)) from rfl);have hcll:(Lp.col p k).length≤1048576:=by rw[Lp.Zqr];exact hA
   have Hcol:=zH (Hrow.out k hlt);generalize Ve.at_ cs k=z at *;have hSz:=hS.out.alloc (.cells #[.int .i64 z.1,.int .i64 z.2] 31);have HSz:=zH hSz;obtain⟨x0,x1,x2,_⟩:=(Hx.out.below hSz.low).cells;have Hbz:=zH (Zau.new wr z);have hszr:w.heap.size≤(wr.alloc (.cells #[.int .i64 z.1,.int .i64 z.2] 31)).heap.size:=Nat.le_trans Hsz.out hSz.low.size;have hlow2:=hSz.low.mono Hsz.out;have Hzr:=zH (Hz.out.below hlow2);have Hyr:=zH (Hy.out.below hlow2);clear hlow hlow2 hSz
   go_wp2_with fail
   refine (Zn1 w.heap.size a b c c1 c2 c3 p HN.out k Hcol.out _ hszr Hzr.out).mono ?_;rintro e w1 ⟨u,rfl,ho,k1⟩;obtain⟨ua,uc,rfl,hr,hab,_⟩:=Zaw ho;have HU:=zH (Zat.Zcb (B:=w1.heap.size) hr fun q hq=>(hab q hq).2);have hsz1:w.heap.size≤w1.heap.size:=Nat.le_trans hszr k1.size;have Hy1:=zH ((Hyr.out.below (k1.mono hszr)).mono hsz1);have HS1:=zH (HSz.out.trans k1);have Hbz1:=zH (Hbz.out.below k1);clear ho hr hab k1 q0 q1 x0 x1 x2
   go_wp2_with fail
   refine (Zfa w1.heap.size ua ya uc yc (Lp.col p k) y hcll hy _ (Nat.le_refl _) HU.out Hy1.out).mono ?_;rintro e w2 ⟨rfl,k2⟩;generalize duOk p y cs k=ok at *;generalize Lp.idR (Lp.col p k) y=D at *;generalize Lp.idK (Lp.col p k) y=K at *;have hS2:=(HS1.out.trans k2).alloc (.cells #[.int .i64 D.1,.int .i64 D.2] 31);have HS2:=zH hS2;obtain⟨z0,z1,_,_⟩:=((Hbz1.out.below k2).alloc (.cells #[.int .i64 D.1,.int .i64 D.2] 31)).four;obtain⟨m0,m1,_,_⟩:=(Zau.new w2 D).four;clear Hzr Hyr HU Hy1 hS2 k2
   rcases K with _|_
   ·have Hr:=zH (Hbad.out (by rw[Hdef.out];rfl))
    clear Hbad Hgood Hdef
    go_wp2_with fail
    go_ret;exact⟨Zae Hr.out,Hb.out.trans (HS2.out.low.mono Hsz.out)⟩
   ·have Hcmp:=zH (fun w=>Zpi D z w)
    rcases hv:Lp.Zfk z D with _|_
    ·have Hr:=zH (Hbad.out (by rw[Hdef.out,hv];rfl))
     have hdec:decide (Ra.cmp D.1 D.2 z.1 z.2>0)=true:=by rw[Zr9,show ((z.1,z.2):R)=z from rfl,show ((D.1,D.2):R)=D from rfl,hv];rfl
     generalize Ra.cmp D.1 D.2 z.1 z.2=s at *;clear Hbad Hgood Hdef hv
     go_wp2_with fail
     refine (Hcmp.out _).mono ?_;rintro e w3 ⟨rfl,k3⟩;have Hend:=zH (HS2.out.trans k3);clear k3 z0 z1 m0 m1
     go_wp2_with fail
     go_ret;exact⟨Zae Hr.out,Hb.out.trans (Hend.out.low.mono Hsz.out)⟩
    ·have HOk2:=zH (Hgood.out (by rw[Hdef.out,hv];rfl))
     have hdec:decide (Ra.cmp D.1 D.2 z.1 z.2>0)=false:=by rw[Zr9,show ((z.1,z.2):R)=z from rfl,show ((D.1,D.2):R)=D from rfl,hv];rfl
     generalize Ra.cmp D.1 D.2 z.1 z.2=s at *;clear Hbad Hgood Hdef hv
     go_wp2_with fail
     refine (Hcmp.out _).mono ?_;rintro e w3 ⟨rfl,k3⟩;have Hend:=zH (HS2.out.trans k3);clear k3 z0 z1 m0 m1
     go_wp2_with fail
     go_roundw
     case rel=>exact⟨k+1,by omega,by go_num,HOk2,Hend⟩
     case measure=>simp[intOf];omega
  ·have Hr:=zH (show true=g by rw[<-Hg.out];exact (Zu6 fun j hj=>hOk.out j (by have:=HCL.out;omega)).symm)
   go_wp2_with fail
   go_ret;exact⟨Zae Hr.out,Hb.out.trans (hS.out.low.mono Hsz.out)⟩
open Lp (P Res)
theorem Zyy {p:P} {X Y Z:List R} {v:R} {st pv:Int} (hvl:Lp.vldP p=true) :
  Lp.opt p ⟨st,X,Y,Z,v,pv⟩=(solP p X p.B && (Lp.dual p Y p.C && (Ve.dotK p.C X && (Lp.idK p.B Y && (decide (Ve.dotR p.C X=Lp.idR p.B Y) && decide (Ve.dotR p.C X=v)))))):=by
 unfold Lp.opt;rw[Zsf,hvl];simp only[Bool.true_and];cases hk:Lp.idK p.B Y
 ·simp
 ·have:=(Lp.Zh9 hk).2.2.2
  simp[this]
theorem Zya {p:P} {X Y Z:List R} {v:R} {st pv:Int} :
  Lp.inf p ⟨st,X,Y,Z,v,pv⟩=(Lp.idK p.B Y && (decide (0<(Lp.idR p.B Y).1) && Lp.dual p Y (Lp.Za1 p.C.length))):=by
 unfold Lp.inf;simp only;cases hk:Lp.idK p.B Y
 ·simp
 ·have:=(Lp.Zh9 hk).2.2.2
  simp only[this,decide_true,Bool.true_and];exact Bool.and_comm _ _
theorem Zzs {p:P} {X Y Z:List R} {v:R} {st pv:Int} (hvl:Lp.vldP p=true) :
  Lp.unb p ⟨st,X,Y,Z,v,pv⟩=(solP p X p.B && (solP p Z (Lp.Zbr p.B.length) && (Ve.dotK p.C Z && decide ((Ve.dotR p.C Z).1<0)))):=by
 unfold Lp.unb solP;rw[Zsf,hvl];unfold solP;simp only[Bool.true_and,Bool.and_assoc]
def chkV (st:Int) (ra rb rc:Option Addr) (d1 d2 d3:Nat) (X Y Z:List R) (nu de pv:Int):Value:=.agg #[.int .i64 st,.slice ra X.length d1,.slice rb Y.length d2,.slice rc Z.length d3,.int .i64 nu,.int .i64 de,.int .i64 pv]
theorem Zif (B:Nat) (a b c ra rb rc:Option Addr) (c1 c2 c3 d1 d2 d3:Nat) (p:P) (st:Int) (X Y Z:List R) (nu de pv:Int) (hn:Zbs p) (hf:Zdp ⟨st,X,Y,Z,(nu,de),pv⟩) (hvl:Lp.vldP p=true) (g:Bool) (hg:Lp.opt p ⟨st,X,Y,Z,(nu,de),pv⟩=g) (w:World) (hBw:B≤w.heap.size) (hz:LpIn B w a b c p) (hr:Zej B w ra rb rc ⟨st,X,Y,Z,(nu,de),pv⟩) :
  Calls Tryz.prog 155 #[.agg #[.slice a p.A.length c1,.slice b p.B.length c2,.slice c p.C.length c3],.agg #[.int .i64 st,.slice ra X.length d1,.slice rb Y.length d2,.slice rc Z.length d3,.int .i64 nu,.int .i64 de,.int .i64 pv]] w fun e w'=>e=.returned (.bool g)/\Below w.heap.size w w':=by
 obtain⟨n1,n2,n3,_⟩:=hf;rw[Zyy hvl] at hg;simp only at n1 n2 n3;have HX:=zH (Zc7.start w a b c ra rb rc c1 c2 c3 d1 d2 d3 p ⟨st,X,Y,Z,(nu,de),pv⟩ 28 33 hBw hz hr);have hAB:=Zuw hvl;have hC:=hn.C;have hBl:=hn.B;obtain⟨so,hso⟩:∃so,solP p X p.B=so:=⟨_,rfl⟩;obtain⟨du,hdu⟩:∃du,Lp.dual p Y p.C=du:=⟨_,rfl⟩;have Hso:=zH (fun W (h:Zc7 w a b c ra rb rc c1 c2 c3 d1 d2 d3 p ⟨st,X,Y,Z,(nu,de),pv⟩ 28 33 W)=>Zex w.heap.size a b c ra b c1 c2 c3 d1 c2 p X p.B hn n1 hAB hBl so hso W h.1.size h.2.1 h.2.2.1.mX h.2.1.mB);have Hdu:=zH (fun W (h:Zc7 w a b c ra rb rc c1 c2 c3 d1 d2 d3 p ⟨st,X,Y,Z,(nu,de),pv⟩ 28 33 W)=>Ze9 w.heap.size a b c rb c c1 c2 c3 d2 c3 p Y p.C hn hvl n2 rfl du hdu W h.1.size h.2.1 h.2.2.1.mY h.2.1.mC);have Hg:=zH (show (so && (du && (Ve.dotK p.C X && (Lp.idK p.B Y && (decide (Ve.dotR p.C X=Lp.idR p.B Y) && decide (Ve.dotR p.C X=(nu,de)))))))=g from hso▸hdu▸hg);clear hz hr hg hvl hso hdu
 go_enter Tryz.func155,Tryz.ntmps155
 go_wp2_with fail
 refine (Hso.out _ HX.out).mono ?_;rintro e w1 ⟨rfl,k1⟩;have HX1:=zH (HX.out.up k1);obtain⟨x0,x1,x2,_⟩:=HX1.out.2.2.2.1.cells;obtain⟨⟨r0,r1,r2,r3,r4,r5,r6⟩,_⟩:=seven HX1.out.2.2.2.2;clear k1;cases so with
 | false=>
  have Hr:=zH (show false=g by rw[<-Hg.out];rfl)
  go_wp2_with fail
  go_ret;exact⟨Zae Hr.out,HX1.out.1⟩
 | true=>
  go_wp2_with fail
  refine (Hdu.out _ HX1.out).mono ?_;rintro e w2 ⟨rfl,k2⟩;have HX2:=zH (HX1.out.up k2);clear k2 x0 x1 x2 r0 r1 r2 r3 r4 r5 r6;obtain⟨x0,x1,x2,_⟩:=HX2.out.2.2.2.1.cells;obtain⟨⟨r0,r1,r2,r3,r4,r5,r6⟩,_⟩:=seven HX2.out.2.2.2.2;cases du with
  | false=>
   have Hr:=zH (show false=g by rw[<-Hg.out];rfl)
   go_wp2_with fail
   go_ret;exact⟨Zae Hr.out,HX2.out.1⟩
  | true=>
   go_wp2_with fail
   refine (Zhm w.heap.size c ra c3 d1 p.C X hC n1 _ HX2.out.1.size HX2.out.2.1.mC HX2.out.2.2.1.mX).mono ?_;rintro e w3 ⟨rfl,k3⟩;have Hg2:Hid ((Ve.dotK p.C X && (Lp.idK p.B Y && (decide (Ve.dotR p.C X=Lp.idR p.B Y) && decide (Ve.dotR p.C X=(nu,de)))))=g):=Hg.out;generalize Ve.dotR p.C X=D at *;generalize Ve.dotK p.C X=K at *;have hal3:Below w3.heap.size w3 (w3.alloc (.cells #[.int .i64 D.1,.int .i64 D.2] 31)):=(Below.refl _ _).alloc (Nat.le_refl _) _;have HX3:=zH ((HX2.out.up k3).up hal3);have HD3:=zH (Zau.new w3 D);clear k3 hal3 x0 x1 x2 r0 r1 r2 r3 r4 r5 r6 HX2 HX1 HX Hg;obtain⟨x0,x1,x2,_⟩:=HX3.out.2.2.2.1.cells;obtain⟨⟨r0,r1,r2,r3,r4,r5,r6⟩,_⟩:=seven HX3.out.2.2.2.2
   go_wp2_with fail
   refine (Zfa w.heap.size b rb c2 d2 p.B Y hBl n2 _ HX3.out.1.size HX3.out.2.1.mB HX3.out.2.2.1.mY).mono ?_;rintro e w4 ⟨rfl,k4⟩;generalize Lp.idR p.B Y=E at *;generalize Lp.idK p.B Y=L at *;have hal4:Below w4.heap.size w4 (w4.alloc (.cells #[.int .i64 E.1,.int .i64 E.2] 31)):=(Below.refl _ _).alloc (Nat.le_refl _) _;have HX4:=zH ((HX3.out.up k4).up hal4);obtain⟨m0,m1,_,_⟩:=((HD3.out.below k4).alloc (.cells #[.int .i64 E.1,.int .i64 E.2] 31)).four;obtain⟨q0,q1,_,_⟩:=(Zau.new w4 E).four;clear k4 hal4 x0 x1 x2 r0 r1 r2 r3 r4 r5 r6 HX3 HD3;obtain⟨⟨r0,r1,r2,r3,r4,r5,r6⟩,_⟩:=seven HX4.out.2.2.2.2;have heq:=Zk0;have hneq:=Zpq;have hgeq:=Zgj;cases K with
   | false=>
    have Hr:=zH (show false=g by rw[<-Hg2.out];rfl)
    go_wp2_with fail
    go_ret;exact⟨Zae Hr.out,HX4.out.1⟩
   | true=>
    cases L with
    | false=>
     have Hr:=zH (show false=g by rw[<-Hg2.out];rfl)
     go_wp2_with fail
     go_ret;exact⟨Zae Hr.out,HX4.out.1⟩
    | true=>
     rcases hde:(D.1 == E.1 && D.2 == E.2) with _|_
     ·have Hr:=zH (show false=g by
       rw[<-Hg2.out];have:D≠E:=by rintro rfl;simp at hde
       simp[this])
      go_wp2_with fail
      go_ret;exact⟨Zae Hr.out,HX4.out.1⟩
     ·have HDE:=zH (show D=E by
       rw[Bool.and_eq_true,beq_iff_eq,beq_iff_eq] at hde;exact Prod.ext hde.1 hde.2)
      rcases hdv:(D.1 == nu && D.2 == de) with _|_
      ·have Hr:=zH (show false=g by
        rw[<-Hg2.out];have:D≠(nu,de):=by rintro rfl;simp at hdv
        simp[this])
       go_wp2_with fail
       go_ret;exact⟨Zae Hr.out,HX4.out.1⟩
      ·have Hr:=zH (show true=g by
        rw[<-Hg2.out];rw[Bool.and_eq_true,beq_iff_eq,beq_iff_eq] at hdv;have:D=(nu,de):=Prod.ext hdv.1 hdv.2;rw[<-HDE.out,this];simp)
       go_wp2_with fail
       go_ret;exact⟨Zae Hr.out,HX4.out.1⟩
theorem Zje (W:World) (a b c ya A:Option Addr) (c1 c2 c3 yc C:Nat) (p:P) (y:List R) (hn:Zbs p) (hvl:Lp.vldP p=true) (hy:y.length≤1048576) (g:Bool) (hg:Lp.dual p y (Lp.Za1 p.C.length)=g) {n0:Nat} (_h0:n0≤W.heap.size) (hz:LpIn W.heap.size W a b c p) (hy1:Zah W.heap.size W ya y) (hc1:Zah W.heap.size W A (Lp.Za1 p.C.length)) :
  Calls Tryz.prog 194 #[.agg #[.slice a p.A.length c1,.slice b p.B.length c2,.slice c p.C.length c3],.slice ya y.length yc,.slice A (Lp.Za1 p.C.length).length C] W fun e w'=>e=.returned (.bool g)/\Below W.heap.size W w':=
 Ze9 W.heap.size a b c ya A c1 c2 c3 yc C p y (Lp.Za1 p.C.length) hn hvl hy (Zcu _) g hg W (Nat.le_refl _) hz hy1 hc1
theorem Zgo (B:Nat) (a b c ra rb rc:Option Addr) (c1 c2 c3 d1 d2 d3:Nat) (p:P) (st:Int) (X Y Z:List R) (nu de pv:Int) (hn:Zbs p) (hf:Zdp ⟨st,X,Y,Z,(nu,de),pv⟩) (hvl:Lp.vldP p=true) (g:Bool) (hg:Lp.inf p ⟨st,X,Y,Z,(nu,de),pv⟩=g) (w:World) (hBw:B≤w.heap.size) (hz:LpIn B w a b c p) (hr:Zej B w ra rb rc ⟨st,X,Y,Z,(nu,de),pv⟩) :
  Calls Tryz.prog 156 #[.agg #[.slice a p.A.length c1,.slice b p.B.length c2,.slice c p.C.length c3],.agg #[.int .i64 st,.slice ra X.length d1,.slice rb Y.length d2,.slice rc Z.length d3,.int .i64 nu,.int .i64 de,.int .i64 pv]] w fun e w'=>e=.returned (.bool g)/\Below w.heap.size w w':=by
 obtain⟨n1,n2,n3,_⟩:=hf;rw[Zya] at hg;simp only at n1 n2 n3;have HX:=zH (Zc7.start w a b c ra rb rc c1 c2 c3 d1 d2 d3 p ⟨st,X,Y,Z,(nu,de),pv⟩ 28 33 hBw hz hr);have hAB:=Zuw hvl;have hC:=hn.C;have hBl:=hn.B;have hC7:p.C.length≤70:=(Lp.Zas hvl).2.1;obtain⟨du,hdu⟩:∃du,Lp.dual p Y (Lp.Za1 p.C.length)=du:=⟨_,rfl⟩;have Hg:=zH (show (Lp.idK p.B Y && (decide (0<(Lp.idR p.B Y).1) && du))=g from hdu▸hg);have Hd0:=zH (fun W (h:Zc7 w a b c ra rb rc c1 c2 c3 d1 d2 d3 p ⟨st,X,Y,Z,(nu,de),pv⟩ 28 33 W) (A:Option Addr) (C:Nat) hc=>Zje W a b c rb A c1 c2 c3 d2 C p Y hn hvl n2 du hdu h.1.size (h.2.1.mono h.1.size) (h.2.2.1.mY.mono h.1.size) hc);have Hze:=zH (fun W=>Zdr p.C.length (by omega) W);clear hz hr hg hvl hdu
 go_enter Tryz.func156,Tryz.ntmps156
 go_wp2_with fail
 refine (Zfa w.heap.size b rb c2 d2 p.B Y hBl n2 _ HX.out.1.size HX.out.2.1.mB HX.out.2.2.1.mY).mono ?_;rintro e w1 ⟨rfl,k1⟩;have hk2:=HX.out.up k1;obtain⟨L,hs,hk,hk0⟩:=Zn7 (Zfx w a b c ra rb rc c1 c2 c3 d1 d2 d3 p ⟨st,X,Y,Z,(nu,de),pv⟩ 28 33) #[.int .i64 (Lp.idR p.B Y).1,.int .i64 (Lp.idR p.B Y).2] 31 (fun _=>True) (fun _ _ _ h=>h) hk2 trivial;have Hdu:=zH (fun W (hL:L W) (A:Option Addr) (C:Nat) hc=>Hd0.out W (hk W hL).1 A C hc);generalize Lp.Za1 p.C.length=zs at *;generalize Lp.idR p.B Y=D at *;generalize Lp.idK p.B Y=K at *;have LS:=zH hs;have LK:=zH hk;have HL0:=zH hk0;have Cell:=zH (fun w' (h:L w')=>(show w'.cell? ⟨w.heap.size,0,none⟩=some (.slice a p.A.length c1)/\w'.cell? ⟨w.heap.size,1,none⟩=some (.slice b p.B.length c2)/\w'.cell? ⟨w.heap.size,2,none⟩=some (.slice c p.C.length c3)/\w'.cell? ⟨w.heap.size+1,2,none⟩=some (.slice rb Y.length d2)/\w'.cell? ⟨w1.heap.size,0,none⟩=some (.int .i64 D.1)/\L w' from ⟨(hk w' h).1.2.2.2.1.cells.1,(hk w' h).1.2.2.2.1.cells.2.1,(hk w' h).1.2.2.2.1.cells.2.2.1,(seven (hk w' h).1.2.2.2.2).1.2.2.1,(hk w' h).2.1.cell 0,h⟩));clear hs hk hk0 hk2 k1 HX Hd0;obtain⟨x0,x1,x2,r2,q0,_⟩:=Cell.out _ HL0.out;have hin:=LS.out.drew HL0.out
 go_upto_region 2 with fail
 generalize hW3:w1.alloc (.cells #[.int .i64 D.1,.int .i64 D.2] 31)=W3 at *;cases K with
 | false=>
  have Hr:=zH (show false=g by rw[<-Hg.out];rfl);refine wp_region_held_drew (S:=(fun w'=>w'.cell? ⟨w.heap.size,0,none⟩=some (.slice a p.A.length c1)/\w'.cell? ⟨w.heap.size,1,none⟩=some (.slice b p.B.length c2)/\w'.cell? ⟨w.heap.size,2,none⟩=some (.slice c p.C.length c3)/\w'.cell? ⟨w.heap.size+1,2,none⟩=some (.slice rb Y.length d2)/\w'.cell? ⟨w1.heap.size,0,none⟩=some (.int .i64 D.1)/\L w')) (by kernel_rfl) ?_ (fun hHeld=>?_)
  ·exact Cell.out _ hin
  refine tk1 0 ⟨some 15,_,4,_,_,none⟩ ?_;refine tk1 1 ⟨some 16,_,4,_,_,none⟩ ?_
  try simp only[Act.put,zA,zB,zC]
  refine tkHu (i:=2) (oi:=⟨some 17,.fieldAddr 31 (.tmp 5) 0,0,"l05_lp.go:121",#[⟨1,.guard⟩],some (1,true)⟩) rfl (by assumption) ?_
  try simp only[Act.put,zA,zB,zC]
  refine tkHu (i:=3) (oi:=⟨some 18,.load 3 (.tmp 17),3,"l05_lp.go:121",#[⟨2,.data⟩,⟨1,.guard⟩],some (1,true)⟩) rfl (by assumption) ?_
  try simp only[Act.put,zA,zB,zC]
  refine tkHu (i:=4) (oi:=⟨some 19,.binOp .gtr 3 (.tmp 18) (.const (Value.int IntKind.i64 0)) 3,4,"l05_lp.go:121",#[⟨3,.data⟩,⟨1,.guard⟩],some (1,true)⟩) rfl (by assumption) ?_
  refine tk1 5 ⟨some 20,_,4,_,_,none⟩ ?_;refine tk1 6 ⟨some 21,_,4,_,_,none⟩ ?_
  try simp only[Act.put,zA,zB,zC]
  refine tkHu (i:=7) (oi:=⟨some 22,.load 28 (.tmp 2),28,"l05_lp.go:121",#[⟨6,.guard⟩],some (6,true)⟩) rfl (by assumption) ?_
  try simp only[Act.put,zA,zB,zC]
  refine tkHu (i:=8) (oi:=⟨some 23,.fieldAddr 33 (.tmp 3) 2,0,"l05_lp.go:121",#[⟨6,.guard⟩],some (6,true)⟩) rfl (by assumption) ?_
  try simp only[Act.put,zA,zB,zC]
  refine tkHu (i:=9) (oi:=⟨some 24,.load 26 (.tmp 23),26,"l05_lp.go:121",#[⟨8,.data⟩,⟨6,.guard⟩],some (6,true)⟩) rfl (by assumption) ?_
  try simp only[Act.put,zA,zB,zC]
  refine tkHu (i:=10) (oi:=⟨some 25,.fieldAddr 28 (.tmp 2) 2,0,"l05_lp.go:121",#[⟨6,.guard⟩],some (6,true)⟩) rfl (by assumption) ?_
  try simp only[Act.put,zA,zB,zC]
  refine tkHu (i:=11) (oi:=⟨some 26,.load 26 (.tmp 25),26,"l05_lp.go:121",#[⟨10,.data⟩,⟨6,.guard⟩],some (6,true)⟩) rfl (by assumption) ?_
  try simp only[Act.put,zA,zB,zC]
  refine tkHu (i:=12) (oi:=⟨some 27,.call { callee:=.builtin Builtin.len,args:=#[.tmp 26],argTypes:=#[26] },3,"l05_lp.go:121",#[⟨11,.data⟩,⟨6,.guard⟩],some (6,true)⟩) rfl (by assumption) ?_
  try simp only[Act.put,zA,zB,zC]
  refine tkHu (i:=13) (oi:=⟨some 28,.call { callee:=.value (.func 130),args:=#[.tmp 27],argTypes:=#[3] },26,"l05_lp.go:121",#[⟨12,.data⟩,⟨6,.chain⟩,⟨6,.guard⟩],some (6,true)⟩) rfl (by assumption) ?_
  try simp only[Act.put,zA,zB,zC]
  refine tkHu (i:=14) (oi:=⟨some 29,.call { callee:=.value (.func 194),args:=#[.tmp 22,.tmp 24,.tmp 28],argTypes:=#[28,26,26] },4,"l05_lp.go:121",#[⟨7,.data⟩,⟨9,.data⟩,⟨13,.data⟩,⟨13,.chain⟩,⟨6,.guard⟩],some (6,true)⟩) rfl (by assumption) ?_
  refine tk1 15 ⟨some 30,_,4,_,_,none⟩ ?_;refine tk1 16 ⟨some 4,_,4,_,_,none⟩ ?_
  try simp only[Act.put,zA,zB,zC]
  refine wpAnyH_done (by kernel_rfl) ?_ _
  go_wp2_with fail
  go_ret;exact⟨Zae Hr.out,(LK.out _ (by assumption)).1.1⟩
 | true=>
  rcases hd:decide (0<D.1) with _|_
  ·have Hr:=zH (show false=g by rw[<-Hg.out,hd];rfl)
   have hd2:decide (D.1>0)=false:=hd;refine wp_region_held_drew (S:=(fun w'=>w'.cell? ⟨w.heap.size,0,none⟩=some (.slice a p.A.length c1)/\w'.cell? ⟨w.heap.size,1,none⟩=some (.slice b p.B.length c2)/\w'.cell? ⟨w.heap.size,2,none⟩=some (.slice c p.C.length c3)/\w'.cell? ⟨w.heap.size+1,2,none⟩=some (.slice rb Y.length d2)/\w'.cell? ⟨w1.heap.size,0,none⟩=some (.int .i64 D.1)/\L w')) (by kernel_rfl) ?_ (fun hHeld=>?_)
   ·exact Cell.out _ hin
   refine tk1 0 ⟨some 15,_,4,_,_,none⟩ ?_;refine tk1 1 ⟨some 16,_,4,_,_,none⟩ ?_
   try simp only[Act.put,zA,zB,zC]
   refine tk1 2 ⟨some 17,_,0,_,_,some (1,true)⟩ ?_
   try simp only[Act.put,zA,zB,zC]
   refine tk1 3 ⟨some 18,_,3,_,_,some (1,true)⟩ ?_
   try simp only[Act.put,zA,zB,zC]
   refine tk1 4 ⟨some 19,_,4,_,_,some (1,true)⟩ ?_;refine tk1 5 ⟨some 20,_,4,_,_,none⟩ ?_;refine tk1 6 ⟨some 21,_,4,_,_,none⟩ ?_
   try simp only[Act.put,zA,zB,zC]
   refine tkHu (i:=7) (oi:=⟨some 22,.load 28 (.tmp 2),28,"l05_lp.go:121",#[⟨6,.guard⟩],some (6,true)⟩) rfl (by assumption) ?_
   try simp only[Act.put,zA,zB,zC]
   refine tkHu (i:=8) (oi:=⟨some 23,.fieldAddr 33 (.tmp 3) 2,0,"l05_lp.go:121",#[⟨6,.guard⟩],some (6,true)⟩) rfl (by assumption) ?_
   try simp only[Act.put,zA,zB,zC]
   refine tkHu (i:=9) (oi:=⟨some 24,.load 26 (.tmp 23),26,"l05_lp.go:121",#[⟨8,.data⟩,⟨6,.guard⟩],some (6,true)⟩) rfl (by assumption) ?_
   try simp only[Act.put,zA,zB,zC]
   refine tkHu (i:=10) (oi:=⟨some 25,.fieldAddr 28 (.tmp 2) 2,0,"l05_lp.go:121",#[⟨6,.guard⟩],some (6,true)⟩) rfl (by assumption) ?_
   try simp only[Act.put,zA,zB,zC]
   refine tkHu (i:=11) (oi:=⟨some 26,.load 26 (.tmp 25),26,"l05_lp.go:121",#[⟨10,.data⟩,⟨6,.guard⟩],some (6,true)⟩) rfl (by assumption) ?_
   try simp only[Act.put,zA,zB,zC]
   refine tkHu (i:=12) (oi:=⟨some 27,.call { callee:=.builtin Builtin.len,args:=#[.tmp 26],argTypes:=#[26] },3,"l05_lp.go:121",#[⟨11,.data⟩,⟨6,.guard⟩],some (6,true)⟩) rfl (by assumption) ?_
   try simp only[Act.put,zA,zB,zC]
   refine tkHu (i:=13) (oi:=⟨some 28,.call { callee:=.value (.func 130),args:=#[.tmp 27],argTypes:=#[3] },26,"l05_lp.go:121",#[⟨12,.data⟩,⟨6,.chain⟩,⟨6,.guard⟩],some (6,true)⟩) rfl (by assumption) ?_
   try simp only[Act.put,zA,zB,zC]
   refine tkHu (i:=14) (oi:=⟨some 29,.call { callee:=.value (.func 194),args:=#[.tmp 22,.tmp 24,.tmp 28],argTypes:=#[28,26,26] },4,"l05_lp.go:121",#[⟨7,.data⟩,⟨9,.data⟩,⟨13,.data⟩,⟨13,.chain⟩,⟨6,.guard⟩],some (6,true)⟩) rfl (by assumption) ?_
   refine tk1 15 ⟨some 30,_,4,_,_,none⟩ ?_;refine tk1 16 ⟨some 4,_,4,_,_,none⟩ ?_
   try simp only[Act.put,zA,zB,zC]
   refine wpAnyH_done (by kernel_rfl) ?_ _
   go_wp2_with fail
   go_ret;exact⟨Zae Hr.out,(LK.out _ (by assumption)).1.1⟩
  ·have Hr:=zH (show du=g by rw[<-Hg.out,hd];rfl)
   have hd2:decide (D.1>0)=true:=hd;refine wp_region_held_drew (S:=(fun w'=>w'.cell? ⟨w.heap.size,0,none⟩=some (.slice a p.A.length c1)/\w'.cell? ⟨w.heap.size,1,none⟩=some (.slice b p.B.length c2)/\w'.cell? ⟨w.heap.size,2,none⟩=some (.slice c p.C.length c3)/\w'.cell? ⟨w.heap.size+1,2,none⟩=some (.slice rb Y.length d2)/\w'.cell? ⟨w1.heap.size,0,none⟩=some (.int .i64 D.1)/\L w')) (by kernel_rfl) ?_ (fun hHeld=>?_)
   ·exact Cell.out _ hin
   refine tk1 0 ⟨some 15,_,4,_,_,none⟩ ?_;refine tk1 1 ⟨some 16,_,4,_,_,none⟩ ?_
   try simp only[Act.put,zA,zB,zC]
   refine tk1 2 ⟨some 17,_,0,_,_,some (1,true)⟩ ?_
   try simp only[Act.put,zA,zB,zC]
   refine tk1 3 ⟨some 18,_,3,_,_,some (1,true)⟩ ?_
   try simp only[Act.put,zA,zB,zC]
   refine tk1 4 ⟨some 19,_,4,_,_,some (1,true)⟩ ?_;refine tk1 5 ⟨some 20,_,4,_,_,none⟩ ?_;refine tk1 6 ⟨some 21,_,4,_,_,none⟩ ?_
   try simp only[Act.put,zA,zB,zC]
   refine tk1 7 ⟨some 22,_,28,_,_,some (6,true)⟩ ?_
   try simp only[Act.put,zA,zB,zC]
   refine tk1 8 ⟨some 23,_,0,_,_,some (6,true)⟩ ?_
   try simp only[Act.put,zA,zB,zC]
   refine tk1 9 ⟨some 24,_,26,_,_,some (6,true)⟩ ?_
   try simp only[Act.put,zA,zB,zC]
   refine tk1 10 ⟨some 25,_,0,_,_,some (6,true)⟩ ?_
   try simp only[Act.put,zA,zB,zC]
   refine tk1 11 ⟨some 26,_,26,_,_,some (6,true)⟩ ?_
   try simp only[Act.put,zA,zB,zC]
   refine tk1 12 ⟨some 27,_,3,_,_,some (6,true)⟩ ?_
   try simp only[Act.put,zA,zB,zC]
   refine rd1 13 ⟨some 28,_,26,_,_,some (6,true)⟩ fun K hK=>?_
   go_simp
   (go_at_call 130;refine (Za5 LS.out (Zlh (Hze.out _)) (by assumption)).mono ?_;rintro e w' ⟨⟨v,rfl,ho⟩,hk5,hin5⟩;obtain⟨za,zc,rfl,hzr,_,_⟩:=Zai ho)
   refine hK.out _ _ ?_ (fun hHeld=>?_)
   ·exact Cell.out _ (by assumption)
   clear hK K
   try simp only[Act.put,zA,zB,zC]
   refine rd1 14 ⟨some 29,_,4,_,_,some (6,true)⟩ fun K hK=>?_
   go_simp
   (go_at_call 194;refine (Za5 LS.out (Hdu.out _ (by assumption) _ _ (by assumption)) (by assumption)).mono ?_;rintro e w' ⟨rfl,hk6,hin6⟩)
   refine hK.out _ _ ?_ (fun hHeld=>?_)
   ·exact Cell.out _ (by assumption)
   clear hK K;refine tk1 15 ⟨some 30,_,4,_,_,none⟩ ?_;refine tk1 16 ⟨some 4,_,4,_,_,none⟩ ?_
   try simp only[Act.put,zA,zB,zC]
   refine wpAnyH_done (by kernel_rfl) ?_ _
   go_wp2_with fail
   go_ret;exact⟨Zae Hr.out,(LK.out _ (by assumption)).1.1⟩
theorem Zhd (B:Nat) (a b c ra rb rc:Option Addr) (c1 c2 c3 d1 d2 d3:Nat) (p:P) (st:Int) (X Y Z:List R) (nu de pv:Int) (hn:Zbs p) (hf:Zdp ⟨st,X,Y,Z,(nu,de),pv⟩) (hvl:Lp.vldP p=true) (g:Bool) (hg:Lp.unb p ⟨st,X,Y,Z,(nu,de),pv⟩=g) (w:World) (hBw:B≤w.heap.size) (hz:LpIn B w a b c p) (hr:Zej B w ra rb rc ⟨st,X,Y,Z,(nu,de),pv⟩) :
  Calls Tryz.prog 157 #[.agg #[.slice a p.A.length c1,.slice b p.B.length c2,.slice c p.C.length c3],.agg #[.int .i64 st,.slice ra X.length d1,.slice rb Y.length d2,.slice rc Z.length d3,.int .i64 nu,.int .i64 de,.int .i64 pv]] w fun e w'=>e=.returned (.bool g)/\Below w.heap.size w w':=by
 obtain⟨n1,n2,n3,_⟩:=hf;rw[Zzs hvl] at hg;simp only at n1 n2 n3;have HX:=zH (Zc7.start w a b c ra rb rc c1 c2 c3 d1 d2 d3 p ⟨st,X,Y,Z,(nu,de),pv⟩ 28 33 hBw hz hr);have hAB:=Zuw hvl;have hC:=hn.C;have hBl:=hn.B;have hC7:p.C.length≤70:=(Lp.Zas hvl).2.1;obtain⟨i0,hi,hz0,hz1,hz2⟩:=info_parts Zdc;have HI:=zH hi;have HZ0:=zH hz0;have HZ1:=zH hz1;have HZ2:=zH hz2;obtain⟨so,hso⟩:∃so,solP p X p.B=so:=⟨_,rfl⟩;obtain⟨s2,hs2⟩:∃s2,solP p Z (Lp.Zbr p.B.length)=s2:=⟨_,rfl⟩;obtain⟨L,hL⟩:∃L:World->Prop,L=Zc7 w a b c ra rb rc c1 c2 c3 d1 d2 d3 p ⟨st,X,Y,Z,(nu,de),pv⟩ 28 33:=⟨_,rfl⟩;have hs:Stable L:=hL▸Zfx w a b c ra rb rc c1 c2 c3 d1 d2 d3 p ⟨st,X,Y,Z,(nu,de),pv⟩ 28 33;have hk:∀W,L W->Zc7 w a b c ra rb rc c1 c2 c3 d1 d2 d3 p ⟨st,X,Y,Z,(nu,de),pv⟩ 28 33 W:=fun W h=>hL▸h
 have HL0:Hid (L _):=hL▸HX.out;have Hso:=zH (fun W (h:L W)=>Zex w.heap.size a b c ra b c1 c2 c3 d1 c2 p X p.B hn n1 hAB hBl so hso W (hk W h).1.size (hk W h).2.1 (hk W h).2.2.1.mX (hk W h).2.1.mB);have Hs2:=zH (fun W (h:L W) (A:Option Addr) (C:Nat) (h0:Zat W.heap.size W A (Lp.Zbr p.B.length))=>Zc0 p.B.length▸Zex W.heap.size a b c rc A c1 c2 c3 d3 C p Z (Lp.Zbr p.B.length) hn n3 (by rw[Zc0];exact hAB) (by rw[Zc0];exact hBl) s2 hs2 W (Nat.le_refl _) ((hk W h).2.1.mono (hk W h).1.size) ((hk W h).2.2.1.mR.mono (hk W h).1.size) h0);have Hg:=zH (show (so && (s2 && (Ve.dotK p.C Z && decide ((Ve.dotR p.C Z).1<0))))=g from hso▸hs2▸hg);have LS:=zH hs;have LK:=zH hk;have Cell:=zH (fun w' (h:L w')=>(show w'.cell? ⟨w.heap.size,0,none⟩=some (.slice a p.A.length c1)/\w'.cell? ⟨w.heap.size,1,none⟩=some (.slice b p.B.length c2)/\w'.cell? ⟨w.heap.size,2,none⟩=some (.slice c p.C.length c3)/\w'.cell? ⟨w.heap.size+1,1,none⟩=some (.slice ra X.length d1)/\w'.cell? ⟨w.heap.size+1,3,none⟩=some (.slice rc Z.length d3)/\L w' from ⟨(hk w' h).2.2.2.1.cells.1,(hk w' h).2.2.2.1.cells.2.1,(hk w' h).2.2.2.1.cells.2.2.1,(seven (hk w' h).2.2.2.2).1.2.1,(seven (hk w' h).2.2.2.2).1.2.2.2.1,h⟩));clear hz hr hg hvl hso hs2 hi hz0 hz1 hz2 hs hk hL HX
 go_enter Tryz.func157,Tryz.ntmps157
 have hin:=LS.out.drew HL0.out
 go_upto_region 1 with fail
 cases so with
 | false=>
  have Hr:=zH (show false=g by rw[<-Hg.out];rfl);refine wp_region_held_drew (S:=(fun w'=>w'.cell? ⟨w.heap.size,0,none⟩=some (.slice a p.A.length c1)/\w'.cell? ⟨w.heap.size,1,none⟩=some (.slice b p.B.length c2)/\w'.cell? ⟨w.heap.size,2,none⟩=some (.slice c p.C.length c3)/\w'.cell? ⟨w.heap.size+1,1,none⟩=some (.slice ra X.length d1)/\w'.cell? ⟨w.heap.size+1,3,none⟩=some (.slice rc Z.length d3)/\L w')) (by kernel_rfl) ?_ (fun hHeld=>?_)
  ·exact Cell.out _ hin
  refine tk1 0 ⟨some 7,_,28,_,_,none⟩ ?_;refine tk1 1 ⟨some 8,_,0,_,_,none⟩ ?_;refine tk1 2 ⟨some 9,_,26,_,_,none⟩ ?_;refine tk1 3 ⟨some 10,_,0,_,_,none⟩ ?_;refine tk1 4 ⟨some 11,_,25,_,_,none⟩ ?_
  try simp only[Act.put,zA,zB,zC]
  refine rd1 5 ⟨some 12,_,4,_,_,none⟩ fun K hK=>?_
  go_simp
  (go_at_call 169;refine (Za5 LS.out (Hso.out _ (by assumption)) (by assumption)).mono ?_;rintro e w' ⟨rfl,hk5,hin5⟩)
  refine hK.out _ _ ?_ (fun hHeld=>?_)
  ·exact Cell.out _ (by assumption)
  clear hK K;refine tk1 6 ⟨some 13,_,4,_,_,none⟩ ?_;refine tk1 7 ⟨some 14,_,4,_,_,none⟩ ?_
  try simp only[Act.put,zA,zB,zC]
  refine tkHu (i:=8) (oi:=⟨some 15,.load 28 (.tmp 2),28,"l05_lp.go:125",#[⟨7,.guard⟩],some (7,false)⟩) rfl (by assumption) ?_
  try simp only[Act.put,zA,zB,zC]
  refine tkHu (i:=9) (oi:=⟨some 16,.fieldAddr 33 (.tmp 3) 3,0,"l05_lp.go:125",#[⟨7,.guard⟩],some (7,false)⟩) rfl (by assumption) ?_
  try simp only[Act.put,zA,zB,zC]
  refine tkHu (i:=10) (oi:=⟨some 17,.load 26 (.tmp 16),26,"l05_lp.go:125",#[⟨9,.data⟩,⟨7,.guard⟩],some (7,false)⟩) rfl (by assumption) ?_
  try simp only[Act.put,zA,zB,zC]
  refine tkHu (i:=11) (oi:=⟨some 18,.fieldAddr 28 (.tmp 2) 1,0,"l05_lp.go:125",#[⟨7,.guard⟩],some (7,false)⟩) rfl (by assumption) ?_
  try simp only[Act.put,zA,zB,zC]
  refine tkHu (i:=12) (oi:=⟨some 19,.load 25 (.tmp 18),25,"l05_lp.go:125",#[⟨11,.data⟩,⟨7,.guard⟩],some (7,false)⟩) rfl (by assumption) ?_
  try simp only[Act.put,zA,zB,zC]
  refine tkHu (i:=13) (oi:=⟨some 20,.call { callee:=.builtin Builtin.len,args:=#[.tmp 19],argTypes:=#[25] },3,"l05_lp.go:125",#[⟨12,.data⟩,⟨7,.guard⟩],some (7,false)⟩) rfl (by assumption) ?_
  try simp only[Act.put,zA,zB,zC]
  refine tkHu (i:=14) (oi:=⟨some 21,.makeSlice 25 (.tmp 20) (.tmp 20),25,"l05_lp.go:125",#[⟨13,.data⟩,⟨13,.data⟩,⟨7,.guard⟩],some (7,false)⟩) rfl (by assumption) ?_
  try simp only[Act.put,zA,zB,zC]
  refine tkHu (i:=15) (oi:=⟨some 22,.call { callee:=.value (.func 169),args:=#[.tmp 15,.tmp 17,.tmp 21],argTypes:=#[28,26,25] },4,"l05_lp.go:125",#[⟨8,.data⟩,⟨10,.data⟩,⟨14,.data⟩,⟨7,.chain⟩,⟨7,.guard⟩],some (7,false)⟩) rfl (by assumption) ?_
  try simp only[Act.put,zA,zB,zC]
  refine tkHu (i:=16) (oi:=⟨some 23,.unOp .not 4 (.tmp 22),4,"l05_lp.go:125",#[⟨15,.data⟩,⟨7,.guard⟩],some (7,false)⟩) rfl (by assumption) ?_
  refine tk1 17 ⟨some 24,_,4,_,_,none⟩ ?_
  try simp only[Act.put,zA,zB,zC]
  refine wpAnyH_done (by kernel_rfl) ?_ _
  go_wp2_with fail
  go_ret;exact⟨Zae Hr.out,(LK.out _ (by assumption)).1⟩
 | true=>
  cases s2 with
  | false=>
   have Hr:=zH (show false=g by rw[<-Hg.out];rfl);refine wp_region_held_drew (S:=(fun w'=>w'.cell? ⟨w.heap.size,0,none⟩=some (.slice a p.A.length c1)/\w'.cell? ⟨w.heap.size,1,none⟩=some (.slice b p.B.length c2)/\w'.cell? ⟨w.heap.size,2,none⟩=some (.slice c p.C.length c3)/\w'.cell? ⟨w.heap.size+1,1,none⟩=some (.slice ra X.length d1)/\w'.cell? ⟨w.heap.size+1,3,none⟩=some (.slice rc Z.length d3)/\L w')) (by kernel_rfl) ?_ (fun hHeld=>?_)
   ·exact Cell.out _ hin
   refine tk1 0 ⟨some 7,_,28,_,_,none⟩ ?_;refine tk1 1 ⟨some 8,_,0,_,_,none⟩ ?_;refine tk1 2 ⟨some 9,_,26,_,_,none⟩ ?_;refine tk1 3 ⟨some 10,_,0,_,_,none⟩ ?_;refine tk1 4 ⟨some 11,_,25,_,_,none⟩ ?_
   try simp only[Act.put,zA,zB,zC]
   refine rd1 5 ⟨some 12,_,4,_,_,none⟩ fun K hK=>?_
   go_simp
   (go_at_call 169;refine (Za5 LS.out (Hso.out _ (by assumption)) (by assumption)).mono ?_;rintro e w' ⟨rfl,hk5,hin5⟩)
   refine hK.out _ _ ?_ (fun hHeld=>?_)
   ·exact Cell.out _ (by assumption)
   clear hK K;refine tk1 6 ⟨some 13,_,4,_,_,none⟩ ?_;refine tk1 7 ⟨some 14,_,4,_,_,none⟩ ?_
   try simp only[Act.put,zA,zB,zC]
   refine tk1 8 ⟨some 15,_,28,_,_,some (7,false)⟩ ?_
   try simp only[Act.put,zA,zB,zC]
   refine tk1 9 ⟨some 16,_,0,_,_,some (7,false)⟩ ?_
   try simp only[Act.put,zA,zB,zC]
   refine tk1 10 ⟨some 17,_,26,_,_,some (7,false)⟩ ?_
   try simp only[Act.put,zA,zB,zC]
   refine tk1 11 ⟨some 18,_,0,_,_,some (7,false)⟩ ?_
   try simp only[Act.put,zA,zB,zC]
   refine tk1 12 ⟨some 19,_,25,_,_,some (7,false)⟩ ?_
   try simp only[Act.put,zA,zB,zC]
   refine tk1 13 ⟨some 20,_,3,_,_,some (7,false)⟩ ?_
   try simp only[Act.put,zA,zB,zC]
   refine rd1 14 ⟨some 21,_,25,_,_,some (7,false)⟩ fun K hK=>?_
   (refine Zb3 (by kernel_rfl) (.tmp 20) (.tmp 20) 25 rfl _ 3 i0 (.int .i64 0) 1 Tryz.underlying25 HI.out HZ0.out HZ1.out rfl .i64 .i64 _ _ p.B.length rfl rfl rfl rfl (by rw[HZ2.out];omega) (by unfold maxLen;omega) (Nat.le_refl _) ?_;intro w9 hown hgrow;have hin9:=LS.out _ _ (Zdx hgrow) (by assumption:L _);have ho9:=Ze2 hown;obtain⟨zb,zc,hzv,hzr,hza,_⟩:=Zaw ho9;obtain⟨rfl,rfl⟩:=slice_inj hzv;have hzn:=Zat.Zcb (B:=w9.heap.size) hzr fun q hq=>(hza q hq).2;clear hown hgrow ho9 hzr hza hzv)
   refine hK.out _ _ ?_ (fun hHeld=>?_)
   ·exact Cell.out _ (by assumption)
   clear hK K
   try simp only[Act.put,zA,zB,zC]
   refine rd1 15 ⟨some 22,_,4,_,_,some (7,false)⟩ fun K hK=>?_
   go_simp
   (go_at_call 169;refine (Za5 LS.out (Hs2.out _ (by assumption) _ _ (by assumption)) (by assumption)).mono ?_;rintro e w' ⟨rfl,hk7,hin7⟩)
   refine hK.out _ _ ?_ (fun hHeld=>?_)
   ·exact Cell.out _ (by assumption)
   clear hK K
   try simp only[Act.put,zA,zB,zC]
   refine tk1 16 ⟨some 23,_,4,_,_,some (7,false)⟩ ?_;refine tk1 17 ⟨some 24,_,4,_,_,none⟩ ?_
   try simp only[Act.put,zA,zB,zC]
   refine wpAnyH_done (by kernel_rfl) ?_ _
   go_wp2_with fail
   go_ret;exact⟨Zae Hr.out,(LK.out _ (by assumption)).1⟩
  | true=>
   have Hg2:Hid ((Ve.dotK p.C Z && decide ((Ve.dotR p.C Z).1<0))=g):=Hg.out;refine wp_region_held_drew (S:=(fun w'=>w'.cell? ⟨w.heap.size,0,none⟩=some (.slice a p.A.length c1)/\w'.cell? ⟨w.heap.size,1,none⟩=some (.slice b p.B.length c2)/\w'.cell? ⟨w.heap.size,2,none⟩=some (.slice c p.C.length c3)/\w'.cell? ⟨w.heap.size+1,1,none⟩=some (.slice ra X.length d1)/\w'.cell? ⟨w.heap.size+1,3,none⟩=some (.slice rc Z.length d3)/\L w')) (by kernel_rfl) ?_ (fun hHeld=>?_)
   ·exact Cell.out _ hin
   refine tk1 0 ⟨some 7,_,28,_,_,none⟩ ?_;refine tk1 1 ⟨some 8,_,0,_,_,none⟩ ?_;refine tk1 2 ⟨some 9,_,26,_,_,none⟩ ?_;refine tk1 3 ⟨some 10,_,0,_,_,none⟩ ?_;refine tk1 4 ⟨some 11,_,25,_,_,none⟩ ?_
   try simp only[Act.put,zA,zB,zC]
   refine rd1 5 ⟨some 12,_,4,_,_,none⟩ fun K hK=>?_
   go_simp
   (go_at_call 169;refine (Za5 LS.out (Hso.out _ (by assumption)) (by assumption)).mono ?_;rintro e w' ⟨rfl,hk5,hin5⟩)
   refine hK.out _ _ ?_ (fun hHeld=>?_)
   ·exact Cell.out _ (by assumption)
   clear hK K;refine tk1 6 ⟨some 13,_,4,_,_,none⟩ ?_;refine tk1 7 ⟨some 14,_,4,_,_,none⟩ ?_
   try simp only[Act.put,zA,zB,zC]
   refine tk1 8 ⟨some 15,_,28,_,_,some (7,false)⟩ ?_
   try simp only[Act.put,zA,zB,zC]
   refine tk1 9 ⟨some 16,_,0,_,_,some (7,false)⟩ ?_
   try simp only[Act.put,zA,zB,zC]
   refine tk1 10 ⟨some 17,_,26,_,_,some (7,false)⟩ ?_
   try simp only[Act.put,zA,zB,zC]
   refine tk1 11 ⟨some 18,_,0,_,_,some (7,false)⟩ ?_
   try simp only[Act.put,zA,zB,zC]
   refine tk1 12 ⟨some 19,_,25,_,_,some (7,false)⟩ ?_
   try simp only[Act.put,zA,zB,zC]
   refine tk1 13 ⟨some 20,_,3,_,_,some (7,false)⟩ ?_
   try simp only[Act.put,zA,zB,zC]
   refine rd1 14 ⟨some 21,_,25,_,_,some (7,false)⟩ fun K hK=>?_
   (refine Zb3 (by kernel_rfl) (.tmp 20) (.tmp 20) 25 rfl _ 3 i0 (.int .i64 0) 1 Tryz.underlying25 HI.out HZ0.out HZ1.out rfl .i64 .i64 _ _ p.B.length rfl rfl rfl rfl (by rw[HZ2.out];omega) (by unfold maxLen;omega) (Nat.le_refl _) ?_;intro w9 hown hgrow;have hin9:=LS.out _ _ (Zdx hgrow) (by assumption:L _);have ho9:=Ze2 hown;obtain⟨zb,zc,hzv,hzr,hza,_⟩:=Zaw ho9;obtain⟨rfl,rfl⟩:=slice_inj hzv;have hzn:=Zat.Zcb (B:=w9.heap.size) hzr fun q hq=>(hza q hq).2;clear hown hgrow ho9 hzr hza hzv)
   refine hK.out _ _ ?_ (fun hHeld=>?_)
   ·exact Cell.out _ (by assumption)
   clear hK K
   try simp only[Act.put,zA,zB,zC]
   refine rd1 15 ⟨some 22,_,4,_,_,some (7,false)⟩ fun K hK=>?_
   go_simp
   (go_at_call 169;refine (Za5 LS.out (Hs2.out _ (by assumption) _ _ (by assumption)) (by assumption)).mono ?_;rintro e w' ⟨rfl,hk7,hin7⟩)
   refine hK.out _ _ ?_ (fun hHeld=>?_)
   ·exact Cell.out _ (by assumption)
   clear hK K
   try simp only[Act.put,zA,zB,zC]
   refine tk1 16 ⟨some 23,_,4,_,_,some (7,false)⟩ ?_;refine tk1 17 ⟨some 24,_,4,_,_,none⟩ ?_
   try simp only[Act.put,zA,zB,zC]
   refine wpAnyH_done (by kernel_rfl) ?_ _;clear hHeld;have HX1:=zH (LK.out _ (by assumption));obtain⟨x0,x1,x2,_⟩:=HX1.out.2.2.2.1.cells;obtain⟨⟨r0,r1,r2,r3,r4,r5,r6⟩,_⟩:=seven HX1.out.2.2.2.2
   go_wp2_with fail
   refine (Zhm w.heap.size c rc c3 d3 p.C Z hC n3 _ HX1.out.1.size HX1.out.2.1.mC HX1.out.2.2.1.mR).mono ?_;rintro e w3 ⟨rfl,k3⟩;generalize Ve.dotR p.C Z=D at *;generalize Ve.dotK p.C Z=K at *;have hal3:Below w3.heap.size w3 (w3.alloc (.cells #[.int .i64 D.1,.int .i64 D.2] 31)):=(Below.refl _ _).alloc (Nat.le_refl _) _;have HX3:=zH ((HX1.out.up k3).up hal3);obtain⟨q0,q1,_,_⟩:=(Zau.new w3 D).four;clear k3 hal3 x0 x1 x2 r0 r1 r2 r3 r4 r5 r6;cases K with
   | false=>
    have Hr:=zH (show false=g by rw[<-Hg2.out];rfl)
    go_wp2_with fail
    go_ret;exact⟨Zae Hr.out,HX3.out.1⟩
   | true=>
    have Hr:=zH (show decide (D.1<0)=g by rw[<-Hg2.out];rfl)
    go_wp2_with fail
    go_ret;exact⟨Zae Hr.out,HX3.out.1⟩
def asIs (v:Value):Option (DataW Value×List MemPlace):=some (.held v,[])
def Zo1:DataW Value:=.map [(.int .i64 1,.held (.func (.func 155) #[] #[])),(.int .i64 2,.held (.func (.func 156) #[] #[])),(.int .i64 3,.held (.func (.func 157) #[] #[]))]
def Zou (w:World) (b:Nat):Prop:=w.ownsMap Tryz.prog 3 asIs b 3 Zo1
theorem Zou.below {w w':World} {b:Nat} (h:Zou w b) (hb:Below w.heap.size w w'):Zou w' b:=by
 obtain⟨es,cl,h1,h2,h3,h4⟩:=h;exact⟨es,cl,(hb.block b (Array.getElem?_eq_some_iff.1 h1).1).trans h1,h2,h3,h4⟩
theorem Znh (w:World):(zeroValue 112).run Tryz.prog w=.ok .nilFunc w:=by kernel_rfl
theorem Zsy (f:Value):(DataW.nil:DataW Value)≠.held f:=by intro h;cases h
theorem Zkr {w:World} {b:Nat} (h:Zou w b) {st:Int} {f:Value} (hw:(Lit.int .i64 st).wf=true) (hat:∀zd,Zo1.atKey (.int .i64 st) zd=.held f) :
  (Instr.lookup 114 (.map (some b)) (.int .i64 st) true).run Tryz.prog w=.ok (.tuple #[f,.bool true]) w:=by
 obtain⟨es,cl,h1,F,h3,h4⟩:=h
 rcases Maps.fit_look true (Maps.int_keyed Tryz.underlying3) Tryz.underlying114 (Znh w) h1 F (Maps.keyOf_int_mk Tryz.underlying3 hw) with ⟨_,_,hn⟩ | ⟨e0,y,_,_,hrun,hR,ha,_⟩
 ·rw[<-h4] at hn
  have h7:(DataW.nil:DataW Value)=.held f:=(hn .nil).symm.trans (hat .nil);exact absurd h7 (Zsy _)
 ·rw[<-h4] at ha
  have h5:=(ha .nil).symm.trans (hat .nil);unfold asIs at hR;have h6:=Option.some.inj hR;rw[<-h6] at h5;have h7:DataW.held e0.val=.held f:=h5;rw[hrun,DataW.held.inj h7];rfl
theorem Zxp {w:World} {b:Nat} (h:Zou w b) {st:Int} (hw:(Lit.int .i64 st).wf=true) (hat:∀zd,Zo1.atKey (.int .i64 st) zd=zd) :
  (Instr.lookup 114 (.map (some b)) (.int .i64 st) true).run Tryz.prog w=.ok (.tuple #[.nilFunc,.bool false]) w:=by
 obtain⟨es,cl,h1,F,h3,h4⟩:=h
 rcases Maps.fit_look true (Maps.int_keyed Tryz.underlying3) Tryz.underlying114 (Znh w) h1 F (Maps.keyOf_int_mk Tryz.underlying3 hw) with ⟨hrun,_,_⟩ | ⟨e0,y,_,_,hrun,hR,ha,_⟩
 ·rw[hrun];rfl
 ·rw[<-h4] at ha
  have h5:=(ha .nil).symm.trans (hat .nil);unfold asIs at hR;have h6:=Option.some.inj hR;rw[<-h6] at h5;have h7:(DataW.held e0.val:DataW Value)=.nil:=h5;exact absurd h7.symm (Zsy _)
theorem at_one (zd:DataW Value):Zo1.atKey (.int .i64 1) zd=.held (.func (.func 155) #[] #[]):=rfl
theorem Z2a (zd:DataW Value):Zo1.atKey (.int .i64 2) zd=.held (.func (.func 156) #[] #[]):=rfl
theorem Zxo (zd:DataW Value):Zo1.atKey (.int .i64 3) zd=.held (.func (.func 157) #[] #[]):=rfl
theorem Zxn {st:Int} (h1:st≠1) (h2:st≠2) (h3:st≠3) (zd:DataW Value):Zo1.atKey (.int .i64 st) zd=zd:=by
 have e1:(1:Int)≠st:=fun h=>h1 h.symm
 have e2:(2:Int)≠st:=fun h=>h2 h.symm
 have e3:(3:Int)≠st:=fun h=>h3 h.symm
 simp[Zo1,DataW.atKey,Lit.sameKey,e1,e2,e3]
theorem Zbw (w:World):Calls Tryz.prog 79 #[] w fun e w'=>(∃b,e=.returned (.map (some b))/\Zou w' b)/\Below w.heap.size w w':=by
 have m0:(w.alloc (.map #[] 0)).ownsMap Tryz.prog 3 asIs w.heap.size 0 (.map []):=World.ownsMap_made w Tryz.prog 3 asIs;have K:=Maps.int_keyed (P:=Tryz.prog) Tryz.underlying3;obtain⟨w1,r1,m1,g1⟩:=m0.update (val:=.func (.func 155) #[] #[]) K Tryz.underlying114 (by unfold maxLen;omega) (Maps.keyOf_int_mk Tryz.underlying3 (q:=.i64) (a:=1) (by decide)) rfl;obtain⟨w2,r2,m2,g2⟩:=m1.update (val:=.func (.func 156) #[] #[]) K Tryz.underlying114 (by unfold maxLen;omega) (Maps.keyOf_int_mk Tryz.underlying3 (q:=.i64) (a:=2) (by decide)) rfl;obtain⟨w3,r3,m3,g3⟩:=m2.update (val:=.func (.func 157) #[] #[]) K Tryz.underlying114 (by unfold maxLen;omega) (Maps.keyOf_int_mk Tryz.underlying3 (q:=.i64) (a:=3) (by decide)) rfl;have hc:Hid (Zou w3 w.heap.size):=m3;have hl:∀g,some w.heap.size=some g->w.heap.size≤g:=fun g h=>by injection h with h;omega
 have hb:Hid (Below w.heap.size w w3):=
  ((((Below.refl w.heap.size w).alloc (Nat.le_refl _) (.map #[] 0)).grown g1 (by simp) hl).grown g2 (by have:=g1.size;simp at this;omega) hl).grown g3 (by have:=g1.size;have:=g2.size;simp at *;omega) hl
 have hmm:=@run_makeMap Tryz.prog;clear m0 m1 m2 m3 g1 g2 g3 K hl
 go_enter Tryz.func79,Tryz.ntmps79
 go_wp2_with fail
 go_ret;exact⟨⟨_,rfl,hc.out⟩,hb.out⟩
theorem Znz (B:Nat) (a b c ra rb rc:Option Addr) (c1 c2 c3 d1 d2 d3:Nat) (p:P) (st:Int) (X Y Z:List R) (nu de pv:Int) (hw:(Lit.int .i64 st).wf=true) (hn:Zbs p) (hf:Zdp ⟨st,X,Y,Z,(nu,de),pv⟩) (g:Bool) (hg:Lp.chk p ⟨st,X,Y,Z,(nu,de),pv⟩=g) (w:World) (hBw:B≤w.heap.size) (hz:LpIn B w a b c p) (hr:Zej B w ra rb rc ⟨st,X,Y,Z,(nu,de),pv⟩) :
  Calls Tryz.prog 19 #[.agg #[.slice a p.A.length c1,.slice b p.B.length c2,.slice c p.C.length c3],.agg #[.int .i64 st,.slice ra X.length d1,.slice rb Y.length d2,.slice rc Z.length d3,.int .i64 nu,.int .i64 de,.int .i64 pv]] w fun e w'=>e=.returned (.bool g)/\Below w.heap.size w w':=by
 have HX:=zH (Zc7.start w a b c ra rb rc c1 c2 c3 d1 d2 d3 p ⟨st,X,Y,Z,(nu,de),pv⟩ 28 33 hBw hz hr);obtain⟨vl,hvl⟩:∃vl,Lp.vldP p=vl:=⟨_,rfl⟩;have HV:=zH (fun W (hB:w.heap.size≤W.heap.size) h=>hvl▸Zfi w.heap.size a b c c1 c2 c3 p hn W hB h);obtain⟨L,hL⟩:∃L:World->Prop,L=Zc7 w a b c ra rb rc c1 c2 c3 d1 d2 d3 p ⟨st,X,Y,Z,(nu,de),pv⟩ 28 33:=⟨_,rfl⟩;have hs:Stable L:=hL▸Zfx w a b c ra rb rc c1 c2 c3 d1 d2 d3 p ⟨st,X,Y,Z,(nu,de),pv⟩ 28 33;have hk:∀W,L W->Zc7 w a b c ra rb rc c1 c2 c3 d1 d2 d3 p ⟨st,X,Y,Z,(nu,de),pv⟩ 28 33 W:=fun W h=>hL▸h
 have HL0:Hid (L _):=hL▸HX.out;have LS:=zH hs;have LK:=zH hk;have Cell:=zH (fun w' (h:L w')=>(show w'.cell? ⟨w.heap.size+1,0,none⟩=some (.int .i64 st)/\L w' from ⟨(seven (hk w' h).2.2.2.2).1.1,h⟩));have hin:=LS.out.drew HL0.out;clear hz hr hs hk hL HX
 by_cases h1:st=1
 ·skip
  subst h1;have Hp:=zH (fun (h:vl=true) W (hB:w.heap.size≤W.heap.size) hz hr=>Zif w.heap.size a b c ra rb rc c1 c2 c3 d1 d2 d3 p 1 X Y Z nu de pv hn hf (hvl.trans h) g (by rw[<-hg];unfold Lp.chk;rw[hvl,h];rfl) W hB hz hr);have Hg:=zH (fun (h:vl=false)=>(show false=g by rw[<-hg];unfold Lp.chk;rw[hvl,h];rfl));clear hg hvl hn hf
  go_enter Tryz.func19,Tryz.ntmps19
  go_upto_region 1 with fail
  refine wp_region_held_drew (S:=(fun w'=>w'.cell? ⟨w.heap.size+1,0,none⟩=some (.int .i64 1)/\L w')) (by kernel_rfl) ?_ (fun hHeld=>?_)
  ·exact Cell.out _ hin
  refine tk1 1 ⟨some 9,_,0,_,_,none⟩ ?_;refine tk1 2 ⟨some 10,_,3,_,_,none⟩ ?_
  try simp only[Act.put,zA,zB,zC]
  refine rd1 0 ⟨some 8,_,114,_,_,none⟩ fun K hK=>?_
  go_simp
  (go_at_call 79;refine (Za5 LS.out (Zbw _) (by assumption)).mono ?_;rintro e w' ⟨⟨b',rfl,hm⟩,hk5,hin5⟩;have hlook:=Zkr hm (by decide) at_one)
  refine hK.out _ _ ?_ (fun hHeld=>?_)
  ·exact Cell.out _ (by assumption)
  clear hK K
  try simp only[Act.put,zA,zB,zC]
  refine rd1 3 ⟨some 11,_,113,_,_,none⟩ fun K hK=>?_
  go_simp
  skip
  refine hK.out _ _ ?_ (fun hHeld=>?_)
  ·exact Cell.out _ (by assumption)
  clear hK K;refine tk1 4 ⟨some 7,_,113,_,_,none⟩ ?_;refine tk1 5 ⟨some 12,_,112,_,_,none⟩ ?_;refine tk1 6 ⟨some 13,_,4,_,_,none⟩ ?_;refine tk1 7 ⟨some 5,_,112,_,_,none⟩ ?_;refine tk1 8 ⟨some 6,_,4,_,_,none⟩ ?_
  try simp only[Act.put,zA,zB,zC]
  refine wpAnyH_done (by kernel_rfl) ?_ _;clear hlook hm hHeld;have HX1:=zH (LK.out _ (by assumption));obtain⟨x0,x1,x2,_⟩:=HX1.out.2.2.2.1.cells;obtain⟨⟨r0,r1,r2,r3,r4,r5,r6⟩,_⟩:=seven HX1.out.2.2.2.2
  go_wp2_with fail
  refine (HV.out _ HX1.out.1.size HX1.out.2.1).mono ?_;rintro e w3 ⟨rfl,k3⟩;have HX3:=zH (HX1.out.up k3);clear k3 x0 x1 x2 r0 r1 r2 r3 r4 r5 r6;cases vl with
  | false=>
   have Hr:=zH (Hg.out rfl)
   go_wp2_with fail
   go_ret;exact⟨Zae Hr.out,HX3.out.1⟩
  | true=>
   obtain⟨x0,x1,x2,_⟩:=HX3.out.2.2.2.1.cells;obtain⟨⟨r0,r1,r2,r3,r4,r5,r6⟩,_⟩:=seven HX3.out.2.2.2.2
   go_wp2_with fail
   refine (Hp.out (by trivial) _ HX3.out.1.size HX3.out.2.1 HX3.out.2.2.1).mono ?_;rintro e w4 ⟨rfl,k4⟩;have HX4:=zH (HX3.out.up k4);clear k4
   go_wp2_with fail
   go_ret;exact⟨rfl,HX4.out.1⟩
 ·by_cases h2:st=2
  ·skip
   subst h2;have Hp:=zH (fun (h:vl=true) W (hB:w.heap.size≤W.heap.size) hz hr=>Zgo w.heap.size a b c ra rb rc c1 c2 c3 d1 d2 d3 p 2 X Y Z nu de pv hn hf (hvl.trans h) g (by rw[<-hg];unfold Lp.chk;rw[hvl,h];rfl) W hB hz hr);have Hg:=zH (fun (h:vl=false)=>(show false=g by rw[<-hg];unfold Lp.chk;rw[hvl,h];rfl));clear hg hvl hn hf
   go_enter Tryz.func19,Tryz.ntmps19
   go_upto_region 1 with fail
   refine wp_region_held_drew (S:=(fun w'=>w'.cell? ⟨w.heap.size+1,0,none⟩=some (.int .i64 2)/\L w')) (by kernel_rfl) ?_ (fun hHeld=>?_)
   ·exact Cell.out _ hin
   refine tk1 1 ⟨some 9,_,0,_,_,none⟩ ?_;refine tk1 2 ⟨some 10,_,3,_,_,none⟩ ?_
   try simp only[Act.put,zA,zB,zC]
   refine rd1 0 ⟨some 8,_,114,_,_,none⟩ fun K hK=>?_
   go_simp
   (go_at_call 79;refine (Za5 LS.out (Zbw _) (by assumption)).mono ?_;rintro e w' ⟨⟨b',rfl,hm⟩,hk5,hin5⟩;have hlook:=Zkr hm (by decide) Z2a)
   refine hK.out _ _ ?_ (fun hHeld=>?_)
   ·exact Cell.out _ (by assumption)
   clear hK K
   try simp only[Act.put,zA,zB,zC]
   refine rd1 3 ⟨some 11,_,113,_,_,none⟩ fun K hK=>?_
   go_simp
   skip
   refine hK.out _ _ ?_ (fun hHeld=>?_)
   ·exact Cell.out _ (by assumption)
   clear hK K;refine tk1 4 ⟨some 7,_,113,_,_,none⟩ ?_;refine tk1 5 ⟨some 12,_,112,_,_,none⟩ ?_;refine tk1 6 ⟨some 13,_,4,_,_,none⟩ ?_;refine tk1 7 ⟨some 5,_,112,_,_,none⟩ ?_;refine tk1 8 ⟨some 6,_,4,_,_,none⟩ ?_
   try simp only[Act.put,zA,zB,zC]
   refine wpAnyH_done (by kernel_rfl) ?_ _;clear hlook hm hHeld;have HX1:=zH (LK.out _ (by assumption));obtain⟨x0,x1,x2,_⟩:=HX1.out.2.2.2.1.cells;obtain⟨⟨r0,r1,r2,r3,r4,r5,r6⟩,_⟩:=seven HX1.out.2.2.2.2
   go_wp2_with fail
   refine (HV.out _ HX1.out.1.size HX1.out.2.1).mono ?_;rintro e w3 ⟨rfl,k3⟩;have HX3:=zH (HX1.out.up k3);clear k3 x0 x1 x2 r0 r1 r2 r3 r4 r5 r6;cases vl with
   | false=>
    have Hr:=zH (Hg.out rfl)
    go_wp2_with fail
    go_ret;exact⟨Zae Hr.out,HX3.out.1⟩
   | true=>
    obtain⟨x0,x1,x2,_⟩:=HX3.out.2.2.2.1.cells;obtain⟨⟨r0,r1,r2,r3,r4,r5,r6⟩,_⟩:=seven HX3.out.2.2.2.2
    go_wp2_with fail
    refine (Hp.out (by trivial) _ HX3.out.1.size HX3.out.2.1 HX3.out.2.2.1).mono ?_;rintro e w4 ⟨rfl,k4⟩;have HX4:=zH (HX3.out.up k4);clear k4
    go_wp2_with fail
    go_ret;exact⟨rfl,HX4.out.1⟩
  ·by_cases h3:st=3
   ·skip
    subst h3;have Hp:=zH (fun (h:vl=true) W (hB:w.heap.size≤W.heap.size) hz hr=>Zhd w.heap.size a b c ra rb rc c1 c2 c3 d1 d2 d3 p 3 X Y Z nu de pv hn hf (hvl.trans h) g (by rw[<-hg];unfold Lp.chk;rw[hvl,h];rfl) W hB hz hr);have Hg:=zH (fun (h:vl=false)=>(show false=g by rw[<-hg];unfold Lp.chk;rw[hvl,h];rfl));clear hg hvl hn hf
    go_enter Tryz.func19,Tryz.ntmps19
    go_upto_region 1 with fail
    refine wp_region_held_drew (S:=(fun w'=>w'.cell? ⟨w.heap.size+1,0,none⟩=some (.int .i64 3)/\L w')) (by kernel_rfl) ?_ (fun hHeld=>?_)
    ·exact Cell.out _ hin
    refine tk1 1 ⟨some 9,_,0,_,_,none⟩ ?_;refine tk1 2 ⟨some 10,_,3,_,_,none⟩ ?_
    try simp only[Act.put,zA,zB,zC]
    refine rd1 0 ⟨some 8,_,114,_,_,none⟩ fun K hK=>?_
    go_simp
    (go_at_call 79;refine (Za5 LS.out (Zbw _) (by assumption)).mono ?_;rintro e w' ⟨⟨b',rfl,hm⟩,hk5,hin5⟩;have hlook:=Zkr hm (by decide) Zxo)
    refine hK.out _ _ ?_ (fun hHeld=>?_)
    ·exact Cell.out _ (by assumption)
    clear hK K
    try simp only[Act.put,zA,zB,zC]
    refine rd1 3 ⟨some 11,_,113,_,_,none⟩ fun K hK=>?_
    go_simp
    skip
    refine hK.out _ _ ?_ (fun hHeld=>?_)
    ·exact Cell.out _ (by assumption)
    clear hK K;refine tk1 4 ⟨some 7,_,113,_,_,none⟩ ?_;refine tk1 5 ⟨some 12,_,112,_,_,none⟩ ?_;refine tk1 6 ⟨some 13,_,4,_,_,none⟩ ?_;refine tk1 7 ⟨some 5,_,112,_,_,none⟩ ?_;refine tk1 8 ⟨some 6,_,4,_,_,none⟩ ?_
    try simp only[Act.put,zA,zB,zC]
    refine wpAnyH_done (by kernel_rfl) ?_ _;clear hlook hm hHeld;have HX1:=zH (LK.out _ (by assumption));obtain⟨x0,x1,x2,_⟩:=HX1.out.2.2.2.1.cells;obtain⟨⟨r0,r1,r2,r3,r4,r5,r6⟩,_⟩:=seven HX1.out.2.2.2.2
    go_wp2_with fail
    refine (HV.out _ HX1.out.1.size HX1.out.2.1).mono ?_;rintro e w3 ⟨rfl,k3⟩;have HX3:=zH (HX1.out.up k3);clear k3 x0 x1 x2 r0 r1 r2 r3 r4 r5 r6;cases vl with
    | false=>
     have Hr:=zH (Hg.out rfl)
     go_wp2_with fail
     go_ret;exact⟨Zae Hr.out,HX3.out.1⟩
    | true=>
     obtain⟨x0,x1,x2,_⟩:=HX3.out.2.2.2.1.cells;obtain⟨⟨r0,r1,r2,r3,r4,r5,r6⟩,_⟩:=seven HX3.out.2.2.2.2
     go_wp2_with fail
     refine (Hp.out (by trivial) _ HX3.out.1.size HX3.out.2.1 HX3.out.2.2.1).mono ?_;rintro e w4 ⟨rfl,k4⟩;have HX4:=zH (HX3.out.up k4);clear k4
     go_wp2_with fail
     go_ret;exact⟨rfl,HX4.out.1⟩
   ·have Hr:=zH (show false=g by rw[<-hg];unfold Lp.chk;simp[h1,h2,h3])
    have HA:=zH (fun b' w' (hm:Zou w' b')=>Zxp hm hw (Zxn h1 h2 h3));clear hg hvl hn hf h1 h2 h3
    go_enter Tryz.func19,Tryz.ntmps19
    go_upto_region 1 with fail
    refine wp_region_held_drew (S:=(fun w'=>w'.cell? ⟨w.heap.size+1,0,none⟩=some (.int .i64 st)/\L w')) (by kernel_rfl) ?_ (fun hHeld=>?_)
    ·exact Cell.out _ hin
    refine tk1 1 ⟨some 9,_,0,_,_,none⟩ ?_;refine tk1 2 ⟨some 10,_,3,_,_,none⟩ ?_
    try simp only[Act.put,zA,zB,zC]
    refine rd1 0 ⟨some 8,_,114,_,_,none⟩ fun K hK=>?_
    go_simp
    (go_at_call 79;refine (Za5 LS.out (Zbw _) (by assumption)).mono ?_;rintro e w' ⟨⟨b',rfl,hm⟩,hk5,hin5⟩;have hlook:=HA.out _ _ hm)
    refine hK.out _ _ ?_ (fun hHeld=>?_)
    ·exact Cell.out _ (by assumption)
    clear hK K
    try simp only[Act.put,zA,zB,zC]
    refine rd1 3 ⟨some 11,_,113,_,_,none⟩ fun K hK=>?_
    go_simp
    skip
    refine hK.out _ _ ?_ (fun hHeld=>?_)
    ·exact Cell.out _ (by assumption)
    clear hK K;refine tk1 4 ⟨some 7,_,113,_,_,none⟩ ?_;refine tk1 5 ⟨some 12,_,112,_,_,none⟩ ?_;refine tk1 6 ⟨some 13,_,4,_,_,none⟩ ?_;refine tk1 7 ⟨some 5,_,112,_,_,none⟩ ?_;refine tk1 8 ⟨some 6,_,4,_,_,none⟩ ?_
    try simp only[Act.put,zA,zB,zC]
    refine wpAnyH_done (by kernel_rfl) ?_ _;clear hlook hm hHeld;have HX1:=zH (LK.out _ (by assumption))
    go_wp2_with fail
    go_ret;exact⟨Zae Hr.out,HX1.out.1⟩
end Go.Proofs.YtlohljkfphljgaaGreat
