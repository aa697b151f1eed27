/- impl: negatedVector, evidenceIn, FindCore. -/
import Derived.Test.YtjfnleilddgjiaaGreatCrF
import Derived.Test.YtjfnleilddgjiaaGreatGVc
import Derived.Test.YtjfnleilddgjiaaGreatGTd
import Derived.Test.YtjfnleilddgjiaaGreatHGmB
set_option maxRecDepth 100000
set_option maxHeartbeats 8000000
namespace Go.Proofs.YtjfnleilddgjiaaGreat
open Go.RowKit
open Ve (R)
open Gm (G)
open Cr (Cor)
theorem Zid {w:World} {v:Value} {xs:List R} (h:Zcc w v xs) (hf:xs.length≤1048576) :
  Calls Tryz.prog 113 #[v] w (Zbe (Cr.negs xs) w):=by
 obtain⟨a,c,rfl,hi⟩:=h;have HI:=zH hi;have HNm:Hid (∀k,k<xs.length->Cr.negs (xs.take (k+1))=Cr.negs (xs.take k)++[Ta.negR (Ve.at_ xs k)]):=fun k hk=>Zqa xs k hk
 have HNl:Hid (∀k,k≤xs.length->(Cr.negs (xs.take k)).length=k):=fun k hk=>Ztb xs k hk
 have HNa:Hid (Cr.negs (xs.take xs.length)=Cr.negs xs):=Zta xs;have HN0:Hid (Cr.negs (xs.take 0) = []):=by show _=_;simp[Cr.negs]
 obtain⟨NF,hNF⟩:∃NF:Nat->List R,∀k,Cr.negs (xs.take k)=NF k:=⟨fun k=>Cr.negs (xs.take k),fun _=>rfl⟩;simp only[hNF] at HNm HNl HNa HN0;have HO0:Hid (Zaa w.heap.size w (.slice none 0 0) (NF 0)):=by show Zaa _ _ _ _;rw[HN0.out];exact World.ownsRow_nil _ _ _ _
 have HL0:Hid (Below w.heap.size w w):=Below.refl _ _;clear hNF hi
 go_enter Tryz.func113,Tryz.ntmps113
 go_wp2_with fail
 go_loopw [3,5,8] (fun v _ i wr=>∃(k:Nat) (u:Value),u=v/\k≤xs.length/\i=.int .i64 k/\Hid (Zaa w.heap.size wr u (NF k))/\Hid (Below w.heap.size w wr)) (fun _ _ i _=>xs.length-(intOf i).toNat)
 case atStart=>exact⟨0,_,rfl,Nat.zero_le _,rfl,HO0,HL0⟩
 case round=>
  clear HO0 HL0;obtain⟨k,u,rfl,hk,rfl,hO,hL⟩:=hrel
  by_cases hlt:k<xs.length
  ·have n1:(k:Int)<(xs.length:Int):=by omega
   obtain⟨b,o,rfl,_,y0,y1⟩:=(HI.out.below hL.out).at k hlt;have HNk:=zH (HNm.out k hlt);have hNl:(NF k).length≤1048576:=by have:=HNl.out k hk;omega
   generalize Ve.at_ xs k=yk at *;generalize NF k=NK at *;have HLa:=zH (hL.out.alloc hL.out.size (.cells #[.int .i64 yk.1,.int .i64 yk.2] 59));have HOa:=zH (Zaa.alloc hO.out (.cells #[.int .i64 yk.1,.int .i64 yk.2] 59));obtain⟨r0,r1,_,_⟩:=(Zap.new wr yk).four;clear hO hL
   go_wp2_with fail
   generalize wr.alloc (.cells #[.int .i64 yk.1,.int .i64 yk.2] 59)=wa at *;refine (Zb7 yk _).mono ?_;rintro e w2 ⟨rfl,k2⟩;have HLb:=zH ((HLa.out.trans (k2.mono HLa.out.size)).alloc (HLa.out.trans (k2.mono HLa.out.size)).size (.cells #[.int .i64 (Ta.negR yk).1,.int .i64 (Ta.negR yk).2] 59));have HOb:=zH (Zaa.alloc (Zaa.below HOa.out k2) (.cells #[.int .i64 (Ta.negR yk).1,.int .i64 (Ta.negR yk).2] 59));have Hone:=zH (Zb6 w2 (Ta.negR yk));clear k2 HLa HOa r0 r1
   go_wp2_with (at_builtin;refine Zal rfl _ _ rfl w.heap.size _ NK rfl HOb.out _ [Ta.negR yk] 1 1 rfl rfl _ Hone.out (by simp;omega) (by have:=HLb.out.size;omega) ?_)
   intro v' w8 hown hgrow;rw[<-HNk.out] at hown;obtain⟨a8,c8,rfl,_⟩:=Zai hown;have HO8:=zH hown;have HL8:=zH (HLb.out.grown hgrow HLb.out.size (fun g hg=>(World.ownsRow.lt HOb.out g hg).1));clear hown hgrow HOb HLb Hone
   go_wp2_with fail
   go_roundw
   case rel=>exact⟨k+1,_,rfl,by omega,by go_num,HO8,HL8⟩
   case measure=>simp[intOf];omega
  ·have hke:k=xs.length:=by omega
   have hO2:=hO.out;rw[hke,HNa.out] at hO2;obtain⟨a8,c8,rfl,_⟩:=Zai hO2;have HO2:=zH hO2;clear hO hO2 hke
   go_wp2_with fail
   go_ret;exact⟨_,rfl,HO2.out,hL.out⟩
def Z0e (FD:Cor) (uX:Value) (SX:List R) (w:World) (e:Ending) (w':World):Prop:=
 (∃v,e=.returned v/\((v=.nilIface/\FD=⟨3,[],[]⟩)\/(v=.iface 86 uX/\FD=⟨2,[],SX⟩)\/∃(a:Option Addr) (c:Nat) (pt:List R),v=.iface 85 (.slice a pt.length c)/\FD=⟨1,pt,[]⟩/\Zaa w.heap.size w' (.slice a pt.length c) pt))/\Below w.heap.size w w'
theorem Zlo {w:World} {x y uX uY uZ:Value} {g:G} (st vn vd sp:Int) (SX SY SZ:List R) (hS:Cr.sol g=⟨st,SX,SY,SZ,(vn,vd),sp⟩) (hv:Gm.vld g=true) (h:GmC w x y g) (hf:GmOk g) (hX:Zcc w uX SX) (hY:Zcc w uY SY) (hZ:∃a n c,uZ=.slice a n c) :
  Calls Tryz.prog 51 #[.agg #[x,y],.agg #[.int .i64 st,uX,uY,uZ,.int .i64 vn,.int .i64 vd,.int .i64 sp]] w (Z0e (Cr.find g) uX SX w):=by
 obtain⟨gn,gv⟩:=g;have hb0:=(Below.refl w.heap.size w).alloc (Nat.le_refl _) (.cells #[x,y] 30);have hb:=hb0.alloc (by rw[Zao];omega) (.cells #[.int .i64 st,uX,uY,uZ,.int .i64 vn,.int .i64 vd,.int .i64 sp] 61);have hbx:=(Zad.new w #[x,y] 30).more (.cells #[.int .i64 st,uX,uY,uZ,.int .i64 vn,.int .i64 vd,.int .i64 sp] 61);have hq:=Zad.new (w.alloc (.cells #[x,y] 30)) #[.int .i64 st,uX,uY,uZ,.int .i64 vn,.int .i64 vd,.int .i64 sp] 61;rw[Zao] at hq;have hsz:=Zl8 w (.cells #[x,y] 30) (.cells #[.int .i64 st,uX,uY,uZ,.int .i64 vn,.int .i64 vd,.int .i64 sp] 61);have HG:=zH (h.up hb);have HXi:=zH (hX.up hb);have HYi:=zH (hY.up hb);have HB:=zH hb;have HBx:=zH hbx;have HQ:=zH hq;have HF:=zH hf;obtain⟨a,c,rfl,rfl,_⟩:=h;obtain⟨aX,cX,rfl,_⟩:=hX;obtain⟨aY,cY,rfl,_⟩:=hY;obtain⟨aZ,nZ,cZ,rfl⟩:=hZ;dsimp only at hbx hq ⊢;have hn:=Gm.Zhz hv;dsimp only at hn;obtain⟨m,rfl⟩:∃m:Nat,gn=m:=⟨gn.toNat,by omega⟩;have hm1:1≤m:=by omega
 have hm5:m≤5:=by omega
 have HStat:=zH (fun h=>Cr.Zld hv h);have HFit:=zH (fun h=>(Cr.Zhb hv h).1);have HCmp:=zH (fun h=>(Cr.Zhb hv h).2);have HEmp:=zH (fun h1 h2 h3=>Cr.Znd hv h1 h2 h3);have HLast:=zH (fun h1 h2 h3 h4=>Cr.find_last hv h1 h2 h3 h4);have HPoint:=zH (fun h1 h2 h3 h4=>Cr.Zi6 hv h1 h2 h3 h4);have HYl:=zH (fun h=>Cr.Z3u hv h);simp only[Cr.Zjq,Cr.Ze5,Cr.Zui,Cr.Zcf,hS] at HStat HFit HCmp HEmp HLast HPoint HYl;obtain⟨W,hW⟩:∃W,W=(w.alloc (.cells #[.int .i64 (m:Int),.slice a gv.length c] 30)).alloc (.cells #[.int .i64 st,.slice aX SX.length cX,.slice aY SY.length cY,.slice aZ nZ cZ,.int .i64 vn,.int .i64 vd,.int .i64 sp] 61):=⟨_,rfl⟩;dsimp only at HB HBx HQ HG HXi HYi hsz;rw[<-hW] at HB HBx HQ HG HXi HYi hsz;have HW:=zH hW;have HGr:=zH (Zlk HG.out HF.out);generalize Cr.find ⟨(m:Int),gv⟩=FD at *;generalize Gm.Zbt ⟨(m:Int),gv⟩=gr at *;simp only[Int.toNat_natCast] at HLast HPoint HYl;obtain⟨b0,b1⟩:=two HBx.out;obtain⟨⟨t0,t1,t2,t3⟩,t4,t5,t6⟩:=sevC HQ.out;clear hb0 hb hbx hq hf hS hv hn hW HG HF
 by_cases hst:st=1
 ·subst hst
  have HK:=zH (HFit.out rfl);have HC1:=zH (HCmp.out rfl);have HYn:=zH (HYl.out rfl)
  go_enter Tryz.func51,Tryz.ntmps51
  go_upto_region 1 with fail
  rw[<-HW.out]
  go_wp2_with fail
  refine HGr.out.mono ?_;rintro e w1 ⟨rfl,k1⟩;have HBx1:=zH (HBx.out.below k1);have HQ1:=zH (HQ.out.below k1);have HS1:Hid (Since W w1):=(Since.refl W).trans k1;clear k1 b0 b1 t0 t1 t2 t3 t4 t5 t6 HBx HQ HGr HFit HCmp HYl HStat
  go_wp2_with fail
  refine (Zes gr _).mono ?_;rintro e w2 ⟨rfl,k2⟩;have HBx2:=zH ((HBx1.out.below k2).more (.cells #[.int .i64 gr,.int .i64 1] 59));have HQ2:=zH ((HQ1.out.below k2).more (.cells #[.int .i64 gr,.int .i64 1] 59));have HS2:=zH ((HS1.out.trans k2).alloc (.cells #[.int .i64 gr,.int .i64 1] 59));have HA2:=zH (Zap.new w2 (gr,1));have hq2:w.heap.size+2≤w2.heap.size:=by have:=HS1.out.low.size;have:=k2.size;omega
  clear k2 HBx1 HQ1 HS1
  go_upto_region 4 with fail
  generalize hQa:w2.heap.size=qa at *;generalize w2.alloc (.cells #[.int .i64 gr,.int .i64 1] 59)=w3 at *;clear hQa;have Cl1:Hid (∀w',Since w3 w'->w'.cell? ⟨w.heap.size+1,4,none⟩=some (.int .i64 vn)/\w'.cell? ⟨w.heap.size+1,5,none⟩=some (.int .i64 vd)/\w'.cell? ⟨qa,0,none⟩=some (.int .i64 gr)/\w'.cell? ⟨qa,1,none⟩=some (.int .i64 1)/\Since w3 w'):=fun w' h=>
   ⟨h.cell (p:=⟨w.heap.size+1,4,none⟩) (Zab HQ2.out) (HQ2.out.cell 4),h.cell (p:=⟨w.heap.size+1,5,none⟩) (Zab HQ2.out) (HQ2.out.cell 5),h.cell (p:=⟨qa,0,none⟩) HA2.out.lt HA2.out.four.1,h.cell (p:=⟨qa,1,none⟩) HA2.out.lt HA2.out.four.2.1,h⟩
  have hin:=(Since.refl w3).drew;refine Zaf (S:=(fun w'=>w'.cell? ⟨w.heap.size+1,4,none⟩=some (.int .i64 vn)/\w'.cell? ⟨w.heap.size+1,5,none⟩=some (.int .i64 vd)/\w'.cell? ⟨qa,0,none⟩=some (.int .i64 gr)/\w'.cell? ⟨qa,1,none⟩=some (.int .i64 1)/\Since w3 w')) 5 (by kernel_rfl) ?_ (fun hHeld=>?_)
  ·exact Cl1.out _ hin
  refine tk2 0 ⟨some 18,_,0,_,_,none⟩ ?_;refine tk2 1 ⟨some 19,_,59,_,_,none⟩ ?_;refine tk2 3 ⟨some 21,_,59,_,_,none⟩ ?_
  try simp only[Act.put,zA,zB,zC]
  refine rd2 2 ⟨some 20,_,59,_,_,none⟩ fun K hK=>?_
  go_simp
  (go_at_call 112;refine (Zb7 (vn,vd) _).mono ?_;rintro e w4 ⟨rfl,k4⟩;have hin4:=hin.trans k4)
  refine hK.out _ _ ?_ (fun hHeld=>?_)
  ·exact Cl1.out _ hin4
  clear hK K
  try simp only[Act.put,zA,zB,zC]
  refine rd2 4 ⟨some 22,_,3,_,_,none⟩ fun K hK=>?_
  go_simp
  (go_at_call 95;refine (Zv9 (Ta.negR (vn,vd)) (Py.whole gr) _).mono ?_;rintro e w5 ⟨rfl,k5⟩;have hin5:=hin4.trans k5)
  refine hK.out _ _ ?_ (fun hHeld=>?_)
  ·exact Cl1.out _ hin5
  clear hK K
  try simp only[Act.put,zA,zB,zC]
  refine rd3 5 ⟨some 23,_,4,_,_,none⟩ fun K hK=>?_
  go_simp
  refine hK.out _ _ ?_;clear hK K
  try simp only[Act.put,zA,zB,zC]
  refine Zam (by kernel_rfl) ?_ _;have HS5:=zH (Zdo HS2.out hin5);have HBx5:=zH (HBx2.out.below hin5.low);have HQ5:=zH (HQ2.out.below hin5.low);have HA5:=zH (HA2.out.below hin5.low);clear hin hin4 hin5 k4 k5 HS2 HBx2 HQ2 HA2 Cl1;obtain⟨⟨t0,t1,t2,t3⟩,t4,t5,t6⟩:=sevC HQ5.out;obtain⟨b0,b1⟩:=two HBx5.out;obtain⟨a0,a1,_,_⟩:=HA5.out.four;have HL5:Hid (Below w.heap.size w w5):=HB.out.trans (HS5.out.low.mono HB.out.size);generalize hcmp:Py.cmp (Ta.negR (vn,vd)) (Py.whole gr)=cm at *
  by_cases hpos:0<cm
  ·have hd:decide (0<cm)=true:=by rw[decide_eq_true_iff];exact hpos
   have HE:=zH (HEmp.out (by trivial) HK.out (HC1.out.1 hpos));clear HLast HPoint HEmp
   go_wp2_with fail
   go_ret;exact⟨⟨_,rfl,.inr (.inl ⟨rfl,HE.out⟩)⟩,HL5.out⟩
  ·have hd:decide (0<cm)=false:=by rw[decide_eq_false_iff_not];exact hpos
   have HNeg:Hid (¬(Ve.addR (Py.whole gr) (vn,vd)).1<0):=fun h=>hpos (HC1.out.2 h)
   have HLs:=zH (fun h4=>HLast.out (by trivial) HK.out (by have:=HNeg.out;omega) h4);have HPt:=zH (fun h4=>HPoint.out (by trivial) HK.out (by have:=HNeg.out;omega) h4);clear HLast HPoint HEmp HC1 hcmp;have HNv:Hid (∀W',Since w5 W'->Calls Tryz.prog 113 #[.slice aY SY.length cY] W' (Zbe (Cr.negs SY) W')):=fun W' hs=>Zid (HYi.out.up (Zdo HS5.out hs).low) (by have:=HYn.out;omega)
   have Cl2:Hid (∀w',Since w5 w'->w'.cell? ⟨w.heap.size,0,none⟩=some (.int .i64 (m:Int))/\w'.cell? ⟨w.heap.size+1,2,none⟩=some (.slice aY SY.length cY)/\Since w5 w'):=fun w' h=>
    ⟨h.cell (p:=⟨w.heap.size,0,none⟩) (Zab HBx5.out) b0,h.cell (p:=⟨w.heap.size+1,2,none⟩) (Zab HQ5.out) t2,h⟩
   obtain⟨j,hj⟩:∃j:Nat,m=j+1:=⟨m-1,by omega⟩;have hmj:(m:Int)-1=(j:Int):=by omega
   have hwj:IntKind.i64.wrap (j:Int)=(j:Int):=IntWalk.i64_in _ (by omega);have hjm:m-1=j:=by omega
   have HJ:=zH hj;rw[hjm] at HLs HPt;have HHl:Hid ((Cr.negs SY).length=m):=by have:=HYn.out;show _=_;simp[Cr.negs];omega
   generalize Cr.negs SY=NL at *;have hin:=(Since.refl w5).drew;clear hj hjm
   go_upto_region 6 with fail
   clear t0 t1 t2 t3 t4 t5 t6 b0 b1 a0 a1;refine Zaf (S:=(fun w'=>w'.cell? ⟨w.heap.size,0,none⟩=some (.int .i64 (m:Int))/\w'.cell? ⟨w.heap.size+1,2,none⟩=some (.slice aY SY.length cY)/\Since w5 w')) 7 (by kernel_rfl) ?_ (fun hHeld=>?_)
   ·exact Cl2.out _ hin
   refine tk2 0 ⟨some 27,_,0,_,_,none⟩ ?_;refine tk2 1 ⟨some 28,_,26,_,_,none⟩ ?_;refine tk2 3 ⟨some 30,_,0,_,_,none⟩ ?_;refine tk2 4 ⟨some 31,_,3,_,_,none⟩ ?_;refine tk2 5 ⟨some 32,_,3,_,_,none⟩ ?_
   try simp only[Act.put,zA,zB,zC]
   refine rd2 2 ⟨some 29,_,26,_,_,none⟩ fun K hK=>?_
   go_simp
   (go_at_call 113;refine (HNv.out _ hin).mono ?_;rintro e w6 ⟨vP,rfl,hP6,k6⟩;have hin6:=hin.trans k6;obtain⟨aP,cP,rfl,_⟩:=Zai hP6)
   refine hK.out _ _ ?_ (fun hHeld=>?_)
   ·exact Cl2.out _ hin6
   clear hK K;refine tk2 6 ⟨some 6,_,26,_,_,none⟩ ?_
   try simp only[Act.put,zA,zB,zC]
   refine rd3 7 ⟨some 7,_,3,_,_,none⟩ fun K hK=>?_
   go_simp
   refine hK.out _ _ ?_;clear hK K
   try simp only[Act.put,zA,zB,zC]
   refine Zam (by kernel_rfl) ?_ _;have hlP:0<NL.length:=by have:=HHl.out;omega
   obtain⟨gP,hgP,_,hgl,hgs⟩:=Zaa.block hP6 (show NL.length≠0 by omega);subst hgP;have hPr:Zaj w6.heap.size w6 (some ⟨gP,0,none⟩) NL:=by
    obtain⟨a',c',e,hr,_⟩:=Zai hP6;injection e with e1 e2 e3
    subst e1;exact hr
   have hjl:j<NL.length:=by have:=HJ.out;have:=HHl.out;omega
   have HS6:=zH (Zdo HS5.out hin6);have HQ6:=zH (HQ5.out.below hin6.low);have HA6:=zH (HA5.out.below hin6.low);have HP6:Hid (Zaa w5.heap.size w6 (.slice (some ⟨gP,0,none⟩) NL.length cP) NL):=Zaa.raise hP6 (by have h9:w5.drew.heap.size=w5.heap.size:=rfl;omega);have hgl5:w5.heap.size≤gP:=hgl;clear hin hin6 k6 hP6 HBx5 HQ5 HA5 HS5 Cl2 HNv hgl hlP;obtain⟨⟨t0,t1,t2,t3⟩,t4,t5,t6⟩:=sevC HQ6.out;obtain⟨a0,a1,_,_⟩:=HA6.out.four;have HKe:Hid (Ve.addK (gr,1) (vn,vd)=true):=HK.out;have HSle:Hid (Ve.addR (Py.whole gr) (vn,vd)=Ve.addR (gr,1) (vn,vd)):=rfl
   go_wp2_with fail
   refine (Zh9 (gr,1) (vn,vd) _).mono ?_;rintro e w7 ⟨rfl,k7⟩;rw[HKe.out];rw[HSle.out] at HLs HPt;generalize Ve.addR (gr,1) (vn,vd)=SL at *;have HS7:=zH ((HS6.out.trans k7).alloc (.cells #[.int .i64 SL.1,.int .i64 SL.2] 59));have HP7:=zH (Zaa.alloc (Zaa.below HP6.out k7) (.cells #[.int .i64 SL.1,.int .i64 SL.2] 59));have HR7:=zH (Zap.new w7 SL);have hPr7:=((hPr.below k7).below ((Below.refl w6.heap.size w7).alloc k7.size (.cells #[.int .i64 SL.1,.int .i64 SL.2] 59))).mono (show w6.heap.size≤(w7.alloc (.cells #[.int .i64 SL.1,.int .i64 SL.2] 59)).heap.size by rw[Zao];have:=k7.size;omega);have hsz7:w5.heap.size≤w7.heap.size:=by have:=k7.size;omega
   obtain⟨b',o',e',_,p0,p1⟩:=hPr7.at j hjl;simp only[Option.some.injEq,Addr.mk.injEq] at e';obtain⟨e'1,e'2,_⟩:=e';subst e'1 e'2;rw[Nat.zero_add] at p0 p1;clear k7 HQ6 HA6 HP6 HS6 a0 a1 t0 t1 t2 t3 t4 t5 t6 hPr hPr7 HK HKe;obtain⟨r0,r1,_,_⟩:=HR7.out.four
   go_upto_region 8 with fail
   generalize hQb:w7.heap.size=qb at *;generalize hW8:w7.alloc (.cells #[.int .i64 SL.1,.int .i64 SL.2] 59)=w8 at *;have hqb8:qb<w8.heap.size:=HR7.out.lt;have hgp8:gP<w8.heap.size:=block_lt_of_cell (a:=⟨gP,j*2,none⟩) p0;have hn5:w5.heap.size≤w8.heap.size:=by omega
   clear hQb hW8;have Cl3:Hid (∀w',Since w8 w'->w'.cell? ⟨gP,j*2,none⟩=some (.int .i64 (Ve.at_ NL j).1)/\w'.cell? ⟨gP,j*2+1,none⟩=some (.int .i64 (Ve.at_ NL j).2)/\w'.cell? ⟨qb,0,none⟩=some (.int .i64 SL.1)/\w'.cell? ⟨qb,1,none⟩=some (.int .i64 SL.2)/\Since w8 w'):=fun w' h=>
    ⟨h.cell (p:=⟨gP,j*2,none⟩) hgp8 p0,h.cell (p:=⟨gP,j*2+1,none⟩) hgp8 p1,h.cell (p:=⟨qb,0,none⟩) hqb8 r0,h.cell (p:=⟨qb,1,none⟩) hqb8 r1,h⟩
   have n7:(j:Int)<(NL.length:Int):=by omega
   have hx0:=Since.refl w8;generalize hpj:Ve.at_ NL j=pj at *;clear p0 p1 r0 r1 hpj HYn
   go_cut [10,11] (fun p b wx=>Got w8 (Ve.addR pj SL).1 (Ve.addR pj SL).2 (Ve.addK pj SL) p b wx)
   case first=>
    go_region_held3 (fun w'=>w'.cell? ⟨gP,j*2,none⟩=some (.int .i64 pj.1)/\w'.cell? ⟨gP,j*2+1,none⟩=some (.int .i64 pj.2)/\w'.cell? ⟨qb,0,none⟩=some (.int .i64 SL.1)/\w'.cell? ⟨qb,1,none⟩=some (.int .i64 SL.2)/\Since w8 w') (first|exact Cl3.out _ (by assumption) | exact Cl3.out _ (Since.drew (by assumption)) | exact Cl3.out _ (Own2.since (by assumption)) | exact Cl3.out _ (Since.drew (Own2.since (by assumption))) | exact Cl3.out _ (Since.alloc (by assumption) _) | exact Cl3.out _ (Since.drew (Since.alloc (by assumption) _)) | exact Cl3.out _ (Own2.set2 (by assumption) _ _) | exact Cl3.out _ (Since.drew (Own2.set2 (by assumption) _ _)))
     (first | (go_at_call 114;refine (Za8 (Zh9 pj SL _) (B:=w8) (x:=.int .i64 0) (y:=.int .i64 0) (t:=59) (by first|assumption|exact Own2.drew (by assumption) | exact Since.new (by assumption) _ _ _|exact Own2.drew (Since.new (by assumption) _ _ _))).mono ?_;rintro e w' ⟨⟨rfl,_⟩,hin3⟩;obtain⟨z0,z1,f0,f1⟩:=Own2.own hin3) | (go_at_call 114;refine (Zaw (Zh9 pj SL _) (B:=w8) (by first|assumption|exact Since.drew (by assumption))).mono ?_;rintro e w' ⟨⟨rfl,_⟩,hin2⟩))
    all_goals
     go_wp2_with fail
     go_meet
     first
     | exact Got.last (by assumption) _ _ _ _
     | exact Got.set (by assumption) _ _ _
     | exact Got.drew (Got.last (by assumption) _ _ _ _)
     | exact Got.drew (Got.set (by assumption) _ _ _)
   case rest=>
    obtain⟨w9,hw9⟩:∃q:World,q=wc:=⟨_,rfl⟩;subst hw9;obtain⟨q7,rfl,rfl,m2,m3,hq7,hqh7,hs9⟩:=hcut;have HP9:=zH (Zaa.below HP7.out hs9.low);have HL9:Hid (Below w.heap.size w w9):=HB.out.trans ((Zdo HS7.out hs9).low.mono HB.out.size);generalize Ve.addR pj SL=LR at *;generalize Ve.addK pj SL=LK at *;have hw5:w.heap.size≤w5.heap.size:=HL5.out.size;clear hs9 HS7 HP7 HR7 Cl3 hx0;cases LK with
    | false=>
     have HE:=zH (HLs.out rfl);clear HLs HPt
     go_wp2_with fail
     go_ret;exact⟨⟨_,rfl,.inl ⟨rfl,HE.out⟩⟩,HL9.out⟩
    | true=>
     have HE:=zH (HPt.out rfl);obtain⟨⟨v0,s0⟩,g0,⟨v1,s1⟩,g1⟩:=Zaa.spots HP9.out j hjl;have HP10:=zH (Zaa.put HP9.out j LR hjl);have HL10:=zH (Zeh HL9.out (show w.heap.size≤gP by omega) (j*2) (j*2+1) (.int .i64 LR.1) (.int .i64 LR.2));have hls:(NL.set j LR).length=NL.length:=by simp
     clear HLs HPt
     go_wp2_with fail
     go_ret;refine⟨⟨.iface 85 (.slice (some ⟨gP,0,none⟩) NL.length cP),rfl,.inr (.inr ⟨some ⟨gP,0,none⟩,cP,NL.set j LR,?_,HE.out,?_⟩)⟩,HL10.out⟩
     ·rw[hls]
     ·rw[hls]
      exact Zaa.raise HP10.out hw5
 ·have hb1:(st != 1)=true:=by rw[bne_iff_ne];exact hst
  have HE:=zH (HStat.out hst);clear HFit HCmp HYl HStat HEmp HLast HPoint
  go_enter Tryz.func51,Tryz.ntmps51
  go_upto_region 1 with fail
  rw[<-HW.out]
  go_wp2_with fail
  go_ret;exact⟨⟨_,rfl,.inl ⟨rfl,HE.out⟩⟩,HB.out⟩
theorem Zoe {w:World} {x y:Value} {g:G} (h:GmX w x y g) (hf:GmOk g) :
  Calls Tryz.prog 10 #[.agg #[x,y]] w (Zj5 (Cr.find g) w):=by
 have hb0:=(Below.refl w.heap.size w).alloc (Nat.le_refl _) (.cells #[x,y] 30);have hb:=hb0.alloc (by rw[Zao];omega) (.cells #[.int .i64 0,.slice none 0 0,.slice none 0 0] 28);have hbx:=(Zad.new w #[x,y] 30).more (.cells #[.int .i64 0,.slice none 0 0,.slice none 0 0] 28);have hrs:=Zad.new (w.alloc (.cells #[x,y] 30)) #[.int .i64 0,.slice none 0 0,.slice none 0 0] 28;rw[Zao] at hrs;have hsz:=Zl8 w (.cells #[x,y] 30) (.cells #[.int .i64 0,.slice none 0 0,.slice none 0 0] 28);have hgx:GmX ((w.alloc (.cells #[x,y] 30)).alloc (.cells #[.int .i64 0,.slice none 0 0,.slice none 0 0] 28)) x y g:=h.up hb;have HMk:=zH (Zlj hgx hf);have HG:=zH hgx.1;have HB:=zH hb;have HBx:=zH hbx;have HRs:=zH hrs;have HF:=zH hf;obtain⟨⟨a,c,hx0,hy0,_⟩,_⟩:=h;subst hx0 hy0;obtain⟨W,hW⟩:∃W,W=(w.alloc (.cells #[.int .i64 g.n,.slice a g.v.length c] 30)).alloc (.cells #[.int .i64 0,.slice none 0 0,.slice none 0 0] 28):=⟨_,rfl⟩;rw[<-hW] at HMk HG HB HBx HRs hsz;have HW:=zH hW;obtain⟨b0,b1⟩:=two HBx.out;have ta1:∀w:World,(Instr.typeAssert .nilIface 83 85 true).run Tryz.prog w=.ok (.tuple #[.slice none 0 0,.bool false]) w:=fun _=>by kernel_rfl
 have ta2:∀w:World,(Instr.typeAssert .nilIface 83 86 true).run Tryz.prog w=.ok (.tuple #[.slice none 0 0,.bool false]) w:=fun _=>by kernel_rfl
 have ta3:∀(v:Value) (w:World),(Instr.typeAssert (.iface 85 v) 83 85 true).run Tryz.prog w=.ok (.tuple #[v,.bool true]) w:=fun _ _=>by kernel_rfl
 have ta4:∀(v:Value) (w:World),(Instr.typeAssert (.iface 86 v) 83 85 true).run Tryz.prog w=.ok (.tuple #[.slice none 0 0,.bool false]) w:=fun _ _=>by kernel_rfl
 have ta5:∀(v:Value) (w:World),(Instr.typeAssert (.iface 86 v) 83 86 true).run Tryz.prog w=.ok (.tuple #[v,.bool true]) w:=fun _ _=>by kernel_rfl
 clear hb0 hb hbx hrs hgx hf hW
 rcases hv:Gm.vld g with _|_
 ·rw[hv] at HMk
  have HE:=zH (Cr.Zsz hv);rw[Cr.Zpc hv] at HMk;clear hv
  go_enter Tryz.func10,Tryz.ntmps10
  go_upto_region 1 with fail
  rw[<-HW.out]
  go_wp2_with fail
  refine HMk.out.mono ?_;rintro e w1 ⟨vA,vB,vC,rfl,hab,hc,hb1⟩;obtain⟨⟨aA,cA,hvA⟩,⟨aB,cB,hvB⟩⟩:=hab.shape;obtain⟨aC,cC,hvC,_⟩:=Zai hc;subst hvA hvB hvC;have HR1:=zH ((HRs.out.below hb1).more (.cells #[.slice aA Cr.lp0.A.length cA,.slice aB Cr.lp0.B.length cB,.slice aC Cr.lp0.C.length cC] 45));have HB1:=zH ((HB.out.trans (hb1.mono HB.out.size)).alloc ((HB.out.trans (hb1.mono HB.out.size))).size (.cells #[.slice aA Cr.lp0.A.length cA,.slice aB Cr.lp0.B.length cB,.slice aC Cr.lp0.C.length cC] 45));clear hab hc hb1 b0 b1;obtain⟨z0,z1,z2⟩:=three HR1.out;obtain⟨f0,f1,f2⟩:=Zh2 HR1.out
  go_wp2_with fail
  have HEnd:=zH (Zed HR1.out (.int .i64 0) (.slice none 0 0) (.slice none 0 0));refine bodyPost_ret (v:=.agg #[.int .i64 0,.slice none 0 0,.slice none 0 0]) (by
   obtain⟨z0,z1,z2⟩:=three HEnd.out;unfold Zjc at z0 z1 z2;revert z0 z1 z2;generalize (World.setCell _ (⟨w.heap.size+1,2,none⟩:Addr) (.slice none 0 0))=W4;intro z0 z1 z2;simp[results,Tryz.results10,go_sem,z0,z1,z2]) rfl ?_
  rw[HE.out];exact⟨⟨_,_,rfl,World.ownsRow_nil _ _ _ _,World.ownsRow_nil _ _ _ _,.inl rfl⟩,Zdc HB1.out (Nat.le_succ _) _ _ _⟩
 ·rw[hv] at HMk
  have hbal:Cr.bal g=Cr.lp g:=Cr.Zkw hv;have HPs:=zH (Zwi (Zpd g));rw[hbal] at HPs HMk;have HSl:Hid (Ta.solve (Cr.lp g)=Cr.sol g):=rfl;have HEv:Hid (∀(st vn vd sp:Int) (SX SY SZ:List R) (uX uY uZ:Value) (W':World),Cr.sol g=⟨st,SX,SY,SZ,(vn,vd),sp⟩->Since W W'->Zcc W' uX SX->Zcc W' uY SY->(∃a n c,uZ=.slice a n c)->
    Calls Tryz.prog 51 #[.agg #[.int .i64 g.n,.slice a g.v.length c],.agg #[.int .i64 st,uX,uY,uZ,.int .i64 vn,.int .i64 vd,.int .i64 sp]] W' (Z0e (Cr.find g) uX SX W')):=fun st vn vd sp SX SY SZ uX uY uZ W' e hs h1 h2 h3=>Zlo st vn vd sp SX SY SZ e hv (HG.out.up hs.low) HF.out h1 h2 h3
  generalize Cr.lp g=P at *;generalize Cr.find g=FD at *;generalize Cr.sol g=S at *;clear hv hbal HF HG
  go_enter Tryz.func10,Tryz.ntmps10
  go_upto_region 1 with fail
  rw[<-HW.out]
  go_wp2_with fail
  refine HMk.out.mono ?_;rintro e w1 ⟨vA,vB,vC,rfl,hab,hc,hb1⟩;have hrs:=RsLP.of (p:=P) hab hc;obtain⟨⟨aA,cA,hvA⟩,⟨aB,cB,hvB⟩⟩:=hab.shape;obtain⟨aC,cC,hvC,_⟩:=Zai hc;subst hvA hvB hvC;have hLx:=hrs.Zot;have hLc:=hLx.1;have hcap:P.B.length≤cB:=hLx.2 _ _ _ rfl;have HBw:=zH ((Below.refl w1.heap.size w1).alloc (Nat.le_refl _) (.cells #[.slice aA P.A.length cA,.slice aB P.B.length cB,.slice aC P.C.length cC] 45));have hLg0:=hLc.rg.below HBw.out;have HSv:Hid (∀W',Since (w1.alloc (.cells #[.slice aA P.A.length cA,.slice aB P.B.length cB,.slice aC P.C.length cC] 45)) W'->Calls Tryz.prog 33 #[.agg #[.slice aA P.A.length cA,.slice aB P.B.length cB,.slice aC P.C.length cC]] W' (Zbq S W')):=fun W' hs=>by
   have hLr:=hLg0.below hs.low;obtain⟨b1',b2',b3',c1',c2',c3',e1,e2,e3,hLi⟩:=hLr.get;injection e1 with e1 _ e1c
   injection e2 with e2 _ e2c
   injection e3 with e3 _ e3c
   subst e1 e2 e3 e1c e2c e3c;have hLg:Rg (fun w'=>LpC w' (.slice aA P.A.length cA) (.slice aB P.B.length cB) (.slice aC P.C.length cC) P) 0 W'.heap.size W':=LpC.rg ⟨_,_,_,_,_,_,rfl,rfl,rfl,hLi⟩;rw[<-HSl.out];exact Zpy aA aB aC cA cB cC P HPs.out hcap W' hLi fun q hq=>Z0w cA cB cC hLg hq
  have HBx4:=zH ((HBx.out.below hb1).below HBw.out);have HRx4:=zH ((HRs.out.below hb1).below HBw.out);have HLx:=zH (Tri.new w1 (.slice aA P.A.length cA) (.slice aB P.B.length cB) (.slice aC P.C.length cC) 45);have HS4:Hid (Since W (w1.alloc (.cells #[.slice aA P.A.length cA,.slice aB P.B.length cB,.slice aC P.C.length cC] 45))):=((Since.refl W).trans hb1).alloc _;clear hab hc hb1 hrs hLc hLx hLg0 HBw HBx HRs b0 b1 HMk
  go_upto_region 4 with fail
  generalize hQ3:w1.heap.size=Q at *;generalize w1.alloc (.cells #[.slice aA P.A.length cA,.slice aB P.B.length cB,.slice aC P.C.length cC] 45)=w4 at *;clear hQ3;have Cell:Hid (∀w',Since w4 w'->w'.cell? ⟨w.heap.size,0,none⟩=some (.int .i64 g.n)/\w'.cell? ⟨w.heap.size,1,none⟩=some (.slice a g.v.length c)/\w'.cell? ⟨Q,0,none⟩=some (.slice aA P.A.length cA)/\w'.cell? ⟨Q,1,none⟩=some (.slice aB P.B.length cB)/\w'.cell? ⟨Q,2,none⟩=some (.slice aC P.C.length cC)/\Since w4 w'):=fun w' h=>
   ⟨h.cell (p:=⟨w.heap.size,0,none⟩) (Zab HBx4.out) (two HBx4.out).1,h.cell (p:=⟨w.heap.size,1,none⟩) (Zab HBx4.out) (two HBx4.out).2,h.cell (p:=⟨Q,0,none⟩) (Zab HLx.out) HLx.out.cells.1,h.cell (p:=⟨Q,1,none⟩) (Zab HLx.out) HLx.out.cells.2.1,h.cell (p:=⟨Q,2,none⟩) (Zab HLx.out) HLx.out.cells.2.2.1,h⟩
  have hin:=(Since.refl w4).drew;have HLow4:Hid (Below w.heap.size w w4):=HB.out.trans (HS4.out.low.mono HB.out.size);have hw4:w.heap.size≤w4.heap.size:=HLow4.out.size;refine Zaf (S:=(fun w'=>w'.cell? ⟨w.heap.size,0,none⟩=some (.int .i64 g.n)/\w'.cell? ⟨w.heap.size,1,none⟩=some (.slice a g.v.length c)/\w'.cell? ⟨Q,0,none⟩=some (.slice aA P.A.length cA)/\w'.cell? ⟨Q,1,none⟩=some (.slice aB P.B.length cB)/\w'.cell? ⟨Q,2,none⟩=some (.slice aC P.C.length cC)/\Since w4 w')) 3 (by kernel_rfl) ?_ (fun hHeld=>?_)
  ·exact Cell.out _ hin
  refine tk2 0 ⟨some 15,_,30,_,_,none⟩ ?_;refine tk2 1 ⟨some 16,_,45,_,_,none⟩ ?_
  try simp only[Act.put,zA,zB,zC]
  refine rd2 2 ⟨some 17,_,61,_,_,none⟩ fun K hK=>?_
  go_simp
  (go_at_call 33;refine (HSv.out _ hin).mono ?_;rintro e w5 ⟨⟨aX,aY,aZ,cX,cY,cZ,he,hX,hY,_,_⟩,hb5⟩;obtain⟨st,SX,SY,SZ,⟨vn,vd⟩,sp⟩:=S;unfold resV at he;dsimp only at he hX hY HSl;subst he;have hin5:=hin.trans hb5)
  refine hK.out _ _ ?_ (fun hHeld=>?_)
  ·exact Cell.out _ hin5
  clear hK K
  try simp only[Act.put,zA,zB,zC]
  have hXi:Zcc w5 (.slice aX SX.length cX) SX:=by
   obtain⟨a',c',e,hr,_⟩:=Zai hX;exact⟨a',c',e,hr⟩
  have hYi:Zcc w5 (.slice aY SY.length cY) SY:=by
   obtain⟨a',c',e,hr,_⟩:=Zai hY;exact⟨a',c',e,hr⟩
  have hXo:Zaa w.heap.size w5 (.slice aX SX.length cX) SX:=Zaa.raise hX (by have h9:w4.drew.heap.size=w4.heap.size:=rfl;omega);refine rd3 3 ⟨some 18,_,83,_,_,none⟩ fun K hK=>?_
  go_simp
  (go_at_call 51;refine (HEv.out st vn vd sp SX SY SZ _ _ _ _ rfl (Zdo HS4.out hin5) hXi hYi ⟨_,_,_,rfl⟩).mono ?_;rintro e w6 ⟨⟨v,rfl,hev⟩,hb6⟩)
  refine hK.out _ _ ?_;clear hK K
  try simp only[Act.put,zA,zB,zC]
  refine Zam (by kernel_rfl) ?_ _;have hin6:=hin5.trans hb6;have HR6:=zH (HRx4.out.below hin6.low);have HL6:Hid (Below w.heap.size w w6):=HLow4.out.trans (hin6.low.mono hw4);have HX6:=zH (Zaa.below hXo hb6);have hw5:w.heap.size≤w5.heap.size:=by have:=hin5.low.size;omega
  obtain⟨z0,z1,z2⟩:=three HR6.out;obtain⟨f0,f1,f2⟩:=Zh2 HR6.out;clear hin hin5 hb5 hin6 hX hY hXi hYi hXo Cell HSv HS4 HBx4 HRx4 HLx HEv HSl HLow4 hb6
  rcases hev with ⟨rfl,HE⟩ | ⟨rfl,HE⟩ | ⟨aP,cP,pt,rfl,HE,hPt⟩
  ·go_wp2_with fail
   have HEnd:=zH (Zed HR6.out (.int .i64 3) (.slice none 0 0) (.slice none 0 0));refine bodyPost_ret (v:=.agg #[.int .i64 3,.slice none 0 0,.slice none 0 0]) (by
    obtain⟨z0,z1,z2⟩:=three HEnd.out;unfold Zjc at z0 z1 z2;revert z0 z1 z2;generalize (World.setCell _ (⟨w.heap.size+1,2,none⟩:Addr) (.slice none 0 0))=W4;intro z0 z1 z2;simp[results,Tryz.results10,go_sem,z0,z1,z2]) rfl ?_
   exact⟨⟨_,_,rfl,World.ownsRow_nil _ _ _ _,World.ownsRow_nil _ _ _ _,.inl rfl⟩,Zdc HL6.out (Nat.le_succ _) _ _ _⟩
  ·go_wp2_with fail
   have HEnd:=zH (Zed HR6.out (.int .i64 2) (.slice none 0 0) (.slice aX SX.length cX));refine bodyPost_ret (v:=.agg #[.int .i64 2,.slice none 0 0,.slice aX SX.length cX]) (by
    obtain⟨z0,z1,z2⟩:=three HEnd.out;unfold Zjc at z0 z1 z2;revert z0 z1 z2;generalize (World.setCell _ (⟨w.heap.size+1,2,none⟩:Addr) (.slice aX SX.length cX))=W4;intro z0 z1 z2;simp[results,Tryz.results10,go_sem,z0,z1,z2]) rfl ?_
   exact⟨⟨_,_,rfl,World.ownsRow_nil _ _ _ _,Zin HX6.out HR6.out Zk4 _ _ _,.inl rfl⟩,Zdc HL6.out (Nat.le_succ _) _ _ _⟩
  ·have HPt:=zH (Zaa.raise hPt hw5)
   clear hPt
   go_wp2_with fail
   have HEnd:=zH (Zed HR6.out (.int .i64 1) (.slice aP pt.length cP) (.slice none 0 0));refine bodyPost_ret (v:=.agg #[.int .i64 1,.slice aP pt.length cP,.slice none 0 0]) (by
    obtain⟨z0,z1,z2⟩:=three HEnd.out;unfold Zjc at z0 z1 z2;revert z0 z1 z2;generalize (World.setCell _ (⟨w.heap.size+1,2,none⟩:Addr) (.slice none 0 0))=W4;intro z0 z1 z2;simp[results,Tryz.results10,go_sem,z0,z1,z2]) rfl ?_
   exact⟨⟨_,_,rfl,Zin HPt.out HR6.out Zk4 _ _ _,World.ownsRow_nil _ _ _ _,.inr rfl⟩,Zdc HL6.out (Nat.le_succ _) _ _ _⟩
end Go.Proofs.YtjfnleilddgjiaaGreat
