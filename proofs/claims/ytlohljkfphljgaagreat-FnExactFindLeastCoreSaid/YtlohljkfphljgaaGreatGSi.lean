/- The parts TaPi, TaI, TaK, SiA, SiB. -/
import Derived.Test.YtlohljkfphljgaaGreatGMt
import Derived.Test.YtlohljkfphljgaaGreatGTd
import Derived.Test.YtlohljkfphljgaaGreatHLeS
import Derived.Test.YtlohljkfphljgaaGreatHLeR
import Derived.Test.YtlohljkfphljgaaGreatGLp
import Derived.Deep.RegionHeld3
import Derived.Test.YtlohljkfphljgaaGreatGTa
set_option maxRecDepth 100000
set_option maxHeartbeats 4000000
namespace Go.Proofs.YtlohljkfphljgaaGreat.Ta
open Ve (R at_)
def dvAt (l:List R) (y:R) (k:Nat):List R:=Ve.upto (dv l y) k++l.drop k
theorem Zu9 (l:List R) (y:R):dvAt l y 0=l:=by simp[dvAt,Ve.Zxh]
theorem Zx2 {l:List R} {y:R} {k:Nat} (h:k≤l.length):(dvAt l y k).length=l.length:=by
 simp only[dvAt,List.length_append,Ve.Zb6,List.length_drop];omega
theorem Zu7 {l:List R} {y:R} {k:Nat} (h:k<l.length):(dvAt l y k).set k (dv l y k).1=dvAt l y (k+1):=by
 unfold dvAt;rw[Ve.Ziw,List.set_append_right _ _ (by rw[Ve.Zb6];exact Nat.le_refl _),Ve.Zb6,Nat.sub_self,List.drop_eq_getElem_cons h,List.set_cons_zero,List.append_assoc];rfl
theorem Zx1 {l:List R} {y:R} (h:dvK l y=true):dvAt l y l.length=dvR l y:=by
 unfold dvAt dvR;rw[Ve.Zds h,List.drop_length,List.append_nil]
theorem Zu8 {l:List R} {y:R} {k j:Nat} (h:k≤j):at_ (dvAt l y k) j=at_ l j:=by
 unfold dvAt at_;rw[List.getD_eq_getElem?_getD,List.getD_eq_getElem?_getD,List.getElem?_append_right (by rw[Ve.Zb6];exact h),Ve.Zb6,List.getElem?_drop]
 congr 2;omega
theorem Zz7 {l:List R} {y:R} {k:Nat} (hk:k<l.length) (h:(dv l y k).2=false):dvK l y=false:=Ve.Zkk hk h
theorem Zu4 {x y:R} (h:y.1=0):divK x y=false:=by
 unfold divK;rw[h,Int.mul_zero]
 rcases hh:Ra.opK (Ra.two x.1 x.2 0 y.2) (x.1*y.2) 0 with _|_
 ·rfl
 ·obtain⟨_,f,_⟩:=Ra.Zfl hh
  exact absurd f (by simp[Ra.fits])
end Go.Proofs.YtlohljkfphljgaaGreat.Ta
namespace Go.Proofs.YtlohljkfphljgaaGreat
open Go.RowKit
open Ve (R)
open Ta (T)
theorem Zk9 (B:Nat) (a b:Option Addr) (c1 c2:Nat) (t:T) (hn:Zca t) (hc:Ta.good t=true->t.cols+(t.rows.length:Int)≤2100) (w:World) (hBw:B≤w.heap.size) (hz:Zc4 B w a b t) :
  Calls Tryz.prog 215 #[tabV a b c1 c2 t] w (Zbg (Ta.solR t) w):=by
 have hb:=(Below.refl w.heap.size w).alloc (Nat.le_refl _) (.cells #[.slice a t.rows.length c1,.slice b t.basis.length c2,.int .i64 t.cols] 39);have hx:=Tri.new w (.slice a t.rows.length c1) (.slice b t.basis.length c2) (.int .i64 t.cols) 39;have HT:Hid (Zcd w.heap.size (w.alloc (.cells #[.slice a t.rows.length c1,.slice b t.basis.length c2,.int .i64 t.cols] 39)) w.heap.size a b c1 c2 t):=⟨hx,(hz.mono hBw).below hb⟩;have HZ:=zH (hz.mono hBw);have Hb:=zH hb;have Hc:=zH hc;rw[show tabV a b c1 c2 t=.agg #[.slice a t.rows.length c1,.slice b t.basis.length c2,.int .i64 t.cols] from rfl];obtain⟨g,hg⟩:∃g,Ta.good t=g:=⟨_,rfl⟩;have HG:=zH (fun W h=>Zfb w.heap.size w.heap.size a b c1 c2 t hn g hg W h);have Hg:=zH hg;have hn1:=hn.rows;clear hz hb hx hn hg hc
 go_enter Tryz.func215,Tryz.ntmps215
 go_wp2_with fail
 refine (HG.out _ HT.out).mono ?_;rintro e w1 ⟨rfl,d,rfl⟩;clear HG;cases g with
 | false=>
  have He:=zH (show []=Ta.solR t by unfold Ta.solR;rw[Hg.out];rfl)
  go_wp2_with fail
  go_ret;exact⟨_,rfl,He.out▸Zaa.nil _ _,below_drewN Hb.out d⟩
 | true=>
  obtain⟨g0,g1,g2,g3⟩:=Ta.Za2 Hg.out;have G3:=zH g3;have He:=zH (show Ta.sol t t.rows.length=Ta.solR t by unfold Ta.solR;rw[Hg.out];rfl);generalize Ta.solR t=out at *;have hcs:=Hc.out Hg.out;have HC:=zH (fun W h=>Zcq w.heap.size w.heap.size a b c1 c2 t g0 g1 hn1 W h);clear g3 Hc;obtain⟨L,B1,C⟩:=t;simp only at g0 g1 g2 hn1 hcs;obtain⟨n,hcn⟩:∃n:Nat,C+(L.length:Int)=n:=⟨(C+(L.length:Int)).toNat,by omega⟩;have hnb:n≤2100:=by omega
  have hnL:L.length≤n:=by omega
  have Hcn:=zH hcn;have G2:=zH g2;have HC2:Hid (∀W,Zcd w.heap.size W w.heap.size a b c1 c2 ⟨L,B1,C⟩->Calls Tryz.prog 151 #[.pointer (some ⟨w.heap.size,0,none⟩)] W fun e w'=>e=.returned (.int .i64 (n:Int))/\∃d,w'=W.drewN d):=fun W h=>by rw[<-Hcn.out];exact HC.out W h
  clear g2 hcn HC
  go_wp2_with fail
  refine (HC2.out _ (HT.out.drewN d)).mono ?_;rintro e w1 ⟨rfl,d2,rfl⟩;have HZr:=zH (fun W=>Zdr n hnb W)
  go_wp2_with fail
  refine (HZr.out _).mono ?_;rintro e w1 ⟨v,rfl,ho,hb1⟩;obtain⟨av,cv,rfl,_⟩:=Zai ho;have hzl:=Zcu n;rw[hzl] at ho ⊢;have HO:Hid (Zaa (w.heap.size+1) w1 (.slice av n cv) (Ta.sol ⟨L,B1,C⟩ 0)):=by
   show Zaa _ _ _ (Lp.Za1 (C+(L.length:Int)).toNat);rw[Hcn.out];have h:=ho;rw[show ((w.alloc (.cells #[.slice a L.length c1,.slice b B1.length c2,.int .i64 C] 39)).drewN (d+d2)).heap.size=w.heap.size+1 from Zar _ _] at h;exact h
  have HB1:=zH ((below_drewN Hb.out (d+d2)).trans (hb1.mono (below_drewN Hb.out (d+d2)).size));have HX:Hid (Tri w1 w.heap.size (.slice a L.length c1) (.slice b B1.length c2) (.int .i64 C) 39):=(HT.out.drewN (d+d2)).box.below hb1;obtain⟨x0,x1,x2,_⟩:=HX.out.cells;clear ho hb1 HZr hzl
  go_wp2_with fail
  go_loopw [13] (fun i wr=>∃j:Nat,j≤B1.length/\i=.int .i64 j/\Hid (Zaa (w.heap.size+1) wr (.slice av n cv) (Ta.sol ⟨L,B1,C⟩ j))/\Hid (Tri wr w.heap.size (.slice a L.length c1) (.slice b B1.length c2) (.int .i64 C) 39)/\Hid (Below w.heap.size w wr)) (fun i _=>B1.length-(intOf i).toNat)
  case atStart=>exact⟨0,Nat.zero_le _,rfl,HO,HX,HB1⟩
  case round=>
   clear x0 x1 x2 HO HX HB1;obtain⟨j,hj,rfl,hO,hX,hB⟩:=hrel;obtain⟨x0,x1,x2,_⟩:=hX.out.cells
   by_cases hlt:j<B1.length
   ·have hltL:j<L.length:=by have:=G2.out;omega
    have hkn:n≠0:=by omega
    obtain⟨gv,rfl,hq9,hg1,hg2⟩:=Zaa.block hO.out (by rw[Ta.Zhr];show (C+(L.length:Int)).toNat≠0;rw[Hcn.out];simpa using hkn);clear hq9;have hTw:=HZ.out.below hB.out;have HTB:Hid (Zcd w.heap.size wr w.heap.size a b c1 c2 ⟨L,B1,C⟩):=⟨hX.out,hTw⟩;obtain⟨b1,o1,a1,k1,rfl,hl1,hrow,hRr⟩:=hTw.mR j hltL;obtain⟨b2,o2,rfl,_,hbas⟩:=hTw.mB j hlt;obtain⟨g31,g32,g33⟩:=G3.out j hltL;simp only at hrow hbas hRr;have g31':((rr L j).length:Int)=C+(L.length:Int)+1:=g31;obtain⟨m,hm⟩:∃m:Nat,B1.getD j 0=m:=⟨(B1.getD j 0).toNat,by have:0≤B1.getD j 0:=g32;omega⟩;have hmk:m<n:=by have h1:B1.getD j 0≤C+(L.length:Int)-1:=g33;have:=Hcn.out;omega
    have hrl:(rr L j).length=n+1:=by have:=Hcn.out;omega
    obtain⟨b3,o3,rfl,hl3,p0,p1⟩:=hRr.at n (by omega);rw[hm] at hbas;rw[hrl] at hrow;have hlS:(Ta.sol ⟨L,B1,C⟩ j).length=n:=by rw[Ta.Zhr];show (C+(L.length:Int)).toNat=n;rw[Hcn.out];simp
    have hO':Zaa (w.heap.size+1) wr (.slice (some ⟨gv,0,none⟩) (Ta.sol ⟨L,B1,C⟩ j).length cv) (Ta.sol ⟨L,B1,C⟩ j):=by rw[hlS];exact hO.out
    obtain⟨⟨v0,s0⟩,f0,⟨v1,s1⟩,f1⟩:=hO'.spots m (by omega);have HOn:Hid (Zaa (w.heap.size+1) ((wr.setCell ⟨gv,m*2,none⟩ (.int .i64 (Ve.at_ (rr L j) n).1)).setCell ⟨gv,m*2+1,none⟩ (.int .i64 (Ve.at_ (rr L j) n).2)) (.slice (some ⟨gv,0,none⟩) n cv) (Ta.sol ⟨L,B1,C⟩ (j+1))):=by
     have h:=hO'.put m (Ve.at_ (rr L j) n) (by omega);rw[hlS] at h;have e:Ta.sol ⟨L,B1,C⟩ (j+1)=(Ta.sol ⟨L,B1,C⟩ j).set m (Ve.at_ (rr L j) n):=by
      rw[Ta.Zp3];show List.set _ (B1.getD j 0).toNat (Ve.at_ (rr L j) (C+(L.length:Int)).toNat)=_;rw[hm,Hcn.out];simp
     show Zaa _ _ _ _;rw[e];exact h
    have HXn:Hid (Tri ((wr.setCell ⟨gv,m*2,none⟩ (.int .i64 (Ve.at_ (rr L j) n).1)).setCell ⟨gv,m*2+1,none⟩ (.int .i64 (Ve.at_ (rr L j) n).2)) w.heap.size (.slice (some ⟨b1,o1,none⟩) L.length c1) (.slice (some ⟨b2,o2,none⟩) B1.length c2) (.int .i64 C) 39):=
     (hX.out.other (p:=⟨gv,m*2,none⟩) (show gv≠w.heap.size by omega) _).other (p:=⟨gv,m*2+1,none⟩) (show gv≠w.heap.size by omega) _
    have HBn:=zH (Zfj hB.out (show w.heap.size≤gv by omega) (m*2) (m*2+1) (.int .i64 (Ve.at_ (rr L j) n).1) (.int .i64 (Ve.at_ (rr L j) n).2));generalize Ve.at_ (rr L j) n=x at *;have n1:(j:Int)<(L.length:Int):=by omega
    have n2:(j:Int)<(B1.length:Int):=by omega
    have n3:(m:Int)<(n:Int):=by omega
    have n4:(n:Int)<((n+1:Nat):Int):=by omega
    have n5:(n:Int)<(n:Int)+1:=by omega
    clear hO' hlS g31 g31' g32 g33 hRr hTw
    go_wp2_with fail
    refine Zi8 11 (by kernel_rfl) (by kernel_rfl) ?_;simp only[List.take_succ_cons,List.take_zero,List.drop_succ_cons,List.drop_zero]
    repeat (go_big_quiet_step ((go_at_call 151;exact Calls.quiet_of (HC2.out _ (HTB.out.drewN _)))))
    refine wpQuiet_nil ?_;intro _ hw';obtain⟨nq,hw''⟩:=hw';subst hw''
    go_wp2_with fail
    go_roundw
    case rel=>exact⟨j+1,by omega,by go_num,HOn,HXn,below_drewN HBn.out nq⟩
    case measure=>simp[intOf];omega
   ·have hje:j=L.length:=by have:=G2.out;omega
    have HF:Hid (Zaa (w.heap.size+1) wr (.slice av n cv) out):=by rw[hje] at hO;exact He.out▸hO.out
    go_wp2_with fail
    go_ret;exact⟨_,rfl,HF.out.lower (Nat.le_succ _),hB.out⟩
theorem Zp5 (B:Nat) (a b ca:Option Addr) (c1 c2 cc:Nat) (t:T) (cost:List R) (hn:Zca t) (hcl:cost.length≤1048576) (w:World) (hBw:B≤w.heap.size) (hz:Zc4 B w a b t) (hk:Zah B w ca cost) :
  Calls Tryz.prog 67 #[tabV a b c1 c2 t,.slice ca cost.length cc] w (Zcw (Ta.Zdm t cost) (Ta.Zco t cost) w):=by
 have HN:=zH hn;have HZ:=zH (hz.mono hBw);have HK:=zH (hk.mono hBw);have hb:=(Below.refl w.heap.size w).alloc (Nat.le_refl _) (.cells #[.slice a t.rows.length c1,.slice b t.basis.length c2,.int .i64 t.cols] 39);have hx:=Tri.new w (.slice a t.rows.length c1) (.slice b t.basis.length c2) (.int .i64 t.cols) 39;have Hb:=zH hb;have Hx:=zH hx;rw[show tabV a b c1 c2 t=.agg #[.slice a t.rows.length c1,.slice b t.basis.length c2,.int .i64 t.cols] from rfl];obtain⟨g,hg⟩:∃g,Ta.good t=g:=⟨_,rfl⟩;have HG:=zH (fun W (hB:w.heap.size≤W.heap.size) h=>Zf3 w.heap.size a b c1 c2 t hn g hg W hB h);rw[show tabV a b c1 c2 t=.agg #[.slice a t.rows.length c1,.slice b t.basis.length c2,.int .i64 t.cols] from rfl] at HG;obtain⟨x0,x1,x2,_⟩:=hx.cells;have Hg:=zH hg;have hn1:=hn.rows;obtain⟨RR,hRR⟩:∃RR,Ta.Zdm t cost=RR:=⟨_,rfl⟩;obtain⟨KK,hKK⟩:∃KK,Ta.Zco t cost=KK:=⟨_,rfl⟩;have HRR:=zH hRR;have HKK:=zH hKK;rw[hRR,hKK];clear hz hk hb hx hn hg hRR hKK
 go_enter Tryz.func67,Tryz.ntmps67
 go_wp2_with fail
 refine (HG.out _ Hb.out.size (HZ.out.below Hb.out)).mono ?_;rintro e w1 ⟨rfl,hb1⟩;have HB1:=zH (Hb.out.trans (hb1.mono Hb.out.size));have HX1:=zH (Hx.out.below hb1);clear x0 x1 x2 HG hb1 Hb Hx;cases g with
 | false=>
  have hk0:=Ta.Zo7 (cost:=cost) Hg.out;have Hr:Hid (([]:List R)=RR/\false=KK):=⟨by rw[<-HRR.out,Ta.Zku hk0],by rw[<-HKK.out,hk0]⟩;clear hk0;have hal:=zH (HB1.out.alloc HB1.out.size (.cells #[] 31))
  go_wp2_with fail
  go_ret2
  exact⟨_,Zc6 Hr.out.2,by rw[<-Hr.out.1];exact World.ownsRow_made _ #[] 0 HB1.out.size (Nat.zero_le _) rfl,hal.out⟩
 | true=>
  obtain⟨g0,g1,g2,g3⟩:=Ta.Za2 Hg.out;have G3:=zH g3;have G2:=zH g2;have HR:=zH HN.out.row;obtain⟨x0,x1,x2,_⟩:=HX1.out.cells;clear g3 g2 HN
  by_cases hq:(cost.length:Int)=t.cols+(t.rows.length:Int)
  ·have HE:=zH (Ta.Zj2 Hg.out hq)
   have Hq:=zH hq;have hne:((cost.length:Int) != t.cols+(t.rows.length:Int))=false:=by rw[hq];simp
   have hnb:cost.length≤1100000:=by omega
   clear hq;obtain⟨L,B1,C⟩:=t;simp only at g0 g1 hn1 x0 x1 x2 hne;have HCp:=zH (Zhw w.heap.size ca cc cost (by omega) w1 HB1.out.size (HK.out.below HB1.out))
   go_wp2_with fail
   refine HCp.out.mono ?_;rintro e w2 ⟨v2,rfl,ho2,hb2⟩;have HB2:=zH (HB1.out.trans (hb2.mono HB1.out.size));have HX2:=zH (HX1.out.below hb2);have HO2:=zH (ho2.lower HB1.out.size);have HL2:=zH (Nat.le_trans (Zab HX1.out) (Nat.le_refl _));have HO2b:Hid (∀g,v2.ownBlock=some g->g≠w.heap.size):=fun g hg=>by have:=(World.ownsRow.lt ho2 g hg).1;have:=Zab HX1.out;omega
   clear ho2 hb2 x0 x1 x2 HCp
   go_wp2_with fail
   refine (Za4 0 _).mono ?_;rintro e w3 ⟨rfl,hb3⟩;have hsz3:=HB2.out.size;have HB3:=zH (HB2.out.trans (hb3.mono hsz3));have Hown:Hid (Zaa w.heap.size (w3.alloc (.cells #[.int .i64 0,.int .i64 1] 31)) v2 cost):=Zaa.alloc (HO2.out.below hb3) (.cells #[.int .i64 0,.int .i64 1] 31);have HX3:=zH ((HX2.out.below hb3).more (.cells #[.int .i64 0,.int .i64 1] 31));have Hone:=zH (Zb2 w3 (0,1));have hsw:=HB3.out.size;clear hb3
   go_wp2_with (at_builtin;refine Zaj rfl _ _ rfl w.heap.size _ cost rfl Hown.out _ [(0,1)] 1 1 rfl rfl _ Hone.out (by simp;omega) (by rw[Zar];omega) ?_)
   intro v4 w4 hown hgrow;have HO4:=zH hown;have HB4:=zH ((HB3.out.alloc hsw (.cells #[.int .i64 0,.int .i64 1] 31)).grown hgrow (by simp;omega) (fun g hg=>(World.ownsRow.lt Hown.out g hg).1));have HX4:Hid (Tri w4 w.heap.size (.slice a L.length c1) (.slice b B1.length c2) (.int .i64 C) 39):=(hgrow.block w.heap.size (Zab HX3.out) (fun e=>HO2b.out _ e.symm rfl)).trans HX3.out;clear hown hgrow hsw hsz3;have HAV:=zH (Zit w.heap.size ca cc cost hcl w4 HB4.out.size (HK.out.below HB4.out))
   go_wp2_with fail
   refine HAV.out.mono ?_;rintro e w5 ⟨rfl,hb5⟩;have HB5:=zH (HB4.out.trans (hb5.mono HB4.out.size));have HX5:=zH (HX4.out.below hb5);have HO5:Hid (Zaa w.heap.size w5 v4 (Ta.cr ⟨L,B1,C⟩ cost 0).1):=HO4.out.below hb5;have hv0:Hid (Ve.good cost=(Ta.cr ⟨L,B1,C⟩ cost 0).2):=rfl;generalize Ve.good cost=v0 at *;clear hb5 HAV
   go_wp2_with fail
   go_loopw [6,7,8] (fun v o i wr=>∃(k:Nat) (u:Value) (ok:Bool),u=v/\o=.bool ok/\k≤L.length/\i=.int .i64 k/\Hid (ok=(Ta.cr ⟨L,B1,C⟩ cost k).2)/\Hid (Zaa w.heap.size wr u (Ta.cr ⟨L,B1,C⟩ cost k).1)/\Hid (Tri wr w.heap.size (.slice a L.length c1) (.slice b B1.length c2) (.int .i64 C) 39)/\Hid (Below w.heap.size w wr)) (fun _ _ i _=>L.length-(intOf i).toNat)
   case atStart=>exact⟨0,_,_,rfl,rfl,Nat.zero_le _,rfl,hv0,HO5,HX5,HB5⟩
   case round=>
    obtain⟨k,u,ok,rfl,rfl,hk,rfl,hOk,hO,hX,hB⟩:=hrel;obtain⟨x0,x1,x2,_⟩:=hX.out.cells
    by_cases hlt:k<L.length
    ·cases ok with
     | false=>
      have hz0:=Ta.Zgg (t:=⟨L,B1,C⟩) hOk.out.symm L.length (by omega);have hk0:KK=false:=by rw[<-HKK.out,HE.out];exact hz0
      have Hr:Hid (([]:List R)=RR/\false=KK):=⟨by rw[<-HRR.out,Ta.Zku (by rw[HKK.out];exact hk0)],hk0.symm⟩;have hal:=zH (hB.out.alloc hB.out.size (.cells #[] 31));clear hz0 hk0
      go_wp2_with fail
      go_ret2
      exact⟨_,Zc6 Hr.out.2,by rw[<-Hr.out.1];exact World.ownsRow_made _ #[] 0 hB.out.size (Nat.zero_le _) rfl,hal.out⟩
     | true=>
      have hstep:=Ta.Zkw (t:=⟨L,B1,C⟩) hOk.out.symm;have hlen:=Ta.Zkv (t:=⟨L,B1,C⟩) hOk.out.symm;have hTw:=HZ.out.below hB.out;obtain⟨b1,o1,a1,k1,rfl,hl1,hrow,hRr⟩:=hTw.mR k hlt;obtain⟨b2,o2,rfl,hl2,hbas⟩:=hTw.mB k (by have:=G2.out;simp only at this ⊢;omega);obtain⟨g31,g32,g33⟩:=G3.out k hlt;simp only at hrow hbas hRr;obtain⟨j,hj⟩:∃j:Nat,B1.getD k 0=j:=⟨(B1.getD k 0).toNat,by have:0≤B1.getD k 0:=g32;omega⟩;have hjc:j<cost.length:=by have h1:B1.getD k 0≤C+(L.length:Int)-1:=g33;have h2:(cost.length:Int)=C+(L.length:Int):=Hq.out;omega
      obtain⟨b3,o3,rfl,hl3,p0,p1⟩:=(HK.out.below hB.out).at j hjc;rw[hj] at hbas;have hsz:=hB.out.size;have HRl:Hid ((rr L k).length≤1048576):=HR.out k hlt;have hstep':Ta.cr ⟨L,B1,C⟩ cost (k+1)=(Ve.scR (Ta.cr ⟨L,B1,C⟩ cost k).1 (Ta.negR (Ve.at_ cost j)) (rr L k),Ve.scK (Ta.cr ⟨L,B1,C⟩ cost k).1 (Ta.negR (Ve.at_ cost j)) (rr L k)):=by
       rw[hstep];have e1:(Ta.bas ⟨L,B1,C⟩ k).toNat=j:=by show (B1.getD k 0).toNat=j;rw[hj];simp
       rw[e1];rfl
      have Hstep:=zH hstep';obtain⟨au,cu,rfl,hur,_⟩:=Zai hO.out;have Hur:=zH hur;have hxl:(Ta.cr ⟨L,B1,C⟩ cost k).1.length≤1048576:=by have h1:((rr L k).length:Int)=C+(L.length:Int)+1:=g31;have h2:(cost.length:Int)=C+(L.length:Int):=Hq.out;have h3:=HRl.out;omega
      generalize (Ta.cr ⟨L,B1,C⟩ cost k).1=xs at *;have HRr:=zH hRr;have Cell:=zH (fun w' (h:Since wr w')=>(show w'.cell? ⟨w.heap.size,0,none⟩=some (.slice (some ⟨b1,o1,none⟩) L.length c1)/\w'.cell? ⟨w.heap.size,1,none⟩=some (.slice (some ⟨b2,o2,none⟩) B1.length c2)/\w'.cell? ⟨b2,o2+k,none⟩=some (.int .i64 j)/\w'.cell? ⟨b3,o3+j*2,none⟩=some (.int .i64 (Ve.at_ cost j).1)/\w'.cell? ⟨b3,o3+j*2+1,none⟩=some (.int .i64 (Ve.at_ cost j).2)/\w'.cell? ⟨b1,o1+k,none⟩=some (.slice a1 (rr L k).length k1)/\Since wr w' from
       ⟨h.cell (p:=⟨w.heap.size,0,none⟩) (Zab hX.out) x0,h.cell (p:=⟨w.heap.size,1,none⟩) (Zab hX.out) x1,h.cell (p:=⟨b2,o2+k,none⟩) (show b2<wr.heap.size by omega) hbas,h.cell (p:=⟨b3,o3+j*2,none⟩) (show b3<wr.heap.size by omega) p0,h.cell (p:=⟨b3,o3+j*2+1,none⟩) (show b3<wr.heap.size by omega) p1,h.cell (p:=⟨b1,o1+k,none⟩) (show b1<wr.heap.size by omega) hrow,h⟩))
      have HX':=zH (fun w' (h:Since wr w')=>hX.out.below h.low);generalize Ve.at_ cost j=x at *;have HAS:=zH (fun w' (h:Since wr w')=>Zg6 h (Zhh wr.heap.size au a1 cu k1 xs (Ta.negR x) (rr L k) hxl HRl.out w' h.low.size (Hur.out.below h.low) ((HRr.out.below (h.low.mono hsz)).mono hsz)));rw[show (Ta.negR x).1=Ta.w64 (-x.1) from rfl,show (Ta.negR x).2=x.2 from rfl,<-Zi0] at HAS;have hin:=Since.refl wr;have n1:(k:Int)<(L.length:Int):=by omega
      have n2:(k:Int)<(B1.length:Int):=by have:B1.length=L.length:=G2.out;omega
      have n3:(j:Int)<(cost.length:Int):=by omega
      clear hstep hstep' hlen hTw g31 g32 g33 hRr p0 p1 hbas hrow hur;generalize (rr L k)=row at *
      go_wp2_with fail
      go_region_held3 (fun w'=>w'.cell? ⟨w.heap.size,0,none⟩=some (.slice (some ⟨b1,o1,none⟩) L.length c1)/\w'.cell? ⟨w.heap.size,1,none⟩=some (.slice (some ⟨b2,o2,none⟩) B1.length c2)/\w'.cell? ⟨b2,o2+k,none⟩=some (.int .i64 j)/\w'.cell? ⟨b3,o3+j*2,none⟩=some (.int .i64 x.1)/\w'.cell? ⟨b3,o3+j*2+1,none⟩=some (.int .i64 x.2)/\w'.cell? ⟨b1,o1+k,none⟩=some (.slice a1 row.length k1)/\Since wr w') (first|exact Cell.out _ (by assumption) | exact Cell.out _ (Since.drew (by assumption)))
       (first | (go_at_call 148;refine (HAS.out _ (by first|assumption|exact Since.drew (by assumption))).mono ?_;rintro e w' ⟨⟨v,rfl,ho⟩,hin2⟩))
      have HO6:Hid (Zaa w.heap.size w' v (Ta.cr ⟨L,B1,C⟩ cost (k+1)).1):=by rw[Hstep.out];exact ho.lower hsz
      have HK6:Hid (Ve.scK xs (Ta.negR x) row=(Ta.cr ⟨L,B1,C⟩ cost (k+1)).2):=by rw[Hstep.out];rfl
      have HX6:=HX'.out w' hin2;have HX6:=zH HX6;have HB6:=zH (hB.out.trans (hin2.low.mono hsz));generalize Ve.scK xs (Ta.negR x) row=k6 at *;clear ho hin hin2 Cell HX' HAS x0 x1 x2
      go_wp2_with fail
      go_roundw
      case rel=>exact⟨k+1,_,_,rfl,rfl,by omega,by go_num,HK6,HO6,HX6,HB6⟩
      case measure=>simp[intOf];omega
    ·have he:k=L.length:=by omega
     rw[he] at hOk hO;have HE2:Hid (ok=KK):=by show _=_;rw[<-HKK.out,HE.out];exact hOk.out
     cases ok with
     | false=>
      have Hr:Hid (([]:List R)=RR/\false=KK):=⟨by rw[<-HRR.out,Ta.Zku (by rw[HKK.out];exact HE2.out.symm)],HE2.out⟩;have hal:=zH (hB.out.alloc hB.out.size (.cells #[] 31));clear HE2 he
      go_wp2_with fail
      go_ret2
      exact⟨_,Zc6 Hr.out.2,by rw[<-Hr.out.1];exact World.ownsRow_made _ #[] 0 hB.out.size (Nat.zero_le _) rfl,hal.out⟩
     | true=>
      have HF:Hid (Zaa w.heap.size wr u RR):=by
       have h:=Ta.Zsa (t:=⟨L,B1,C⟩) (cost:=cost) (by rw[HKK.out];exact HE2.out.symm);rw[HRR.out] at h;rw[h];exact hO.out
      clear he
      go_wp2_with fail
      go_ret2
      exact⟨_,Zc6 HE2.out,HF.out,hB.out⟩
  ·have hk0:=Ta.Zks (cost:=cost) (t:=t) hq
   have Hr:Hid (([]:List R)=RR/\false=KK):=⟨by rw[<-HRR.out,Ta.Zku hk0],by rw[<-HKK.out,hk0]⟩;have hne:((cost.length:Int) != t.cols+(t.rows.length:Int))=true:=by rw[bne_iff_ne];exact hq
   clear hk0 hq;have hal:=zH (HB1.out.alloc HB1.out.size (.cells #[] 31))
   go_wp2_with fail
   go_ret2
   exact⟨_,Zc6 Hr.out.2,by rw[<-Hr.out.1];exact World.ownsRow_made _ #[] 0 HB1.out.size (Nat.zero_le _) rfl,hal.out⟩
theorem Ztf (x y:R) (w:World):Calls Tryz.prog 78 #[.agg #[.int .i64 x.1,.int .i64 x.2],.agg #[.int .i64 y.1,.int .i64 y.2]] w fun e w'=>e=.returned (.int .i64 (Ta.how x y))/\Below w.heap.size w w':=Zgy x.1 x.2 y.1 y.2 w
theorem Zso (x y:R) (w:World):Calls Tryz.prog 47 #[.agg #[.int .i64 x.1,.int .i64 x.2],.agg #[.int .i64 y.1,.int .i64 y.2]] w fun e w'=>e=.returned (.int .i64 (Ta.how x y))/\Below w.heap.size w w':=Zgm x.1 x.2 y.1 y.2 w
theorem Zsp (x y:R) (w:World):Calls Tryz.prog 152 #[.agg #[.int .i64 x.1,.int .i64 x.2],.agg #[.int .i64 y.1,.int .i64 y.2]] w fun e w'=>e=.returned (.tuple #[.agg #[.int .i64 (Ta.divR x y).1,.int .i64 (Ta.divR x y).2],.bool (Ta.divK x y)])/\Below w.heap.size w w':=Zq9 x.1 x.2 y.1 y.2 w
theorem Zhv (x:R) (w:World):Calls Tryz.prog 71 #[.agg #[.int .i64 x.1,.int .i64 x.2]] w fun e w'=>e=.returned (.int .i64 (Ta.sgn x))/\Below w.heap.size w w':=by
 have Hb:=zH ((Below.refl w.heap.size w).alloc (Nat.le_refl _) (.cells #[.int .i64 x.1,.int .i64 x.2] 31));have hx:=Zau.new w x;obtain⟨x0,x1,_,_⟩:=hx.four;have Hx:=zH hx;have HC:=zH (fun W=>Ztf x (0,1) W);have Hs:=zH (show Ta.how x (0,1)=Ta.sgn x from rfl);obtain⟨s,hs⟩:∃s,Ta.sgn x=s:=⟨_,rfl⟩;rw[hs];rw[hs] at Hs;clear hs hx
 go_enter Tryz.func71,Tryz.ntmps71
 go_upto_region 1 with fail
 generalize hW:w.alloc (.cells #[.int .i64 x.1,.int .i64 x.2] 31)=W at *;have hin:=(Since.refl W);have Cell:=zH (fun w' (h:Since W w')=>(show w'.cell? ⟨w.heap.size,0,none⟩=some (.int .i64 x.1)/\w'.cell? ⟨w.heap.size,1,none⟩=some (.int .i64 x.2)/\Since W w' from
  ⟨h.cell (p:=⟨w.heap.size,0,none⟩) Hx.out.lt x0,h.cell (p:=⟨w.heap.size,1,none⟩) Hx.out.lt x1,h⟩))
 clear hW
 go_region_held3 (fun w'=>w'.cell? ⟨w.heap.size,0,none⟩=some (.int .i64 x.1)/\w'.cell? ⟨w.heap.size,1,none⟩=some (.int .i64 x.2)/\Since W w') (first|exact Cell.out _ (by assumption) | exact Cell.out _ (Since.drew (by assumption)))
  (first
   | (go_at_call 91;refine (Za9 (Za4 0 _) (by first|assumption|exact Since.drew (by assumption))).mono ?_;rintro e w' ⟨⟨rfl,_⟩,hin2⟩)
   | (go_at_call 78;refine (Za9 (HC.out _) (by first|assumption|exact Since.drew (by assumption))).mono ?_;rintro e w' ⟨⟨rfl,_⟩,hin2⟩))
 go_wp2_with fail
 go_ret;exact⟨Za8 Hs.out,Hb.out.trans (Below.mono (Since.low (B:=W) (by assumption)) Hb.out.size)⟩
theorem Zht (B:Nat) (a b ca:Option Addr) (c1 c2 cc:Nat) (t:T) (cost:List R) (last:Int) (hl0:(Lit.int .i64 last).wf=true) (hn:cost.length≤1048576) (w:World) (hBw:B≤w.heap.size) (h1:Zah B w ca cost) :
  Calls Tryz.prog 16 #[tabV a b c1 c2 t,.slice ca cost.length cc,.int .i64 last] w fun e w'=>e=.returned (.int .i64 (Ta.entR cost last))/\Below w.heap.size w w':=by
 obtain⟨RR,hRR⟩:∃RR,Ta.entR cost last=RR:=⟨_,rfl⟩;rw[hRR];have HRR:=zH hRR;have hb:=(Below.refl w.heap.size w).alloc (Nat.le_refl _) (.cells #[.slice a t.rows.length c1,.slice b t.basis.length c2,.int .i64 t.cols] 39);have H1:=zH (h1.mono hBw);have Hb:=zH hb;obtain⟨hlA,hlB⟩:=Zjg hl0;rw[show tabV a b c1 c2 t=.agg #[.slice a t.rows.length c1,.slice b t.basis.length c2,.int .i64 t.cols] from rfl];clear h1 hb hRR hl0
 by_cases hq:last≤(cost.length:Int)
 ·have hd0:decide (last≤(cost.length:Int))=true:=by rw[decide_eq_true_iff];exact hq
  have HE:Hid (Ta.ent cost last.toNat=RR):=by show _=_;rw[<-HRR.out];unfold Ta.entR;rw[if_pos hq]
  go_enter Tryz.func16,Tryz.ntmps16
  go_wp2_with fail
  go_loopw [7] (fun i wr=>∃k:Nat,k≤cost.length/\i=.int .i64 k/\Hid (∀j,j<k->0≤Ta.sgn (Ve.at_ cost j))/\Hid (k≤last.toNat)/\Hid (Below w.heap.size w wr)) (fun i _=>cost.length-(intOf i).toNat)
  case atStart=>exact⟨0,Nat.zero_le _,rfl,fun j hj=>absurd hj (by omega),Nat.zero_le _,Hb.out⟩
  case round=>
   obtain⟨k,hk,rfl,hA,hL,hB⟩:=hrel
   by_cases hlt:(k:Int)<last
   ·have hkc:k<cost.length:=by omega
    have hd1:decide ((k:Int)<last)=true:=by rw[decide_eq_true_iff];exact hlt
    obtain⟨b1,o1,rfl,l1,p0,p1⟩:=(H1.out.below hB.out).at k hkc;have n1:(k:Int)<(cost.length:Int):=by omega
    have hsz:=hB.out.size;have Hyes:=zH (fun h:Ta.sgn (Ve.at_ cost k)<0=>(show (k:Int)=RR from (Ta.Zky (fun i hi=>by have:=hA.out i hi;omega) h last.toNat (by omega)).symm.trans HE.out));have Hno:=zH (fun h:0≤Ta.sgn (Ve.at_ cost k)=>(fun j (hj:j<k+1)=>(show 0≤Ta.sgn (Ve.at_ cost j) from by
     by_cases e:j=k
     ·subst e;exact h
     ·exact hA.out j (by omega))))
    generalize Ve.at_ cost k=x at *
    go_wp2_with fail
    refine (Zhv x _).mono ?_;rintro e w1 ⟨rfl,hb1⟩;have Hb2:=zH (hB.out.trans (hb1.mono hsz));generalize Ta.sgn x=s at *;clear hb1 p0 p1
    by_cases hs:s<0
    ·have hd2:decide (s<0)=true:=by rw[decide_eq_true_iff];exact hs
     have Hr:=zH (Hyes.out hs)
     go_wp2_with fail
     go_ret;exact⟨Za8 Hr.out,Hb2.out⟩
    ·have hd2:decide (s<0)=false:=by rw[decide_eq_false_iff_not];exact hs
     have HA2:=zH (Hno.out (by omega));have HL2:Hid (k+1≤last.toNat):=by show _≤_;omega
     go_wp2_with fail
     go_roundw
     case rel=>exact⟨k+1,by omega,by go_num,HA2,HL2,Hb2⟩
     case measure=>simp[intOf];omega
   ·have hd1:decide ((k:Int)<last)=false:=by rw[decide_eq_false_iff_not];exact hlt
    have Hr:Hid (-1=RR):=by
     show _=_;have e:=Ta.Zj3 (cost:=cost) (k:=k) (fun i hi=>by have:=hA.out i hi;omega);have:k=last.toNat:=by have:=hL.out;omega
     rw[<-HE.out,<-this,e]
    go_wp2_with fail
    go_ret;exact⟨Za8 Hr.out,hB.out⟩
 ·have hd0:decide (last≤(cost.length:Int))=false:=by rw[decide_eq_false_iff_not];exact hq
  have Hr:Hid (-1=RR):=by show _=_;rw[<-HRR.out];unfold Ta.entR;rw[if_neg hq]
  by_cases hz:(0:Int)<last
  ·have hd1:decide ((0:Int)<last)=true:=by rw[decide_eq_true_iff];exact hz
   go_enter Tryz.func16,Tryz.ntmps16
   go_wp2_with fail
   go_loopw [7] (fun i wr=>i=.int .i64 0/\Hid (Below w.heap.size w wr)) (fun i _=>5-(intOf i).toNat)
   case atStart=>exact⟨rfl,Hb.out⟩
   case round=>
    obtain⟨rfl,hB⟩:=hrel
    go_wp2_with fail
    go_ret;exact⟨Za8 Hr.out,hB.out⟩
  ·have hz2:(cost.length:Int)<last:=by omega
   exact absurd hz2 (by omega)
theorem Zhn (B:Nat) (a b ca:Option Addr) (c1 c2 cc:Nat) (t:T) (cost:List R) (last:Int) (hl0:(Lit.int .i64 last).wf=true) (hn:cost.length≤1048576) (w:World) (hBw:B≤w.heap.size) (h1:Zah B w ca cost) :
  Calls Tryz.prog 15 #[tabV a b c1 c2 t,.slice ca cost.length cc,.int .i64 last] w fun e w'=>e=.returned (.int .i64 (Ta.entR cost last))/\Below w.heap.size w w':=by
 obtain⟨RR,hRR⟩:∃RR,Ta.entR cost last=RR:=⟨_,rfl⟩;rw[hRR];have HRR:=zH hRR;have hb:=(Below.refl w.heap.size w).alloc (Nat.le_refl _) (.cells #[.slice a t.rows.length c1,.slice b t.basis.length c2,.int .i64 t.cols] 39);have H1:=zH (h1.mono hBw);have Hb:=zH hb;obtain⟨hlA,hlB⟩:=Zjg hl0;rw[show tabV a b c1 c2 t=.agg #[.slice a t.rows.length c1,.slice b t.basis.length c2,.int .i64 t.cols] from rfl];clear h1 hb hRR hl0
 by_cases hq:last≤(cost.length:Int)
 ·have hd0:decide (last>(cost.length:Int))=false:=by rw[decide_eq_false_iff_not];omega
  have HE:Hid (Ta.ent cost last.toNat=RR):=by show _=_;rw[<-HRR.out];unfold Ta.entR;rw[if_pos hq]
  go_enter Tryz.func15,Tryz.ntmps15
  go_wp2_with fail
  go_loopw [13,7] (fun i v7 wr=>∃k:Nat,k≤cost.length/\i=.int .i64 k/\Hid (∀j,j<k->0≤Ta.sgn (Ve.at_ cost j))/\Hid (k≤last.toNat)/\Hid (Below w.heap.size w wr)) (fun i _ _=>cost.length-(intOf i).toNat)
  case atStart=>exact⟨0,Nat.zero_le _,rfl,fun j hj=>absurd hj (by omega),Nat.zero_le _,Hb.out⟩
  case round=>
   obtain⟨k,hk,rfl,hA,hL,hB⟩:=hrel
   by_cases hlt:(k:Int)<last
   ·have hkc:k<cost.length:=by omega
    have hd1:decide ((k:Int)<last)=true:=by rw[decide_eq_true_iff];exact hlt
    obtain⟨b1,o1,rfl,l1,p0,p1⟩:=(H1.out.below hB.out).at k hkc;have n1:(k:Int)<(cost.length:Int):=by omega
    have hsz:=hB.out.size;have Hyes:=zH (fun h:Ta.sgn (Ve.at_ cost k)<0=>(show (k:Int)=RR from (Ta.Zky (fun i hi=>by have:=hA.out i hi;omega) h last.toNat (by omega)).symm.trans HE.out));have Hno:=zH (fun h:0≤Ta.sgn (Ve.at_ cost k)=>(fun j (hj:j<k+1)=>(show 0≤Ta.sgn (Ve.at_ cost j) from by
     by_cases e:j=k
     ·subst e;exact h
     ·exact hA.out j (by omega))))
    generalize Ve.at_ cost k=x at *
    go_wp2_with fail
    refine (Zso x (0,1) _).mono ?_;rintro e w1 ⟨rfl,hb1⟩;rw[show Ta.how x (0,1)=Ta.sgn x from rfl];have Hb2:=zH (hB.out.trans (hb1.mono hsz));generalize Ta.sgn x=s at *;clear hb1 p0 p1
    by_cases hs:s<0
    ·have hd2:decide (s<0)=true:=by rw[decide_eq_true_iff];exact hs
     have Hr:=zH (Hyes.out hs)
     go_wp2_with fail
     go_ret;exact⟨Za8 Hr.out,Hb2.out⟩
    ·have hd2:decide (s<0)=false:=by rw[decide_eq_false_iff_not];exact hs
     have HA2:=zH (Hno.out (by omega));have HL2:Hid (k+1≤last.toNat):=by show _≤_;omega
     go_wp2_with fail
     go_roundw
     case rel=>exact⟨k+1,by omega,by go_num,HA2,HL2,Hb2⟩
     case measure=>simp[intOf];omega
   ·have hd1:decide ((k:Int)<last)=false:=by rw[decide_eq_false_iff_not];exact hlt
    have Hr:Hid (-1=RR):=by
     show _=_;have e:=Ta.Zj3 (cost:=cost) (k:=k) (fun i hi=>by have:=hA.out i hi;omega);have:k=last.toNat:=by have:=hL.out;omega
     rw[<-HE.out,<-this,e]
    go_wp2_with fail
    go_ret;exact⟨Za8 Hr.out,hB.out⟩
 ·have hd0:decide (last>(cost.length:Int))=true:=by rw[decide_eq_true_iff];omega
  have Hr:Hid (-1=RR):=by show _=_;rw[<-HRR.out];unfold Ta.entR;rw[if_neg hq]
  go_enter Tryz.func15,Tryz.ntmps15
  go_wp2_with fail
  go_ret;exact⟨Za8 Hr.out,Hb.out⟩
theorem Zea {a b:Bool} (h:a=b):(Value.bool a)=.bool b:=by rw[h]
theorem Zl1 (B:Nat) (a b:Option Addr) (c1 c2:Nat) (t:T) (c:Int) (hc0:(Lit.int .i64 c).wf=true) (hn:Zca t) (w:World) (hBw:B≤w.heap.size) (hz:Zc4 B w a b t) :
  Calls Tryz.prog 18 #[tabV a b c1 c2 t,.int .i64 c] w fun e w'=>e=.returned (.int .i64 (Ta.lvR t c))/\Below w.heap.size w w':=by
 obtain⟨RR,hRR⟩:∃RR,Ta.lvR t c=RR:=⟨_,rfl⟩;rw[hRR];have HRR:=zH hRR;have hb:=(Below.refl w.heap.size w).alloc (Nat.le_refl _) (.cells #[.slice a t.rows.length c1,.slice b t.basis.length c2,.int .i64 t.cols] 39);have hx:=Tri.new w (.slice a t.rows.length c1) (.slice b t.basis.length c2) (.int .i64 t.cols) 39;have HZ:=zH (hz.mono hBw);have Hb:=zH hb;have Hx:=zH hx;obtain⟨hcA,hcB⟩:=Zjg hc0;rw[show tabV a b c1 c2 t=.agg #[.slice a t.rows.length c1,.slice b t.basis.length c2,.int .i64 t.cols] from rfl];obtain⟨g,hg⟩:∃g,Ta.good t=g:=⟨_,rfl⟩;have HG:=zH (fun W (hB:w.heap.size≤W.heap.size) h=>Zf3 w.heap.size a b c1 c2 t hn g hg W hB h);rw[show tabV a b c1 c2 t=.agg #[.slice a t.rows.length c1,.slice b t.basis.length c2,.int .i64 t.cols] from rfl] at HG;obtain⟨x0,x1,x2,_⟩:=hx.cells;have Hg:=zH hg;have hn1:=hn.rows;have HN:=zH hn;clear hz hb hx hg hRR hc0 hn
 go_enter Tryz.func18,Tryz.ntmps18
 go_wp2_with fail
 refine (HG.out _ Hb.out.size (HZ.out.below Hb.out)).mono ?_;rintro e w1 ⟨rfl,hb1⟩;have HB1:=zH (Hb.out.trans (hb1.mono Hb.out.size));have HX1:=zH (Hx.out.below hb1);clear x0 x1 x2 HG hb1 Hb Hx;cases g with
 | false=>
  have Hr:Hid (-1=RR):=by show _=_;rw[<-HRR.out,Ta.Zvu Hg.out]
  go_wp2_with fail
  go_ret;exact⟨Za8 Hr.out,HB1.out⟩
 | true=>
  obtain⟨g0,g1,g2,g3⟩:=Ta.Za2 Hg.out;have G3:=zH g3;have G2:=zH g2;have HR:=zH HN.out.row;obtain⟨x0,x1,x2,_⟩:=HX1.out.cells;clear g3 g2 HN;obtain⟨q,hq⟩:∃q,decide (0≤c/\c≤t.cols+(t.rows.length:Int)-1)=q:=⟨_,rfl⟩;have Hq:=zH hq;clear hq
  go_wp2_with fail
  refine (Zlf c 0 (t.cols+(t.rows.length:Int)-1) q Hq.out _).mono ?_;rintro e w2 ⟨rfl,rfl⟩;cases q with
  | false=>
   have Hr:Hid (-1=RR):=by show _=_;rw[<-HRR.out,Ta.Zvt Hq.out]
   go_wp2_with fail
   go_ret;exact⟨Za8 Hr.out,HB1.out⟩
  | true=>
   have hcc:=of_decide_eq_true Hq.out;obtain⟨cn,rfl⟩:∃n:Nat,c=n:=⟨c.toNat,by omega⟩;have HE:Hid ((Ta.lv t cn t.rows.length).1=RR):=by show _=_;rw[<-HRR.out,Ta.Z0c Hg.out Hq.out]
   have hcs:t.cols+(t.rows.length:Int)≤1100000:=by omega
   obtain⟨L,B1,C⟩:=t;simp only at g0 g1 hn1 x0 x1 x2 hcc hcs;obtain⟨n,hcn⟩:∃n:Nat,C+(L.length:Int)=n:=⟨(C+(L.length:Int)).toNat,by omega⟩;have hnb:n≤1100000:=by omega
   have hcn2:cn<n:=by omega
   have Hcn:=zH hcn;have HL0:=zH (Zau.new w2 (0,0));have HX2:=zH (HX1.out.more (.cells #[.int .i64 0,.int .i64 0] 31));have HB2:=zH (HB1.out.alloc HB1.out.size (.cells #[.int .i64 0,.int .i64 0] 31));have hl1:=Zab HX1.out;have hlw2:=HB1.out.size;have hlw:=HB1.out.size;clear HX1 HB1 x0 x1 x2 hcc hcs hcn
   go_wp2_with fail
   go_loopw [5,7] (fun bv i wr=>∃(k:Nat) (best:Int),k≤L.length/\-1≤best/\best<k/\bv=.int .i64 best/\i=.int .i64 k/\Hid (best=(Ta.lv ⟨L,B1,C⟩ cn k).1)/\Hid (Zau wr w2.heap.size (Ta.lv ⟨L,B1,C⟩ cn k).2)/\Hid (Tri wr w.heap.size (.slice a L.length c1) (.slice b B1.length c2) (.int .i64 C) 39)/\Hid (Below w.heap.size w wr)) (fun _ i _=>L.length-(intOf i).toNat)
   case atStart=>exact⟨0,-1,Nat.zero_le _,by omega,by omega,rfl,rfl,rfl,HL0,HX2,HB2⟩
   case round=>
    clear HL0 HX2 HB2;obtain⟨k,best,hk,hb0,hb1,rfl,rfl,hBe,hLe,hX,hB⟩:=hrel;obtain⟨x0,x1,x2,_⟩:=hX.out.cells
    by_cases hlt:k<L.length
    ·have hTw:=HZ.out.below hB.out
     obtain⟨b1,o1,a1,k1,rfl,hl1',hrow,hRr⟩:=hTw.mR k hlt;obtain⟨b2,o2,rfl,hl2',hbas⟩:=hTw.mB k (by have:=G2.out;simp only at this ⊢;omega);obtain⟨g31,g32,g33⟩:=G3.out k hlt;simp only at hrow hbas hRr;have g31':((rr L k).length:Int)=C+(L.length:Int)+1:=g31;have hrl:(rr L k).length=n+1:=by have:=Hcn.out;omega
     obtain⟨b3,o3,rfl,hl3,p0,p1⟩:=hRr.at cn (by omega);obtain⟨b4,o4,hh4,_,r0,r1⟩:=hRr.at n (by omega);simp only[Option.some.injEq,Addr.mk.injEq] at hh4;obtain⟨rfl,rfl,_⟩:=hh4;rw[hrl] at hrow;obtain⟨l0,l1,_,_⟩:=hLe.out.four;obtain⟨x,hxx⟩:∃x,Ve.at_ (rr L k) cn=x:=⟨_,rfl⟩;obtain⟨y,hyy⟩:∃y,Ve.at_ (rr L k) n=y:=⟨_,rfl⟩;obtain⟨le,hle⟩:∃le,(Ta.lv ⟨L,B1,C⟩ cn k).2=le:=⟨_,rfl⟩;have Hok:Hid (Ta.lvOk ⟨L,B1,C⟩ cn k=(decide (0<Ta.sgn x) && Ta.divK y x)):=by
      show _=_;unfold Ta.lvOk;have e:(C+(L.length:Int)).toNat=n:=by rw[Hcn.out];simp
      show (decide (0<Ta.sgn (Ve.at_ (rr L k) cn)) && Ta.divK (Ve.at_ (rr L k) (C+(L.length:Int)).toNat) (Ve.at_ (rr L k) cn))=_;rw[e,hxx,hyy]
     have HQ:Hid (Ta.lvQ ⟨L,B1,C⟩ cn k=Ta.divR y x):=by
      show Ta.divR (Ve.at_ (rr L k) (C+(L.length:Int)).toNat) (Ve.at_ (rr L k) cn)=_;have e:(C+(L.length:Int)).toNat=n:=by rw[Hcn.out];simp
      rw[e,hxx,hyy]
     have hsz:=hB.out.size;have HXb:=zH (Zau.new wr x);have HB3:=zH (hB.out.alloc hsz (.cells #[.int .i64 x.1,.int .i64 x.2] 31));have hs1:IntKind.i64.wrap (C+(L.length:Int))=(n:Int):=by rw[Hcn.out];exact IntWalk.i64_in _ (by omega)
     rw[hle] at l0 l1 hLe;rw[hxx] at p0 p1;rw[hyy] at r0 r1;have n1:(k:Int)<(L.length:Int):=by omega
     have n3:(cn:Int)<((n+1:Nat):Int):=by omega
     have n4:(n:Int)<((n+1:Nat):Int):=by omega
     have n5:(n:Int)<(n:Int)+1:=by omega
     have n6:(cn:Int)<(n:Int)+1:=by omega
     clear hxx hyy hRr hTw g31 g31' g32 g33;have Hbas:Hid (Ta.bas ⟨L,B1,C⟩ k=B1.getD k 0):=rfl;have Hbest:Hid (∀bn:Nat,bn<k->∃z,B1.getD bn 0=z/\∀W,Below w.heap.size w W->W.cell? ⟨b2,o2+bn,none⟩=some (.int .i64 z)):=fun bn hbn=>⟨_,rfl,fun W hW=>by
      obtain⟨b',o',e,_,h⟩:=(HZ.out.below hW).mB bn (by have:=G2.out;simp only at this ⊢;omega);simp only[Option.some.injEq,Addr.mk.injEq] at e;obtain⟨rfl,rfl,_⟩:=e;exact h⟩
     have Hbk:Hid (∀W,Below w.heap.size w W->W.cell? ⟨b2,o2+k,none⟩=some (.int .i64 (B1.getD k 0))):=fun W hW=>by
      obtain⟨b',o',e,_,h⟩:=(HZ.out.below hW).mB k (by have:=G2.out;simp only at this ⊢;omega);simp only[Option.some.injEq,Addr.mk.injEq] at e;obtain⟨rfl,rfl,_⟩:=e;exact h
     generalize B1.getD k 0=bk at *;have n2:(k:Int)<(B1.length:Int):=by have h:B1.length=L.length:=G2.out;omega
     go_upto_region 9 with fail
     obtain⟨W3,hW3⟩:∃W3,wr.alloc (.cells #[.int .i64 x.1,.int .i64 x.2] 31)=W3:=⟨_,rfl⟩;rw[hW3] at HXb HB3 ⊢;have h3:Since wr W3:=by rw[<-hW3];exact (Since.refl wr).alloc _
     have hlr:w2.heap.size<wr.heap.size:=hLe.out.lt;have hxr:=Zab hX.out;have hz3:wr.heap.size<W3.heap.size:=HXb.out.lt;obtain⟨y0,y1,_,_⟩:=HXb.out.four;have X3:=zH (hX.out.below h3.low);have L3:=zH (hLe.out.since h3);have Cell:=zH (fun w' (h:Since W3 w')=>(show w'.cell? ⟨w.heap.size,0,none⟩=some (.slice (some ⟨b1,o1,none⟩) L.length c1)/\w'.cell? ⟨w.heap.size,2,none⟩=some (.int .i64 C)/\w'.cell? ⟨b1,o1+k,none⟩=some (.slice (some ⟨b3,o3,none⟩) (n+1) k1)/\w'.cell? ⟨b3,o3+n*2,none⟩=some (.int .i64 y.1)/\w'.cell? ⟨b3,o3+n*2+1,none⟩=some (.int .i64 y.2)/\w'.cell? ⟨wr.heap.size,0,none⟩=some (.int .i64 x.1)/\w'.cell? ⟨wr.heap.size,1,none⟩=some (.int .i64 x.2)/\Since W3 w' from
      ⟨h.cell (p:=⟨w.heap.size,0,none⟩) (show w.heap.size<W3.heap.size by omega) (h3.cell (p:=⟨w.heap.size,0,none⟩) hxr x0),h.cell (p:=⟨w.heap.size,2,none⟩) (show w.heap.size<W3.heap.size by omega) (h3.cell (p:=⟨w.heap.size,2,none⟩) hxr x2),h.cell (p:=⟨b1,o1+k,none⟩) (show b1<W3.heap.size by omega) (h3.cell (p:=⟨b1,o1+k,none⟩) (show b1<wr.heap.size by omega) hrow),h.cell (p:=⟨b3,o3+n*2,none⟩) (show b3<W3.heap.size by omega) (h3.cell (p:=⟨b3,o3+n*2,none⟩) (show b3<wr.heap.size by omega) r0),h.cell (p:=⟨b3,o3+n*2+1,none⟩) (show b3<W3.heap.size by omega) (h3.cell (p:=⟨b3,o3+n*2+1,none⟩) (show b3<wr.heap.size by omega) r1),h.cell (p:=⟨wr.heap.size,0,none⟩) hz3 y0,h.cell (p:=⟨wr.heap.size,1,none⟩) hz3 y1,h⟩))
     have Hsz:=zH (show w.heap.size<wr.heap.size/\w2.heap.size<wr.heap.size/\wr.heap.size<W3.heap.size/\w.heap.size≤wr.heap.size/\w.heap.size<w2.heap.size from ⟨hxr,hlr,hz3,hsz,hl1⟩);have Y0:=zH (And.intro y0 y1);have hin:=Since.refl W3;clear hW3 h3 x0 x1 x2 hrow r0 r1 p0 p1 l0 l1 y0 y1 hLe hX hB hlr hxr hz3 hl3 hl1' hl2' hbas hsz
     go_cut [9,10] (fun p b wx=>Got W3 (Ta.divR y x).1 (Ta.divR y x).2 (Ta.divK y x) p b wx)
     case first=>
      go_region_held3 (fun w'=>w'.cell? ⟨w.heap.size,0,none⟩=some (.slice (some ⟨b1,o1,none⟩) L.length c1)/\w'.cell? ⟨w.heap.size,2,none⟩=some (.int .i64 C)/\w'.cell? ⟨b1,o1+k,none⟩=some (.slice (some ⟨b3,o3,none⟩) (n+1) k1)/\w'.cell? ⟨b3,o3+n*2,none⟩=some (.int .i64 y.1)/\w'.cell? ⟨b3,o3+n*2+1,none⟩=some (.int .i64 y.2)/\w'.cell? ⟨wr.heap.size,0,none⟩=some (.int .i64 x.1)/\w'.cell? ⟨wr.heap.size,1,none⟩=some (.int .i64 x.2)/\Since W3 w') (first|exact Cell.out _ (by assumption) | exact Cell.out _ (Since.drew (by assumption)) | exact Cell.out _ (Own2.since (by assumption)) | exact Cell.out _ (Since.drew (Own2.since (by assumption))) | exact Cell.out _ (Since.alloc (by assumption) _) | exact Cell.out _ (Since.drew (Since.alloc (by assumption) _)) | exact Cell.out _ (Own2.set2 (by assumption) _ _) | exact Cell.out _ (Since.drew (Own2.set2 (by assumption) _ _)))
       (first | (go_at_call 77;refine (Zcn (Zkb y x _) (B:=W3) (x:=.int .i64 0) (y:=.int .i64 0) (t:=31) (by first|assumption|exact Own2.drew (by assumption) | exact Since.new (by assumption) _ _ _|exact Own2.drew (Since.new (by assumption) _ _ _))).mono ?_;rintro e w' ⟨⟨rfl,_⟩,hin3⟩;obtain⟨z0,z1,f0,f1⟩:=Own2.own hin3) | (go_at_call 77;refine (Za9 (Zkb y x _) (B:=W3) (by first|assumption|exact Since.drew (by assumption))).mono ?_;rintro e w' ⟨⟨rfl,_⟩,hin2⟩))
      all_goals
       go_wp2_with fail
       go_meet
       first
       | exact Got.last (by assumption) _ _ _ _
       | exact Got.set (by assumption) _ _ _
       | exact Got.drew (Got.last (by assumption) _ _ _ _)
       | exact Got.drew (Got.set (by assumption) _ _ _)
     case rest=>
      obtain⟨wf,rfl⟩:∃wf:World,wf=wc:=⟨_,rfl⟩;obtain⟨q2,rfl,rfl,z0,z1,hq2,hq2h,hs2⟩:=hcut;have hx0:=hs2.cell (p:=⟨wr.heap.size,0,none⟩) Hsz.out.2.2.1 Y0.out.1;have hx1:=hs2.cell (p:=⟨wr.heap.size,1,none⟩) Hsz.out.2.2.1 Y0.out.2;have Z:=zH (And.intro z0 (And.intro z1 (And.intro hq2 hq2h)));have S2:=zH hs2;clear z0 z1 hq2 hq2h hs2 Cell hin Y0;generalize Ta.divR y x=qv at *;generalize Ta.divK y x=ok at *
      go_wp2_with fail
      refine (Zhv x _).mono ?_;rintro e w5 ⟨rfl,hb5⟩;have S5:=zH (S2.out.trans hb5);have Z5:Hid (w5.cell? ⟨q2,0,none⟩=some (.int .i64 qv.1)/\w5.cell? ⟨q2,1,none⟩=some (.int .i64 qv.2)/\q2<w5.heap.size):=⟨by rw[hb5.cell (p:=⟨q2,0,none⟩) Z.out.2.2.1];exact Z.out.1,by rw[hb5.cell (p:=⟨q2,1,none⟩) Z.out.2.2.1];exact Z.out.2.1,Nat.lt_of_lt_of_le Z.out.2.2.1 hb5.size⟩;have HB5:Hid (Below w.heap.size w w5):=HB3.out.trans (S5.out.low.mono (by have:=Hsz.out;omega));have X5:=zH (X3.out.below S5.out.low);have L5:=zH (L3.out.since S5.out);clear hb5 S2 Z hx0 hx1 HXb X3 L3 HB3;generalize hsv:Ta.sgn x=sv at *
      by_cases hs0:0<sv
      ·have hd2:decide (sv≤0)=false:=by rw[decide_eq_false_iff_not];omega
       cases ok with
       | false=>
        have hsk:=Ta.Zrj (t:=⟨L,B1,C⟩) (c:=cn) (k:=k) (by rw[Hok.out];simp);have HBe2:Hid (best=(Ta.lv ⟨L,B1,C⟩ cn (k+1)).1):=by show _=_;rw[hsk];exact hBe.out
        have HL2:Hid (Zau w5 w2.heap.size (Ta.lv ⟨L,B1,C⟩ cn (k+1)).2):=by show Zau _ _ _;rw[hsk,hle];exact L5.out
        clear hsk
        go_wp2_with fail
        go_roundw
        case rel=>exact⟨k+1,best,by omega,hb0,by omega,rfl,by go_num,HBe2,HL2,X5,HB5⟩
        case measure=>simp[intOf];omega
       | true=>
        have Hok2:Hid (Ta.lvOk ⟨L,B1,C⟩ cn k=true):=by show _=_;rw[Hok.out,decide_eq_true hs0];rfl
        obtain⟨z0,z1,hz2⟩:=Z5.out;obtain⟨l0,l1,_,_⟩:=L5.out.four
        go_wp2_with fail
        refine (Ztf qv le _).mono ?_;rintro e w6 ⟨rfl,hb6⟩;have S6:=zH (S5.out.trans hb6);have Z6:Hid (w6.cell? ⟨q2,0,none⟩=some (.int .i64 qv.1)/\w6.cell? ⟨q2,1,none⟩=some (.int .i64 qv.2)):=⟨by rw[hb6.cell (p:=⟨q2,0,none⟩) hz2];exact z0,by rw[hb6.cell (p:=⟨q2,1,none⟩) hz2];exact z1⟩;have HB6:Hid (Below w.heap.size w w6):=HB5.out.trans (hb6.mono HB5.out.size);have X6:=zH (X5.out.below hb6);have L6:=zH (L5.out.below hb6);obtain⟨x0,x1,x2,_⟩:=X6.out.cells;have hbk:=Hbk.out _ HB6.out;clear hb6 z0 z1 l0 l1 hz2 Z5 S5 X5 L5 HB5;obtain⟨tk,htk⟩:∃tk,Ta.takes ⟨L,B1,C⟩ best le qv k=tk:=⟨_,rfl⟩;have Htk:=zH htk;clear htk;have Hdef:Hid (tk=(decide (best<0) || (decide (Ta.how qv le<0) || (decide (Ta.how qv le=0) && decide (bk<B1.getD best.toNat 0))))):=by
         show _=_;rw[<-Htk.out];unfold Ta.takes;rw[Hbas.out];rfl
        generalize Ta.how qv le=hw at *
        go_upto_region 12 with fail
        go_cut [93] (fun v wx=>v=.bool tk/\∃d,wx=w6.drewN d)
        case first=>
         by_cases k1:best<0
         ·have e1:decide (best<0)=true:=by rw[decide_eq_true_iff];exact k1
          have Ht:Hid (true=tk):=by show _=_;rw[Hdef.out,e1];rfl
          go_quiet (fail)
          go_wp2_with fail
          go_meet
          exact⟨Zea Ht.out,_,rfl⟩
         ·have e1:decide (best<0)=false:=by rw[decide_eq_false_iff_not];exact k1
          by_cases k2:hw<0
          ·have e2:decide (hw<0)=true:=by rw[decide_eq_true_iff];exact k2
           have Ht:Hid (true=tk):=by show _=_;rw[Hdef.out,e2];simp
           go_quiet (fail)
           go_wp2_with fail
           go_meet
           exact⟨Zea Ht.out,_,rfl⟩
          ·have e2:decide (hw<0)=false:=by rw[decide_eq_false_iff_not];exact k2
           by_cases k3:hw=0
           ·obtain⟨bn,rfl⟩:∃bn:Nat,best=bn:=⟨best.toNat,by omega⟩
            have e3:(hw == 0)=true:=by rw[k3];rfl
            obtain⟨bz,hbz,hcb⟩:=Hbest.out bn (by omega);have hcb:=hcb _ HB6.out;have n7:(bn:Int)<(B1.length:Int):=by omega
            have Ht:Hid (decide (bk<bz)=tk):=by
             show _=_;rw[Hdef.out,e1,e2,k3];have:B1.getD (bn:Int).toNat 0=bz:=by rw[<-hbz];simp
             rw[this];simp
            clear k3 hbz
            go_quiet (fail)
            go_wp2_with fail
            go_meet
            exact⟨Zea Ht.out,_,rfl⟩
           ·have e3:(hw == 0)=false:=by rw[beq_eq_false_iff_ne];exact k3
            have Ht:Hid (false=tk):=by show _=_;rw[Hdef.out,e1,e2];simp[k3]
            go_quiet (fail)
            go_wp2_with fail
            go_meet
            exact⟨Zea Ht.out,_,rfl⟩
        case rest=>
         obtain⟨w7,hw7⟩:∃q:World,q=wc:=⟨_,rfl⟩;rw[<-hw7];rw[<-hw7] at hcut;obtain⟨rfl,d,rfl⟩:=hcut;have L7:Hid (Zau (w6.drewN d) w2.heap.size le):=L6.out;have X7:Hid (Tri (w6.drewN d) w.heap.size (.slice (some ⟨b1,o1,none⟩) L.length c1) (.slice (some ⟨b2,o2,none⟩) B1.length c2) (.int .i64 C) 39):=X6.out;have B7:=zH (below_drewN HB6.out d);have z0:(w6.drewN d).cell? ⟨q2,0,none⟩=some (.int .i64 qv.1):=Z6.out.1;have z1:(w6.drewN d).cell? ⟨q2,1,none⟩=some (.int .i64 qv.2):=Z6.out.2;clear x0 x1 x2 hbk hw7 L6 X6 HB6 Z6;generalize w6.drewN d=w8 at *;cases tk with
         | false=>
          have hsk:=Ta.Zvv (t:=⟨L,B1,C⟩) (c:=cn) (k:=k) (by rw[<-hBe.out,hle,HQ.out];exact Htk.out);have HBe2:Hid (best=(Ta.lv ⟨L,B1,C⟩ cn (k+1)).1):=by show _=_;rw[hsk];exact hBe.out
          have HL2:Hid (Zau w8 w2.heap.size (Ta.lv ⟨L,B1,C⟩ cn (k+1)).2):=by show Zau _ _ _;rw[hsk,hle];exact L7.out
          clear hsk
          go_wp2_with fail
          go_roundw
          case rel=>exact⟨k+1,best,by omega,hb0,by omega,rfl,by go_num,HBe2,HL2,X7,B7⟩
          case measure=>simp[intOf];omega
         | true=>
          have hye:=Ta.Z0d (t:=⟨L,B1,C⟩) (c:=cn) (k:=k) Hok2.out (by rw[<-hBe.out,hle,HQ.out];exact Htk.out);have HBe2:Hid ((k:Int)=(Ta.lv ⟨L,B1,C⟩ cn (k+1)).1):=by show _=_;rw[hye]
          obtain⟨_,_,f0,f1⟩:=L7.out.four;obtain⟨l0,l1,_,_⟩:=L7.out.four;have HL2:Hid (Zau ((w8.setCell ⟨w2.heap.size,0,none⟩ (.int .i64 qv.1)).setCell ⟨w2.heap.size,1,none⟩ (.int .i64 qv.2)) w2.heap.size (Ta.lv ⟨L,B1,C⟩ cn (k+1)).2):=by show Zau _ _ _;rw[hye,HQ.out];exact L7.out.set qv
          have HX2:Hid (Tri ((w8.setCell ⟨w2.heap.size,0,none⟩ (.int .i64 qv.1)).setCell ⟨w2.heap.size,1,none⟩ (.int .i64 qv.2)) w.heap.size (.slice (some ⟨b1,o1,none⟩) L.length c1) (.slice (some ⟨b2,o2,none⟩) B1.length c2) (.int .i64 C) 39):=
           (X7.out.other (p:=⟨w2.heap.size,0,none⟩) (show w2.heap.size≠w.heap.size by have:=Hsz.out;omega) _).other (p:=⟨w2.heap.size,1,none⟩) (show w2.heap.size≠w.heap.size by have:=Hsz.out;omega) _
          have HB2:=zH (Zfj B7.out (show w.heap.size≤w2.heap.size by have:=Hsz.out;omega) 0 1 (.int .i64 qv.1) (.int .i64 qv.2));clear hye
          go_wp2_with fail
          go_roundw
          case rel=>exact⟨k+1,k,by omega,by omega,by omega,rfl,by go_num,HBe2,HL2,HX2,HB2⟩
          case measure=>simp[intOf];omega
      ·have hd2:decide (sv≤0)=true:=by rw[decide_eq_true_iff];omega
       have hsk:=Ta.Zrj (t:=⟨L,B1,C⟩) (c:=cn) (k:=k) (by rw[Hok.out,decide_eq_false hs0];rfl);have HBe2:Hid (best=(Ta.lv ⟨L,B1,C⟩ cn (k+1)).1):=by show _=_;rw[hsk];exact hBe.out
       have HL2:Hid (Zau w5 w2.heap.size (Ta.lv ⟨L,B1,C⟩ cn (k+1)).2):=by show Zau _ _ _;rw[hsk,hle];exact L5.out
       clear hsk
       go_wp2_with fail
       go_roundw
       case rel=>exact⟨k+1,best,by omega,hb0,by omega,rfl,by go_num,HBe2,HL2,X5,HB5⟩
       case measure=>simp[intOf];omega
    ·have he:k=L.length:=by omega
     have Hr:Hid (best=RR):=by show _=_;rw[<-HE.out,<-he];exact hBe.out
     go_wp2_with fail
     go_ret;exact⟨Za8 Hr.out,hB.out⟩
end Go.Proofs.YtlohljkfphljgaaGreat
