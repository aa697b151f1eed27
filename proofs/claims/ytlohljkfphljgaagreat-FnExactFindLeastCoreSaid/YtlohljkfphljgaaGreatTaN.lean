/- impl.CostRow. -/
import Derived.Test.YtlohljkfphljgaaGreatGTd
import Derived.Test.YtlohljkfphljgaaGreatGTd
import Derived.Test.YtlohljkfphljgaaGreatGVc
import Derived.Test.YtlohljkfphljgaaGreatHLeR
import Derived.Deep.RegionHeld3
namespace Go.Proofs.YtlohljkfphljgaaGreat
open Go.RowKit
open Ve (R)
open Ta (T)
theorem Ztl {B:Nat} {w:World} {a b:Option Addr} {c d:Nat} {xs ys:List R} (hB:B≤w.heap.size) (h1:Zah B w a xs) (h2:Zah B w b ys) :
  Zdo (w.heap.size+1) (w.alloc (.cells #[.slice a xs.length c,.slice b ys.length d] 26)) (some ⟨w.heap.size,0,none⟩) [xs,ys]:=fun j hj=>by
 have hb:Below B w (w.alloc (.cells #[.slice a xs.length c,.slice b ys.length d] 26)):=(Below.refl _ _).alloc hB _;have hc:=Zac.new w #[.slice a xs.length c,.slice b ys.length d] 26
 match j,hj with
 | 0,_=>exact⟨_,0,a,c,rfl,by omega,hc.cell 0,(h1.below hb).mono (by omega)⟩
 | 1,_=>exact⟨_,0,b,d,rfl,by omega,hc.cell 1,(h2.below hb).mono (by omega)⟩
set_option maxRecDepth 100000 in
set_option maxHeartbeats 4000000 in
theorem Zpd (B:Nat) (a b ca:Option Addr) (c1 c2 cc:Nat) (t:T) (cost:List R) (hn:Zca t) (hcl:cost.length≤1048576) (w:World) (hBw:B≤w.heap.size) (hz:Zc4 B w a b t) (hk:Zah B w ca cost) :
  Calls Tryz.prog 182 #[tabV a b c1 c2 t,.slice ca cost.length cc] w (Zcw (Ta.Zdm t cost) (Ta.Zco t cost) w):=by
 have HN:=zH hn;have HZ:=zH (hz.mono hBw);have HK:=zH (hk.mono hBw);have hb:=(Below.refl w.heap.size w).alloc (Nat.le_refl _) (.cells #[.slice a t.rows.length c1,.slice b t.basis.length c2,.int .i64 t.cols] 39);have hx:=Tri.new w (.slice a t.rows.length c1) (.slice b t.basis.length c2) (.int .i64 t.cols) 39;have HT:Hid (Zcd w.heap.size (w.alloc (.cells #[.slice a t.rows.length c1,.slice b t.basis.length c2,.int .i64 t.cols] 39)) w.heap.size a b c1 c2 t):=⟨hx,(hz.mono hBw).below hb⟩;have Hb:=zH hb;rw[show tabV a b c1 c2 t=.agg #[.slice a t.rows.length c1,.slice b t.basis.length c2,.int .i64 t.cols] from rfl];obtain⟨g,hg⟩:∃g,Ta.good t=g:=⟨_,rfl⟩;have HG:=zH (fun W h=>Zfb w.heap.size w.heap.size a b c1 c2 t hn g hg W h);have Hg:=zH hg;have hn1:=hn.rows;obtain⟨RR,hRR⟩:∃RR,Ta.Zdm t cost=RR:=⟨_,rfl⟩;obtain⟨KK,hKK⟩:∃KK,Ta.Zco t cost=KK:=⟨_,rfl⟩;have HRR:=zH hRR;have HKK:=zH hKK;rw[hRR,hKK];clear hz hk hb hx hn hg hRR hKK;have hno:Hid (KK=false->([]:List R)=RR/\false=KK):=fun h=>⟨by rw[<-HRR.out,Ta.Zku (by rw[HKK.out];exact h)],h.symm⟩
 go_enter Tryz.func182,Tryz.ntmps182
 go_wp2_with fail
 refine (HG.out _ HT.out).mono ?_;rintro e w1 ⟨rfl,d,rfl⟩;clear HG;cases g with
 | false=>
  have Hr:=zH (hno.out (by rw[<-HKK.out];exact Ta.Zo7 Hg.out))
  go_wp2_with fail
  go_ret2
  exact⟨_,Zc6 Hr.out.2,by rw[<-Hr.out.1];exact Zaa.nil _ _,below_drewN Hb.out d⟩
 | true=>
  obtain⟨g0,g1,g2,g3⟩:=Ta.Za2 Hg.out;have G3:=zH g3;have G2:=zH g2;have HR:=zH HN.out.row;have HC:=zH (fun W h=>Zcq w.heap.size w.heap.size a b c1 c2 t g0 g1 hn1 W h);clear g3 g2 HN
  by_cases hq:(cost.length:Int)=t.cols+(t.rows.length:Int)
  ·have HE:=zH (Ta.Zj2 Hg.out hq)
   have Hq:=zH hq;have hne:((cost.length:Int) != t.cols+(t.rows.length:Int))=false:=by rw[hq];simp
   have hnb:cost.length≤1100000:=by omega
   clear hq;obtain⟨L,B1,C⟩:=t;simp only at g0 g1 hn1 hne;obtain⟨v0,hv0⟩:∃v0,Ve.good cost=v0:=⟨_,rfl⟩;have HAV:Hid (∀W,w.heap.size≤W.heap.size->Zah w.heap.size W ca cost->Calls Tryz.prog 65 #[.slice ca cost.length cc] W fun e w'=>e=.returned (.bool v0)/\Below W.heap.size W w'):=fun W h1 h2=>hv0▸Zem w.heap.size ca cc cost hcl W h1 h2
   have Hv0:Hid (v0=(Ta.cr ⟨L,B1,C⟩ cost 0).2):=hv0.symm;clear hv0
   go_wp2_with fail
   refine (HC.out _ (HT.out.drewN d)).mono ?_;rintro e w1 ⟨rfl,d2,rfl⟩
   go_wp2_with fail
   have HB1:=zH (below_drewN Hb.out (d+d2));refine (HAV.out _ HB1.out.size (HK.out.below HB1.out)).mono ?_;rintro e w1 ⟨rfl,hb1⟩;have HB2:=zH (HB1.out.trans (hb1.mono HB1.out.size));have HX2:Hid (Tri w1 w.heap.size (.slice a L.length c1) (.slice b B1.length c2) (.int .i64 C) 39):=(HT.out.drewN (d+d2)).box.below hb1;clear hb1 HB1 HAV HC;cases v0 with
   | false=>
    have hz0:=Ta.Zgg (t:=⟨L,B1,C⟩) Hv0.out.symm L.length (Nat.zero_le _);have Hr:=zH (hno.out (by rw[<-HKK.out,HE.out];exact hz0));clear hz0
    go_wp2_with fail
    go_ret2
    exact⟨_,Zc6 Hr.out.2,by rw[<-Hr.out.1];exact Zaa.nil _ _,HB2.out⟩
   | true=>
    have HZ1:=zH (fun W=>Zdr 1 (by omega) W)
    go_wp2_with fail
    refine (HZ1.out _).mono ?_;rintro e w2 ⟨v2,rfl,ho2,hb2⟩;obtain⟨az,cz,rfl,hrz,_⟩:=Zai ho2;have HB3:=zH (HB2.out.trans (hb2.mono HB2.out.size));have HX3:=zH (HX2.out.below hb2);have HM:=zH (Ztl (c:=cc) (d:=cz) (Nat.le_refl w2.heap.size) ((HK.out.below HB3.out).mono HB3.out.size) hrz);rw[Zcu] at HM;have HB4:=zH (HB3.out.alloc HB3.out.size (.cells #[.slice ca cost.length cc,.slice az 1 cz] 26));have HX4:=zH (HX3.out.more (.cells #[.slice ca cost.length cc,.slice az 1 cz] 26));have hfl:[cost,Lp.Za1 1].flatten=(Ta.cr ⟨L,B1,C⟩ cost 0).1:=by simp[Ta.cr,Lp.Za1]
    have HCc:=zH (Zio (w2.heap.size+1) (some ⟨w2.heap.size,0,none⟩) 2 [cost,Lp.Za1 1] (by simp) (by simp[Zb4,Lp.Za1];omega) (w2.alloc (.cells #[.slice ca cost.length cc,.slice az 1 cz] 26)) (by rw[Zar];omega) HM.out);rw[hfl] at HCc;rw[Zcu];clear hb2 ho2 hrz hfl HZ1 HM
    go_wp2_with fail
    refine HCc.out.mono ?_;rintro e w3 ⟨v3,rfl,ho3,hb3⟩;have HB5:=zH (HB4.out.trans (hb3.mono HB4.out.size));have HX5:=zH (HX4.out.below hb3);have HO5:=zH (ho3.lower HB4.out.size);obtain⟨x0,x1,x2,_⟩:=HX5.out.cells;clear hb3 ho3 HCc
    go_wp2_with fail
    go_loopw [6,7,30] (fun v o i wr=>∃(k:Nat) (u:Value),u=v/\o=.bool true/\k≤B1.length/\i=.int .i64 k/\Hid (true=(Ta.cr ⟨L,B1,C⟩ cost k).2)/\Hid (Zaa w.heap.size wr u (Ta.cr ⟨L,B1,C⟩ cost k).1)/\Hid (Tri wr w.heap.size (.slice a L.length c1) (.slice b B1.length c2) (.int .i64 C) 39)/\Hid (Below w.heap.size w wr)) (fun _ _ i _=>B1.length-(intOf i).toNat)
    case atStart=>exact⟨0,_,rfl,rfl,Nat.zero_le _,rfl,Hv0,HO5,HX5,HB5⟩
    case round=>
     clear x0 x1 x2;obtain⟨k,u,rfl,rfl,hk,rfl,hOk,hO,hX,hB⟩:=hrel;obtain⟨x0,x1,x2,_⟩:=hX.out.cells
     by_cases hlt:k<B1.length
     ·have hltL:k<L.length:=by have:B1.length=L.length:=G2.out;omega
      have hstep:=Ta.Zkw (t:=⟨L,B1,C⟩) hOk.out.symm;have hlen:=Ta.Zkv (t:=⟨L,B1,C⟩) hOk.out.symm;have hTw:=HZ.out.below hB.out;obtain⟨b1,o1,a1,k1,rfl,hl1,hrow,hRr⟩:=hTw.mR k hltL;obtain⟨b2,o2,rfl,hl2,hbas⟩:=hTw.mB k hlt;obtain⟨g31,g32,g33⟩:=G3.out k hltL;simp only at hrow hbas hRr;obtain⟨j,hj⟩:∃j:Nat,B1.getD k 0=j:=⟨(B1.getD k 0).toNat,by have:0≤B1.getD k 0:=g32;omega⟩;have hjc:j<cost.length:=by have h1:B1.getD k 0≤C+(L.length:Int)-1:=g33;have h2:(cost.length:Int)=C+(L.length:Int):=Hq.out;omega
      obtain⟨b3,o3,rfl,hl3,p0,p1⟩:=(HK.out.below hB.out).at j hjc;rw[hj] at hbas;have hsz:=hB.out.size;have HRl:Hid ((rr L k).length≤1048576):=HR.out k hltL;have hstep':Ta.cr ⟨L,B1,C⟩ cost (k+1)=(Ve.scR (Ta.cr ⟨L,B1,C⟩ cost k).1 (Ta.negR (Ve.at_ cost j)) (rr L k),Ve.scK (Ta.cr ⟨L,B1,C⟩ cost k).1 (Ta.negR (Ve.at_ cost j)) (rr L k)):=by
       rw[hstep];have e1:(Ta.bas ⟨L,B1,C⟩ k).toNat=j:=by show (B1.getD k 0).toNat=j;rw[hj];simp
       rw[e1];rfl
      have Hstep:=zH hstep';obtain⟨au,cu,rfl,hur,_⟩:=Zai hO.out;have Hur:=zH hur;have hxl:(Ta.cr ⟨L,B1,C⟩ cost k).1.length≤1048576:=by have h1:((rr L k).length:Int)=C+(L.length:Int)+1:=g31;have h2:(cost.length:Int)=C+(L.length:Int):=Hq.out;have h3:=HRl.out;omega
      generalize (Ta.cr ⟨L,B1,C⟩ cost k).1=xs at *;have HRr:=zH hRr;have Cell:=zH (fun w' (h:Since wr w')=>(show w'.cell? ⟨w.heap.size,0,none⟩=some (.slice (some ⟨b1,o1,none⟩) L.length c1)/\w'.cell? ⟨b3,o3+j*2,none⟩=some (.int .i64 (Ve.at_ cost j).1)/\w'.cell? ⟨b3,o3+j*2+1,none⟩=some (.int .i64 (Ve.at_ cost j).2)/\w'.cell? ⟨b1,o1+k,none⟩=some (.slice a1 (rr L k).length k1)/\Since wr w' from
       ⟨h.cell (p:=⟨w.heap.size,0,none⟩) (Zab hX.out) x0,h.cell (p:=⟨b3,o3+j*2,none⟩) (show b3<wr.heap.size by omega) p0,h.cell (p:=⟨b3,o3+j*2+1,none⟩) (show b3<wr.heap.size by omega) p1,h.cell (p:=⟨b1,o1+k,none⟩) (show b1<wr.heap.size by omega) hrow,h⟩))
      have HX':=zH (fun w' (h:Since wr w')=>hX.out.below h.low);generalize Ve.at_ cost j=x at *;have HAS:=zH (fun w' (h:Since wr w')=>Zg6 h (Zfh wr.heap.size au a1 cu k1 xs (Ta.negR x) (rr L k) hxl HRl.out w' h.low.size (Hur.out.below h.low) ((HRr.out.below (h.low.mono hsz)).mono hsz)));have HNg:=zH (fun w' (h:Since wr w')=>Za9 (Zb9 x w') h);have hin:=Since.refl wr;have n1:(k:Int)<(L.length:Int):=by omega
      have n2:(k:Int)<(B1.length:Int):=by omega
      have n3:(j:Int)<(cost.length:Int):=by omega
      clear hstep hstep' hlen hTw g31 g32 g33 hRr p0 p1 hrow hur;generalize (rr L k)=row at *
      go_wp2_with fail
      go_region_held3 (fun w'=>w'.cell? ⟨w.heap.size,0,none⟩=some (.slice (some ⟨b1,o1,none⟩) L.length c1)/\w'.cell? ⟨b3,o3+j*2,none⟩=some (.int .i64 x.1)/\w'.cell? ⟨b3,o3+j*2+1,none⟩=some (.int .i64 x.2)/\w'.cell? ⟨b1,o1+k,none⟩=some (.slice a1 row.length k1)/\Since wr w') (first|exact Cell.out _ (by assumption) | exact Cell.out _ (Since.drew (by assumption)))
       (first | (go_at_call 161;refine (HNg.out _ (by first|assumption|exact Since.drew (by assumption))).mono ?_;rintro e w' ⟨⟨rfl,_⟩,hin3⟩) | (go_at_call 210;refine (HAS.out _ (by first|assumption|exact Since.drew (by assumption))).mono ?_;rintro e w' ⟨⟨v,rfl,ho⟩,hin2⟩))
      have HO6:Hid (Zaa w.heap.size w' v (Ta.cr ⟨L,B1,C⟩ cost (k+1)).1):=by rw[Hstep.out];exact ho.lower hsz
      have HK6:Hid (Ve.scK xs (Ta.negR x) row=(Ta.cr ⟨L,B1,C⟩ cost (k+1)).2):=by rw[Hstep.out];rfl
      have HX6:=HX'.out w' hin2;have HX6:=zH HX6;have HB6:=zH (hB.out.trans (hin2.low.mono hsz));generalize Ve.scK xs (Ta.negR x) row=k6 at *;clear ho hin hin2 hin3 Cell HX' HAS HNg x0 x1 x2 hbas;cases k6 with
      | false=>
       have hz0:=Ta.Zgg (t:=⟨L,B1,C⟩) HK6.out.symm L.length (by omega);have Hr:=zH (hno.out (by rw[<-HKK.out,HE.out];exact hz0));clear hz0
       go_wp2_with fail
       go_ret2
       exact⟨_,Zc6 Hr.out.2,by rw[<-Hr.out.1];exact Zaa.nil _ _,HB6.out⟩
      | true=>
       go_wp2_with fail
       go_roundw
       case rel=>exact⟨k+1,_,rfl,rfl,by omega,by go_num,HK6,HO6,HX6,HB6⟩
       case measure=>simp[intOf];omega
     ·have he:k=L.length:=by have:B1.length=L.length:=G2.out;omega
      rw[he] at hOk hO;have HE2:Hid (true=KK):=by show _=_;rw[<-HKK.out,HE.out];exact hOk.out
      have HF:Hid (Zaa w.heap.size wr u RR):=by
       have h:=Ta.Zsa (t:=⟨L,B1,C⟩) (cost:=cost) (by rw[HKK.out];exact HE2.out.symm);rw[HRR.out] at h;rw[h];exact hO.out
      clear he
      go_wp2_with fail
      go_ret2
      exact⟨_,Zc6 HE2.out,HF.out,hB.out⟩
  ·have Hr:=zH (hno.out (by rw[<-HKK.out];exact Ta.Zks hq))
   have hne:((cost.length:Int) != t.cols+(t.rows.length:Int))=true:=by rw[bne_iff_ne];exact hq
   clear hq
   go_wp2_with fail
   refine (HC.out _ (HT.out.drewN d)).mono ?_;rintro e w1 ⟨rfl,d2,rfl⟩
   go_wp2_with fail
   go_ret2
   exact⟨_,Zc6 Hr.out.2,by rw[<-Hr.out.1];exact Zaa.nil _ _,below_drewN Hb.out (d+d2)⟩
end Go.Proofs.YtlohljkfphljgaaGreat
