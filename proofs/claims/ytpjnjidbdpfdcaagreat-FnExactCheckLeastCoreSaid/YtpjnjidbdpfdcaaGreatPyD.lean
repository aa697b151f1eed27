/- The code's ExcessOf, IsPayoff. -/
import Derived.Test.YtpjnjidbdpfdcaaGreatPyB
import Derived.Test.YtpjnjidbdpfdcaaGreatGmI
import Derived.Test.YtpjnjidbdpfdcaaGreatGRa
import Derived.Test.YtpjnjidbdpfdcaaGreatGRa
set_option maxRecDepth 100000
set_option maxHeartbeats 4000000
namespace Go.Proofs.YtpjnjidbdpfdcaaGreat
open Go.RowKit
open Ve (R)
open Gm (G)
theorem Znq (x y:R) (w:World):Calls Tryz.prog 74 #[.agg #[.int .i64 x.1,.int .i64 x.2],.agg #[.int .i64 y.1,.int .i64 y.2]] w fun e w'=>e=.returned (.tuple #[.agg #[.int .i64 (Py.subR x y).1,.int .i64 (Py.subR x y).2],.bool (Py.subK x y)])/\Below w.heap.size w w':=Zi0 x.1 x.2 y.1 y.2 w
theorem Zdx {w:World} {x y v:Value} {g:G} {xs:List R} (r:Bool) (hrr:Py.Zcw g xs=r) (h:GmC w x y g) (hv:Za8 w v xs) (hf:GmOk g) (hx:xs.length≤1048576) :
  Calls Tryz.prog 56 #[.agg #[x,y],v] w fun e w'=>e=.returned (.bool r)/\Below w.heap.size w w':=by
 obtain⟨gn,gv⟩:=g;obtain⟨a,c,rfl,rfl,hi⟩:=h;obtain⟨W,hW⟩:∃W,W=w.alloc (.cells #[.int .i64 gn,.slice a gv.length c] 33):=⟨_,rfl⟩;have hc:=Zaa.new w #[.int .i64 gn,.slice a gv.length c] 33;have hb:=(Below.refl w.heap.size w).alloc (Nat.le_refl _) (.cells #[.int .i64 gn,.slice a gv.length c] 33);rw[<-hW] at hc hb;have hX:GmC W (.int .i64 gn) (.slice a gv.length c) ⟨gn,gv⟩:=GmC.up ⟨a,c,rfl,rfl,hi⟩ hb;have hV:=hv.up hb;have hlv:gv.length≤1048576:=hf.1;have hnb:=hf.n;have HW:=zH hW;have HC:=zH hc;have HB:=zH hb;have HX:=zH hX;have HV:=zH hV;have HF:=zH hf;obtain⟨av,cv,rfl,_⟩:=hv;clear hW hc hb hX hV hi hf
 rcases hvl:Gm.vld ⟨gn,gv⟩ with _|_
 ·have Hr:=zH ((Py.Zhz hvl).symm.trans hrr)
  have HVL:=zH hvl;clear hvl hrr
  go_enter Tryz.func56,Tryz.ntmps56
  go_wp2_with fail
  rw[<-HW.out];refine (Zam false HVL.out HX.out HF.out).mono ?_;rintro e w1 ⟨rfl,hb1⟩;have HC1:=zH (HC.out.below hb1);have HB1:=zH (HB.out.trans (hb1.mono HB.out.size));have HX1:=zH (HX.out.up hb1);have HV1:=zH (HV.out.up hb1);clear hb1;obtain⟨x0,x1⟩:=two HC1.out
  go_wp2_with fail
  go_ret;exact⟨Zac Hr.out,HB1.out⟩
 ·have HVL:=zH hvl
  by_cases hl:(xs.length:Int)=gn
  ·have hlb:((xs.length:Int) != gn)=false:=by rw[hl];simp
   have hvn:=Gm.Zjo hvl;have hvl2:=Gm.Zbp hvl;have hpw:=Gm.Zeh hvl;have Hall:=zH (fun h=>Py.Zh5 (x:=xs) hvl hl h);have Hr:=zH ((Py.Zjy (x:=xs) hvl (by rw[decide_eq_true_iff];exact hl)).symm.trans hrr);have Hgood:=zH (Py.all_good hvl);have Hl:=zH hl;dsimp only at hvn hvl2 hpw;obtain⟨m,hm⟩:∃m:Nat,gn=m:=⟨gn.toNat,by omega⟩;have hA:((2 ^ m:Nat):Int)-1=Py.all ⟨gn,gv⟩:=by unfold Py.all;rw[hpw,hm];simp
   have hm5:m≤5:=by omega
   have hp2:(2 ^ m:Nat)≤32:=by have:=hpw;rw[hm] at this;simp only[Int.toNat_natCast] at this;omega
   have Hm:=zH hm;have HAA:=zH hA;clear hvl hrr hl Hall hm hA hpw hvl2
   go_enter Tryz.func56,Tryz.ntmps56
   go_wp2_with fail
   rw[<-HW.out];refine (Zam true HVL.out HX.out HF.out).mono ?_;rintro e w1 ⟨rfl,hb1⟩;have HC1:=zH (HC.out.below hb1);have HB1:=zH (HB.out.trans (hb1.mono HB.out.size));have HX1:=zH (HX.out.up hb1);have HV1:=zH (HV.out.up hb1);clear hb1;obtain⟨x0,x1⟩:=two HC1.out
   go_wp2_with fail
   rw[Hm.out];refine (Zel m hm5 _).mono ?_;rintro e w2 ⟨rfl,rfl⟩;have HC2:=HC1;have HB2:=HB1;have HX2:=HX1;have HV2:=HV1;generalize (2 ^ m:Nat)=M at *
   go_wp2_with fail
   ·refine (Zem ((M:Int)-1) HV2.out hx).mono ?_
    rw[HAA.out];rintro e w3 ⟨rfl,hb3⟩;generalize Py.share xs (Py.all ⟨gn,gv⟩)=sh at *;obtain⟨sh,shk⟩:=sh;obtain⟨W4,hW4⟩:∃W4,W4=w3.alloc (.cells #[.int .i64 sh.1,.int .i64 sh.2] 35):=⟨_,rfl⟩;have HW4:=zH hW4;have hb4:Below w2.heap.size w2 W4:=by rw[hW4];exact hb3.alloc hb3.size _
    have hq4:Zaj W4 w3.heap.size sh:=by rw[hW4];exact Zaj.new w3 sh
    have HB4:=zH (HB2.out.trans (hb4.mono HB2.out.size));have hC4:=HC2.out.below hb4;have HX4:=zH (HX2.out.up hb4);have hlo4:=HB4.out.size;have Cell:=zH (fun w' (h:Since W4 w')=>(show w'.cell? ⟨w3.heap.size,0,none⟩=some (.int .i64 sh.1)/\w'.cell? ⟨w3.heap.size,1,none⟩=some (.int .i64 sh.2)/\w'.cell? ⟨w.heap.size,0,none⟩=some (.int .i64 gn)/\w'.cell? ⟨w.heap.size,1,none⟩=some (.slice a gv.length c)/\Since W4 w' from
     ⟨h.cell (p:=⟨w3.heap.size,0,none⟩) hq4.lt hq4.four.1,h.cell (p:=⟨w3.heap.size,1,none⟩) hq4.lt hq4.four.2.1,h.cell (p:=⟨w.heap.size,0,none⟩) (Zag hC4) (two hC4).1,h.cell (p:=⟨w.heap.size,1,none⟩) (Zag hC4) (two hC4).2,h⟩))
    have hg0:=(Since.refl W4).drew;clear hb3 hW4 hb4 hq4 hC4 HC2 HB2 HX2 HV2 HX HV HC HB HW x0 x1 HVL;have he:=Zcu;have hg:=Zb5
    rcases shk with _|_
    ·have Hr2:Hid (false=r):=by show _=_;rw[<-Hr.out];simp
     clear Hr
     go_upto_region 4 with (fail)
     rw[<-HW4.out];refine wp_region_held_drew (S:=fun w'=>w'.cell? ⟨w3.heap.size,0,none⟩=some (.int .i64 sh.1)/\w'.cell? ⟨w3.heap.size,1,none⟩=some (.int .i64 sh.2)/\w'.cell? ⟨w.heap.size,0,none⟩=some (.int .i64 gn)/\w'.cell? ⟨w.heap.size,1,none⟩=some (.slice a gv.length c)/\Since W4 w') (by kernel_rfl) ?_ (fun hHeld=>?_)
     ·exact Cell.out _ hg0
     refine tk1 0 ⟨some 26,_,4,_,_,none⟩ ?_;refine tk1 1 ⟨some 27,_,4,_,_,none⟩ ?_
     try simp only[Act.put,zA,zB,zC]
     refine tkHu (i:=2) (oi:=⟨some 28,.load 35 (.tmp 5),35,"l11_payoff.go:28",#[⟨1,.guard⟩],some (1,true)⟩) rfl (by assumption) ?_
     try simp only[Act.put,zA,zB,zC]
     refine tkHu (i:=3) (oi:=⟨some 29,.load 33 (.tmp 2),33,"l11_payoff.go:28",#[⟨1,.guard⟩],some (1,true)⟩) rfl (by assumption) ?_
     try simp only[Act.put,zA,zB,zC]
     refine tkHu (i:=4) (oi:=⟨some 30,.call { callee:=.value (.func 62),args:=#[.tmp 29],argTypes:=#[33] },3,"l11_payoff.go:28",#[⟨3,.data⟩,⟨1,.chain⟩,⟨1,.guard⟩],some (1,true)⟩) rfl (by assumption) ?_
     try simp only[Act.put,zA,zB,zC]
     refine tkHu (i:=5) (oi:=⟨some 31,.call { callee:=.value (.func 61),args:=#[.tmp 30],argTypes:=#[3] },35,"l11_payoff.go:28",#[⟨4,.data⟩,⟨4,.chain⟩,⟨1,.guard⟩],some (1,true)⟩) rfl (by assumption) ?_
     try simp only[Act.put,zA,zB,zC]
     refine tkHu (i:=6) (oi:=⟨some 32,.binOp .eql 35 (.tmp 28) (.tmp 31) 35,4,"l11_payoff.go:28",#[⟨2,.data⟩,⟨5,.data⟩,⟨1,.guard⟩],some (1,true)⟩) rfl (by assumption) ?_
     refine tk1 7 ⟨some 33,_,4,_,_,none⟩ ?_;refine tk1 8 ⟨some 4,_,4,_,_,none⟩ ?_
     try simp only[Act.put,zA,zB,zC]
     refine wpAnyH_done (by kernel_rfl) ?_ _;clear Cell
     go_wp2_with fail
     go_ret;exact⟨Zac Hr2.out,HB4.out.drew⟩
    ·have Hr2:Hid ((sh.1 == Gm.Zcs ⟨gn,gv⟩ && sh.2 == 1)=r):=by
      show _=_;rw[<-Hr.out,Bool.eq_iff_iff,Bool.and_eq_true,beq_iff_eq,beq_iff_eq,decide_eq_true_iff]
      constructor
      ·rintro⟨h1,h2⟩;rw[<-h1,<-h2]
      ·intro h;have h1:=congrArg Prod.fst h;dsimp only at h1;rw[h1];exact⟨rfl,rfl⟩
     clear Hr;have HGV:=zH (fun (W:World) (h:GmC W (.int .i64 gn) (.slice a gv.length c) ⟨gn,gv⟩)=>Zcv h HF.out);generalize Gm.Zcs ⟨gn,gv⟩=Gr at *
     go_upto_region 4 with (fail)
     rw[<-HW4.out];refine wp_region_held_drew (S:=fun w'=>w'.cell? ⟨w3.heap.size,0,none⟩=some (.int .i64 sh.1)/\w'.cell? ⟨w3.heap.size,1,none⟩=some (.int .i64 sh.2)/\w'.cell? ⟨w.heap.size,0,none⟩=some (.int .i64 gn)/\w'.cell? ⟨w.heap.size,1,none⟩=some (.slice a gv.length c)/\Since W4 w') (by kernel_rfl) ?_ (fun hHeld=>?_)
     ·exact Cell.out _ hg0
     refine tk1 0 ⟨some 26,_,4,_,_,none⟩ ?_;refine tk1 1 ⟨some 27,_,4,_,_,none⟩ ?_
     try simp only[Act.put,zA,zB,zC]
     refine tk1 2 ⟨some 28,_,35,_,_,some (1,true)⟩ ?_
     try simp only[Act.put,zA,zB,zC]
     refine tk1 3 ⟨some 29,_,33,_,_,some (1,true)⟩ ?_
     try simp only[Act.put,zA,zB,zC]
     refine rd1 4 ⟨some 30,_,3,_,_,some (1,true)⟩ fun K hK=>?_
     go_simp
     (go_at_call 62;refine (HGV.out _ (HX4.out.up hg0.low)).mono ?_;rintro e w6 ⟨rfl,hb6⟩;have hg6:=hg0.trans hb6)
     refine hK.out _ _ ?_ (fun hHeld=>?_)
     ·exact Cell.out _ hg6
     clear hK K
     try simp only[Act.put,zA,zB,zC]
     refine rd1 5 ⟨some 31,_,35,_,_,some (1,true)⟩ fun K hK=>?_
     go_simp
     (go_at_call 61;refine (Zbf Gr _).mono ?_;rintro e w7 ⟨rfl,hb7⟩;have hg7:=hg6.trans hb7)
     refine hK.out _ _ ?_ (fun hHeld=>?_)
     ·exact Cell.out _ hg7
     clear hK K
     try simp only[Act.put,zA,zB,zC]
     refine tk1 6 ⟨some 32,_,4,_,_,some (1,true)⟩ ?_;refine tk1 7 ⟨some 33,_,4,_,_,none⟩ ?_;refine tk1 8 ⟨some 4,_,4,_,_,none⟩ ?_
     try simp only[Act.put,zA,zB,zC]
     refine wpAnyH_done (by kernel_rfl) ?_ _;have HB7:=zH (HB4.out.trans (hg7.low.mono hlo4));clear Cell hg0 hg6 hg7
     go_wp2_with fail
     go_ret;exact⟨Zac Hr2.out,HB7.out⟩
  ·have hlb:((xs.length:Int) != gn)=true:=by rw[bne_iff_ne];exact hl
   have Hr:=zH ((Py.Zhy (g:=⟨gn,gv⟩) (x:=xs) (by rw[decide_eq_false_iff_not];exact hl)).symm.trans hrr);clear hvl hrr hl
   go_enter Tryz.func56,Tryz.ntmps56
   go_wp2_with fail
   rw[<-HW.out];refine (Zam true HVL.out HX.out HF.out).mono ?_;rintro e w1 ⟨rfl,hb1⟩;have HC1:=zH (HC.out.below hb1);have HB1:=zH (HB.out.trans (hb1.mono HB.out.size));have HX1:=zH (HX.out.up hb1);have HV1:=zH (HV.out.up hb1);clear hb1;obtain⟨x0,x1⟩:=two HC1.out
   go_wp2_with fail
   go_ret;exact⟨Zac Hr.out,HB1.out⟩
theorem Zg4 {w:World} {x y v:Value} {g:G} {xs:List R} (s:Int) (h:GmC w x y g) (hv:Za8 w v xs) (hf:GmOk g) (hx:xs.length≤1048576) :
  Calls Tryz.prog 57 #[.agg #[x,y],v,.int .i64 s] w (Zdq (Py.exc g xs s).1 (Py.exc g xs s).2 w):=by
 obtain⟨gn,gv⟩:=g;obtain⟨a,c,rfl,rfl,hi⟩:=h;obtain⟨W,hW⟩:∃W,W=(w.alloc (.cells #[.int .i64 gn,.slice a gv.length c] 33)).alloc (.cells #[.int .i64 0,.int .i64 0] 35):=⟨_,rfl⟩;have hc:=(Zaa.new w #[.int .i64 gn,.slice a gv.length c] 33).more (.cells #[.int .i64 0,.int .i64 0] 35);have hr:=Zaj.new (w.alloc (.cells #[.int .i64 gn,.slice a gv.length c] 33)) (0,0);have hb:=((Below.refl w.heap.size w).alloc (Nat.le_refl _) (.cells #[.int .i64 gn,.slice a gv.length c] 33)).alloc (by rw[Zar];omega) (.cells #[.int .i64 0,.int .i64 0] 35);rw[Zar] at hr;rw[<-hW] at hc hr hb;have hX:GmC W (.int .i64 gn) (.slice a gv.length c) ⟨gn,gv⟩:=GmC.up ⟨a,c,rfl,rfl,hi⟩ hb;have hV:=hv.up hb;have hlv:gv.length≤1048576:=hf.1;have HW:=zH hW;have HC:=zH hc;have HR:=zH hr;have HB:=zH hb;have HX:=zH hX;have HV:=zH hV;have HF:=zH hf;dsimp only at hi;have HI0:=zH hi;clear hW hc hr hb hX hV hv hi hf
 rcases hvl:Gm.vld ⟨gn,gv⟩ with _|_
 ·rw[Py.Zhr (Py.Zhq hvl)]
  have HVL:=zH hvl;clear hvl
  go_enter Tryz.func57,Tryz.ntmps57
  go_wp2_with fail
  rw[<-HW.out];refine (Zam false HVL.out HX.out HF.out).mono ?_;rintro e w1 ⟨rfl,hb1⟩;have HC1:=zH (HC.out.below hb1);have HR1:=zH (HR.out.below hb1);have HB1:=zH (HB.out.trans (hb1.mono HB.out.size));have HX1:=zH (HX.out.up hb1);have HV1:=zH (HV.out.up hb1);clear hb1;obtain⟨x0,x1⟩:=two HC1.out;obtain⟨r0,r1,f0,f1⟩:=HR1.out.four
  go_wp2_with fail
  have hz:=Zae (x:=.int .i64 0) (y:=.int .i64 0) r0 r1;exact bodyPost_ret (v:=.tuple #[.agg #[.int .i64 0,.int .i64 0],.bool false]) (by simp[results,Tryz.results57,go_sem,hz.1,hz.2]) rfl ⟨rfl,(HB1.out.setCell (p:=⟨w.heap.size+1,0,none⟩) (show w.heap.size≤w.heap.size+1 by omega) _).setCell (p:=⟨w.heap.size+1,1,none⟩) (show w.heap.size≤w.heap.size+1 by omega) _⟩
 ·have HVL:=zH hvl
  by_cases hs0:s<0
  ·rw[Py.Zhr (Py.Zfd (by rw[decide_eq_false_iff_not];omega))]
   have d0:decide (s<0)=true:=by rw[decide_eq_true_iff];exact hs0
   clear hvl hs0
   go_enter Tryz.func57,Tryz.ntmps57
   go_wp2_with fail
   rw[<-HW.out];refine (Zam true HVL.out HX.out HF.out).mono ?_;rintro e w1 ⟨rfl,hb1⟩;have HC1:=zH (HC.out.below hb1);have HR1:=zH (HR.out.below hb1);have HB1:=zH (HB.out.trans (hb1.mono HB.out.size));have HX1:=zH (HX.out.up hb1);have HV1:=zH (HV.out.up hb1);clear hb1;obtain⟨x0,x1⟩:=two HC1.out;obtain⟨r0,r1,f0,f1⟩:=HR1.out.four
   go_wp2_with fail
   have hz:=Zae (x:=.int .i64 0) (y:=.int .i64 0) r0 r1;exact bodyPost_ret (v:=.tuple #[.agg #[.int .i64 0,.int .i64 0],.bool false]) (by simp[results,Tryz.results57,go_sem,hz.1,hz.2]) rfl ⟨rfl,(HB1.out.setCell (p:=⟨w.heap.size+1,0,none⟩) (show w.heap.size≤w.heap.size+1 by omega) _).setCell (p:=⟨w.heap.size+1,1,none⟩) (show w.heap.size≤w.heap.size+1 by omega) _⟩
  ·have d0:decide (s<0)=false:=by rw[decide_eq_false_iff_not];exact hs0
   by_cases hs1:(gv.length:Int)≤s
   ·rw[Py.Zhr (Py.Zfd (by rw[decide_eq_false_iff_not];simp only;omega))]
    have d1:decide ((gv.length:Int)≤s)=true:=by rw[decide_eq_true_iff];exact hs1
    clear hvl hs0 hs1
    go_enter Tryz.func57,Tryz.ntmps57
    go_wp2_with fail
    rw[<-HW.out];refine (Zam true HVL.out HX.out HF.out).mono ?_;rintro e w1 ⟨rfl,hb1⟩;have HC1:=zH (HC.out.below hb1);have HR1:=zH (HR.out.below hb1);have HB1:=zH (HB.out.trans (hb1.mono HB.out.size));have HX1:=zH (HX.out.up hb1);have HV1:=zH (HV.out.up hb1);clear hb1;obtain⟨x0,x1⟩:=two HC1.out;obtain⟨r0,r1,f0,f1⟩:=HR1.out.four
    go_wp2_with fail
    have hz:=Zae (x:=.int .i64 0) (y:=.int .i64 0) r0 r1;exact bodyPost_ret (v:=.tuple #[.agg #[.int .i64 0,.int .i64 0],.bool false]) (by simp[results,Tryz.results57,go_sem,hz.1,hz.2]) rfl ⟨rfl,(HB1.out.setCell (p:=⟨w.heap.size+1,0,none⟩) (show w.heap.size≤w.heap.size+1 by omega) _).setCell (p:=⟨w.heap.size+1,1,none⟩) (show w.heap.size≤w.heap.size+1 by omega) _⟩
   ·obtain⟨k,rfl⟩:∃k:Nat,s=k:=⟨s.toNat,by omega⟩
    have hk:k<gv.length:=by omega
    have d1:decide ((gv.length:Int)≤(k:Int))=false:=by rw[decide_eq_false_iff_not];exact hs1
    have hke:=Py.Zlt (x:=xs) hvl hk;have hka:Py.Zkv ⟨gn,gv⟩ xs k=(Py.subR (gv.getD k 0,1) (Py.share xs k).1,Py.subK (gv.getD k 0,1) (Py.share xs k).1):=rfl;rw[hke,hka];clear hvl hke hka hs0 hs1
    go_enter Tryz.func57,Tryz.ntmps57
    go_wp2_with fail
    rw[<-HW.out];refine (Zam true HVL.out HX.out HF.out).mono ?_;rintro e w1 ⟨rfl,hb1⟩;have HC1:=zH (HC.out.below hb1);have HR1:=zH (HR.out.below hb1);have HB1:=zH (HB.out.trans (hb1.mono HB.out.size));have HX1:=zH (HX.out.up hb1);have HV1:=zH (HV.out.up hb1);clear hb1;obtain⟨x0,x1⟩:=two HC1.out;obtain⟨r0,r1,f0,f1⟩:=HR1.out.four
    go_wp2_with fail
    refine (Zem k HV1.out hx).mono ?_;rintro e w3 ⟨rfl,hb3⟩;generalize Py.share xs k=sh at *;obtain⟨sh,shk⟩:=sh;dsimp only;obtain⟨W4,hW4⟩:∃W4,W4=w3.alloc (.cells #[.int .i64 sh.1,.int .i64 sh.2] 35):=⟨_,rfl⟩;have HW4:=zH hW4;have hb4:Below w1.heap.size w1 W4:=by rw[hW4];exact hb3.alloc hb3.size _
    have hq4:Zaj W4 w3.heap.size sh:=by rw[hW4];exact Zaj.new w3 sh
    have hr4:=HR1.out.below hb4;have HB4:=zH (HB1.out.trans (hb4.mono HB1.out.size));have hC4:=HC1.out.below hb4;obtain⟨b,o,rfl,hbw,hz0⟩:=HI0.out k hk;have hz4:W4.cell? ⟨b,o+k,none⟩=some (.int .i64 (gv.getD k 0)):=Zbs HB4.out (p:=⟨b,o+k,none⟩) hbw hz0;have hbl:b<W4.heap.size:=by have:=HB4.out.size;omega
    have hbr:b≠w.heap.size+1:=by omega
    have hqr:w3.heap.size≠w.heap.size+1:=by have:=hb3.size;have:=Zag HR1.out;omega
    have Cell:=zH (fun w' (h:W4.grownBy w' (some (w.heap.size+1)))=>(show w'.cell? ⟨w.heap.size,1,none⟩=some (.slice (some ⟨b,o,none⟩) gv.length c)/\w'.cell? ⟨b,o+k,none⟩=some (.int .i64 (gv.getD k 0))/\w'.cell? ⟨w3.heap.size,0,none⟩=some (.int .i64 sh.1)/\w'.cell? ⟨w3.heap.size,1,none⟩=some (.int .i64 sh.2)/\W4.grownBy w' (some (w.heap.size+1)) from
     ⟨Zd9 (p:=⟨w.heap.size,1,none⟩) h (Zag hC4) (fun e=>by have:=Option.some.inj e;simp at this) (two hC4).2,Zd9 (p:=⟨b,o+k,none⟩) h hbl (fun e=>hbr (Option.some.inj e).symm) hz4,Zd9 (p:=⟨w3.heap.size,0,none⟩) h hq4.lt (fun e=>hqr (Option.some.inj e).symm) hq4.four.1,Zd9 (p:=⟨w3.heap.size,1,none⟩) h hq4.lt (fun e=>hqr (Option.some.inj e).symm) hq4.four.2.1,h⟩))
    have hg0:W4.grownBy W4.drew (some (w.heap.size+1)):=Zly (World.grownBy.refl _ _);have Hr4:=zH hr4;have hlo4:=HB4.out.size;have n1:(k:Int)<(gv.length:Int):=by omega
    clear hb3 hW4 hb4 hq4 hC4 hz4 hz0 hbl HC1 HI0 HR1 HB1 HX1 HV1 HX HV HC HR HB HW x0 x1 r0 r1 f0 f1 HF HVL hr4;generalize gv.getD k 0=z at *
    go_upto_region 4 with (fail)
    rw[<-HW4.out];refine wp_region_held_drew (S:=fun w'=>w'.cell? ⟨w.heap.size,1,none⟩=some (.slice (some ⟨b,o,none⟩) gv.length c)/\w'.cell? ⟨b,o+k,none⟩=some (.int .i64 z)/\w'.cell? ⟨w3.heap.size,0,none⟩=some (.int .i64 sh.1)/\w'.cell? ⟨w3.heap.size,1,none⟩=some (.int .i64 sh.2)/\W4.grownBy w' (some (w.heap.size+1))) (by kernel_rfl) ?_ (fun hHeld=>?_)
    ·exact Cell.out _ hg0
    refine tk1 0 ⟨some 31,_,0,_,_,none⟩ ?_;refine tk1 1 ⟨some 32,_,22,_,_,none⟩ ?_;refine tk1 2 ⟨some 33,_,3,_,_,none⟩ ?_;refine tk1 3 ⟨some 34,_,0,_,_,none⟩ ?_;refine tk1 4 ⟨some 35,_,3,_,_,none⟩ ?_;refine tk1 6 ⟨some 37,_,35,_,_,none⟩ ?_
    try simp only[Act.put,zA,zB,zC]
    refine rd1 5 ⟨some 36,_,35,_,_,none⟩ fun K hK=>?_
    go_simp
    (go_at_call 61;refine (Zbf z _).mono ?_;rintro e w6 ⟨rfl,hb6⟩;have hg6:=Ze0 hg0 hb6;have hin6:=(Since.refl W4).drew.trans hb6)
    refine hK.out _ _ ?_ (fun hHeld=>?_)
    ·exact Cell.out _ hg6
    clear hK K
    try simp only[Act.put,zA,zB,zC]
    refine rd1 7 ⟨some 38,_,52,_,_,none⟩ fun K hK=>?_
    go_simp
    (go_at_call 74;refine (Znq (z,1) sh _).mono ?_;rintro e w7 ⟨rfl,hb7⟩;have hg7:=Ze0 hg6 hb7;have hin7:=hin6.trans hb7)
    refine hK.out _ _ ?_ (fun hHeld=>?_)
    ·exact Cell.out _ hg7
    clear hK K
    try simp only[Act.put,zA,zB,zC]
    have HB7:=zH (HB4.out.trans (hin7.low.mono hlo4));have HR7:=Hr4.out.since hin7;obtain⟨s0,s1,f0,f1⟩:=HR7.four;clear hin6 hin7 hb6 hb7 HR7 Hr4;generalize Py.subR (z,1) sh=d at *;generalize Py.subK (z,1) sh=dk at *;have hg9:=Zdw (Zdw hg7 0 (.int .i64 d.1)) 1 (.int .i64 d.2);refine tk1 8 ⟨some 39,_,35,_,_,none⟩ ?_;refine tk1 9 ⟨some 40,_,4,_,_,none⟩ ?_
    try simp only[Act.put,zA,zB,zC]
    refine rd1 10 ⟨none,_,0,_,_,none⟩ fun K hK=>?_
    go_simp
    skip
    refine hK.out _ _ ?_ (fun hHeld=>?_)
    ·exact Cell.out _ hg9
    clear hK K;refine tk1 11 ⟨some 7,_,4,_,_,none⟩ ?_
    try simp only[Act.put,zA,zB,zC]
    refine wpAnyH_done (by kernel_rfl) ?_ _;clear Cell hg0 hg6 hg7 hg9;have hz:=Zae (x:=.int .i64 d.1) (y:=.int .i64 d.2) s0 s1;clear s0 s1 f0 f1
    go_wp2_with fail
    exact bodyPost_ret (v:=.tuple #[.agg #[.int .i64 d.1,.int .i64 d.2],.bool dk]) (by simp[results,Tryz.results57,go_sem,hz.1,hz.2]) rfl ⟨rfl,(HB7.out.setCell (p:=⟨w.heap.size+1,0,none⟩) (show w.heap.size≤w.heap.size+1 by omega) _).setCell (p:=⟨w.heap.size+1,1,none⟩) (show w.heap.size≤w.heap.size+1 by omega) _⟩
end Go.Proofs.YtpjnjidbdpfdcaaGreat
