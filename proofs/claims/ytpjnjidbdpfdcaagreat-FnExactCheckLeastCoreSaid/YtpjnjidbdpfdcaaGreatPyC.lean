/- The specification's ExcessOf, IsPayoff. -/
import Derived.Test.YtpjnjidbdpfdcaaGreatPyA
import Derived.Test.YtpjnjidbdpfdcaaGreatGmB
import Derived.Test.YtpjnjidbdpfdcaaGreatGVa
import Derived.Test.YtpjnjidbdpfdcaaGreatGRa
set_option maxRecDepth 100000
set_option maxHeartbeats 4000000
namespace Go.Proofs.YtpjnjidbdpfdcaaGreat
open Go.RowKit
open Ve (R)
open Gm (G)
theorem Ze4 (x y:R) (w:World):Calls Tryz.prog 68 #[.agg #[.int .i64 x.1,.int .i64 x.2],.agg #[.int .i64 y.1,.int .i64 y.2]] w fun e w'=>e=.returned (.tuple #[.agg #[.int .i64 (Py.subR x y).1,.int .i64 (Py.subR x y).2],.bool (Py.subK x y)])/\Below w.heap.size w w':=Zjl x.1 x.2 y.1 y.2 w
def Exq (p:Nat) (y:Value) (b k:Nat) (z:Int) (q:Nat) (s:R) (B:World):Prop:=
 B.cell? ⟨p,1,none⟩=some y/\B.cell? ⟨b,k,none⟩=some (.int .i64 z)/\B.cell? ⟨q,0,none⟩=some (.int .i64 s.1)/\B.cell? ⟨q,1,none⟩=some (.int .i64 s.2)/\p<B.heap.size/\b<B.heap.size/\q<B.heap.size
theorem Exq.all {p:Nat} {y:Value} {b k:Nat} {z:Int} {q:Nat} {s:R} {B wx:World} (H:Hid (Exq p y b k z q s B)) (h:Since B wx) :
  wx.cell? ⟨p,1,none⟩=some y/\wx.cell? ⟨b,k,none⟩=some (.int .i64 z)/\wx.cell? ⟨q,0,none⟩=some (.int .i64 s.1)/\wx.cell? ⟨q,1,none⟩=some (.int .i64 s.2)/\Since B wx:=
 have k:=H.out
 ⟨h.cell (p:=⟨p,1,none⟩) k.2.2.2.2.1 k.1,h.cell (p:=⟨b,_,none⟩) k.2.2.2.2.2.1 k.2.1,h.cell (p:=⟨q,0,none⟩) k.2.2.2.2.2.2 k.2.2.1,h.cell (p:=⟨q,1,none⟩) k.2.2.2.2.2.2 k.2.2.2.1,h⟩
theorem Zhf {w:World} {x y v:Value} {g:G} {xs:List R} (s:Int) (h:GmC w x y g) (hv:Za8 w v xs) (hf:GmOk g) (hx:xs.length≤1048576) :
  Calls Tryz.prog 50 #[.agg #[x,y],v,.int .i64 s] w (Zdq (Py.exc g xs s).1 (Py.exc g xs s).2 w):=by
 obtain⟨gn,gv⟩:=g;obtain⟨a,c,rfl,rfl,hi⟩:=h;obtain⟨W,hW⟩:∃W,W=(w.alloc (.cells #[.int .i64 gn,.slice a gv.length c] 33)).alloc (.cells #[.int .i64 0,.int .i64 0] 35):=⟨_,rfl⟩;have hc:=(Zaa.new w #[.int .i64 gn,.slice a gv.length c] 33).more (.cells #[.int .i64 0,.int .i64 0] 35);have hr:=Zaj.new (w.alloc (.cells #[.int .i64 gn,.slice a gv.length c] 33)) (0,0);have hb:=((Below.refl w.heap.size w).alloc (Nat.le_refl _) (.cells #[.int .i64 gn,.slice a gv.length c] 33)).alloc (by rw[Zar];omega) (.cells #[.int .i64 0,.int .i64 0] 35);rw[Zar] at hr;rw[<-hW] at hc hr hb;have hX:GmC W (.int .i64 gn) (.slice a gv.length c) ⟨gn,gv⟩:=GmC.up ⟨a,c,rfl,rfl,hi⟩ hb;have hV:=hv.up hb;have hlv:gv.length≤1048576:=hf.1;have HW:=zH hW;have HC:=zH hc;have HR:=zH hr;have HB:=zH hb;have HX:=zH hX;have HV:=zH hV;have HF:=zH hf;dsimp only at hi;have HI0:=zH hi;clear hW hc hr hb hX hV hv hi hf
 rcases hvl:Gm.vld ⟨gn,gv⟩ with _|_
 ·rw[Py.Zhr (Py.Zhq hvl)]
  have HVL:=zH hvl;clear hvl
  go_enter Tryz.func50,Tryz.ntmps50
  go_wp2_with fail
  rw[<-HW.out];refine (Zaq false HVL.out HX.out HF.out).mono ?_;rintro e w1 ⟨rfl,hb1⟩;have HC1:=zH (HC.out.below hb1);have HR1:=zH (HR.out.below hb1);have HB1:=zH (HB.out.trans (hb1.mono HB.out.size));have HX1:=zH (HX.out.up hb1);have HV1:=zH (HV.out.up hb1);clear hb1;obtain⟨x0,x1⟩:=two HC1.out;obtain⟨r0,r1,f0,f1⟩:=HR1.out.four
  go_wp2_with fail
  have hz:=Zae (x:=.int .i64 0) (y:=.int .i64 0) r0 r1;exact bodyPost_ret (v:=.tuple #[.agg #[.int .i64 0,.int .i64 0],.bool false]) (by simp[results,Tryz.results50,go_sem,hz.1,hz.2]) rfl ⟨rfl,(HB1.out.setCell (p:=⟨w.heap.size+1,0,none⟩) (show w.heap.size≤w.heap.size+1 by omega) _).setCell (p:=⟨w.heap.size+1,1,none⟩) (show w.heap.size≤w.heap.size+1 by omega) _⟩
 ·have HVL:=zH hvl
  by_cases hs:0≤s/\s≤(gv.length:Int) - 1
  ·obtain⟨k,rfl⟩:∃k:Nat,s=k:=⟨s.toNat,by omega⟩
   have hk:k<gv.length:=by omega
   have hke:=Py.Zlt (x:=xs) hvl hk;have hsn:=Py.Zit (g:=⟨gn,gv⟩) (x:=xs) (s:=k);have hka:Py.Zkv ⟨gn,gv⟩ xs k=(Py.subR (gv.getD k 0,1) (Py.share xs k).1,Py.subK (gv.getD k 0,1) (Py.share xs k).1):=rfl;have Hd:=zH (show decide (0≤(k:Int)/\(k:Int)≤(gv.length:Int)-1)=true by rw[decide_eq_true_iff];exact hs);obtain⟨N,hN⟩:∃N,Py.exc ⟨gn,gv⟩ xs k=N:=⟨_,rfl⟩;rw[hN];rw[hke] at hN;have HN:=zH hN;have HA:=zH hka;have HS:=zH hsn;clear hvl hke hka hsn hN hs
   go_enter Tryz.func50,Tryz.ntmps50
   go_wp2_with fail
   rw[<-HW.out];refine (Zaq true HVL.out HX.out HF.out).mono ?_;rintro e w1 ⟨rfl,hb1⟩;have HC1:=zH (HC.out.below hb1);have HR1:=zH (HR.out.below hb1);have HB1:=zH (HB.out.trans (hb1.mono HB.out.size));have HX1:=zH (HX.out.up hb1);have HV1:=zH (HV.out.up hb1);clear hb1;obtain⟨x0,x1⟩:=two HC1.out;obtain⟨r0,r1,f0,f1⟩:=HR1.out.four
   go_wp2_with fail
   refine (Zb8 k 0 ((gv.length:Int)-1) true Hd.out _).mono ?_;rintro e w2 ⟨rfl,rfl⟩
   go_wp2_with fail
   refine (Zeq k HV1.out hx).mono ?_;rintro e w3 ⟨rfl,hb3⟩;generalize Py.share xs k=sh at *;obtain⟨sh,shk⟩:=sh;dsimp only at HA HS ⊢;obtain⟨W4,hW4⟩:∃W4,W4=w3.alloc (.cells #[.int .i64 sh.1,.int .i64 sh.2] 35):=⟨_,rfl⟩;have HW4:=zH hW4;have hb4:Below w2.heap.size w2 W4:=by rw[hW4];exact hb3.alloc hb3.size _
   have hq4:Zaj W4 w3.heap.size sh:=by rw[hW4];exact Zaj.new w3 sh
   have HR4:=zH (HR1.out.below hb4);have HB4:=zH (HB1.out.trans (hb4.mono HB1.out.size));have hC4:=HC1.out.below hb4;obtain⟨b,o,rfl,hbw,hz0⟩:=HI0.out k hk;have hz4:W4.cell? ⟨b,o+k,none⟩=some (.int .i64 (gv.getD k 0)):=Zbs HB4.out (p:=⟨b,o+k,none⟩) hbw hz0;have hbl:b<W4.heap.size:=by have:=HB4.out.size;omega
   have HQ:Hid (Exq w.heap.size (.slice (some ⟨b,o,none⟩) gv.length c) b (o+k) (gv.getD k 0) w3.heap.size sh W4):=⟨(two hC4).2,hz4,hq4.four.1,hq4.four.2.1,Zag hC4,hbl,hq4.lt⟩;have hin:=Since.refl W4;have n1:(k:Int)<(gv.length:Int):=by omega
   clear hb3 hW4 hb4 hq4 hC4 hz4 hz0 hbl HC1 HI0 HR1 HB1 HX1 HV1 HX HV HC HR HB HW x0 x1 r0 r1 f0 f1 HF HVL;generalize gv.getD k 0=z at *
   rcases shk with _|_
   ·have HE:=zH (HN.out.symm.trans (HS.out rfl))
    clear HA HS HN
    go_upto_region 4 with (fail)
    rw[<-HW4.out]
    go_cut [10,11] (fun p b wx=>Got W4 (Py.subR (z,1) sh).1 (Py.subR (z,1) sh).2 (Py.subK (z,1) sh) p b wx)
    case first=>
     go_region_held3 (fun w'=>w'.cell? ⟨w.heap.size,1,none⟩=some (.slice (some ⟨b,o,none⟩) gv.length c)/\w'.cell? ⟨b,o+k,none⟩=some (.int .i64 z)/\w'.cell? ⟨w3.heap.size,0,none⟩=some (.int .i64 sh.1)/\w'.cell? ⟨w3.heap.size,1,none⟩=some (.int .i64 sh.2)/\Since W4 w') (first|exact Exq.all HQ (by assumption) | exact Exq.all HQ (Since.drew (by assumption)) | exact Exq.all HQ (Own2.since (by assumption)) | exact Exq.all HQ (Since.drew (Own2.since (by assumption))) | exact Exq.all HQ (Since.alloc (by assumption) _) | exact Exq.all HQ (Since.drew (Since.alloc (by assumption) _)) | exact Exq.all HQ (Own2.set2 (by assumption) _ _) | exact Exq.all HQ (Since.drew (Own2.set2 (by assumption) _ _)))
      (first | (go_at_call 28;refine (Zb4 (Za2 z _) (B:=W4) (x:=.int .i64 0) (y:=.int .i64 0) (t:=35) (by first|assumption|exact Own2.drew (by assumption) | exact Since.new (by assumption) _ _ _|exact Own2.drew (Since.new (by assumption) _ _ _))).mono ?_;rintro e w' ⟨⟨rfl,_⟩,hin3⟩;obtain⟨z0,z1,f0,f1⟩:=Own2.own hin3) | (go_at_call 28;refine (Zbd (Za2 z _) (B:=W4) (by first|assumption|exact Since.drew (by assumption))).mono ?_;rintro e w' ⟨⟨rfl,_⟩,hin2⟩) | (go_at_call 68;refine (Zb4 (Ze4 (z,1) sh _) (B:=W4) (x:=.int .i64 0) (y:=.int .i64 0) (t:=35) (by first|assumption|exact Own2.drew (by assumption) | exact Since.new (by assumption) _ _ _|exact Own2.drew (Since.new (by assumption) _ _ _))).mono ?_;rintro e w' ⟨⟨rfl,_⟩,hin3⟩;obtain⟨z0,z1,f0,f1⟩:=Own2.own hin3) | (go_at_call 68;refine (Zbd (Ze4 (z,1) sh _) (B:=W4) (by first|assumption|exact Since.drew (by assumption))).mono ?_;rintro e w' ⟨⟨rfl,_⟩,hin2⟩))
     all_goals
      go_wp2_with fail
      go_meet
      first
      | exact Got.last (by assumption) _ _ _ _
      | exact Got.set (by assumption) _ _ _
      | exact Got.drew (Got.last (by assumption) _ _ _ _)
      | exact Got.drew (Got.set (by assumption) _ _ _)
    case rest=>
     obtain⟨q,rfl,rfl,m0,m1,hq,hqh,hs1⟩:=hcut;have HB5:=zH (HB4.out.trans (hs1.low.mono HB4.out.size));obtain⟨r0,r1,f0,f1⟩:=(HR4.out.since hs1).four;clear hs1 hin HQ HR4 HB4
     go_wp2_with fail
     have hz:=Zae (x:=.int .i64 0) (y:=.int .i64 0) r0 r1;rw[HE.out];exact bodyPost_ret (v:=.tuple #[.agg #[.int .i64 0,.int .i64 0],.bool false]) (by simp[results,Tryz.results50,go_sem,hz.1,hz.2]) rfl ⟨rfl,(HB5.out.setCell (p:=⟨w.heap.size+1,0,none⟩) (show w.heap.size≤w.heap.size+1 by omega) _).setCell (p:=⟨w.heap.size+1,1,none⟩) (show w.heap.size≤w.heap.size+1 by omega) _⟩
   ·have HE:=zH (HN.out.symm.trans HA.out)
    clear HA HS HN
    go_upto_region 4 with (fail)
    rw[<-HW4.out]
    go_cut [10,11] (fun p b wx=>Got W4 (Py.subR (z,1) sh).1 (Py.subR (z,1) sh).2 (Py.subK (z,1) sh) p b wx)
    case first=>
     go_region_held3 (fun w'=>w'.cell? ⟨w.heap.size,1,none⟩=some (.slice (some ⟨b,o,none⟩) gv.length c)/\w'.cell? ⟨b,o+k,none⟩=some (.int .i64 z)/\w'.cell? ⟨w3.heap.size,0,none⟩=some (.int .i64 sh.1)/\w'.cell? ⟨w3.heap.size,1,none⟩=some (.int .i64 sh.2)/\Since W4 w') (first|exact Exq.all HQ (by assumption) | exact Exq.all HQ (Since.drew (by assumption)) | exact Exq.all HQ (Own2.since (by assumption)) | exact Exq.all HQ (Since.drew (Own2.since (by assumption))) | exact Exq.all HQ (Since.alloc (by assumption) _) | exact Exq.all HQ (Since.drew (Since.alloc (by assumption) _)) | exact Exq.all HQ (Own2.set2 (by assumption) _ _) | exact Exq.all HQ (Since.drew (Own2.set2 (by assumption) _ _)))
      (first | (go_at_call 28;refine (Zb4 (Za2 z _) (B:=W4) (x:=.int .i64 0) (y:=.int .i64 0) (t:=35) (by first|assumption|exact Own2.drew (by assumption) | exact Since.new (by assumption) _ _ _|exact Own2.drew (Since.new (by assumption) _ _ _))).mono ?_;rintro e w' ⟨⟨rfl,_⟩,hin3⟩;obtain⟨z0,z1,f0,f1⟩:=Own2.own hin3) | (go_at_call 28;refine (Zbd (Za2 z _) (B:=W4) (by first|assumption|exact Since.drew (by assumption))).mono ?_;rintro e w' ⟨⟨rfl,_⟩,hin2⟩) | (go_at_call 68;refine (Zb4 (Ze4 (z,1) sh _) (B:=W4) (x:=.int .i64 0) (y:=.int .i64 0) (t:=35) (by first|assumption|exact Own2.drew (by assumption) | exact Since.new (by assumption) _ _ _|exact Own2.drew (Since.new (by assumption) _ _ _))).mono ?_;rintro e w' ⟨⟨rfl,_⟩,hin3⟩;obtain⟨z0,z1,f0,f1⟩:=Own2.own hin3) | (go_at_call 68;refine (Zbd (Ze4 (z,1) sh _) (B:=W4) (by first|assumption|exact Since.drew (by assumption))).mono ?_;rintro e w' ⟨⟨rfl,_⟩,hin2⟩))
     all_goals
      go_wp2_with fail
      go_meet
      first
      | exact Got.last (by assumption) _ _ _ _
      | exact Got.set (by assumption) _ _ _
      | exact Got.drew (Got.last (by assumption) _ _ _ _)
      | exact Got.drew (Got.set (by assumption) _ _ _)
    case rest=>
     obtain⟨q,rfl,rfl,m0,m1,hq,hqh,hs1⟩:=hcut;have HB5:=zH (HB4.out.trans (hs1.low.mono HB4.out.size));obtain⟨r0,r1,f0,f1⟩:=(HR4.out.since hs1).four;have Hno:=zH (fun h=>Py.Zox (x:=(z,1)) (y:=sh) h);clear hs1 hin HQ HR4 HB4;generalize Py.subR (z,1) sh=d at *;generalize hdk:Py.subK (z,1) sh=dk at *
     rcases dk with _|_
     ·have hd:=Hno.out rfl
      subst hd;clear Hno hdk
      go_wp2_with fail
      have hz:=Zae (x:=.int .i64 0) (y:=.int .i64 0) r0 r1;rw[HE.out];exact bodyPost_ret (v:=.tuple #[.agg #[.int .i64 0,.int .i64 0],.bool false]) (by simp[results,Tryz.results50,go_sem,hz.1,hz.2]) rfl ⟨rfl,(HB5.out.setCell (p:=⟨w.heap.size+1,0,none⟩) (show w.heap.size≤w.heap.size+1 by omega) _).setCell (p:=⟨w.heap.size+1,1,none⟩) (show w.heap.size≤w.heap.size+1 by omega) _⟩
     ·clear Hno hdk
      go_wp2_with fail
      have hz:=Zae (x:=.int .i64 d.1) (y:=.int .i64 d.2) r0 r1;rw[HE.out];exact bodyPost_ret (v:=.tuple #[.agg #[.int .i64 d.1,.int .i64 d.2],.bool true]) (by simp[results,Tryz.results50,go_sem,hz.1,hz.2]) rfl ⟨rfl,(HB5.out.setCell (p:=⟨w.heap.size+1,0,none⟩) (show w.heap.size≤w.heap.size+1 by omega) _).setCell (p:=⟨w.heap.size+1,1,none⟩) (show w.heap.size≤w.heap.size+1 by omega) _⟩
  ·rw[Py.Zhr (Py.Zfd (by rw[decide_eq_false_iff_not];exact hs))]
   have Hd:=zH (show decide (0≤s/\s≤(gv.length:Int)-1)=false by rw[decide_eq_false_iff_not];exact hs);clear hvl hs
   go_enter Tryz.func50,Tryz.ntmps50
   go_wp2_with fail
   rw[<-HW.out];refine (Zaq true HVL.out HX.out HF.out).mono ?_;rintro e w1 ⟨rfl,hb1⟩;have HC1:=zH (HC.out.below hb1);have HR1:=zH (HR.out.below hb1);have HB1:=zH (HB.out.trans (hb1.mono HB.out.size));have HX1:=zH (HX.out.up hb1);have HV1:=zH (HV.out.up hb1);clear hb1;obtain⟨x0,x1⟩:=two HC1.out;obtain⟨r0,r1,f0,f1⟩:=HR1.out.four
   go_wp2_with fail
   refine (Zb8 s 0 ((gv.length:Int)-1) false Hd.out _).mono ?_;rintro e w2 ⟨rfl,rfl⟩
   go_wp2_with fail
   have hz:=Zae (x:=.int .i64 0) (y:=.int .i64 0) r0 r1;exact bodyPost_ret (v:=.tuple #[.agg #[.int .i64 0,.int .i64 0],.bool false]) (by simp[results,Tryz.results50,go_sem,hz.1,hz.2]) rfl ⟨rfl,(HB1.out.setCell (p:=⟨w.heap.size+1,0,none⟩) (show w.heap.size≤w.heap.size+1 by omega) _).setCell (p:=⟨w.heap.size+1,1,none⟩) (show w.heap.size≤w.heap.size+1 by omega) _⟩
theorem Zfu {w:World} {v:Value} {xs:List R} (h:Za8 w v xs) (hx:xs.length≤1048576) (b:Bool) (hb:Ve.good xs=b):Calls Tryz.prog 54 #[v] w fun e w'=>e=.returned (.bool b)/\Below w.heap.size w w':=by
 obtain⟨a,c,rfl,hi⟩:=h;rw[<-hb];exact Zd2 w.heap.size a c xs hx w (Nat.le_refl _) hi
theorem Zpa {xs:List R} (h:∀k,k<xs.length->Ve.vld (Ve.at_ xs k)=true):Ve.good xs=true:=by
 unfold Ve.good;rw[List.all_eq_true];intro x hx;obtain⟨k,hk,rfl⟩:=List.getElem_of_mem hx;have:=h k hk
 rwa [show Ve.at_ xs k=xs[k] from by simp[Ve.at_,hk]] at this
theorem Zd3 {w:World} {x y v:Value} {g:G} {xs:List R} (r:Bool) (hrr:Py.Zcw g xs=r) (h:GmC w x y g) (hv:Za8 w v xs) (hf:GmOk g) (hx:xs.length≤1048576) :
  Calls Tryz.prog 49 #[.agg #[x,y],v] w fun e w'=>e=.returned (.bool r)/\Below w.heap.size w w':=by
 obtain⟨gn,gv⟩:=g;obtain⟨a,c,rfl,rfl,hi⟩:=h;obtain⟨W,hW⟩:∃W,W=w.alloc (.cells #[.int .i64 gn,.slice a gv.length c] 33):=⟨_,rfl⟩;have hc:=Zaa.new w #[.int .i64 gn,.slice a gv.length c] 33;have hb:=(Below.refl w.heap.size w).alloc (Nat.le_refl _) (.cells #[.int .i64 gn,.slice a gv.length c] 33);rw[<-hW] at hc hb;have hX:GmC W (.int .i64 gn) (.slice a gv.length c) ⟨gn,gv⟩:=GmC.up ⟨a,c,rfl,rfl,hi⟩ hb;have hV:=hv.up hb;have hlv:gv.length≤1048576:=hf.1;have hnb:=hf.n;have HW:=zH hW;have HC:=zH hc;have HB:=zH hb;have HX:=zH hX;have HV:=zH hV;have HF:=zH hf;obtain⟨av,cv,rfl,_⟩:=hv;clear hW hc hb hX hV hi hf
 rcases hvl:Gm.vld ⟨gn,gv⟩ with _|_
 ·have Hr:=zH ((Py.Zhz hvl).symm.trans hrr)
  have HVL:=zH hvl;clear hvl hrr
  go_enter Tryz.func49,Tryz.ntmps49
  go_wp2_with fail
  rw[<-HW.out];refine (Zaq false HVL.out HX.out HF.out).mono ?_;rintro e w1 ⟨rfl,hb1⟩;have HC1:=zH (HC.out.below hb1);have HB1:=zH (HB.out.trans (hb1.mono HB.out.size));have HX1:=zH (HX.out.up hb1);have HV1:=zH (HV.out.up hb1);clear hb1;obtain⟨x0,x1⟩:=two HC1.out
  go_wp2_with fail
  go_ret;exact⟨Zac Hr.out,HB1.out⟩
 ·have HVL:=zH hvl
  by_cases hl:(xs.length:Int)=gn
  ·have hlb:((xs.length:Int) != gn)=false:=by rw[hl];simp
   have hvn:=Gm.Zjo hvl;have hvl2:=Gm.Zbp hvl;have hpw:=Gm.Zeh hvl;have Hall:=zH (fun h=>Py.Zh5 (x:=xs) hvl hl h);have Hr:=zH ((Py.Zjy (x:=xs) hvl (by rw[decide_eq_true_iff];exact hl)).symm.trans hrr);have Hgood:=zH (Py.all_good hvl);have Hl:=zH hl;dsimp only at hvn hvl2 hpw;clear hvl hrr hl hpw hvl2
   go_enter Tryz.func49,Tryz.ntmps49
   go_wp2_with fail
   rw[<-HW.out];refine (Zaq true HVL.out HX.out HF.out).mono ?_;rintro e w1 ⟨rfl,hb1⟩;have HC1:=zH (HC.out.below hb1);have HB1:=zH (HB.out.trans (hb1.mono HB.out.size));have HX1:=zH (HX.out.up hb1);have HV1:=zH (HV.out.up hb1);clear hb1;obtain⟨x0,x1⟩:=two HC1.out;obtain⟨gd,hgd⟩:∃gd,Ve.good xs=gd:=⟨_,rfl⟩;have Hgd:=zH hgd;clear hgd
   go_wp2_with fail
   refine (Zfu HV1.out hx gd Hgd.out).mono ?_;rintro e w2 ⟨rfl,hb2⟩;have HC2:=zH (HC1.out.below hb2);have HB2:=zH (HB1.out.trans (hb2.mono HB1.out.size));have HX2:=zH (HX1.out.up hb2);have HV2:=zH (HV1.out.up hb2);obtain⟨x2,x3⟩:=two HC2.out;clear hb2 x0 x1 HC1 HB1 HX1 HV1
   rcases gd with _|_
   ·have Hr2:Hid (false=r):=by
     show _=_;rw[<-Hr.out];refine (decide_eq_false_iff_not.2 fun h=>?_).symm;have h3:=Zpa (xs:=xs) (Hall.out (by rw[h]));rw[Hgd.out] at h3;cases h3
    clear Hr Hall Hgd
    go_wp2_with fail
    go_ret;exact⟨Zac Hr2.out,HB2.out⟩
   ·clear Hall Hgd
    go_wp2_with fail
    have hA:(gv.length:Int)-1=Py.all ⟨gn,gv⟩:=rfl;refine (Zeq ((gv.length:Int)-1) HV2.out hx).mono ?_;rw[hA];rintro e w3 ⟨rfl,hb3⟩;generalize Py.share xs (Py.all ⟨gn,gv⟩)=sh at *;obtain⟨sh,shk⟩:=sh;obtain⟨W4,hW4⟩:∃W4,W4=w3.alloc (.cells #[.int .i64 sh.1,.int .i64 sh.2] 35):=⟨_,rfl⟩;have HW4:=zH hW4;have hb4:Below w2.heap.size w2 W4:=by rw[hW4];exact hb3.alloc hb3.size _
    have hq4:Zaj W4 w3.heap.size sh:=by rw[hW4];exact Zaj.new w3 sh
    have HB4:=zH (HB2.out.trans (hb4.mono HB2.out.size));have hC4:=HC2.out.below hb4;have HX4:=zH (HX2.out.up hb4);have hlo4:=HB4.out.size;have Cell:=zH (fun w' (h:Since W4 w')=>(show w'.cell? ⟨w3.heap.size,0,none⟩=some (.int .i64 sh.1)/\w'.cell? ⟨w3.heap.size,1,none⟩=some (.int .i64 sh.2)/\w'.cell? ⟨w.heap.size,0,none⟩=some (.int .i64 gn)/\w'.cell? ⟨w.heap.size,1,none⟩=some (.slice a gv.length c)/\Since W4 w' from
     ⟨h.cell (p:=⟨w3.heap.size,0,none⟩) hq4.lt hq4.four.1,h.cell (p:=⟨w3.heap.size,1,none⟩) hq4.lt hq4.four.2.1,h.cell (p:=⟨w.heap.size,0,none⟩) (Zag hC4) (two hC4).1,h.cell (p:=⟨w.heap.size,1,none⟩) (Zag hC4) (two hC4).2,h⟩))
    have hg0:=(Since.refl W4).drew;clear hb3 hW4 hb4 hq4 hC4 HC2 HB2 HX2 HV2 HX HV HC HB HW x2 x3 HVL;have he:=Zcu;have hg:=Zb5
    rcases shk with _|_
    ·have Hr2:Hid (false=r):=by show _=_;rw[<-Hr.out];simp
     clear Hr
     go_upto_region 4 with (fail)
     rw[<-HW4.out];refine wp_region_held_drew (S:=fun w'=>w'.cell? ⟨w3.heap.size,0,none⟩=some (.int .i64 sh.1)/\w'.cell? ⟨w3.heap.size,1,none⟩=some (.int .i64 sh.2)/\w'.cell? ⟨w.heap.size,0,none⟩=some (.int .i64 gn)/\w'.cell? ⟨w.heap.size,1,none⟩=some (.slice a gv.length c)/\Since W4 w') (by kernel_rfl) ?_ (fun hHeld=>?_)
     ·exact Cell.out _ hg0
     refine tk1 0 ⟨some 31,_,4,_,_,none⟩ ?_;refine tk1 1 ⟨some 32,_,4,_,_,none⟩ ?_
     try simp only[Act.put,zA,zB,zC]
     refine tkHu (i:=2) (oi:=⟨some 33,.load 35 (.tmp 5),35,"l11_payoff.go:29",#[⟨1,.guard⟩],some (1,true)⟩) rfl (by assumption) ?_
     try simp only[Act.put,zA,zB,zC]
     refine tkHu (i:=3) (oi:=⟨some 34,.load 33 (.tmp 2),33,"l11_payoff.go:29",#[⟨1,.guard⟩],some (1,true)⟩) rfl (by assumption) ?_
     try simp only[Act.put,zA,zB,zC]
     refine tkHu (i:=4) (oi:=⟨some 35,.call { callee:=.value (.func 29),args:=#[.tmp 34],argTypes:=#[33] },3,"l11_payoff.go:29",#[⟨3,.data⟩,⟨1,.chain⟩,⟨1,.guard⟩],some (1,true)⟩) rfl (by assumption) ?_
     try simp only[Act.put,zA,zB,zC]
     refine tkHu (i:=5) (oi:=⟨some 36,.call { callee:=.value (.func 28),args:=#[.tmp 35],argTypes:=#[3] },35,"l11_payoff.go:29",#[⟨4,.data⟩,⟨4,.chain⟩,⟨1,.guard⟩],some (1,true)⟩) rfl (by assumption) ?_
     try simp only[Act.put,zA,zB,zC]
     refine tkHu (i:=6) (oi:=⟨some 37,.binOp .eql 35 (.tmp 33) (.tmp 36) 35,4,"l11_payoff.go:29",#[⟨2,.data⟩,⟨5,.data⟩,⟨1,.guard⟩],some (1,true)⟩) rfl (by assumption) ?_
     refine tk1 7 ⟨some 38,_,4,_,_,none⟩ ?_;refine tk1 8 ⟨some 4,_,4,_,_,none⟩ ?_
     try simp only[Act.put,zA,zB,zC]
     refine wpAnyH_done (by kernel_rfl) ?_ _;clear Cell
     go_wp2_with fail
     go_ret;exact⟨Zac Hr2.out,HB4.out.drew⟩
    ·have Hr2:Hid ((sh.1 == Gm.Zcs ⟨gn,gv⟩ && sh.2 == 1)=r):=by
      show _=_;rw[<-Hr.out,Bool.eq_iff_iff,Bool.and_eq_true,beq_iff_eq,beq_iff_eq,decide_eq_true_iff]
      constructor
      ·rintro⟨h1,h2⟩;rw[<-h1,<-h2]
      ·intro h;have h1:=congrArg Prod.fst h;dsimp only at h1;rw[h1];exact⟨rfl,rfl⟩
     clear Hr;have HGV:=zH (fun (W:World) (h:GmC W (.int .i64 gn) (.slice a gv.length c) ⟨gn,gv⟩)=>Zc0 h HF.out);generalize Gm.Zcs ⟨gn,gv⟩=Gr at *
     go_upto_region 4 with (fail)
     rw[<-HW4.out];refine wp_region_held_drew (S:=fun w'=>w'.cell? ⟨w3.heap.size,0,none⟩=some (.int .i64 sh.1)/\w'.cell? ⟨w3.heap.size,1,none⟩=some (.int .i64 sh.2)/\w'.cell? ⟨w.heap.size,0,none⟩=some (.int .i64 gn)/\w'.cell? ⟨w.heap.size,1,none⟩=some (.slice a gv.length c)/\Since W4 w') (by kernel_rfl) ?_ (fun hHeld=>?_)
     ·exact Cell.out _ hg0
     refine tk1 0 ⟨some 31,_,4,_,_,none⟩ ?_;refine tk1 1 ⟨some 32,_,4,_,_,none⟩ ?_
     try simp only[Act.put,zA,zB,zC]
     refine tk1 2 ⟨some 33,_,35,_,_,some (1,true)⟩ ?_
     try simp only[Act.put,zA,zB,zC]
     refine tk1 3 ⟨some 34,_,33,_,_,some (1,true)⟩ ?_
     try simp only[Act.put,zA,zB,zC]
     refine rd1 4 ⟨some 35,_,3,_,_,some (1,true)⟩ fun K hK=>?_
     go_simp
     (go_at_call 29;refine (HGV.out _ (HX4.out.up hg0.low)).mono ?_;rintro e w6 ⟨rfl,hb6⟩;have hg6:=hg0.trans hb6)
     refine hK.out _ _ ?_ (fun hHeld=>?_)
     ·exact Cell.out _ hg6
     clear hK K
     try simp only[Act.put,zA,zB,zC]
     refine rd1 5 ⟨some 36,_,35,_,_,some (1,true)⟩ fun K hK=>?_
     go_simp
     (go_at_call 28;refine (Za2 Gr _).mono ?_;rintro e w7 ⟨rfl,hb7⟩;have hg7:=hg6.trans hb7)
     refine hK.out _ _ ?_ (fun hHeld=>?_)
     ·exact Cell.out _ hg7
     clear hK K
     try simp only[Act.put,zA,zB,zC]
     refine tk1 6 ⟨some 37,_,4,_,_,some (1,true)⟩ ?_;refine tk1 7 ⟨some 38,_,4,_,_,none⟩ ?_;refine tk1 8 ⟨some 4,_,4,_,_,none⟩ ?_
     try simp only[Act.put,zA,zB,zC]
     refine wpAnyH_done (by kernel_rfl) ?_ _;have HB7:=zH (HB4.out.trans (hg7.low.mono hlo4));clear Cell hg0 hg6 hg7
     go_wp2_with fail
     go_ret;exact⟨Zac Hr2.out,HB7.out⟩
  ·have hlb:((xs.length:Int) != gn)=true:=by rw[bne_iff_ne];exact hl
   have Hr:=zH ((Py.Zhy (g:=⟨gn,gv⟩) (x:=xs) (by rw[decide_eq_false_iff_not];exact hl)).symm.trans hrr);clear hvl hrr hl
   go_enter Tryz.func49,Tryz.ntmps49
   go_wp2_with fail
   rw[<-HW.out];refine (Zaq true HVL.out HX.out HF.out).mono ?_;rintro e w1 ⟨rfl,hb1⟩;have HC1:=zH (HC.out.below hb1);have HB1:=zH (HB.out.trans (hb1.mono HB.out.size));have HX1:=zH (HX.out.up hb1);have HV1:=zH (HV.out.up hb1);clear hb1;obtain⟨x0,x1⟩:=two HC1.out
   go_wp2_with fail
   go_ret;exact⟨Zac Hr.out,HB1.out⟩
end Go.Proofs.YtpjnjidbdpfdcaaGreat
