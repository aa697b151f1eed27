/- The specification's WorstExcess. -/
import Derived.Test.YtpjnjidbdpfdcaaGreatPyE
import Derived.Test.YtpjnjidbdpfdcaaGreatPyH
namespace Go.Proofs.YtpjnjidbdpfdcaaGreat
open Go.RowKit
open Ve (R)
open Gm (G)
theorem Znd {l:List R} {k:Nat} (h:decide (0<Py.cmp (Ve.at_ l k) (Py.mx l (k-1)))=true):Py.mx l (k+1-1)=Ve.at_ l k:=by
 rcases k with _|k
 ·have h2:=of_decide_eq_true h
  have h3:Py.cmp (Ve.at_ l 0) (Py.mx l 0)=0:=Py.Znf _;simp only[Nat.zero_sub] at h2;omega
 ·exact Py.Zoo (l:=l) (k:=k) h
theorem Zo3 {l:List R} {k:Nat} (h:decide (0<Py.cmp (Ve.at_ l k) (Py.mx l (k-1)))=false):Py.mx l (k+1-1)=Py.mx l (k-1):=by
 rcases k with _|k
 ·rfl
 ·exact Py.Zqm (l:=l) (k:=k) h
set_option maxRecDepth 100000 in
set_option maxHeartbeats 8000000 in
theorem Zey {w:World} {x y v:Value} {g:G} {xs:List R} (h:GmC w x y g) (hv:Za8 w v xs) (hf:GmOk g) (hx:xs.length≤1048576) :
  Calls Tryz.prog 15 #[.agg #[x,y],v] w (Zds (Py.worst g xs) (Py.Zd5 g xs) (Py.some_ g xs) w):=by
 obtain⟨gn,gv⟩:=g;obtain⟨a,c,rfl,rfl,hi⟩:=h;obtain⟨W,hW⟩:∃W,W=(w.alloc (.cells #[.int .i64 gn,.slice a gv.length c] 33)).alloc (.cells #[.int .i64 0,.int .i64 0] 35):=⟨_,rfl⟩;have hr:=Zaj.new (w.alloc (.cells #[.int .i64 gn,.slice a gv.length c] 33)) (0,0);have hb:=((Below.refl w.heap.size w).alloc (Nat.le_refl _) (.cells #[.int .i64 gn,.slice a gv.length c] 33)).alloc (by rw[Zar];omega) (.cells #[.int .i64 0,.int .i64 0] 35);have hws:W.heap.size=w.heap.size+2:=by rw[hW];exact Zib _ _ _
 rw[Zar] at hr;rw[<-hW] at hb hr;have HRB:=zH hr;have Hws:=zH hws;have HX:=zH (show GmC W (.int .i64 gn) (.slice a gv.length c) ⟨gn,gv⟩ from GmC.up ⟨a,c,rfl,rfl,hi⟩ hb);have HV:=zH (hv.up hb);have hlv:gv.length≤1048576:=hf.1;have HW:=zH hW;have HB:=zH hb;have HF:=zH hf;have hlo:=hb.size;have hll:=Py.Zl9 ⟨gn,gv⟩ xs;clear hr hws hW hb hv hi hf;obtain⟨K,hK⟩:∃K,Py.okE ⟨gn,gv⟩ xs=K:=⟨_,rfl⟩;have HK:=zH hK;obtain⟨D1,hD1⟩:∃D,Py.worst ⟨gn,gv⟩ xs=D:=⟨_,rfl⟩;obtain⟨D2,hD2⟩:∃D,Py.Zd5 ⟨gn,gv⟩ xs=D:=⟨_,rfl⟩;obtain⟨D3,hD3⟩:∃D,Py.some_ ⟨gn,gv⟩ xs=D:=⟨_,rfl⟩;rw[hD1,hD2,hD3];have HD1:=zH hD1;have HD2:=zH hD2;have HD3:=zH hD3;obtain⟨i0,hii,hz0,hz1,hz2⟩:=info_parts Zb9;have HI:=zH hii;have HZ0:=zH hz0;have HZ1:=zH hz1;have HZ2:=zH hz2;clear hK hD1 hD2 hD3 hii hz0 hz1 hz2
 go_enter Tryz.func15,Tryz.ntmps15
 go_wp2_with fail
 ·rw[<-HW.out]
  refine (Zjm HX.out HV.out HF.out hx).mono ?_;rw[HK.out];rintro e w1 ⟨u,rfl,ho,hb1⟩;have HRB1:=zH (HRB.out.below hb1);obtain⟨l,hl⟩:∃l,Py.lst ⟨gn,gv⟩ xs=l:=⟨_,rfl⟩;rw[hl] at ho hll;have HL:=zH hl;obtain⟨al,cl,rfl,hal,hpl,hnl⟩:=Za1 ho;have HA:=zH hal;have HP:=zH (fun p hp=>(hpl p hp).1);have HB1:=zH (HB.out.trans (hb1.mono hlo));have hsz1:=hb1.size;clear hl ho hb1 hal hpl hnl
  rcases K with _|_
  ·have hno:=Py.Zm0 HK.out
   have hw:=Py.Ze6 hno;rw[HD3.out] at hno;rw[HD1.out,HD2.out] at hw;have HE1:=zH hw.1;have HE2:=zH hw.2;have HE3:=zH hno;have HEm:=zH (Zeb W.heap.size w1 hsz1);obtain⟨r0,r1,f0,f1⟩:=(HRB1.out.alloc (.cells #[] 3)).four;clear hw hno
   go_wp2_with fail
   have hz:=Zae (x:=.int .i64 0) (y:=.int .i64 0) r0 r1;rw[HE1.out,HE2.out,HE3.out];exact bodyPost_ret (v:=.tuple #[.agg #[.int .i64 0,.int .i64 0],.slice (some ⟨w1.heap.size,0,none⟩) 0 0,.bool false]) (by simp[results,Tryz.results15,go_sem,hz.1,hz.2]) rfl ⟨_,rfl,(Ze2 (Zhc HEm.out (show w.heap.size+1<W.heap.size by have h2:=Hws.out;omega)) hlo),((HB1.out.alloc HB1.out.size _).setCell (p:=⟨w.heap.size+1,0,none⟩) (show w.heap.size≤w.heap.size+1 by omega) _).setCell (p:=⟨w.heap.size+1,1,none⟩) (show w.heap.size≤w.heap.size+1 by omega) _⟩
  ·by_cases h0:l.length=0
   ·have h0b:((l.length:Int) == 0)=true:=by rw[h0];rfl
    have h0c:(l.length == 0)=true:=by rw[h0];rfl
    have hno:=Py.Zki (g:=⟨gn,gv⟩) (x:=xs) (by rw[HL.out];exact h0);have hw:=Py.Ze6 hno;rw[HD3.out] at hno;rw[HD1.out,HD2.out] at hw;have HE1:=zH hw.1;have HE2:=zH hw.2;have HE3:=zH hno;have HEm:=zH (Zeb W.heap.size w1 hsz1);obtain⟨r0,r1,f0,f1⟩:=(HRB1.out.alloc (.cells #[] 3)).four;clear hw hno
    go_wp2_with fail
    have hz:=Zae (x:=.int .i64 0) (y:=.int .i64 0) r0 r1;rw[HE1.out,HE2.out,HE3.out];exact bodyPost_ret (v:=.tuple #[.agg #[.int .i64 0,.int .i64 0],.slice (some ⟨w1.heap.size,0,none⟩) 0 0,.bool false]) (by simp[results,Tryz.results15,go_sem,hz.1,hz.2]) rfl ⟨_,rfl,(Ze2 (Zhc HEm.out (show w.heap.size+1<W.heap.size by have h2:=Hws.out;omega)) hlo),((HB1.out.alloc HB1.out.size _).setCell (p:=⟨w.heap.size+1,0,none⟩) (show w.heap.size≤w.heap.size+1 by omega) _).setCell (p:=⟨w.heap.size+1,1,none⟩) (show w.heap.size≤w.heap.size+1 by omega) _⟩
   ·have h0b:((l.length:Int) == 0)=false:=by rw[beq_eq_false_iff_ne];omega
    have h0c:(l.length == 0)=false:=by rw[beq_eq_false_iff_ne];exact h0
    have hyes:=Py.Zmz (g:=⟨gn,gv⟩) (x:=xs) HK.out (by rw[HL.out];exact h0);have hw:=Py.Zij hyes;rw[HD3.out] at hyes;rw[HD1.out,HD2.out,HL.out] at hw;have HE1:=zH hw.1;have HE2:=zH hw.2;have HE3:=zH hyes;obtain⟨X,hX⟩:∃X,Py.mx l (l.length-1)=X:=⟨_,rfl⟩;rw[hX] at HE1 HE2;have HX1:=zH hX;have he:=Zcu;have hg:=Zb5;clear hw hyes hX HD1 HD2 HD3 HK HL;obtain⟨b,o,rfl,lb,p0,p1⟩:=HA.out.at 0 (by omega);have n0:(0:Int)<(l.length:Int):=by omega
    simp only[Nat.zero_mul,Nat.add_zero] at p0 p1;have HM0:=zH (show Ve.at_ l 0=Py.mx l (0-1) from rfl);generalize Ve.at_ l 0=y0 at *;obtain⟨W2,hW2⟩:∃W2,w1.alloc (.cells #[.int .i64 y0.1,.int .i64 y0.2] 35)=W2:=⟨_,rfl⟩;have hsW2:W2.heap.size=w1.heap.size+1:=by rw[<-hW2];exact Zar _ _
    have HB2:=zH (HB1.out.alloc HB1.out.size (.cells #[.int .i64 y0.1,.int .i64 y0.2] 35));have HRB2:=zH (HRB1.out.alloc (.cells #[.int .i64 y0.1,.int .i64 y0.2] 35));have HY2:=zH (Zaj.new w1 y0);have HA2:=zH (HA.out.below ((Below.refl w1.heap.size w1).alloc (Nat.le_refl _) (.cells #[.int .i64 y0.1,.int .i64 y0.2] 35)));rw[hW2] at HB2 HRB2 HY2 HA2;have HW2:=zH hW2;have HsW2:=zH hsW2;have hqr:=HRB1.out.lt;clear HB1 HRB1 HA hW2 hsW2 HX HV
    go_wp2_with fail
    rw[HW2.out]
    go_loopw [10] (fun i wr=>∃(k:Nat) (y:R),k≤l.length/\i=.int .i64 k/\Hid (y=Py.mx l (k-1))/\Hid (Zaj wr (w.heap.size+1) (0,0))/\Hid (Zaj wr w1.heap.size y)/\Hid (Below w1.heap.size W2 wr)) (fun i _=>l.length-(intOf i).toNat)
    case atStart=>exact⟨0,y0,Nat.zero_le _,rfl,HM0,HRB2,HY2,Below.refl _ _⟩
    case round=>
     clear HM0 p0 p1;obtain⟨k,y,hk,rfl,hM,hR,hY,hB⟩:=hrel;have hsz:=hB.out.size
     by_cases hlt:k<l.length
     ·obtain⟨b',o',e,lb',q0,q1⟩:=(HA2.out.below hB.out).at k hlt
      simp only[Option.some.injEq,Addr.mk.injEq,and_true] at e;obtain⟨e1,e2⟩:=e;subst e1 e2;obtain⟨y0',y1',_,_⟩:=hY.out.four;have HQ:Hid (Quad b (o+k*2) w1.heap.size 0 (Ve.at_ l k) y wr):=⟨q0,q1,y0',y1',by have:=HsW2.out;omega,hY.out.lt⟩;have HMy:=zH (show decide (0<Py.cmp (Ve.at_ l k) y)=true->Py.mx l (k+1-1)=Ve.at_ l k from fun h=>Znd (by rw[<-hM.out];exact h));have HMn:=zH (show decide (0<Py.cmp (Ve.at_ l k) y)=false->Py.mx l (k+1-1)=y from fun h=>(Zo3 (by rw[<-hM.out];exact h)).trans hM.out.symm);have Hc:=zH (fun w=>Zm1 (Ve.at_ l k) y w);have n3:(k:Int)<(l.length:Int):=by omega
      clear y0' y1';generalize Ve.at_ l k=xx at *;generalize Py.cmp xx y=z at *
      go_upto_region 8 with (fail)
      have hg0:=(Since.refl wr).drew;refine wp_region_held_drew (S:=fun w'=>w'.cell? ⟨b,o+k*2,none⟩=some (.int .i64 xx.1)/\w'.cell? ⟨b,o+k*2+1,none⟩=some (.int .i64 xx.2)/\w'.cell? ⟨w1.heap.size,0,none⟩=some (.int .i64 y.1)/\w'.cell? ⟨w1.heap.size,0+1,none⟩=some (.int .i64 y.2)/\Since wr w') (by kernel_rfl) ?_ (fun hHeld=>?_)
      ·exact Quad.five HQ hg0
      refine tk1 0 ⟨some 37,_,36,_,_,none⟩ ?_;refine tk1 1 ⟨some 38,_,3,_,_,none⟩ ?_;refine tk1 2 ⟨some 39,_,0,_,_,none⟩ ?_;refine tk1 3 ⟨some 40,_,35,_,_,none⟩ ?_;refine tk1 4 ⟨some 41,_,35,_,_,none⟩ ?_
      try simp only[Act.put,zA,zB,zC]
      refine rd1 5 ⟨some 42,_,3,_,_,none⟩ fun K hK=>?_
      go_simp
      (go_at_call 33;refine (Hc.out _).mono ?_;rintro e w6 ⟨rfl,hb6⟩;have hg6:=hg0.trans hb6)
      refine hK.out _ _ ?_ (fun hHeld=>?_)
      ·exact Quad.five HQ hg6
      clear hK K;refine tk1 6 ⟨some 43,_,4,_,_,none⟩ ?_
      try simp only[Act.put,zA,zB,zC]
      refine wpAnyH_done (by kernel_rfl) ?_ _;have HB6:=zH (hB.out.trans (hg6.low.mono (show w1.heap.size≤wr.heap.size by have:=HsW2.out;omega)));have HR6:=zH (hR.out.since hg6);have HY6:=zH (hY.out.since hg6);obtain⟨q0,q1,_,_⟩:=Quad.five HQ hg6;clear hg0 hg6 hb6 HQ Hc hB hR hY
      rcases hd:decide (0<z) with _|_
      ·have HM2:=zH (HMn.out hd)
       have hd2:¬0<z:=of_decide_eq_false hd;clear HMn HMy
       go_wp2_with fail
       go_roundw
       case rel=>exact⟨k+1,y,by omega,by go_num,HM2.out.symm,HR6,HY6,HB6⟩
       case measure=>simp[intOf];omega
      ·have HM2:=zH (HMy.out hd)
       have hd2:0<z:=of_decide_eq_true hd;obtain⟨y0',y1',f0,f1⟩:=HY6.out.four;have HR7:=zH (HR6.out.other (q:=w1.heap.size) (by omega) 0 1 (.int .i64 xx.1) (.int .i64 xx.2));have HY7:=zH (HY6.out.set xx);have HB7:=zH ((HB6.out.setCell (p:=⟨w1.heap.size,0,none⟩) (Nat.le_refl _) (.int .i64 xx.1)).setCell (p:=⟨w1.heap.size,1,none⟩) (Nat.le_refl _) (.int .i64 xx.2));clear HMn HMy HB6 HR6 HY6
       go_wp2_with fail
       go_roundw
       case rel=>exact⟨k+1,xx,by omega,by go_num,HM2.out.symm,HR7,HY7,HB7⟩
       case measure=>simp[intOf];omega
     ·have he2:k=l.length:=by omega
      have hyX:y=X:=by rw[hM.out,he2];exact HX1.out
      subst hyX;have n3:¬(k:Int)<(l.length:Int):=by omega
      have HB3:=zH hB.out;have HR3:=zH hR.out;have HY3:=zH hY.out;have HA3:=zH (HA2.out.below hB.out);obtain⟨V,hV⟩:∃V,V=wr:=⟨_,rfl⟩;rw[<-hV] at HB3 HR3 HY3 HA3;have HV3:=zH hV;have HO0:=zH (Zeb wr.heap.size wr (Nat.le_refl _));have HBz:=zH ((Below.refl wr.heap.size wr).alloc (Nat.le_refl _) (.cells #[] 3));have hszV:w1.heap.size+1≤wr.heap.size:=by have:=HsW2.out;omega
      clear he2 hM hB hR hY hV HX1 HA2 HRB2 HY2 hsz hk
      go_wp2_with fail
      rw[<-HV3.out] at HO0 HBz hszV ⊢;clear HV3
      go_loopw [11,12] (fun v i wr=>∃k:Nat,k≤l.length/\i=.int .i64 k/\Hid (Zab V.heap.size wr v (Py.tied l y k))/\Hid (Below V.heap.size V wr)) (fun _ i _=>l.length-(intOf i).toNat)
      case atStart=>exact⟨0,Nat.zero_le _,rfl,HO0,HBz⟩
      case round=>
       clear HO0 HBz;obtain⟨k,hk,rfl,hO,hB⟩:=hrel;have hsz:=hB.out.size;have hY:=zH (HY3.out.below hB.out)
       by_cases hlt:k<l.length
       ·obtain⟨b',o',e,lb',q0,q1⟩:=((HA3.out.mono (show w1.heap.size≤V.heap.size by omega)).below hB.out).at k hlt
        simp only[Option.some.injEq,Addr.mk.injEq,and_true] at e;obtain⟨e1,e2⟩:=e;subst e1 e2;obtain⟨y0',y1',_,_⟩:=hY.out.four;have HQ:Hid (Quad b (o+k*2) w1.heap.size 0 (Ve.at_ l k) y wr):=⟨q0,q1,y0',y1',by omega,hY.out.lt⟩;have hte:=Zqi (l:=l) (k:=k) (b:=y);have n4:(k:Int)<(l.length:Int):=by omega
        have Hy:=zH (fun h=>Py.Zkm (l:=l) (b:=y) (k:=k) h);have Hn:=zH (fun h=>Py.Zm3 (l:=l) (b:=y) (k:=k) h);have hlen:=Py.Zhi l y k;have HO:=zH hO.out;clear y0' y1' q0 q1 hO
        rcases hd:decide (Ve.at_ l k=y) with _|_
        ·have He:=zH (Hn.out (of_decide_eq_false hd))
         rw[hd] at hte;clear Hy Hn hd;generalize Ve.at_ l k=xx at *
         go_upto_region 14 with (fail)
         have hg0:=(Since.refl wr).drew;refine wp_region_held_drew (S:=fun w'=>w'.cell? ⟨b,o+k*2,none⟩=some (.int .i64 xx.1)/\w'.cell? ⟨b,o+k*2+1,none⟩=some (.int .i64 xx.2)/\w'.cell? ⟨w1.heap.size,0,none⟩=some (.int .i64 y.1)/\w'.cell? ⟨w1.heap.size,0+1,none⟩=some (.int .i64 y.2)/\Since wr w') (by kernel_rfl) ?_ (fun hHeld=>?_)
         ·exact Quad.five HQ hg0
         refine tk1 0 ⟨some 55,_,36,_,_,none⟩ ?_;refine tk1 1 ⟨some 56,_,3,_,_,none⟩ ?_;refine tk1 2 ⟨some 57,_,0,_,_,none⟩ ?_;refine tk1 3 ⟨some 58,_,35,_,_,none⟩ ?_;refine tk1 4 ⟨some 59,_,35,_,_,none⟩ ?_;refine tk1 5 ⟨some 60,_,4,_,_,none⟩ ?_
         try simp only[Act.put,zA,zB,zC]
         refine wpAnyH_done (by kernel_rfl) ?_ _;have HO2:Hid (Zab V.heap.size wr.drew u11 (Py.tied l y (k+1))):=by show Zab _ _ _ _;rw[He.out];exact HO.out
         have HB4:=zH hB.out.drew;clear hg0 He hte HQ
         go_wp2_with fail
         go_roundw
         case rel=>exact⟨k+1,by omega,by go_num,HO2,HB4⟩
         case measure=>simp[intOf];omega
        ·have He:=zH (Hy.out (of_decide_eq_true hd))
         rw[hd] at hte;clear Hy Hn hd;generalize Ve.at_ l k=xx at *;generalize Py.tied l y k=ls at *
         go_upto_region 14 with (fail)
         have hg0:=(Since.refl wr).drew;refine wp_region_held_drew (S:=fun w'=>w'.cell? ⟨b,o+k*2,none⟩=some (.int .i64 xx.1)/\w'.cell? ⟨b,o+k*2+1,none⟩=some (.int .i64 xx.2)/\w'.cell? ⟨w1.heap.size,0,none⟩=some (.int .i64 y.1)/\w'.cell? ⟨w1.heap.size,0+1,none⟩=some (.int .i64 y.2)/\Since wr w') (by kernel_rfl) ?_ (fun hHeld=>?_)
         ·exact Quad.five HQ hg0
         refine tk1 0 ⟨some 55,_,36,_,_,none⟩ ?_;refine tk1 1 ⟨some 56,_,3,_,_,none⟩ ?_;refine tk1 2 ⟨some 57,_,0,_,_,none⟩ ?_;refine tk1 3 ⟨some 58,_,35,_,_,none⟩ ?_;refine tk1 4 ⟨some 59,_,35,_,_,none⟩ ?_;refine tk1 5 ⟨some 60,_,4,_,_,none⟩ ?_
         try simp only[Act.put,zA,zB,zC]
         refine wpAnyH_done (by kernel_rfl) ?_ _;obtain⟨W5,hW5⟩:∃W5,wr.drew=W5:=⟨_,rfl⟩;have HB4:=zH hB.out.drew;have HO4:=zH (show Zab V.heap.size wr.drew u11 ls from HO.out);rw[hW5] at HB4 HO4 ⊢;have hsz5:=HB4.out.size;have Hown:=zH (World.ownsRow.alloc HO4.out (.cells #[.int .i64 ((k:Int)+1)] 3));clear hg0 hte HQ hW5 HO hB hY
         go_wp2_with (at_builtin;refine wpList_append_own _ rfl _ _ 22 rfl V.heap.size 3 i0 (.int .i64 0) 1 8 Tryz.underlying22 HI.out HZ0.out HZ1.out HZ2.out rfl (by decide) _ _ _ rfl Hown.out ⟨W5.heap.size,0,none⟩ 1 1 [.int .i64 ((k:Int)+1)] rfl rfl ?c1 ?c2 ?c3 ?c4 ?c5 ?_)
         case c1=>
          intro j u hj
          match j,hj with
          | 0,hj=>simp at hj;subst hj;simp[Addr.add]
         case c2=>intro u hu;simp at hu;subst hu;rfl
         case c3=>unfold maxLen;omega
         case c4=>omega
         case c5=>simp;omega
         intro v' w3 hown' hgrow _;have hne:=Hown.out.lt;have Ho1:=zH (Zab.more hown');have Hb1:=zH ((HB4.out.alloc hsz5 (.cells #[.int .i64 ((k:Int)+1)] 3)).grown hgrow (by simp;omega) (fun g hg=>(hne g hg).1));rw[<-He.out] at Ho1;clear hown' hgrow hne
         go_wp2_with fail
         go_roundw
         case rel=>exact⟨k+1,by omega,by go_num,Ho1,Hb1⟩
         case measure=>simp[intOf];omega
       ·have he2:k=l.length:=by omega
        have n4:¬(k:Int)<(l.length:Int):=by omega
        rw[he2] at hO;rw[<-HE2.out] at hO;have HO2:=zH hO.out;obtain⟨y0',y1',_,_⟩:=hY.out.four;obtain⟨r0,r1,f0,f1⟩:=(HR3.out.below hB.out).four;have hlowV:w.heap.size≤V.heap.size:=by omega
        have HB5:=zH (HB2.out.trans ((HB3.out.mono (show w.heap.size≤w1.heap.size by omega)).trans (hB.out.mono hlowV)));clear he2 hO
        go_wp2_with fail
        have hz:=Zae (x:=.int .i64 y.1) (y:=.int .i64 y.2) r0 r1;rw[HE1.out,HE3.out];exact bodyPost_ret (v:=.tuple #[.agg #[.int .i64 y.1,.int .i64 y.2],_,.bool true]) (by simp[results,Tryz.results15,go_sem,hz.1,hz.2]) rfl ⟨_,rfl,(Ze2 (Zhc HO2.out (show w.heap.size+1<V.heap.size by omega)) hlowV),(HB5.out.setCell (p:=⟨w.heap.size+1,0,none⟩) (show w.heap.size≤w.heap.size+1 by omega) _).setCell (p:=⟨w.heap.size+1,1,none⟩) (show w.heap.size≤w.heap.size+1 by omega) _⟩
end Go.Proofs.YtpjnjidbdpfdcaaGreat
