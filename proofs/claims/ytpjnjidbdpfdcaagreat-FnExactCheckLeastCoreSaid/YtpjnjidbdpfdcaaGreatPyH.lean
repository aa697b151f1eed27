/- The code's WorstExcess. -/
import Derived.Test.YtpjnjidbdpfdcaaGreatPyF
import Derived.Test.YtpjnjidbdpfdcaaGreatHLeN
import Derived.Test.YtpjnjidbdpfdcaaGreatCoMem
set_option maxRecDepth 100000
set_option maxHeartbeats 8000000
namespace Go.Proofs.YtpjnjidbdpfdcaaGreat
open Go.RowKit
open Ve (R)
open Gm (G)
def Zds (x:R) (ls:List Int) (k:Bool) (w:World) (e:Ending) (w':World):Prop:=∃v:Value,e=.returned (.tuple #[.agg #[.int .i64 x.1,.int .i64 x.2],v,.bool k])/\Zab w.heap.size w' v ls/\Below w.heap.size w w'
theorem Zqi {l:List R} {k:Nat} {b:R}:((Ve.at_ l k).1 == b.1 && (Ve.at_ l k).2 == b.2)=decide (Ve.at_ l k=b):=by
 rw[Bool.eq_iff_iff,Bool.and_eq_true,beq_iff_eq,beq_iff_eq,decide_eq_true_iff];exact⟨fun h=>Prod.ext h.1 h.2,fun h=>h▸⟨rfl,rfl⟩⟩
theorem Zhc {B q:Nat} {w:World} {v:Value} {xs:List Int} (h:Zab B w v xs) (hq:q<B) {x y:Value} {i j:Nat}:Zab B ((w.setCell ⟨q,i,none⟩ x).setCell ⟨q,j,none⟩ y) v xs:=
 ownsRow_setCell_below (ownsRow_setCell_below h (a:=⟨q,i,none⟩) hq x) (a:=⟨q,j,none⟩) hq y
theorem Ze2 {B B':Nat} {w:World} {v:Value} {xs:List Int} (h:Zab B' w v xs) (hB:B≤B'):Zab B w v xs:=by
 obtain⟨h1,h2|⟨g,cap,cur,e,hg,rest⟩⟩:=h
 ·exact⟨h1,.inl h2⟩
 ·exact⟨h1,.inr ⟨g,cap,cur,e,by omega,rest⟩⟩
theorem Zeb (B:Nat) (w:World) (h:B≤w.heap.size):Zab B (w.alloc (.cells #[] 3)) (.slice (some ⟨w.heap.size,0,none⟩) 0 0) []:=World.ownsRow_made w #[] 0 h (Nat.zero_le _) rfl
theorem slices_MaxFunc {w:World} {v:Value} {l:List R} (hv:Za8 w v l) (hl:l.length≤1048576) (h0:l.length≠0) (X:R) (hX:Py.mx l (l.length-1)=X) :
  Calls Tryz.prog 40 #[v,.func (.func 41) #[] #[]] w fun e w'=>e=.returned (.agg #[.int .i64 X.1,.int .i64 X.2])/\Below w.heap.size w w':=by
 obtain⟨a,c,rfl,h1⟩:=hv;have HX:=zH hX;have H1:=zH h1;have hr0:=Zaj.new w (0,0);obtain⟨b0,o0,rfl,lb0,p0,p1⟩:=(h1.below ((Below.refl w.heap.size w).alloc (Nat.le_refl _) (.cells #[.int .i64 0,.int .i64 0] 35))).at 0 (by omega);have HM0:=zH (show Ve.at_ l 0=Py.mx l (1-1) from rfl);generalize Ve.at_ l 0=y0 at *;have HR0:=zH (hr0.alloc (.cells #[.int .i64 y0.1,.int .i64 y0.2] 35));have hy0:=Zaj.new (w.alloc (.cells #[.int .i64 0,.int .i64 0] 35)) y0;rw[Zar] at hy0;have HY0:=zH hy0;have HB0:=zH (((Below.refl w.heap.size w).alloc (Nat.le_refl _) (.cells #[.int .i64 0,.int .i64 0] 35)).alloc (by rw[Zar];omega) (.cells #[.int .i64 y0.1,.int .i64 y0.2] 35));have n0:(0:Int)<(l.length:Int):=by omega
 have n1:¬(l.length:Int)<1:=by omega
 have n2:¬l.length<1:=by omega
 simp only[Nat.zero_mul,Nat.add_zero] at p0 p1;clear h1 hr0 hy0 hX
 go_enter Tryz.func40,Tryz.ntmps40
 go_wp2_with fail
 go_loopw [6] (fun i wr=>∃(m:Nat) (y:R),1≤m/\m≤l.length/\i=.int .i64 m/\Hid (y=Py.mx l (m-1))/\Hid (Zaj wr w.heap.size (0,0))/\Hid (Zaj wr (w.heap.size+1) y)/\Hid (Below w.heap.size w wr)) (fun i _=>l.length-(intOf i).toNat)
 case atStart=>exact⟨1,y0,Nat.le_refl _,by omega,rfl,HM0,HR0,HY0,HB0⟩
 case round=>
  clear HM0 HR0 HY0 HB0 p0 p1;obtain⟨m,y,hm1,hm2,rfl,hM,hR,hY,hB⟩:=hrel;have hsz:=hB.out.size
  by_cases hlt:m<l.length
  ·obtain⟨b,o,e,lb,q0,q1⟩:=(H1.out.below hB.out).at m hlt
   simp only[Option.some.injEq,Addr.mk.injEq,and_true] at e;obtain⟨e1,e2⟩:=e;subst e1 e2;obtain⟨y0',y1',_,_⟩:=hY.out.four;have HQ:Hid (Quad b0 (o0+m*2) (w.heap.size+1) 0 (Ve.at_ l m) y wr):=⟨q0,q1,y0',y1',by omega,hY.out.lt⟩;have hms:m-1+1=m:=by omega
   have HMy:=zH (show decide (0<Py.cmp (Ve.at_ l m) y)=true->Py.mx l (m+1-1)=Ve.at_ l m from fun h=>by
    have:=Py.Zoo (l:=l) (k:=m-1) (by rw[hms,<-hM.out];exact h)
    rwa [hms] at this)
   have HMn:=zH (show decide (0<Py.cmp (Ve.at_ l m) y)=false->Py.mx l (m+1-1)=y from fun h=>by
    have:=Py.Zqm (l:=l) (k:=m-1) (by rw[hms,<-hM.out];exact h);rw[hms] at this;rw[show m+1-1=m by omega,this];exact hM.out.symm)
   have Hc:=zH (fun w=>Zl1 (Ve.at_ l m) y w);have n3:(m:Int)<(l.length:Int):=by omega
   clear hms y0' y1';generalize Ve.at_ l m=x at *;generalize Py.cmp x y=z at *
   go_upto_region 7 with (fail)
   have hg0:=(Since.refl wr).drew;refine wp_region_held_drew (S:=fun w'=>w'.cell? ⟨b0,o0+m*2,none⟩=some (.int .i64 x.1)/\w'.cell? ⟨b0,o0+m*2+1,none⟩=some (.int .i64 x.2)/\w'.cell? ⟨w.heap.size+1,0,none⟩=some (.int .i64 y.1)/\w'.cell? ⟨w.heap.size+1,0+1,none⟩=some (.int .i64 y.2)/\Since wr w') (by kernel_rfl) ?_ (fun hHeld=>?_)
   ·exact Quad.five HQ hg0
   refine tk1 0 ⟨some 20,_,70,_,_,none⟩ ?_;refine tk1 1 ⟨some 21,_,36,_,_,none⟩ ?_;refine tk1 2 ⟨some 22,_,3,_,_,none⟩ ?_;refine tk1 3 ⟨some 23,_,0,_,_,none⟩ ?_;refine tk1 4 ⟨some 24,_,35,_,_,none⟩ ?_;refine tk1 5 ⟨some 25,_,35,_,_,none⟩ ?_
   try simp only[Act.put,zA,zB,zC]
   refine rd1 6 ⟨some 26,_,3,_,_,none⟩ fun K hK=>?_
   go_simp
   (refine (Hc.out _).mono ?_;rintro e w6 ⟨rfl,hb6⟩;have hg6:=hg0.trans hb6)
   refine hK.out _ _ ?_ (fun hHeld=>?_)
   ·exact Quad.five HQ hg6
   clear hK K;refine tk1 7 ⟨some 27,_,4,_,_,none⟩ ?_
   try simp only[Act.put,zA,zB,zC]
   refine wpAnyH_done (by kernel_rfl) ?_ _;have HB6:=zH (hB.out.trans (hg6.low.mono hsz));have HR6:=zH (hR.out.since hg6);have HY6:=zH (hY.out.since hg6);obtain⟨q0,q1,_,_⟩:=Quad.five HQ hg6;clear hg0 hg6 hb6 HQ Hc hB hR hY
   rcases hd:decide (0<z) with _|_
   ·have HM2:=zH (HMn.out hd)
    have hd2:¬0<z:=of_decide_eq_false hd;clear HMn HMy
    go_wp2_with fail
    go_roundw
    case rel=>exact⟨m+1,y,by omega,by omega,by go_num,HM2.out.symm,HR6,HY6,HB6⟩
    case measure=>simp[intOf];omega
   ·have HM2:=zH (HMy.out hd)
    have hd2:0<z:=of_decide_eq_true hd;obtain⟨y0',y1',f0,f1⟩:=HY6.out.four;have HR7:=zH (HR6.out.other (q:=w.heap.size+1) (by omega) 0 1 (.int .i64 x.1) (.int .i64 x.2));have HY7:=zH (HY6.out.set x);have HB7:=zH ((HB6.out.setCell (p:=⟨w.heap.size+1,0,none⟩) (show w.heap.size≤w.heap.size+1 by omega) (.int .i64 x.1)).setCell (p:=⟨w.heap.size+1,1,none⟩) (show w.heap.size≤w.heap.size+1 by omega) (.int .i64 x.2));clear HMn HMy HB6 HR6 HY6
    go_wp2_with fail
    go_roundw
    case rel=>exact⟨m+1,x,by omega,by omega,by go_num,HM2.out.symm,HR7,HY7,HB7⟩
    case measure=>simp[intOf];omega
  ·have he:m-1=l.length-1:=by omega
   have hyX:y=X:=by rw[hM.out,he];exact HX.out
   subst hyX;obtain⟨y0',y1',_,_⟩:=hY.out.four;obtain⟨r0,r1,f0,f1⟩:=hR.out.four;have n3:¬(m:Int)<(l.length:Int):=by omega
   clear he hM HX
   go_wp2_with fail
   have hz:=Zae (x:=.int .i64 y.1) (y:=.int .i64 y.2) r0 r1;exact bodyPost_ret (v:=.agg #[.int .i64 y.1,.int .i64 y.2]) (by simp[results,Tryz.results40,go_sem,hz.1,hz.2]) rfl ⟨rfl,(hB.out.setCell (p:=⟨w.heap.size,0,none⟩) (Nat.le_refl _) _).setCell (p:=⟨w.heap.size,1,none⟩) (Nat.le_refl _) _⟩
theorem Zev {w:World} {x y v:Value} {g:G} {xs:List R} (h:GmC w x y g) (hv:Za8 w v xs) (hf:GmOk g) (hx:xs.length≤1048576) :
  Calls Tryz.prog 22 #[.agg #[x,y],v] w (Zds (Py.worst g xs) (Py.Zd5 g xs) (Py.some_ g xs) w):=by
 obtain⟨gn,gv⟩:=g;obtain⟨a,c,rfl,rfl,hi⟩:=h;obtain⟨W,hW⟩:∃W,W=(w.alloc (.cells #[.int .i64 gn,.slice a gv.length c] 33)).alloc (.cells #[.int .i64 0,.int .i64 0] 35):=⟨_,rfl⟩;have hr:=Zaj.new (w.alloc (.cells #[.int .i64 gn,.slice a gv.length c] 33)) (0,0);have hb:=((Below.refl w.heap.size w).alloc (Nat.le_refl _) (.cells #[.int .i64 gn,.slice a gv.length c] 33)).alloc (by rw[Zar];omega) (.cells #[.int .i64 0,.int .i64 0] 35);have hws:W.heap.size=w.heap.size+2:=by rw[hW];exact Zib _ _ _
 rw[Zar] at hr;rw[<-hW] at hb hr;have HRB:=zH hr;have Hws:=zH hws;have HX:=zH (show GmC W (.int .i64 gn) (.slice a gv.length c) ⟨gn,gv⟩ from GmC.up ⟨a,c,rfl,rfl,hi⟩ hb);have HV:=zH (hv.up hb);have hlv:gv.length≤1048576:=hf.1;have HW:=zH hW;have HB:=zH hb;have HF:=zH hf;have hlo:=hb.size;have hll:=Py.Zl9 ⟨gn,gv⟩ xs;clear hr hws hW hb hv hi hf;obtain⟨K,hK⟩:∃K,Py.okE ⟨gn,gv⟩ xs=K:=⟨_,rfl⟩;have HK:=zH hK;obtain⟨D1,hD1⟩:∃D,Py.worst ⟨gn,gv⟩ xs=D:=⟨_,rfl⟩;obtain⟨D2,hD2⟩:∃D,Py.Zd5 ⟨gn,gv⟩ xs=D:=⟨_,rfl⟩;obtain⟨D3,hD3⟩:∃D,Py.some_ ⟨gn,gv⟩ xs=D:=⟨_,rfl⟩;rw[hD1,hD2,hD3];have HD1:=zH hD1;have HD2:=zH hD2;have HD3:=zH hD3;obtain⟨i0,hii,hz0,hz1,hz2⟩:=info_parts Zb9;have HI:=zH hii;have HZ0:=zH hz0;have HZ1:=zH hz1;have HZ2:=zH hz2;clear hK hD1 hD2 hD3 hii hz0 hz1 hz2
 go_enter Tryz.func22,Tryz.ntmps22
 go_wp2_with fail
 ·rw[<-HW.out]
  refine (Zea HX.out HV.out HF.out hx).mono ?_;rw[HK.out];rintro e w1 ⟨u,rfl,ho,hb1⟩;have HRB1:=zH (HRB.out.below hb1);obtain⟨l,hl⟩:∃l,Py.lst ⟨gn,gv⟩ xs=l:=⟨_,rfl⟩;rw[hl] at ho hll;have HL:=zH hl;obtain⟨al,cl,rfl,hal,hpl,hnl⟩:=Za1 ho;have HA:=zH hal;have HP:=zH (fun p hp=>(hpl p hp).1);have HB1:=zH (HB.out.trans (hb1.mono hlo));have hsz1:=hb1.size;clear hl ho hb1 hal hpl hnl
  rcases K with _|_
  ·have hno:=Py.Zm0 HK.out
   have hw:=Py.Ze6 hno;rw[HD3.out] at hno;rw[HD1.out,HD2.out] at hw;have HE1:=zH hw.1;have HE2:=zH hw.2;have HE3:=zH hno
   skip
   obtain⟨r0,r1,f0,f1⟩:=HRB1.out.four;clear hw hno
   go_wp2_with fail
   have hz:=Zae (x:=.int .i64 0) (y:=.int .i64 0) r0 r1;rw[HE1.out,HE2.out,HE3.out];exact bodyPost_ret (v:=.tuple #[.agg #[.int .i64 0,.int .i64 0],.slice none 0 0,.bool false]) (by simp[results,Tryz.results22,go_sem,hz.1,hz.2]) rfl ⟨_,rfl,(Zab.nil _ _),(HB1.out.setCell (p:=⟨w.heap.size+1,0,none⟩) (show w.heap.size≤w.heap.size+1 by omega) _).setCell (p:=⟨w.heap.size+1,1,none⟩) (show w.heap.size≤w.heap.size+1 by omega) _⟩
  ·by_cases h0:l.length=0
   ·have h0b:((l.length:Int) == 0)=true:=by rw[h0];rfl
    have h0c:(l.length == 0)=true:=by rw[h0];rfl
    have hno:=Py.Zki (g:=⟨gn,gv⟩) (x:=xs) (by rw[HL.out];exact h0);have hw:=Py.Ze6 hno;rw[HD3.out] at hno;rw[HD1.out,HD2.out] at hw;have HE1:=zH hw.1;have HE2:=zH hw.2;have HE3:=zH hno
    skip
    obtain⟨r0,r1,f0,f1⟩:=HRB1.out.four;clear hw hno
    go_wp2_with fail
    have hz:=Zae (x:=.int .i64 0) (y:=.int .i64 0) r0 r1;rw[HE1.out,HE2.out,HE3.out];exact bodyPost_ret (v:=.tuple #[.agg #[.int .i64 0,.int .i64 0],.slice none 0 0,.bool false]) (by simp[results,Tryz.results22,go_sem,hz.1,hz.2]) rfl ⟨_,rfl,(Zab.nil _ _),(HB1.out.setCell (p:=⟨w.heap.size+1,0,none⟩) (show w.heap.size≤w.heap.size+1 by omega) _).setCell (p:=⟨w.heap.size+1,1,none⟩) (show w.heap.size≤w.heap.size+1 by omega) _⟩
   ·have h0b:((l.length:Int) == 0)=false:=by rw[beq_eq_false_iff_ne];omega
    have h0c:(l.length == 0)=false:=by rw[beq_eq_false_iff_ne];exact h0
    have hyes:=Py.Zmz (g:=⟨gn,gv⟩) (x:=xs) HK.out (by rw[HL.out];exact h0);have hw:=Py.Zij hyes;rw[HD3.out] at hyes;rw[HD1.out,HD2.out,HL.out] at hw;have HE1:=zH hw.1;have HE2:=zH hw.2;have HE3:=zH hyes;obtain⟨X,hX⟩:∃X,Py.mx l (l.length-1)=X:=⟨_,rfl⟩;rw[hX] at HE1 HE2;have HX1:=zH hX;have he:=Zcu;have hg:=Zb5;clear hw hyes hX HD1 HD2 HD3 HK HL
    go_wp2_with fail
    refine (slices_MaxFunc ⟨al,cl,rfl,HA.out⟩ (by omega) h0 X HX1.out).mono ?_;rintro e w2 ⟨rfl,hb2⟩;have HB2:=zH ((HB1.out.trans (hb2.mono HB1.out.size)).alloc (HB1.out.trans (hb2.mono HB1.out.size)).size (.cells #[.int .i64 X.1,.int .i64 X.2] 35));have HRB2:=zH ((HRB1.out.below hb2).alloc (.cells #[.int .i64 X.1,.int .i64 X.2] 35));have HX2:=zH (Zaj.new w2 X);have HA2:=zH ((HA.out.below (hb2.alloc hb2.size (.cells #[.int .i64 X.1,.int .i64 X.2] 35))));have hlt12:w1.heap.size≤w2.heap.size:=hb2.size;have hr2:w.heap.size+1<w2.heap.size:=by have:=HRB1.out.lt;omega
    obtain⟨W2,hW2⟩:∃W2,w2.alloc (.cells #[.int .i64 X.1,.int .i64 X.2] 35)=W2:=⟨_,rfl⟩;have HW2:=zH hW2;have hsW2:W2.heap.size=w2.heap.size+1:=by rw[<-hW2];exact Zar _ _
    rw[hW2] at HB2 HRB2 HX2 HA2;have HsW2:=zH hsW2;clear hb2 HB1 HRB1 HA hW2 hsW2 HX HV HX1
    go_wp2_with fail
    rw[HW2.out]
    go_loopw [10,31] (fun v i wr=>∃k:Nat,k≤l.length/\i=.int .i64 k/\Hid (Zab W2.heap.size wr v (Py.tied l X k))/\Hid (Below W2.heap.size W2 wr)) (fun _ i _=>l.length-(intOf i).toNat)
    case atStart=>exact⟨0,Nat.zero_le _,rfl,Zab.nil _ _,Below.refl _ _⟩
    case round=>
     obtain⟨k,hk,rfl,hO,hB⟩:=hrel;have hsz:=hB.out.size;obtain⟨X0,X1,_,_⟩:=(HX2.out.below hB.out).four
     by_cases hlt:k<l.length
     ·obtain⟨b,o,rfl,lb,q0,q1⟩:=((HA2.out.mono (show w1.heap.size≤W2.heap.size by have:=HsW2.out;omega)).below hB.out).at k hlt
      have hte:=Zqi (l:=l) (k:=k) (b:=X);have n3:(k:Int)<(l.length:Int):=by omega
      have hbl:w2.heap.size<wr.heap.size:=by have:=HsW2.out;omega
      obtain⟨X2,X3,_,_⟩:=((HX2.out.below hB.out).alloc (.cells #[.int .i64 (Ve.at_ l k).1,.int .i64 (Ve.at_ l k).2] 35)).four
      by_cases hin:Ve.at_ l k=X
      ·have hd:((Ve.at_ l k).1 == X.1 && (Ve.at_ l k).2 == X.2)=true:=by rw[hte];exact decide_eq_true hin
       have He:=zH (Py.Zkm (l:=l) (b:=X) (k:=k) hin);have hlen:=Py.Zhi l X k;generalize Py.tied l X k=ls at *;generalize Ve.at_ l k=xx at *;have Hown:=zH (World.ownsRow.alloc (World.ownsRow.alloc hO.out (.cells #[.int .i64 xx.1,.int .i64 xx.2] 35)) (.cells #[.int .i64 ((k:Int)+1)] 3));clear hte hin
       go_wp2_with (at_builtin;refine wpList_append_own _ rfl _ _ 22 rfl W2.heap.size 3 i0 (.int .i64 0) 1 8 Tryz.underlying22 HI.out HZ0.out HZ1.out HZ2.out rfl (by decide) _ _ _ rfl Hown.out ⟨wr.heap.size+1,0,none⟩ 1 1 [.int .i64 ((k:Int)+1)] rfl rfl ?c1 ?c2 ?c3 ?c4 ?c5 ?_)
       case c1=>
        intro j u hj
        match j,hj with
        | 0,hj=>simp at hj;subst hj;simp[Addr.add]
       case c2=>intro u hu;simp at hu;subst hu;rfl
       case c3=>unfold maxLen;omega
       case c4=>omega
       case c5=>simp;omega
       intro v' w3 hown' hgrow _;have hne:=Hown.out.lt;have Ho1:=zH (Zab.more hown');have Hb1:=zH (((hB.out.alloc hsz (.cells #[.int .i64 xx.1,.int .i64 xx.2] 35)).alloc (by rw[Zar];omega) (.cells #[.int .i64 ((k:Int)+1)] 3)).grown hgrow (by simp;omega) (fun g hg=>(hne g hg).1));rw[<-He.out] at Ho1;clear hown' hgrow hne
       go_wp2_with fail
       go_roundw
       case rel=>exact⟨k+1,by omega,by go_num,Ho1,Hb1⟩
       case measure=>simp[intOf];omega
      ·have hd:((Ve.at_ l k).1 == X.1 && (Ve.at_ l k).2 == X.2)=false:=by rw[hte];exact decide_eq_false hin
       have He:=zH (Py.Zm3 (l:=l) (b:=X) (k:=k) hin);generalize Ve.at_ l k=xx at *;have HO2:Hid (Zab W2.heap.size (wr.alloc (.cells #[.int .i64 xx.1,.int .i64 xx.2] 35)) u10 (Py.tied l X (k+1))):=by show Zab _ _ _ _;rw[He.out];exact World.ownsRow.alloc hO.out _
       have HB3:=zH (hB.out.alloc hsz (.cells #[.int .i64 xx.1,.int .i64 xx.2] 35));clear hte hin He
       go_wp2_with fail
       go_roundw
       case rel=>exact⟨k+1,by omega,by go_num,HO2,HB3⟩
       case measure=>simp[intOf];omega
     ·have he:k=l.length:=by omega
      have n3:¬(k:Int)<(l.length:Int):=by omega
      rw[he] at hO;rw[<-HE2.out] at hO;have HO2:=zH hO.out;obtain⟨r0,r1,f0,f1⟩:=(HRB2.out.below hB.out).four;have hlow2:w.heap.size≤W2.heap.size:=HB2.out.size;have HB3:=zH (HB2.out.trans (hB.out.mono hlow2));clear he hO
      go_wp2_with fail
      have hz:=Zae (x:=.int .i64 X.1) (y:=.int .i64 X.2) r0 r1;rw[HE1.out,HE3.out];exact bodyPost_ret (v:=.tuple #[.agg #[.int .i64 X.1,.int .i64 X.2],_,.bool true]) (by simp[results,Tryz.results22,go_sem,hz.1,hz.2]) rfl ⟨_,rfl,(Ze2 (Zhc HO2.out (show w.heap.size+1<W2.heap.size by have h2:=HsW2.out;omega)) hlow2),(HB3.out.setCell (p:=⟨w.heap.size+1,0,none⟩) (show w.heap.size≤w.heap.size+1 by omega) _).setCell (p:=⟨w.heap.size+1,1,none⟩) (show w.heap.size≤w.heap.size+1 by omega) _⟩
end Go.Proofs.YtpjnjidbdpfdcaaGreat
