/- impl.partExcesses. -/
import Derived.Test.YtpjnjidbdpfdcaaGreatPyD
import Derived.Test.YtpjnjidbdpfdcaaGreatGVb
namespace Go.Proofs.YtpjnjidbdpfdcaaGreat
open Go.RowKit
open Ve (R)
open Gm (G)
theorem Zmk {g:G} {x:List R} {m:Nat} (h:1≤m):Py.pre g x (m+1-1)=Py.pre g x (m-1)++[(Py.exc g x (m:Int)).1]:=by
 have:=Py.Zka g x (m-1);rw[show m-1+1=m+1-1 by omega,show ((m-1:Nat):Int)+1=(m:Int) by omega] at this;exact this
theorem Zkz {g:G} {x:List R} {m:Nat} (h:1≤m) (h1:Py.Zbr g x (m-1)=true) (h2:(Py.exc g x (m:Int)).2=true):Py.Zbr g x (m+1-1)=true:=by
 rw[show m+1-1=m-1+1 by omega,Py.Zbr,h1,show ((m-1:Nat):Int)+1=(m:Int) by omega,h2];rfl
theorem Zky {g:G} {x:List R} {m n:Nat} (h:1≤m) (h2:(Py.exc g x (m:Int)).2=false) (hn:m-1<n):Py.Zbr g x n=false:=
 Py.Zhs (k:=m-1) (by rw[show ((m-1:Nat):Int)+1=(m:Int) by omega];exact h2) hn
set_option maxRecDepth 100000 in
set_option maxHeartbeats 4000000 in
theorem Zea {w:World} {x y v:Value} {g:G} {xs:List R} (h:GmC w x y g) (hv:Za8 w v xs) (hf:GmOk g) (hx:xs.length≤1048576) :
  Calls Tryz.prog 39 #[.agg #[x,y],v] w (Zcf (Py.lst g xs) (Py.okE g xs) w):=by
 obtain⟨gn,gv⟩:=g;obtain⟨D,hD⟩:∃D,Py.lst ⟨gn,gv⟩ xs=D:=⟨_,rfl⟩;obtain⟨K,hK⟩:∃K,Py.okE ⟨gn,gv⟩ xs=K:=⟨_,rfl⟩;rw[hD,hK];have HD:=zH hD;have HK:=zH hK;obtain⟨a,c,rfl,rfl,hi⟩:=h;obtain⟨i0,hii,hz0,hz1,hz2⟩:=info_parts Zc5;have HI:=zH hii;have HZ0:=zH hz0;have HZ1:=zH hz1;have HZ2:=zH hz2;obtain⟨W,hW⟩:∃W,W=w.alloc (.cells #[.int .i64 gn,.slice a gv.length c] 33):=⟨_,rfl⟩;have hc:=Zaa.new w #[.int .i64 gn,.slice a gv.length c] 33;have hb:=(Below.refl w.heap.size w).alloc (Nat.le_refl _) (.cells #[.int .i64 gn,.slice a gv.length c] 33);rw[<-hW] at hc hb;have hX:GmC W (.int .i64 gn) (.slice a gv.length c) ⟨gn,gv⟩:=GmC.up ⟨a,c,rfl,rfl,hi⟩ hb;have hV:=hv.up hb;have hlv:gv.length≤1048576:=hf.1;have HW:=zH hW;have HC:=zH hc;have HB:=zH hb;have HX:=zH hX;have HV:=zH hV;have HF:=zH hf;have hlo:=hb.size
 skip
 clear hii hz0 hz1 hz2 hD hK hW hc hb hX hV hv hi hf
 rcases hp:Py.Zcw ⟨gn,gv⟩ xs with _|_
 ·have HP:=zH hp
  have hok:=Py.Zmh hp;have hls:=Py.Zh1 hok;rw[HD.out] at hls;rw[HK.out] at hok;have HE1:=zH hls;have HE2:=zH hok;clear hp hok hls
  go_enter Tryz.func39,Tryz.ntmps39
  go_wp2_with fail
  rw[<-HW.out];refine (Zdx false HP.out HX.out HV.out HF.out hx).mono ?_;rintro e w1 ⟨rfl,hb1⟩;have HB1:=zH (HB.out.trans (hb1.mono HB.out.size))
  skip
  clear hb1
  go_wp2_with fail
  go_ret2
  refine⟨_,Zcy HE2.out.symm,?_,HB1.out⟩;rw[HE1.out];exact Zad.nil _ _
 ·have HP:=zH hp
  have hvl:=(Py.Zdk hp).1;have hl2:=(Gm.Zbp hvl).1;have hl3:=(Gm.Zbp hvl).2;dsimp only at hl2 hl3;have Hok:=zH ((Py.Zor hp).symm.trans HK.out);have Hls:=zH HD.out;dsimp only at Hok;clear hp hvl
  go_enter Tryz.func39,Tryz.ntmps39
  go_wp2_with fail
  rw[<-HW.out];refine (Zdx true HP.out HX.out HV.out HF.out hx).mono ?_;rintro e w1 ⟨rfl,hb1⟩;have HO1:=zH (Zad.nil W.heap.size w1);have HB1:=zH ((Below.refl W.heap.size W).trans hb1);clear hb1
  go_wp2_with fail
  go_loopw [6,7] (fun v i wr=>∃m:Nat,1≤m/\m≤gv.length-1/\i=.int .i64 m/\Hid (Zad W.heap.size wr v (Py.pre ⟨gn,gv⟩ xs (m-1)))/\Hid (Py.Zbr ⟨gn,gv⟩ xs (m-1)=true)/\Hid (Below W.heap.size W wr)) (fun _ i _=>gv.length-(intOf i).toNat)
  case atStart=>exact⟨1,Nat.le_refl _,by omega,rfl,HO1,rfl,HB1⟩
  case round=>
   obtain⟨m,hm1,hm2,rfl,hO,hA,hB⟩:=hrel;obtain⟨x0,x1⟩:=two (HC.out.below hB.out);have hsz:=hB.out.size
   by_cases hlt:m<gv.length - 1
   ·have d1:decide ((m:Int)<(gv.length:Int)-1)=true:=by rw[decide_eq_true_iff];omega
    have n1:(m:Int)<(gv.length:Int)-1:=by omega
    have He:=zH (Zmk (g:=⟨gn,gv⟩) (x:=xs) hm1);have HA2:=zH (fun h=>Zkz hm1 hA.out h);have HN:=zH (fun h=>Zky (g:=⟨gn,gv⟩) (x:=xs) (n:=gv.length-2) hm1 h (by omega));have hlen:=Nat.le_of_eq (Py.Zjc ⟨gn,gv⟩ xs (m-1));have HCall:=zH (Zg4 (m:Int) (HX.out.up hB.out) (HV.out.up hB.out) HF.out hx);have Hstart:=zH (show Py.pre ⟨gn,gv⟩ xs (m-1)=Py.pre ⟨gn,gv⟩ xs (m-1) from rfl);clear Hstart;generalize Py.pre ⟨gn,gv⟩ xs (m-1)=ls at *;obtain⟨E,hE⟩:∃E,Py.exc ⟨gn,gv⟩ xs (m:Int)=E:=⟨_,rfl⟩;obtain⟨E,ek⟩:=E;rw[hE] at HCall He HA2 HN;clear hE;dsimp only at He HA2 HN
    go_wp2_with fail
    refine HCall.out.mono ?_;rintro e w2 ⟨rfl,hb2⟩;have HB2:=zH (hB.out.trans (hb2.mono hsz));have hsz2:=HB2.out.size;have Hown1:=zH (hO.out.below hb2);clear hb2 HCall
    rcases ek with _|_
    ·have hok:=Hok.out
     rw[HN.out rfl] at hok;have hls:Py.lst ⟨gn,gv⟩ xs = []:=Py.Zh1 (HK.out.trans hok.symm);rw[Hls.out] at hls;have HE1:=zH hls;have HE2:=zH hok;have HB3:=zH ((HB2.out.alloc hsz2 (.cells #[.int .i64 E.1,.int .i64 E.2] 35)));have hsz3:=HB3.out.size;clear hok hls Hok HA2 HN
     go_wp2_with fail
     go_ret2
     refine⟨_,Zcy HE2.out,?_,HB.out.trans (HB3.out.mono hlo)⟩;rw[HE1.out];exact Zad.nil _ _
    ·have Hown:=zH (World.ownsRow.alloc (World.ownsRow.alloc Hown1.out (.cells #[.int .i64 E.1,.int .i64 E.2] 35)) (.cells #[.int .i64 E.1,.int .i64 E.2] 35))
     have HA3:Hid (Py.Zbr ⟨gn,gv⟩ xs (m+1-1)=true):=HA2.out rfl;clear HN HA2
     go_wp2_with (at_builtin;refine wpList_append_own _ rfl _ _ 36 rfl W.heap.size 35 i0 (.agg #[.int .i64 0,.int .i64 0]) 2 16 Tryz.underlying36 HI.out HZ0.out HZ1.out HZ2.out rfl (by decide) _ _ _ rfl Hown.out ⟨w2.heap.size+1,0,none⟩ 1 1 [.int .i64 E.1,.int .i64 E.2] rfl rfl ?c1 ?c2 ?c3 ?c4 ?c5 ?_)
     case c1=>
      intro j u hj
      match j,hj with
      | 0,hj=>simp at hj;subst hj;simp[Addr.add]
      | 1,hj=>simp at hj;subst hj;simp[Addr.add]
     case c2=>intro u hu;simp at hu;rcases hu with rfl|rfl<;>rfl
     case c3=>unfold maxLen;omega
     case c4=>omega
     case c5=>simp;omega
     intro v' w3 hown' hgrow _;have hne:=Hown.out.lt;have Ho1:=zH (Zad.more (x:=E) hown');have Hb1:=zH (((HB2.out.alloc hsz2 (.cells #[.int .i64 E.1,.int .i64 E.2] 35)).alloc (by rw[Zar];omega) (.cells #[.int .i64 E.1,.int .i64 E.2] 35)).grown hgrow (by simp;omega) (fun g hg=>(hne g hg).1));rw[<-He.out] at Ho1;clear hown' hgrow hne
     go_wp2_with fail
     go_roundw
     case rel=>exact⟨m+1,by omega,by omega,by go_num,Ho1,HA3,Hb1⟩
     case measure=>simp[intOf];omega
   ·have he:m-1=gv.length-2:=by omega
    have d1:decide ((m:Int)<(gv.length:Int)-1)=false:=by rw[decide_eq_false_iff_not];omega
    have n1:¬(m:Int)<(gv.length:Int)-1:=by omega
    have HE:Hid (Py.pre ⟨gn,gv⟩ xs (m-1)=D/\true=K):=by
     have hok:Py.okE ⟨gn,gv⟩ xs=true:=by rw[HK.out,<-Hok.out,<-he];exact hA.out
     have:=Py.Zi6 hok;rw[HD.out] at this;rw[HK.out] at hok;rw[he];exact⟨this.symm,hok.symm⟩
    clear he
    go_wp2_with fail
    go_ret2
    refine⟨_,Zcy HE.out.2,?_,HB.out.trans (hB.out.mono hlo)⟩;rw[<-HE.out.1];exact Zad.lower hO.out hlo
end Go.Proofs.YtpjnjidbdpfdcaaGreat
