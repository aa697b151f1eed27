/- The parts LpI2, LpI3, LpI4. -/
import Derived.Test.YtpjnjidbdpfdcaaGreatGLb
import Derived.Test.YtpjnjidbdpfdcaaGreatLpI1
import Derived.Test.YtpjnjidbdpfdcaaGreatGLp
import Derived.Test.YtpjnjidbdpfdcaaGreatGVc
set_option maxRecDepth 100000
set_option maxHeartbeats 4000000
namespace Go.Proofs.YtpjnjidbdpfdcaaGreat
open Go.RowKit
open Ve (R)
open Lp (P)
theorem Znk {a b:List R} (h:Ve.dotK a b=false):Ve.dotR a b=(0,0):=by
 by_cases hl:a.length=b.length
 ·exact (Ve.Ziq hl (Nat.le_refl _) (by rw[<-(Ve.Zb1 hl).2];exact h)).1
 ·exact (Ve.Zir hl).1
theorem Zhw (B:Nat) (a b:Option Addr) (c1 c2:Nat) (l:List Int) (v:List R) (hn:l.length≤1048576) (hn2:v.length≤1048576) (w:World) (hBw:B≤w.heap.size) (h1:Zal B w a l) (h2:Zah B w b v) :
  Calls Tryz.prog 84 #[.slice a l.length c1,.slice b v.length c2] w (Zdq (Lp.idR l v) (Lp.idK l v) w):=by
 obtain⟨D,hD⟩:∃D,Lp.idR l v=D:=⟨_,rfl⟩;obtain⟨K,hK⟩:∃K,Lp.idK l v=K:=⟨_,rfl⟩;rw[hD,hK];have HD:=zH hD;have HK:=zH hK;have hb0:=(Below.refl w.heap.size w).alloc (Nat.le_refl _) (.cells #[.int .i64 0,.int .i64 0] 35);have H1:=zH ((h1.mono hBw).below hb0);have H2:=zH ((h2.mono hBw).below hb0);have Hb0:=zH hb0;have Hr0:=zH (Zaj.new w (0,0));have hil:=Zhx l;clear h1 h2 hD hK hb0
 go_enter Tryz.func84,Tryz.ntmps84
 go_wp2_with fail
 refine (Zfj w.heap.size a c1 l hn _ Hb0.out.size H1.out).mono ?_;rintro e w1 ⟨u,rfl,ho,k1⟩;rw[show Ve.outR (Ve.ofI l) l.length=Lp.ir l from rfl] at ho;rw[show Ve.allK (Ve.ofI l) l.length=Lp.irK l from rfl];obtain⟨x,cx,rfl,hx,_,_⟩:=Za1 ho;have HX:=zH hx;have Hb1:=zH (Hb0.out.trans (k1.mono Hb0.out.size));have hr1:=Hr0.out.below k1;have Hr1:=zH hr1;have H21:=zH (H2.out.below (k1.mono Hb0.out.size));obtain⟨r0,r1,f0,f1⟩:=hr1.four;clear k1 ho hx hr1;obtain⟨k,hk⟩:∃k,Lp.irK l=k:=⟨_,rfl⟩;rw[hk];have Hk:=zH hk;clear hk;cases k with
 | false=>
  have hid:Lp.idK l v=false:=by unfold Lp.idK;rw[Hk.out];rfl
  have hDD:(0,0)=D:=by rw[<-HD.out,Lp.Zpc hid]
  have hKK:false=K:=by rw[<-HK.out,hid]
  subst hDD hKK;clear hid
  go_wp2_with fail
  have hz:=Zae (x:=.int .i64 0) (y:=.int .i64 0) r0 r1;exact bodyPost_ret (v:=.tuple #[.agg #[.int .i64 0,.int .i64 0],.bool false]) (by simp[results,Tryz.results84,go_sem,hz.1,hz.2]) rfl ⟨rfl,(Hb1.out.setCell (p:=⟨w.heap.size,0,none⟩) (Nat.le_refl _) _).setCell (p:=⟨w.heap.size,1,none⟩) (Nat.le_refl _) _⟩
 | true=>
  have hKK:Ve.dotK (Lp.ir l) v=K:=by rw[<-HK.out];unfold Lp.idK;rw[Hk.out];rfl
  have hDD:Ve.dotR (Lp.ir l) v=D\/(K=false/\D=(0,0)):=by
   cases hk2:Lp.idK l v
   ·exact .inr ⟨by rw[<-HK.out,hk2],by rw[<-HD.out,Lp.Zpc hk2]⟩
   ·exact .inl (by rw[<-HD.out,(Lp.Zjv hk2).2.2.1])
  have hDR:Ve.dotR (Lp.ir l) v=D:=by
   rcases hDD with h|⟨h1,h2⟩
   ·exact h
   ·rw[h2];exact Znk (hKK.trans h1)
  have HDR:=zH hDR;have HKK:=zH hKK;clear hDD hDR hKK r0 r1 f0 f1
  go_wp2_with fail
  refine (Zfi w1.heap.size x b cx c2 (Lp.ir l) v (by omega) hn2 _ (Nat.le_refl _) HX.out (H21.out.mono Hb1.out.size)).mono ?_;rintro e w2 ⟨rfl,k2⟩;rw[HDR.out,HKK.out];have Hb2:=zH (Hb1.out.trans (k2.mono Hb1.out.size));have hr2:=Hr1.out.below k2;obtain⟨r0,r1,f0,f1⟩:=hr2.four;clear k2 hr2
  go_wp2_with fail
  have hz:=Zae (x:=.int .i64 D.1) (y:=.int .i64 D.2) r0 r1;exact bodyPost_ret (v:=.tuple #[.agg #[.int .i64 D.1,.int .i64 D.2],.bool K]) (by simp[results,Tryz.results84,go_sem,hz.1,hz.2]) rfl ⟨rfl,(Hb2.out.setCell (p:=⟨w.heap.size,0,none⟩) (Nat.le_refl _) _).setCell (p:=⟨w.heap.size,1,none⟩) (Nat.le_refl _) _⟩
def Zc7 (v:List R):Bool:=v.any fun x=>decide (x.1<0)
theorem Zqn {v:List R} {k:Nat} (hk:k<v.length) (h:(Ve.at_ v k).1<0):Zc7 v=true:=by
 unfold Zc7;rw[List.any_eq_true];have e:Ve.at_ v k=v[k]:=by unfold Ve.at_;rw[List.getD_eq_getElem?_getD,List.getElem?_eq_getElem hk];rfl
 exact⟨v[k],List.getElem_mem hk,by rw[<-e];exact decide_eq_true h⟩
theorem Znw {v:List R} (h:∀k,k<v.length->¬(Ve.at_ v k).1<0):Zc7 v=false:=by
 unfold Zc7;rw[List.any_eq_false];intro x hx;obtain⟨k,hk,rfl⟩:=List.getElem_of_mem hx;have:=h k hk;have e:Ve.at_ v k=v[k]:=by unfold Ve.at_;rw[List.getD_eq_getElem?_getD,List.getElem?_eq_getElem hk];rfl
 rw[e] at this
 simpa using this
theorem Zcx (v:List R):Lp.nonneg v=(Ve.good v && !Zc7 v):=by
 unfold Lp.nonneg Ve.good Zc7
 induction v with
 | nil=>rfl
 | cons x v ih=>
  simp only[List.all_cons,List.any_cons,ih,Bool.not_or];have e:decide (0≤x.1)=!decide (x.1<0):=by
   by_cases h:x.1<0
   ·have:¬0≤x.1:=by omega
    simp[h]
   ·have:0≤x.1:=by omega
    simp[h,this]
  rw[e];cases Ve.vld x<;>cases decide (x.1<0)<;>simp
theorem Zci (x:R) (w:World):Calls Tryz.prog 95 #[.agg #[.int .i64 x.1,.int .i64 x.2]] w fun e w'=>e=.returned (.bool (decide (x.1<0)))/\Below w.heap.size w w':=by
 go_enter Tryz.func95,Tryz.ntmps95
 go_wp2_with fail
 go_ret;exact⟨rfl,by (repeat' (first|exact Below.refl _ _|exact Nat.le_refl _|refine Below.setCell ?_ ?_ _|refine Below.alloc ?_ ?_ _|refine below_drewN ?_ _|refine Below.drew ?_ | (simp;done) | (simp;omega)))⟩
def Zp7 (v:List R) (w:World) (e:Ending) (w':World):Prop:=∃r:Int,e=.returned (.int .i64 r)/\decide (0≤r)=Zc7 v/\Below w.heap.size w w'
theorem slices_IndexFunc (B:Nat) (a:Option Addr) (c:Nat) (v:List R) (hn:v.length≤1048576) (w:World) (hBw:B≤w.heap.size) (h1:Zah B w a v) :
  Calls Tryz.prog 100 #[.slice a v.length c,.func (.func 95) #[] #[]] w (Zp7 v w):=by
 have H1:=zH (h1.mono hBw);clear h1
 go_enter Tryz.func100,Tryz.ntmps100
 go_wp2_with fail
 go_loopw [8] (fun i wr=>∃k:Nat,k≤v.length/\i=.int .i64 k/\Hid (∀j,j<k->0≤(Ve.at_ v j).1)/\Hid (Below w.heap.size w wr)) (fun i _=>v.length-(intOf i).toNat)
 case atStart=>exact⟨0,Nat.zero_le _,rfl,fun j hj=>absurd hj (by omega),Below.refl _ _⟩
 case round=>
  obtain⟨k,hk,rfl,hA,hB⟩:=hrel
  by_cases hlt:k<v.length
  ·obtain⟨b,o,rfl,hb,c0,c1⟩:=(H1.out.below hB.out).at k hlt
   rcases hv:decide ((Ve.at_ v k).1<0) with _|_
   ·have HA2:Hid (∀j,j<k+1->0≤(Ve.at_ v j).1):=fun j hj=>by
     by_cases e:j=k
     ·subst e;have:=of_decide_eq_false hv;omega
     ·exact hA.out j (by omega)
    have Hc:=zH (fun w=>(show Calls Tryz.prog 95 #[.agg #[.int .i64 (Ve.at_ v k).1,.int .i64 (Ve.at_ v k).2]] w fun e w'=>e=.returned (.bool false)/\Below w.heap.size w w' from hv▸Zci (Ve.at_ v k) w));generalize Ve.at_ v k=x at *;clear hv
    go_wp2_with fail
    refine (Hc.out _).mono ?_;rintro e w1 ⟨rfl,hb1⟩;have Hb:=zH (hB.out.trans (hb1.mono hB.out.size));clear hb1
    go_wp2_with fail
    go_roundw
    case rel=>exact⟨k+1,by omega,by go_num,HA2,Hb⟩
    case measure=>simp[intOf];omega
   ·have Hr:=zH (Zqn hlt (of_decide_eq_true hv))
    have Hc:=zH (fun w=>(show Calls Tryz.prog 95 #[.agg #[.int .i64 (Ve.at_ v k).1,.int .i64 (Ve.at_ v k).2]] w fun e w'=>e=.returned (.bool true)/\Below w.heap.size w w' from hv▸Zci (Ve.at_ v k) w));generalize Ve.at_ v k=x at *;clear hv
    go_wp2_with fail
    refine (Hc.out _).mono ?_;rintro e w1 ⟨rfl,hb1⟩;have Hb:=zH (hB.out.trans (hb1.mono hB.out.size));clear hb1
    go_wp2_with fail
    go_ret;exact⟨k,rfl,by rw[Hr.out,decide_eq_true_iff];omega,Hb.out⟩
  ·have Hr:=zH (Znw (v:=v) fun j hj=>by have:=hA.out j (by omega);omega)
   go_wp2_with fail
   go_ret;exact⟨-1,rfl,by rw[Hr.out];decide,hB.out⟩
theorem slices_ContainsFunc (B:Nat) (a:Option Addr) (c:Nat) (v:List R) (hn:v.length≤1048576) (w:World) (hBw:B≤w.heap.size) (h1:Zah B w a v) :
  Calls Tryz.prog 94 #[.slice a v.length c,.func (.func 95) #[] #[]] w fun e w'=>e=.returned (.bool (Zc7 v))/\Below w.heap.size w w':=by
 have HI:=zH (slices_IndexFunc B a c v hn w hBw h1);clear h1
 go_enter Tryz.func94,Tryz.ntmps94
 go_wp2_with fail
 refine HI.out.mono ?_;rintro e w1 ⟨r,rfl,hr,hb⟩;have Hr:=zH hr;have Hb:=zH hb;clear hr hb
 go_wp2_with fail
 go_ret;exact⟨Zac Hr.out,Hb.out⟩
theorem Zcr (B:Nat) (a:Option Addr) (c:Nat) (v:List R) (hn:v.length≤1048576) (w:World) (hBw:B≤w.heap.size) (h1:Zah B w a v) :
  Calls Tryz.prog 83 #[.slice a v.length c] w fun e w'=>e=.returned (.bool (Zc7 v))/\Below w.heap.size w w':=by
 have HI:=zH (slices_ContainsFunc B a c v hn w hBw h1);clear h1
 go_enter Tryz.func83,Tryz.ntmps83
 go_wp2_with fail
 refine HI.out.mono ?_;rintro e w1 ⟨rfl,hb⟩;have Hb:=zH hb;clear hb
 go_wp2_with fail
 go_ret;exact⟨rfl,Hb.out⟩
def solP (p:P) (x:List R) (bs:List Int):Bool:=decide (x.length=p.C.length) && (Lp.nonneg x && Lp.gives p x bs)
theorem Znl (p:P) (x:List R):Lp.feas p x=(Lp.vldP p && solP p x p.B):=rfl
theorem Zfl (B:Nat) (a b c va ba:Option Addr) (c1 c2 c3 vc bc:Nat) (p:P) (v:List R) (bs:List Int) (hn:Zct p) (hv:v.length≤1048576) (hbl:p.A.length≤bs.length) (hbm:bs.length≤1048576) (g:Bool) (hg:solP p v bs=g) (w:World) (hBw:B≤w.heap.size) (hz:LpIn B w a b c p) (hv1:Zah B w va v) (hb1:Zal B w ba bs) :
  Calls Tryz.prog 66 #[.agg #[.slice a p.A.length c1,.slice b p.B.length c2,.slice c p.C.length c3],.slice va v.length vc,.slice ba bs.length bc] w fun e w'=>e=.returned (.bool g)/\Below w.heap.size w w':=by
 have hb:=(Below.refl w.heap.size w).alloc (Nat.le_refl _) (.cells #[.slice a p.A.length c1,.slice b p.B.length c2,.slice c p.C.length c3] 47);have hsz:w.heap.size≤(w.alloc (.cells #[.slice a p.A.length c1,.slice b p.B.length c2,.slice c p.C.length c3] 47)).heap.size:=by rw[Zar];omega
 have Hx:=zH (Tri.new w (.slice a p.A.length c1) (.slice b p.B.length c2) (.slice c p.C.length c3) 47);have Hz:=zH ((hz.mono hBw).below hb);have Hv:=zH ((hv1.mono hBw).below hb);have HBs:=zH ((hb1.mono hBw).below hb);have Hsz:=zH hsz;have HR:=zH hn.row;have hA:=hn.A;have hC:=hn.C;have Hb:=zH hb;have Hst:=zH (Since.refl (w.alloc (.cells #[.slice a p.A.length c1,.slice b p.B.length c2,.slice c p.C.length c3] 47)));have heq:=Zcu;have hneq:=Zop;have hgeq:=Zb5;clear hz hv1 hb1 hb hsz hn
 by_cases hl:v.length=p.C.length
 ·have hnl:((v.length:Int) != (p.C.length:Int))=false:=by rw[hl];simp
  have Hl:=zH hl
  rcases hgo:Ve.good v with _|_
  ·have Hr:=zH (show false=g by rw[<-hg];unfold solP;rw[Zcx,hgo];simp)
   have HV:=zH (Zcm w.heap.size va vc v hv _ Hsz.out Hv.out);rw[hgo] at HV;clear hg hgo hl
   go_enter Tryz.func66,Tryz.ntmps66
   go_wp2_with fail
   refine HV.out.mono ?_;rintro e w1 ⟨rfl,k1⟩;have Hb1:=zH (Hb.out.trans (k1.mono Hsz.out));clear k1
   go_wp2_with fail
   go_ret;exact⟨Zac Hr.out,Hb1.out⟩
  ·have HV:=zH (Zcm w.heap.size va vc v hv _ Hsz.out Hv.out)
   rw[hgo] at HV
   rcases hne:Zc7 v with _|_
   ·have Hg:=zH (show Lp.gives p v bs=g by rw[<-hg];unfold solP;rw[Zcx,hgo,hne,hl];simp)
    have Hne:=zH hne;clear hg hgo hl hne
    go_enter Tryz.func66,Tryz.ntmps66
    go_wp2_with fail
    refine HV.out.mono ?_;rintro e w1 ⟨rfl,k1⟩;have HS1:=zH (Hst.out.trans k1);have Hv1:=zH (Hv.out.below (k1.mono Hsz.out));have hsz1:w.heap.size≤w1.heap.size:=Nat.le_trans Hsz.out k1.size;clear k1
    go_wp2_with fail
    refine (Zcr w.heap.size va vc v hv _ hsz1 Hv1.out).mono ?_;rintro e w2 ⟨rfl,k2⟩;have HS2:=zH (HS1.out.trans k2);obtain⟨x0,x1,x2,_⟩:=(Hx.out.below HS2.out.low).cells;have hneg:=Hne.out;clear k2 Hv1
    go_wp2_with fail
    clear x0 x1 x2;generalize hW0:w.alloc (.cells #[.slice a p.A.length c1,.slice b p.B.length c2,.slice c p.C.length c3] 47)=W0 at *
    go_loopw [29] (fun i wr=>∃k:Nat,k≤p.A.length/\i=.int .i64 k/\Hid (∀j,j<k->gvOk p v bs j=true)/\Hid (Since W0 wr)) (fun i _=>p.A.length-(intOf i).toNat)
    case atStart=>exact⟨0,Nat.zero_le _,rfl,fun j hj=>absurd hj (by omega),HS2.out⟩
    case round=>
     obtain⟨k,hk,rfl,hOk,hS⟩:=hrel;obtain⟨x0,x1,x2,_⟩:=(Hx.out.below hS.out.low).cells;have hlow:=hS.out.low.mono Hsz.out
     by_cases hlt:k<p.A.length
     ·obtain⟨b1,o1,a',c',rfl,_,hcell,hN⟩:=(Hz.out.below hlow).mA k hlt
      obtain⟨b2,o2,rfl,hb2,hbc⟩:=(HBs.out.below hlow) k (by omega);have hszr:w.heap.size≤wr.heap.size:=Nat.le_trans Hsz.out hS.out.low.size;have HNr:=zH hN;have Hvr:=zH (Hv.out.below hlow);have hrl:=HR.out k hlt;have Hbad:=zH (fun (h:gvOk p v bs k=false)=>(show false=g from (Zoi hlt h).symm.trans Hg.out));have Hgood:=zH (fun (h:gvOk p v bs k=true)=>(fun j (hj:j<k+1)=>(show gvOk p v bs j=true from by
        by_cases e:j=k
        ·subst e;exact h
        ·exact hOk.out j (by omega))))
      have Hdef:=zH (show gvOk p v bs k=(Lp.idK (rw_ p.A k) v && decide (Lp.idR (rw_ p.A k) v=(bs.getD k 0,1))) from rfl);clear hN hlow
      go_wp2_with fail
      refine (Zhw w.heap.size a' va c' vc (rw_ p.A k) v hrl hv _ hszr HNr.out Hvr.out).mono ?_;rintro e w1 ⟨rfl,k1⟩;generalize gvOk p v bs k=ok at *;generalize Lp.idR (rw_ p.A k) v=D at *;generalize Lp.idK (rw_ p.A k) v=K at *;generalize bs.getD k 0=z at *;have hS2:=(hS.out.trans k1).alloc (.cells #[.int .i64 D.1,.int .i64 D.2] 35);have HS2:=zH hS2;have hbc1:w1.cell? ⟨b2,o2+k,none⟩=some (.int .i64 z):=by rw[k1.cell (p:=⟨b2,o2+k,none⟩) (by show b2<_;omega)];exact hbc
      have hsz1:w.heap.size≤w1.heap.size:=Nat.le_trans hszr k1.size;clear HNr Hvr hS2
      rcases K with _|_
      ·have Hr:=zH (Hbad.out (by rw[Hdef.out];rfl))
       clear Hbad Hgood Hdef k1
       go_wp2_with fail
       go_quiet (fail)
       go_wp2_with fail
       go_ret;exact⟨Zac Hr.out,below_drewN (Hb.out.trans (HS2.out.low.mono Hsz.out)) nq⟩
      ·have hkb:k<bs.length:=by omega
       have hkb2:((k:Int)<(bs.length:Int)):=by omega
       have hkb3:(0:Int)≤(k:Int):=by omega
       have hal:Below w1.heap.size w1 (w1.alloc (.cells #[.int .i64 D.1,.int .i64 D.2] 35)):=(Below.refl _ _).alloc (Nat.le_refl _) _;have q2:(w1.alloc (.cells #[.int .i64 D.1,.int .i64 D.2] 35)).cell? ⟨b2,o2+k,none⟩=some (.int .i64 z):=by rw[hal.cell (p:=⟨b2,o2+k,none⟩) (by show b2<_;omega)];exact hbc1
       rcases hvv:(D.1 == z && D.2 == 1) with _|_
       ·have Hr:=zH (Hbad.out (by
         rw[Hdef.out,Bool.true_and,decide_eq_false_iff_not];rintro rfl;simp at hvv))
        clear Hbad Hgood Hdef k1 hbc hbc1 hal
        go_upto_region 7 with fail
        obtain⟨W1,hW1⟩:∃W1,w1.alloc (.cells #[.int .i64 D.1,.int .i64 D.2] 35)=W1:=⟨_,rfl⟩;have hbx:Zaj W1 w1.heap.size D:=by rw[<-hW1];exact Zaj.new w1 D
        have hb2w:b2<W1.heap.size:=by rw[<-hW1,Zar];omega
        rw[hW1] at q2 HS2 ⊢;have Cell:=zH (fun w' (h:Since W1 w')=>(show w'.cell? ⟨b2,o2+k,none⟩=some (.int .i64 z)/\w'.cell? ⟨w1.heap.size,0,none⟩=some (.int .i64 D.1)/\w'.cell? ⟨w1.heap.size,1,none⟩=some (.int .i64 D.2)/\Since W1 w' from
         ⟨h.cell (p:=⟨b2,o2+k,none⟩) hb2w q2,h.cell (p:=⟨w1.heap.size,0,none⟩) hbx.lt hbx.four.1,h.cell (p:=⟨w1.heap.size,1,none⟩) hbx.lt hbx.four.2.1,h⟩))
        have hg0:=(Since.refl W1).drew;clear hW1 hbx hb2w q2;refine wp_region_held_drew (S:=fun w'=>w'.cell? ⟨b2,o2+k,none⟩=some (.int .i64 z)/\w'.cell? ⟨w1.heap.size,0,none⟩=some (.int .i64 D.1)/\w'.cell? ⟨w1.heap.size,1,none⟩=some (.int .i64 D.2)/\Since W1 w') (by kernel_rfl) ?_ (fun hHeld=>?_)
        ·exact Cell.out _ hg0
        refine tk1 0 ⟨some 40,_,4,_,_,none⟩ ?_;refine tk1 1 ⟨some 41,_,4,_,_,none⟩ ?_;refine tk1 2 ⟨some 42,_,4,_,_,none⟩ ?_
        try simp only[Act.put,zA,zB,zC]
        refine tk1 3 ⟨some 43,_,35,_,_,some (2,false)⟩ ?_
        try simp only[Act.put,zA,zB,zC]
        refine tk1 4 ⟨some 44,_,22,_,_,some (2,false)⟩ ?_
        try simp only[Act.put,zA,zB,zC]
        refine tk1 5 ⟨some 45,_,3,_,_,some (2,false)⟩ ?_
        try simp only[Act.put,zA,zB,zC]
        refine tk1 6 ⟨some 46,_,0,_,_,some (2,false)⟩ ?_
        try simp only[Act.put,zA,zB,zC]
        refine tk1 7 ⟨some 47,_,3,_,_,some (2,false)⟩ ?_
        try simp only[Act.put,zA,zB,zC]
        refine rd1 8 ⟨some 48,_,35,_,_,some (2,false)⟩ fun K hK=>?_
        go_simp
        (go_at_call 61;refine (Zbf z _).mono ?_;rintro e w6 ⟨rfl,hb6⟩;have hg6:=hg0.trans hb6)
        refine hK.out _ _ ?_ (fun hHeld=>?_)
        ·exact Cell.out _ hg6
        clear hK K
        try simp only[Act.put,zA,zB,zC]
        refine tk1 9 ⟨some 49,_,4,_,_,some (2,false)⟩ ?_;refine tk1 10 ⟨some 50,_,4,_,_,none⟩ ?_
        try simp only[Act.put,zA,zB,zC]
        refine wpAnyH_done (by kernel_rfl) ?_ _;have HS6:=zH (HS2.out.trans (hg6.low.mono (Nat.le_refl _)));clear Cell hg0 hg6 hb6
        go_wp2_with fail
        go_ret;exact⟨Zac Hr.out,Hb.out.trans (HS6.out.low.mono Hsz.out)⟩
       ·have HOk2:=zH (Hgood.out (by
         rw[Hdef.out,Bool.true_and,decide_eq_true_iff];rw[Bool.and_eq_true,beq_iff_eq,beq_iff_eq] at hvv;exact Prod.ext hvv.1 hvv.2))
        clear Hbad Hgood Hdef k1 hbc hbc1 hal
        go_upto_region 7 with fail
        obtain⟨W1,hW1⟩:∃W1,w1.alloc (.cells #[.int .i64 D.1,.int .i64 D.2] 35)=W1:=⟨_,rfl⟩;have hbx:Zaj W1 w1.heap.size D:=by rw[<-hW1];exact Zaj.new w1 D
        have hb2w:b2<W1.heap.size:=by rw[<-hW1,Zar];omega
        rw[hW1] at q2 HS2 ⊢;have Cell:=zH (fun w' (h:Since W1 w')=>(show w'.cell? ⟨b2,o2+k,none⟩=some (.int .i64 z)/\w'.cell? ⟨w1.heap.size,0,none⟩=some (.int .i64 D.1)/\w'.cell? ⟨w1.heap.size,1,none⟩=some (.int .i64 D.2)/\Since W1 w' from
         ⟨h.cell (p:=⟨b2,o2+k,none⟩) hb2w q2,h.cell (p:=⟨w1.heap.size,0,none⟩) hbx.lt hbx.four.1,h.cell (p:=⟨w1.heap.size,1,none⟩) hbx.lt hbx.four.2.1,h⟩))
        have hg0:=(Since.refl W1).drew;clear hW1 hbx hb2w q2;refine wp_region_held_drew (S:=fun w'=>w'.cell? ⟨b2,o2+k,none⟩=some (.int .i64 z)/\w'.cell? ⟨w1.heap.size,0,none⟩=some (.int .i64 D.1)/\w'.cell? ⟨w1.heap.size,1,none⟩=some (.int .i64 D.2)/\Since W1 w') (by kernel_rfl) ?_ (fun hHeld=>?_)
        ·exact Cell.out _ hg0
        refine tk1 0 ⟨some 40,_,4,_,_,none⟩ ?_;refine tk1 1 ⟨some 41,_,4,_,_,none⟩ ?_;refine tk1 2 ⟨some 42,_,4,_,_,none⟩ ?_
        try simp only[Act.put,zA,zB,zC]
        refine tk1 3 ⟨some 43,_,35,_,_,some (2,false)⟩ ?_
        try simp only[Act.put,zA,zB,zC]
        refine tk1 4 ⟨some 44,_,22,_,_,some (2,false)⟩ ?_
        try simp only[Act.put,zA,zB,zC]
        refine tk1 5 ⟨some 45,_,3,_,_,some (2,false)⟩ ?_
        try simp only[Act.put,zA,zB,zC]
        refine tk1 6 ⟨some 46,_,0,_,_,some (2,false)⟩ ?_
        try simp only[Act.put,zA,zB,zC]
        refine tk1 7 ⟨some 47,_,3,_,_,some (2,false)⟩ ?_
        try simp only[Act.put,zA,zB,zC]
        refine rd1 8 ⟨some 48,_,35,_,_,some (2,false)⟩ fun K hK=>?_
        go_simp
        (go_at_call 61;refine (Zbf z _).mono ?_;rintro e w6 ⟨rfl,hb6⟩;have hg6:=hg0.trans hb6)
        refine hK.out _ _ ?_ (fun hHeld=>?_)
        ·exact Cell.out _ hg6
        clear hK K
        try simp only[Act.put,zA,zB,zC]
        refine tk1 9 ⟨some 49,_,4,_,_,some (2,false)⟩ ?_;refine tk1 10 ⟨some 50,_,4,_,_,none⟩ ?_
        try simp only[Act.put,zA,zB,zC]
        refine wpAnyH_done (by kernel_rfl) ?_ _;have HS6:=zH (HS2.out.trans (hg6.low.mono (Nat.le_refl _)));clear Cell hg0 hg6 hb6
        go_wp2_with fail
        go_roundw
        case rel=>exact⟨k+1,by omega,by go_num,HOk2,HS6⟩
        case measure=>simp[intOf];omega
     ·have Hr:=zH (show true=g by rw[<-Hg.out];exact (Zl0 fun j hj=>hOk.out j (by omega)).symm)
      go_wp2_with fail
      go_ret;exact⟨Zac Hr.out,Hb.out.trans (hS.out.low.mono Hsz.out)⟩
   ·have Hr:=zH (show false=g by rw[<-hg];unfold solP;rw[Zcx,hne];simp)
    have Hne:=zH hne;clear hg hgo hl hne
    go_enter Tryz.func66,Tryz.ntmps66
    go_wp2_with fail
    refine HV.out.mono ?_;rintro e w1 ⟨rfl,k1⟩;have HS1:=zH (Hst.out.trans k1);have Hv1:=zH (Hv.out.below (k1.mono Hsz.out));have hsz1:w.heap.size≤w1.heap.size:=Nat.le_trans Hsz.out k1.size;clear k1
    go_wp2_with fail
    refine (Zcr w.heap.size va vc v hv _ hsz1 Hv1.out).mono ?_;rintro e w2 ⟨rfl,k2⟩;have HS2:=zH (HS1.out.trans k2);have hneg:=Hne.out;clear k2 Hv1
    go_wp2_with fail
    go_ret;exact⟨Zac Hr.out,Hb.out.trans (HS2.out.low.mono Hsz.out)⟩
 ·have Hr:=zH (show false=g by rw[<-hg];unfold solP;simp[hl])
  obtain⟨l1,l2⟩:=Zen hl;clear hg
  go_enter Tryz.func66,Tryz.ntmps66
  go_wp2_with fail
  go_ret;exact⟨Zac Hr.out,Hb.out⟩
theorem Zfk (B:Nat) (a b c va:Option Addr) (c1 c2 c3 vc:Nat) (p:P) (v:List R) (hn:Zct p) (hv:v.length≤1048576) (g:Bool) (hg:Lp.feas p v=g) (w:World) (hBw:B≤w.heap.size) (hz:LpIn B w a b c p) (hv1:Zah B w va v) :
  Calls Tryz.prog 44 #[.agg #[.slice a p.A.length c1,.slice b p.B.length c2,.slice c p.C.length c3],.slice va v.length vc] w fun e w'=>e=.returned (.bool g)/\Below w.heap.size w w':=by
 have hb:=(Below.refl w.heap.size w).alloc (Nat.le_refl _) (.cells #[.slice a p.A.length c1,.slice b p.B.length c2,.slice c p.C.length c3] 47);have Hx:=zH (Tri.new w (.slice a p.A.length c1) (.slice b p.B.length c2) (.slice c p.C.length c3) 47);have Hz:=zH ((hz.mono hBw).below hb);have Hv:=zH ((hv1.mono hBw).below hb);have HN:=zH hn;have Hb:=zH hb;have hBl:=hn.B;rw[Znl] at hg;clear hz hv1 hb hn
 rcases hvl:Lp.vldP p with _|_
 ·have Hr:=zH (show false=g by rw[<-hg,hvl];rfl)
  have HV:=zH (Zda w.heap.size a b c c1 c2 c3 p HN.out _ Hb.out.size Hz.out);rw[hvl] at HV;clear hvl hg
  go_enter Tryz.func44,Tryz.ntmps44
  go_wp2_with fail
  refine HV.out.mono ?_;rintro e w1 ⟨rfl,k1⟩;have Hb1:=zH (Hb.out.trans (k1.mono Hb.out.size));clear k1
  go_wp2_with fail
  go_ret;exact⟨Zac Hr.out,Hb1.out⟩
 ·have Hg:=zH (show solP p v p.B=g by rw[<-hg,hvl];rfl)
  have HL:=zH (Zqb hvl);have HV:=zH (Zda w.heap.size a b c c1 c2 c3 p HN.out _ Hb.out.size Hz.out);rw[hvl] at HV;clear hvl hg
  go_enter Tryz.func44,Tryz.ntmps44
  go_wp2_with fail
  refine HV.out.mono ?_;rintro e w1 ⟨rfl,k1⟩;obtain⟨x0,x1,x2,_⟩:=(Hx.out.below k1).cells;have Hb1:=zH (Hb.out.trans (k1.mono Hb.out.size));have Hz1:=zH (Hz.out.below (k1.mono Hb.out.size));have Hv1:=zH (Hv.out.below (k1.mono Hb.out.size));clear k1
  go_wp2_with fail
  refine (Zfl w.heap.size a b c va b c1 c2 c3 vc c2 p v p.B HN.out hv HL.out hBl g Hg.out _ Hb1.out.size Hz1.out Hv1.out Hz1.out.mB).mono ?_;rintro e w2 ⟨rfl,k2⟩;have Hb2:=zH (Hb1.out.trans (k2.mono Hb1.out.size));clear k2
  go_wp2_with fail
  go_ret;exact⟨rfl,Hb2.out⟩
end Go.Proofs.YtpjnjidbdpfdcaaGreat
