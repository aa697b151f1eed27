/- The parts LpE, LpE2, LpF, LpG, LpK. -/
import Derived.Test.YtlohljkfphljgaaGreatGLb
import Derived.Test.YtlohljkfphljgaaGreatGRa
import Derived.Deep.RegionHeld3
import Derived.Test.YtlohljkfphljgaaGreatGLk
set_option maxRecDepth 100000
set_option maxHeartbeats 4000000
namespace Go.Proofs.YtlohljkfphljgaaGreat
open Go.RowKit
open Ve (R)
open Lp (P)
theorem Zg7 {P:Program} {f:FuncId} {args:Array Value} {wx:World} {v:Value} (h:Calls P f args wx fun e w'=>e=.returned v/\Below wx.heap.size wx w') {B:World} (hB:Since B wx) :
  Calls P f args wx fun e w'=>e=.returned v/\Since B w':=h.mono fun _ _ ⟨he,hb⟩=>⟨he,hB.trans hb⟩
def gvOk (p:P) (v:List R) (b:List Int) (k:Nat):Bool:=Lp.idK (rw_ p.A k) v && decide (Lp.idR (rw_ p.A k) v=(b.getD k 0,1))
theorem Zz9 {p:P} {v:List R} {b:List Int} {k:Nat} (hk:k<p.A.length) (h:gvOk p v b k=false):Lp.gives p v b=false:=by
 rw[Bool.eq_false_iff];intro h2;unfold Lp.gives at h2;rw[List.all_eq_true] at h2;have h3:=h2 k (by simpa using hk);unfold gvOk at h;rw[<-rows_row] at h;rw[h] at h3;cases h3
theorem Zvg {p:P} {v:List R} {b:List Int} (h:∀k,k<p.A.length->gvOk p v b k=true):Lp.gives p v b=true:=by
 unfold Lp.gives;rw[List.all_eq_true];intro k hk;exact h k (by simpa using hk)
def Zhj (q bb k:Nat) (x:R) (z:Int) (B:World):Prop:=
 B.cell? ⟨q,0,none⟩=some (.int .i64 x.1)/\B.cell? ⟨q,1,none⟩=some (.int .i64 x.2)/\B.cell? ⟨bb,k,none⟩=some (.int .i64 z)/\q<B.heap.size/\bb<B.heap.size
theorem Zhj.four {q bb k:Nat} {x:R} {z:Int} {B wx:World} (H:Hid (Zhj q bb k x z B)) (h:Since B wx) :
  wx.cell? ⟨q,0,none⟩=some (.int .i64 x.1)/\wx.cell? ⟨q,1,none⟩=some (.int .i64 x.2)/\wx.cell? ⟨bb,k,none⟩=some (.int .i64 z)/\Since B wx:=
 ⟨h.cell H.out.2.2.2.1 H.out.1,h.cell H.out.2.2.2.1 H.out.2.1,h.cell (p:=⟨bb,k,none⟩) H.out.2.2.2.2 H.out.2.2.1,h⟩
theorem Zjm (B:Nat) (a b c va ba:Option Addr) (c1 c2 c3 vc bc:Nat) (p:P) (v:List R) (bs:List Int) (hn:Zbs p) (hv:v.length≤1048576) (hbl:p.A.length≤bs.length) (hbm:bs.length≤1048576) (g:Bool) (hg:Lp.gives p v bs=g) (w:World) (hBw:B≤w.heap.size) (hz:LpIn B w a b c p) (hv1:Zah B w va v) (hb1:Zat B w ba bs) :
  Calls Tryz.prog 87 #[.agg #[.slice a p.A.length c1,.slice b p.B.length c2,.slice c p.C.length c3],.slice va v.length vc,.slice ba bs.length bc] w fun e w'=>e=.returned (.bool g)/\Below w.heap.size w w':=by
 have hb:=(Below.refl w.heap.size w).alloc (Nat.le_refl _) (.cells #[.slice a p.A.length c1,.slice b p.B.length c2,.slice c p.C.length c3] 28);have hsz:w.heap.size≤(w.alloc (.cells #[.slice a p.A.length c1,.slice b p.B.length c2,.slice c p.C.length c3] 28)).heap.size:=by rw[Zar];omega
 have Hx:=zH (Tri.new w (.slice a p.A.length c1) (.slice b p.B.length c2) (.slice c p.C.length c3) 28);have Hz:=zH ((hz.mono hBw).below hb);have Hv:=zH ((hv1.mono hBw).below hb);have HBs:=zH ((hb1.mono hBw).below hb);have Hsz:=zH hsz;have HR:=zH hn.row;have hA:=hn.A;have Hb:=zH hb;have Hg:=zH hg;have Hst:=zH (Since.refl (w.alloc (.cells #[.slice a p.A.length c1,.slice b p.B.length c2,.slice c p.C.length c3] 28)));have heq:=Zk0;have hneq:=Zpq;have hgeq:=Zgj;clear hz hv1 hb1 hb hg hsz hn
 go_enter Tryz.func87,Tryz.ntmps87
 go_wp2_with fail
 generalize hW0:w.alloc (.cells #[.slice a p.A.length c1,.slice b p.B.length c2,.slice c p.C.length c3] 28)=W0 at *
 go_loopw [7] (fun i wr=>∃k:Nat,k≤p.A.length/\i=.int .i64 k/\Hid (∀j,j<k->gvOk p v bs j=true)/\Hid (Since W0 wr)) (fun i _=>p.A.length-(intOf i).toNat)
 case atStart=>exact⟨0,Nat.zero_le _,rfl,fun j hj=>absurd hj (by omega),Hst.out⟩
 case round=>
  obtain⟨k,hk,rfl,hOk,hS⟩:=hrel;obtain⟨x0,x1,x2,_⟩:=(Hx.out.below hS.out.low).cells;have hlow:=hS.out.low.mono Hsz.out
  by_cases hlt:k<p.A.length
  ·obtain⟨b1,o1,a',c',rfl,_,hcell,hN⟩:=(Hz.out.below hlow).mA k hlt
   obtain⟨b2,o2,rfl,hb2,hbc⟩:=(HBs.out.below hlow) k (by omega);have hszr:w.heap.size≤wr.heap.size:=Nat.le_trans Hsz.out hS.out.low.size;have HNr:=zH hN;have Hvr:=zH (Hv.out.below hlow);have hrl:=HR.out k hlt;have Hbad:=zH (fun (h:gvOk p v bs k=false)=>(show false=g from (Zz9 hlt h).symm.trans Hg.out));have Hgood:=zH (fun (h:gvOk p v bs k=true)=>(fun j (hj:j<k+1)=>(show gvOk p v bs j=true from by
     by_cases e:j=k
     ·subst e;exact h
     ·exact hOk.out j (by omega))))
   have Hdef:=zH (show gvOk p v bs k=(Lp.idK (rw_ p.A k) v && decide (Lp.idR (rw_ p.A k) v=(bs.getD k 0,1))) from rfl);clear hN hlow
   go_wp2_with fail
   refine (Zhc w.heap.size a' va c' vc (rw_ p.A k) v hrl hv _ hszr HNr.out Hvr.out).mono ?_;rintro e w1 ⟨rfl,k1⟩;generalize gvOk p v bs k=ok at *;generalize Lp.idR (rw_ p.A k) v=D at *;generalize Lp.idK (rw_ p.A k) v=K at *;generalize bs.getD k 0=z at *;have hS2:=(hS.out.trans k1).alloc (.cells #[.int .i64 D.1,.int .i64 D.2] 31);have HS2:=zH hS2;have hbc1:w1.cell? ⟨b2,o2+k,none⟩=some (.int .i64 z):=by rw[k1.cell (p:=⟨b2,o2+k,none⟩) (by show b2<_;omega)];exact hbc
   have hsz1:w.heap.size≤w1.heap.size:=Nat.le_trans hszr k1.size;clear HNr Hvr hS2
   rcases K with _|_
   ·have Hr:=zH (Hbad.out (by rw[Hdef.out];rfl))
    clear Hbad Hgood Hdef k1
    go_wp2_with fail
    go_quiet (fail)
    go_wp2_with fail
    go_ret;exact⟨Zae Hr.out,below_drewN (Hb.out.trans (HS2.out.low.mono Hsz.out)) nq⟩
   ·have hkb:k<bs.length:=by omega
    have hkb2:((k:Int)<(bs.length:Int)):=by omega
    have hkb3:(0:Int)≤(k:Int):=by omega
    have HQ:Hid (Zhj w1.heap.size b2 (o2+k) D z (w1.alloc (.cells #[.int .i64 D.1,.int .i64 D.2] 31))):=by
     have hnew:=(Zau.new w1 D).four;have hal:Below w1.heap.size w1 (w1.alloc (.cells #[.int .i64 D.1,.int .i64 D.2] 31)):=(Below.refl _ _).alloc (Nat.le_refl _) _;exact⟨hnew.1,hnew.2.1,by rw[hal.cell (p:=⟨b2,o2+k,none⟩) (by show b2<_;omega)];exact hbc1,by rw[Zar];omega,by rw[Zar];omega⟩
    have hin:=Since.refl (w1.alloc (.cells #[.int .i64 D.1,.int .i64 D.2] 31))
    rcases hv:(D.1 == z && D.2 == 1) with _|_
    ·have Hr:=zH (Hbad.out (by
      rw[Hdef.out,Bool.true_and,decide_eq_false_iff_not];rintro rfl;simp at hv))
     clear Hbad Hgood Hdef k1 hbc hbc1
     go_wp2_with fail
     go_region_held3 (fun w'=>w'.cell? ⟨w1.heap.size,0,none⟩=some (.int .i64 D.1)/\w'.cell? ⟨w1.heap.size,1,none⟩=some (.int .i64 D.2)/\w'.cell? ⟨b2,o2+k,none⟩=some (.int .i64 z)/\Since (w1.alloc (.cells #[.int .i64 D.1,.int .i64 D.2] 31)) w') (first|exact Zhj.four HQ (by assumption) | exact Zhj.four HQ (Since.drew (by assumption)))
      (first | (go_at_call 91;refine (Zg7 (Za4 z _) (B:=w1.alloc (.cells #[.int .i64 D.1,.int .i64 D.2] 31)) (by first|assumption|exact Since.drew (by assumption))).mono ?_;rintro e w' ⟨rfl,hin2⟩))
     all_goals
      have Hend:=zH ((HS2.out.trans (Since.low (B:=w1.alloc (.cells #[.int .i64 D.1,.int .i64 D.2] 31)) (wx:=w') (by assumption))).low);clear HQ hin
      go_wp2_with fail
      go_ret;exact⟨Zae Hr.out,Hb.out.trans (Hend.out.mono Hsz.out)⟩
    ·have HOk2:=zH (Hgood.out (by
      rw[Hdef.out,Bool.true_and,decide_eq_true_iff];rw[Bool.and_eq_true,beq_iff_eq,beq_iff_eq] at hv;exact Prod.ext hv.1 hv.2))
     clear Hbad Hgood Hdef k1 hbc hbc1
     go_wp2_with fail
     go_region_held3 (fun w'=>w'.cell? ⟨w1.heap.size,0,none⟩=some (.int .i64 D.1)/\w'.cell? ⟨w1.heap.size,1,none⟩=some (.int .i64 D.2)/\w'.cell? ⟨b2,o2+k,none⟩=some (.int .i64 z)/\Since (w1.alloc (.cells #[.int .i64 D.1,.int .i64 D.2] 31)) w') (first|exact Zhj.four HQ (by assumption) | exact Zhj.four HQ (Since.drew (by assumption)))
      (first | (go_at_call 91;refine (Zg7 (Za4 z _) (B:=w1.alloc (.cells #[.int .i64 D.1,.int .i64 D.2] 31)) (by first|assumption|exact Since.drew (by assumption))).mono ?_;rintro e w' ⟨rfl,hin2⟩))
     all_goals
      have Hend:=zH (HS2.out.trans (Since.low (B:=w1.alloc (.cells #[.int .i64 D.1,.int .i64 D.2] 31)) (wx:=w') (by assumption)));clear HQ hin
      go_wp2_with fail
      go_roundw
      case rel=>exact⟨k+1,by omega,by go_num,HOk2,Hend⟩
      case measure=>simp[intOf];omega
  ·have Hr:=zH (show true=g by rw[<-Hg.out];exact (Zvg fun j hj=>hOk.out j (by omega)).symm)
   go_wp2_with fail
   go_ret;exact⟨Zae Hr.out,Hb.out.trans (hS.out.low.mono Hsz.out)⟩
theorem Zuw {p:P} (h:Lp.vldP p=true):p.A.length≤p.B.length:=by have:=(Lp.Zas h).2.2.2.1;omega
theorem Zgz (B:Nat) (a b c va:Option Addr) (c1 c2 c3 vc:Nat) (p:P) (v:List R) (hn:Zbs p) (hv:v.length≤1048576) (g:Bool) (hg:Lp.feas p v=g) (w:World) (hBw:B≤w.heap.size) (hz:LpIn B w a b c p) (hv1:Zah B w va v) :
  Calls Tryz.prog 85 #[.agg #[.slice a p.A.length c1,.slice b p.B.length c2,.slice c p.C.length c3],.slice va v.length vc] w fun e w'=>e=.returned (.bool g)/\Below w.heap.size w w':=by
 have hb:=(Below.refl w.heap.size w).alloc (Nat.le_refl _) (.cells #[.slice a p.A.length c1,.slice b p.B.length c2,.slice c p.C.length c3] 28);have Hx:=zH (Tri.new w (.slice a p.A.length c1) (.slice b p.B.length c2) (.slice c p.C.length c3) 28);have Hz:=zH ((hz.mono hBw).below hb);have Hv:=zH ((hv1.mono hBw).below hb);have HN:=zH hn;have Hb:=zH hb;have Hg:=zH hg;have hC:=hn.C;have hBl:=hn.B;clear hz hv1 hb hg hn
 go_enter Tryz.func85,Tryz.ntmps85
 go_wp2_with fail
 refine (Zbq w.heap.size a b c c1 c2 c3 p HN.out _ Hb.out.size Hz.out).mono ?_;rintro e w1 ⟨rfl,k1⟩;have hx1:=Hx.out.below k1;obtain⟨x0,x1,x2,_⟩:=hx1.cells;have Hx1:=zH hx1;have Hb1:=zH (Hb.out.trans (k1.mono Hb.out.size));have Hz1:=zH (Hz.out.below (k1.mono Hb.out.size));have Hv1:=zH (Hv.out.below (k1.mono Hb.out.size));clear k1 hx1
 rcases hvl:Lp.vldP p with _|_
 ·have Hr:=zH (show false=g by rw[<-Hg.out];unfold Lp.feas;rw[hvl];rfl)
  clear hvl
  go_wp2_with fail
  go_ret;exact⟨Zae Hr.out,Hb1.out⟩
 ·have HL:=zH (Zuw hvl)
  have HV:=zH hvl;clear hvl
  by_cases hl:v.length=p.C.length
  ·have hq:((v.length:Int) == (p.C.length:Int))=true:=by rw[hl];simp
   rcases hnn:Lp.nonneg v with _|_
   ·have Hr:=zH (show false=g by rw[<-Hg.out];unfold Lp.feas;rw[hnn];simp)
    have Hnn:=zH hnn;clear hnn hl
    go_wp2_with fail
    refine (Zdv w.heap.size va vc v hv false Hnn.out _ Hb1.out.size Hv1.out).mono ?_;rintro e w2 ⟨rfl,k2⟩;have Hb2:=zH (Hb1.out.trans (k2.mono Hb1.out.size));clear k2
    go_wp2_with fail
    go_ret;exact⟨Zae Hr.out,Hb2.out⟩
   ·have Hr:=zH (show Lp.gives p v p.B=g by rw[<-Hg.out];unfold Lp.feas;rw[HV.out,hnn,hl];simp)
    have Hnn:=zH hnn;clear hnn hl
    go_wp2_with fail
    refine (Zdv w.heap.size va vc v hv true Hnn.out _ Hb1.out.size Hv1.out).mono ?_;rintro e w2 ⟨rfl,k2⟩;have hx2:=Hx1.out.below k2;clear x0 x1 x2;obtain⟨x0,x1,x2,_⟩:=hx2.cells;have Hb2:=zH (Hb1.out.trans (k2.mono Hb1.out.size));have Hz2:=zH (Hz1.out.below (k2.mono Hb1.out.size));have Hv2:=zH (Hv1.out.below (k2.mono Hb1.out.size));clear k2 hx2
    go_wp2_with fail
    refine (Zjm w.heap.size a b c va b c1 c2 c3 vc c2 p v p.B HN.out hv HL.out hBl g Hr.out _ Hb2.out.size Hz2.out Hv2.out Hz2.out.mB).mono ?_;rintro e w3 ⟨rfl,k3⟩;have Hb3:=zH (Hb2.out.trans (k3.mono Hb2.out.size));clear k3
    go_wp2_with fail
    go_ret;exact⟨rfl,Hb3.out⟩
  ·have Hr:=zH (show false=g by rw[<-Hg.out];unfold Lp.feas;simp[hl])
   obtain⟨l1,l2⟩:=Zfq hl
   go_wp2_with fail
   go_ret;exact⟨Zae Hr.out,Hb1.out⟩
def duOk (p:P) (y c:List R) (j:Nat):Bool:=Lp.idK (Lp.col p j) y && Lp.Zfk (Ve.at_ c j) (Lp.idR (Lp.col p j) y)
theorem Zz6 {p:P} {y c:List R} {j:Nat} (hj:j<p.C.length) (h:duOk p y c j=false):Lp.dual p y c=false:=by
 rw[Bool.eq_false_iff];intro h2;unfold Lp.dual at h2;rw[List.all_eq_true] at h2;have h3:=h2 j (by simpa using hj);unfold duOk at h;rw[h] at h3;cases h3
theorem Zu6 {p:P} {y c:List R} (h:∀j,j<p.C.length->duOk p y c j=true):Lp.dual p y c=true:=by
 unfold Lp.dual;rw[List.all_eq_true];intro k hk;exact h k (by simpa using hk)
theorem Zqs (x y:R) (w:World):Calls Tryz.prog 78 #[.agg #[.int .i64 x.1,.int .i64 x.2],.agg #[.int .i64 y.1,.int .i64 y.2]] w fun e w'=>e=.returned (.int .i64 (Ra.cmp x.1 x.2 y.1 y.2))/\Below w.heap.size w w':=Zgy x.1 x.2 y.1 y.2 w
theorem Zl3 (B:Nat) (a b c ya ca:Option Addr) (c1 c2 c3 yc cc:Nat) (p:P) (y cs:List R) (hn:Zbs p) (hvl:Lp.vldP p=true) (hy:y.length≤1048576) (hcl:p.C.length≤cs.length) (hcm:cs.length≤1048576) (g:Bool) (hg:Lp.dual p y cs=g) (w:World) (hBw:B≤w.heap.size) (hz:LpIn B w a b c p) (hy1:Zah B w ya y) (hc1:Zah B w ca cs) :
  Calls Tryz.prog 82 #[.agg #[.slice a p.A.length c1,.slice b p.B.length c2,.slice c p.C.length c3],.slice ya y.length yc,.slice ca cs.length cc] w fun e w'=>e=.returned (.bool g)/\Below w.heap.size w w':=by
 have hb:=(Below.refl w.heap.size w).alloc (Nat.le_refl _) (.cells #[.slice a p.A.length c1,.slice b p.B.length c2,.slice c p.C.length c3] 28);have hsz:w.heap.size≤(w.alloc (.cells #[.slice a p.A.length c1,.slice b p.B.length c2,.slice c p.C.length c3] 28)).heap.size:=by rw[Zar];omega
 have Hx:=zH (Tri.new w (.slice a p.A.length c1) (.slice b p.B.length c2) (.slice c p.C.length c3) 28);have Hz:=zH ((hz.mono hBw).below hb);have Hy:=zH ((hy1.mono hBw).below hb);have Hc:=zH ((hc1.mono hBw).below hb);have Hsz:=zH hsz;have HN:=zH hn;have HV:=zH hvl;have hA:=hn.A;have hC:=hn.C;have Hb:=zH hb;have Hg:=zH hg;have Hst:=zH (Since.refl (w.alloc (.cells #[.slice a p.A.length c1,.slice b p.B.length c2,.slice c p.C.length c3] 28)));clear hz hy1 hc1 hb hg hsz hn hvl
 go_enter Tryz.func82,Tryz.ntmps82
 go_wp2_with fail
 generalize hW0:w.alloc (.cells #[.slice a p.A.length c1,.slice b p.B.length c2,.slice c p.C.length c3] 28)=W0 at *
 go_loopw [7] (fun i wr=>∃k:Nat,k≤p.C.length/\i=.int .i64 k/\Hid (∀j,j<k->duOk p y cs j=true)/\Hid (Since W0 wr)) (fun i _=>p.C.length-(intOf i).toNat)
 case atStart=>exact⟨0,Nat.zero_le _,rfl,fun j hj=>absurd hj (by omega),Hst.out⟩
 case round=>
  obtain⟨k,hk,rfl,hOk,hS⟩:=hrel;obtain⟨x0,x1,x2,_⟩:=(Hx.out.below hS.out.low).cells;have hlow:=hS.out.low.mono Hsz.out
  by_cases hlt:k<p.C.length
  ·have hszr:w.heap.size≤wr.heap.size:=Nat.le_trans Hsz.out hS.out.low.size
   have Hzr:=zH (Hz.out.below hlow);have Hyr:=zH (Hy.out.below hlow);have Hcr:=zH (Hc.out.below hlow);have Hbad:=zH (fun (h:duOk p y cs k=false)=>(show false=g from (Zz6 hlt h).symm.trans Hg.out));have Hgood:=zH (fun (h:duOk p y cs k=true)=>(fun j (hj:j<k+1)=>(show duOk p y cs j=true from by
     by_cases e:j=k
     ·subst e;exact h
     ·exact hOk.out j (by omega))))
   have Hdef:=zH (show duOk p y cs k=(Lp.idK (Lp.col p k) y && Lp.Zfk (Ve.at_ cs k) (Lp.idR (Lp.col p k) y)) from rfl);have Hcol:=zH (Zu1 HV.out hlt);have hcll:(Lp.col p k).length≤1048576:=by rw[Lp.Zqr];exact hA
   clear hlow
   go_wp2_with fail
   refine (Zol w.heap.size a b c c1 c2 c3 p HN.out k _ hszr Hzr.out).mono ?_;rintro e w1 ⟨u,rfl,ho,k1⟩;rw[Hcol.out] at ho;obtain⟨ua,uc,rfl,hr,hab,_⟩:=Zaw ho;have HU:=zH (Zat.Zcb (B:=w1.heap.size) hr fun q hq=>(hab q hq).2);have hsz1:w.heap.size≤w1.heap.size:=Nat.le_trans hszr k1.size;have Hy1:=zH ((Hyr.out.below (k1.mono hszr)).mono hsz1);have Hc1:=zH (Hcr.out.below (k1.mono hszr));have HS1:=zH (hS.out.trans k1);clear ho hr hab k1
   go_wp2_with fail
   refine (Zhc w1.heap.size ua ya uc yc (Lp.col p k) y hcll hy _ (Nat.le_refl _) HU.out Hy1.out).mono ?_;rintro e w2 ⟨rfl,k2⟩;obtain⟨b2,o2,rfl,hb2,q0,q1⟩:=(Hc1.out.below (k2.mono hsz1)).at k (by omega);generalize duOk p y cs k=ok at *;generalize Lp.idR (Lp.col p k) y=D at *;generalize Lp.idK (Lp.col p k) y=K at *;generalize Ve.at_ cs k=z at *;have hS2:=(HS1.out.trans k2).alloc (.cells #[.int .i64 D.1,.int .i64 D.2] 31);have HS2:=zH hS2;have hsz2:w.heap.size≤w2.heap.size:=Nat.le_trans hsz1 k2.size;clear Hzr Hyr Hcr HU Hy1 Hc1 hS2 k2
   rcases K with _|_
   ·have Hr:=zH (Hbad.out (by rw[Hdef.out];rfl))
    clear Hbad Hgood Hdef
    go_wp2_with fail
    go_quiet (fail)
    go_wp2_with fail
    go_ret;exact⟨Zae Hr.out,below_drewN (Hb.out.trans (HS2.out.low.mono Hsz.out)) nq⟩
   ·have hkb:k<cs.length:=by omega
    have hkb2:((k:Int)<(cs.length:Int)):=by omega
    have hkb3:(0:Int)≤(k:Int):=by omega
    have hal:Below w2.heap.size w2 (w2.alloc (.cells #[.int .i64 D.1,.int .i64 D.2] 31)):=(Below.refl _ _).alloc (Nat.le_refl _) _;have hb2':b2<w2.heap.size:=by omega
    have HQ:Hid (Quad w2.heap.size 0 b2 (o2+k*2) D z (w2.alloc (.cells #[.int .i64 D.1,.int .i64 D.2] 31))):=by
     have hnew:=(Zau.new w2 D).four;exact⟨hnew.1,hnew.2.1,by rw[hal.cell (p:=⟨b2,o2+k*2,none⟩) hb2'];exact q0,by rw[hal.cell (p:=⟨b2,o2+k*2+1,none⟩) hb2'];exact q1,by rw[Zar];omega,by rw[Zar];omega⟩
    have hin:=Since.refl (w2.alloc (.cells #[.int .i64 D.1,.int .i64 D.2] 31));have Hcmp:=zH (fun w=>Zqs z D w)
    rcases hv:Lp.Zfk z D with _|_
    ·have Hr:=zH (Hbad.out (by rw[Hdef.out,hv];rfl))
     have hdec:decide (Ra.cmp z.1 z.2 D.1 D.2<0)=true:=by unfold Lp.Zfk at hv;simpa using hv
     generalize Ra.cmp z.1 z.2 D.1 D.2=s at *;clear Hbad Hgood Hdef hal hv
     go_wp2_with fail
     go_region_held3 (fun w'=>w'.cell? ⟨w2.heap.size,0,none⟩=some (.int .i64 D.1)/\w'.cell? ⟨w2.heap.size,0+1,none⟩=some (.int .i64 D.2)/\w'.cell? ⟨b2,o2+k*2,none⟩=some (.int .i64 z.1)/\w'.cell? ⟨b2,o2+k*2+1,none⟩=some (.int .i64 z.2)/\Since (w2.alloc (.cells #[.int .i64 D.1,.int .i64 D.2] 31)) w') (first|exact Quad.five HQ (by assumption) | exact Quad.five HQ (Since.drew (by assumption)))
      (first | (go_at_call 78;refine (Zg7 (Hcmp.out _) (B:=w2.alloc (.cells #[.int .i64 D.1,.int .i64 D.2] 31)) (by first|assumption|exact Since.drew (by assumption))).mono ?_;rintro e w' ⟨rfl,hin2⟩))
     all_goals
      have Hend:=zH ((HS2.out.trans (Since.low (B:=w2.alloc (.cells #[.int .i64 D.1,.int .i64 D.2] 31)) (wx:=w') (by assumption))).low);clear HQ hin
      go_wp2_with fail
      go_ret;exact⟨Zae Hr.out,Hb.out.trans (Hend.out.mono Hsz.out)⟩
    ·have HOk2:=zH (Hgood.out (by rw[Hdef.out,hv];rfl))
     have hdec:decide (Ra.cmp z.1 z.2 D.1 D.2<0)=false:=by unfold Lp.Zfk at hv;simpa using hv
     generalize Ra.cmp z.1 z.2 D.1 D.2=s at *;clear Hbad Hgood Hdef hal hv
     go_wp2_with fail
     go_region_held3 (fun w'=>w'.cell? ⟨w2.heap.size,0,none⟩=some (.int .i64 D.1)/\w'.cell? ⟨w2.heap.size,0+1,none⟩=some (.int .i64 D.2)/\w'.cell? ⟨b2,o2+k*2,none⟩=some (.int .i64 z.1)/\w'.cell? ⟨b2,o2+k*2+1,none⟩=some (.int .i64 z.2)/\Since (w2.alloc (.cells #[.int .i64 D.1,.int .i64 D.2] 31)) w') (first|exact Quad.five HQ (by assumption) | exact Quad.five HQ (Since.drew (by assumption)))
      (first | (go_at_call 78;refine (Zg7 (Hcmp.out _) (B:=w2.alloc (.cells #[.int .i64 D.1,.int .i64 D.2] 31)) (by first|assumption|exact Since.drew (by assumption))).mono ?_;rintro e w' ⟨rfl,hin2⟩))
     all_goals
      have Hend:=zH (HS2.out.trans (Since.low (B:=w2.alloc (.cells #[.int .i64 D.1,.int .i64 D.2] 31)) (wx:=w') (by assumption)));clear HQ hin
      go_wp2_with fail
      go_roundw
      case rel=>exact⟨k+1,by omega,by go_num,HOk2,Hend⟩
      case measure=>simp[intOf];omega
  ·have Hr:=zH (show true=g by rw[<-Hg.out];exact (Zu6 fun j hj=>hOk.out j (by omega)).symm)
   go_wp2_with fail
   go_ret;exact⟨Zae Hr.out,Hb.out.trans (hS.out.low.mono Hsz.out)⟩
open Lp (P Res)
theorem Ziv {W wr:World} {s q:Nat} {x y z:Value} {t t':TypeId} {v0 v1 v2 v3 v4 v5 v6:Value} (H:Hid (Tri W s x y z t/\Zac W q #[v0,v1,v2,v3,v4,v5,v6] t')) (hs:Since W wr) :
  (wr.cell? ⟨s,0,none⟩=some x/\wr.cell? ⟨s,1,none⟩=some y/\wr.cell? ⟨s,2,none⟩=some z)/\(wr.cell? ⟨q,0,none⟩=some v0/\wr.cell? ⟨q,1,none⟩=some v1/\wr.cell? ⟨q,2,none⟩=some v2/\wr.cell? ⟨q,3,none⟩=some v3/\wr.cell? ⟨q,4,none⟩=some v4/\wr.cell? ⟨q,5,none⟩=some v5/\wr.cell? ⟨q,6,none⟩=some v6):=by
 obtain⟨h1,h2⟩:=H.out;obtain⟨a0,a1,a2,_⟩:=(h1.below hs.low).cells;exact⟨⟨a0,a1,a2⟩,(seven (h2.below hs.low)).1⟩
theorem Zqh (w:World) (x y z:Value) (t t':TypeId) (cs:Array Value) :
  Tri ((w.alloc (.cells #[x,y,z] t)).alloc (.cells cs t')) w.heap.size x y z t/\Zac ((w.alloc (.cells #[x,y,z] t)).alloc (.cells cs t')) (w.heap.size+1) cs t':=by
 have h2:=Zac.new (w.alloc (.cells #[x,y,z] t)) cs t';rw[Zar] at h2;exact⟨(Tri.new w x y z t).more _,h2⟩
theorem Zmp (B:Nat) (a b c ra rb rc:Option Addr) (c1 c2 c3 d1 d2 d3:Nat) (p:P) (r:Res) (hn:Zbs p) (hf:Zdp r) (hvl:Lp.vldP p=true) (g:Bool) (hg:Lp.opt p r=g) (w:World) (hBw:B≤w.heap.size) (hz:LpIn B w a b c p) (hr:Zej B w ra rb rc r) :
  Calls Tryz.prog 80 #[.agg #[.slice a p.A.length c1,.slice b p.B.length c2,.slice c p.C.length c3],resV ra rb rc d1 d2 d3 r] w fun e w'=>e=.returned (.bool g)/\Below w.heap.size w w':=by
 obtain⟨n1,n2,n3,_⟩:=hf;have hg':(Lp.feas p r.X && (decide (r.Y.length=p.B.length) && (Lp.dual p r.Y p.C && (Ve.dotK p.C r.X && (Lp.idK p.B r.Y && (decide (Ve.dotR p.C r.X=Lp.idR p.B r.Y) && decide (Ve.dotR p.C r.X=r.value)))))))=g:=hg;obtain⟨rx,ry,_⟩:=hr.mono hBw;clear hg hr;obtain⟨st,X,Y,Z,⟨nu,de⟩,pv⟩:=r;simp only at n1 n2 n3 hg' rx ry;rw[show resV ra rb rc d1 d2 d3 ⟨st,X,Y,Z,(nu,de),pv⟩=.agg #[.int .i64 st,.slice ra X.length d1,.slice rb Y.length d2,.slice rc Z.length d3,.int .i64 nu,.int .i64 de,.int .i64 pv] from rfl];have hb:=((Below.refl w.heap.size w).alloc (Nat.le_refl _) (.cells #[.slice a p.A.length c1,.slice b p.B.length c2,.slice c p.C.length c3] 28)).alloc (by rw[Zar];omega) (.cells #[.int .i64 st,.slice ra X.length d1,.slice rb Y.length d2,.slice rc Z.length d3,.int .i64 nu,.int .i64 de,.int .i64 pv] 33);have Hbox:=zH (Zqh w (.slice a p.A.length c1) (.slice b p.B.length c2) (.slice c p.C.length c3) 28 33 #[.int .i64 st,.slice ra X.length d1,.slice rb Y.length d2,.slice rc Z.length d3,.int .i64 nu,.int .i64 de,.int .i64 pv]);have hsz:w.heap.size≤((w.alloc (.cells #[.slice a p.A.length c1,.slice b p.B.length c2,.slice c p.C.length c3] 28)).alloc (.cells #[.int .i64 st,.slice ra X.length d1,.slice rb Y.length d2,.slice rc Z.length d3,.int .i64 nu,.int .i64 de,.int .i64 pv] 33)).heap.size:=by rw[Zjv];omega
 have Hz:=zH ((hz.mono hBw).below hb);have Hrx:=zH (rx.below hb);have Hry:=zH (ry.below hb);have Hsz:=zH hsz;have HN:=zH hn;have HV:=zH hvl;have hC:=hn.C;have hBl:=hn.B;have Hb:=zH hb;have Hg:=zH hg';have Hst:=zH (Since.refl ((w.alloc (.cells #[.slice a p.A.length c1,.slice b p.B.length c2,.slice c p.C.length c3] 28)).alloc (.cells #[.int .i64 st,.slice ra X.length d1,.slice rb Y.length d2,.slice rc Z.length d3,.int .i64 nu,.int .i64 de,.int .i64 pv] 33)));clear hz rx ry hb hg' hsz hn hvl
 go_enter Tryz.func80,Tryz.ntmps80
 go_wp2_with fail
 generalize hW0:((w.alloc (.cells #[.slice a p.A.length c1,.slice b p.B.length c2,.slice c p.C.length c3] 28)).alloc (.cells #[.int .i64 st,.slice ra X.length d1,.slice rb Y.length d2,.slice rc Z.length d3,.int .i64 nu,.int .i64 de,.int .i64 pv] 33))=W0 at *;obtain⟨fe,hfe⟩:∃fe,Lp.feas p X=fe:=⟨_,rfl⟩;refine (Zgz w.heap.size a b c ra c1 c2 c3 d1 p X HN.out n1 fe hfe _ Hsz.out Hz.out Hrx.out).mono ?_;rintro e w1 ⟨rfl,k1⟩;have HS1:=zH (Hst.out.trans k1);obtain⟨⟨x0,x1,x2⟩,r0,r1,r2,r3,r4,r5,r6⟩:=Ziv Hbox HS1.out;have Hfe:=zH hfe;clear k1 hfe;cases fe with
 | false=>
  have Hr:=zH (show false=g by rw[<-Hg.out,Hfe.out];rfl)
  go_wp2_with fail
  go_ret;exact⟨Zae Hr.out,Hb.out.trans (HS1.out.low.mono Hsz.out)⟩
 | true=>
  by_cases hl:Y.length=p.B.length
  ·have hq:((Y.length:Int) != (p.B.length:Int))=false:=by rw[hl];simp
   have HL:=zH hl;obtain⟨du,hdu⟩:∃du,Lp.dual p Y p.C=du:=⟨_,rfl⟩;have Hdu:=zH hdu;clear hl hdu
   go_wp2_with fail
   have hlow:=HS1.out.low.mono Hsz.out;refine (Zl3 w.heap.size a b c rb c c1 c2 c3 d2 c3 p Y p.C HN.out HV.out n2 (Nat.le_refl _) hC du Hdu.out _ (Nat.le_trans Hsz.out HS1.out.low.size) (Hz.out.below hlow) (Hry.out.below hlow) (Hz.out.below hlow).mC).mono ?_;rintro e w2 ⟨rfl,k2⟩;have HS2:=zH (HS1.out.trans k2);clear x0 x1 x2 r0 r1 r2 r3 r4 r5 r6 k2 hlow;obtain⟨⟨x0,x1,x2⟩,r0,r1,r2,r3,r4,r5,r6⟩:=Ziv Hbox HS2.out;cases du with
   | false=>
    have Hr:=zH (show false=g by rw[<-Hg.out,Hfe.out,Hdu.out];simp)
    go_wp2_with fail
    go_ret;exact⟨Zae Hr.out,Hb.out.trans (HS2.out.low.mono Hsz.out)⟩
   | true=>
    have hlow2:=HS2.out.low.mono Hsz.out;have hsz2:=Nat.le_trans Hsz.out HS2.out.low.size;have Hlow2:=zH (And.intro (Hz.out.below hlow2) (And.intro (Hrx.out.below hlow2) (Hry.out.below hlow2)));clear hlow2
    go_wp2_with fail
    refine (Zhs w.heap.size c ra c3 d1 p.C X hC n1 _ hsz2 Hlow2.out.1.mC Hlow2.out.2.1).mono ?_;rintro e w3 ⟨rfl,k3⟩;have Hg2:Hid ((Ve.dotK p.C X && (Lp.idK p.B Y && (decide (Ve.dotR p.C X=Lp.idR p.B Y) && decide (Ve.dotR p.C X=(nu,de)))))=g):=by
     show _=_;rw[<-Hg.out,Hfe.out,Hdu.out,HL.out];simp
    generalize Ve.dotR p.C X=D at *;generalize Ve.dotK p.C X=K at *;have HS3:=zH ((HS2.out.trans k3).alloc (.cells #[.int .i64 D.1,.int .i64 D.2] 31));have HD3:=zH (Zau.new w3 D);have Hz3:=zH (Hlow2.out.1.mB.below (k3.mono hsz2));have Hy3:=zH (Hlow2.out.2.2.below (k3.mono hsz2));have hsz3:w.heap.size≤w3.heap.size:=Nat.le_trans hsz2 k3.size;have hal3:Below w3.heap.size w3 (w3.alloc (.cells #[.int .i64 D.1,.int .i64 D.2] 31)):=(Below.refl _ _).alloc (Nat.le_refl _) _;have Hal3:=zH (hal3.mono hsz3);clear x0 x1 x2 r0 r1 r2 r3 r4 r5 r6 k3 hal3;obtain⟨⟨x0,x1,x2⟩,r0,r1,r2,r3,r4,r5,r6⟩:=Ziv Hbox HS3.out
    go_wp2_with fail
    refine (Zhc w.heap.size b rb c2 d2 p.B Y hBl n2 _ (Nat.le_trans Hsz.out HS3.out.low.size) (Hz3.out.below Hal3.out) (Hy3.out.below Hal3.out)).mono ?_;rintro e w4 ⟨rfl,k4⟩;generalize Lp.idR p.B Y=E at *;generalize Lp.idK p.B Y=L at *;have HS4:=zH ((HS3.out.trans k4).alloc (.cells #[.int .i64 E.1,.int .i64 E.2] 31));have hD4:=((HD3.out.below k4).alloc (.cells #[.int .i64 E.1,.int .i64 E.2] 31)).four;have hE4:=(Zau.new w4 E).four;obtain⟨m0,m1,-,-⟩:=hD4;obtain⟨q0,q1,-,-⟩:=hE4;clear x0 x1 x2 r0 r1 r2 r3 r4 r5 r6 k4;obtain⟨⟨x0,x1,x2⟩,r0,r1,r2,r3,r4,r5,r6⟩:=Ziv Hbox HS4.out;have heq:=Zk0;have hneq:=Zpq;have hgeq:=Zgj;cases K with
    | false=>
     have Hr:=zH (show false=g by rw[<-Hg2.out];rfl)
     go_wp2_with fail
     go_ret;exact⟨Zae Hr.out,Hb.out.trans (HS4.out.low.mono Hsz.out)⟩
    | true=>
     cases L with
     | false=>
      have Hr:=zH (show false=g by rw[<-Hg2.out];rfl)
      go_wp2_with fail
      go_ret;exact⟨Zae Hr.out,Hb.out.trans (HS4.out.low.mono Hsz.out)⟩
     | true=>
      rcases hde:(D.1 == E.1 && D.2 == E.2) with _|_
      ·have Hr:=zH (show false=g by
        rw[<-Hg2.out];have:D≠E:=by rintro rfl;simp at hde
        simp[this])
       go_wp2_with fail
       go_ret;exact⟨Zae Hr.out,Hb.out.trans (HS4.out.low.mono Hsz.out)⟩
      ·have HDE:=zH (show D=E by
        rw[Bool.and_eq_true,beq_iff_eq,beq_iff_eq] at hde;exact Prod.ext hde.1 hde.2)
       rcases hdv:(D.1 == nu && D.2 == de) with _|_
       ·have Hr:=zH (show false=g by
         rw[<-Hg2.out];have:D≠(nu,de):=by rintro rfl;simp at hdv
         simp[this])
        go_wp2_with fail
        go_ret;exact⟨Zae Hr.out,Hb.out.trans (HS4.out.low.mono Hsz.out)⟩
       ·have Hr:=zH (show true=g by
         rw[<-Hg2.out];rw[Bool.and_eq_true,beq_iff_eq,beq_iff_eq] at hdv;have:D=(nu,de):=Prod.ext hdv.1 hdv.2;rw[<-HDE.out,this];simp)
        go_wp2_with fail
        go_ret;exact⟨Zae Hr.out,Hb.out.trans (HS4.out.low.mono Hsz.out)⟩
  ·have Hr:=zH (show false=g by rw[<-Hg.out];simp[hl])
   obtain⟨l1,l2⟩:=Zfq hl
   go_wp2_with fail
   go_ret;exact⟨Zae Hr.out,Hb.out.trans (HS1.out.low.mono Hsz.out)⟩
def Zc7 (w0:World) (a b c ra rb rc:Option Addr) (c1 c2 c3 d1 d2 d3:Nat) (p:P) (r:Res) (t t':TypeId) (w:World):Prop:=
 Below w0.heap.size w0 w/\LpIn w0.heap.size w a b c p/\Zej w0.heap.size w ra rb rc r/\Tri w w0.heap.size (.slice a p.A.length c1) (.slice b p.B.length c2) (.slice c p.C.length c3) t/\
 Zac w (w0.heap.size+1) #[.int .i64 r.status,.slice ra r.X.length d1,.slice rb r.Y.length d2,.slice rc r.ray.length d3,.int .i64 r.value.1,.int .i64 r.value.2,.int .i64 r.pivots] t'
theorem Zc7.up {w0:World} {a b c ra rb rc:Option Addr} {c1 c2 c3 d1 d2 d3:Nat} {p:P} {r:Res} {t t':TypeId} {w w':World} (h:Zc7 w0 a b c ra rb rc c1 c2 c3 d1 d2 d3 p r t t' w) (hb:Below w.heap.size w w') :
  Zc7 w0 a b c ra rb rc c1 c2 c3 d1 d2 d3 p r t t' w':=by
 obtain⟨h1,h2,h3,h4,h5⟩:=h;have hl:=hb.mono h1.size;exact⟨h1.trans hl,h2.below hl,h3.below hl,h4.below hb,h5.below hb⟩
theorem Zc7.start (w0:World) {B:Nat} (a b c ra rb rc:Option Addr) (c1 c2 c3 d1 d2 d3:Nat) (p:P) (r:Res) (t t':TypeId) (hB:B≤w0.heap.size) (h:LpIn B w0 a b c p) (h':Zej B w0 ra rb rc r) :
  Zc7 w0 a b c ra rb rc c1 c2 c3 d1 d2 d3 p r t t' ((w0.alloc (.cells #[.slice a p.A.length c1,.slice b p.B.length c2,.slice c p.C.length c3] t)).alloc
   (.cells #[.int .i64 r.status,.slice ra r.X.length d1,.slice rb r.Y.length d2,.slice rc r.ray.length d3,.int .i64 r.value.1,.int .i64 r.value.2,.int .i64 r.pivots] t')):=by
 have hb:=((Below.refl w0.heap.size w0).alloc (Nat.le_refl _) (.cells #[.slice a p.A.length c1,.slice b p.B.length c2,.slice c p.C.length c3] t)).alloc (by rw[Zar];omega) (.cells #[.int .i64 r.status,.slice ra r.X.length d1,.slice rb r.Y.length d2,.slice rc r.ray.length d3,.int .i64 r.value.1,.int .i64 r.value.2,.int .i64 r.pivots] t');obtain⟨k1,k2⟩:=Zqh w0 (.slice a p.A.length c1) (.slice b p.B.length c2) (.slice c p.C.length c3) t t' #[.int .i64 r.status,.slice ra r.X.length d1,.slice rb r.Y.length d2,.slice rc r.ray.length d3,.int .i64 r.value.1,.int .i64 r.value.2,.int .i64 r.pivots];exact⟨hb,(h.mono hB).below hb,(h'.mono hB).below hb,k1,k2⟩
theorem Zfx (w0:World) (a b c ra rb rc:Option Addr) (c1 c2 c3 d1 d2 d3:Nat) (p:P) (r:Res) (t t':TypeId):Stable fun w=>Zc7 w0 a b c ra rb rc c1 c2 c3 d1 d2 d3 p r t t' w:=fun _ _ hb h=>h.up hb
theorem Zlh {P:Program} {f:FuncId} {args:Array Value} {w:World} {xs:List R} (h:Calls P f args w (Zbg xs w)):Calls P f args w fun e w'=>(∃v,e=.returned v/\Zaa w.heap.size w' v xs)/\Below w.heap.size w w':=
 h.mono fun _ _ ⟨v,he,ho,hb⟩=>⟨⟨v,he,ho⟩,hb⟩
theorem Zc0 (n:Nat):(Lp.Zbr n).length=n:=by simp[Lp.Zbr]
theorem slice_inj {a b:Option Addr} {n m c d:Nat} (h:Value.slice a n c=.slice b m d):a=b/\c=d:=by injection h with h1 h2 h3;exact⟨h1,h3⟩
theorem Zdx {w w':World} (h:w.grownBy w' none):Below w.heap.size w w':=(Below.refl w.heap.size w).grown h (Nat.le_refl _) (fun k hk=>by cases hk)
theorem Ze2 {B n:Nat} {w:World} {v:Value} (h:w.ownsRow B 3 1 v n (madeCells (Value.int .i64 0).cells (n*1)).toList):Zad B w v (Lp.Zbr n):=by
 unfold Zad;rw[Zc0];have e:(madeCells (Value.int .i64 0).cells (n*1)).toList=(Lp.Zbr n).map (Value.int .i64):=by
  apply List.ext_getElem
  ·simp[madeCells,Lp.Zbr]
  ·intro i h1 h2
   simp[madeCells,Lp.Zbr,Value.cells,Nat.mod_one]
 rw[<-e];exact h
theorem Zb3 {P:Program} {w:World} {ops:Array Oper} {o:Oper} {a:Act} {K:Act->World->Prop} {Q:Exit->Act->World->Prop} {E:Prop} (hwt:Region.wanted o (yielded ops a.tmps)=true) (l c:Operand) (t:TypeId) (hop:o.op=Op.makeSlice t l c)
  (base:Nat) (e:TypeId) (i:TypeInfo) (z:Value) (size:Nat) (h1:P.underlying t=some (.slice e)) (h2:P.info? e=some i) (h3:i.zero=some z) (h4:i.size=size) (_h5:size=size)
  (kl kc:IntKind) (L C:Int) (n:Nat) (hl:a.eval l=.int kl L) (hc:a.eval c=.int kc C) (hL:L=(n:Int)) (hC:C=(n:Int)) (b2:i.bytes*n≤281474976710656) (b3:n≤maxLen) (b4:base≤w.heap.size)
  (hK:∀w',w'.ownsRow base e size (.slice (some ⟨w.heap.size,0,none⟩) n n) n (madeCells z.cells (n*size)).toList->w.grownBy w' none->K (a.put o.dst (.slice (some ⟨w.heap.size,0,none⟩) n n)) w') :
  if Region.wanted o (yielded ops a.tmps)=true then Oper.wp P o a w K Q else E:=by
 rw[if_pos hwt];obtain⟨w',hrun,r1,r2⟩:=run_make_full (P:=P) w base t e i z size h1 h2 h3 h4 kl kc n b2 b3 b4;subst hL;subst hC;unfold Oper.wp;simp[execOp,hop,hl,hc,hrun,Result.andThen];exact hK w' r1 r2
theorem Zjw (B:Nat) (a b c ra rb rc:Option Addr) (c1 c2 c3 d1 d2 d3:Nat) (p:P) (X Y Z:List R) (nu de pv:Int) (hn:Zbs p) (hf:Zdp ⟨2,X,Y,Z,(nu,de),pv⟩) (hvl:Lp.vldP p=true) (g:Bool) (hg:Lp.inf p ⟨2,X,Y,Z,(nu,de),pv⟩=g) (w:World) (hBw:B≤w.heap.size) (hz:LpIn B w a b c p) (hr:Zej B w ra rb rc ⟨2,X,Y,Z,(nu,de),pv⟩) :
  Calls Tryz.prog 20 #[.agg #[.slice a p.A.length c1,.slice b p.B.length c2,.slice c p.C.length c3],.agg #[.int .i64 2,.slice ra X.length d1,.slice rb Y.length d2,.slice rc Z.length d3,.int .i64 nu,.int .i64 de,.int .i64 pv]] w fun e w'=>e=.returned (.bool g)/\Below w.heap.size w w':=by
 obtain⟨n1,n2,n3,_⟩:=hf;have hg':(decide (Y.length=p.B.length) && (Lp.dual p Y (Lp.Za1 p.C.length) && (Lp.idK p.B Y && decide (0<(Lp.idR p.B Y).1))))=g:=hg;simp only at n1 n2 n3;have HX:=zH (Zc7.start w a b c ra rb rc c1 c2 c3 d1 d2 d3 p ⟨2,X,Y,Z,(nu,de),pv⟩ 28 33 hBw hz hr);have HV:=zH (fun W (hB:w.heap.size≤W.heap.size) h=>hvl▸Zbq w.heap.size a b c c1 c2 c3 p hn W hB h);have HN:=zH hn;have Hg:=zH hg';have HVL:=zH hvl;have hC:=hn.C;have hBl:=hn.B;clear hz hr hg hg' hvl
 go_enter Tryz.func20,Tryz.ntmps20
 go_wp2_with fail
 refine (HV.out _ HX.out.1.size HX.out.2.1).mono ?_;rintro e w1 ⟨rfl,k1⟩;have HX1:=zH (HX.out.up k1);obtain⟨x0,x1,x2,_⟩:=HX1.out.2.2.2.1.cells;obtain⟨⟨r0,r1,r2,r3,r4,r5,r6⟩,_⟩:=seven HX1.out.2.2.2.2;clear k1
 go_wp2_with fail
 refine (Zhc w.heap.size b rb c2 d2 p.B Y hBl n2 _ HX1.out.1.size HX1.out.2.1.mB HX1.out.2.2.1.mY).mono ?_;rintro e w2 ⟨rfl,k2⟩;have hk2:=HX1.out.up k2;obtain⟨L,hs,hk,hk0⟩:=Zn7 (Zfx w a b c ra rb rc c1 c2 c3 d1 d2 d3 p ⟨2,X,Y,Z,(nu,de),pv⟩ 28 33) #[.int .i64 (Lp.idR p.B Y).1,.int .i64 (Lp.idR p.B Y).2] 31 (fun _=>True) (fun _ _ _ h=>h) hk2 trivial;obtain⟨du,hdu⟩:∃du,Lp.dual p Y (Lp.Za1 p.C.length)=du:=⟨_,rfl⟩;have Hdu:=zH (fun W (hL:L W) (A:Option Addr) (C:Nat) hc=>Zl3 W.heap.size a b c rb A c1 c2 c3 d2 C p Y (Lp.Za1 p.C.length) HN.out HVL.out n2 (Nat.le_of_eq (Zcu _).symm) (by rw[Zcu];exact hC) du hdu W (Nat.le_refl _) ((hk W hL).1.2.1.mono (hk W hL).1.1.size) ((hk W hL).1.2.2.1.mY.mono (hk W hL).1.1.size) hc);have Hg2:=zH (show (decide (Y.length=p.B.length) && (du && (Lp.idK p.B Y && decide (0<(Lp.idR p.B Y).1))))=g from hdu▸Hg.out);have Hze:=zH (fun W=>Zp9 p.C.length hC W);generalize Lp.Za1 p.C.length=zs at *;generalize Lp.idR p.B Y=D at *;generalize Lp.idK p.B Y=K at *;have LS:=zH hs;have LK:=zH hk;have HL0:=zH hk0;have Cell:=zH (fun w' (h:L w')=>(show w'.cell? ⟨w.heap.size,0,none⟩=some (.slice a p.A.length c1)/\w'.cell? ⟨w.heap.size,1,none⟩=some (.slice b p.B.length c2)/\w'.cell? ⟨w.heap.size,2,none⟩=some (.slice c p.C.length c3)/\w'.cell? ⟨w.heap.size+1,2,none⟩=some (.slice rb Y.length d2)/\w'.cell? ⟨w2.heap.size,0,none⟩=some (.int .i64 D.1)/\L w' from
  ⟨(hk w' h).1.2.2.2.1.cells.1,(hk w' h).1.2.2.2.1.cells.2.1,(hk w' h).1.2.2.2.1.cells.2.2.1,(seven (hk w' h).1.2.2.2.2).1.2.2.1,(hk w' h).2.1.cell 0,h⟩))
 clear hdu hs hk hk0 hk2 k2 x0 x1 x2 r0 r1 r2 r3 r4 r5 r6 HX HX1 HV HN Hg HVL;obtain⟨x0,x1,x2,r2,q0,_⟩:=Cell.out _ HL0.out
 by_cases hl:Y.length=p.B.length
 ·have hq:((Y.length:Int) == (p.B.length:Int))=true:=by rw[hl];simp
  have Hg3:=zH (show (du && (K && decide (0<D.1)))=g by rw[<-Hg2.out];simp[hl]);clear Hg2 hl;have hin:=LS.out.drew HL0.out
  go_upto_region 8 with fail
  generalize hW3:w2.alloc (.cells #[.int .i64 D.1,.int .i64 D.2] 31)=W3 at *;cases du with
  | false=>
   have Hr:=zH (show false=g by rw[<-Hg3.out];rfl);refine wp_region_held_drew (S:=(fun w'=>w'.cell? ⟨w.heap.size,0,none⟩=some (.slice a p.A.length c1)/\w'.cell? ⟨w.heap.size,1,none⟩=some (.slice b p.B.length c2)/\w'.cell? ⟨w.heap.size,2,none⟩=some (.slice c p.C.length c3)/\w'.cell? ⟨w.heap.size+1,2,none⟩=some (.slice rb Y.length d2)/\w'.cell? ⟨w2.heap.size,0,none⟩=some (.int .i64 D.1)/\L w')) (by kernel_rfl) ?_ (fun hHeld=>?_)
   ·exact Cell.out _ hin
   refine tk1 0 ⟨some 29,_,0,_,_,none⟩ ?_;refine tk1 1 ⟨some 30,_,26,_,_,none⟩ ?_;refine tk1 2 ⟨some 31,_,3,_,_,none⟩ ?_;refine tk1 3 ⟨some 32,_,0,_,_,none⟩ ?_;refine tk1 4 ⟨some 33,_,25,_,_,none⟩ ?_;refine tk1 5 ⟨some 34,_,3,_,_,none⟩ ?_;refine tk1 6 ⟨some 35,_,4,_,_,none⟩ ?_;refine tk1 7 ⟨some 36,_,4,_,_,none⟩ ?_
   try simp only[Act.put,zA,zB,zC]
   refine tk1 8 ⟨some 37,_,28,_,_,some (7,true)⟩ ?_
   try simp only[Act.put,zA,zB,zC]
   refine tk1 9 ⟨some 38,_,0,_,_,some (7,true)⟩ ?_
   try simp only[Act.put,zA,zB,zC]
   refine tk1 10 ⟨some 39,_,26,_,_,some (7,true)⟩ ?_
   try simp only[Act.put,zA,zB,zC]
   refine tk1 11 ⟨some 40,_,0,_,_,some (7,true)⟩ ?_
   try simp only[Act.put,zA,zB,zC]
   refine tk1 12 ⟨some 41,_,26,_,_,some (7,true)⟩ ?_
   try simp only[Act.put,zA,zB,zC]
   refine tk1 13 ⟨some 42,_,3,_,_,some (7,true)⟩ ?_
   try simp only[Act.put,zA,zB,zC]
   refine rd1 14 ⟨some 43,_,26,_,_,some (7,true)⟩ fun K hK=>?_
   go_simp
   (go_at_call 83;refine (Za5 LS.out (Zlh (Hze.out _)) (by assumption)).mono ?_;rintro e w' ⟨⟨v,rfl,ho⟩,hk5,hin5⟩;obtain⟨za,zc,rfl,hzr,_,_⟩:=Zai ho)
   refine hK.out _ _ ?_ (fun hHeld=>?_)
   ·exact Cell.out _ (by assumption)
   clear hK K
   try simp only[Act.put,zA,zB,zC]
   refine rd1 15 ⟨some 44,_,4,_,_,some (7,true)⟩ fun K hK=>?_
   go_simp
   (go_at_call 82;refine (Za5 LS.out (Hdu.out _ (by assumption) _ _ (by assumption)) (by assumption)).mono ?_;rintro e w' ⟨rfl,hk6,hin6⟩)
   refine hK.out _ _ ?_ (fun hHeld=>?_)
   ·exact Cell.out _ (by assumption)
   clear hK K;refine tk1 16 ⟨some 45,_,4,_,_,none⟩ ?_;refine tk1 17 ⟨some 46,_,4,_,_,none⟩ ?_
   try simp only[Act.put,zA,zB,zC]
   refine tkHu (i:=18) (oi:=⟨some 47,.move (.tmp 6),4,"l05_lp.go:106",#[⟨17,.guard⟩],some (17,true)⟩) rfl (by assumption) ?_
   refine tk1 19 ⟨some 48,_,4,_,_,none⟩ ?_;refine tk1 20 ⟨some 49,_,4,_,_,none⟩ ?_
   try simp only[Act.put,zA,zB,zC]
   refine tkHu (i:=21) (oi:=⟨some 50,.fieldAddr 31 (.tmp 5) 0,0,"l05_lp.go:106",#[⟨20,.guard⟩],some (20,true)⟩) rfl (by assumption) ?_
   try simp only[Act.put,zA,zB,zC]
   refine tkHu (i:=22) (oi:=⟨some 51,.load 3 (.tmp 50),3,"l05_lp.go:106",#[⟨21,.data⟩,⟨20,.guard⟩],some (20,true)⟩) rfl (by assumption) ?_
   try simp only[Act.put,zA,zB,zC]
   refine tkHu (i:=23) (oi:=⟨some 52,.binOp .gtr 3 (.tmp 51) (.const (Value.int IntKind.i64 0)) 3,4,"l05_lp.go:106",#[⟨22,.data⟩,⟨20,.guard⟩],some (20,true)⟩) rfl (by assumption) ?_
   refine tk1 24 ⟨some 53,_,4,_,_,none⟩ ?_;refine tk1 25 ⟨some 4,_,4,_,_,none⟩ ?_
   try simp only[Act.put,zA,zB,zC]
   refine wpAnyH_done (by kernel_rfl) ?_ _
   go_wp2_with fail
   go_ret;exact⟨Zae Hr.out,(LK.out _ (by assumption)).1.1⟩
  | true=>
   cases K with
   | false=>
    have Hr:=zH (show false=g by rw[<-Hg3.out];rfl);refine wp_region_held_drew (S:=(fun w'=>w'.cell? ⟨w.heap.size,0,none⟩=some (.slice a p.A.length c1)/\w'.cell? ⟨w.heap.size,1,none⟩=some (.slice b p.B.length c2)/\w'.cell? ⟨w.heap.size,2,none⟩=some (.slice c p.C.length c3)/\w'.cell? ⟨w.heap.size+1,2,none⟩=some (.slice rb Y.length d2)/\w'.cell? ⟨w2.heap.size,0,none⟩=some (.int .i64 D.1)/\L w')) (by kernel_rfl) ?_ (fun hHeld=>?_)
    ·exact Cell.out _ hin
    refine tk1 0 ⟨some 29,_,0,_,_,none⟩ ?_;refine tk1 1 ⟨some 30,_,26,_,_,none⟩ ?_;refine tk1 2 ⟨some 31,_,3,_,_,none⟩ ?_;refine tk1 3 ⟨some 32,_,0,_,_,none⟩ ?_;refine tk1 4 ⟨some 33,_,25,_,_,none⟩ ?_;refine tk1 5 ⟨some 34,_,3,_,_,none⟩ ?_;refine tk1 6 ⟨some 35,_,4,_,_,none⟩ ?_;refine tk1 7 ⟨some 36,_,4,_,_,none⟩ ?_
    try simp only[Act.put,zA,zB,zC]
    refine tk1 8 ⟨some 37,_,28,_,_,some (7,true)⟩ ?_
    try simp only[Act.put,zA,zB,zC]
    refine tk1 9 ⟨some 38,_,0,_,_,some (7,true)⟩ ?_
    try simp only[Act.put,zA,zB,zC]
    refine tk1 10 ⟨some 39,_,26,_,_,some (7,true)⟩ ?_
    try simp only[Act.put,zA,zB,zC]
    refine tk1 11 ⟨some 40,_,0,_,_,some (7,true)⟩ ?_
    try simp only[Act.put,zA,zB,zC]
    refine tk1 12 ⟨some 41,_,26,_,_,some (7,true)⟩ ?_
    try simp only[Act.put,zA,zB,zC]
    refine tk1 13 ⟨some 42,_,3,_,_,some (7,true)⟩ ?_
    try simp only[Act.put,zA,zB,zC]
    refine rd1 14 ⟨some 43,_,26,_,_,some (7,true)⟩ fun K hK=>?_
    go_simp
    (go_at_call 83;refine (Za5 LS.out (Zlh (Hze.out _)) (by assumption)).mono ?_;rintro e w' ⟨⟨v,rfl,ho⟩,hk5,hin5⟩;obtain⟨za,zc,rfl,hzr,_,_⟩:=Zai ho)
    refine hK.out _ _ ?_ (fun hHeld=>?_)
    ·exact Cell.out _ (by assumption)
    clear hK K
    try simp only[Act.put,zA,zB,zC]
    refine rd1 15 ⟨some 44,_,4,_,_,some (7,true)⟩ fun K hK=>?_
    go_simp
    (go_at_call 82;refine (Za5 LS.out (Hdu.out _ (by assumption) _ _ (by assumption)) (by assumption)).mono ?_;rintro e w' ⟨rfl,hk6,hin6⟩)
    refine hK.out _ _ ?_ (fun hHeld=>?_)
    ·exact Cell.out _ (by assumption)
    clear hK K;refine tk1 16 ⟨some 45,_,4,_,_,none⟩ ?_;refine tk1 17 ⟨some 46,_,4,_,_,none⟩ ?_
    try simp only[Act.put,zA,zB,zC]
    refine tk1 18 ⟨some 47,_,4,_,_,some (17,true)⟩ ?_;refine tk1 19 ⟨some 48,_,4,_,_,none⟩ ?_;refine tk1 20 ⟨some 49,_,4,_,_,none⟩ ?_
    try simp only[Act.put,zA,zB,zC]
    refine tkHu (i:=21) (oi:=⟨some 50,.fieldAddr 31 (.tmp 5) 0,0,"l05_lp.go:106",#[⟨20,.guard⟩],some (20,true)⟩) rfl (by assumption) ?_
    try simp only[Act.put,zA,zB,zC]
    refine tkHu (i:=22) (oi:=⟨some 51,.load 3 (.tmp 50),3,"l05_lp.go:106",#[⟨21,.data⟩,⟨20,.guard⟩],some (20,true)⟩) rfl (by assumption) ?_
    try simp only[Act.put,zA,zB,zC]
    refine tkHu (i:=23) (oi:=⟨some 52,.binOp .gtr 3 (.tmp 51) (.const (Value.int IntKind.i64 0)) 3,4,"l05_lp.go:106",#[⟨22,.data⟩,⟨20,.guard⟩],some (20,true)⟩) rfl (by assumption) ?_
    refine tk1 24 ⟨some 53,_,4,_,_,none⟩ ?_;refine tk1 25 ⟨some 4,_,4,_,_,none⟩ ?_
    try simp only[Act.put,zA,zB,zC]
    refine wpAnyH_done (by kernel_rfl) ?_ _
    go_wp2_with fail
    go_ret;exact⟨Zae Hr.out,(LK.out _ (by assumption)).1.1⟩
   | true=>
    rcases hd:decide (0<D.1) with _|_
    ·have Hr:=zH (show false=g by rw[<-Hg3.out,hd];rfl)
     have hd2:decide (D.1>0)=false:=hd;refine wp_region_held_drew (S:=(fun w'=>w'.cell? ⟨w.heap.size,0,none⟩=some (.slice a p.A.length c1)/\w'.cell? ⟨w.heap.size,1,none⟩=some (.slice b p.B.length c2)/\w'.cell? ⟨w.heap.size,2,none⟩=some (.slice c p.C.length c3)/\w'.cell? ⟨w.heap.size+1,2,none⟩=some (.slice rb Y.length d2)/\w'.cell? ⟨w2.heap.size,0,none⟩=some (.int .i64 D.1)/\L w')) (by kernel_rfl) ?_ (fun hHeld=>?_)
     ·exact Cell.out _ hin
     refine tk1 0 ⟨some 29,_,0,_,_,none⟩ ?_;refine tk1 1 ⟨some 30,_,26,_,_,none⟩ ?_;refine tk1 2 ⟨some 31,_,3,_,_,none⟩ ?_;refine tk1 3 ⟨some 32,_,0,_,_,none⟩ ?_;refine tk1 4 ⟨some 33,_,25,_,_,none⟩ ?_;refine tk1 5 ⟨some 34,_,3,_,_,none⟩ ?_;refine tk1 6 ⟨some 35,_,4,_,_,none⟩ ?_;refine tk1 7 ⟨some 36,_,4,_,_,none⟩ ?_
     try simp only[Act.put,zA,zB,zC]
     refine tk1 8 ⟨some 37,_,28,_,_,some (7,true)⟩ ?_
     try simp only[Act.put,zA,zB,zC]
     refine tk1 9 ⟨some 38,_,0,_,_,some (7,true)⟩ ?_
     try simp only[Act.put,zA,zB,zC]
     refine tk1 10 ⟨some 39,_,26,_,_,some (7,true)⟩ ?_
     try simp only[Act.put,zA,zB,zC]
     refine tk1 11 ⟨some 40,_,0,_,_,some (7,true)⟩ ?_
     try simp only[Act.put,zA,zB,zC]
     refine tk1 12 ⟨some 41,_,26,_,_,some (7,true)⟩ ?_
     try simp only[Act.put,zA,zB,zC]
     refine tk1 13 ⟨some 42,_,3,_,_,some (7,true)⟩ ?_
     try simp only[Act.put,zA,zB,zC]
     refine rd1 14 ⟨some 43,_,26,_,_,some (7,true)⟩ fun K hK=>?_
     go_simp
     (go_at_call 83;refine (Za5 LS.out (Zlh (Hze.out _)) (by assumption)).mono ?_;rintro e w' ⟨⟨v,rfl,ho⟩,hk5,hin5⟩;obtain⟨za,zc,rfl,hzr,_,_⟩:=Zai ho)
     refine hK.out _ _ ?_ (fun hHeld=>?_)
     ·exact Cell.out _ (by assumption)
     clear hK K
     try simp only[Act.put,zA,zB,zC]
     refine rd1 15 ⟨some 44,_,4,_,_,some (7,true)⟩ fun K hK=>?_
     go_simp
     (go_at_call 82;refine (Za5 LS.out (Hdu.out _ (by assumption) _ _ (by assumption)) (by assumption)).mono ?_;rintro e w' ⟨rfl,hk6,hin6⟩)
     refine hK.out _ _ ?_ (fun hHeld=>?_)
     ·exact Cell.out _ (by assumption)
     clear hK K;refine tk1 16 ⟨some 45,_,4,_,_,none⟩ ?_;refine tk1 17 ⟨some 46,_,4,_,_,none⟩ ?_
     try simp only[Act.put,zA,zB,zC]
     refine tk1 18 ⟨some 47,_,4,_,_,some (17,true)⟩ ?_;refine tk1 19 ⟨some 48,_,4,_,_,none⟩ ?_;refine tk1 20 ⟨some 49,_,4,_,_,none⟩ ?_
     try simp only[Act.put,zA,zB,zC]
     refine tk1 21 ⟨some 50,_,0,_,_,some (20,true)⟩ ?_
     try simp only[Act.put,zA,zB,zC]
     refine tk1 22 ⟨some 51,_,3,_,_,some (20,true)⟩ ?_
     try simp only[Act.put,zA,zB,zC]
     refine tk1 23 ⟨some 52,_,4,_,_,some (20,true)⟩ ?_;refine tk1 24 ⟨some 53,_,4,_,_,none⟩ ?_;refine tk1 25 ⟨some 4,_,4,_,_,none⟩ ?_
     try simp only[Act.put,zA,zB,zC]
     refine wpAnyH_done (by kernel_rfl) ?_ _
     go_wp2_with fail
     go_ret;exact⟨Zae Hr.out,(LK.out _ (by assumption)).1.1⟩
    ·have Hr:=zH (show true=g by rw[<-Hg3.out,hd];rfl)
     have hd2:decide (D.1>0)=true:=hd;refine wp_region_held_drew (S:=(fun w'=>w'.cell? ⟨w.heap.size,0,none⟩=some (.slice a p.A.length c1)/\w'.cell? ⟨w.heap.size,1,none⟩=some (.slice b p.B.length c2)/\w'.cell? ⟨w.heap.size,2,none⟩=some (.slice c p.C.length c3)/\w'.cell? ⟨w.heap.size+1,2,none⟩=some (.slice rb Y.length d2)/\w'.cell? ⟨w2.heap.size,0,none⟩=some (.int .i64 D.1)/\L w')) (by kernel_rfl) ?_ (fun hHeld=>?_)
     ·exact Cell.out _ hin
     refine tk1 0 ⟨some 29,_,0,_,_,none⟩ ?_;refine tk1 1 ⟨some 30,_,26,_,_,none⟩ ?_;refine tk1 2 ⟨some 31,_,3,_,_,none⟩ ?_;refine tk1 3 ⟨some 32,_,0,_,_,none⟩ ?_;refine tk1 4 ⟨some 33,_,25,_,_,none⟩ ?_;refine tk1 5 ⟨some 34,_,3,_,_,none⟩ ?_;refine tk1 6 ⟨some 35,_,4,_,_,none⟩ ?_;refine tk1 7 ⟨some 36,_,4,_,_,none⟩ ?_
     try simp only[Act.put,zA,zB,zC]
     refine tk1 8 ⟨some 37,_,28,_,_,some (7,true)⟩ ?_
     try simp only[Act.put,zA,zB,zC]
     refine tk1 9 ⟨some 38,_,0,_,_,some (7,true)⟩ ?_
     try simp only[Act.put,zA,zB,zC]
     refine tk1 10 ⟨some 39,_,26,_,_,some (7,true)⟩ ?_
     try simp only[Act.put,zA,zB,zC]
     refine tk1 11 ⟨some 40,_,0,_,_,some (7,true)⟩ ?_
     try simp only[Act.put,zA,zB,zC]
     refine tk1 12 ⟨some 41,_,26,_,_,some (7,true)⟩ ?_
     try simp only[Act.put,zA,zB,zC]
     refine tk1 13 ⟨some 42,_,3,_,_,some (7,true)⟩ ?_
     try simp only[Act.put,zA,zB,zC]
     refine rd1 14 ⟨some 43,_,26,_,_,some (7,true)⟩ fun K hK=>?_
     go_simp
     (go_at_call 83;refine (Za5 LS.out (Zlh (Hze.out _)) (by assumption)).mono ?_;rintro e w' ⟨⟨v,rfl,ho⟩,hk5,hin5⟩;obtain⟨za,zc,rfl,hzr,_,_⟩:=Zai ho)
     refine hK.out _ _ ?_ (fun hHeld=>?_)
     ·exact Cell.out _ (by assumption)
     clear hK K
     try simp only[Act.put,zA,zB,zC]
     refine rd1 15 ⟨some 44,_,4,_,_,some (7,true)⟩ fun K hK=>?_
     go_simp
     (go_at_call 82;refine (Za5 LS.out (Hdu.out _ (by assumption) _ _ (by assumption)) (by assumption)).mono ?_;rintro e w' ⟨rfl,hk6,hin6⟩)
     refine hK.out _ _ ?_ (fun hHeld=>?_)
     ·exact Cell.out _ (by assumption)
     clear hK K;refine tk1 16 ⟨some 45,_,4,_,_,none⟩ ?_;refine tk1 17 ⟨some 46,_,4,_,_,none⟩ ?_
     try simp only[Act.put,zA,zB,zC]
     refine tk1 18 ⟨some 47,_,4,_,_,some (17,true)⟩ ?_;refine tk1 19 ⟨some 48,_,4,_,_,none⟩ ?_;refine tk1 20 ⟨some 49,_,4,_,_,none⟩ ?_
     try simp only[Act.put,zA,zB,zC]
     refine tk1 21 ⟨some 50,_,0,_,_,some (20,true)⟩ ?_
     try simp only[Act.put,zA,zB,zC]
     refine tk1 22 ⟨some 51,_,3,_,_,some (20,true)⟩ ?_
     try simp only[Act.put,zA,zB,zC]
     refine tk1 23 ⟨some 52,_,4,_,_,some (20,true)⟩ ?_;refine tk1 24 ⟨some 53,_,4,_,_,none⟩ ?_;refine tk1 25 ⟨some 4,_,4,_,_,none⟩ ?_
     try simp only[Act.put,zA,zB,zC]
     refine wpAnyH_done (by kernel_rfl) ?_ _
     go_wp2_with fail
     go_ret;exact⟨Zae Hr.out,(LK.out _ (by assumption)).1.1⟩
 ·obtain⟨l1,l2⟩:=Zfq hl
  have Hr:=zH (show false=g by rw[<-Hg2.out];simp[hl]);have hb0:=zH (LK.out _ HL0.out).1.1
  go_wp2_with fail
  go_quiet (fail)
  go_wp2_with fail
  go_ret;exact⟨Zae Hr.out,below_drewN hb0.out nq⟩
end Go.Proofs.YtlohljkfphljgaaGreat
