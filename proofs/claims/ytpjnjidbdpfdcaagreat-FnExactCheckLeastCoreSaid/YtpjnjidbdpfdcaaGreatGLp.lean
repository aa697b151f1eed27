/- The parts LpE, LpE2, LpF, LpG, LpK. -/
import Derived.Test.YtpjnjidbdpfdcaaGreatGLb
import Derived.Test.YtpjnjidbdpfdcaaGreatGRa
import Derived.Deep.RegionHeld3
import Derived.Test.YtpjnjidbdpfdcaaGreatGLr
import Derived.Test.YtpjnjidbdpfdcaaGreatGLk
set_option maxRecDepth 100000
set_option maxHeartbeats 2000000
namespace Go.Proofs.YtpjnjidbdpfdcaaGreat
open Go.RowKit
open Ve (R)
open Lp (P)
theorem Zgd {P:Program} {f:FuncId} {args:Array Value} {wx:World} {v:Value} (h:Calls P f args wx fun e w'=>e=.returned v/\Below wx.heap.size wx w') {B:World} (hB:Since B wx) :
  Calls P f args wx fun e w'=>e=.returned v/\Since B w':=h.mono fun _ _ ⟨he,hb⟩=>⟨he,hB.trans hb⟩
def gvOk (p:P) (v:List R) (b:List Int) (k:Nat):Bool:=Lp.idK (rw_ p.A k) v && decide (Lp.idR (rw_ p.A k) v=(b.getD k 0,1))
theorem Zoi {p:P} {v:List R} {b:List Int} {k:Nat} (hk:k<p.A.length) (h:gvOk p v b k=false):Lp.gives p v b=false:=by
 rw[Bool.eq_false_iff];intro h2;unfold Lp.gives at h2;rw[List.all_eq_true] at h2;have h3:=h2 k (by simpa using hk);unfold gvOk at h;rw[<-rows_row] at h;rw[h] at h3;cases h3
theorem Zl0 {p:P} {v:List R} {b:List Int} (h:∀k,k<p.A.length->gvOk p v b k=true):Lp.gives p v b=true:=by
 unfold Lp.gives;rw[List.all_eq_true];intro k hk;exact h k (by simpa using hk)
def Zde (q bb k:Nat) (x:R) (z:Int) (B:World):Prop:=
 B.cell? ⟨q,0,none⟩=some (.int .i64 x.1)/\B.cell? ⟨q,1,none⟩=some (.int .i64 x.2)/\B.cell? ⟨bb,k,none⟩=some (.int .i64 z)/\q<B.heap.size/\bb<B.heap.size
theorem Zde.four {q bb k:Nat} {x:R} {z:Int} {B wx:World} (H:Hid (Zde q bb k x z B)) (h:Since B wx) :
  wx.cell? ⟨q,0,none⟩=some (.int .i64 x.1)/\wx.cell? ⟨q,1,none⟩=some (.int .i64 x.2)/\wx.cell? ⟨bb,k,none⟩=some (.int .i64 z)/\Since B wx:=
 ⟨h.cell H.out.2.2.2.1 H.out.1,h.cell H.out.2.2.2.1 H.out.2.1,h.cell (p:=⟨bb,k,none⟩) H.out.2.2.2.2 H.out.2.2.1,h⟩
theorem Zie (B:Nat) (a b c va ba:Option Addr) (c1 c2 c3 vc bc:Nat) (p:P) (v:List R) (bs:List Int) (hn:Zct p) (hv:v.length≤1048576) (hbl:p.A.length≤bs.length) (hbm:bs.length≤1048576) (g:Bool) (hg:Lp.gives p v bs=g) (w:World) (hBw:B≤w.heap.size) (hz:LpIn B w a b c p) (hv1:Zah B w va v) (hb1:Zal B w ba bs) :
  Calls Tryz.prog 38 #[.agg #[.slice a p.A.length c1,.slice b p.B.length c2,.slice c p.C.length c3],.slice va v.length vc,.slice ba bs.length bc] w fun e w'=>e=.returned (.bool g)/\Below w.heap.size w w':=by
 have hb:=(Below.refl w.heap.size w).alloc (Nat.le_refl _) (.cells #[.slice a p.A.length c1,.slice b p.B.length c2,.slice c p.C.length c3] 47);have hsz:w.heap.size≤(w.alloc (.cells #[.slice a p.A.length c1,.slice b p.B.length c2,.slice c p.C.length c3] 47)).heap.size:=by rw[Zar];omega
 have Hx:=zH (Tri.new w (.slice a p.A.length c1) (.slice b p.B.length c2) (.slice c p.C.length c3) 47);have Hz:=zH ((hz.mono hBw).below hb);have Hv:=zH ((hv1.mono hBw).below hb);have HBs:=zH ((hb1.mono hBw).below hb);have Hsz:=zH hsz;have HR:=zH hn.row;have hA:=hn.A;have Hb:=zH hb;have Hg:=zH hg;have Hst:=zH (Since.refl (w.alloc (.cells #[.slice a p.A.length c1,.slice b p.B.length c2,.slice c p.C.length c3] 47)));have heq:=Zcu;have hneq:=Zop;have hgeq:=Zb5;clear hz hv1 hb1 hb hg hsz hn
 go_enter Tryz.func38,Tryz.ntmps38
 go_wp2_with fail
 generalize hW0:w.alloc (.cells #[.slice a p.A.length c1,.slice b p.B.length c2,.slice c p.C.length c3] 47)=W0 at *
 go_loopw [7] (fun i wr=>∃k:Nat,k≤p.A.length/\i=.int .i64 k/\Hid (∀j,j<k->gvOk p v bs j=true)/\Hid (Since W0 wr)) (fun i _=>p.A.length-(intOf i).toNat)
 case atStart=>exact⟨0,Nat.zero_le _,rfl,fun j hj=>absurd hj (by omega),Hst.out⟩
 case round=>
  obtain⟨k,hk,rfl,hOk,hS⟩:=hrel;obtain⟨x0,x1,x2,_⟩:=(Hx.out.below hS.out.low).cells;have hlow:=hS.out.low.mono Hsz.out
  by_cases hlt:k<p.A.length
  ·obtain⟨b1,o1,a',c',rfl,_,hcell,hN⟩:=(Hz.out.below hlow).mA k hlt
   obtain⟨b2,o2,rfl,hb2,hbc⟩:=(HBs.out.below hlow) k (by omega);have hszr:w.heap.size≤wr.heap.size:=Nat.le_trans Hsz.out hS.out.low.size;have HNr:=zH hN;have Hvr:=zH (Hv.out.below hlow);have hrl:=HR.out k hlt;have Hbad:=zH (fun (h:gvOk p v bs k=false)=>(show false=g from (Zoi hlt h).symm.trans Hg.out));have Hgood:=zH (fun (h:gvOk p v bs k=true)=>(fun j (hj:j<k+1)=>(show gvOk p v bs j=true from by
     by_cases e:j=k
     ·subst e;exact h
     ·exact hOk.out j (by omega))))
   have Hdef:=zH (show gvOk p v bs k=(Lp.idK (rw_ p.A k) v && decide (Lp.idR (rw_ p.A k) v=(bs.getD k 0,1))) from rfl);clear hN hlow
   go_wp2_with fail
   refine (Zk8 w.heap.size a' va c' vc (rw_ p.A k) v hrl hv _ hszr HNr.out Hvr.out).mono ?_;rintro e w1 ⟨rfl,k1⟩;generalize gvOk p v bs k=ok at *;generalize Lp.idR (rw_ p.A k) v=D at *;generalize Lp.idK (rw_ p.A k) v=K at *;generalize bs.getD k 0=z at *;have hS2:=(hS.out.trans k1).alloc (.cells #[.int .i64 D.1,.int .i64 D.2] 35);have HS2:=zH hS2;have hbc1:w1.cell? ⟨b2,o2+k,none⟩=some (.int .i64 z):=by rw[k1.cell (p:=⟨b2,o2+k,none⟩) (by show b2<_;omega)];exact hbc
   have hsz1:w.heap.size≤w1.heap.size:=Nat.le_trans hszr k1.size;clear HNr Hvr hS2
   rcases K with _|_
   ·have Hr:=zH (Hbad.out (by rw[Hdef.out];rfl))
    clear Hbad Hgood Hdef k1
    go_wp2_with fail
    go_quiet (fail)
    go_wp2_with fail
    go_ret;exact⟨Zac Hr.out,below_drewN (Hb.out.trans (HS2.out.low.mono Hsz.out)) nq⟩
   ·have hkb:k<bs.length:=by omega
    have hkb2:((k:Int)<(bs.length:Int)):=by omega
    have hkb3:(0:Int)≤(k:Int):=by omega
    have HQ:Hid (Zde w1.heap.size b2 (o2+k) D z (w1.alloc (.cells #[.int .i64 D.1,.int .i64 D.2] 35))):=by
     have hnew:=(Zaj.new w1 D).four;have hal:Below w1.heap.size w1 (w1.alloc (.cells #[.int .i64 D.1,.int .i64 D.2] 35)):=(Below.refl _ _).alloc (Nat.le_refl _) _;exact⟨hnew.1,hnew.2.1,by rw[hal.cell (p:=⟨b2,o2+k,none⟩) (by show b2<_;omega)];exact hbc1,by rw[Zar];omega,by rw[Zar];omega⟩
    have hin:=Since.refl (w1.alloc (.cells #[.int .i64 D.1,.int .i64 D.2] 35))
    rcases hv:(D.1 == z && D.2 == 1) with _|_
    ·have Hr:=zH (Hbad.out (by
      rw[Hdef.out,Bool.true_and,decide_eq_false_iff_not];rintro rfl;simp at hv))
     clear Hbad Hgood Hdef k1 hbc hbc1
     go_wp2_with fail
     go_region_held3 (fun w'=>w'.cell? ⟨w1.heap.size,0,none⟩=some (.int .i64 D.1)/\w'.cell? ⟨w1.heap.size,1,none⟩=some (.int .i64 D.2)/\w'.cell? ⟨b2,o2+k,none⟩=some (.int .i64 z)/\Since (w1.alloc (.cells #[.int .i64 D.1,.int .i64 D.2] 35)) w') (first|exact Zde.four HQ (by assumption) | exact Zde.four HQ (Since.drew (by assumption)))
      (first | (go_at_call 28;refine (Zgd (Za2 z _) (B:=w1.alloc (.cells #[.int .i64 D.1,.int .i64 D.2] 35)) (by first|assumption|exact Since.drew (by assumption))).mono ?_;rintro e w' ⟨rfl,hin2⟩))
     all_goals
      have Hend:=zH ((HS2.out.trans (Since.low (B:=w1.alloc (.cells #[.int .i64 D.1,.int .i64 D.2] 35)) (wx:=w') (by assumption))).low);clear HQ hin
      go_wp2_with fail
      go_ret;exact⟨Zac Hr.out,Hb.out.trans (Hend.out.mono Hsz.out)⟩
    ·have HOk2:=zH (Hgood.out (by
      rw[Hdef.out,Bool.true_and,decide_eq_true_iff];rw[Bool.and_eq_true,beq_iff_eq,beq_iff_eq] at hv;exact Prod.ext hv.1 hv.2))
     clear Hbad Hgood Hdef k1 hbc hbc1
     go_wp2_with fail
     go_region_held3 (fun w'=>w'.cell? ⟨w1.heap.size,0,none⟩=some (.int .i64 D.1)/\w'.cell? ⟨w1.heap.size,1,none⟩=some (.int .i64 D.2)/\w'.cell? ⟨b2,o2+k,none⟩=some (.int .i64 z)/\Since (w1.alloc (.cells #[.int .i64 D.1,.int .i64 D.2] 35)) w') (first|exact Zde.four HQ (by assumption) | exact Zde.four HQ (Since.drew (by assumption)))
      (first | (go_at_call 28;refine (Zgd (Za2 z _) (B:=w1.alloc (.cells #[.int .i64 D.1,.int .i64 D.2] 35)) (by first|assumption|exact Since.drew (by assumption))).mono ?_;rintro e w' ⟨rfl,hin2⟩))
     all_goals
      have Hend:=zH (HS2.out.trans (Since.low (B:=w1.alloc (.cells #[.int .i64 D.1,.int .i64 D.2] 35)) (wx:=w') (by assumption)));clear HQ hin
      go_wp2_with fail
      go_roundw
      case rel=>exact⟨k+1,by omega,by go_num,HOk2,Hend⟩
      case measure=>simp[intOf];omega
  ·have Hr:=zH (show true=g by rw[<-Hg.out];exact (Zl0 fun j hj=>hOk.out j (by omega)).symm)
   go_wp2_with fail
   go_ret;exact⟨Zac Hr.out,Hb.out.trans (hS.out.low.mono Hsz.out)⟩
theorem Zqb {p:P} (h:Lp.vldP p=true):p.A.length≤p.B.length:=by have:=(Lp.Zbk h).2.2.2.1;omega
theorem Zfy (B:Nat) (a b c va:Option Addr) (c1 c2 c3 vc:Nat) (p:P) (v:List R) (hn:Zct p) (hv:v.length≤1048576) (g:Bool) (hg:Lp.feas p v=g) (w:World) (hBw:B≤w.heap.size) (hz:LpIn B w a b c p) (hv1:Zah B w va v) :
  Calls Tryz.prog 17 #[.agg #[.slice a p.A.length c1,.slice b p.B.length c2,.slice c p.C.length c3],.slice va v.length vc] w fun e w'=>e=.returned (.bool g)/\Below w.heap.size w w':=by
 have hb:=(Below.refl w.heap.size w).alloc (Nat.le_refl _) (.cells #[.slice a p.A.length c1,.slice b p.B.length c2,.slice c p.C.length c3] 47);have Hx:=zH (Tri.new w (.slice a p.A.length c1) (.slice b p.B.length c2) (.slice c p.C.length c3) 47);have Hz:=zH ((hz.mono hBw).below hb);have Hv:=zH ((hv1.mono hBw).below hb);have HN:=zH hn;have Hb:=zH hb;have Hg:=zH hg;have hC:=hn.C;have hBl:=hn.B;clear hz hv1 hb hg hn
 go_enter Tryz.func17,Tryz.ntmps17
 go_wp2_with fail
 refine (Zf9 w.heap.size a b c c1 c2 c3 p HN.out _ Hb.out.size Hz.out).mono ?_;rintro e w1 ⟨rfl,k1⟩;have hx1:=Hx.out.below k1;obtain⟨x0,x1,x2,_⟩:=hx1.cells;have Hx1:=zH hx1;have Hb1:=zH (Hb.out.trans (k1.mono Hb.out.size));have Hz1:=zH (Hz.out.below (k1.mono Hb.out.size));have Hv1:=zH (Hv.out.below (k1.mono Hb.out.size));clear k1 hx1
 rcases hvl:Lp.vldP p with _|_
 ·have Hr:=zH (show false=g by rw[<-Hg.out];unfold Lp.feas;rw[hvl];rfl)
  clear hvl
  go_wp2_with fail
  go_ret;exact⟨Zac Hr.out,Hb1.out⟩
 ·have HL:=zH (Zqb hvl)
  have HV:=zH hvl;clear hvl
  by_cases hl:v.length=p.C.length
  ·have hq:((v.length:Int) == (p.C.length:Int))=true:=by rw[hl];simp
   rcases hnn:Lp.nonneg v with _|_
   ·have Hr:=zH (show false=g by rw[<-Hg.out];unfold Lp.feas;rw[hnn];simp)
    have Hnn:=zH hnn;clear hnn hl
    go_wp2_with fail
    refine (Zcb w.heap.size va vc v hv false Hnn.out _ Hb1.out.size Hv1.out).mono ?_;rintro e w2 ⟨rfl,k2⟩;have Hb2:=zH (Hb1.out.trans (k2.mono Hb1.out.size));clear k2
    go_wp2_with fail
    go_ret;exact⟨Zac Hr.out,Hb2.out⟩
   ·have Hr:=zH (show Lp.gives p v p.B=g by rw[<-Hg.out];unfold Lp.feas;rw[HV.out,hnn,hl];simp)
    have Hnn:=zH hnn;clear hnn hl
    go_wp2_with fail
    refine (Zcb w.heap.size va vc v hv true Hnn.out _ Hb1.out.size Hv1.out).mono ?_;rintro e w2 ⟨rfl,k2⟩;have hx2:=Hx1.out.below k2;clear x0 x1 x2;obtain⟨x0,x1,x2,_⟩:=hx2.cells;have Hb2:=zH (Hb1.out.trans (k2.mono Hb1.out.size));have Hz2:=zH (Hz1.out.below (k2.mono Hb1.out.size));have Hv2:=zH (Hv1.out.below (k2.mono Hb1.out.size));clear k2 hx2
    go_wp2_with fail
    refine (Zie w.heap.size a b c va b c1 c2 c3 vc c2 p v p.B HN.out hv HL.out hBl g Hr.out _ Hb2.out.size Hz2.out Hv2.out Hz2.out.mB).mono ?_;rintro e w3 ⟨rfl,k3⟩;have Hb3:=zH (Hb2.out.trans (k3.mono Hb2.out.size));clear k3
    go_wp2_with fail
    go_ret;exact⟨rfl,Hb3.out⟩
  ·have Hr:=zH (show false=g by rw[<-Hg.out];unfold Lp.feas;simp[hl])
   obtain⟨l1,l2⟩:=Zen hl
   go_wp2_with fail
   go_ret;exact⟨Zac Hr.out,Hb1.out⟩
def duOk (p:P) (y c:List R) (j:Nat):Bool:=Lp.idK (Lp.col p j) y && Lp.Zi8 (Ve.at_ c j) (Lp.idR (Lp.col p j) y)
open Lp (P Res)
theorem Zm5 (w:World) (x y z:Value) (t t':TypeId) (cs:Array Value) :
  Tri ((w.alloc (.cells #[x,y,z] t)).alloc (.cells cs t')) w.heap.size x y z t/\Zaa ((w.alloc (.cells #[x,y,z] t)).alloc (.cells cs t')) (w.heap.size+1) cs t':=by
 have h2:=Zaa.new (w.alloc (.cells #[x,y,z] t)) cs t';rw[Zar] at h2;exact⟨(Tri.new w x y z t).more _,h2⟩
def Zhj (w0:World) (a b c ra rb rc:Option Addr) (c1 c2 c3 d1 d2 d3:Nat) (p:P) (r:Res) (t t':TypeId) (w:World):Prop:=
 Below w0.heap.size w0 w/\LpIn w0.heap.size w a b c p/\Zd8 w0.heap.size w ra rb rc r/\Tri w w0.heap.size (.slice a p.A.length c1) (.slice b p.B.length c2) (.slice c p.C.length c3) t/\
 Zaa w (w0.heap.size+1) #[.int .i64 r.status,.slice ra r.X.length d1,.slice rb r.Y.length d2,.slice rc r.ray.length d3,.int .i64 r.value.1,.int .i64 r.value.2,.int .i64 r.pivots] t'
theorem Zhj.up {w0:World} {a b c ra rb rc:Option Addr} {c1 c2 c3 d1 d2 d3:Nat} {p:P} {r:Res} {t t':TypeId} {w w':World} (h:Zhj w0 a b c ra rb rc c1 c2 c3 d1 d2 d3 p r t t' w) (hb:Below w.heap.size w w') :
  Zhj w0 a b c ra rb rc c1 c2 c3 d1 d2 d3 p r t t' w':=by
 obtain⟨h1,h2,h3,h4,h5⟩:=h;have hl:=hb.mono h1.size;exact⟨h1.trans hl,h2.below hl,h3.below hl,h4.below hb,h5.below hb⟩
theorem Zhj.start (w0:World) {B:Nat} (a b c ra rb rc:Option Addr) (c1 c2 c3 d1 d2 d3:Nat) (p:P) (r:Res) (t t':TypeId) (hB:B≤w0.heap.size) (h:LpIn B w0 a b c p) (h':Zd8 B w0 ra rb rc r) :
  Zhj w0 a b c ra rb rc c1 c2 c3 d1 d2 d3 p r t t' ((w0.alloc (.cells #[.slice a p.A.length c1,.slice b p.B.length c2,.slice c p.C.length c3] t)).alloc
   (.cells #[.int .i64 r.status,.slice ra r.X.length d1,.slice rb r.Y.length d2,.slice rc r.ray.length d3,.int .i64 r.value.1,.int .i64 r.value.2,.int .i64 r.pivots] t')):=by
 have hb:=((Below.refl w0.heap.size w0).alloc (Nat.le_refl _) (.cells #[.slice a p.A.length c1,.slice b p.B.length c2,.slice c p.C.length c3] t)).alloc (by rw[Zar];omega) (.cells #[.int .i64 r.status,.slice ra r.X.length d1,.slice rb r.Y.length d2,.slice rc r.ray.length d3,.int .i64 r.value.1,.int .i64 r.value.2,.int .i64 r.pivots] t');obtain⟨k1,k2⟩:=Zm5 w0 (.slice a p.A.length c1) (.slice b p.B.length c2) (.slice c p.C.length c3) t t' #[.int .i64 r.status,.slice ra r.X.length d1,.slice rb r.Y.length d2,.slice rc r.ray.length d3,.int .i64 r.value.1,.int .i64 r.value.2,.int .i64 r.pivots];exact⟨hb,(h.mono hB).below hb,(h'.mono hB).below hb,k1,k2⟩
end Go.Proofs.YtpjnjidbdpfdcaaGreat
