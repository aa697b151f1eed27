/- The parts WiB, TaZs, GmI, LpI1. -/
import Derived.Test.YtlohljkfphljgaaGreatHNumI
import Derived.Test.YtlohljkfphljgaaGreatGB
import Derived.Test.YtlohljkfphljgaaGreatGTo
import Derived.Test.YtlohljkfphljgaaGreatGTa
import Derived.Test.YtlohljkfphljgaaGreatHGmB
import Derived.Test.YtlohljkfphljgaaGreatGLb
import Derived.Test.YtlohljkfphljgaaGreatGRa
set_option maxRecDepth 100000
set_option maxHeartbeats 1000000
namespace Go.Proofs.YtlohljkfphljgaaGreat
open Go.RowKit
theorem Zhf (B:Nat) (a:Option Addr) (c:Nat) (l:List Int) (m:Int) (hm:0≤m) (hm':m≤1000000000000000000) (hn:l.length≤1048576) (g:Bool) (hg:Gm.within m l=g) (w:World) (h1:Zat B w a l) :
  Calls Tryz.prog 64 #[.slice a l.length c,.int .i64 m] w fun e w'=>e=.returned (.bool g)/\w=w':=by
 have H1:=zH h1;have Hg:=zH hg;clear h1 hg
 go_enter Tryz.func64,Tryz.ntmps64
 go_wp2_with fail
 go_loop [9] (fun i=>∃k:Nat,k≤l.length/\i=.int .i64 k/\Hid (∀j,j<k->decide (-m≤l.getD j 0/\l.getD j 0≤m)=true)) (fun i=>l.length-(intOf i).toNat)
 case atStart=>exact⟨0,Nat.zero_le _,rfl,fun j hj=>absurd hj (by omega)⟩
 case round=>
  obtain⟨k,hk,rfl,hA⟩:=hrel
  by_cases hlt:k<l.length
  ·obtain⟨b,o,rfl,_,hc⟩:=H1.out k hlt
   rcases hv:decide (-m≤l.getD k 0/\l.getD k 0≤m) with _|_
   ·have Hr:=zH (show false=g from (Gm.Zqj hlt hv).symm.trans Hg.out)
    generalize l.getD k 0=x at *;have Hv:=zH hv;clear hv
    go_wp2_with fail
    refine (Za6 x m false Hv.out hm hm' _).mono ?_;rintro e w1 ⟨rfl,rfl⟩
    go_wp2_with fail
    go_ret;exact⟨Zae Hr.out,rfl⟩
   ·have HA2:Hid (∀j,j<k+1->decide (-m≤l.getD j 0/\l.getD j 0≤m)=true):=fun j hj=>by
     by_cases e:j=k
     ·subst e;exact hv
     ·exact hA.out j (by omega)
    generalize l.getD k 0=x at *;have Hv:=zH hv;clear hv
    go_wp2_with fail
    refine (Za6 x m true Hv.out hm hm' _).mono ?_;rintro e w1 ⟨rfl,rfl⟩
    go_wp2_with fail
    go_round
    case rel=>exact⟨k+1,by omega,by go_num,HA2⟩
    case measure=>simp[intOf];omega
  ·have Hr:=zH (show true=g by rw[<-Hg.out];exact (Gm.Znf fun j hj=>hA.out j (by omega)).symm)
   go_wp2_with fail
   go_ret;exact⟨Zae Hr.out,rfl⟩
theorem Zf5 (B:Nat) (a:Option Addr) (c:Nat) (l:List Int) (m:Int) (hm:0≤m) (hm':m≤1000000000000000000) (hn:l.length≤1048576) (g:Bool) (hg:Gm.within m l=g) (w:World) (h1:Zat B w a l) :
  Calls Tryz.prog 64 #[.slice a l.length c,.int .i64 m] w fun e w'=>e=.returned (.bool g)/\w'=w:=(Zhf B a c l m hm hm' hn g hg w h1).mono fun _ _ ⟨h1,h2⟩=>⟨h1,h2.symm⟩
open Ve (R)
open Ta (T)
def Zkh (lo hi:Nat) (w:World) (v:Value) (t:T):Prop:=hi≤w.heap.size/\∃w0:World,w0.heap.size=hi/\Zf4 lo w0 v t/\∀k,lo≤k->k<hi->w.heap[k]? = w0.heap[k]?
theorem Zkh.rg {lo hi:Nat} {w:World} {v:Value} {t:T} (h:Zkh lo hi w v t):Rg (fun w'=>Zkh lo hi w' v t) lo hi w:=by
 obtain⟨h1,w0,e,ho,hk⟩:=h;exact⟨⟨h1,w0,e,ho,hk⟩,h1,fun w' hs hk2=>⟨Nat.le_trans h1 hs,w0,e,ho,fun k a b=>(hk2 k a b).trans (hk k a b)⟩⟩
theorem Zkh.new {lo:Nat} {w:World} {v:Value} {t:T} (h:Zf4 lo w v t):Zkh lo w.heap.size w v t:=⟨Nat.le_refl _,w,rfl,h,fun _ _ _=>rfl⟩
theorem Zkh.Zbe {lo hi:Nat} {w:World} {x y z:Value} {t:T} (h:Zkh lo hi w (.agg #[x,y,z]) t):TabC w x y z t:=by
 obtain⟨h1,w0,rfl,⟨vR,vB,e,hR,hB⟩,hk⟩:=h;injection e with e
 have e1:x=vR:=by have:=congrArg (fun q=>q[0]?) e;simpa using this
 have e2:y=vB:=by have:=congrArg (fun q=>q[1]?) e;simpa using this
 have e3:z=.int .i64 t.cols:=by have:=congrArg (fun q=>q[2]?) e;simpa using this
 subst e1 e2 e3;obtain⟨a,c1,e1,hr,_⟩:=(hR.high hk).reads;obtain⟨b,c2,e2,hb,pb,_⟩:=Zaw (hB.high hk);exact⟨a,b,c1,c2,e1,e2,rfl,hr,Zat.Zcb hb fun p hp=>(pb p hp).2⟩
open Gm (G)
theorem Zpe (n:Nat) (hn:n≤5) (w:World):Calls Tryz.prog 107 #[.int .i64 n] w fun e w'=>e=.returned (.int .i64 ((2 ^ n:Nat):Int))/\w'=w:=(Zeh n hn w).mono fun _ _ ⟨h1,h2⟩=>⟨h1,h2.symm⟩
theorem Zdb {w:World} {x y:Value} {g:G} (b:Bool) (hb:Gm.vld g=b) (h:GmC w x y g) (hf:GmOk g) :
  Calls Tryz.prog 95 #[.agg #[x,y]] w fun e w'=>e=.returned (.bool b)/\Below w.heap.size w w':=by
 obtain⟨gn,gv⟩:=g;obtain⟨a,c,rfl,rfl,hi⟩:=h;have hl:gv.length≤1048576:=hf.1;dsimp only at hi ⊢;have HBl:=zH ((Below.refl w.heap.size w).alloc (Nat.le_refl _) (.cells #[.int .i64 gn,.slice a gv.length c] 48));have HI:=zH (hi.below HBl.out);have HV:=zH hb;clear hi hb hf
 by_cases h1:1≤gn
 ·have d1:decide (1≤gn)=true:=decide_eq_true h1
  by_cases h2:gn≤5
  ·have d2:decide (gn≤5)=true:=decide_eq_true h2
   obtain⟨m,hm⟩:∃m:Nat,gn=m:=⟨gn.toNat,by omega⟩;subst hm;have HS:=zH (Ztb (g:=⟨(m:Int),gv⟩) rfl (by omega) (by omega));have hm5:m≤5:=by omega
   have hpw:2 ^ m≤32:=Nat.pow_le_pow_right (by omega) hm5;have hp1:1≤2 ^ m:=Nat.one_le_two_pow;have HC:=zH (fun W=>Zpe m hm5 W)
   by_cases hlen:gv.length=2 ^ m
   ·have HS2:=zH (HS.out.trans (decide_eq_true hlen))
    have hpos:0<gv.length:=by omega
    have heq:((gv.length:Int) == ((2 ^ m:Nat):Int))=true:=by rw[hlen];simp
    obtain⟨bb,o,rfl,_,hc⟩:=HI.out 0 hpos;rw[Nat.add_zero] at hc
    rcases hw:Gm.within 500 gv with _|_
    ·have Hr:=zH ((Gm.Zne (g:=⟨(m:Int),gv⟩) hw).symm.trans HV.out)
     have HW:=zH hw;clear hlen HS HS2 HV hw;generalize 2 ^ m=q at *
     go_enter Tryz.func95,Tryz.ntmps95
     go_wp2_with fail
     go_quiet (first | (go_at_call 107;exact Calls.quiet_of_same (HC.out _)) | (go_at_call 64;exact Calls.quiet_of_same (Zf5 w.heap.size _ c gv 500 (by decide) (by decide) hl false HW.out _ (HI.out.drewN _))))
     go_wp2_with fail
     go_ret;exact⟨Zae Hr.out,below_drewN HBl.out nq⟩
    ·have Hr:=zH ((Gm.Ztn (g:=⟨(m:Int),gv⟩) HS2.out hw).symm.trans HV.out)
     have HW:=zH hw;have Hz:Hid ((gv.getD 0 0 == 0)=b):=by
      have:=Hr.out;unfold Gm.Zxk at this;show _=_;rw[<-this,Bool.eq_iff_iff];simp
     clear hlen HS HS2 HV hw Hr;generalize 2 ^ m=q at *;generalize gv.getD 0 0=z at *
     go_enter Tryz.func95,Tryz.ntmps95
     go_wp2_with fail
     go_quiet (first | (go_at_call 107;exact Calls.quiet_of_same (HC.out _)) | (go_at_call 64;exact Calls.quiet_of_same (Zf5 w.heap.size _ c gv 500 (by decide) (by decide) hl true HW.out _ (HI.out.drewN _))))
     go_wp2_with fail
     go_ret;exact⟨Zae Hz.out,below_drewN HBl.out nq⟩
   ·have Hr:=zH ((Gm.Zg2 (g:=⟨(m:Int),gv⟩) (HS.out.trans (decide_eq_false hlen))).symm.trans HV.out)
    have heq:((gv.length:Int) == ((2 ^ m:Nat):Int))=false:=(Zfq hlen).1;clear hlen HS HV;generalize 2 ^ m=q at *
    go_enter Tryz.func95,Tryz.ntmps95
    go_wp2_with fail
    go_quiet (first | (go_at_call 107;exact Calls.quiet_of_same (HC.out _)))
    go_wp2_with fail
    go_ret;exact⟨Zae Hr.out,below_drewN HBl.out nq⟩
  ·have d2:decide (gn≤5)=false:=decide_eq_false h2
   have Hr:=zH ((Gm.Zg2 (g:=⟨gn,gv⟩) (Zry (by dsimp only;omega))).symm.trans HV.out);clear HV
   go_enter Tryz.func95,Tryz.ntmps95
   go_wp2_with fail
   go_quiet (fail)
   go_wp2_with fail
   go_ret;exact⟨Zae Hr.out,below_drewN HBl.out nq⟩
 ·have d1:decide (1≤gn)=false:=decide_eq_false h1
  have Hr:=zH ((Gm.Zg2 (g:=⟨gn,gv⟩) (Zry (by dsimp only;omega))).symm.trans HV.out);clear HV
  go_enter Tryz.func95,Tryz.ntmps95
  go_wp2_with fail
  go_quiet (fail)
  go_wp2_with fail
  go_ret;exact⟨Zae Hr.out,below_drewN HBl.out nq⟩
theorem Zk7 {w:World} {x y:Value} {g:G} (h:GmC w x y g) (hf:GmOk g) :
  Calls Tryz.prog 115 #[.agg #[x,y]] w fun e w'=>e=.returned (.int .i64 (Gm.Zga g))/\Below w.heap.size w w':=by
 rcases hv:Gm.vld g with _|_
 ·have Hg:=zH (Gm.Zsl hv)
  have HV:=zH hv;have Hb:=Zm3 h 48;have HX:=zH Hb.1;have HB:=zH Hb.2;rw[Hg.out];clear hv Hb h
  go_enter Tryz.func115,Tryz.ntmps115
  go_wp2_with fail
  refine (Zdb false HV.out HX.out hf).mono ?_;rintro e w1 ⟨rfl,k⟩;have HB1:=zH (HB.out.trans (k.mono HB.out.size));clear k
  go_wp2_with fail
  go_ret;exact⟨rfl,HB1.out⟩
 ·obtain⟨m,hm,z,hz⟩:∃m,g.v.length=m+1/\∃z,g.v.getD m 0=z:=⟨g.v.length-1,by have:=Gm.Zef hv;omega,_,rfl⟩
  have Hg:=zH (show Gm.Zga g=z by rw[Gm.Zh8 hv,hm,<-hz];rfl);have HV:=zH hv;have hi0:=h;obtain⟨a,c,rfl,e1,hi⟩:=hi0;obtain⟨bb,o,rfl,_,hc⟩:=hi m (by omega);rw[hm] at e1;subst e1;rw[hz] at hc;have HX:=zH (Zm3 h 48).1;have HB:=zH (Zm3 h 48).2;have HC:=zH (Zac.new w #[.int .i64 g.n,.slice (some ⟨bb,o,none⟩) (m+1) c] 48);have hm2:m≤1048576:=by have:=hf.1;omega
  have HK:=zH (show bb<w.heap.size/\w.cell? ⟨bb,o+m,none⟩=some (.int .i64 z) from ⟨by assumption,hc⟩);rw[Hg.out];clear hv h hi hc hm hz
  go_enter Tryz.func115,Tryz.ntmps115
  go_wp2_with fail
  refine (Zdb true HV.out HX.out hf).mono ?_;rintro e w1 ⟨rfl,k⟩;have HB1:=zH (HB.out.trans (k.mono HB.out.size));obtain⟨m0,m1⟩:=two (HC.out.below k);have hc1:w1.cell? ⟨bb,o+m,none⟩=some (.int .i64 z):=(HB1.out.cell (p:=⟨bb,o+m,none⟩) HK.out.1).trans HK.out.2;clear k
  go_wp2_with fail
  go_ret;exact⟨rfl,HB1.out⟩
open Lp (P)
theorem Zd6 (B:Nat) (a:Option Addr) (c:Nat) (l:List Int) (hn:l.length≤1048576) (g:Bool) (hg:Lp.small l=g) (w:World) (h1:Zat B w a l) :
  Calls Tryz.prog 64 #[.slice a l.length c,.int .i64 5000] w fun e w'=>e=.returned (.bool g)/\w=w':=
 Zhf B a c l 5000 (by decide) (by decide) hn g hg w h1
theorem Zl8 {p:P} (h:¬(p.C.length≤70/\p.A.length≤8/\p.B.length=p.A.length)):Lp.vldP p=false:=by
 rw[Bool.eq_false_iff];intro h2;have:=Lp.Zas h2;exact h ⟨this.2.1,this.2.2.1,this.2.2.2.1⟩
theorem Zzt {p:P} (h:p.C.length≤70/\p.A.length≤8/\p.B.length=p.A.length) (hr:Lp.rows p=true):Lp.vldP p=(Lp.small p.B && Ve.good p.C):=by
 unfold Lp.vldP;rw[hr];simp[h.1,h.2.1,h.2.2]
theorem Zfi (B:Nat) (a b c:Option Addr) (c1 c2 c3:Nat) (p:P) (hn:Zbs p) (w:World) (hBw:B≤w.heap.size) (hz:LpIn B w a b c p) :
  Calls Tryz.prog 12 #[.agg #[.slice a p.A.length c1,.slice b p.B.length c2,.slice c p.C.length c3]] w fun e w'=>e=.returned (.bool (Lp.vldP p))/\Below w.heap.size w w':=by
 obtain⟨g,hg⟩:∃g,Lp.vldP p=g:=⟨_,rfl⟩;rw[hg];have HN:=zH hn;have hb:=(Below.refl w.heap.size w).alloc (Nat.le_refl _) (.cells #[.slice a p.A.length c1,.slice b p.B.length c2,.slice c p.C.length c3] 28);have hx:=Tri.new w (.slice a p.A.length c1) (.slice b p.B.length c2) (.slice c p.C.length c3) 28;have Hz:=zH ((hz.mono hBw).below hb);have Hb:=zH hb;have Hx:=zH hx;have Hg:=zH hg;have hA:=hn.A;have hB:=hn.B;have hC:=hn.C;clear hz hn hb hx hg
 by_cases q1:p.C.length≤70
 ·have hq1:decide ((p.C.length:Int)>70)=false:=by rw[decide_eq_false_iff_not];omega
  by_cases q2:p.A.length≤8
  ·have hq2:decide ((p.A.length:Int)>8)=false:=by rw[decide_eq_false_iff_not];omega
   by_cases q3:p.B.length=p.A.length
   ·have Hsz:=zH (And.intro q1 (And.intro q2 q3))
    have hq3:((p.B.length:Int) != (p.A.length:Int))=false:=by rw[q3];simp
    clear q3
    go_enter Tryz.func12,Tryz.ntmps12
    go_wp2_with fail
    go_loop [27] (fun i=>∃k:Nat,k≤p.A.length/\i=.int .i64 k/\Hid (∀j,j<k->rowOk p j=true)) (fun i=>p.A.length-(intOf i).toNat)
    case atStart=>exact⟨0,Nat.zero_le _,rfl,fun j hj=>absurd hj (by omega)⟩
    case round=>
     obtain⟨k,hk,rfl,hOk⟩:=hrel
     by_cases hlt:k<p.A.length
     ·obtain⟨b1,o1,a',c',rfl,hb1,hcell,hN⟩:=Hz.out.mA k hlt
      have HNr:=zH hN;have hrl:=HN.out.row k hlt;clear hN
      by_cases hl:(rw_ p.A k).length=p.C.length
      ·have hnl:(((rw_ p.A k).length:Int) != (p.C.length:Int))=false:=by rw[hl];simp
       rcases hs:Lp.small (rw_ p.A k) with _|_
       ·have Hr:=zH (show false=g from (Zka hlt (by unfold rowOk;rw[hs];simp)).symm.trans Hg.out)
        have Hs:=zH hs;clear hs hl
        go_wp2_with fail
        refine (Zd6 w.heap.size a' c' (rw_ p.A k) hrl false Hs.out _ HNr.out).mono ?_;rintro e w1 ⟨rfl,rfl⟩
        go_wp2_with fail
        go_ret;exact⟨Zae Hr.out,Hb.out⟩
       ·have HOk2:Hid (∀j,j<k+1->rowOk p j=true):=fun j hj=>by
         by_cases e:j=k
         ·subst e;unfold rowOk;rw[hs];simp[hl]
         ·exact hOk.out j (by omega)
        have Hs:=zH hs;clear hs hl
        go_wp2_with fail
        refine (Zd6 w.heap.size a' c' (rw_ p.A k) hrl true Hs.out _ HNr.out).mono ?_;rintro e w1 ⟨rfl,rfl⟩
        go_wp2_with fail
        go_round
        case rel=>exact⟨k+1,by omega,by go_num,HOk2⟩
        case measure=>simp[intOf];omega
      ·obtain⟨l1,l2⟩:=Zfq hl
       have Hr:=zH (show false=g from (Zka hlt (by unfold rowOk;simp[hl])).symm.trans Hg.out)
       go_wp2_with fail
       go_ret;exact⟨Zae Hr.out,Hb.out⟩
     ·have Hrest:=zH ((Zzt Hsz.out (Zpv fun j hj=>hOk.out j (by omega))).symm.trans Hg.out)
      rcases q4:Lp.small p.B with _|_
      ·have Hr:Hid (false=g):=by show _=_;rw[<-Hrest.out,q4];rfl
       have Q4:=zH q4;clear q4
       go_wp2_with fail
       refine (Zd6 w.heap.size b c2 p.B hB false Q4.out _ Hz.out.mB).mono ?_;rintro e w1 ⟨rfl,rfl⟩
       go_wp2_with fail
       go_ret;exact⟨Zae Hr.out,Hb.out⟩
      ·have Hr:Hid (Ve.good p.C=g):=by show _=_;rw[<-Hrest.out,q4];rfl
       have Q4:=zH q4;clear q4
       go_wp2_with fail
       refine (Zd6 w.heap.size b c2 p.B hB true Q4.out _ Hz.out.mB).mono ?_;rintro e w1 ⟨rfl,rfl⟩
       go_wp2_with fail
       refine (Zem w.heap.size c c3 p.C hC _ Hb.out.size Hz.out.mC).mono ?_;rintro e w1 ⟨rfl,hb1⟩;have Hb1:=zH (Hb.out.trans (hb1.mono Hb.out.size));rw[Hr.out];clear hb1
       go_wp2_with fail
       go_ret;exact⟨rfl,Hb1.out⟩
   ·have Hr:Hid (false=g):=(Zl8 fun h=>q3 h.2.2).symm.trans Hg.out
    obtain⟨l1,l2⟩:=Zfq q3
    go_enter Tryz.func12,Tryz.ntmps12
    go_wp2_with fail
    go_ret;exact⟨Zae Hr.out,Hb.out⟩
  ·have Hr:Hid (false=g):=(Zl8 fun h=>q2 h.2.1).symm.trans Hg.out
   have hq2:decide ((p.A.length:Int)>8)=true:=by rw[decide_eq_true_iff];omega
   go_enter Tryz.func12,Tryz.ntmps12
   go_wp2_with fail
   go_ret;exact⟨Zae Hr.out,Hb.out⟩
 ·have Hr:Hid (false=g):=(Zl8 fun h=>q1 h.1).symm.trans Hg.out
  have hq1:decide ((p.C.length:Int)>70)=true:=by rw[decide_eq_true_iff];omega
  go_enter Tryz.func12,Tryz.ntmps12
  go_wp2_with fail
  go_ret;exact⟨Zae Hr.out,Hb.out⟩
end Go.Proofs.YtlohljkfphljgaaGreat
