/- The parts LpB, LpB2, LpC, LpD. -/
import Derived.Test.YtpjnjidbdpfdcaaGreatGLa
import Derived.Test.YtpjnjidbdpfdcaaGreatGVa
import Derived.Test.YtpjnjidbdpfdcaaGreatGVb
set_option maxRecDepth 100000
set_option maxHeartbeats 2000000
namespace Go.Proofs.YtpjnjidbdpfdcaaGreat
open Go.RowKit
open Ve (R)
open Lp (P)
theorem Zn5 {l:List Int} {k:Nat} (hk:k<l.length) (h:decide (-5000≤l.getD k 0/\l.getD k 0≤5000)=false):Lp.small l=false:=by
 rw[Bool.eq_false_iff];intro h2;unfold Lp.small at h2;rw[List.all_eq_true] at h2;have:=h2 _ (List.getElem_mem hk);rw[List.getD_eq_getElem?_getD,List.getElem?_eq_getElem hk] at h;simp only[Option.getD_some] at h;rw[h] at this;cases this
theorem Zmy {l:List Int} (h:∀k,k<l.length->decide (-5000≤l.getD k 0/\l.getD k 0≤5000)=true):Lp.small l=true:=by
 unfold Lp.small;rw[List.all_eq_true];intro x hx;obtain⟨k,hk,rfl⟩:=List.getElem_of_mem hx;have:=h k hk;rw[List.getD_eq_getElem?_getD,List.getElem?_eq_getElem hk] at this;exact this
theorem Zc1 (B:Nat) (a:Option Addr) (c:Nat) (l:List Int) (hn:l.length≤1048576) (g:Bool) (hg:Lp.small l=g) (w:World) (h1:Zal B w a l) :
  Calls Tryz.prog 53 #[.slice a l.length c] w fun e w'=>e=.returned (.bool g)/\w=w':=by
 have H1:=zH h1;have Hg:=zH hg;clear h1 hg
 go_enter Tryz.func53,Tryz.ntmps53
 go_wp2_with fail
 go_loop [3] (fun i=>∃k:Nat,k≤l.length/\i=.int .i64 k/\Hid (∀j,j<k->decide (-5000≤l.getD j 0/\l.getD j 0≤5000)=true)) (fun i=>l.length-(intOf i).toNat)
 case atStart=>exact⟨0,Nat.zero_le _,rfl,fun j hj=>absurd hj (by omega)⟩
 case round=>
  obtain⟨k,hk,rfl,hA⟩:=hrel
  by_cases hlt:k<l.length
  ·obtain⟨b,o,rfl,_,hc⟩:=H1.out k hlt
   rcases hv:decide (-5000≤l.getD k 0/\l.getD k 0≤5000) with _|_
   ·have Hr:=zH (show false=g from (Zn5 hlt hv).symm.trans Hg.out)
    generalize l.getD k 0=x at *;have Hv:=zH hv;clear hv
    go_wp2_with fail
    refine (Zap x (-5000) 5000 false Hv.out _).mono ?_;rintro e w1 ⟨rfl,rfl⟩
    go_wp2_with fail
    go_ret;exact⟨Zac Hr.out,rfl⟩
   ·have HA2:Hid (∀j,j<k+1->decide (-5000≤l.getD j 0/\l.getD j 0≤5000)=true):=fun j hj=>by
     by_cases e:j=k
     ·subst e;exact hv
     ·exact hA.out j (by omega)
    generalize l.getD k 0=x at *;have Hv:=zH hv;clear hv
    go_wp2_with fail
    refine (Zap x (-5000) 5000 true Hv.out _).mono ?_;rintro e w1 ⟨rfl,rfl⟩
    go_wp2_with fail
    go_round
    case rel=>exact⟨k+1,by omega,by go_num,HA2⟩
    case measure=>simp[intOf];omega
  ·have Hr:=zH (show true=g by rw[<-Hg.out];exact (Zmy fun j hj=>hA.out j (by omega)).symm)
   go_wp2_with fail
   go_ret;exact⟨Zac Hr.out,rfl⟩
theorem Zh0 (B:Nat) (a:Option Addr) (c:Nat) (l:List Int) (hn:l.length≤1048576) (g:Bool) (hg:Lp.small l=g) (w:World) (h1:Zal B w a l) :
  Calls Tryz.prog 53 #[.slice a l.length c] w fun e w'=>e=.returned (.bool g)/\w'=w:=(Zc1 B a c l hn g hg w h1).mono fun _ _ ⟨h1,h2⟩=>⟨h1,h2.symm⟩
theorem rows_row (p:P) (k:Nat):Lp.row p k=rw_ p.A k:=rfl
def rowOk (p:P) (k:Nat):Bool:=decide ((rw_ p.A k).length=p.C.length) && Lp.small (rw_ p.A k)
theorem Ze3 {p:P} {k:Nat} (hk:k<p.A.length) (h:rowOk p k=false):Lp.vldP p=false:=by
 rw[Bool.eq_false_iff];intro h2;have h3:=Lp.Zmp (Lp.Zbk h2).1 hk;unfold rowOk at h;rw[<-rows_row] at h;simp[h3] at h
theorem Zh9 {p:P} (h:∀k,k<p.A.length->rowOk p k=true):Lp.rows p=true:=by
 unfold Lp.rows;rw[List.all_eq_true];intro k hk;exact h k (by simpa using hk)
theorem Zf9 (B:Nat) (a b c:Option Addr) (c1 c2 c3:Nat) (p:P) (hn:Zct p) (w:World) (hBw:B≤w.heap.size) (hz:LpIn B w a b c p) :
  Calls Tryz.prog 36 #[.agg #[.slice a p.A.length c1,.slice b p.B.length c2,.slice c p.C.length c3]] w fun e w'=>e=.returned (.bool (Lp.vldP p))/\Below w.heap.size w w':=by
 obtain⟨g,hg⟩:∃g,Lp.vldP p=g:=⟨_,rfl⟩;rw[hg];have HN:=zH hn;have hb:=(Below.refl w.heap.size w).alloc (Nat.le_refl _) (.cells #[.slice a p.A.length c1,.slice b p.B.length c2,.slice c p.C.length c3] 47);have hx:=Tri.new w (.slice a p.A.length c1) (.slice b p.B.length c2) (.slice c p.C.length c3) 47;have Hz:=zH ((hz.mono hBw).below hb);have Hb:=zH hb;have Hx:=zH hx;have Hg:=zH hg;have hA:=hn.A;have hB:=hn.B;have hC:=hn.C;clear hz hn hb hx hg
 go_enter Tryz.func36,Tryz.ntmps36
 go_wp2_with fail
 go_loopw [3] (fun i wr=>∃k:Nat,k≤p.A.length/\i=.int .i64 k/\Hid (∀j,j<k->rowOk p j=true)/\Hid (∃d,wr=(w.alloc (.cells #[.slice a p.A.length c1,.slice b p.B.length c2,.slice c p.C.length c3] 47)).drewN d)) (fun i _=>p.A.length-(intOf i).toNat)
 case atStart=>exact⟨0,Nat.zero_le _,rfl,fun j hj=>absurd hj (by omega),0,rfl⟩
 case round=>
  obtain⟨k,hk,rfl,hOk,hD⟩:=hrel;have hxr:Tri wr w.heap.size (.slice a p.A.length c1) (.slice b p.B.length c2) (.slice c p.C.length c3) 47:=by obtain⟨d,rfl⟩:=hD.out;exact Hx.out
  have hzr:LpIn w.heap.size wr a b c p:=by obtain⟨d,rfl⟩:=hD.out;exact Hz.out.drewN d
  have hbr:Below w.heap.size w wr:=by obtain⟨d,rfl⟩:=hD.out;exact below_drewN Hb.out d
  have Hzr:=zH hzr;have Hbr:=zH hbr;obtain⟨x0,x1,x2,_⟩:=hxr.cells;clear hxr hzr hbr
  by_cases hlt:k<p.A.length
  ·obtain⟨b1,o1,a',c',rfl,hb1,hcell,hN⟩:=Hzr.out.mA k hlt
   have HNr:=zH hN;have hrl:=HN.out.row k hlt;clear hN
   by_cases hl:(rw_ p.A k).length=p.C.length
   ·rcases hs:Lp.small (rw_ p.A k) with _|_
    ·have Hr:=zH (show false=g from (Ze3 hlt (by unfold rowOk;rw[hs];simp)).symm.trans Hg.out)
     have Hs:=zH hs;have hnl:(((rw_ p.A k).length:Int) != (p.C.length:Int))=false:=by rw[hl];simp
     clear hs hl
     go_wp2_with fail
     go_quiet (first | (go_at_call 53;exact Calls.quiet_of_same (Zh0 w.heap.size a' c' (rw_ p.A k) hrl false Hs.out _ (HNr.out.drewN _))))
     go_wp2_with fail
     go_ret;exact⟨Zac Hr.out,below_drewN Hbr.out nq⟩
    ·have HOk2:Hid (∀j,j<k+1->rowOk p j=true):=fun j hj=>by
      by_cases e:j=k
      ·subst e;unfold rowOk;rw[hs];simp[hl]
      ·exact hOk.out j (by omega)
     have Hs:=zH hs;have hnl:(((rw_ p.A k).length:Int) != (p.C.length:Int))=false:=by rw[hl];simp
     clear hs hl
     go_wp2_with fail
     go_quiet (first | (go_at_call 53;exact Calls.quiet_of_same (Zh0 w.heap.size a' c' (rw_ p.A k) hrl true Hs.out _ (HNr.out.drewN _))))
     go_wp2_with fail
     go_roundw
     case rel=>exact⟨k+1,by omega,by go_num,HOk2,by obtain⟨d,rfl⟩:=hD.out;exact⟨d+nq,by simp[Nat.add_comm]⟩⟩
     case measure=>simp[intOf];omega
   ·obtain⟨l1,l2⟩:=Zen hl
    have Hr:=zH (show false=g from (Ze3 hlt (by unfold rowOk;simp[hl])).symm.trans Hg.out)
    go_wp2_with fail
    go_quiet (fail)
    go_wp2_with fail
    go_ret;exact⟨Zac Hr.out,below_drewN Hbr.out nq⟩
  ·have hk':k=p.A.length:=by omega
   have Hrows:=zH (Zh9 (p:=p) fun j hj=>hOk.out j (by omega));clear hOk hk';have low:∀b:Bool,(decide (p.C.length≤70) && (decide (p.A.length≤8) && (decide (p.B.length=p.A.length) && (Lp.small p.B && Ve.good p.C))))=b->b=g:=fun b h=>by
    rw[<-Hg.out,<-h];unfold Lp.vldP;rw[Hrows.out];rfl
   have Low:=zH low;clear low
   by_cases q1:p.C.length≤70
   ·have hq1:decide ((p.C.length:Int)≤70)=true:=by rw[decide_eq_true_iff];omega
    by_cases q2:p.A.length≤8
    ·have hq2:decide ((p.A.length:Int)≤8)=true:=by rw[decide_eq_true_iff];omega
     by_cases q3:p.B.length=p.A.length
     ·have hq3:((p.B.length:Int) == (p.A.length:Int))=true:=by rw[q3];simp
      rcases q4:Lp.small p.B with _|_
      ·have Hr:Hid (false=g):=Low.out false (by rw[q4];simp)
       have Q4:=zH q4;clear q4 q3
       go_wp2_with fail
       refine (Zc1 w.heap.size b c2 p.B hB false Q4.out _ Hzr.out.mB).mono ?_;rintro e w1 ⟨rfl,rfl⟩
       go_wp2_with fail
       go_ret;exact⟨Zac Hr.out,Hbr.out⟩
      ·have Hr:Hid (Ve.good p.C=g):=Low.out _ (by rw[q4];simp[q1,q2,q3])
       have Q4:=zH q4;clear q4 q3
       go_wp2_with fail
       refine (Zc1 w.heap.size b c2 p.B hB true Q4.out _ Hzr.out.mB).mono ?_;rintro e w1 ⟨rfl,rfl⟩
       go_wp2_with fail
       refine (Zd2 w.heap.size c c3 p.C hC _ Hbr.out.size Hzr.out.mC).mono ?_;rintro e w1 ⟨rfl,hb1⟩;have Hb1:=zH (Hbr.out.trans (hb1.mono Hbr.out.size));rw[Hr.out];clear hb1
       go_wp2_with fail
       go_ret;exact⟨rfl,Hb1.out⟩
     ·have Hr:Hid (false=g):=Low.out false (by simp[q3])
      obtain⟨l1,_⟩:=Zen q3
      go_wp2_with fail
      go_ret;exact⟨Zac Hr.out,Hbr.out⟩
    ·have Hr:Hid (false=g):=Low.out false (by simp[q2])
     have hq2:decide ((p.A.length:Int)≤8)=false:=by rw[decide_eq_false_iff_not];omega
     go_wp2_with fail
     go_ret;exact⟨Zac Hr.out,Hbr.out⟩
   ·have Hr:Hid (false=g):=Low.out false (by simp[q1])
    have hq1:decide ((p.C.length:Int)≤70)=false:=by rw[decide_eq_false_iff_not];omega
    go_wp2_with fail
    go_ret;exact⟨Zac Hr.out,Hbr.out⟩
theorem Zhx (l:List Int):(Lp.ir l).length≤l.length:=by
 unfold Lp.ir Ve.outR
 split
 ·simp
 ·simp
theorem Zk8 (B:Nat) (a b:Option Addr) (c1 c2:Nat) (l:List Int) (v:List R) (hn:l.length≤1048576) (hn2:v.length≤1048576) (w:World) (hBw:B≤w.heap.size) (h1:Zal B w a l) (h2:Zah B w b v) :
  Calls Tryz.prog 55 #[.slice a l.length c1,.slice b v.length c2] w (Zdq (Lp.idR l v) (Lp.idK l v) w):=by
 obtain⟨D,hD⟩:∃D,Lp.idR l v=D:=⟨_,rfl⟩;obtain⟨K,hK⟩:∃K,Lp.idK l v=K:=⟨_,rfl⟩;rw[hD,hK];have HD:=zH hD;have HK:=zH hK;have hb0:=(Below.refl w.heap.size w).alloc (Nat.le_refl _) (.cells #[.int .i64 0,.int .i64 0] 35);have H1:=zH ((h1.mono hBw).below hb0);have H2:=zH ((h2.mono hBw).below hb0);have Hb0:=zH hb0;have Hr0:=zH (Zaj.new w (0,0));have hil:=Zhx l;clear h1 h2 hD hK hb0
 go_enter Tryz.func55,Tryz.ntmps55
 go_wp2_with fail
 refine (Zfx w.heap.size a c1 l hn _ Hb0.out.size H1.out).mono ?_;rintro e w1 ⟨u,rfl,ho,k1⟩;rw[show Ve.outR (Ve.ofI l) l.length=Lp.ir l from rfl] at ho;rw[show Ve.allK (Ve.ofI l) l.length=Lp.irK l from rfl];obtain⟨x,cx,rfl,hx,_,_⟩:=Za1 ho;have HX:=zH hx;have Hb1:=zH (Hb0.out.trans (k1.mono Hb0.out.size));have Hr1:=zH (Hr0.out.below k1);have H21:=zH (H2.out.below (k1.mono Hb0.out.size));clear k1 ho hx;obtain⟨k,hk⟩:∃k,Lp.irK l=k:=⟨_,rfl⟩;rw[hk];have Hk:=zH hk;clear hk
 go_wp2_with fail
 refine (Zfw w1.heap.size x b cx c2 (Lp.ir l) v (by omega) hn2 _ (Nat.le_refl _) HX.out (H21.out.mono Hb1.out.size)).mono ?_;rintro e w2 ⟨rfl,k2⟩;obtain⟨d,hd⟩:∃d,Ve.dotK (Lp.ir l) v=d:=⟨_,rfl⟩;obtain⟨s,hs⟩:∃s,Ve.dotR (Lp.ir l) v=s:=⟨_,rfl⟩;rw[hd,hs];have hid:Lp.idK l v=(k && d):=by unfold Lp.idK;rw[Hk.out,hd]
 have hir:(k && d)=true->D=s:=fun h=>by
  rw[<-HD.out,(Lp.Zjv (hid.trans h)).2.2.1,hs]
 have hno:(k && d)=false->D=(0,0):=fun h=>by
  rw[<-HD.out,Lp.Zpc (hid.trans h)]
 have hKK:K=(k && d):=by rw[<-HK.out,hid]
 subst hKK;have Hyes:=zH hir;have Hno:=zH hno;have Hb2:=zH ((Hb1.out.trans (k2.mono Hb1.out.size)).alloc (Hb1.out.trans (k2.mono Hb1.out.size)).size (.cells #[.int .i64 s.1,.int .i64 s.2] 35));have hr2:=(Hr1.out.below k2).alloc (.cells #[.int .i64 s.1,.int .i64 s.2] 35);obtain⟨r0,r1,f0,f1⟩:=hr2.four;clear k2 hd hs hid hir hno hr2
 rcases k with _|_
 ·have h0:=Hno.out (by simp)
  subst h0;clear Hyes Hno
  go_wp2_with fail
  have hz:=Zae (x:=.int .i64 0) (y:=.int .i64 0) r0 r1;exact bodyPost_ret (v:=.tuple #[.agg #[.int .i64 0,.int .i64 0],.bool false]) (by simp[results,Tryz.results55,go_sem,hz.1,hz.2]) rfl ⟨rfl,(Hb2.out.setCell (p:=⟨w.heap.size,0,none⟩) (Nat.le_refl _) _).setCell (p:=⟨w.heap.size,1,none⟩) (Nat.le_refl _) _⟩
 ·rcases d with _|_
  ·have h0:=Hno.out (by simp)
   subst h0;clear Hyes Hno
   go_wp2_with fail
   have hz:=Zae (x:=.int .i64 0) (y:=.int .i64 0) r0 r1;exact bodyPost_ret (v:=.tuple #[.agg #[.int .i64 0,.int .i64 0],.bool false]) (by simp[results,Tryz.results55,go_sem,hz.1,hz.2]) rfl ⟨rfl,(Hb2.out.setCell (p:=⟨w.heap.size,0,none⟩) (Nat.le_refl _) _).setCell (p:=⟨w.heap.size,1,none⟩) (Nat.le_refl _) _⟩
  ·have h0:=Hyes.out (by simp)
   subst h0;clear Hyes Hno
   go_wp2_with fail
   have hz:=Zae (x:=.int .i64 D.1) (y:=.int .i64 D.2) r0 r1;exact bodyPost_ret (v:=.tuple #[.agg #[.int .i64 D.1,.int .i64 D.2],.bool true]) (by simp[results,Tryz.results55,go_sem,hz.1,hz.2]) rfl ⟨rfl,(Hb2.out.setCell (p:=⟨w.heap.size,0,none⟩) (Nat.le_refl _) _).setCell (p:=⟨w.heap.size,1,none⟩) (Nat.le_refl _) _⟩
def nnOk (x:R):Bool:=Ve.vld x && decide (0≤x.1)
theorem Zqo {v:List R} {k:Nat} (hk:k<v.length) (h:nnOk (Ve.at_ v k)=false):Lp.nonneg v=false:=by
 rw[Bool.eq_false_iff];intro h2;have:=Lp.Zh2 h2 hk;unfold nnOk at h;simp[this] at h
theorem Zpg {v:List R} (h:∀k,k<v.length->nnOk (Ve.at_ v k)=true):Lp.nonneg v=true:=by
 unfold Lp.nonneg;rw[List.all_eq_true];intro x hx;obtain⟨k,hk,rfl⟩:=List.getElem_of_mem hx;have:=h k hk;have e:Ve.at_ v k=v[k]:=by unfold Ve.at_;rw[List.getD_eq_getElem?_getD,List.getElem?_eq_getElem hk];rfl
 rw[e] at this;exact this
theorem Zcb (B:Nat) (a:Option Addr) (c:Nat) (v:List R) (hn:v.length≤1048576) (g:Bool) (hg:Lp.nonneg v=g) (w:World) (hBw:B≤w.heap.size) (h1:Zah B w a v) :
  Calls Tryz.prog 37 #[.slice a v.length c] w fun e w'=>e=.returned (.bool g)/\Below w.heap.size w w':=by
 have H1:=zH (h1.mono hBw);have Hg:=zH hg;clear h1 hg
 go_enter Tryz.func37,Tryz.ntmps37
 go_wp2_with fail
 go_loopw [3] (fun i wr=>∃k:Nat,k≤v.length/\i=.int .i64 k/\Hid (∀j,j<k->nnOk (Ve.at_ v j)=true)/\Hid (Below w.heap.size w wr)) (fun i _=>v.length-(intOf i).toNat)
 case atStart=>exact⟨0,Nat.zero_le _,rfl,fun j hj=>absurd hj (by omega),Below.refl _ _⟩
 case round=>
  obtain⟨k,hk,rfl,hA,hB⟩:=hrel
  by_cases hlt:k<v.length
  ·obtain⟨b,o,rfl,hbl,p0,p1⟩:=(H1.out.below hB.out).at k hlt
   have Hgood:=zH (fun (h:nnOk (Ve.at_ v k)=true)=>(fun j (hj:j<k+1)=>(show nnOk (Ve.at_ v j)=true from by
     by_cases e:j=k
     ·subst e;exact h
     ·exact hA.out j (by omega))))
   have Hbad:=zH (fun (h:nnOk (Ve.at_ v k)=false)=>(show false=g from (Zqo hlt h).symm.trans Hg.out));generalize hx:Ve.at_ v k=x at *;clear hx
   rcases hv:Ve.vld x with _|_
   ·have Hr:=zH (Hbad.out (by unfold nnOk;rw[hv];rfl))
    have Hv:=zH hv;clear hv Hgood Hbad
    go_wp2_with fail
    refine (Zaf _ _ false Hv.out _).mono ?_;rintro e w1 ⟨rfl,hb1⟩;have Hb:=zH (hB.out.trans (hb1.mono hB.out.size));clear hb1
    go_wp2_with fail
    go_ret;exact⟨Zac Hr.out,Hb.out⟩
   ·have Hv:=zH hv
    by_cases hneg:x.1<0
    ·have Hr:=zH (Hbad.out (by unfold nnOk;rw[hv];simp;omega))
     have hd:decide (x.1<0)=true:=by rw[decide_eq_true_iff];exact hneg
     clear hv Hgood Hbad
     go_wp2_with fail
     refine (Zaf _ _ true Hv.out _).mono ?_;rintro e w1 ⟨rfl,hb1⟩;have Hb:=zH (hB.out.trans (hb1.mono hB.out.size));have q0:w1.cell? ⟨b,o+k*2,none⟩=some (.int .i64 x.1):=by rw[hb1.cell (p:=⟨b,o+k*2,none⟩) (by have:=hB.out.size;show b<_;omega)];exact p0
     clear hb1
     go_wp2_with fail
     go_ret;exact⟨Zac Hr.out,Hb.out⟩
    ·have HA2:=zH (Hgood.out (by unfold nnOk;rw[hv];simp;omega))
     have hd:decide (x.1<0)=false:=by rw[decide_eq_false_iff_not];exact hneg
     clear hv Hgood Hbad
     go_wp2_with fail
     refine (Zaf _ _ true Hv.out _).mono ?_;rintro e w1 ⟨rfl,hb1⟩;have Hb:=zH (hB.out.trans (hb1.mono hB.out.size));have q0:w1.cell? ⟨b,o+k*2,none⟩=some (.int .i64 x.1):=by rw[hb1.cell (p:=⟨b,o+k*2,none⟩) (by have:=hB.out.size;show b<_;omega)];exact p0
     clear hb1
     go_wp2_with fail
     go_roundw
     case rel=>exact⟨k+1,by omega,by go_num,HA2,Hb⟩
     case measure=>simp[intOf];omega
  ·have Hr:=zH (show true=g by rw[<-Hg.out];exact (Zpg fun j hj=>hA.out j (by omega)).symm)
   go_wp2_with fail
   go_ret;exact⟨Zac Hr.out,hB.out⟩
def Zr0 (p:P) (j:Int):List Int:=if Lp.vldP p=true/\0≤j/\j<p.C.length then Lp.col p j.toNat else []
def cl (p:P) (j k:Nat):List Int:=(List.range k).map fun i=>(rw_ p.A i).getD j 0
end Go.Proofs.YtpjnjidbdpfdcaaGreat
