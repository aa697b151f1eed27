/- spec.ShareOf. -/
import Derived.Test.YtpjnjidbdpfdcaaGreatPyM
import Derived.Test.YtpjnjidbdpfdcaaGreatGVb
import Derived.Test.YtpjnjidbdpfdcaaGreatCoMem
import Derived.Test.YtpjnjidbdpfdcaaGreatLkRats
import Derived.Test.YtpjnjidbdpfdcaaGreatGmA
namespace Go.Proofs.YtpjnjidbdpfdcaaGreat
open Go.RowKit
open Ve (R)
theorem Zal.other {q:Nat} {w:World} {a:Option Addr} {zs:List Int} (h:Zal w.heap.size w a zs) (hp:∀p,a=some p->p.block≠q) (i j:Nat) (u v:Value):Zal ((w.setCell ⟨q,i,none⟩ u).setCell ⟨q,j,none⟩ v).heap.size ((w.setCell ⟨q,i,none⟩ u).setCell ⟨q,j,none⟩ v) a zs:=fun k hk=>by
 obtain⟨b,o,h1,h2,h3⟩:=h k hk;have hne:b≠q:=hp _ h1;refine⟨b,o,h1,by simpa [World.setCell] using h2,?_⟩;rw[World.cell?_of_block (w:=w) (a:=⟨b,o+k,none⟩) (by rw[Below.heap_setCell _ _ _ _ hne,Below.heap_setCell _ _ _ _ hne])];exact h3
def Ze8 (p b1 k1 b2 k2:Nat) (s:R) (m:Int) (x:R) (B:World):Prop:=
 B.cell? ⟨p,0,none⟩=some (.int .i64 s.1)/\B.cell? ⟨p,1,none⟩=some (.int .i64 s.2)/\B.cell? ⟨b1,k1,none⟩=some (.int .i64 m)/\B.cell? ⟨b2,k2,none⟩=some (.int .i64 x.1)/\B.cell? ⟨b2,k2+1,none⟩=some (.int .i64 x.2)/\p<B.heap.size/\b1<B.heap.size/\b2<B.heap.size
theorem Ze8.all {p b1 k1 b2 k2:Nat} {s:R} {m:Int} {x:R} {B wx:World} (H:Hid (Ze8 p b1 k1 b2 k2 s m x B)) (h:Since B wx) :
  wx.cell? ⟨p,0,none⟩=some (.int .i64 s.1)/\wx.cell? ⟨p,1,none⟩=some (.int .i64 s.2)/\wx.cell? ⟨b1,k1,none⟩=some (.int .i64 m)/\wx.cell? ⟨b2,k2,none⟩=some (.int .i64 x.1)/\wx.cell? ⟨b2,k2+1,none⟩=some (.int .i64 x.2)/\Since B wx:=
 have k:=H.out
 ⟨h.cell (p:=⟨p,0,none⟩) k.2.2.2.2.2.1 k.1,h.cell (p:=⟨p,1,none⟩) k.2.2.2.2.2.1 k.2.1,h.cell (p:=⟨b1,k1,none⟩) k.2.2.2.2.2.2.1 k.2.2.1,h.cell (p:=⟨b2,k2,none⟩) k.2.2.2.2.2.2.2 k.2.2.2.1,h.cell (p:=⟨b2,k2+1,none⟩) k.2.2.2.2.2.2.2 k.2.2.2.2.1,h⟩
set_option maxRecDepth 100000 in
set_option maxHeartbeats 4000000 in
theorem Zeq {w:World} {v:Value} {x:List R} (s:Int) (h:Za8 w v x) (_hf:x.length≤1048576) :
  Calls Tryz.prog 67 #[v,.int .i64 s] w (Zdq (Py.share x s).1 (Py.share x s).2 w):=by
 obtain⟨a,c,rfl,hi⟩:=h
 rcases hg:Co.good s with _|_
 ·rw[Py.Zhe hg]
  have hs:=Co.Zlx hg;clear hg hi
  by_cases h0:s<0
  ·have d0:decide (s<0)=true:=by rw[decide_eq_true_iff];exact h0
   clear hs h0
   go_enter Tryz.func67,Tryz.ntmps67
   go_wp2_with fail
   refine (Za2 0 _).mono ?_;rintro e w1 ⟨rfl,hb1⟩;have hR:=(((Zaj.new w (0,0)).below hb1).alloc (.cells #[.int .i64 0,.int .i64 1] 35));have Hb1:=zH ((low1 hb1).alloc (low1 hb1).size (.cells #[.int .i64 0,.int .i64 1] 35));obtain⟨r0,r1,f0,f1⟩:=hR.four;clear hb1 hR
   go_wp2_with fail
   have hz:=Zae (x:=.int .i64 0) (y:=.int .i64 0) r0 r1;exact bodyPost_ret (v:=.tuple #[.agg #[.int .i64 0,.int .i64 0],.bool false]) (by simp[results,Tryz.results67,go_sem,hz.1,hz.2]) rfl ⟨rfl,(Hb1.out.setCell (p:=⟨w.heap.size,0,none⟩) (Nat.le_refl _) _).setCell (p:=⟨w.heap.size,1,none⟩) (Nat.le_refl _) _⟩
  ·have d0:decide (s<0)=false:=by rw[decide_eq_false_iff_not];exact h0
   have d1:decide (31<s)=true:=by rw[decide_eq_true_iff];omega
   clear hs h0
   go_enter Tryz.func67,Tryz.ntmps67
   go_wp2_with fail
   refine (Za2 0 _).mono ?_;rintro e w1 ⟨rfl,hb1⟩;have hR:=(((Zaj.new w (0,0)).below hb1).alloc (.cells #[.int .i64 0,.int .i64 1] 35));have Hb1:=zH ((low1 hb1).alloc (low1 hb1).size (.cells #[.int .i64 0,.int .i64 1] 35));obtain⟨r0,r1,f0,f1⟩:=hR.four;clear hb1 hR
   go_wp2_with fail
   have hz:=Zae (x:=.int .i64 0) (y:=.int .i64 0) r0 r1;exact bodyPost_ret (v:=.tuple #[.agg #[.int .i64 0,.int .i64 0],.bool false]) (by simp[results,Tryz.results67,go_sem,hz.1,hz.2]) rfl ⟨rfl,(Hb1.out.setCell (p:=⟨w.heap.size,0,none⟩) (Nat.le_refl _) _).setCell (p:=⟨w.heap.size,1,none⟩) (Nat.le_refl _) _⟩
 ·rw[Py.Zd1 hg]
  have hs:=Co.Zg2 hg;have d0:decide (s<0)=false:=by rw[decide_eq_false_iff_not];omega
  have d1:decide (31<s)=false:=by rw[decide_eq_false_iff_not];omega
  obtain⟨Z,hZ⟩:∃Z,Py.run x (0,1) (Co.mem s 5)=Z:=⟨_,rfl⟩;rw[hZ];have HZ:=zH hZ;have Hme:=zH (show memR s=Co.mem s 5 by unfold memR;rw[hg];rfl);have Hbd:=zH (Co.Zj2 s 5);have hml:=Co.Zfn s 5;have HI:=zH hi;clear hg hs hZ hi
  go_enter Tryz.func67,Tryz.ntmps67
  go_wp2_with fail
  refine (Za2 0 _).mono ?_;rintro e w1 ⟨rfl,hb1⟩;have HR1:=zH (((Zaj.new w (0,0)).below hb1).alloc (.cells #[.int .i64 0,.int .i64 1] 35));have HS1:=zH (Zaj.new w1 (0,1));have Hb1:=zH ((low1 hb1).alloc (low1 hb1).size (.cells #[.int .i64 0,.int .i64 1] 35));have hlt1:w.heap.size<w1.heap.size:=by have:=hb1.size;rw[Zar] at this;exact this
  clear hb1
  go_wp2_with fail
  refine (Zga s _).mono ?_;rintro e w2 ⟨u,rfl,ho,hb2⟩;rw[Hme.out] at ho;have HR2:=zH (HR1.out.below hb2);have HS2:=zH (HS1.out.below hb2);have HB2:=zH (Hb1.out.trans (hb2.mono Hb1.out.size));generalize Co.mem s 5=ms at *;obtain⟨b,cb,rfl,hu,hpl,_⟩:=Zbb ho;have HU2:Hid (Zal w2.heap.size w2 b ms/\∀p,b=some p->p.block≠w1.heap.size):=⟨Zal.Zdl hu fun p hp=>(hpl p hp).2,fun p hp=>by have:=(hpl p hp).1;rw[Zar] at this;omega⟩;clear ho hb2 hu hpl HR1 HS1 Hb1 Hme
  go_wp2_with fail
  go_loopg [8] ms.length (fun gk i wr=>∃(k:Nat) (acc:R),gk+k=ms.length/\i=.int .i64 k/\Hid (Zaj wr w.heap.size (0,0))/\Hid (Zaj wr w1.heap.size acc)/\Hid (Py.run x acc (ms.drop k)=Z)/\Hid (Zal wr.heap.size wr b ms/\∀p,b=some p->p.block≠w1.heap.size)/\Hid (Below w.heap.size w wr))
  case atStart=>exact⟨0,(0,1),by omega,rfl,HR2,HS2,by show Py.run x (0,1) (ms.drop 0)=Z;rw[List.drop_zero];exact HZ.out,HU2,HB2⟩
  case round=>
   obtain⟨k,acc,hk,rfl,hR,hS,hE,hU,hB⟩:=hrel;clear HR2 HS2 HU2 HB2 HZ
   by_cases hlt:k<ms.length
   ·obtain⟨b1,o1,rfl,l1,p0⟩:=hU.out.1 k hlt
    have hm:=Hbd.out (ms.getD k 0) (by rw[List.getD_eq_getElem?_getD,List.getElem?_eq_getElem hlt];exact List.getElem_mem hlt);have hdr:ms.drop k=ms.getD k 0::ms.drop (k+1):=by rw[List.drop_eq_getElem_cons hlt,List.getD_eq_getElem?_getD,List.getElem?_eq_getElem hlt];rfl
    have HE:=zH hE.out;rw[hdr] at HE;obtain⟨j,hj⟩:∃j:Nat,ms.getD k 0=(j:Int):=⟨(ms.getD k 0).toNat,by omega⟩;rw[hj] at HE p0 hm;obtain⟨s0,s1,_,_⟩:=hS.out.four;have hsz:=hB.out.size;have Hj:=zH hk;clear hdr hj hk hE
    by_cases hin:j<x.length
    ·have d2:decide ((x.length:Int)≤(j:Int))=false:=by rw[decide_eq_false_iff_not];omega
     obtain⟨b2,o2,rfl,l2,q0,q1⟩:=(HI.out.below hB.out).at j hin;have HQ:Hid (Ze8 w1.heap.size b1 (o1+k) b2 (o2+j*2) acc (j:Int) (Ve.at_ x j) wr):=⟨s0,s1,p0,q0,q1,hS.out.lt,l1,by omega⟩;have Hno:=zH (fun h=>(Py.Zov (x:=x) (acc:=acc) (r:=ms.drop (k+1)) hin h));have Hyes:=zH (fun h=>(Py.Zmt (x:=x) (acc:=acc) (r:=ms.drop (k+1)) hin h));have hx0:=Since.refl wr;clear hm;generalize Ve.at_ x j=y at *
     go_upto_region 10 with (fail)
     go_cut [9,10] (fun p b wx=>Got wr (Ve.addR acc y).1 (Ve.addR acc y).2 (Ve.addK acc y) p b wx)
     case first=>
      go_region_held3 (fun w'=>w'.cell? ⟨w1.heap.size,0,none⟩=some (.int .i64 acc.1)/\w'.cell? ⟨w1.heap.size,1,none⟩=some (.int .i64 acc.2)/\w'.cell? ⟨b1,o1+k,none⟩=some (.int .i64 (j:Int))/\w'.cell? ⟨b2,o2+j*2,none⟩=some (.int .i64 y.1)/\w'.cell? ⟨b2,o2+j*2+1,none⟩=some (.int .i64 y.2)/\Since wr w') (first|exact Ze8.all HQ (by assumption) | exact Ze8.all HQ (Since.drew (by assumption)) | exact Ze8.all HQ (Own2.since (by assumption)) | exact Ze8.all HQ (Since.drew (Own2.since (by assumption))) | exact Ze8.all HQ (Since.alloc (by assumption) _) | exact Ze8.all HQ (Since.drew (Since.alloc (by assumption) _)) | exact Ze8.all HQ (Own2.set2 (by assumption) _ _) | exact Ze8.all HQ (Since.drew (Own2.set2 (by assumption) _ _)))
       (first | (go_at_call 35;refine (Zb4 (Zhh acc y _) (B:=wr) (x:=.int .i64 0) (y:=.int .i64 0) (t:=35) (by first|assumption|exact Own2.drew (by assumption) | exact Since.new (by assumption) _ _ _|exact Own2.drew (Since.new (by assumption) _ _ _))).mono ?_;rintro e w' ⟨⟨rfl,_⟩,hin3⟩;obtain⟨z0,z1,f0,f1⟩:=Own2.own hin3) | (go_at_call 35;refine (Zbd (Zhh acc y _) (B:=wr) (by first|assumption|exact Since.drew (by assumption))).mono ?_;rintro e w' ⟨⟨rfl,_⟩,hin2⟩))
      all_goals
       go_wp2_with fail
       go_meet
       first
       | exact Got.last (by assumption) _ _ _ _
       | exact Got.set (by assumption) _ _ _
       | exact Got.drew (Got.last (by assumption) _ _ _ _)
       | exact Got.drew (Got.set (by assumption) _ _ _)
     case rest=>
      obtain⟨q,rfl,rfl,m0,m1,hq,hqh,hs1⟩:=hcut;have HB1:=zH (hB.out.trans (hs1.low.mono hsz));have HR1:=zH (hR.out.since hs1);have HS1:=zH (hS.out.since hs1);have HU1:=zH (And.intro ((hU.out.1.below hs1.low).mono hs1.low.size) hU.out.2);clear hs1 hx0 HQ p0 q0 q1 hR hS hB hU s0 s1;generalize hak:Ve.addK acc y=ak at *;cases ak with
      | false=>
       have HF:=zH (HE.out.symm.trans (Hno.out rfl));obtain⟨r0,r1,f0,f1⟩:=HR1.out.four;clear Hno Hyes HE hak m0 m1
       go_wp2_with fail
       have hz:=Zae (x:=.int .i64 0) (y:=.int .i64 0) r0 r1;rw[HF.out];exact bodyPost_ret (v:=.tuple #[.agg #[.int .i64 0,.int .i64 0],.bool false]) (by simp[results,Tryz.results67,go_sem,hz.1,hz.2]) rfl ⟨rfl,(HB1.out.setCell (p:=⟨w.heap.size,0,none⟩) (Nat.le_refl _) _).setCell (p:=⟨w.heap.size,1,none⟩) (Nat.le_refl _) _⟩
      | true=>
       have HE2:Hid (Py.run x (Ve.addR acc y) (ms.drop (k+1))=Z):=(Hyes.out rfl).symm.trans HE.out;clear Hno Hyes HE hak;generalize Ve.addR acc y=A at *;obtain⟨s0,s1,f0,f1⟩:=HS1.out.four;have HR3:=zH (HR1.out.other (q:=w1.heap.size) (by omega) 0 1 (.int .i64 A.1) (.int .i64 A.2));have HS3:=zH (HS1.out.set A);have HU3:=zH (And.intro (HU1.out.1.other HU1.out.2 0 1 (.int .i64 A.1) (.int .i64 A.2)) HU1.out.2);have HB3:=zH ((HB1.out.setCell (p:=⟨w1.heap.size,0,none⟩) (by show w.heap.size≤w1.heap.size;omega) (.int .i64 A.1)).setCell (p:=⟨w1.heap.size,1,none⟩) (by show w.heap.size≤w1.heap.size;omega) (.int .i64 A.2))
       go_wp2_with fail
       go_roundg (gk-1)
       case measure=>have:=Hj.out;omega
       case rel=>exact⟨k+1,A,by have:=Hj.out;omega,by go_num,HR3,HS3,HE2,HU3,HB3⟩
    ·have d2:decide ((x.length:Int)≤(j:Int))=true:=by rw[decide_eq_true_iff];omega
     have HF:=zH (HE.out.symm.trans (Py.Zms (by omega)));obtain⟨r0,r1,f0,f1⟩:=hR.out.four;clear HE hm s0 s1;have hin2:x.length≤j:=by omega
     go_wp2_with fail
     have hz:=Zae (x:=.int .i64 0) (y:=.int .i64 0) r0 r1;rw[HF.out];exact bodyPost_ret (v:=.tuple #[.agg #[.int .i64 0,.int .i64 0],.bool false]) (by simp[results,Tryz.results67,go_sem,hz.1,hz.2]) rfl ⟨rfl,(hB.out.setCell (p:=⟨w.heap.size,0,none⟩) (Nat.le_refl _) _).setCell (p:=⟨w.heap.size,1,none⟩) (Nat.le_refl _) _⟩
   ·have he:k=ms.length:=by omega
    have HF:Hid (Z=(acc,true)):=by show _=_;rw[<-hE.out,he,List.drop_length];rfl
    obtain⟨s0,s1,_,_⟩:=hS.out.four;obtain⟨r0,r1,f0,f1⟩:=hR.out.four;clear he hE
    go_wp2_with fail
    have hz:=Zae (x:=.int .i64 acc.1) (y:=.int .i64 acc.2) r0 r1;rw[HF.out];exact bodyPost_ret (v:=.tuple #[.agg #[.int .i64 acc.1,.int .i64 acc.2],.bool true]) (by simp[results,Tryz.results67,go_sem,hz.1,hz.2]) rfl ⟨rfl,(hB.out.setCell (p:=⟨w.heap.size,0,none⟩) (Nat.le_refl _) _).setCell (p:=⟨w.heap.size,1,none⟩) (Nat.le_refl _) _⟩
end Go.Proofs.YtpjnjidbdpfdcaaGreat
