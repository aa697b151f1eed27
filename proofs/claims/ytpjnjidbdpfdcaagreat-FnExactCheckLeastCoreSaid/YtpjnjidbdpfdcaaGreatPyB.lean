/- impl.ShareOf. -/
import Derived.Test.YtpjnjidbdpfdcaaGreatPyA
import Derived.Test.YtpjnjidbdpfdcaaGreatGVc
import Derived.Test.YtpjnjidbdpfdcaaGreatGrI
import Derived.Test.YtpjnjidbdpfdcaaGreatGRa
namespace Go.Proofs.YtpjnjidbdpfdcaaGreat
open Go.RowKit
open Ve (R)
set_option maxRecDepth 100000 in
set_option maxHeartbeats 4000000 in
theorem Zem {w:World} {v:Value} {x:List R} (s:Int) (h:Za8 w v x) (_hf:x.length≤1048576) :
  Calls Tryz.prog 72 #[v,.int .i64 s] w (Zdq (Py.share x s).1 (Py.share x s).2 w):=by
 obtain⟨a,c,rfl,hi⟩:=h
 rcases hg:Co.good s with _|_
 ·rw[Py.Zhe hg]
  have Hg:=zH hg;have HB:=zH ((Below.refl w.heap.size w).alloc (Nat.le_refl _) (.cells #[.int .i64 0,.int .i64 0] 35));have hR:=Zaj.new w (0,0);obtain⟨r0,r1,f0,f1⟩:=hR.four;clear hg hi hR
  go_enter Tryz.func72,Tryz.ntmps72
  go_wp2_with fail
  refine (Za5 s false Hg.out _).mono ?_;rintro e w1 ⟨rfl,rfl⟩
  go_wp2_with fail
  exact bodyPost_ret (v:=.tuple #[.agg #[.int .i64 0,.int .i64 0],.bool false]) (by simp[results,Tryz.results72,go_sem]) rfl ⟨rfl,HB.out⟩
 ·rw[Py.Zd1 hg]
  obtain⟨Z,hZ⟩:∃Z,Py.run x (0,1) (Co.mem s 5)=Z:=⟨_,rfl⟩;rw[hZ];have HZ:=zH hZ;have Hme:=zH (show memR s=Co.mem s 5 by unfold memR;rw[hg];rfl);have Hbd:=zH (Co.Zj2 s 5);have hml:=Co.Zfn s 5;have Hg:=zH hg;have HI:=zH hi;have HR1:=zH ((Zaj.new w (0,0)).alloc (.cells #[.int .i64 0,.int .i64 1] 35));have HS1:=zH (Zaj.new (w.alloc (.cells #[.int .i64 0,.int .i64 0] 35)) (0,1));rw[Zar] at HS1;have Hb1:=zH (((Below.refl w.heap.size w).alloc (Nat.le_refl _) (.cells #[.int .i64 0,.int .i64 0] 35)).alloc (by rw[Zar];omega) (.cells #[.int .i64 0,.int .i64 1] 35));clear hg hZ hi
  go_enter Tryz.func72,Tryz.ntmps72
  go_wp2_with fail
  refine (Za5 s true Hg.out _).mono ?_;rintro e w1 ⟨rfl,rfl⟩
  go_wp2_with fail
  refine (Zf4 s _).mono ?_;rintro e w2 ⟨u,rfl,ho,hb2⟩;rw[Hme.out] at ho;have HR2:=zH (HR1.out.below hb2);have HS2:=zH (HS1.out.below hb2);have HB2:=zH (Hb1.out.trans (hb2.mono Hb1.out.size));generalize Co.mem s 5=ms at *;obtain⟨b,cb,rfl,hu,hpl,_⟩:=Zbb ho;have HU2:Hid (Zal w2.heap.size w2 b ms/\∀p,b=some p->p.block≠w.heap.size+1):=⟨Zal.Zdl hu fun p hp=>(hpl p hp).2,fun p hp=>by have:=(hpl p hp).1;rw[Zib] at this;omega⟩;clear ho hb2 hu hpl HR1 HS1 Hb1 Hme Hg
  go_wp2_with fail
  go_loopg [7,9,18] ms.length (fun gk f _ i wr=>∃(k:Nat) (acc:R),gk+k=ms.length/\f=.bool true/\i=.int .i64 k/\Hid (Zaj wr w.heap.size (0,0))/\Hid (Zaj wr (w.heap.size+1) acc)/\Hid (Py.run x acc (ms.drop k)=Z)/\Hid (Zal wr.heap.size wr b ms/\∀p,b=some p->p.block≠w.heap.size+1)/\Hid (Below w.heap.size w wr))
  case atStart=>exact⟨0,(0,1),by omega,rfl,rfl,HR2,HS2,by show Py.run x (0,1) (ms.drop 0)=Z;rw[List.drop_zero];exact HZ.out,HU2,HB2⟩
  case round=>
   obtain⟨k,acc,hk,rfl,rfl,hR,hS,hE,hU,hB⟩:=hrel;clear HR2 HS2 HU2 HB2 HZ
   by_cases hlt:k<ms.length
   ·obtain⟨b1,o1,rfl,l1,p0⟩:=hU.out.1 k hlt
    have hm:=Hbd.out (ms.getD k 0) (by rw[List.getD_eq_getElem?_getD,List.getElem?_eq_getElem hlt];exact List.getElem_mem hlt);have hdr:ms.drop k=ms.getD k 0::ms.drop (k+1):=by rw[List.drop_eq_getElem_cons hlt,List.getD_eq_getElem?_getD,List.getElem?_eq_getElem hlt];rfl
    have HE:=zH hE.out;rw[hdr] at HE;obtain⟨j,hj⟩:∃j:Nat,ms.getD k 0=(j:Int):=⟨(ms.getD k 0).toNat,by omega⟩;rw[hj] at HE p0 hm;have hsz:=hB.out.size;have Hj:=zH hk;clear hdr hj hk hE
    by_cases hin:j<x.length
    ·have d2:decide ((x.length:Int)≤(j:Int))=false:=by rw[decide_eq_false_iff_not];omega
     have n2:(j:Int)<(x.length:Int):=by omega
     obtain⟨b2,o2,rfl,l2,q0,q1⟩:=(HI.out.below hB.out).at j hin;have Hno:=zH (fun h=>(Py.Zov (x:=x) (acc:=acc) (r:=ms.drop (k+1)) hin h));have Hyes:=zH (fun h=>(Py.Zmt (x:=x) (acc:=acc) (r:=ms.drop (k+1)) hin h));clear hm;generalize Ve.at_ x j=y at *
     go_upto_region 9 with (fail)
     obtain⟨s0,s1,f0,f1⟩:=hS.out.four;have Cell:=zH (fun w' (h:wr.grownBy w' (some (w.heap.size+1)))=>(show w'.cell? ⟨b2,o2+j*2,none⟩=some (.int .i64 y.1)/\w'.cell? ⟨b2,o2+j*2+1,none⟩=some (.int .i64 y.2)/\wr.grownBy w' (some (w.heap.size+1)) from
      ⟨Zd9 (p:=⟨b2,o2+j*2,none⟩) h (show b2<wr.heap.size by omega) (fun e=>by have:=Option.some.inj e;simp at this;omega) q0,Zd9 (p:=⟨b2,o2+j*2+1,none⟩) h (show b2<wr.heap.size by omega) (fun e=>by have:=Option.some.inj e;simp at this;omega) q1,h⟩))
     have hg0:wr.grownBy wr.drew (some (w.heap.size+1)):=Zly (World.grownBy.refl _ _);clear q0 q1 p0;refine wp_region_held_drew (S:=fun w'=>w'.cell? ⟨b2,o2+j*2,none⟩=some (.int .i64 y.1)/\w'.cell? ⟨b2,o2+j*2+1,none⟩=some (.int .i64 y.2)/\wr.grownBy w' (some (w.heap.size+1))) (by kernel_rfl) ?_ (fun hHeld=>?_)
     ·exact Cell.out _ hg0
     refine tk1 1 ⟨some 29,_,36,_,_,none⟩ ?_;refine tk1 2 ⟨some 30,_,3,_,_,none⟩ ?_;refine tk1 3 ⟨some 31,_,0,_,_,none⟩ ?_;refine tk1 4 ⟨some 32,_,35,_,_,none⟩ ?_
     try simp only[Act.put,zA,zB,zC]
     refine rd1 0 ⟨some 28,_,35,_,_,none⟩ fun K hK=>?_
     go_simp
     skip
     refine hK.out _ _ ?_ (fun hHeld=>?_)
     ·exact Cell.out _ hg0
     clear hK K
     try simp only[Act.put,zA,zB,zC]
     refine rd1 5 ⟨some 33,_,52,_,_,none⟩ fun K hK=>?_
     go_simp
     (go_at_call 64;refine (Zjw acc y _).mono ?_;rintro e w6 ⟨rfl,hb6⟩;have hg6:=Ze0 hg0 hb6;have hin6:=(Since.refl wr).drew.trans hb6)
     refine hK.out _ _ ?_ (fun hHeld=>?_)
     ·exact Cell.out _ hg6
     clear hK K
     try simp only[Act.put,zA,zB,zC]
     have HB1:=zH (hB.out.trans (hin6.low.mono hsz));have HR1:=zH (hR.out.since hin6);have HS1:=zH (hS.out.since hin6);have HU1:=zH (And.intro ((hU.out.1.below hin6.low).mono hin6.low.size) hU.out.2);clear hin6 hb6 hR hS hB hU s0 s1 f0 f1;obtain⟨s0,s1,f0,f1⟩:=HS1.out.four;generalize hA:Ve.addR acc y=A at *;generalize hak:Ve.addK acc y=ak at *;have HR3:=zH (HR1.out.other (q:=w.heap.size+1) (by omega) 0 1 (.int .i64 A.1) (.int .i64 A.2));have HS3:=zH (HS1.out.set A);have HU3:=zH (And.intro (HU1.out.1.other HU1.out.2 0 1 (.int .i64 A.1) (.int .i64 A.2)) HU1.out.2);have HB3:=zH ((HB1.out.setCell (p:=⟨w.heap.size+1,0,none⟩) (by show w.heap.size≤w.heap.size+1;omega) (.int .i64 A.1)).setCell (p:=⟨w.heap.size+1,1,none⟩) (by show w.heap.size≤w.heap.size+1;omega) (.int .i64 A.2));have hg9:=Zdw (Zdw hg6 0 (.int .i64 A.1)) 1 (.int .i64 A.2);clear HB1 HR1 HS1 HU1;refine tk1 6 ⟨some 27,_,52,_,_,none⟩ ?_;refine tk1 7 ⟨some 34,_,35,_,_,none⟩ ?_;refine tk1 8 ⟨some 35,_,4,_,_,none⟩ ?_
     try simp only[Act.put,zA,zB,zC]
     refine rd1 9 ⟨none,_,0,_,_,none⟩ fun K hK=>?_
     go_simp
     skip
     refine hK.out _ _ ?_ (fun hHeld=>?_)
     ·exact Cell.out _ hg9
     clear hK K;refine tk1 10 ⟨some 7,_,4,_,_,none⟩ ?_
     try simp only[Act.put,zA,zB,zC]
     refine wpAnyH_done (by kernel_rfl) ?_ _;clear Cell hg0 hg6 hg9 s0 s1 f0 f1;cases ak with
     | false=>
      have HF:=zH (HE.out.symm.trans (Hno.out rfl));obtain⟨r0,r1,f0,f1⟩:=HR3.out.four;clear Hno Hyes HE hak
      go_wp2_with fail
      have hz:=Zae (x:=.int .i64 0) (y:=.int .i64 0) r0 r1;rw[HF.out];exact bodyPost_ret (v:=.tuple #[.agg #[.int .i64 0,.int .i64 0],.bool false]) (by simp[results,Tryz.results72,go_sem,hz.1,hz.2]) rfl ⟨rfl,(HB3.out.setCell (p:=⟨w.heap.size,0,none⟩) (Nat.le_refl _) _).setCell (p:=⟨w.heap.size,1,none⟩) (Nat.le_refl _) _⟩
     | true=>
      have HE2:Hid (Py.run x A (ms.drop (k+1))=Z):=(Hyes.out rfl).symm.trans HE.out;clear Hno Hyes HE hak hA
      go_wp2_with fail
      go_roundg (gk-1)
      case measure=>have:=Hj.out;omega
      case rel=>exact⟨k+1,A,by have:=Hj.out;omega,rfl,by go_num,HR3,HS3,HE2,HU3,HB3⟩
    ·have d2:decide ((x.length:Int)≤(j:Int))=true:=by rw[decide_eq_true_iff];omega
     have HF:=zH (HE.out.symm.trans (Py.Zms (by omega)));obtain⟨r0,r1,f0,f1⟩:=hR.out.four;clear HE hm;have hin2:x.length≤j:=by omega
     go_wp2_with fail
     have hz:=Zae (x:=.int .i64 0) (y:=.int .i64 0) r0 r1;rw[HF.out];exact bodyPost_ret (v:=.tuple #[.agg #[.int .i64 0,.int .i64 0],.bool false]) (by simp[results,Tryz.results72,go_sem,hz.1,hz.2]) rfl ⟨rfl,(hB.out.setCell (p:=⟨w.heap.size,0,none⟩) (Nat.le_refl _) _).setCell (p:=⟨w.heap.size,1,none⟩) (Nat.le_refl _) _⟩
   ·have he:k=ms.length:=by omega
    have HF:Hid (Z=(acc,true)):=by show _=_;rw[<-hE.out,he,List.drop_length];rfl
    obtain⟨s0,s1,_,_⟩:=hS.out.four;obtain⟨r0,r1,f0,f1⟩:=hR.out.four;clear he hE
    go_wp2_with fail
    have hz:=Zae (x:=.int .i64 acc.1) (y:=.int .i64 acc.2) r0 r1;rw[HF.out];exact bodyPost_ret (v:=.tuple #[.agg #[.int .i64 acc.1,.int .i64 acc.2],.bool true]) (by simp[results,Tryz.results72,go_sem,hz.1,hz.2]) rfl ⟨rfl,(hB.out.setCell (p:=⟨w.heap.size,0,none⟩) (Nat.le_refl _) _).setCell (p:=⟨w.heap.size,1,none⟩) (Nat.le_refl _) _⟩
end Go.Proofs.YtpjnjidbdpfdcaaGreat
