/- spec.BalancedLP. -/
import Derived.Test.YtjfnleilddgjiaaGreatHLkCo
import Derived.Test.YtjfnleilddgjiaaGreatHLkLpr
import Derived.Test.YtjfnleilddgjiaaGreatHGmB
import Derived.Test.YtjfnleilddgjiaaGreatHHeldT
import Derived.Test.YtjfnleilddgjiaaGreatCoA
import Derived.Test.YtjfnleilddgjiaaGreatHHeldT
namespace Go.Proofs.YtjfnleilddgjiaaGreat
open Go.RowKit
open Ve (R)
open Gm (G)
def Zi4 (q b s o k:Nat) (vC sl v:Value) (B:World):Prop:=
 B.cell? ⟨q,2,none⟩=some vC/\B.cell? ⟨b,1,none⟩=some sl/\B.cell? ⟨s,o+k,none⟩=some v/\q<B.heap.size/\b<B.heap.size/\s<B.heap.size
theorem Zi4.all {q b s o k:Nat} {vC sl v:Value} {B wx:World} (H:Hid (Zi4 q b s o k vC sl v B)) (h:Since B wx) :
  wx.cell? ⟨q,2,none⟩=some vC/\wx.cell? ⟨b,1,none⟩=some sl/\wx.cell? ⟨s,o+k,none⟩=some v/\Since B wx:=
 have k:=H.out
 ⟨h.cell (p:=⟨q,2,none⟩) k.2.2.2.1 k.1,h.cell (p:=⟨b,1,none⟩) k.2.2.2.2.1 k.2.1,h.cell (p:=⟨s,_,none⟩) k.2.2.2.2.2 k.2.2.1,h⟩
theorem LpBe.since {q:Nat} {w wr w2:World} {vA vB vC:Value} {A:List (List Int)} {B:List Int} {C:List R} (h:LpBe q w wr vA vB vC A B C) (hs:Since wr w2):LpBe q w w2 vA vB vC A B C:=h.below hs.low
theorem Zyn (b:Bool) (n:Int) (h:Cr.bit b=n) (w:World):Calls Tryz.prog 65 #[.bool b] w fun e w'=>e=.returned (.int .i64 n)/\w=w':=by
 subst h;cases b
 ·go_enter Tryz.func65,Tryz.ntmps65
  go_wp2_with fail
  go_ret;exact⟨rfl,rfl⟩
 ·go_enter Tryz.func65,Tryz.ntmps65
  go_wp2_with fail
  go_ret;exact⟨rfl,rfl⟩
set_option maxRecDepth 100000 in
set_option maxHeartbeats 4000000 in
theorem Zmf {w:World} {x y:Value} {g:G} (h:GmC w x y g) (hf:GmOk g) :
  Calls Tryz.prog 23 #[.agg #[x,y]] w (Zj6 (Cr.bal g) (Gm.vld g) w):=by
 obtain⟨gn,gv⟩:=g;obtain⟨a,c,rfl,rfl,hi⟩:=h;have hl:gv.length≤1048576:=hf.1;dsimp only at hi ⊢;obtain⟨W0,hW0⟩:∃W0,W0=w.alloc (.cells #[.int .i64 gn,.slice a gv.length c] 30):=⟨_,rfl⟩;obtain⟨W,hW⟩:∃W,W=W0.alloc (.cells #[.slice none 0 0,.slice none 0 0,.slice none 0 0] 45):=⟨_,rfl⟩;have hs0:W0.heap.size=w.heap.size+1:=by rw[hW0];exact Zao _ _
 have hb0:Below w.heap.size w W0:=by rw[hW0];exact (Below.refl _ _).alloc (Nat.le_refl _) _
 have hb1:Below W0.heap.size W0 W:=by rw[hW];exact (Below.refl _ _).alloc (Nat.le_refl _) _
 have hbox0:Zad W0 w.heap.size #[.int .i64 gn,.slice a gv.length c] 30:=by rw[hW0];exact Zad.new _ _ _
 have hbox:=hbox0.below hb1;have hgm:GmC W (.int .i64 gn) (.slice a gv.length c) ⟨gn,gv⟩:=GmC.up (GmC.up (g:=⟨gn,gv⟩) ⟨a,c,rfl,rfl,hi⟩ hb0) hb1;have hres:Tri W W0.heap.size (.slice none 0 0) (.slice none 0 0) (.slice none 0 0) 45:=by rw[hW];exact Tri.new _ _ _ _ _
 have HF:=zH hf;have HGM:=zH hgm;have HRes:=zH hres;have HBox:=zH hbox;have HBx0:=zH hbox0;have HB0:=zH hb0;have HB1:=zH hb1;have HI:=zH (hi.below hb0);have HS0:=zH hs0;have HW:Hid ((w.alloc (.cells #[.int .i64 gn,.slice a gv.length c] 30)).alloc (.cells #[.slice none 0 0,.slice none 0 0,.slice none 0 0] 45)=W):=by show _=_;rw[hW,hW0]
 clear hf hgm hres hbox hbox0 hb0 hb1 hi hs0 hW hW0
 rcases hv:Gm.vld ⟨gn,gv⟩ with _|_
 ·have HV:=zH hv
  have HE:=zH (Cr.Zpc hv);clear hv;obtain⟨b0,b1⟩:=two HBox.out
  go_enter Tryz.func23,Tryz.ntmps23
  go_upto_region 1 with fail
  rw[HW.out]
  go_wp2_with fail
  refine (Zaz false HV.out HGM.out HF.out).mono ?_;rintro e w1 ⟨rfl,k1⟩;have HR1:=zH (HRes.out.below k1);have HB2:=zH ((HB1.out.trans (k1.mono HB1.out.size)));clear k1 b0 b1;obtain⟨z0,z1,z2,f0,f1,f2⟩:=HR1.out.cells;have hs:=HS0.out;rw[hs] at z0 z1 z2 f0 f1 f2
  go_wp2_with fail
  have hF:=HR1.out;rw[hs] at hF;refine bodyPost_ret (v:=.tuple #[.agg #[.slice none 0 0,.slice none 0 0,.slice none 0 0],.bool false]) (by
   obtain⟨z0,z1,z2,_⟩:=(((hF.set0 (.slice none 0 0)).set1 (.slice none 0 0)).set2 (.slice none 0 0)).cells;revert z0 z1 z2;generalize (World.setCell _ (⟨w.heap.size+1,2,none⟩:Addr) (.slice none 0 0))=W4;intro z0 z1 z2;simp[results,Tryz.results23,go_sem,z0,z1,z2]) rfl ?_
  rw[HE.out];have hB:=HB0.out.trans (HB2.out.mono (by omega));exact⟨_,_,_,rfl,Zbj.nil _ _,World.ownsRow_nil _ _ _ _,((hB.setCell (p:=⟨w.heap.size+1,0,none⟩) (Nat.le_succ _) _).setCell (p:=⟨w.heap.size+1,1,none⟩) (Nat.le_succ _) _).setCell (p:=⟨w.heap.size+1,2,none⟩) (Nat.le_succ _) _⟩
 ·have HV:=zH hv
  have hn:=Gm.Zhz hv;have hlen:=Gm.Zcu hv;dsimp only at hn hlen;obtain⟨m,rfl⟩:∃m:Nat,gn=m:=⟨gn.toNat,by omega⟩;have hm5:m≤5:=by omega
  have hm1:1≤m:=by omega
  have HBd:=zH (fun k (hk:k<gv.length)=>Gm.Ziy hv (k:=k) hk);have HE:Hid (Cr.bal ⟨(m:Int),gv⟩=⟨Cr.Zdb (gv.length-1) m,Cr.Zcs m,Cr.cost ⟨(m:Int),gv⟩ (gv.length-1)⟩):=by
   show _=_;rw[Cr.Zkw hv];unfold Cr.lp;simp
  dsimp only at HBd;have hCz:Cr.cost ⟨(m:Int),gv⟩ 0 = []:=rfl;have HCm:Hid (∀k,1≤k->Cr.cost ⟨(m:Int),gv⟩ k=Cr.cost ⟨(m:Int),gv⟩ (k-1)++[(-(gv.getD k 0),1)]):=fun k hk=>by
   have h:=Cr.Zpn ⟨(m:Int),gv⟩ (k-1);rw[show k-1+1=k by omega] at h;exact h
  have HCl:Hid (∀k,(Cr.cost ⟨(m:Int),gv⟩ k).length=k):=fun k=>Cr.Zb1 _ k
  generalize Cr.cost ⟨(m:Int),gv⟩=CF at *;have HCz:=zH hCz;clear hn hv hCz;obtain⟨b0,b1⟩:=two HBox.out
  go_enter Tryz.func23,Tryz.ntmps23
  go_upto_region 1 with fail
  rw[HW.out]
  go_wp2_with fail
  refine (Zaz true HV.out HGM.out HF.out).mono ?_;rintro e w1 ⟨rfl,k1⟩;have hR1:=HRes.out.below k1;have hlr:=Zab hR1;have HBx1:=zH (HBox.out.below k1);have HS1:Hid (LpBe w1.heap.size W0 (w1.alloc (.cells #[.slice none 0 0,.slice none 0 0,.slice none 0 0] 45)) (.slice none 0 0) (.slice none 0 0) (.slice none 0 0) [] [] (CF 0)):=
   ⟨hlr,Tri.new w1 _ _ _ _,hR1.more _,Zbj.nil _ _,by rw[HCz.out];exact World.ownsRow_nil _ _ _ _,(HB1.out.trans (k1.mono HB1.out.size)).alloc (by omega) _⟩
  have HBx2:=zH (HBx1.out.more (.cells #[.slice none 0 0,.slice none 0 0,.slice none 0 0] 45));have HNw1:=zH ((HI.out.below ((HB1.out.trans (k1.mono HB1.out.size)).mono (by have:=HS0.out;omega))));clear b0 b1 k1 hR1 hlr HRes HBox HB1 HGM HF HBx1
  go_wp2_with fail
  generalize w1.heap.size=q at *;generalize w1.alloc (.cells #[.slice none 0 0,.slice none 0 0,.slice none 0 0] 45)=w2 at *;obtain⟨b0,b1⟩:=two HBx2.out
  go_loopw [5] (fun i wr=>∃(k:Nat) (vC:Value),1≤k/\k≤gv.length/\i=.int .i64 k/\Hid (LpBe q W0 wr (.slice none 0 0) (.slice none 0 0) vC [] [] (CF (k-1)))) (fun i _=>gv.length-(intOf i).toNat)
  case atStart=>exact⟨1,_,Nat.le_refl _,by omega,rfl,HS1⟩
  case round=>
   clear b0 b1;obtain⟨k,vC,hk1,hk,rfl,hS⟩:=hrel;have hlow:=hS.out.low;have HBr:=zH (HBx0.out.below hlow);have hNr:=HI.out.below (hlow.mono (by have:=HS0.out;omega));obtain⟨b0,b1⟩:=two HBr.out
   by_cases hlt:k<gv.length
   ·obtain⟨b2,o2,rfl,l2,p2⟩:=hNr k hlt
    have hbd:=HBd.out k hlt;obtain⟨e0,e1,e2,_⟩:=hS.out.box.cells;obtain⟨ac,cc,rfl,_⟩:=Zai hS.out.c;have hqs:=hS.out.lt;have hbs:=Zab HBr.out;have HCmk:=zH (HCm.out k hk1);have HClk:=zH (HCl.out (k-1));generalize gv.getD k 0=z at *;generalize CF (k-1)=C at *;have HQ:Hid (Zi4 q w.heap.size b2 o2 k (.slice ac C.length cc) (.slice (some ⟨b2,o2,none⟩) gv.length c) (.int .i64 z) wr):=⟨e2,b1,p2,hqs.1,hbs,by have:=hlow.size;have:=HS0.out;omega⟩;have hin:=(Since.refl wr).drew;have n1:(k:Int)<(gv.length:Int):=by omega
    have hwn:IntKind.i64.wrap (-z)=-z:=IntWalk.i64_in _ (by omega);clear e0 e1 e2 p2 hNr hlow
    go_upto_region 7 with fail
    clear b0 b1;refine Zaf (S:=(fun w'=>w'.cell? ⟨q,2,none⟩=some (.slice ac C.length cc)/\w'.cell? ⟨w.heap.size,1,none⟩=some (.slice (some ⟨b2,o2,none⟩) gv.length c)/\w'.cell? ⟨b2,o2+k,none⟩=some (.int .i64 z)/\Since wr w')) 10 (by kernel_rfl) ?_ (fun hHeld=>?_)
    ·exact Zi4.all HQ hin
    refine tk2 0 ⟨some 21,_,0,_,_,none⟩ ?_;refine tk2 1 ⟨some 22,_,26,_,_,none⟩ ?_;refine tk2 2 ⟨some 23,_,0,_,_,none⟩ ?_;refine tk2 3 ⟨some 24,_,22,_,_,none⟩ ?_;refine tk2 4 ⟨some 25,_,3,_,_,none⟩ ?_;refine tk2 5 ⟨some 26,_,0,_,_,none⟩ ?_;refine tk2 6 ⟨some 27,_,3,_,_,none⟩ ?_;refine tk2 7 ⟨some 28,_,3,_,_,none⟩ ?_
    try simp only[Act.put,zA,zB,zC]
    refine rd2 8 ⟨some 29,_,59,_,_,none⟩ fun K hK=>?_
    go_simp
    (go_at_call 47;refine (Zaq (-z) _).mono ?_;rintro e w9 ⟨rfl,hb9⟩;have hin2:=hin.trans hb9)
    refine hK.out _ _ ?_ (fun hHeld=>?_)
    ·exact Zi4.all HQ hin2
    clear hK K
    try simp only[Act.put,zA,zB,zC]
    have hst3:=(hS.out.since hin2).alloc (.cells #[.int .i64 (-z),.int .i64 1] 59);have hin3:=hin2.alloc (.cells #[.int .i64 (-z),.int .i64 1] 59);have hone:=Zb6 w9 (-z,1);refine rd2 9 ⟨some 30,_,26,_,_,none⟩ fun K hK=>?_
    go_simp
    refine hK.out _ _ ?_ (fun hHeld=>?_)
    ·exact Zi4.all HQ hin3
    clear hK K
    try simp only[Act.put,zA,zB,zC]
    refine rd3 10 ⟨some 31,_,26,_,_,none⟩ fun K hK=>?_
    (refine Zd6 rfl _ _ rfl W0.heap.size _ C rfl hst3.c w9.heap.size 0 [(-z,1)] 1 1 rfl rfl _ hone (by have:=HClk.out;simp;omega) (Nat.le_of_lt hst3.lt.2) ?_;intro v6 w6 hown6 hgrow6)
    refine hK.out _ _ ?_;clear hK K
    try simp only[Act.put,zA,zB,zC]
    rw[<-HCmk.out] at hown6;obtain⟨a6,c6,rfl,_⟩:=Zai hown6;obtain⟨y0,y1,y2,f0,f1,f2⟩:=(hst3.triC hgrow6).cells;refine rd3 11 ⟨some 32,_,0,_,_,none⟩ fun K hK=>?_
    go_simp
    refine hK.out _ _ ?_;clear hK K
    try simp only[Act.put,zA,zB,zC]
    refine rd3 12 ⟨none,_,0,_,_,none⟩ fun K hK=>?_
    go_simp
    refine hK.out _ _ ?_;clear hK K;refine Zam (by kernel_rfl) ?_ _;have HSn:=zH (hst3.putC hgrow6 hown6);clear hst3 hin2 hin3 hone hown6 hgrow6 y0 y1 y2 f0 f1 f2 hS hin hbd hwn
    go_wp2_with fail
    go_roundw
    case rel=>exact⟨k+1,_,by omega,by omega,by go_num,HSn⟩
    case measure=>simp[intOf];omega
   ·have hke:k=gv.length:=by omega
    have HEk:Hid (CF (k-1)=CF (gv.length-1)):=by show _=_;rw[hke]
    have hS2:=hS.out;rw[HEk.out] at hS2;generalize CF (gv.length-1)=CF at *;have HSr:Hid (LpBe q W0 wr (.slice none 0 0) (.slice none 0 0) vC (Cr.Zdb (gv.length-1) 0) (Cr.Zcs 0) CF):=hS2;have HRm:Hid (∀j,Cr.Zdb (gv.length-1) (j+1)=Cr.Zdb (gv.length-1) j++[Cr.mrow j (gv.length-1)]):=fun j=>Cr.Zl4 _ j
    have HRl:Hid (∀j,(Cr.Zdb (gv.length-1) j).length=j):=fun j=>Cr.Zdn _ j
    have HOm:Hid (∀j,Cr.Zcs (j+1)=Cr.Zcs j++[1]):=fun j=>Cr.Zly j
    have HOl:Hid (∀j,(Cr.Zcs j).length=j):=fun j=>Cr.Zd2 j
    clear hNr hS hS2 HEk HCm HCl HCz hlow hke HBx2;generalize Cr.Zdb (gv.length-1)=RF at *;generalize Cr.Zcs=OF at *
    go_wp2_with fail
    clear hlt hk
    go_loopw [6] (fun i wr=>∃(k:Nat) (vA vB:Value),k≤m/\i=.int .i64 k/\Hid (LpBe q W0 wr vA vB vC (RF k) (OF k) CF)) (fun i _=>m-(intOf i).toNat)
    case atStart=>exact⟨0,_,_,Nat.zero_le _,rfl,HSr⟩
    case round=>
     clear HSr HBr b0 b1;obtain⟨k,vA,vB,hk,rfl,hS⟩:=hrel;have hlow:=hS.out.low;have HBr:=zH (HBx0.out.below hlow);obtain⟨b0,b1⟩:=two HBr.out
     by_cases hlt:k<m
     ·obtain⟨wx,hwx⟩:∃wx:World,wx=wr:=⟨_,rfl⟩
      subst hwx;have hlx:=hS.out.lt;have n1:(k:Int)<(m:Int):=by omega
      have HU0:Hid (Zae wx.heap.size (wx.alloc (.cells #[] 3)) (.slice (some ⟨wx.heap.size,0,none⟩) 0 0) (Cr.mrow k 0)):=Zef wx;have HLo:Hid (Below wx.heap.size wx (wx.alloc (.cells #[] 3))):=(Below.refl _ _).alloc (Nat.le_refl _) _;have HMm:Hid (∀j,1≤j->Cr.mrow k j=Cr.mrow k (j-1)++[Cr.bit (Co.has (j:Int) k)]):=fun j hj=>by
       have h:=Cr.Zp8 k (j-1);rw[show j-1+1=j by omega,show ((j-1:Nat):Int)+1=j by omega] at h;exact h
      have HMl:Hid (∀j,(Cr.mrow k j).length=j):=fun j=>Cr.Zij k j
      have HRk:Hid (RF (k+1)=RF k++[Cr.mrow k (gv.length-1)]):=HRm.out k;generalize Cr.mrow k=MF at *;clear hlow
      go_wp2_with fail
      go_loopw [7,8] (fun v i wr=>∃(j:Nat) (u:Value),u=v/\1≤j/\j≤gv.length/\i=.int .i64 j/\Hid (Zae wx.heap.size wr u (MF (j-1)))/\Hid (Below wx.heap.size wx wr)) (fun _ i _=>gv.length-(intOf i).toNat)
      case atStart=>exact⟨1,_,rfl,Nat.le_refl _,by omega,rfl,HU0,HLo⟩
      case round=>
       clear HU0 HLo b0 b1;obtain⟨j,u,rfl,hj1,hj,rfl,hU,hLo⟩:=hrel;have HBq:=zH (HBr.out.below hLo.out);obtain⟨b0,b1⟩:=two HBq.out
       by_cases hjt:j<gv.length
       ·have n2:(j:Int)<(gv.length:Int):=by omega
        obtain⟨hh,hhe⟩:∃hh,Co.has (j:Int) k=hh:=⟨_,rfl⟩;have HHp:=zH (fun W=>Zbx (j:Int) (by omega) k (by omega) hh hhe W);obtain⟨bb,hbb⟩:∃bb,Cr.bit hh=bb:=⟨_,rfl⟩;have HBb:=zH hbb;have HMj:Hid (MF j=MF (j-1)++[bb]):=by show _=_;rw[HMm.out j hj1,hhe,hbb]
        have hMl2:(MF (j-1)).length≤32:=by have:=HMl.out (j-1);omega
        generalize MF (j-1)=M at *;clear hhe hbb
        go_wp2_with fail
        refine (HHp.out _).mono ?_;rintro e w4 ⟨rfl,rfl⟩
        go_wp2_with fail
        refine (Zyn hh bb HBb.out _).mono ?_;rintro e w4 ⟨rfl,rfl⟩;have HO4:=zH (hLo.out.alloc hLo.out.size (.cells #[.int .i64 bb] 3));have HU4:Hid (Zae wx.heap.size (wr.alloc (.cells #[.int .i64 bb] 3)) u M):=hU.out.below ((Below.refl _ _).alloc (Nat.le_refl _) _);have Hone:=zH ((Zad.new wr #[.int .i64 bb] 3).cell 0);clear hU hLo
        go_wp2_with (at_builtin;refine Zb4 rfl _ _ rfl wx.heap.size _ M rfl HU4.out wr.heap.size bb rfl Hone.out (by omega) (by have:=HO4.out.size;omega) ?_)
        intro v' w8 hown hgrow _;rw[<-HMj.out] at hown;obtain⟨a8,c8,rfl⟩:=Zau hown;have HU8:=zH hown;have HO8:=zH (HO4.out.grown hgrow HO4.out.size (fun g hg=>(World.ownsRow.lt HU4.out g hg).1));clear hown hgrow HU4 HO4 Hone
        go_wp2_with fail
        go_roundw
        case rel=>exact⟨j+1,_,rfl,by omega,by omega,by go_num,HU8,HO8⟩
        case measure=>simp[intOf];omega
       ·have hje:j=gv.length:=by omega
        have hU2:=hU.out;rw[hje] at hU2;have HU2:=zH hU2;clear hU2;have hS2:=hS.out.below hLo.out;have HS3:=zH (hS2.alloc (.cells #[u] 22));obtain⟨c0,c1,c2,_⟩:=hS2.box.cells;obtain⟨vs,k1,k2,k3⟩:=hS.out.later (hLo.out.alloc hLo.out.size (.cells #[u] 22));have K1:=zH k1;have K2:=zH k2;generalize MF (gv.length-1)=M at *;have HUr:Hid (Zae W0.heap.size (wr.alloc (.cells #[u] 22)) u M):=(HU2.out.below ((Below.refl _ _).alloc (Nat.le_refl _) _)).raise (by omega);have Hap:Hid (∀(j:Nat) (u1:Value),(vB::vs)[j]? = some u1->∀b,u1.ownBlock=some b->u.ownBlock≠some b):=fun j u1 e b hb hb2=>by
         have:=k3 j u1 e b hb;have:=(World.ownsRow.lt hU.out b hb2).1;omega
        have Hq:=zH ((Zad.new wr #[u] 22).cell 0);have hAl:(RF k).length≤5:=by have:=HRl.out k;omega
        have hBl:(OF k).length≤5:=by have:=HOl.out k;omega
        have HOk:=zH (HOm.out k);generalize RF k=A at *;generalize OF k=B at *;have hlr:=HS3.out.lt;obtain⟨au,cu,hsh⟩:=Zau hU.out;subst hsh;clear hS2 k1 k2 k3 hU hLo hS HU2 hje
        go_wp2_with (at_builtin;refine Zi0 rfl _ _ rfl W0.heap.size vA vB A B vs rfl K1.out K2.out wr.heap.size _ M rfl Hq.out HUr.out Hap.out (by omega) (by omega) ?_)
        intro v' w8 hab hgrow;rw[<-HRk.out] at hab;obtain⟨⟨a8,c8,rfl⟩,_⟩:=hab.shape;obtain⟨e0,e1,e2,f0,f1,f2⟩:=(HS3.out.triA hgrow).cells;have hS9:=HS3.out.putA hgrow hab;have HS9:=zH hS9;clear hab hgrow c0 c1 c2 K1 K2 HUr Hap Hq HS3 hS9 hlr hAl
        go_upto_region 17 with fail
        clear e0 e1 e2 f0 f1 f2;generalize w8.setCell ⟨q,0,none⟩ (.slice a8 (RF (k+1)).length c8)=w9 at *;obtain⟨⟨_,_,_⟩,⟨b9,c9,h9⟩⟩:=HS9.out.ab.shape;subst h9;obtain⟨c0,c1,c2,_⟩:=HS9.out.box.cells;have HS10:=zH (HS9.out.alloc (.cells #[.int .i64 1] 3));have Hcy:=zH ((Zad.new w9 #[.int .i64 1] 3).cell 0);clear HS9
        go_wp2_with (at_builtin;refine Zb4 rfl _ _ rfl W0.heap.size _ B rfl HS10.out.ab.b w9.heap.size 1 rfl Hcy.out (by omega) (Nat.le_of_lt HS10.out.lt.2) ?_)
        intro v6 w6 hown6 hgrow6 hat6;rw[<-HOk.out] at hown6;obtain⟨a6,c6,rfl⟩:=Zau hown6;obtain⟨y0,y1,y2,f0,f1,f2⟩:=(HS10.out.triB hgrow6).cells;have HSn:=zH (HS10.out.putB hgrow6 hown6 (by rw[Zao];exact hat6));clear hown6 hgrow6 hat6 HS10 Hcy c0 c1 c2
        go_wp2_with fail
        go_roundw
        case rel=>exact⟨k+1,_,_,by omega,by go_num,HSn⟩
        case measure=>simp[intOf];omega
     ·have hke:k=m:=by omega
      subst hke;have HSF:=zH hS.out;have HF:=zH hS.out.fin;obtain⟨⟨a9,c9,h9⟩,⟨b9,d9,h8⟩⟩:=hS.out.ab.shape;obtain⟨cc9,cC9,h7,_⟩:=Zai hS.out.c;subst h9 h8 h7;obtain⟨e0,e1,e2,_⟩:=hS.out.box.cells;obtain⟨z0,z1,z2,f0,f1,f2⟩:=hS.out.res.cells;have hs:=HS0.out;have HF2:=HF.out;rw[hs] at z0 z1 z2 f0 f1 f2 HF2;have HF3:=zH HF2;clear hS HF HF2 HSF
      go_wp2_with fail
      refine bodyPost_ret (v:=.tuple #[.agg #[.slice a9 (RF k).length c9,.slice b9 (OF k).length d9,.slice cc9 CF.length cC9],.bool true]) (by
       obtain⟨z0,z1,z2,_⟩:=HF3.out.1.cells;revert z0 z1 z2;generalize (World.setCell _ (⟨w.heap.size+1,2,none⟩:Addr) (.slice cc9 CF.length cC9))=W4;intro z0 z1 z2;simp[results,Tryz.results23,go_sem,z0,z1,z2]) rfl ?_
      rw[HE.out];exact⟨_,_,_,rfl,HF3.out.2.1.raise (Nat.le_succ _),Zaa.raise HF3.out.2.2.1 (Nat.le_succ _),HB0.out.trans (HF3.out.2.2.2.mono (Nat.le_succ _))⟩
end Go.Proofs.YtjfnleilddgjiaaGreat
