/- spec.LeastLP. -/
import Derived.Test.YtpjnjidbdpfdcaaGreatLeS
namespace Go.Proofs.YtpjnjidbdpfdcaaGreat
open Go.RowKit
open Ve (R)
open Gm (G)
theorem Le.Zrk {g:G} (h:Le.can g=false):Le.least g=⟨[],[],[]⟩:=Le.Zg8 h
set_option maxRecDepth 100000 in
set_option maxHeartbeats 8000000 in
theorem Zid {w:World} {x y:Value} {g:G} (h:GmC w x y g) (hf:GmOk g) :
  Calls Tryz.prog 14 #[.agg #[x,y]] w (Zcj (Le.least g) (Le.can g) w):=by
 obtain⟨gn,gv⟩:=g;obtain⟨a,c,rfl,rfl,hi⟩:=h;have hl:gv.length≤1048576:=hf.1;dsimp only at hi ⊢;obtain⟨W0,hW0⟩:∃W0,W0=w.alloc (.cells #[.int .i64 gn,.slice a gv.length c] 33):=⟨_,rfl⟩;obtain⟨W,hW⟩:∃W,W=W0.alloc (.cells #[.slice none 0 0,.slice none 0 0,.slice none 0 0] 47):=⟨_,rfl⟩;have hs0:W0.heap.size=w.heap.size+1:=by rw[hW0];exact Zar _ _
 have hb0:Below w.heap.size w W0:=by rw[hW0];exact (Below.refl _ _).alloc (Nat.le_refl _) _
 have hb1:Below W0.heap.size W0 W:=by rw[hW];exact (Below.refl _ _).alloc (Nat.le_refl _) _
 have hbox0:Zaa W0 w.heap.size #[.int .i64 gn,.slice a gv.length c] 33:=by rw[hW0];exact Zaa.new _ _ _
 have hbox:=hbox0.below hb1;have hgm0:GmC W0 (.int .i64 gn) (.slice a gv.length c) ⟨gn,gv⟩:=GmC.up (g:=⟨gn,gv⟩) ⟨a,c,rfl,rfl,hi⟩ hb0;have hgm:=GmC.up hgm0 hb1;have hres:Tri W W0.heap.size (.slice none 0 0) (.slice none 0 0) (.slice none 0 0) 47:=by rw[hW];exact Tri.new _ _ _ _ _
 have HF:=zH hf;have HGM:=zH hgm;have HGM0:=zH hgm0;have HRes:=zH hres;have HBox:=zH hbox;have HBx0:=zH hbox0;have HB0:=zH hb0;have HB1:=zH hb1;have HI:=zH (hi.below hb0);have HS0:=zH hs0;have HW:Hid ((w.alloc (.cells #[.int .i64 gn,.slice a gv.length c] 33)).alloc (.cells #[.slice none 0 0,.slice none 0 0,.slice none 0 0] 47)=W):=by show _=_;rw[hW,hW0]
 clear hf hgm hgm0 hres hbox hbox0 hb0 hb1 hi hs0 hW hW0;obtain⟨vv,hv⟩:∃vv,Gm.vld ⟨gn,gv⟩=vv:=⟨_,rfl⟩
 by_cases hyes:vv=true/\2≤gn
 case neg=>
  have hno:Le.can ⟨gn,gv⟩=false:=by
   unfold Le.can;rw[hv]
   rcases vv with _|_
   ·rfl
   ·rw[decide_eq_false (fun h=>hyes ⟨rfl,h⟩)];rfl
  have HV:=zH hv;have HE:=zH (Le.Zrk hno);have HC:=zH hno;have hg2:vv=true->decide (gn<2)=true:=fun h=>by rw[decide_eq_true_iff];exact Int.lt_of_not_ge fun h2=>hyes ⟨h,h2⟩
  have HG2:=zH hg2;clear hv hno hyes hg2;obtain⟨b0,b1⟩:=two HBox.out
  go_enter Tryz.func14,Tryz.ntmps14
  go_upto_region 1 with fail
  rw[HW.out]
  go_wp2_with fail
  refine (Zaq vv HV.out HGM.out HF.out).mono ?_;rintro e w1 ⟨rfl,k1⟩;have HBx1:=zH (HBox.out.below k1);have HR1:=zH (HRes.out.below k1);have HB2:=zH ((HB1.out.trans (k1.mono HB1.out.size)));clear k1 b0 b1;obtain⟨b0,b1⟩:=two HBx1.out;obtain⟨z0,z1,z2,f0,f1,f2⟩:=HR1.out.cells;have hs:=HS0.out;rw[hs] at z0 z1 z2 f0 f1 f2
  rcases vv with _|_
  all_goals
   have hg:=HG2.out
   try replace hg:=hg rfl
   try clear hg
   try have hg3:=HG2.out rfl
   go_wp2_with fail
   have hF:=HR1.out;have hs:=HS0.out;rw[hs] at hF;refine bodyPost_ret (v:=.tuple #[.agg #[.slice none 0 0,.slice none 0 0,.slice none 0 0],.bool false]) (by
    obtain⟨z0,z1,z2,_⟩:=(((hF.set0 (.slice none 0 0)).set1 (.slice none 0 0)).set2 (.slice none 0 0)).cells;revert z0 z1 z2;generalize (World.setCell _ (⟨w.heap.size+1,2,none⟩:Addr) (.slice none 0 0))=W4;intro z0 z1 z2;simp[results,Tryz.results14,go_sem,z0,z1,z2]) rfl ?_
   rw[HE.out,HC.out];have hB:=HB0.out.trans (HB2.out.mono (by omega));exact⟨_,_,_,rfl,Zax.nil _ _,World.ownsRow_nil _ _ _ _,((hB.setCell (p:=⟨w.heap.size+1,0,none⟩) (Nat.le_succ _) _).setCell (p:=⟨w.heap.size+1,1,none⟩) (Nat.le_succ _) _).setCell (p:=⟨w.heap.size+1,2,none⟩) (Nat.le_succ _) _⟩
 case pos=>
  obtain⟨rfl,h2⟩:=hyes;have HV:=zH hv;have hcan:Le.can ⟨gn,gv⟩=true:=Le.Zod hv h2;have hn:=Gm.Zjo hv;have hlen:=Gm.Zbp hv;have hpw:=Gm.Zeh hv;dsimp only at hn hlen hpw;obtain⟨m,rfl⟩:∃m:Nat,gn=m:=⟨gn.toNat,by omega⟩;have hm5:m≤5:=by omega
  have hm2:2≤m:=by omega
  have hl4:4≤gv.length:=by
   rw[Int.toNat_natCast] at hpw;have:2 ^ 2≤2 ^ m:=Nat.pow_le_pow_right (by omega) hm2;omega
  have HBd:=zH (fun k (hk:k<gv.length)=>Gm.Zm9 hv (k:=k) hk);have HGr:Hid (∃gr,Gm.Zcs ⟨(m:Int),gv⟩=gr/\-500≤gr/\gr≤500):=⟨_,rfl,by rw[Gm.Zfe hv];exact Gm.Zm9 hv (by show gv.length-1<gv.length;omega)⟩;obtain⟨gr,hgr,hgr1,hgr2⟩:=HGr.out;have HE:Hid (Le.least ⟨(m:Int),gv⟩=⟨Le.Zcz (gv.length-2) m++[Cr.Zbc (gv.length-2)++[0]],Le.Zbl m++[1],Cr.cost ⟨(m:Int),gv⟩ (gv.length-2)++[(gr,1)]⟩):=by
   show _=_;rw[Le.Zfm hcan,<-hgr];rfl
  have HGV:Hid (∀W',Since W0 W'->Calls Tryz.prog 29 #[.agg #[.int .i64 m,.slice a gv.length c]] W' fun e w'=>e=.returned (.int .i64 gr)/\Below W'.heap.size W' w'):=fun W' hs=>by
   have:=Zc0 (HGM0.out.up hs.low) HF.out;rw[hgr] at this;exact this
  have HC:=zH hcan;dsimp only at HBd;have hCz:Cr.cost ⟨(m:Int),gv⟩ 0 = []:=rfl;have HCm:Hid (∀k,1≤k->Cr.cost ⟨(m:Int),gv⟩ k=Cr.cost ⟨(m:Int),gv⟩ (k-1)++[(-(gv.getD k 0),1)]):=fun k hk=>by
   have h:=Cr.Zfb ⟨(m:Int),gv⟩ (k-1);rw[show k-1+1=k by omega] at h;exact h
  have HCl:Hid (∀k,(Cr.cost ⟨(m:Int),gv⟩ k).length=k):=fun k=>Cr.Zcl _ k
  generalize Cr.cost ⟨(m:Int),gv⟩=CF at *;have HCz:=zH hCz;have hOz:Cr.Zbc 0 = []:=rfl;have HOm:Hid (∀k,1≤k->Cr.Zbc k=Cr.Zbc (k-1)++[1]):=fun k hk=>by
   have h:=Cr.Zfp (k-1);rw[show k-1+1=k by omega] at h;exact h
  have HOl:Hid (∀k,(Cr.Zbc k).length=k):=fun k=>Cr.Zec k
  generalize Cr.Zbc=OF at *;have HOz:=zH hOz;have Hm:=zH h2;have h2f:decide ((m:Int)<2)=false:=by rw[decide_eq_false_iff_not];omega
  clear hn hv hCz hOz hcan hgr HGr hpw h2;obtain⟨b0,b1⟩:=two HBox.out
  go_enter Tryz.func14,Tryz.ntmps14
  go_upto_region 1 with fail
  rw[HW.out]
  go_wp2_with fail
  refine (Zaq true HV.out HGM.out HF.out).mono ?_;rintro e w1 ⟨rfl,k1⟩;have hR1:=HRes.out.below k1;have hlr:=Zag hR1;have HBx1:=zH (HBox.out.below k1);have HLw:=zH (HB1.out.trans (k1.mono HB1.out.size));have HR1:=zH hR1;have Hlr:=zH hlr;clear b0 b1 k1 HRes HBox HB1 HGM HF hR1 hlr;obtain⟨b0,b1⟩:=two HBx1.out
  go_wp2_with fail
  have e1:=Zar w1 (.cells #[.slice none 0 0,.slice none 0 0,.slice none 0 0] 47);have hq0:Below w1.heap.size w1 (w1.alloc (.cells #[.slice none 0 0,.slice none 0 0,.slice none 0 0] 47)):=(Below.refl _ _).alloc (Nat.le_refl _) _;have HS1:Hid (LpBe w1.heap.size W0 (w1.alloc (.cells #[.slice none 0 0,.slice none 0 0,.slice none 0 0] 47)) (.slice none 0 0) (.slice none 0 0) (.slice none 0 0) [] [] (CF 0)):=
   ⟨Hlr.out,Tri.new w1 _ _ _ _,HR1.out.more _,Zax.nil _ _,by rw[HCz.out];exact World.ownsRow_nil _ _ _ _,HLw.out.alloc (by have:=Hlr.out;omega) _⟩
  have HBx2:=zH (HBx1.out.more (.cells #[.slice none 0 0,.slice none 0 0,.slice none 0 0] 47));have hU1:=Zeo (w1.alloc (.cells #[.slice none 0 0,.slice none 0 0,.slice none 0 0] 47));rw[e1] at hU1;have HS2:Hid (LsA w1.heap.size W0 ((w1.alloc (.cells #[.slice none 0 0,.slice none 0 0,.slice none 0 0] 47)).alloc (.cells #[] 3)) (.slice none 0 0) (.slice (some ⟨w1.heap.size+1,0,none⟩) 0 0) (CF 0) (OF 0)):=
   ⟨HS1.out.alloc _,by rw[HOz.out];exact hU1.raise (by have:=Hlr.out;omega)⟩
  have HBx3:=zH (HBx2.out.more (.cells #[] 3));clear e1 hq0 HS1 HBx2 hU1 HBx1 HR1 Hlr HLw b0 b1;generalize w1.heap.size=q at *;generalize (w1.alloc (.cells #[.slice none 0 0,.slice none 0 0,.slice none 0 0] 47)).alloc (.cells #[] 3)=w2 at *;obtain⟨b0,b1⟩:=two HBx3.out
  go_loopw [5,6] (fun v i wr=>∃(k:Nat) (vC u:Value),u=v/\1≤k/\k≤gv.length-1/\i=.int .i64 k/\Hid (LsA q W0 wr vC u (CF (k-1)) (OF (k-1)))) (fun _ i _=>gv.length-(intOf i).toNat)
  case atStart=>exact⟨1,_,_,rfl,Nat.le_refl _,by omega,rfl,HS2⟩
  case round=>
   clear b0 b1 HS2 HBx3;obtain⟨k,vC,u,rfl,hk1,hk,rfl,hS⟩:=hrel;have hlow:=hS.out.be.low;have HBr:=zH (HBx0.out.below hlow);have hNr:=HI.out.below (hlow.mono (by have:=HS0.out;omega));obtain⟨b0,b1⟩:=two HBr.out;obtain⟨au,cu,rfl⟩:=Zak hS.out.own
   by_cases hlt:k<gv.length - 1
   ·obtain⟨b2,o2,rfl,l2,p2⟩:=hNr k (by omega)
    have hbd:=HBd.out k (by omega);obtain⟨e0,e1,e2,_⟩:=hS.out.be.box.cells;obtain⟨ac,cc,rfl,_⟩:=Za1 hS.out.be.c;have hqs:=hS.out.be.lt;have hbs:=Zag HBr.out;have HCmk:=zH (HCm.out k hk1);have HOmk:=zH (HOm.out k hk1);have hClk:(CF (k-1)).length≤32:=by have:=HCl.out (k-1);omega
    have hOlk:(OF (k-1)).length≤32:=by have:=HOl.out (k-1);omega
    generalize gv.getD k 0=z at *;generalize CF (k-1)=C at *;generalize OF (k-1)=O at *;have HQ:Hid (Zd7 q w.heap.size b2 o2 k (.slice ac C.length cc) (.slice (some ⟨b2,o2,none⟩) gv.length c) (.int .i64 z) wr):=⟨e2,b1,p2,hqs.1,hbs,by have:=hlow.size;have:=HS0.out;omega⟩;have hin:=(Since.refl wr).drew;have n1:(k:Int)<(gv.length:Int)-1:=by omega
    have n2:(k:Int)<(gv.length:Int):=by omega
    have hwn:IntKind.i64.wrap (-z)=-z:=IntWalk.i64_in _ (by omega);clear e0 e1 e2 p2 hNr hlow
    go_upto_region 8 with fail
    clear b0 b1;refine Zai (S:=(fun w'=>w'.cell? ⟨q,2,none⟩=some (.slice ac C.length cc)/\w'.cell? ⟨w.heap.size,1,none⟩=some (.slice (some ⟨b2,o2,none⟩) gv.length c)/\w'.cell? ⟨b2,o2+k,none⟩=some (.int .i64 z)/\Since wr w')) 10 (by kernel_rfl) ?_ (fun hHeld=>?_)
    ·exact Zd7.all HQ hin
    refine tk2 0 ⟨some 29,_,0,_,_,none⟩ ?_;refine tk2 1 ⟨some 30,_,36,_,_,none⟩ ?_;refine tk2 2 ⟨some 31,_,0,_,_,none⟩ ?_;refine tk2 3 ⟨some 32,_,22,_,_,none⟩ ?_;refine tk2 4 ⟨some 33,_,3,_,_,none⟩ ?_;refine tk2 5 ⟨some 34,_,0,_,_,none⟩ ?_;refine tk2 6 ⟨some 35,_,3,_,_,none⟩ ?_;refine tk2 7 ⟨some 36,_,3,_,_,none⟩ ?_
    try simp only[Act.put,zA,zB,zC]
    refine rd2 8 ⟨some 37,_,35,_,_,none⟩ fun K hK=>?_
    go_simp
    (go_at_call 28;refine (Za2 (-z) _).mono ?_;rintro e w9 ⟨rfl,hb9⟩;have hin2:=hin.trans hb9)
    refine hK.out _ _ ?_ (fun hHeld=>?_)
    ·exact Zd7.all HQ hin2
    clear hK K
    try simp only[Act.put,zA,zB,zC]
    have hst3:=(hS.out.since hin2).alloc (.cells #[.int .i64 (-z),.int .i64 1] 35);have hin3:=hin2.alloc (.cells #[.int .i64 (-z),.int .i64 1] 35);have hone:=Zja w9 (-z,1);refine rd2 9 ⟨some 38,_,36,_,_,none⟩ fun K hK=>?_
    go_simp
    refine hK.out _ _ ?_ (fun hHeld=>?_)
    ·exact Zd7.all HQ hin3
    clear hK K
    try simp only[Act.put,zA,zB,zC]
    refine rd3 10 ⟨some 39,_,36,_,_,none⟩ fun K hK=>?_
    (refine Zbu rfl _ _ rfl W0.heap.size _ C rfl hst3.be.c w9.heap.size 0 [(-z,1)] 1 1 rfl rfl _ hone (by simp;omega) (Nat.le_of_lt hst3.be.lt.2) ?_;intro v6 w6 hown6 hgrow6)
    refine hK.out _ _ ?_;clear hK K
    try simp only[Act.put,zA,zB,zC]
    rw[<-HCmk.out] at hown6;obtain⟨a6,c6,rfl,_⟩:=Za1 hown6;obtain⟨y0,y1,y2,f0,f1,f2⟩:=(hst3.be.triC hgrow6).cells;refine rd3 11 ⟨some 40,_,0,_,_,none⟩ fun K hK=>?_
    go_simp
    refine hK.out _ _ ?_;clear hK K
    try simp only[Act.put,zA,zB,zC]
    refine rd3 12 ⟨none,_,0,_,_,none⟩ fun K hK=>?_
    go_simp
    refine hK.out _ _ ?_;clear hK K;refine Zas (by kernel_rfl) ?_ _;have HSn:=zH (hst3.putC hgrow6 hown6);clear hst3 hin2 hin3 hone hown6 hgrow6 y0 y1 y2 f0 f1 f2 hS hin hbd hwn hb9 HQ
    go_upto_region 9 with fail
    generalize w6.setCell ⟨q,2,none⟩ (.slice a6 (CF k).length c6)=w7 at *;have HS10:=zH (HSn.out.alloc (.cells #[.int .i64 1] 3));have Hcy:=zH ((Zaa.new w7 #[.int .i64 1] 3).cell 0);clear HSn
    go_wp2_with (at_builtin;refine Zat rfl _ _ rfl W0.heap.size _ O rfl HS10.out.own w7.heap.size 1 rfl Hcy.out (by omega) (Nat.le_of_lt HS10.out.be.lt.2) ?_)
    intro v6 w8 hown6 hgrow6 hat6;rw[<-HOmk.out] at hown6;obtain⟨a7,c7,rfl⟩:=Zak hown6;have HSn:=zH (HS10.out.putU hgrow6 hown6);clear hown6 hgrow6 hat6 HS10 Hcy
    go_wp2_with fail
    go_roundw
    case rel=>exact⟨k+1,_,_,rfl,by omega,by omega,by go_num,HSn⟩
    case measure=>simp[intOf];omega
   ·have hke:k=gv.length-1:=by omega
    have hS2:=hS.out;rw[hke,show gv.length-1-1=gv.length-2 by omega] at hS2;have HS3:=zH hS2;have hClk:(CF (gv.length-2)).length≤32:=by have:=HCl.out (gv.length-2);omega
    have hOlk:(OF (gv.length-2)).length=gv.length-2:=HOl.out (gv.length-2);have hO32:(OF (gv.length-2)).length≤32:=by omega
    have hokl:(OF (k-1)).length=(OF (gv.length-2)).length:=by rw[hke,show gv.length-1-1=gv.length-2 by omega]
    clear hOlk;have HUs:=zH hS2.own;rw[show OF (k-1)=OF (gv.length-2) by rw[hke,show gv.length-1-1=gv.length-2 by omega]] at *;generalize CF (gv.length-2)=C at *;generalize OF (gv.length-2)=O at *;clear hS hS2 hNr HCm HCl HOm HOl hke hokl;obtain⟨e0,e1,e2,_⟩:=HS3.out.be.box.cells;obtain⟨ac,cc,rfl,_⟩:=Za1 HS3.out.be.c;have hqs:=HS3.out.be.lt;have hbs:=Zag HBr.out;have hin:=(Since.refl wr).drew;have Cell:=zH (fun w' (h:Since wr w')=>(show w'.cell? ⟨q,2,none⟩=some (.slice ac C.length cc)/\w'.cell? ⟨w.heap.size,0,none⟩=some (.int .i64 (m:Int))/\w'.cell? ⟨w.heap.size,1,none⟩=some (.slice a gv.length c)/\Since wr w' from ⟨h.cell (p:=⟨q,2,none⟩) hqs.1 e2,h.cell (p:=⟨w.heap.size,0,none⟩) hbs b0,h.cell (p:=⟨w.heap.size,1,none⟩) hbs b1,h⟩));have HJoin:Hid (∀w',Since wr w'->Since W0 w'):=fun w' hs=>⟨hlow.trans (hs.low.mono hlow.size)⟩
    obtain⟨CE,hCE⟩:∃CE,C++[(gr,1)]=CE:=⟨_,rfl⟩;have HCE:=zH hCE;clear e0 e1 e2 hlow hCE
    go_upto_region 10 with fail
    clear b0 b1 hlt;refine Zai (S:=(fun w'=>w'.cell? ⟨q,2,none⟩=some (.slice ac C.length cc)/\w'.cell? ⟨w.heap.size,0,none⟩=some (.int .i64 (m:Int))/\w'.cell? ⟨w.heap.size,1,none⟩=some (.slice a gv.length c)/\Since wr w')) 6 (by kernel_rfl) ?_ (fun hHeld=>?_)
    ·exact Cell.out _ hin
    refine tk2 0 ⟨some 44,_,0,_,_,none⟩ ?_;refine tk2 1 ⟨some 45,_,36,_,_,none⟩ ?_;refine tk2 2 ⟨some 46,_,33,_,_,none⟩ ?_
    try simp only[Act.put,zA,zB,zC]
    refine rd2 3 ⟨some 47,_,3,_,_,none⟩ fun K hK=>?_
    go_simp
    (go_at_call 29;refine (HGV.out _ (HJoin.out _ hin)).mono ?_;rintro e w8 ⟨rfl,hb8⟩;have hin1:=hin.trans hb8)
    refine hK.out _ _ ?_ (fun hHeld=>?_)
    ·exact Cell.out _ hin1
    clear hK K
    try simp only[Act.put,zA,zB,zC]
    refine rd2 4 ⟨some 48,_,35,_,_,none⟩ fun K hK=>?_
    go_simp
    (go_at_call 28;refine (Za2 gr _).mono ?_;rintro e w9 ⟨rfl,hb9⟩;have hin2:=hin1.trans hb9)
    refine hK.out _ _ ?_ (fun hHeld=>?_)
    ·exact Cell.out _ hin2
    clear hK K
    try simp only[Act.put,zA,zB,zC]
    have hst3:=(HS3.out.since hin2).alloc (.cells #[.int .i64 gr,.int .i64 1] 35);have hin3:=hin2.alloc (.cells #[.int .i64 gr,.int .i64 1] 35);have hone:=Zja w9 (gr,1);refine rd2 5 ⟨some 49,_,36,_,_,none⟩ fun K hK=>?_
    go_simp
    refine hK.out _ _ ?_ (fun hHeld=>?_)
    ·exact Cell.out _ hin3
    clear hK K
    try simp only[Act.put,zA,zB,zC]
    refine rd3 6 ⟨some 50,_,36,_,_,none⟩ fun K hK=>?_
    (refine Zbu rfl _ _ rfl W0.heap.size _ C rfl hst3.be.c w9.heap.size 0 [(gr,1)] 1 1 rfl rfl _ hone (by simp;omega) (Nat.le_of_lt hst3.be.lt.2) ?_;intro v6 w6 hown6 hgrow6)
    refine hK.out _ _ ?_;clear hK K
    try simp only[Act.put,zA,zB,zC]
    rw[HCE.out] at hown6;obtain⟨a6,c6,rfl,_⟩:=Za1 hown6;obtain⟨y0,y1,y2,f0,f1,f2⟩:=(hst3.be.triC hgrow6).cells;refine rd3 7 ⟨some 51,_,0,_,_,none⟩ fun K hK=>?_
    go_simp
    refine hK.out _ _ ?_;clear hK K
    try simp only[Act.put,zA,zB,zC]
    refine rd3 8 ⟨none,_,0,_,_,none⟩ fun K hK=>?_
    go_simp
    refine hK.out _ _ ?_;clear hK K;refine Zas (by kernel_rfl) ?_ _;have HSn:=zH (hst3.putC hgrow6 hown6);clear hst3 hin1 hin2 hin3 hone hown6 hgrow6 y0 y1 y2 f0 f1 f2 HS3 hin hb8 hb9 Cell HJoin HUs HBr hqs hbs
    go_upto_region 11 with fail
    generalize w6.setCell ⟨q,2,none⟩ (.slice a6 CE.length c6)=w7 at *;have HRm:Hid (∀j,Le.Zcz (gv.length-2) (j+1)=Le.Zcz (gv.length-2) j++[Cr.mrow j (gv.length-2)++[-1]]):=fun j=>Le.Zk4 _ j
    have HRl:Hid (∀j,(Le.Zcz (gv.length-2) j).length=j):=fun j=>Le.Zh8 _ j
    have HZm:Hid (∀j,Le.Zbl (j+1)=Le.Zbl j++[0]):=fun j=>Le.Zil j
    have HZl:Hid (∀j,(Le.Zbl j).length=j):=fun j=>Le.Zf1 j
    have hr0:Le.Zcz (gv.length-2) 0 = []:=rfl;have hz0:Le.Zbl 0 = []:=rfl;generalize Le.Zcz (gv.length-2)=RF at *;generalize Le.Zbl=ZF at *;have HSr:Hid (LsB w7.heap.size q W0 w7 (.slice none 0 0) (.slice none 0 0) (.slice a6 CE.length c6) (.slice au O.length cu) (RF 0) (ZF 0) CE O):=by
     show LsB _ _ _ _ _ _ _ _ _ _ _ _;rw[hr0,hz0];exact HSn.out.rows
    have HBr:=zH (HBx0.out.below HSn.out.be.low);clear HSn hr0 hz0;generalize w7.heap.size=n0 at *;obtain⟨b0,b1⟩:=two HBr.out
    go_wp2_with fail
    go_loopw [7] (fun i wr=>∃(k:Nat) (vA vB:Value),k≤m/\i=.int .i64 k/\Hid (LsB n0 q W0 wr vA vB (.slice a6 CE.length c6) (.slice au O.length cu) (RF k) (ZF k) CE O)) (fun i _=>m-(intOf i).toNat)
    case atStart=>exact⟨0,_,_,Nat.zero_le _,rfl,HSr⟩
    case round=>
     clear HSr HBr b0 b1;obtain⟨k,vA,vB,hk,rfl,hS⟩:=hrel;have hlow:=hS.out.be.low;have HBr:=zH (HBx0.out.below hlow);obtain⟨b0,b1⟩:=two HBr.out
     by_cases hlt:k<m
     ·obtain⟨wx,hwx⟩:∃wx:World,wx=wr:=⟨_,rfl⟩
      subst hwx;have hlx:=hS.out.be.lt;have n1:(k:Int)<(m:Int):=by omega
      have HU0:Hid (Zab wx.heap.size (wx.alloc (.cells #[] 3)) (.slice (some ⟨wx.heap.size,0,none⟩) 0 0) (Cr.mrow k 0)):=Zeo wx;have HLo:Hid (Below wx.heap.size wx (wx.alloc (.cells #[] 3))):=(Below.refl _ _).alloc (Nat.le_refl _) _;have HMm:Hid (∀j,1≤j->Cr.mrow k j=Cr.mrow k (j-1)++[Cr.bit (Co.has (j:Int) k)]):=fun j hj=>by
       have h:=Cr.Zfo k (j-1);rw[show j-1+1=j by omega,show ((j-1:Nat):Int)+1=j by omega] at h;exact h
      have HMl:Hid (∀j,(Cr.mrow k j).length=j):=fun j=>Cr.Zco k j
      have HRk:Hid (RF (k+1)=RF k++[Cr.mrow k (gv.length-2)++[-1]]):=HRm.out k;generalize Cr.mrow k=MF at *;clear hlow
      go_wp2_with fail
      go_loopw [8,9] (fun v i wr=>∃(j:Nat) (u:Value),u=v/\1≤j/\j≤gv.length-1/\i=.int .i64 j/\Hid (Zab wx.heap.size wr u (MF (j-1)))/\Hid (Below wx.heap.size wx wr)) (fun _ i _=>gv.length-(intOf i).toNat)
      case atStart=>exact⟨1,_,rfl,Nat.le_refl _,by omega,rfl,HU0,HLo⟩
      case round=>
       clear HU0 HLo b0 b1;obtain⟨j,u,rfl,hj1,hj,rfl,hU,hLo⟩:=hrel;have HBq:=zH (HBr.out.below hLo.out);obtain⟨b0,b1⟩:=two HBq.out
       by_cases hjt:j<gv.length - 1
       ·have n2:(j:Int)<(gv.length:Int)-1:=by omega
        obtain⟨hh,hhe⟩:∃hh,Co.has (j:Int) k=hh:=⟨_,rfl⟩;have HHp:=zH (fun W=>Zce (j:Int) (by omega) k (by omega) hh hhe W);obtain⟨bb,hbb⟩:∃bb,Cr.bit hh=bb:=⟨_,rfl⟩;have HBb:=zH hbb;have HMj:Hid (MF j=MF (j-1)++[bb]):=by show _=_;rw[HMm.out j hj1,hhe,hbb]
        have hMl2:(MF (j-1)).length≤32:=by have:=HMl.out (j-1);omega
        generalize MF (j-1)=M at *;clear hhe hbb
        go_wp2_with fail
        refine (HHp.out _).mono ?_;rintro e w4 ⟨rfl,rfl⟩
        go_wp2_with fail
        refine (Znj hh bb HBb.out _).mono ?_;rintro e w4 ⟨rfl,rfl⟩;have HO4:=zH (hLo.out.alloc hLo.out.size (.cells #[.int .i64 bb] 3));have HU4:Hid (Zab wx.heap.size (wr.alloc (.cells #[.int .i64 bb] 3)) u M):=hU.out.below ((Below.refl _ _).alloc (Nat.le_refl _) _);have Hone:=zH ((Zaa.new wr #[.int .i64 bb] 3).cell 0);clear hU hLo
        go_wp2_with (at_builtin;refine Zat rfl _ _ rfl wx.heap.size _ M rfl HU4.out wr.heap.size bb rfl Hone.out (by omega) (by have:=HO4.out.size;omega) ?_)
        intro v' w8 hown hgrow _;rw[<-HMj.out] at hown;obtain⟨a8,c8,rfl⟩:=Zak hown;have HU8:=zH hown;have HO8:=zH (HO4.out.grown hgrow HO4.out.size (fun g hg=>(World.ownsRow.lt HU4.out g hg).1));clear hown hgrow HU4 HO4 Hone
        go_wp2_with fail
        go_roundw
        case rel=>exact⟨j+1,_,rfl,by omega,by omega,by go_num,HU8,HO8⟩
        case measure=>simp[intOf];omega
       ·have hje:j=gv.length-1:=by omega
        have hU2:=hU.out;rw[hje,show gv.length-1-1=gv.length-2 by omega] at hU2;have HU2:=zH hU2;obtain⟨au2,cu2,hsh⟩:=Zak hU2;subst hsh;have hM32:(MF (gv.length-2)).length≤32:=by have:=HMl.out (gv.length-2);omega
        generalize MF (gv.length-2)=M at *;obtain⟨ME,hME⟩:∃ME,M++[-1]=ME:=⟨_,rfl⟩;have HME:=zH hME;rw[hME] at HRk;clear hME;have hAl:(RF k).length≤5:=by have:=HRl.out k;omega
        have hBl:(ZF k).length≤5:=by have:=HZl.out k;omega
        have HZk:=zH (HZm.out k);generalize RF k=A at *;generalize ZF k=Z at *;have hSw:=hS.out.below hLo.out;obtain⟨⟨aA,cA,hvA⟩,⟨aB,cB,hvB⟩⟩:=hS.out.ab.shape;subst hvA hvB;obtain⟨c0,_,_,_⟩:=hSw.be.box.cells;have hqw:=hSw.be.lt;have HQ:=zH hqw.1;have hXd:wr.drew.heap.size=wr.heap.size:=rfl;clear hU2 hU hje HMm HMl
        go_upto_region 19 with fail
        refine Zai (S:=(fun w'=>w'.cell? ⟨q,0,none⟩=some (.slice aA A.length cA))) 6 (by kernel_rfl) ?_ (fun hHeld=>?_)
        ·exact c0
        refine tk2 0 ⟨some 74,_,0,_,_,none⟩ ?_;refine tk2 1 ⟨some 75,_,45,_,_,none⟩ ?_;refine tk2 2 ⟨some 76,_,22,_,_,none⟩ ?_
        try simp only[Act.put,zA,zB,zC]
        have hL1:Below wx.heap.size wx (wr.drew.alloc (.cells #[.int .i64 (-1)] 3)):=hLo.out.drew.alloc hLo.out.size _;have hU4:Zab wx.heap.size (wr.drew.alloc (.cells #[.int .i64 (-1)] 3)) (.slice au2 M.length cu2) M:=HU2.out.below ((Below.refl _ _).drew.alloc (Nat.le_refl _) _);have hone:=(Zaa.new wr.drew #[.int .i64 (-1)] 3).cell 0;have c1:=((hS.out.below hL1).be.box.cells).1;refine rd2 3 ⟨some 77,_,22,_,_,none⟩ fun K hK=>?_
        go_simp
        refine hK.out _ _ ?_ (fun hHeld=>?_)
        ·exact c1
        clear hK K
        try simp only[Act.put,zA,zB,zC]
        refine rd2 4 ⟨some 78,_,22,_,_,none⟩ fun K hK=>?_
        (refine Za7 rfl _ _ rfl wx.heap.size _ M rfl hU4 wr.drew.heap.size (-1) rfl hone (by omega) hL1.size ?_;intro v8 w8 hown hgrow _;rw[HME.out] at hown;have hL2:=hL1.grown hgrow hL1.size (fun g hg=>(World.ownsRow.lt hU4 g hg).1);obtain⟨a8,c8,rfl⟩:=Zak hown;have c2:=((hS.out.below hL2).be.box.cells).1)
        refine hK.out _ _ ?_ (fun hHeld=>?_)
        ·exact c2
        clear hK K
        try simp only[Act.put,zA,zB,zC]
        have hL3:=hL2.alloc hL2.size (.cells #[.slice a8 ME.length c8] 22);have hSx:=hS.out.below hL3;obtain⟨vs,k1,k2,k3⟩:=hS.out.later hL3;have c3:=hSx.be.box.cells.1;have hu3:=(Zaa.new w8 #[.slice a8 ME.length c8] 22).cell 0;have hr3:Zab n0 (w8.alloc (.cells #[.slice a8 ME.length c8] 22)) (.slice a8 ME.length c8) ME:=(hown.below ((Below.refl _ _).alloc (Nat.le_refl _) _)).raise hS.out.sz.2;have hap:∀(j:Nat) (u1:Value),((Value.slice aB Z.length cB)::vs)[j]? = some u1->∀b,u1.ownBlock=some b->(Value.slice a8 ME.length c8).ownBlock≠some b:=fun j u1 e b hb hb2=>by
         have:=k3 j u1 e b hb;have:=(World.ownsRow.lt hown b hb2).1;omega
        refine rd2 5 ⟨some 79,_,45,_,_,none⟩ fun K hK=>?_
        go_simp
        refine hK.out _ _ ?_ (fun hHeld=>?_)
        ·exact c3
        clear hK K
        try simp only[Act.put,zA,zB,zC]
        refine rd3 6 ⟨some 80,_,45,_,_,none⟩ fun K hK=>?_
        (refine Za6 rfl _ _ rfl n0 _ _ A Z vs rfl k1 k2 w8.heap.size _ ME rfl hu3 hr3 hap (by omega) hSx.sz.2 ?_;intro v6 w6 hab hgrow6)
        refine hK.out _ _ ?_;clear hK K
        try simp only[Act.put,zA,zB,zC]
        rw[<-HRk.out] at hab;obtain⟨⟨a6',c6',rfl⟩,_⟩:=hab.shape;obtain⟨y0,y1,y2,f0,f1,f2⟩:=(hSx.be.triA hgrow6).cells;refine rd3 7 ⟨some 81,_,0,_,_,none⟩ fun K hK=>?_
        go_simp
        refine hK.out _ _ ?_;clear hK K
        try simp only[Act.put,zA,zB,zC]
        refine rd3 8 ⟨none,_,0,_,_,none⟩ fun K hK=>?_
        go_simp
        refine hK.out _ _ ?_;clear hK K;refine Zas (by kernel_rfl) ?_ _;have HS9:=zH (hSx.putA hgrow6 hab);clear hL1 hU4 hone c0 c1 c2 c3 hown hgrow hL2 hL3 hSx k1 k2 k3 hu3 hr3 hap hab hgrow6 y0 y1 y2 f0 f1 f2 hSw hqw hXd
        go_upto_region 20 with fail
        generalize w6.setCell ⟨q,0,none⟩ (.slice a6' (RF (k+1)).length c6')=w9 at *;obtain⟨c0,c1,c2,_⟩:=HS9.out.be.box.cells;have HS10:=zH (HS9.out.alloc (.cells #[.int .i64 0] 3));have Hcy:=zH ((Zaa.new w9 #[.int .i64 0] 3).cell 0);clear HS9
        go_wp2_with (at_builtin;refine Zat rfl _ _ rfl n0 _ Z rfl HS10.out.ab.b w9.heap.size 0 rfl Hcy.out (by omega) HS10.out.sz.2 ?_)
        intro v6 w6 hown6 hgrow6 hat6;rw[<-HZk.out] at hown6;obtain⟨a7,c7,rfl⟩:=Zak hown6;obtain⟨y0,y1,y2,f0,f1,f2⟩:=(HS10.out.be.triB hgrow6).cells;have HSn:=zH (HS10.out.putB hgrow6 hown6 (by rw[Zar];exact hat6));clear hown6 hgrow6 hat6 HS10 Hcy c0 c1 c2
        go_wp2_with fail
        go_roundw
        case rel=>exact⟨k+1,_,_,by omega,by go_num,HSn⟩
        case measure=>simp[intOf];omega
     ·have hke:k=m:=by omega
      subst hke;have hAl:(RF k).length≤5:=by have:=HRl.out k;omega
      have hBl:(ZF k).length≤5:=by have:=HZl.out k;omega
      obtain⟨⟨aA,cA,hvA⟩,⟨aB,cB,hvB⟩⟩:=hS.out.ab.shape;subst hvA hvB;have HEn:Hid (Le.least ⟨(k:Int),gv⟩=⟨RF k++[O++[0]],ZF k++[1],CE⟩):=by
       show _=_;rw[HE.out,HCE.out]
      generalize RF k=A at *;generalize ZF k=Z at *;obtain⟨c0,_,_,_⟩:=hS.out.be.box.cells;have hqw:=hS.out.be.lt;obtain⟨OE,hOE⟩:∃OE,O++[0]=OE:=⟨_,rfl⟩;obtain⟨AE,hAE⟩:∃AE,A++[OE]=AE:=⟨_,rfl⟩;obtain⟨ZE,hZE⟩:∃ZE,Z++[1]=ZE:=⟨_,rfl⟩;rw[hOE,hAE,hZE] at HEn;have HOE:=zH hOE;have HAE:=zH hAE;have HZE:=zH hZE;clear HE HRm HRl HZm HZl hOE hAE hZE
      go_upto_region 21 with fail
      clear b0 b1;refine Zai (S:=(fun w'=>w'.cell? ⟨q,0,none⟩=some (.slice aA A.length cA))) 6 (by kernel_rfl) ?_ (fun hHeld=>?_)
      ·exact c0
      refine tk2 0 ⟨some 87,_,0,_,_,none⟩ ?_;refine tk2 1 ⟨some 88,_,45,_,_,none⟩ ?_;refine tk2 2 ⟨some 89,_,22,_,_,none⟩ ?_
      try simp only[Act.put,zA,zB,zC]
      have hL1:Below wr.heap.size wr (wr.drew.alloc (.cells #[.int .i64 0] 3)):=(Below.refl _ _).drew.alloc (Nat.le_refl _) _;have hS4:=hS.out.below hL1;have hone:=(Zaa.new wr.drew #[.int .i64 0] 3).cell 0;have c1:=hS4.be.box.cells.1;refine rd2 3 ⟨some 90,_,22,_,_,none⟩ fun K hK=>?_
      go_simp
      refine hK.out _ _ ?_ (fun hHeld=>?_)
      ·exact c1
      clear hK K
      try simp only[Act.put,zA,zB,zC]
      refine rd2 4 ⟨some 91,_,22,_,_,none⟩ fun K hK=>?_
      (refine Za7 rfl _ _ rfl W0.heap.size _ O rfl hS4.own wr.drew.heap.size 0 rfl hone (by omega) (Nat.le_of_lt hS4.be.lt.2) ?_;intro v8 w8 hown hgrow hat;rw[HOE.out] at hown;obtain⟨hbe,vs,k1,k2,k3⟩:=hS4.Zrf hgrow hown hat;obtain⟨a8,c8,rfl⟩:=Zak hown;have c2:=hbe.box.cells.1)
      refine hK.out _ _ ?_ (fun hHeld=>?_)
      ·exact c2
      clear hK K
      try simp only[Act.put,zA,zB,zC]
      have hA1:Below w8.heap.size w8 (w8.alloc (.cells #[.slice a8 OE.length c8] 22)):=(Below.refl _ _).alloc (Nat.le_refl _) _;have hSx:=hbe.below hA1;have k1':=Zan k1 fun g hg=>hA1.block g (World.ownsRow.lt k1 g hg).2
      have k2':=k2.kept fun b _ e2 _=>hA1.block b e2
      have c3:=hSx.box.cells.1;have hu3:=(Zaa.new w8 #[.slice a8 OE.length c8] 22).cell 0;have hr3:=hown.below hA1;refine rd2 5 ⟨some 92,_,45,_,_,none⟩ fun K hK=>?_
      go_simp
      refine hK.out _ _ ?_ (fun hHeld=>?_)
      ·exact c3
      clear hK K
      try simp only[Act.put,zA,zB,zC]
      refine rd3 6 ⟨some 93,_,45,_,_,none⟩ fun K hK=>?_
      (refine Za6 rfl _ _ rfl W0.heap.size _ _ A Z vs rfl k1' k2' w8.heap.size _ OE rfl hu3 hr3 k3 (by omega) (Nat.le_of_lt hSx.lt.2) ?_;intro v6 w6 hab hgrow6)
      refine hK.out _ _ ?_;clear hK K
      try simp only[Act.put,zA,zB,zC]
      rw[HAE.out] at hab;obtain⟨⟨a6',c6',rfl⟩,_⟩:=hab.shape;obtain⟨y0,y1,y2,f0,f1,f2⟩:=(hSx.triA hgrow6).cells;refine rd3 7 ⟨some 94,_,0,_,_,none⟩ fun K hK=>?_
      go_simp
      refine hK.out _ _ ?_;clear hK K
      try simp only[Act.put,zA,zB,zC]
      refine rd3 8 ⟨none,_,0,_,_,none⟩ fun K hK=>?_
      go_simp
      refine hK.out _ _ ?_;clear hK K;refine Zas (by kernel_rfl) ?_ _;have HS9:=zH (hSx.putA hgrow6 hab);clear hL1 hS4 hone c0 c1 c2 c3 hown hgrow hat hbe hA1 hSx k1 k2 k3 k1' k2' hu3 hr3 hab hgrow6 y0 y1 y2 f0 f1 f2 hqw hS
      go_upto_region 22 with fail
      generalize w6.setCell ⟨q,0,none⟩ (.slice a6' AE.length c6')=w9 at *;obtain⟨c0,c1,c2,_⟩:=HS9.out.box.cells;have HS10:=zH (HS9.out.alloc (.cells #[.int .i64 1] 3));have Hcy:=zH ((Zaa.new w9 #[.int .i64 1] 3).cell 0);clear HS9
      go_wp2_with (at_builtin;refine Zat rfl _ _ rfl W0.heap.size _ Z rfl HS10.out.ab.b w9.heap.size 1 rfl Hcy.out (by omega) (Nat.le_of_lt HS10.out.lt.2) ?_)
      intro v6 w8 hown6 hgrow6 hat6;rw[HZE.out] at hown6;obtain⟨a7,c7,rfl⟩:=Zak hown6;obtain⟨y0,y1,y2,f0,f1,f2⟩:=(HS10.out.triB hgrow6).cells;have HSn:=zH (HS10.out.putB hgrow6 hown6 (by rw[Zar];exact hat6));clear hown6 hgrow6 hat6 HS10 Hcy c0 c1 c2
      go_upto_region 23 with fail
      clear y0 y1 y2 f0 f1 f2;generalize w8.setCell ⟨q,1,none⟩ (.slice a7 ZE.length c7)=w10 at *;obtain⟨y0,y1,y2,_⟩:=HSn.out.box.cells;obtain⟨z0,z1,z2,f0,f1,f2⟩:=HSn.out.res.cells;have HF:=zH HSn.out.fin;have hs:=HS0.out;have HF2:=HF.out;rw[hs] at z0 z1 z2 f0 f1 f2 HF2;have HF3:=zH HF2;clear HF HF2 HSn
      go_wp2_with fail
      refine bodyPost_ret (v:=.tuple #[.agg #[.slice a6' AE.length c6',.slice a7 ZE.length c7,.slice a6 CE.length c6],.bool true]) (by
       obtain⟨z0,z1,z2,_⟩:=HF3.out.1.cells;revert z0 z1 z2;generalize (World.setCell _ (⟨w.heap.size+1,2,none⟩:Addr) (.slice a6 CE.length c6))=W4;intro z0 z1 z2;simp[results,Tryz.results14,go_sem,z0,z1,z2]) rfl ?_
      rw[HEn.out,HC.out];exact⟨_,_,_,rfl,HF3.out.2.1.raise (Nat.le_succ _),Zad.raise HF3.out.2.2.1 (Nat.le_succ _),HB0.out.trans (HF3.out.2.2.2.mono (Nat.le_succ _))⟩
end Go.Proofs.YtpjnjidbdpfdcaaGreat
