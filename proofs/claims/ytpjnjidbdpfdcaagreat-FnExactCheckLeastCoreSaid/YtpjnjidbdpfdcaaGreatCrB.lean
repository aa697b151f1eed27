/- impl: memberRow, BalancedLP. -/
import Derived.Test.YtpjnjidbdpfdcaaGreatGLk
import Derived.Test.YtpjnjidbdpfdcaaGreatGmI
import Derived.Test.YtpjnjidbdpfdcaaGreatCoB
set_option maxRecDepth 100000
set_option maxHeartbeats 4000000
namespace Go.Proofs.YtpjnjidbdpfdcaaGreat
open Go.RowKit
open Ve (R)
open Gm (G)
def GmX (w:World) (x y:Value) (g:G):Prop:=GmC w x y g/\∀(b:Option Addr) (n c:Nat),y=.slice b n c->g.v.length≤c
theorem GmX.up {w w':World} {x y:Value} {g:G} (h:GmX w x y g) (hb:Below w.heap.size w w'):GmX w' x y g:=⟨h.1.up hb,h.2⟩
theorem Zj9 {lo:Nat} {w:World} {b:Option Addr} {n c:Nat} {xs:List Int} (h:Zab lo w (.slice b n c) xs):xs.length≤c:=by
 obtain⟨_,⟨e,h2⟩ | ⟨g,cap,cur,e,_,_,h3,_⟩⟩:=h
 ·omega
 ·injection e with e1 e2 e3
  omega
theorem Zck.Zfq {lo hi:Nat} {w:World} {x y:Value} {g:G} (h:Zck lo hi w (.agg #[x,y]) g):GmX w x y g:=by
 refine⟨h.Zbo,fun b n c e=>?_⟩;obtain⟨vV,e2,⟨a',c',e3,hr⟩,_⟩:=h;injection e2 with e2
 have e4:y=vV:=by have:=congrArg (fun q=>q[1]?) e2;simpa using this
 subst e4
 by_cases h0:g.v.length=0
 ·omega
 ·have h1:=(hr h0).1
  rw[e] at h1;exact Zj9 h1
theorem Zqx {w:World} {x y:Value} {g:G} (h:GmC w x y g) (hf:GmOk g) :
  Calls Tryz.prog 7 #[.agg #[x,y]] w fun e w'=>(∃x y:Value,e=.returned (.agg #[x,y])/\GmX w' x y g)/\Below w.heap.size w w':=
 (Zm4 h hf).mono fun _ _ ⟨⟨x,y,h1,h2⟩,hb⟩=>⟨⟨x,y,h1,h2.Zfq⟩,hb⟩
namespace Cr
theorem Zn3:∀s:Fin 32,∀k:Fin 5,Co.size (Co.ovl (s.val:Int) (2 ^ k.val) 5) 5=bit (Co.has (s.val:Int) k.val):=by decide +kernel
theorem Zpk {s k:Nat} (hs:s<32) (hk:k<5):Co.size (Co.ovl (s:Int) (2 ^ k) 5) 5=bit (Co.has (s:Int) k):=Zn3 ⟨s,hs⟩ ⟨k,hk⟩
end Cr
theorem Zf6 (m k:Nat) (hm1:1≤m) (hm5:m≤5) (hk:k<5) (w:World) :
  Calls Tryz.prog 76 #[.int .i64 m,.int .i64 k] w fun e w'=>∃v,e=.returned v/\Zab w.heap.size w' v (Cr.mrow k (2 ^ m-1))/\Below w.heap.size w w':=by
 have hp:2 ^ m≤32:=Nat.pow_le_pow_right (by omega) hm5;have hp2:2 ^ 1≤2 ^ m:=Nat.pow_le_pow_right (by omega) hm1;have HC:=zH (fun W=>Zby m hm5 W);obtain⟨N,hN⟩:∃N,2 ^ m=N:=⟨_,rfl⟩;rw[hN] at HC hp hp2;rw[hN];have HMm:Hid (∀j,1≤j->Cr.mrow k j=Cr.mrow k (j-1)++[Cr.bit (Co.has (j:Int) k)]):=fun j hj=>by
  have h:=Cr.Zfo k (j-1);rw[show j-1+1=j by omega,show ((j-1:Nat):Int)+1=j by omega] at h;exact h
 have HMl:Hid (∀j,(Cr.mrow k j).length=j):=fun j=>Cr.Zco k j
 have HWr:Hid (wrap64 ((2:Int) ^ k)=2 ^ k):=by have h2:=Co.Zm6 k hk;show wrap64 _=_;unfold wrap64;omega
 have HGk:Hid (Co.good ((2:Int) ^ k)=true):=by
  have:=Co.Zm6 k hk;show Co.good _=true;unfold Co.good;rw[decide_eq_true_iff];omega
 have HGs:Hid (∀j:Nat,j<N->Co.good (j:Int)=true):=fun j hj=>by
  unfold Co.good;rw[decide_eq_true_iff];omega
 have HOv:Hid (∀j:Nat,j<N->Co.size (Co.ovl (j:Int) (2 ^ k) 5) 5=Cr.bit (Co.has (j:Int) k)):=fun j hj=>Cr.Zpk (by omega) hk
 have HM0:Hid (Cr.mrow k 0 = []):=rfl;generalize Cr.mrow k=MF at *;have HU0:Hid (Zab w.heap.size w (.slice none 0 0) (MF 0)):=by show Zab _ _ _ _;rw[HM0.out];exact World.ownsRow_nil _ _ _ _
 have HL0:Hid (Below w.heap.size w w):=Below.refl _ _;clear hN HM0
 go_enter Tryz.func76,Tryz.ntmps76
 go_wp2_with fail
 go_loopw [5,6] (fun v i wr=>∃(j:Nat) (u:Value),u=v/\1≤j/\j≤N/\i=.int .i64 j/\Hid (Zab w.heap.size wr u (MF (j-1)))/\Hid (Below w.heap.size w wr)) (fun _ i _=>N-(intOf i).toNat)
 case atStart=>exact⟨1,_,rfl,Nat.le_refl _,by omega,rfl,HU0,HL0⟩
 case round=>
  clear HU0 HL0;obtain⟨j,u,rfl,hj1,hj,rfl,hU,hLo⟩:=hrel
  by_cases hjt:j<N
  ·have n2:(j:Int)<(N:Int):=by omega
   obtain⟨bb,hbb⟩:∃bb,Cr.bit (Co.has (j:Int) k)=bb:=⟨_,rfl⟩;have HMj:Hid (MF j=MF (j-1)++[bb]):=by show _=_;rw[HMm.out j hj1,hbb]
   have hMl2:(MF (j-1)).length≤32:=by have:=HMl.out (j-1);omega
   have HOj:=zH (fun W=>Zhv (j:Int) ((2:Int) ^ k) (HGs.out j hjt) HGk.out W);obtain⟨ov,hov⟩:∃ov,Co.ovl (j:Int) (2 ^ k) 5=ov:=⟨_,rfl⟩;rw[hov] at HOj;have HSj:Hid (∀W,Calls Tryz.prog 88 #[.int .i64 ov] W fun e w'=>e=.returned (.int .i64 bb)/\W=w'):=fun W=>by
    have h:=Ziz ov W;rw[<-hov,HOv.out j hjt,hbb] at h;rw[<-hov];exact h
   generalize MF (j-1)=M at *;clear hbb hov
   go_wp2_with fail
   refine (HC.out _).mono ?_;rintro e w4 ⟨rfl,rfl⟩
   go_wp2_with fail
   rw[HWr.out];refine (HOj.out _).mono ?_;rintro e w4 ⟨rfl,rfl⟩
   go_wp2_with fail
   refine (HSj.out _).mono ?_;rintro e w4 ⟨rfl,rfl⟩;have HO4:=zH (hLo.out.alloc hLo.out.size (.cells #[.int .i64 bb] 3));have HU4:Hid (Zab w.heap.size (wr.alloc (.cells #[.int .i64 bb] 3)) u M):=hU.out.below ((Below.refl _ _).alloc (Nat.le_refl _) _);have Hone:=zH ((Zaa.new wr #[.int .i64 bb] 3).cell 0);clear hU hLo
   go_wp2_with (at_builtin;refine Zat rfl _ _ rfl w.heap.size _ M rfl HU4.out wr.heap.size bb rfl Hone.out (by omega) (by have:=HO4.out.size;omega) ?_)
   intro v' w8 hown hgrow _;rw[<-HMj.out] at hown;obtain⟨a8,c8,rfl⟩:=Zak hown;have HU8:=zH hown;have HO8:=zH (HO4.out.grown hgrow HO4.out.size (fun g hg=>(World.ownsRow.lt HU4.out g hg).1));clear hown hgrow HU4 HO4 Hone
   go_wp2_with fail
   go_roundw
   case rel=>exact⟨j+1,_,rfl,by omega,by omega,by go_num,HU8,HO8⟩
   case measure=>simp[intOf];omega
  ·have hje:j=N:=by omega
   have hU2:=hU.out;rw[hje] at hU2;have HU2:=zH hU2;obtain⟨au,cu,hsh⟩:=Zak hU2;subst hsh;clear hU2 hU
   go_wp2_with fail
   refine (HC.out _).mono ?_;rintro e w4 ⟨rfl,rfl⟩
   go_wp2_with fail
   go_ret;exact⟨_,rfl,HU2.out,hLo.out⟩
theorem Zfg {w:World} {x y:Value} {g:G} (h:GmX w x y g) (hf:GmOk g) :
  Calls Tryz.prog 59 #[.agg #[x,y]] w (Zcj (Cr.bal g) (Gm.vld g) w):=by
 obtain⟨gn,gv⟩:=g;obtain⟨⟨a,c,rfl,rfl,hi⟩,hroom⟩:=h;have hcap:gv.length≤c:=hroom _ _ _ rfl;have hl:gv.length≤1048576:=hf.1;dsimp only at hi ⊢;obtain⟨W0,hW0⟩:∃W0,W0=w.alloc (.cells #[.int .i64 gn,.slice a gv.length c] 33):=⟨_,rfl⟩;obtain⟨W,hW⟩:∃W,W=W0.alloc (.cells #[.slice none 0 0,.slice none 0 0,.slice none 0 0] 47):=⟨_,rfl⟩;have hs0:W0.heap.size=w.heap.size+1:=by rw[hW0];exact Zar _ _
 have hb0:Below w.heap.size w W0:=by rw[hW0];exact (Below.refl _ _).alloc (Nat.le_refl _) _
 have hb1:Below W0.heap.size W0 W:=by rw[hW];exact (Below.refl _ _).alloc (Nat.le_refl _) _
 have hbox0:Zaa W0 w.heap.size #[.int .i64 gn,.slice a gv.length c] 33:=by rw[hW0];exact Zaa.new _ _ _
 have hbox:=hbox0.below hb1;have hgm:GmC W (.int .i64 gn) (.slice a gv.length c) ⟨gn,gv⟩:=GmC.up (GmC.up (g:=⟨gn,gv⟩) ⟨a,c,rfl,rfl,hi⟩ hb0) hb1;have hres:Tri W W0.heap.size (.slice none 0 0) (.slice none 0 0) (.slice none 0 0) 47:=by rw[hW];exact Tri.new _ _ _ _ _
 have HF:=zH hf;have HGM:=zH hgm;have HRes:=zH hres;have HBox:=zH hbox;have HBx0:=zH hbox0;have HB0:=zH hb0;have HB1:=zH hb1;have HI:=zH (hi.below hb0);have HS0:=zH hs0;have HW:Hid ((w.alloc (.cells #[.int .i64 gn,.slice a gv.length c] 33)).alloc (.cells #[.slice none 0 0,.slice none 0 0,.slice none 0 0] 47)=W):=by show _=_;rw[hW,hW0]
 clear hf hgm hres hbox hbox0 hb0 hb1 hi hs0 hW hW0 hroom
 rcases hv:Gm.vld ⟨gn,gv⟩ with _|_
 ·have HV:=zH hv
  have HE:=zH (Cr.Zqc hv);clear hv;obtain⟨b0,b1⟩:=two HBox.out
  go_enter Tryz.func59,Tryz.ntmps59
  go_upto_region 1 with fail
  rw[HW.out]
  go_wp2_with fail
  refine (Zam false HV.out HGM.out HF.out).mono ?_;rintro e w1 ⟨rfl,k1⟩;have HR1:=zH (HRes.out.below k1);have HB2:=zH ((HB1.out.trans (k1.mono HB1.out.size)));clear k1 b0 b1;obtain⟨z0,z1,z2,f0,f1,f2⟩:=HR1.out.cells;have hs:=HS0.out;rw[hs] at z0 z1 z2 f0 f1 f2
  go_wp2_with fail
  have hF:=HR1.out;rw[hs] at hF;refine bodyPost_ret (v:=.tuple #[.agg #[.slice none 0 0,.slice none 0 0,.slice none 0 0],.bool false]) (by
   obtain⟨z0,z1,z2,_⟩:=(((hF.set0 (.slice none 0 0)).set1 (.slice none 0 0)).set2 (.slice none 0 0)).cells;revert z0 z1 z2;generalize (World.setCell _ (⟨w.heap.size+1,2,none⟩:Addr) (.slice none 0 0))=W4;intro z0 z1 z2;simp[results,Tryz.results59,go_sem,z0,z1,z2]) rfl ?_
  rw[HE.out];have hB:=HB0.out.trans (HB2.out.mono (by omega));exact⟨_,_,_,rfl,Zax.nil _ _,World.ownsRow_nil _ _ _ _,((hB.setCell (p:=⟨w.heap.size+1,0,none⟩) (Nat.le_succ _) _).setCell (p:=⟨w.heap.size+1,1,none⟩) (Nat.le_succ _) _).setCell (p:=⟨w.heap.size+1,2,none⟩) (Nat.le_succ _) _⟩
 ·have HV:=zH hv
  have hn:=Gm.Zjo hv;have hlen:=Gm.Zbp hv;have hpw:=Gm.Zeh hv;dsimp only at hn hlen hpw;obtain⟨m,rfl⟩:∃m:Nat,gn=m:=⟨gn.toNat,by omega⟩;have hm5:m≤5:=by omega
  have hm1:1≤m:=by omega
  rw[Int.toNat_natCast] at hpw;have HBd:=zH (fun k (hk:k<gv.length)=>Gm.Zm9 hv (k:=k) hk);have HE:Hid (Cr.bal ⟨(m:Int),gv⟩=⟨Cr.Zca (gv.length-1) m,Cr.Zbc m,Cr.cost ⟨(m:Int),gv⟩ (gv.length-1)⟩):=by
   show _=_;rw[Cr.Zlj hv];unfold Cr.lp;simp
  dsimp only at HBd;have HCm:Hid (∀k,Cr.cost ⟨(m:Int),gv⟩ (k+1)=Cr.cost ⟨(m:Int),gv⟩ k++[(-(gv.getD (k+1) 0),1)]):=fun k=>Cr.Zfb ⟨(m:Int),gv⟩ k
  have HCl:Hid (∀k,(Cr.cost ⟨(m:Int),gv⟩ k).length=k):=fun k=>Cr.Zcl _ k
  have hCz:Cr.cost ⟨(m:Int),gv⟩ 0 = []:=rfl;generalize Cr.cost ⟨(m:Int),gv⟩=CF at *;have HCz:=zH hCz;have HRow:Hid (∀(k:Nat) (_:k<m) (W:World),Calls Tryz.prog 76 #[.int .i64 m,.int .i64 k] W fun e w'=>∃v,e=.returned v/\Zab W.heap.size w' v (Cr.mrow k (gv.length-1))/\Below W.heap.size W w'):=fun k hk W=>by
   rw[hpw];exact Zf6 m k hm1 hm5 (by omega) W
  have HRm:Hid (∀j,Cr.Zca (gv.length-1) (j+1)=Cr.Zca (gv.length-1) j++[Cr.mrow j (gv.length-1)]):=fun j=>Cr.Zjf _ j
  have HRl:Hid (∀j,(Cr.Zca (gv.length-1) j).length=j):=fun j=>Cr.Zk5 _ j
  have HOm:Hid (∀j,Cr.Zbc (j+1)=Cr.Zbc j++[1]):=fun j=>Cr.Zfp j
  have HOl:Hid (∀j,(Cr.Zbc j).length=j):=fun j=>Cr.Zec j
  have HMrl:Hid (∀j,(Cr.mrow j (gv.length-1)).length=gv.length-1):=fun j=>Cr.Zco j _
  have hR0:Cr.Zca (gv.length-1) 0 = []:=rfl;have hO0:Cr.Zbc 0 = []:=rfl;generalize Cr.Zca (gv.length-1)=RF at *;generalize Cr.Zbc=OF at *;obtain⟨MR,hMR⟩:∃MR:Nat->List Int,MR=fun j=>Cr.mrow j (gv.length-1):=⟨_,rfl⟩
  have hMRj:∀j,Cr.mrow j (gv.length-1)=MR j:=fun j=>by rw[hMR]
  simp only[hMRj] at HRow HRm HMrl;have HR0:=zH hR0;have HO0:=zH hO0;have HMz:=zH hpw;clear hn hv hCz hR0 hO0 hMRj hMR hpw;obtain⟨b0,b1⟩:=two HBox.out
  go_enter Tryz.func59,Tryz.ntmps59
  go_upto_region 1 with fail
  rw[HW.out]
  go_wp2_with fail
  refine (Zam true HV.out HGM.out HF.out).mono ?_;rintro e w1 ⟨rfl,k1⟩;have hR1:=HRes.out.below k1;have hlr:=Zag hR1;have HBx1:=zH (HBox.out.below k1);have HS1:Hid (LpBe w1.heap.size W0 (w1.alloc (.cells #[.slice none 0 0,.slice none 0 0,.slice none 0 0] 47)) (.slice none 0 0) (.slice none 0 0) (.slice none 0 0) (RF 0) (OF 0) (CF 0)):=
   ⟨hlr,Tri.new w1 _ _ _ _,hR1.more _,by rw[HR0.out,HO0.out];exact Zax.nil _ _,by rw[HCz.out];exact World.ownsRow_nil _ _ _ _,(HB1.out.trans (k1.mono HB1.out.size)).alloc (by omega) _⟩
  have HBx2:=zH (HBx1.out.more (.cells #[.slice none 0 0,.slice none 0 0,.slice none 0 0] 47));clear b0 b1 k1 hR1 hlr HRes HBox HB1 HGM HF HBx1;obtain⟨b0,b1⟩:=two HBx2.out
  go_wp2_with fail
  generalize w1.heap.size=q at *;generalize w1.alloc (.cells #[.slice none 0 0,.slice none 0 0,.slice none 0 0] 47)=w2 at *
  go_loopw [5,14] (fun _ i wr=>∃(k:Nat) (vA vB:Value),k≤m/\i=.int .i64 k/\Hid (LpBe q W0 wr vA vB (.slice none 0 0) (RF k) (OF k) (CF 0))) (fun _ i _=>m-(intOf i).toNat)
  case atStart=>exact⟨0,_,_,Nat.zero_le _,rfl,HS1⟩
  case round=>
   clear b0 b1 HS1 HBx2;obtain⟨k,vA,vB,hk,rfl,hS⟩:=hrel;have hlow:=hS.out.low;have HBr:=zH (HBx0.out.below hlow);obtain⟨b0,b1⟩:=two HBr.out
   by_cases hlt:k<m
   ·obtain⟨e0,e1,e2,_⟩:=hS.out.box.cells
    obtain⟨⟨aA,cA,hvA⟩,⟨aB,cB,hvB⟩⟩:=hS.out.ab.shape;subst hvA hvB;have hqs:=hS.out.lt;have hbs:=Zag HBr.out;have n1:(k:Int)<(m:Int):=by omega
    have hAl:(RF k).length≤5:=by have:=HRl.out k;omega
    have hBl:(OF k).length≤5:=by have:=HOl.out k;omega
    have HRk:Hid (RF (k+1)=RF k++[MR k]):=HRm.out k;have HOk:=zH (HOm.out k);have Cell:=zH (fun w' (h:Since wr w')=>(show w'.cell? ⟨q,0,none⟩=some (.slice aA (RF k).length cA)/\w'.cell? ⟨w.heap.size,0,none⟩=some (.int .i64 (m:Int))/\Since wr w' from ⟨h.cell (p:=⟨q,0,none⟩) hqs.1 e0,h.cell (p:=⟨w.heap.size,0,none⟩) hbs b0,h⟩));have HRw:=zH (fun W=>HRow.out k hlt W);have HMk:=zH (HMrl.out k);have hin:=(Since.refl wr).drew;generalize MR k=M at *;generalize RF k=A at *;clear e0 e1 e2 hlow
    go_upto_region 7 with fail
    clear b0 b1;refine Zai (S:=(fun w'=>w'.cell? ⟨q,0,none⟩=some (.slice aA A.length cA)/\w'.cell? ⟨w.heap.size,0,none⟩=some (.int .i64 (m:Int))/\Since wr w')) 7 (by kernel_rfl) ?_ (fun hHeld=>?_)
    ·exact Cell.out _ hin
    refine tk2 0 ⟨some 17,_,0,_,_,none⟩ ?_;refine tk2 1 ⟨some 18,_,45,_,_,none⟩ ?_;refine tk2 2 ⟨some 19,_,0,_,_,none⟩ ?_;refine tk2 3 ⟨some 20,_,3,_,_,none⟩ ?_;refine tk2 4 ⟨some 21,_,3,_,_,none⟩ ?_
    try simp only[Act.put,zA,zB,zC]
    refine rd2 5 ⟨some 22,_,22,_,_,none⟩ fun K hK=>?_
    go_simp
    (go_at_call 76;refine (HRw.out _).mono ?_;rintro e w9 ⟨u,rfl,hu9,hb9⟩;have hin2:=hin.trans hb9;obtain⟨au,cu,rfl⟩:=Zak hu9)
    refine hK.out _ _ ?_ (fun hHeld=>?_)
    ·exact Cell.out _ hin2
    clear hK K
    try simp only[Act.put,zA,zB,zC]
    have hin3:=hin2.alloc (.cells #[.slice au M.length cu] 22);have hst3:=hS.out.since hin3;obtain⟨vs,k1,k2,k3⟩:=hS.out.later hin3.low;have hcu:=(Zaa.new w9 #[.slice au M.length cu] 22).cell 0;have hu10:Zab W0.heap.size (w9.alloc (.cells #[.slice au M.length cu] 22)) (.slice au M.length cu) M:=(hu9.below ((Below.refl _ _).alloc (Nat.le_refl _) _)).raise (by have:=hqs.2;show W0.heap.size≤wr.heap.size;omega);have hap:∀(j:Nat) (u1:Value),(Value.slice aB (OF k).length cB::vs)[j]? = some u1->∀b,u1.ownBlock=some b->(Value.slice au M.length cu).ownBlock≠some b:=fun j u1 e b hb hb2=>by
     have:=k3 j u1 e b hb;have:=(World.ownsRow.lt hu9 b hb2).1;have h9:wr.drew.heap.size=wr.heap.size:=rfl;omega
    refine rd2 6 ⟨some 23,_,45,_,_,none⟩ fun K hK=>?_
    go_simp
    refine hK.out _ _ ?_ (fun hHeld=>?_)
    ·exact Cell.out _ hin3
    clear hK K
    try simp only[Act.put,zA,zB,zC]
    refine rd3 7 ⟨some 24,_,45,_,_,none⟩ fun K hK=>?_
    (refine Za6 rfl _ _ rfl W0.heap.size _ _ A (OF k) vs rfl k1 k2 w9.heap.size _ M rfl hcu hu10 hap (by omega) (Nat.le_of_lt hst3.lt.2) ?_;intro v6 w6 hab hgrow6)
    refine hK.out _ _ ?_;clear hK K
    try simp only[Act.put,zA,zB,zC]
    rw[<-HRk.out] at hab;obtain⟨⟨a6,c6,rfl⟩,_⟩:=hab.shape;obtain⟨y0,y1,y2,f0,f1,f2⟩:=(hst3.triA hgrow6).cells;refine rd3 8 ⟨some 25,_,0,_,_,none⟩ fun K hK=>?_
    go_simp
    refine hK.out _ _ ?_;clear hK K
    try simp only[Act.put,zA,zB,zC]
    refine rd3 9 ⟨none,_,0,_,_,none⟩ fun K hK=>?_
    go_simp
    refine hK.out _ _ ?_;clear hK K;refine Zas (by kernel_rfl) ?_ _;have HS9:=zH (hst3.putA hgrow6 hab);clear hst3 hin2 hin3 hu9 hb9 hab hgrow6 y0 y1 y2 f0 f1 f2 hS hin Cell k1 k2 k3 hcu hu10 hap HRw
    go_upto_region 8 with fail
    generalize w6.setCell ⟨q,0,none⟩ (.slice a6 (RF (k+1)).length c6)=w7 at *;obtain⟨c0,c1,c2,_⟩:=HS9.out.box.cells;have HS10:=zH (HS9.out.alloc (.cells #[.int .i64 1] 3));have Hcy:=zH ((Zaa.new w7 #[.int .i64 1] 3).cell 0);clear HS9
    go_wp2_with (at_builtin;refine Zat rfl _ _ rfl W0.heap.size _ (OF k) rfl HS10.out.ab.b w7.heap.size 1 rfl Hcy.out (by omega) (Nat.le_of_lt HS10.out.lt.2) ?_)
    intro v6 w8 hown6 hgrow6 hat6;rw[<-HOk.out] at hown6;obtain⟨a7,c7,rfl⟩:=Zak hown6;obtain⟨y0,y1,y2,f0,f1,f2⟩:=(HS10.out.triB hgrow6).cells;have HSn:=zH (HS10.out.putB hgrow6 hown6 (by rw[Zar];exact hat6));clear hown6 hgrow6 hat6 HS10 Hcy c0 c1 c2
    go_wp2_with fail
    go_roundw
    case rel=>exact⟨k+1,_,_,by omega,by go_num,HSn⟩
    case measure=>simp[intOf];omega
   ·have hke:k=m:=by omega
    have hS2:=hS.out;rw[hke] at hS2;have HSr:=zH hS2;generalize RF m=AF at *;generalize OF m=BF at *;have hNr:=HI.out.below (hlow.mono (by have:=HS0.out;omega));obtain⟨b2,o2,rfl,l2,p2⟩:=hNr 0 (by omega);have hc1:(c=1)=False:=eq_false (by omega);have n3:(1:Int)≤(gv.length:Int):=by omega
    have n4:(1:Int)≤(c:Int):=by omega
    have n5:(gv.length:Int)≤(c:Int):=by omega
    clear hS hS2 hlow hNr p2 HRow HRm HRl HOm HOl HMrl hke
    go_wp2_with fail
    clear hlt hk
    go_loopw [7,36] (fun _ i wr=>∃(k:Nat) (vC:Value),k≤gv.length-1/\i=.int .i64 k/\Hid (LpBe q W0 wr vA vB vC AF BF (CF k))) (fun _ i _=>gv.length-1-(intOf i).toNat)
    case atStart=>exact⟨0,_,Nat.zero_le _,rfl,HSr⟩
    case round=>
     clear HSr HBr b0 b1;obtain⟨k,vC,hk,rfl,hS⟩:=hrel;have hlow:=hS.out.low;have hNr:=HI.out.below (hlow.mono (by have:=HS0.out;omega))
     by_cases hlt:k<gv.length - 1
     ·obtain⟨b3,o3,e3,l3,p3⟩:=hNr (k+1) (by omega)
      simp only[Option.some.injEq,Addr.mk.injEq] at e3;obtain⟨rfl,rfl,_⟩:=e3;have hbd:=HBd.out (k+1) (by omega);have HCk:=zH (HCm.out k);have hCl:(CF k).length≤32:=by have:=HCl.out k;omega
      rw[show o2+(k+1)=o2+1+k by omega] at p3;obtain⟨e0,e1,e2,_⟩:=hS.out.box.cells;obtain⟨aC,cC,rfl,_⟩:=Za1 hS.out.c;have hqs:=hS.out.lt;have n1:(k:Int)<((gv.length-1:Nat):Int):=by omega
      generalize gv.getD (k+1) 0=z at *;have hwn:IntKind.i64.wrap (-z)=-z:=IntWalk.i64_in _ (by omega);have Cell:=zH (fun w' (h:Since wr w')=>(show w'.cell? ⟨q,2,none⟩=some (.slice aC (CF k).length cC)/\Since wr w' from ⟨h.cell (p:=⟨q,2,none⟩) hqs.1 e2,h⟩));have hin:=(Since.refl wr).drew;generalize CF k=C at *;clear e0 e1 e2 hlow hNr
      go_upto_region 13 with fail
      clear p3;refine Zai (S:=(fun w'=>w'.cell? ⟨q,2,none⟩=some (.slice aC C.length cC)/\Since wr w')) 6 (by kernel_rfl) ?_ (fun hHeld=>?_)
      ·exact Cell.out _ hin
      refine tk2 0 ⟨some 40,_,0,_,_,none⟩ ?_;refine tk2 1 ⟨some 41,_,36,_,_,none⟩ ?_;refine tk2 2 ⟨some 42,_,3,_,_,none⟩ ?_;refine tk2 3 ⟨some 43,_,3,_,_,none⟩ ?_
      try simp only[Act.put,zA,zB,zC]
      refine rd2 4 ⟨some 44,_,35,_,_,none⟩ fun K hK=>?_
      go_simp
      (go_at_call 61;refine (Zbf (-z) _).mono ?_;rintro e w9 ⟨rfl,hb9⟩;have hin2:=hin.trans hb9)
      refine hK.out _ _ ?_ (fun hHeld=>?_)
      ·exact Cell.out _ hin2
      clear hK K
      try simp only[Act.put,zA,zB,zC]
      have hin3:=hin2.alloc (.cells #[.int .i64 (-z),.int .i64 1] 35);have hst3:=hS.out.since hin3;have hone:=Zja w9 (-z,1);refine rd2 5 ⟨some 45,_,36,_,_,none⟩ fun K hK=>?_
      go_simp
      refine hK.out _ _ ?_ (fun hHeld=>?_)
      ·exact Cell.out _ hin3
      clear hK K
      try simp only[Act.put,zA,zB,zC]
      refine rd3 6 ⟨some 46,_,36,_,_,none⟩ fun K hK=>?_
      (refine Zbu rfl _ _ rfl W0.heap.size _ C rfl hst3.c w9.heap.size 0 [(-z,1)] 1 1 rfl rfl _ hone (by simp;omega) (Nat.le_of_lt hst3.lt.2) ?_;intro v6 w6 hown6 hgrow6)
      refine hK.out _ _ ?_;clear hK K
      try simp only[Act.put,zA,zB,zC]
      rw[<-HCk.out] at hown6;obtain⟨a6,c6,rfl,_⟩:=Za1 hown6;obtain⟨y0,y1,y2,f0,f1,f2⟩:=(hst3.triC hgrow6).cells;refine rd3 7 ⟨some 47,_,0,_,_,none⟩ fun K hK=>?_
      go_simp
      refine hK.out _ _ ?_;clear hK K
      try simp only[Act.put,zA,zB,zC]
      refine rd3 8 ⟨none,_,0,_,_,none⟩ fun K hK=>?_
      go_simp
      refine hK.out _ _ ?_;clear hK K;refine Zas (by kernel_rfl) ?_ _;have HSn:=zH (hst3.putC hgrow6 hown6);clear hst3 hin2 hin3 hone hb9 hown6 hgrow6 y0 y1 y2 f0 f1 f2 hS hin Cell hwn hbd
      go_wp2_with fail
      go_roundw
      case rel=>exact⟨k+1,_,by omega,by go_num,HSn⟩
      case measure=>simp[intOf];omega
     ·have hke:k=gv.length-1:=by omega
      have hS2:=hS.out;rw[hke] at hS2;generalize CF (gv.length-1)=CE at *;have HF:=zH hS2.fin;obtain⟨⟨a9,c9,h9⟩,⟨b9,d9,h8⟩⟩:=hS2.ab.shape;obtain⟨cc9,cC9,h7,_⟩:=Za1 hS2.c;subst h9 h8 h7;obtain⟨e0,e1,e2,_⟩:=hS2.box.cells;obtain⟨z0,z1,z2,f0,f1,f2⟩:=hS2.res.cells;have hs:=HS0.out;have HF2:=HF.out;rw[hs] at z0 z1 z2 f0 f1 f2 HF2;have HF3:=zH HF2;clear hS hS2 HF HF2 hlow hNr hke
      go_wp2_with fail
      refine bodyPost_ret (v:=.tuple #[.agg #[.slice a9 AF.length c9,.slice b9 BF.length d9,.slice cc9 CE.length cC9],.bool true]) (by
       obtain⟨z0,z1,z2,_⟩:=HF3.out.1.cells;revert z0 z1 z2;generalize (World.setCell _ (⟨w.heap.size+1,2,none⟩:Addr) (.slice cc9 CE.length cC9))=W4;intro z0 z1 z2;simp[results,Tryz.results59,go_sem,z0,z1,z2]) rfl ?_
      rw[HE.out];exact⟨_,_,_,rfl,HF3.out.2.1.raise (Nat.le_succ _),Zad.raise HF3.out.2.2.1 (Nat.le_succ _),HB0.out.trans (HF3.out.2.2.2.mono (Nat.le_succ _))⟩
end Go.Proofs.YtpjnjidbdpfdcaaGreat
