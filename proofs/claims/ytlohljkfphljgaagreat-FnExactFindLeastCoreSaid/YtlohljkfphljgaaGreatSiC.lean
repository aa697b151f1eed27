/- impl.LeavingRow. -/
import Derived.Test.YtlohljkfphljgaaGreatGSi
import Derived.Test.YtlohljkfphljgaaGreatHApR
set_option maxRecDepth 100000
set_option maxHeartbeats 4000000
namespace Go.Proofs.YtlohljkfphljgaaGreat
open Go.RowKit
open Ve (R)
open Ta (T)
def quoR (x y:R):R:=if 0<x.1 then Ta.divR y x else (0,0)
def quoK (x y:R):Bool:=decide (0<x.1) && Ta.divK y x
theorem Zn4 (B q:Nat) (a b:Option Addr) (c1 c2:Nat) (L:List (List R)) (B1:List Int) (C:Int) (g0:0≤C) (g1:C≤1000) (hn1:L.length≤1048576) (n k cn:Nat) (hcn:C+(L.length:Int)=n) (hk:k<L.length) (hrl:(rr L k).length=n+1) (hc:cn<n) (w:World) (hq:q<w.heap.size) (hBq:B≤w.heap.size) (h:Zcd B w q a b c1 c2 ⟨L,B1,C⟩) :
    Calls Tryz.prog 74 #[.pointer (some ⟨q,0,none⟩),.int .i64 k,.int .i64 cn] w (Zmr (quoR (Ve.at_ (rr L k) cn) (Ve.at_ (rr L k) n)) (quoK (Ve.at_ (rr L k) cn) (Ve.at_ (rr L k) n)) w):=by
  have hb0:=(Below.refl w.heap.size w).alloc (Nat.le_refl _) (.cells #[.int .i64 0,.int .i64 0] 31);have HT:=zH (h.below hBq hb0);have Hr:=zH (Zau.new w (0,0));have Hb0:=zH hb0;obtain⟨x0,x1,x2,_⟩:=HT.out.box.cells;obtain⟨b1,o1,a1,k1,rfl,hl1,hrow,hRr⟩:=HT.out.tab.mR k hk;simp only at hrow hRr x0 x1 x2;obtain⟨b3,o3,rfl,hl3,p0,p1⟩:=hRr.at cn (by omega);obtain⟨b4,o4,hh4,_,r0,r1⟩:=hRr.at n (by omega);simp only[Option.some.injEq,Addr.mk.injEq] at hh4;obtain⟨rfl,rfl,_⟩:=hh4;rw[hrl] at hrow;obtain⟨x,hxx⟩:∃x,Ve.at_ (rr L k) cn=x:=⟨_,rfl⟩;obtain⟨y,hyy⟩:∃y,Ve.at_ (rr L k) n=y:=⟨_,rfl⟩;rw[hxx] at p0 p1 ⊢;rw[hyy] at r0 r1 ⊢;have n1:(k:Int)<(L.length:Int):=by omega
  have n6:(cn:Int)<(n:Int)+1:=by omega
  have n7:(cn:Int)<((n+1:Nat):Int):=by omega
  have n8:(n:Int)<(n:Int)+1:=by omega
  have n9:(n:Int)<((n+1:Nat):Int):=by omega
  have Hcn:=zH hcn;have HC:Hid (∀W,Since w W->Zcd B W q (some ⟨b1,o1,none⟩) b c1 c2 ⟨L,B1,C⟩->Calls Tryz.prog 151 #[.pointer (some ⟨q,0,none⟩)] W fun e w'=>e=.returned (.int .i64 (n:Int))/\∃d,w'=W.drewN d):=fun W _ h=>by
    rw[<-Hcn.out];exact Zcq B q _ b c1 c2 ⟨L,B1,C⟩ g0 g1 hn1 W h
  clear hxx hyy hRr hcn h hb0
  go_enter Tryz.func74,Tryz.ntmps74
  by_cases hs:0<x.1
  · have hd:decide (x.1≤0)=false:=by rw[decide_eq_false_iff_not];omega
    have Hq:Hid (quoR x y=Ta.divR y x/\quoK x y=Ta.divK y x):=by
      constructor
      · unfold quoR;rw[if_pos hs]
      · unfold quoK;rw[decide_eq_true hs];rfl
    rw[Hq.out.1,Hq.out.2]
    go_upto_region 4 with fail
    obtain⟨W,hW⟩:∃W,(w.alloc (.cells #[.int .i64 0,.int .i64 0] 31)).alloc (.cells #[.int .i64 x.1,.int .i64 x.2] 31)=W:=⟨_,rfl⟩;have hXb:=Zau.new (w.alloc (.cells #[.int .i64 0,.int .i64 0] 31)) x;have hRb:=Hr.out.alloc (.cells #[.int .i64 x.1,.int .i64 x.2] 31);have hsW:=Zjv w (.cells #[.int .i64 0,.int .i64 0] 31) (.cells #[.int .i64 x.1,.int .i64 x.2] 31);have hbW:=Hb0.out.alloc Hb0.out.size (.cells #[.int .i64 x.1,.int .i64 x.2] 31);have hS0:Since (w.alloc (.cells #[.int .i64 0,.int .i64 0] 31)) W:=by rw[<-hW];exact (Since.refl _).alloc _
    have hTW:=HT.out.below (Nat.le_trans hBq Hb0.out.size) hS0.low;have hz0:=Zar w (.cells #[.int .i64 0,.int .i64 0] 31);rw[Zar] at hXb;rw[hW] at hXb hRb hsW hbW ⊢;obtain⟨y0,y1,_,_⟩:=hXb.four;have HTW:=zH hTW;have HRb:=zH hRb;have HbW:=zH hbW;have Cell:=zH (fun w' (h:Since W w')=>(show w'.cell? ⟨q,0,none⟩=some (.slice (some ⟨b1,o1,none⟩) L.length c1)/\w'.cell? ⟨b1,o1+k,none⟩=some (.slice (some ⟨b3,o3,none⟩) (n+1) k1)/\w'.cell? ⟨b3,o3+n*2,none⟩=some (.int .i64 y.1)/\w'.cell? ⟨b3,o3+n*2+1,none⟩=some (.int .i64 y.2)/\w'.cell? ⟨w.heap.size+1,0,none⟩=some (.int .i64 x.1)/\w'.cell? ⟨w.heap.size+1,1,none⟩=some (.int .i64 x.2)/\Since W w' from
      ⟨h.cell (p:=⟨q,0,none⟩) (show q<W.heap.size by omega) (hS0.cell (p:=⟨q,0,none⟩) (show q<_ by rw[hz0];omega) x0),h.cell (p:=⟨b1,o1+k,none⟩) (show b1<W.heap.size by omega) (hS0.cell (p:=⟨b1,o1+k,none⟩) (show b1<_ by rw[hz0];omega) hrow),h.cell (p:=⟨b3,o3+n*2,none⟩) (show b3<W.heap.size by omega) (hS0.cell (p:=⟨b3,o3+n*2,none⟩) (show b3<_ by rw[hz0];omega) r0),h.cell (p:=⟨b3,o3+n*2+1,none⟩) (show b3<W.heap.size by omega) (hS0.cell (p:=⟨b3,o3+n*2+1,none⟩) (show b3<_ by rw[hz0];omega) r1),
       h.cell (p:=⟨w.heap.size+1,0,none⟩) (show w.heap.size+1<W.heap.size by omega) y0,h.cell (p:=⟨w.heap.size+1,1,none⟩) (show w.heap.size+1<W.heap.size by omega) y1,h⟩))
    have hin0:=(Since.refl W).drew;have HsW:=zH hsW;have HBW:=zH (show B≤W.heap.size by omega);clear x0 x1 x2 hrow r0 r1 p0 p1 y0 y1 hXb hRb hTW hbW hS0 hz0 hW HT Hr Hb0;refine Zaf (S:=(fun w'=>w'.cell? ⟨q,0,none⟩=some (.slice (some ⟨b1,o1,none⟩) L.length c1)/\w'.cell? ⟨b1,o1+k,none⟩=some (.slice (some ⟨b3,o3,none⟩) (n+1) k1)/\w'.cell? ⟨b3,o3+n*2,none⟩=some (.int .i64 y.1)/\w'.cell? ⟨b3,o3+n*2+1,none⟩=some (.int .i64 y.2)/\w'.cell? ⟨w.heap.size+1,0,none⟩=some (.int .i64 x.1)/\w'.cell? ⟨w.heap.size+1,1,none⟩=some (.int .i64 x.2)/\Since W w')) 15 (by kernel_rfl) ?_ (fun hHeld=>?_)
    · exact Cell.out _ hin0
    refine tk2 0 ⟨some 23,_,175,_,_,none⟩ ?_;refine tk2 1 ⟨some 24,_,0,_,_,none⟩ ?_;refine tk2 2 ⟨some 25,_,0,_,_,none⟩ ?_;refine tk2 3 ⟨some 26,_,37,_,_,none⟩ ?_;refine tk2 4 ⟨some 27,_,3,_,_,none⟩ ?_;refine tk2 5 ⟨some 28,_,0,_,_,none⟩ ?_;refine tk2 6 ⟨some 29,_,26,_,_,none⟩ ?_;refine tk2 7 ⟨some 30,_,175,_,_,none⟩ ?_;refine tk2 11 ⟨some 34,_,31,_,_,none⟩ ?_
    try simp only[Act.put,zA,zB,zC]
    refine rd2 8 ⟨some 31,_,3,_,_,none⟩ fun K hK=>?_
    go_simp
    (go_at_call 151;refine (HC.out _ (Since.mk ((HbW.out.trans (hin0.low.mono (by have:=HsW.out;omega))))) (HTW.out.below HBW.out hin0.low)).mono ?_;rintro e w' ⟨rfl,d,rfl⟩;have hin1:Since W (W.drewN (1+d)):=(Since.refl W).drewN _)
    refine hK.out _ _ ?_ (fun hHeld=>?_)
    · exact Cell.out _ (hin0.drewN d)
    clear hK K;refine tk2 9 ⟨some 32,_,0,_,_,none⟩ ?_;refine tk2 10 ⟨some 33,_,31,_,_,none⟩ ?_
    try simp only[Act.put,zA,zB,zC]
    refine rd2 12 ⟨some 35,_,107,_,_,none⟩ fun K hK=>?_
    go_simp
    (go_at_call 152;refine (Zsp y x _).mono ?_;rintro e w2 ⟨rfl,hb2⟩;have hin2:=hin1.trans hb2)
    refine hK.out _ _ ?_ (fun hHeld=>?_)
    · exact Cell.out _ hin2
    clear hK K;refine tk2 13 ⟨some 36,_,31,_,_,none⟩ ?_;refine tk2 14 ⟨some 37,_,4,_,_,none⟩ ?_
    try simp only[Act.put,zA,zB,zC]
    have hR2:=zH (HRb.out.below hin2.low);obtain⟨u0,u1,f0,f1⟩:=hR2.out.four;have hB2:=zH (HbW.out.trans (hin2.low.mono (by have:=HsW.out;omega)));generalize Ta.divR y x=qv at *;generalize Ta.divK y x=ok at *;clear Cell hin0 hin1 hin2 HTW HC HRb HbW hb2;refine rd3 15 ⟨none,_,0,_,_,none⟩ fun K hK=>?_
    go_simp
    refine hK.out _ _ ?_;clear hK K;refine rd3 16 ⟨some 7,_,4,_,_,none⟩ fun K hK=>?_
    go_simp
    refine hK.out _ _ ?_;clear hK K
    try simp only[Act.put,zA,zB,zC]
    refine Zal (by kernel_rfl) ?_ _;have hz:=Zan (x:=.int .i64 qv.1) (y:=.int .i64 qv.2) u0 u1;have hF:=zH (Zfj hB2.out (Nat.le_refl _) 0 1 (.int .i64 qv.1) (.int .i64 qv.2))
    go_wp2_with fail
    exact bodyPost_ret (v:=.tuple #[.agg #[.int .i64 qv.1,.int .i64 qv.2],.bool ok]) (by simp[results,Tryz.results74,go_sem,hz.1,hz.2]) rfl ⟨rfl,hF.out⟩
  · have hd:decide (x.1≤0)=true:=by rw[decide_eq_true_iff];omega
    have Hq:Hid (quoR x y=(0,0)/\quoK x y=false):=by
      constructor
      · unfold quoR;rw[if_neg hs]
      · unfold quoK;rw[decide_eq_false hs];rfl
    rw[Hq.out.1,Hq.out.2];have hRb:=Hr.out.alloc (.cells #[.int .i64 x.1,.int .i64 x.2] 31);obtain⟨u0,u1,f0,f1⟩:=hRb.four;have hB2:=zH (Hb0.out.alloc Hb0.out.size (.cells #[.int .i64 x.1,.int .i64 x.2] 31));clear hRb
    go_wp2_with fail
    exact bodyPost_ret (v:=.tuple #[.agg #[.int .i64 0,.int .i64 0],.bool false]) (by simp[results,Tryz.results74,go_sem,u0,u1]) rfl ⟨rfl,hB2.out⟩
theorem Zk8 (B:Nat) (a b:Option Addr) (c1 c2:Nat) (t:T) (c:Int) (hc0:(Lit.int .i64 c).wf=true) (hn:Zca t) (w:World) (hBw:B≤w.heap.size) (hz:Zc4 B w a b t) :
    Calls Tryz.prog 17 #[tabV a b c1 c2 t,.int .i64 c] w fun e w'=>e=.returned (.int .i64 (Ta.lvR t c))/\Below w.heap.size w w':=by
  obtain⟨RR,hRR⟩:∃RR,Ta.lvR t c=RR:=⟨_,rfl⟩;rw[hRR];have HRR:=zH hRR;have hb:=(Below.refl w.heap.size w).alloc (Nat.le_refl _) (.cells #[.slice a t.rows.length c1,.slice b t.basis.length c2,.int .i64 t.cols] 39);have hx:=Tri.new w (.slice a t.rows.length c1) (.slice b t.basis.length c2) (.int .i64 t.cols) 39;have HT:Hid (Zcd w.heap.size (w.alloc (.cells #[.slice a t.rows.length c1,.slice b t.basis.length c2,.int .i64 t.cols] 39)) w.heap.size a b c1 c2 t):=⟨hx,(hz.mono hBw).below hb⟩;have HZ:=zH (hz.mono hBw);have Hb:=zH hb;obtain⟨hcA,hcB⟩:=Zjg hc0;rw[show tabV a b c1 c2 t=.agg #[.slice a t.rows.length c1,.slice b t.basis.length c2,.int .i64 t.cols] from rfl];obtain⟨g,hg⟩:∃g,Ta.good t=g:=⟨_,rfl⟩;have HG:=zH (fun W h=>Zfb w.heap.size w.heap.size a b c1 c2 t hn g hg W h);have Hg:=zH hg;have hn1:=hn.rows;clear hz hb hx hn hg hRR hc0
  go_enter Tryz.func17,Tryz.ntmps17
  go_wp2_with fail
  refine (HG.out _ HT.out).mono ?_;rintro e w1 ⟨rfl,d,rfl⟩;clear HG;cases g with
  | false=>
    have Hr:Hid (-1=RR):=by show _=_;rw[<-HRR.out,Ta.Zvu Hg.out]
    go_wp2_with fail
    go_ret;exact⟨Za8 Hr.out,below_drewN Hb.out d⟩
  | true=>
    obtain⟨g0,g1,g2,g3⟩:=Ta.Za2 Hg.out;have G3:=zH g3;have G2:=zH g2;clear g3 g2;obtain⟨q,hq⟩:∃q,decide (0≤c/\c≤t.cols+(t.rows.length:Int)-1)=q:=⟨_,rfl⟩;have Hq:=zH hq;have HC:=zH (fun W h=>Zd5 w.heap.size w.heap.size a b c1 c2 t g0 g1 hn1 c q hq W h);clear hq
    go_wp2_with fail
    refine (HC.out _ (HT.out.drewN d)).mono ?_;rintro e w1 ⟨rfl,d2,rfl⟩;clear HC;cases q with
    | false=>
      have Hr:Hid (-1=RR):=by show _=_;rw[<-HRR.out,Ta.Zvt Hq.out]
      go_wp2_with fail
      go_ret;exact⟨Za8 Hr.out,below_drewN Hb.out (d+d2)⟩
    | true=>
      have hcc:=of_decide_eq_true Hq.out;obtain⟨cn,rfl⟩:∃n:Nat,c=n:=⟨c.toNat,by omega⟩;have HE:Hid ((Ta.lv t cn t.rows.length).1=RR):=by show _=_;rw[<-HRR.out,Ta.Z0c Hg.out Hq.out]
      obtain⟨L,B1,C⟩:=t;simp only at g0 g1 hn1 hcc;obtain⟨n,hcn⟩:∃n:Nat,C+(L.length:Int)=n:=⟨(C+(L.length:Int)).toNat,by omega⟩;have hcn2:cn<n:=by omega
      have Hcn:=zH hcn;have HT1:=zH (HT.out.drewN (d+d2));have HB1:=zH (below_drewN Hb.out (d+d2));have hl1:=Zab HT1.out.box;clear HT Hb hcc hcn;rw[show ((w.alloc (.cells #[.slice a L.length c1,.slice b B1.length c2,.int .i64 C] 39)).drewN d).drewN d2=(w.alloc (.cells #[.slice a L.length c1,.slice b B1.length c2,.int .i64 C] 39)).drewN (d+d2) by simp];generalize (w.alloc (.cells #[.slice a L.length c1,.slice b B1.length c2,.int .i64 C] 39)).drewN (d+d2)=w1 at *;have HL0:=zH (Zau.new w1 (0,0));have HT2:=zH (HT1.out.below HB1.out.size ((Below.refl w1.heap.size w1).alloc (Nat.le_refl _) (.cells #[.int .i64 0,.int .i64 0] 31)));have HB2:=zH (HB1.out.alloc HB1.out.size (.cells #[.int .i64 0,.int .i64 0] 31));have hsw:=HB1.out.size;obtain⟨x0,x1,x2,_⟩:=HT2.out.box.cells;clear HT1 HB1;simp only at x0 x1 x2
      go_wp2_with fail
      go_loopw [5,7,22] (fun bv _ i wr=>∃(k:Nat) (best:Int),k≤L.length/\-1≤best/\best<k/\bv=.int .i64 best/\i=.int .i64 k/\Hid (best=(Ta.lv ⟨L,B1,C⟩ cn k).1)/\Hid (Zau wr w1.heap.size (Ta.lv ⟨L,B1,C⟩ cn k).2)/\Hid (Zcd w.heap.size wr w.heap.size a b c1 c2 ⟨L,B1,C⟩)/\Hid (Below w.heap.size w wr)) (fun _ _ i _=>L.length-(intOf i).toNat)
      case atStart=>exact⟨0,-1,Nat.zero_le _,by omega,by omega,rfl,rfl,rfl,HL0,HT2,HB2⟩
      case round=>
        clear HL0 HT2 HB2 x0 x1 x2;obtain⟨k,best,hk,hb0,hb1,rfl,rfl,hBe,hLe,hT,hB⟩:=hrel
        by_cases hlt:k<L.length
        · obtain⟨g31,g32,g33⟩:=G3.out k hlt
          have g31':((rr L k).length:Int)=C+(L.length:Int)+1:=g31;have hrl:(rr L k).length=n+1:=by have:=Hcn.out;omega
          have hbl:k<B1.length:=by have h:B1.length=L.length:=G2.out;omega
          obtain⟨b2,o2,rfl,hl2',hbas⟩:=hT.out.tab.mB k hbl;obtain⟨x,hxx⟩:∃x,Ve.at_ (rr L k) cn=x:=⟨_,rfl⟩;obtain⟨y,hyy⟩:∃y,Ve.at_ (rr L k) n=y:=⟨_,rfl⟩;obtain⟨le,hle⟩:∃le,(Ta.lv ⟨L,B1,C⟩ cn k).2=le:=⟨_,rfl⟩;have etn:(C+(L.length:Int)).toNat=n:=by rw[Hcn.out];simp
          have Hok:Hid (Ta.lvOk ⟨L,B1,C⟩ cn k=quoK x y):=by
            show _=_;rw[Ta.Zyh];show (decide (0<(Ve.at_ (rr L k) cn).1) && Ta.divK (Ve.at_ (rr L k) (C+(L.length:Int)).toNat) (Ve.at_ (rr L k) cn))=_;rw[etn,hxx,hyy];rfl
          have HQ:Hid (quoK x y=true->Ta.lvQ ⟨L,B1,C⟩ cn k=quoR x y):=fun h=>by
            show Ta.divR (Ve.at_ (rr L k) (C+(L.length:Int)).toNat) (Ve.at_ (rr L k) cn)=_;rw[etn,hxx,hyy];unfold quoK at h;simp only[Bool.and_eq_true,decide_eq_true_eq] at h;unfold quoR;rw[if_pos h.1]
          have hsz:=hB.out.size;have hqq:=hT.out.box;have HCq:=zH (Zn4 w.heap.size w.heap.size a (some ⟨b2,o2,none⟩) c1 c2 L B1 C g0 g1 hn1 n k cn Hcn.out hlt hrl hcn2 wr (Zab hqq) hsz hT.out);rw[hxx,hyy] at HCq;rw[hle] at hLe;have Hbas:Hid (Ta.bas ⟨L,B1,C⟩ k=B1.getD k 0):=rfl;have Hbest:Hid (∀bn:Nat,bn<k->∃z,B1.getD bn 0=z/\∀W,Below w.heap.size w W->W.cell? ⟨b2,o2+bn,none⟩=some (.int .i64 z)):=fun bn hbn=>⟨_,rfl,fun W hW=>by
            obtain⟨b',o',e,_,h⟩:=(HZ.out.below hW).mB bn (by simp only;omega);simp only[Option.some.injEq,Addr.mk.injEq] at e;obtain⟨rfl,rfl,_⟩:=e;exact h⟩
          have Hbk:Hid (∀W,Below w.heap.size w W->W.cell? ⟨b2,o2+k,none⟩=some (.int .i64 (B1.getD k 0))):=fun W hW=>by
            obtain⟨b',o',e,_,h⟩:=(HZ.out.below hW).mB k (by simp only;omega);simp only[Option.some.injEq,Addr.mk.injEq] at e;obtain⟨rfl,rfl,_⟩:=e;exact h
          generalize B1.getD k 0=bk at *;have n1:(k:Int)<(L.length:Int):=by omega
          have n2:(k:Int)<(B1.length:Int):=by omega
          clear hxx hyy g31 g31' g32 g33 etn hqq hbas hl2';generalize quoR x y=qv at *;generalize quoK x y=ok at *
          go_wp2_with fail
          refine HCq.out.mono ?_;rintro e w5 ⟨rfl,hb5⟩;have Z5:=zH (Zau.new w5 qv);have L5:=zH ((hLe.out.below hb5).alloc (.cells #[.int .i64 qv.1,.int .i64 qv.2] 31));have T5:=zH (hT.out.below hsz (hb5.alloc hb5.size (.cells #[.int .i64 qv.1,.int .i64 qv.2] 31)));have B5:=zH ((hB.out.trans (hb5.mono hsz)).alloc (hB.out.trans (hb5.mono hsz)).size (.cells #[.int .i64 qv.1,.int .i64 qv.2] 31));clear hb5 hB hLe hT HCq;cases ok with
          | false=>
            have hsk:=Ta.Zrj (t:=⟨L,B1,C⟩) (c:=cn) (k:=k) Hok.out;have HBe2:Hid (best=(Ta.lv ⟨L,B1,C⟩ cn (k+1)).1):=by show _=_;rw[hsk];exact hBe.out
            have HL2:Hid (Zau (w5.alloc (.cells #[.int .i64 qv.1,.int .i64 qv.2] 31)) w1.heap.size (Ta.lv ⟨L,B1,C⟩ cn (k+1)).2):=by show Zau _ _ _;rw[hsk,hle];exact L5.out
            clear hsk
            go_wp2_with fail
            go_roundw
            case rel=>exact⟨k+1,best,by omega,hb0,by omega,rfl,by go_num,HBe2,HL2,T5,B5⟩
            case measure=>simp[intOf];omega
          | true=>
            have HQ1:Hid (Ta.lvQ ⟨L,B1,C⟩ cn k=qv):=HQ.out rfl;clear HQ;obtain⟨z0,z1,_,_⟩:=Z5.out.four;obtain⟨l0,l1,_,_⟩:=L5.out.four
            go_wp2_with fail
            refine (Zso qv le _).mono ?_;rintro e w6 ⟨rfl,hb6⟩;have Z6:=zH (Z5.out.below hb6);have HB6:=zH (B5.out.trans (hb6.mono B5.out.size));have T6:=zH (T5.out.below B5.out.size hb6);have L6:=zH (L5.out.below hb6);obtain⟨x0,x1,x2,_⟩:=T6.out.box.cells;have hbk:=Hbk.out _ HB6.out;simp only at x0 x1 x2;clear hb6 z0 z1 l0 l1 Z5 T5 L5 B5;obtain⟨tk,htk⟩:∃tk,Ta.takes ⟨L,B1,C⟩ best le qv k=tk:=⟨_,rfl⟩;have Htk:=zH htk;clear htk;have Hdef:Hid (tk=(decide (best<0) || (decide (Ta.how qv le<0) || (decide (Ta.how qv le=0) && decide (bk<B1.getD best.toNat 0))))):=by
              show _=_;rw[<-Htk.out];unfold Ta.takes;rw[Hbas.out];rfl
            generalize Ta.how qv le=hw at *
            go_upto_region 10 with fail
            go_cut [58] (fun v wx=>v=.bool tk/\∃d,wx=w6.drewN d)
            case first=>
              by_cases k1:best<0
              · have e1:decide (best<0)=true:=by rw[decide_eq_true_iff];exact k1
                have Ht:Hid (true=tk):=by show _=_;rw[Hdef.out,e1];rfl
                go_quiet (fail)
                go_wp2_with fail
                go_meet
                exact⟨Zea Ht.out,_,rfl⟩
              · have e1:decide (best<0)=false:=by rw[decide_eq_false_iff_not];exact k1
                by_cases k2:hw<0
                · have e2:decide (hw<0)=true:=by rw[decide_eq_true_iff];exact k2
                  have Ht:Hid (true=tk):=by show _=_;rw[Hdef.out,e2];simp
                  go_quiet (fail)
                  go_wp2_with fail
                  go_meet
                  exact⟨Zea Ht.out,_,rfl⟩
                · have e2:decide (hw<0)=false:=by rw[decide_eq_false_iff_not];exact k2
                  by_cases k3:hw=0
                  · obtain⟨bn,rfl⟩:∃bn:Nat,best=bn:=⟨best.toNat,by omega⟩
                    have e3:(hw == 0)=true:=by rw[k3];rfl
                    obtain⟨bz,hbz,hcb⟩:=Hbest.out bn (by omega);have hcb:=hcb _ HB6.out;have n7:(bn:Int)<(B1.length:Int):=by omega
                    have Ht:Hid (decide (bk<bz)=tk):=by
                      show _=_;rw[Hdef.out,e1,e2,k3];have:B1.getD (bn:Int).toNat 0=bz:=by rw[<-hbz];simp
                      rw[this];simp
                    clear k3 hbz
                    go_quiet (fail)
                    go_wp2_with fail
                    go_meet
                    exact⟨Zea Ht.out,_,rfl⟩
                  · have e3:(hw == 0)=false:=by rw[beq_eq_false_iff_ne];exact k3
                    have Ht:Hid (false=tk):=by show _=_;rw[Hdef.out,e1,e2];simp[k3]
                    go_quiet (fail)
                    go_wp2_with fail
                    go_meet
                    exact⟨Zea Ht.out,_,rfl⟩
            case rest=>
              obtain⟨w7,hw7⟩:∃q:World,q=wc:=⟨_,rfl⟩;rw[<-hw7];rw[<-hw7] at hcut;obtain⟨rfl,d,rfl⟩:=hcut;have L7:Hid (Zau (w6.drewN d) w1.heap.size le):=L6.out;have T7:=zH (T6.out.drewN d);have Z7:Hid (Zau (w6.drewN d) w5.heap.size qv):=Z6.out;have B7:=zH (below_drewN HB6.out d);clear x0 x1 x2 hbk hw7 L6 T6 HB6 Z6;generalize w6.drewN d=w8 at *;cases tk with
              | false=>
                have hsk:=Ta.Zvv (t:=⟨L,B1,C⟩) (c:=cn) (k:=k) (by rw[<-hBe.out,hle,HQ1.out];exact Htk.out);have HBe2:Hid (best=(Ta.lv ⟨L,B1,C⟩ cn (k+1)).1):=by show _=_;rw[hsk];exact hBe.out
                have HL2:Hid (Zau w8 w1.heap.size (Ta.lv ⟨L,B1,C⟩ cn (k+1)).2):=by show Zau _ _ _;rw[hsk,hle];exact L7.out
                clear hsk
                go_wp2_with fail
                go_roundw
                case rel=>exact⟨k+1,best,by omega,hb0,by omega,rfl,by go_num,HBe2,HL2,T7,B7⟩
                case measure=>simp[intOf];omega
              | true=>
                have hye:=Ta.Z0d (t:=⟨L,B1,C⟩) (c:=cn) (k:=k) Hok.out (by rw[<-hBe.out,hle,HQ1.out];exact Htk.out);have HBe2:Hid ((k:Int)=(Ta.lv ⟨L,B1,C⟩ cn (k+1)).1):=by show _=_;rw[hye]
                obtain⟨l0,l1,f0,f1⟩:=L7.out.four;obtain⟨z0,z1,_,_⟩:=Z7.out.four;have HLk:Hid (∀W,Zau W w1.heap.size qv->Zau W w1.heap.size (Ta.lv ⟨L,B1,C⟩ cn (k+1)).2):=fun W h=>by rw[hye,HQ1.out];exact h
                have HLs:=zH (L7.out.set qv);have HTs:Hid (Zcd w.heap.size ((w8.setCell ⟨w1.heap.size,0,none⟩ (.int .i64 qv.1)).setCell ⟨w1.heap.size,1,none⟩ (.int .i64 qv.2)) w.heap.size a (some ⟨b2,o2,none⟩) c1 c2 ⟨L,B1,C⟩):=
                  ⟨(T7.out.box.other (p:=⟨w1.heap.size,0,none⟩) (show w1.heap.size≠w.heap.size by omega) _).other (p:=⟨w1.heap.size,1,none⟩) (show w1.heap.size≠w.heap.size by omega) _,T7.out.tab.below (Zfj (Below.refl _ _) (show w.heap.size≤w1.heap.size by omega) 0 1 _ _)⟩
                have HB2:=zH (Zfj B7.out (show w.heap.size≤w1.heap.size by omega) 0 1 (.int .i64 qv.1) (.int .i64 qv.2));clear hye L7 T7 Z7 B7
                go_upto_region 11 with fail
                go_region
                all_goals
                  go_wp2_with fail
                  go_roundw
                  case rel=>
                    first
                    | exact⟨k+1,k,by omega,by omega,by omega,rfl,by go_num,HBe2,HLk.out _ HLs.out,HTs,HB2⟩
                    | exact⟨k+1,k,by omega,by omega,by omega,rfl,by go_num,HBe2,HLk.out _ HLs.out,HTs.out.drewN 1,HB2.out.drew⟩
                  case measure=>simp[intOf];omega
        · have he:k=L.length:=by omega
          have Hr:Hid (best=RR):=by show _=_;rw[<-HE.out,<-he];exact hBe.out
          go_wp2_with fail
          go_ret;exact⟨Za8 Hr.out,hB.out⟩
end Go.Proofs.YtlohljkfphljgaaGreat
