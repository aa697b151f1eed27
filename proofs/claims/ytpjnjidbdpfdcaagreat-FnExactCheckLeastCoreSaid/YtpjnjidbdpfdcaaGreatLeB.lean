/- impl.LeastLP. -/
import Derived.Test.YtpjnjidbdpfdcaaGreatCrB
import Derived.Test.YtpjnjidbdpfdcaaGreatHLeN
import Derived.Test.YtpjnjidbdpfdcaaGreatLeR
import Derived.Test.YtpjnjidbdpfdcaaGreatGRa
namespace Go.Proofs.YtpjnjidbdpfdcaaGreat
open Go.RowKit
open Ve (R)
open Gm (G)
theorem Ze9:∀(xs:List R) (k:Nat) (x:R),k<xs.length->((Zau xs).set (k*2) (.int .i64 x.1)).set (k*2+1) (.int .i64 x.2)=Zau (xs.set k x)
 | [],k,x,h=>by simp at h
 | y::xs,0,x,_=>rfl
 | y::xs,k+1,x,h=>by
  have:=Ze9 xs k x (by simpa using h);rw[show (k+1)*2=k*2+1+1 by omega];simp only[Zau,List.set_cons_succ];rw[this]
theorem Znx {B g c:Nat} {w:World} {xs:List R} (h:Zad B w (.slice (some ⟨g,0,none⟩) xs.length c) xs) (k:Nat) (x:R) (hk:k<xs.length) :
  Zad B ((w.setCell ⟨g,k*2,none⟩ (.int .i64 x.1)).setCell ⟨g,k*2+1,none⟩ (.int .i64 x.2)) (.slice (some ⟨g,0,none⟩) xs.length c) (xs.set k x):=by
 have h3:=((World.ownsRow.stored h (k*2) (.int .i64 x.1)).1.stored (k*2+1) (.int .i64 x.2)).1;rw[Ze9 xs k x hk] at h3;show World.ownsRow _ _ _ _ _ _ _;rw[List.length_set];exact h3
theorem Zk3 {B g c:Nat} {w:World} {xs:List R} (h:Zad B w (.slice (some ⟨g,0,none⟩) xs.length c) xs) (k:Nat) (hk:k<xs.length) :
  (∃v,w.cell? ⟨g,k*2,none⟩=some v)/\w.frozen? ⟨g,k*2,none⟩=false/\(∃v,w.cell? ⟨g,k*2+1,none⟩=some v)/\w.frozen? ⟨g,k*2+1,none⟩=false:=by
 have hl:(Zau xs).length=xs.length*2:=Zb3 xs;exact⟨⟨(Zau xs)[k*2],by rw[World.ownsRow.cellAt h (k*2) (by omega),List.getElem?_eq_getElem (by omega)]⟩,World.ownsRow.frozenAt h _,
  ⟨(Zau xs)[k*2+1],by rw[World.ownsRow.cellAt h (k*2+1) (by omega),List.getElem?_eq_getElem (by omega)]⟩,World.ownsRow.frozenAt h _⟩
theorem Zpl {B n c:Nat} {w:World} {a:Option Addr} {xs:List R} (h:Zad B w (.slice a n c) xs) (h0:0<xs.length):∃g,a=some ⟨g,0,none⟩:=by
 obtain⟨a',c',e,_,_,hne⟩:=Za1 h;injection e with e1
 subst e1;exact hne (by intro e;rw[e] at h0;simp at h0)
theorem Zgi {lo k:Nat} {w:World} {v:Value} {xs:List Int} (h:Zab lo w v xs) (hk:k<xs.length) :
  ∃b c x,v=.slice (some ⟨b,0,none⟩) xs.length c/\lo≤b/\b<w.heap.size/\w.cell? ⟨b,k,none⟩=some x/\w.frozen? ⟨b,k,none⟩=false/\xs.length≤c:=by
 obtain⟨a,c,rfl,_,hb,hne⟩:=Zbb h;obtain⟨g,rfl⟩:=hne (by intro e;rw[e] at hk;simp at hk);have h9:=hb _ rfl;exact⟨g,c,.int .i64 xs[k],rfl,h9.1,h9.2,by rw[World.ownsRow.cellAt h k (by omega)];simp[hk],World.ownsRow.frozenAt h _,Zj9 h⟩
theorem Zax.Zqg {lo b k n c:Nat} {w:World} {vA:Value} {A:List (List Int)} {B:List Int} (h:Zax lo w vA (.slice (some ⟨b,0,none⟩) n c) A B) (y:Int):Zax lo (w.setCell ⟨b,k,none⟩ (.int .i64 y)) vA (.slice (some ⟨b,0,none⟩) n c) A (B.set k y):=by
 obtain⟨vs,h1,h2⟩:=h;have hbt:=Za3 (h2.own 0 _ rfl) (g:=b) rfl;exact⟨vs,Zbh h1 (fun e=>TyAt.ne hbt (Za3 h1 e) Zbt rfl),h2.elem (j:=0) (k:=k) rfl y⟩
section
variable {q:Nat} {w wr:World} {vA vB vC:Value} {A:List (List Int)} {B:List Int} {C:List R}
theorem LpBe.Zo4 {b k:Nat} {y:Value} {A':List (List Int)} {B':List Int} (h:LpBe q w wr vA vB vC A B C) (hb:TyAt wr b 3) (hlo:w.heap.size≤b) (hab:Zax w.heap.size (wr.setCell ⟨b,k,none⟩ y) vA vB A' B'):LpBe q w (wr.setCell ⟨b,k,none⟩ y) vA vB vC A' B' C:=
 ⟨h.hq,h.box.other (p:=⟨b,k,none⟩) (fun e=>TyAt.ne hb (Za4 h.box) Za0.2.2.2.2.2.1 e) y,h.res.other (p:=⟨b,k,none⟩) (fun e=>TyAt.ne hb (Za4 h.res) Za0.2.2.2.2.2.1 e) y,hab,
  Zbh h.c (fun e=>TyAt.ne hb (Za3 h.c e) Za0.2.2.2.2.2.2.2.1 rfl),h.low.setCell (p:=⟨b,k,none⟩) hlo y⟩
theorem LpBe.Zpo {g k c:Nat} {x:R} (h:LpBe q w wr vA vB (.slice (some ⟨g,0,none⟩) C.length c) A B C) (hk:k<C.length):LpBe q w ((wr.setCell ⟨g,k*2,none⟩ (.int .i64 x.1)).setCell ⟨g,k*2+1,none⟩ (.int .i64 x.2)) vA vB (.slice (some ⟨g,0,none⟩) C.length c) A B (C.set k x):=by
 have hg:=Za3 h.c (g:=g) rfl;have hlo:=(World.ownsRow.lt h.c g rfl).1;have hg1:TyAt (wr.setCell ⟨g,k*2,none⟩ (.int .i64 x.1)) g 35:=Za3 (World.ownsRow.stored h.c (k*2) (.int .i64 x.1)).1 rfl;have hq:g≠q:=fun e=>TyAt.ne hg (Za4 h.box) Za0.2.2.2.2.1 e
 have hw:g≠w.heap.size:=fun e=>TyAt.ne hg (Za4 h.res) Za0.2.2.2.2.1 e
 exact⟨h.hq,(h.box.other (p:=⟨g,k*2,none⟩) hq _).other (p:=⟨g,k*2+1,none⟩) hq _,(h.res.other (p:=⟨g,k*2,none⟩) hw _).other (p:=⟨g,k*2+1,none⟩) hw _,
  (h.ab.set hg Za0.2.2.1 Za0.2.2.2.1).set hg1 Za0.2.2.1 Za0.2.2.2.1,Znx h.c k x hk,(h.low.setCell (p:=⟨g,k*2,none⟩) hlo _).setCell (p:=⟨g,k*2+1,none⟩) hlo _⟩
end
namespace Le
def midA (N m k:Nat):List (List Int):=(List.range m).map fun j=>if j<k then Cr.mrow j N++[-1] else Cr.mrow j (N+1)
def midB (m k:Nat):List Int:=(List.range m).map fun j=>if j<k then 0 else 1
theorem Zj3 (N m k:Nat):(midA N m k).length=m:=by simp[midA]
theorem Zj5 (m k:Nat):(midB m k).length=m:=by simp[midB]
theorem Zmd (N m:Nat):midA N m 0=Cr.Zca (N+1) m:=by simp[midA,Cr.Zca]
theorem Zmf (m:Nat):midB m 0=Cr.Zbc m:=by simp[midB,Cr.Zbc]
theorem Zmc (N m:Nat):midA N m m=Zcz N m:=by
 unfold midA Zcz;refine List.map_congr_left fun j hj=>?_
 rw[if_pos (List.mem_range.1 hj)]
theorem Zme (m:Nat):midB m m=Zbl m:=by
 unfold midB Zbl;refine List.map_congr_left fun j hj=>?_
 rw[if_pos (List.mem_range.1 hj)]
theorem Zg9 {N m k j:Nat} (h:j<m):(midA N m k)[j]? = some (if j<k then Cr.mrow j N++[-1] else Cr.mrow j (N+1)):=by simp[midA,h]
theorem Zi7 {m k j:Nat} (h:j<m):(midB m k)[j]? = some (if j<k then 0 else 1):=by simp[midB,h]
theorem Zj4 {N m k:Nat} (h:k<m):rw_ (midA N m k) k=Cr.mrow k (N+1):=Zpr (by rw[Zg9 h,if_neg (by omega)])
theorem Zpq (k N:Nat):(Cr.mrow k (N+1)).set N (-1)=Cr.mrow k N++[-1]:=by
 rw[Cr.Zfo,List.set_append_right _ _ (by rw[Cr.Zco];exact Nat.le_refl _),Cr.Zco];simp
theorem Znu {N m k:Nat} (h:k<m):(midA N m k).set k ((rw_ (midA N m k) k).set N (-1))=midA N m (k+1):=by
 rw[Zj4 h,Zpq];refine List.ext_getElem? fun j=>?_
 rcases Nat.lt_or_ge j m with hj|hj
 ·by_cases e:j=k
  ·subst e
   rw[List.getElem?_set_self (by rw[Zj3];exact h),Zg9 hj,if_pos (Nat.lt_succ_self _)]
  ·rw[List.getElem?_set_ne (fun e2=>e e2.symm),Zg9 hj,Zg9 hj]
   by_cases h2:j<k
   ·rw[if_pos h2,if_pos (by omega)]
   ·rw[if_neg h2,if_neg (by omega)]
 ·rw[List.getElem?_eq_none (by simp[midA];exact hj),List.getElem?_eq_none (by simp[midA];exact hj)]
theorem Znv {m k:Nat} (h:k<m):(midB m k).set k 0=midB m (k+1):=by
 refine List.ext_getElem? fun j=>?_
 rcases Nat.lt_or_ge j m with hj|hj
 ·by_cases e:j=k
  ·subst e
   rw[List.getElem?_set_self (by rw[Zj5];exact h),Zi7 hj,if_pos (Nat.lt_succ_self _)]
  ·rw[List.getElem?_set_ne (fun e2=>e e2.symm),Zi7 hj,Zi7 hj]
   by_cases h2:j<k
   ·rw[if_pos h2,if_pos (by omega)]
   ·rw[if_neg h2,if_neg (by omega)]
 ·rw[List.getElem?_eq_none (by simp[midB];exact hj),List.getElem?_eq_none (by simp[midB];exact hj)]
theorem Zni (g:G) (N:Nat) (x:R):(Cr.cost g (N+1)).set N x=Cr.cost g N++[x]:=by
 rw[Cr.Zfb,List.set_append_right _ _ (by rw[Cr.Zcl];exact Nat.le_refl _),Cr.Zcl];simp
theorem Zn1 (N:Nat):repI 1 N=Cr.Zbc N:=by
 unfold repI Cr.Zbc;rw[List.map_const',List.length_range]
end Le
set_option maxRecDepth 100000 in
set_option maxHeartbeats 8000000 in
theorem Zhu {w:World} {x y:Value} {g:G} (h:GmX w x y g) (hf:GmOk g) :
  Calls Tryz.prog 42 #[.agg #[x,y]] w (Zcj (Le.least g) (Le.can g) w):=by
 obtain⟨gn,gv⟩:=g;have hx:=h;obtain⟨⟨a,c,rfl,rfl,hi⟩,hroom⟩:=h;have hl:gv.length≤1048576:=hf.1;dsimp only at hi hx ⊢;obtain⟨W0,hW0⟩:∃W0,W0=w.alloc (.cells #[.int .i64 gn,.slice a gv.length c] 33):=⟨_,rfl⟩;obtain⟨W,hW⟩:∃W,W=W0.alloc (.cells #[.slice none 0 0,.slice none 0 0,.slice none 0 0] 47):=⟨_,rfl⟩;have hs0:W0.heap.size=w.heap.size+1:=by rw[hW0];exact Zar _ _
 have hb0:Below w.heap.size w W0:=by rw[hW0];exact (Below.refl _ _).alloc (Nat.le_refl _) _
 have hb1:Below W0.heap.size W0 W:=by rw[hW];exact (Below.refl _ _).alloc (Nat.le_refl _) _
 have hbox0:Zaa W0 w.heap.size #[.int .i64 gn,.slice a gv.length c] 33:=by rw[hW0];exact Zaa.new _ _ _
 have hbox:=hbox0.below hb1;have hgm0:GmX W0 (.int .i64 gn) (.slice a gv.length c) ⟨gn,gv⟩:=hx.up hb0;have hgm:=hgm0.up hb1;have hres:Tri W W0.heap.size (.slice none 0 0) (.slice none 0 0) (.slice none 0 0) 47:=by rw[hW];exact Tri.new _ _ _ _ _
 have HF:=zH hf;have HGM:=zH hgm;have HGM0:=zH hgm0;have HRes:=zH hres;have HBox:=zH hbox;have HBx0:=zH hbox0;have HB0:=zH hb0;have HB1:=zH hb1;have HS0:=zH hs0;have HSW:Hid (W.heap.size=W0.heap.size+1):=by show _=_;rw[hW];exact Zar _ _
 have HW:Hid ((w.alloc (.cells #[.int .i64 gn,.slice a gv.length c] 33)).alloc (.cells #[.slice none 0 0,.slice none 0 0,.slice none 0 0] 47)=W):=by show _=_;rw[hW,hW0]
 clear hf hgm hgm0 hres hbox hbox0 hb0 hb1 hi hs0 hW hW0 hx hroom;obtain⟨vv,hv⟩:∃vv,Gm.vld ⟨gn,gv⟩=vv:=⟨_,rfl⟩;have hBal:=Zfg HGM.out HF.out;rw[hv] at hBal
 by_cases hyes:vv=true/\2≤gn
 case neg=>
  have hno:Le.can ⟨gn,gv⟩=false:=by
   unfold Le.can;rw[hv]
   rcases vv with _|_
   ·rfl
   ·rw[decide_eq_false (fun h=>hyes ⟨rfl,h⟩)];rfl
  have HE:=zH (Le.Zg8 hno);have HC:=zH hno;have hg2:vv=true->decide (gn<2)=true:=fun h=>by rw[decide_eq_true_iff];exact Int.lt_of_not_ge fun h2=>hyes ⟨h,h2⟩
  have HG2:=zH hg2;have HBal:=zH hBal;clear hv hno hyes hg2 hBal;obtain⟨b0,b1⟩:=two HBox.out
  go_enter Tryz.func42,Tryz.ntmps42
  go_upto_region 1 with fail
  rw[HW.out]
  go_wp2_with fail
  refine HBal.out.mono ?_;rintro e w1 ⟨vA,vB,vC,rfl,hab,hc,k1⟩;have HBx1:=zH ((HBox.out.below k1).more (.cells #[vA,vB,vC] 47));have HR1:=zH ((HRes.out.below k1).more (.cells #[vA,vB,vC] 47));have HB2:Hid (Below W0.heap.size W0 (w1.alloc (.cells #[vA,vB,vC] 47))):=((HB1.out.trans (k1.mono HB1.out.size))).alloc (by have:=HB1.out.size;have:=k1.size;omega) _;obtain⟨⟨aA,cA,rfl⟩,⟨aB,cB,rfl⟩⟩:=hab.shape;obtain⟨aC,cC,rfl,_⟩:=Za1 hc;clear k1 b0 b1 hab hc HBal
  go_upto_region 2 with fail
  generalize w1.alloc (.cells #[.slice aA (Cr.bal ⟨gn,gv⟩).A.length cA,.slice aB (Cr.bal ⟨gn,gv⟩).B.length cB,.slice aC (Cr.bal ⟨gn,gv⟩).C.length cC] 47)=w2 at *;obtain⟨b0,b1⟩:=two HBx1.out;obtain⟨z0,z1,z2,f0,f1,f2⟩:=HR1.out.cells;have hs:=HS0.out;rw[hs] at z0 z1 z2 f0 f1 f2
  rcases vv with _|_
  all_goals
   have hg:=HG2.out
   try replace hg:=hg rfl
   try clear hg
   try have hg3:=HG2.out rfl
   go_wp2_with fail
   have hF:=HR1.out;have hs:=HS0.out;rw[hs] at hF;refine bodyPost_ret (v:=.tuple #[.agg #[.slice none 0 0,.slice none 0 0,.slice none 0 0],.bool false]) (by
    obtain⟨z0,z1,z2,_⟩:=(((hF.set0 (.slice none 0 0)).set1 (.slice none 0 0)).set2 (.slice none 0 0)).cells;revert z0 z1 z2;generalize (World.setCell _ (⟨w.heap.size+1,2,none⟩:Addr) (.slice none 0 0))=W4;intro z0 z1 z2;simp[results,Tryz.results42,go_sem,z0,z1,z2]) rfl ?_
   rw[HE.out,HC.out];have hB:=HB0.out.trans (HB2.out.mono (by omega));exact⟨_,_,_,rfl,Zax.nil _ _,World.ownsRow_nil _ _ _ _,((hB.setCell (p:=⟨w.heap.size+1,0,none⟩) (Nat.le_succ _) _).setCell (p:=⟨w.heap.size+1,1,none⟩) (Nat.le_succ _) _).setCell (p:=⟨w.heap.size+1,2,none⟩) (Nat.le_succ _) _⟩
 case pos=>
  obtain⟨rfl,h2⟩:=hyes;have hcan:Le.can ⟨gn,gv⟩=true:=Le.Zod hv h2;have hn:=Gm.Zjo hv;have hlen:=Gm.Zbp hv;have hpw:=Gm.Zeh hv;dsimp only at hn hlen hpw;obtain⟨m,rfl⟩:∃m:Nat,gn=m:=⟨gn.toNat,by omega⟩;have hm5:m≤5:=by omega
  have hm2:2≤m:=by omega
  obtain⟨N,hN⟩:∃N,gv.length=N+2:=⟨gv.length-2,by
   rw[Int.toNat_natCast] at hpw;have:2 ^ 2≤2 ^ m:=Nat.pow_le_pow_right (by omega) hm2;omega⟩
  have hN30:N≤30:=by omega
  have HGr:Hid (∃gr,Gm.Zcs ⟨(m:Int),gv⟩=gr):=⟨_,rfl⟩;obtain⟨gr,hgr⟩:=HGr.out;have HE:Hid (Le.least ⟨(m:Int),gv⟩=⟨Le.midA N m m++[repI 1 N++[0]],Le.midB m m++[1],(Cr.cost ⟨(m:Int),gv⟩ (N+1)).set N (gr,1)⟩):=by
   show _=_;rw[Le.Zfm hcan,<-hgr,Le.Zmc,Le.Zme,Le.Zni,Le.Zn1];unfold Le.lp;dsimp only;rw[hN];rfl
  have HGV:Hid (∀W',Since W0 W'->Calls Tryz.prog 62 #[.agg #[.int .i64 m,.slice a gv.length c]] W' fun e w'=>e=.returned (.int .i64 gr)/\Below W'.heap.size W' w'):=fun W' hs=>by
   have:=Zcv (GmC.up HGM0.out.1 hs.low) HF.out;rw[hgr] at this;exact this
  have HC:=zH hcan;have hbe:Cr.bal ⟨(m:Int),gv⟩=⟨Le.midA N m 0,Le.midB m 0,Cr.cost ⟨(m:Int),gv⟩ (N+1)⟩:=by
   rw[Cr.Zlj hv,Le.Zmd,Le.Zmf];unfold Cr.lp;dsimp only;rw[hN,Int.toNat_natCast];rfl
  have hCl:(Cr.cost ⟨(m:Int),gv⟩ (N+1)).length=N+1:=Cr.Zcl _ _;generalize Cr.cost ⟨(m:Int),gv⟩ (N+1)=CF at *;have HAl:Hid (∀k,(Le.midA N m k).length=m):=fun k=>Le.Zj3 N m k
  have HBl:Hid (∀k,(Le.midB m k).length=m):=fun k=>Le.Zj5 m k
  have HAs:Hid (∀k,k<m->(Le.midA N m k).set k ((rw_ (Le.midA N m k) k).set N (-1))=Le.midA N m (k+1)):=fun k hk=>Le.Znu hk
  have HBs:Hid (∀k,k<m->(Le.midB m k).set k 0=Le.midB m (k+1)):=fun k hk=>Le.Znv hk
  have HAr:Hid (∀k,k<m->(rw_ (Le.midA N m k) k).length=N+1):=fun k hk=>by rw[Le.Zj4 hk,Cr.Zco]
  generalize Le.midA N m=AF at *;generalize Le.midB m=BF at *;rw[hbe] at hBal;have HBal:=zH hBal;have h2f:decide ((m:Int)<2)=false:=by rw[decide_eq_false_iff_not];omega
  have HN:=zH hN;clear hn hv hcan hgr HGr hpw hbe hBal h2 hN;obtain⟨b0,b1⟩:=two HBox.out
  go_enter Tryz.func42,Tryz.ntmps42
  go_upto_region 1 with fail
  rw[HW.out]
  go_wp2_with fail
  refine HBal.out.mono ?_;rintro e w1 ⟨vA,vB,vC,rfl,hab,hc,k1⟩;have hsz:=HSW.out;have hab:=hab.raise (show W0.heap.size≤W.heap.size by omega);have hc:=Zad.raise hc (show W0.heap.size≤W.heap.size by omega);have hbw:Below w1.heap.size w1 (w1.alloc (.cells #[vA,vB,vC] 47)):=(Below.refl _ _).alloc (Nat.le_refl _) _;have hlr:=Zag (HRes.out.below k1);have HBx1:=zH ((HBox.out.below k1).more (.cells #[vA,vB,vC] 47));have HS1:Hid (LpBe w1.heap.size W0 (w1.alloc (.cells #[vA,vB,vC] 47)) vA vB vC (AF 0) (BF 0) CF):=
   ⟨hlr,Tri.new w1 _ _ _ _,(HRes.out.below k1).more _,hab.below hbw,Zad.below hc hbw,(HB1.out.trans (k1.mono HB1.out.size)).alloc (by omega) _⟩
  obtain⟨⟨aA,cA,hvA⟩,⟨aB,cB,hvB⟩⟩:=hab.shape;obtain⟨aC,cC,hvC,_⟩:=Za1 hc;dsimp only at hvA hvB hvC;subst hvA hvB hvC;have hA0:(AF 0).length=m:=HAl.out 0;have hB0:(BF 0).length=m:=HBl.out 0;rw[hA0,hB0,hCl] at HBx1 HS1;clear k1 b0 b1 hab hc HBal hbw hlr hsz
  go_upto_region 2 with fail
  generalize w1.heap.size=q at *;generalize w1.alloc (.cells #[.slice aA m cA,.slice aB m cB,.slice aC (N+1) cC] 47)=w2 at *;obtain⟨b0,b1⟩:=two HBx1.out;obtain⟨e0,e1,e2,_⟩:=HS1.out.box.cells;clear hA0 hB0
  go_wp2_with fail
  go_loopw [7,8,29] (fun _ _ i wr=>∃(k:Nat),k≤m/\i=.int .i64 k/\Hid (LpBe q W0 wr (.slice aA m cA) (.slice aB m cB) (.slice aC (N+1) cC) (AF k) (BF k) CF)) (fun _ _ i _=>m-(intOf i).toNat)
  case atStart=>exact⟨0,Nat.zero_le _,rfl,HS1⟩
  case round=>
   clear b0 b1 e0 e1 e2 HS1 HBx1;obtain⟨k,hk,rfl,hS⟩:=hrel
   by_cases hlt:k<m
   ·have n1:(k:Int)<(m:Int):=by omega
    obtain⟨g,u,rfl,hg1,hg2,hcell,_,hown,hgt⟩:=hS.out.ab.spot (j:=k) (by rw[HAl.out];exact hlt);obtain⟨b,cb,xb,rfl,hb1,hb2,hbc,hbf,hbr⟩:=Zgi (k:=N) hown (by rw[HAr.out k hlt];omega);have hob:=hS.out.ab.b;have hBk:(BF k).length=m:=HBl.out k;obtain⟨d,cd,xd,hdv,hd1,hd2,hdc,hdf,hdr⟩:=Zgi (k:=k) hob (by rw[hBk];exact hlt);rw[hBk] at hdv;injection hdv with hd3 _ hd4
    subst hd3 hd4;have hRk:=HAr.out k hlt;obtain⟨_,e1,_,_⟩:=hS.out.box.cells;have hne:b≠d:=fun e=>by
     obtain⟨vs,h1,h2⟩:=hS.out.ab;have hvl:vs.length=(AF k).length:=by have:=h2.len;simpa using this
     have:=HAl.out k;have hv:vs[k]? = some (.slice (some ⟨b,0,none⟩) (rw_ (AF k) k).length cb):=by
      have h3:(AF k).length=m:=HAl.out k;have h4:=World.ownsRow.cellAt (n:=(AF k).length) (cap:=cA) (g:=g) (by rw[h3];rw[h3] at h1;exact h1) k (by omega);rw[<-h4];exact hcell
     exact h2.apart 0 (k+1) _ _ (by omega) rfl hv d rfl (by rw[e];rfl)
    have hbty:TyAt wr b 3:=Za3 hown rfl;have hdty:TyAt wr d 3:=Za3 hob rfl;have hS1:LpBe q W0 (wr.setCell ⟨b,N,none⟩ (.int .i64 (-1))) (.slice (some ⟨g,0,none⟩) m cA) (.slice (some ⟨d,0,none⟩) m cB) (.slice aC (N+1) cC) (AF (k+1)) (BF k) CF:=
     hS.out.Zo4 hbty hb1 (by
      have h9:=hS.out.ab.elem (k:=N) (by rw[HAl.out];exact hlt) hcell (-1);rw[HAs.out k hlt] at h9;exact h9)
    have hS2:LpBe q W0 ((wr.setCell ⟨b,N,none⟩ (.int .i64 (-1))).setCell ⟨d,k,none⟩ (.int .i64 0)) (.slice (some ⟨g,0,none⟩) m cA) (.slice (some ⟨d,0,none⟩) m cB) (.slice aC (N+1) cC) (AF (k+1)) (BF (k+1)) CF:=
     hS1.Zo4 (Za3 hS1.ab.b rfl) hd1 (by
      have h9:=hS1.ab.Zqg (k:=k) 0;rw[HBs.out k hlt] at h9;exact h9)
    have hT1:LpBe q W0 (wr.setCell ⟨d,k,none⟩ (.int .i64 0)) (.slice (some ⟨g,0,none⟩) m cA) (.slice (some ⟨d,0,none⟩) m cB) (.slice aC (N+1) cC) (AF k) (BF (k+1)) CF:=
     hS.out.Zo4 hdty hd1 (by
      have h9:=hS.out.ab.Zqg (k:=k) 0;rw[HBs.out k hlt] at h9;exact h9)
    have hbq:b≠q:=fun e=>TyAt.ne hbty (Za4 hS.out.box) Za0.2.2.2.2.2.1 e
    have hdq:d≠q:=fun e=>TyAt.ne hdty (Za4 hS.out.box) Za0.2.2.2.2.2.1 e
    have hqb:q≠b:=fun e=>hbq e.symm
    have hqd:q≠d:=fun e=>hdq e.symm
    have hdb:d≠b:=fun e=>hne e.symm
    have HS2:=zH hS2;have HX:=zH (And.intro hbr hdr);have hbr2:N<cb:=by omega
    have hdr2:k<cB:=by omega
    have HNe:=zH hne;rw[hRk] at hcell;clear hS1 hS2 hT1 hob hown hbty hdty hbr hdr hS
    go_upto_region 8 with fail
    go_region
    all_goals
     go_wp2_with fail
     go_roundw
     case rel=>exact⟨k+1,by omega,by go_num,HS2.out.below (Below.refl _ _).drew⟩
     case measure=>simp[intOf];omega
   ·have hke:k=m:=by omega
    have hS2:=hS.out;rw[hke] at hS2;have HS2:=zH hS2;have hA5:(AF m).length≤5:=by have:=HAl.out m;omega
    have hZ5:(BF m).length≤5:=by have:=HBl.out m;omega
    have hRl:(repI 1 N).length≤32:=by unfold repI;rw[List.length_replicate];omega
    have HRep:Hid (∀(q':Nat) (W':World),q'<W'.heap.size->W'.cell? ⟨q',0,none⟩=some (.int .i64 1)->Calls Tryz.prog 60 #[.slice (some ⟨q',0,none⟩) 1 1,.int .i64 N] W' fun e w'=>∃v,e=.returned v/\Zab W'.heap.size w' v (repI 1 N)/\Below W'.heap.size W' w'):=fun q' W' h1 h2=>Zf8 1 N q' 1 (by omega) W' h1 h2
    generalize AF m=A at *;generalize BF m=Z at *;generalize repI 1 N=RP at *;obtain⟨OE,hOE⟩:∃OE,RP++[0]=OE:=⟨_,rfl⟩;obtain⟨AE,hAE⟩:∃AE,A++[OE]=AE:=⟨_,rfl⟩;obtain⟨ZE,hZE⟩:∃ZE,Z++[1]=ZE:=⟨_,rfl⟩;obtain⟨CE,hCE⟩:∃CE,CF.set N (gr,1)=CE:=⟨_,rfl⟩;rw[hOE,hAE,hZE,hCE] at HE;have HOE:=zH hOE;have HAE:=zH hAE;have HZE:=zH hZE;have HCE:=zH hCE;have HRp:=zH hRl;have HCl:=zH hCl;have hlow:=hS2.low;have hL0:Below wr.heap.size wr wr.drew:=(Below.refl _ _).drew;have Cell:=zH (fun w' (hb:Below wr.heap.size wr w')=>(HS2.out.below hb).box.cells.1);have c0:=hS2.box.cells.1;clear hS hS2 hOE hAE hZE hCE hRl hCl HAl HBl HAs HBs HAr hke
    go_upto_region 10 with fail
    clear hlt
    go_cut [51] (fun _ wx=>∃(vA:Value),Hid (LpBe q W0 wx vA (.slice aB m cB) (.slice aC (N+1) cC) AE Z CF))
    case first=>
     refine Zai (S:=(fun w'=>w'.cell? ⟨q,0,none⟩=some (.slice aA m cA))) 8 (by kernel_rfl) ?_ (fun hHeld=>?_)
     ·exact c0
     refine tk2 0 ⟨some 42,_,0,_,_,none⟩ ?_;refine tk2 1 ⟨some 43,_,45,_,_,none⟩ ?_;refine tk2 3 ⟨some 45,_,3,_,_,none⟩ ?_
     try simp only[Act.put,zA,zB,zC]
     have hL1:Below wr.heap.size wr (wr.drew.alloc (.cells #[.int .i64 1] 3)):=hL0.alloc hL0.size _;have z2:=(Zaa.new wr.drew #[.int .i64 1] 3);have hL1c:Below wr.heap.size wr (wr.drew.alloc (.cells #[.int .i64 0] 3)):=hL0.alloc hL0.size _;have z5a:=(Zaa.new wr.drew #[.int .i64 0] 3);refine Zcc (rs:=[2,5]) (by kernel_rfl) (by simp) ?_;refine (Zay.cons (o:=⟨some 44,.buildSlice 22 1 #[(0,.const (Value.int IntKind.i64 1))],22,"l13_least.go:23",#[],none⟩) (rs:=[5]) rfl (fun K hK=>?_) (Zay.cons (o:=⟨some 47,.buildSlice 22 1 #[(0,.const (Value.int IntKind.i64 0))],22,"l13_least.go:23",#[],none⟩) (rs:=[]) rfl (fun K hK=>?_) Zay.nil))
     ·go_simp
      refine hK.out _ _ ?_ (fun hHeld=>?_)
      ·exact Cell.out _ hL1
      clear hK K
      try simp only[Act.put,zA,zB,zC]
      have hL2:Below wr.heap.size wr ((wr.drew.alloc (.cells #[.int .i64 1] 3)).alloc (.cells #[.int .i64 0] 3)):=hL1.alloc hL1.size _;have z5a:=(Zaa.new (wr.drew.alloc (.cells #[.int .i64 1] 3)) #[.int .i64 0] 3);have z2b:=z2.more (.cells #[.int .i64 0] 3);refine Zcc (rs:=[4,5]) (by kernel_rfl) (by simp) ?_;refine (Zay.cons (o:=⟨some 46,.call { callee:=.value (.func 60),args:=#[.tmp 44,.tmp 45],argTypes:=#[22,3] },22,"l13_least.go:23",#[⟨2,.data⟩,⟨3,.data⟩],none⟩) (rs:=[5]) rfl (fun K hK=>?_) (Zay.cons (o:=⟨some 47,.buildSlice 22 1 #[(0,.const (Value.int IntKind.i64 0))],22,"l13_least.go:23",#[],none⟩) (rs:=[]) rfl (fun K hK=>?_) Zay.nil))
      ·go_simp
       (go_at_call 60;refine (HRep.out wr.heap.size _ (Zag z2) (z2.cell 0)).mono ?_;rintro e w4 ⟨v4,rfl,hr0,k4⟩;have hLc:=hL1.trans (k4.mono hL1.size);have hr:=hr0.raise hL1.size;obtain⟨av,cv,rfl⟩:=Zak hr)
       refine hK.out _ _ ?_ (fun hHeld=>?_)
       ·exact Cell.out _ hLc
       clear hK K
       try simp only[Act.put,zA,zB,zC]
       have hL:Below wr.heap.size wr (w4.alloc (.cells #[.int .i64 0] 3)):=hLc.alloc hLc.size _;have z5:=(Zaa.new w4 #[.int .i64 0] 3).cell 0
       replace hr:=hr.below ((Below.refl w4.heap.size w4).alloc (Nat.le_refl _) (.cells #[.int .i64 0] 3))
       refine rd2 5 ⟨some 47,_,22,_,_,none⟩ fun K hK=>?_
       go_simp
       refine hK.out _ _ ?_ (fun hHeld=>?_)
       ·exact Cell.out _ hL
       clear hK K
       try simp only[Act.put,zA,zB,zC]
       refine rd2 6 ⟨some 48,_,22,_,_,none⟩ fun K hK=>?_
       (refine Za7 rfl _ _ rfl wr.heap.size _ RP rfl hr w4.heap.size 0 rfl z5 (by have:=HRp.out;omega) hL.size ?_;intro v8 w8 hown hgrow _;rw[HOE.out] at hown;have hL8:=hL.grown hgrow hL.size (fun g hg=>(World.ownsRow.lt hr g hg).1);obtain⟨a8,c8,rfl⟩:=Zak hown)
       refine hK.out _ _ ?_ (fun hHeld=>?_)
       ·exact Cell.out _ hL8
       clear hK K
       try simp only[Act.put,zA,zB,zC]
       have hL9:=hL8.alloc hL8.size (.cells #[.slice a8 OE.length c8] 22);have hSx:=HS2.out.below hL9;obtain⟨vs,k1,k2,k3⟩:=HS2.out.later hL9;have hu3:=(Zaa.new w8 #[.slice a8 OE.length c8] 22).cell 0;have hr3:Zab W0.heap.size (w8.alloc (.cells #[.slice a8 OE.length c8] 22)) (.slice a8 OE.length c8) OE:=(hown.below ((Below.refl _ _).alloc (Nat.le_refl _) _)).raise (Nat.le_of_lt HS2.out.lt.2);have hap:∀(j:Nat) (u1:Value),((Value.slice aB m cB)::vs)[j]? = some u1->∀b,u1.ownBlock=some b->(Value.slice a8 OE.length c8).ownBlock≠some b:=fun j u1 e b hb hb2=>by
        have:=k3 j u1 e b hb;have:=(World.ownsRow.lt hown b hb2).1;omega
       refine rd2 7 ⟨some 49,_,45,_,_,none⟩ fun K hK=>?_
       go_simp
       refine hK.out _ _ ?_ (fun hHeld=>?_)
       ·exact Cell.out _ hL9
       clear hK K
       try simp only[Act.put,zA,zB,zC]
       refine rd3 8 ⟨some 50,_,45,_,_,none⟩ fun K hK=>?_
       (refine Za6 rfl _ _ rfl W0.heap.size _ _ A Z vs rfl k1 k2 w8.heap.size _ OE rfl hu3 hr3 hap (by omega) (Nat.le_of_lt hSx.lt.2) ?_;intro v6 w6 hab hgrow6)
       refine hK.out _ _ ?_;clear hK K
       try simp only[Act.put,zA,zB,zC]
       rw[HAE.out] at hab;obtain⟨⟨a6,c6,rfl⟩,_⟩:=hab.shape;obtain⟨y0,y1,y2,f0,f1,f2⟩:=(hSx.triA hgrow6).cells;refine rd3 9 ⟨some 51,_,0,_,_,none⟩ fun K hK=>?_
       go_simp
       refine hK.out _ _ ?_;clear hK K
       try simp only[Act.put,zA,zB,zC]
       refine rd3 10 ⟨none,_,0,_,_,none⟩ fun K hK=>?_
       go_simp
       refine hK.out _ _ ?_;clear hK K;refine Zas (by kernel_rfl) ?_ _;have HS9:=zH (hSx.putA hgrow6 hab);clear hSx hr3 hu3 hap k1 k2 k3 hL9 hL8 hown hgrow y0 y1 y2 f0 f1 f2 hab hgrow6
       go_wp2_with fail
       go_meet
       exact⟨_,HS9⟩
      ·go_simp
       refine hK.out _ _ ?_ (fun hHeld=>?_)
       ·exact Cell.out _ hL2
       clear hK K
       try simp only[Act.put,zA,zB,zC]
       refine rd2 4 ⟨some 46,_,22,_,_,none⟩ fun K hK=>?_
       go_simp
       (go_at_call 60;refine (HRep.out wr.heap.size _ (Zag z2b) (z2b.cell 0)).mono ?_;rintro e w4 ⟨v4,rfl,hr0,k4⟩;have hLc:=hL2.trans (k4.mono hL2.size);have hr:=hr0.raise hL2.size;obtain⟨av,cv,rfl⟩:=Zak hr)
       refine hK.out _ _ ?_ (fun hHeld=>?_)
       ·exact Cell.out _ hLc
       clear hK K
       try simp only[Act.put,zA,zB,zC]
       have hL:=hLc;have z5:w4.cell? ⟨wr.heap.size+1,0,none⟩=some (.int .i64 0):=by have h:=(z5a.below k4).cell 0;rw[Zar] at h;exact h
       refine rd2 6 ⟨some 48,_,22,_,_,none⟩ fun K hK=>?_
       (refine Za7 rfl _ _ rfl wr.heap.size _ RP rfl hr (wr.heap.size+1) 0 rfl z5 (by have:=HRp.out;omega) hL.size ?_;intro v8 w8 hown hgrow _;rw[HOE.out] at hown;have hL8:=hL.grown hgrow hL.size (fun g hg=>(World.ownsRow.lt hr g hg).1);obtain⟨a8,c8,rfl⟩:=Zak hown)
       refine hK.out _ _ ?_ (fun hHeld=>?_)
       ·exact Cell.out _ hL8
       clear hK K
       try simp only[Act.put,zA,zB,zC]
       have hL9:=hL8.alloc hL8.size (.cells #[.slice a8 OE.length c8] 22);have hSx:=HS2.out.below hL9;obtain⟨vs,k1,k2,k3⟩:=HS2.out.later hL9;have hu3:=(Zaa.new w8 #[.slice a8 OE.length c8] 22).cell 0;have hr3:Zab W0.heap.size (w8.alloc (.cells #[.slice a8 OE.length c8] 22)) (.slice a8 OE.length c8) OE:=(hown.below ((Below.refl _ _).alloc (Nat.le_refl _) _)).raise (Nat.le_of_lt HS2.out.lt.2);have hap:∀(j:Nat) (u1:Value),((Value.slice aB m cB)::vs)[j]? = some u1->∀b,u1.ownBlock=some b->(Value.slice a8 OE.length c8).ownBlock≠some b:=fun j u1 e b hb hb2=>by
        have:=k3 j u1 e b hb;have:=(World.ownsRow.lt hown b hb2).1;omega
       refine rd2 7 ⟨some 49,_,45,_,_,none⟩ fun K hK=>?_
       go_simp
       refine hK.out _ _ ?_ (fun hHeld=>?_)
       ·exact Cell.out _ hL9
       clear hK K
       try simp only[Act.put,zA,zB,zC]
       refine rd3 8 ⟨some 50,_,45,_,_,none⟩ fun K hK=>?_
       (refine Za6 rfl _ _ rfl W0.heap.size _ _ A Z vs rfl k1 k2 w8.heap.size _ OE rfl hu3 hr3 hap (by omega) (Nat.le_of_lt hSx.lt.2) ?_;intro v6 w6 hab hgrow6)
       refine hK.out _ _ ?_;clear hK K
       try simp only[Act.put,zA,zB,zC]
       rw[HAE.out] at hab;obtain⟨⟨a6,c6,rfl⟩,_⟩:=hab.shape;obtain⟨y0,y1,y2,f0,f1,f2⟩:=(hSx.triA hgrow6).cells;refine rd3 9 ⟨some 51,_,0,_,_,none⟩ fun K hK=>?_
       go_simp
       refine hK.out _ _ ?_;clear hK K
       try simp only[Act.put,zA,zB,zC]
       refine rd3 10 ⟨none,_,0,_,_,none⟩ fun K hK=>?_
       go_simp
       refine hK.out _ _ ?_;clear hK K;refine Zas (by kernel_rfl) ?_ _;have HS9:=zH (hSx.putA hgrow6 hab);clear hSx hr3 hu3 hap k1 k2 k3 hL9 hL8 hown hgrow y0 y1 y2 f0 f1 f2 hab hgrow6
       go_wp2_with fail
       go_meet
       exact⟨_,HS9⟩
     ·go_simp
      refine hK.out _ _ ?_ (fun hHeld=>?_)
      ·exact Cell.out _ hL1c
      clear hK K
      try simp only[Act.put,zA,zB,zC]
      have hL2:Below wr.heap.size wr ((wr.drew.alloc (.cells #[.int .i64 0] 3)).alloc (.cells #[.int .i64 1] 3)):=hL1c.alloc hL1c.size _;have z2:=(Zaa.new (wr.drew.alloc (.cells #[.int .i64 0] 3)) #[.int .i64 1] 3);rw[Zar] at z2;refine rd2 2 ⟨some 44,_,22,_,_,none⟩ fun K hK=>?_
      go_simp
      refine hK.out _ _ ?_ (fun hHeld=>?_)
      ·exact Cell.out _ hL2
      clear hK K
      try simp only[Act.put,zA,zB,zC]
      refine rd2 4 ⟨some 46,_,22,_,_,none⟩ fun K hK=>?_
      go_simp
      (go_at_call 60;refine (HRep.out (wr.heap.size+1) _ (Zag z2) (z2.cell 0)).mono ?_;rintro e w4 ⟨v4,rfl,hr0,k4⟩;have hLc:=hL2.trans (k4.mono hL2.size);have hr:=hr0.raise hL2.size;obtain⟨av,cv,rfl⟩:=Zak hr)
      refine hK.out _ _ ?_ (fun hHeld=>?_)
      ·exact Cell.out _ hLc
      clear hK K
      try simp only[Act.put,zA,zB,zC]
      have hL:=hLc;have z5:w4.cell? ⟨wr.heap.size,0,none⟩=some (.int .i64 0):=((z5a.more (.cells #[.int .i64 1] 3)).below k4).cell 0;refine rd2 6 ⟨some 48,_,22,_,_,none⟩ fun K hK=>?_
      (refine Za7 rfl _ _ rfl wr.heap.size _ RP rfl hr wr.heap.size 0 rfl z5 (by have:=HRp.out;omega) hL.size ?_;intro v8 w8 hown hgrow _;rw[HOE.out] at hown;have hL8:=hL.grown hgrow hL.size (fun g hg=>(World.ownsRow.lt hr g hg).1);obtain⟨a8,c8,rfl⟩:=Zak hown)
      refine hK.out _ _ ?_ (fun hHeld=>?_)
      ·exact Cell.out _ hL8
      clear hK K
      try simp only[Act.put,zA,zB,zC]
      have hL9:=hL8.alloc hL8.size (.cells #[.slice a8 OE.length c8] 22);have hSx:=HS2.out.below hL9;obtain⟨vs,k1,k2,k3⟩:=HS2.out.later hL9;have hu3:=(Zaa.new w8 #[.slice a8 OE.length c8] 22).cell 0;have hr3:Zab W0.heap.size (w8.alloc (.cells #[.slice a8 OE.length c8] 22)) (.slice a8 OE.length c8) OE:=(hown.below ((Below.refl _ _).alloc (Nat.le_refl _) _)).raise (Nat.le_of_lt HS2.out.lt.2);have hap:∀(j:Nat) (u1:Value),((Value.slice aB m cB)::vs)[j]? = some u1->∀b,u1.ownBlock=some b->(Value.slice a8 OE.length c8).ownBlock≠some b:=fun j u1 e b hb hb2=>by
       have:=k3 j u1 e b hb;have:=(World.ownsRow.lt hown b hb2).1;omega
      refine rd2 7 ⟨some 49,_,45,_,_,none⟩ fun K hK=>?_
      go_simp
      refine hK.out _ _ ?_ (fun hHeld=>?_)
      ·exact Cell.out _ hL9
      clear hK K
      try simp only[Act.put,zA,zB,zC]
      refine rd3 8 ⟨some 50,_,45,_,_,none⟩ fun K hK=>?_
      (refine Za6 rfl _ _ rfl W0.heap.size _ _ A Z vs rfl k1 k2 w8.heap.size _ OE rfl hu3 hr3 hap (by omega) (Nat.le_of_lt hSx.lt.2) ?_;intro v6 w6 hab hgrow6)
      refine hK.out _ _ ?_;clear hK K
      try simp only[Act.put,zA,zB,zC]
      rw[HAE.out] at hab;obtain⟨⟨a6,c6,rfl⟩,_⟩:=hab.shape;obtain⟨y0,y1,y2,f0,f1,f2⟩:=(hSx.triA hgrow6).cells;refine rd3 9 ⟨some 51,_,0,_,_,none⟩ fun K hK=>?_
      go_simp
      refine hK.out _ _ ?_;clear hK K
      try simp only[Act.put,zA,zB,zC]
      refine rd3 10 ⟨none,_,0,_,_,none⟩ fun K hK=>?_
      go_simp
      refine hK.out _ _ ?_;clear hK K;refine Zas (by kernel_rfl) ?_ _;have HS9:=zH (hSx.putA hgrow6 hab);clear hSx hr3 hu3 hap k1 k2 k3 hL9 hL8 hown hgrow y0 y1 y2 f0 f1 f2 hab hgrow6
      go_wp2_with fail
      go_meet
      exact⟨_,HS9⟩
    case rest=>
     obtain⟨w5,hw5⟩:∃q:World,q=wc:=⟨_,rfl⟩;subst hw5;obtain⟨vA,hS⟩:=hcut;clear HS2 Cell c0 hL0 HRep HRp HOE HAE hlow;obtain⟨⟨aE,cE,rfl⟩,_⟩:=hS.out.ab.shape;obtain⟨c0,c1,c2,_⟩:=hS.out.box.cells;have HS10:=zH (hS.out.alloc (.cells #[.int .i64 1] 3));have Hcy:=zH ((Zaa.new w5 #[.int .i64 1] 3).cell 0);clear hS
     go_wp2_with (at_builtin;refine Zat rfl _ _ rfl W0.heap.size _ Z rfl HS10.out.ab.b w5.heap.size 1 rfl Hcy.out (by omega) (Nat.le_of_lt HS10.out.lt.2) ?_)
     intro v6 w8 hown6 hgrow6 hat6;rw[HZE.out] at hown6;obtain⟨a7,c7,rfl⟩:=Zak hown6;obtain⟨y0,y1,y2,f0,f1,f2⟩:=(HS10.out.triB hgrow6).cells;have HSn:=zH (HS10.out.putB hgrow6 hown6 (by rw[Zar];exact hat6));clear hown6 hgrow6 hat6 HS10 Hcy c0 c1 c2 HZE
     go_upto_region 12 with fail
     clear y0 y1 y2 f0 f1 f2;generalize w8.setCell ⟨q,1,none⟩ (.slice a7 ZE.length c7)=w10 at *;have hlow:=HSn.out.low;have HBr:=zH (HBx0.out.below hlow);obtain⟨b0,b1⟩:=two HBr.out;obtain⟨_,_,e2,_⟩:=HSn.out.box.cells;have hCl:=HCl.out;obtain⟨gC,rfl⟩:=Zpl HSn.out.c (by omega);have hqs:=HSn.out.lt;have hbs:=Zag HBr.out;have hin:=(Since.refl w10).drew;have Cl2:=zH (fun w' (h:Since w10 w')=>(show w'.cell? ⟨q,2,none⟩=some (.slice (some ⟨gC,0,none⟩) (N+1) cC)/\w'.cell? ⟨w.heap.size,0,none⟩=some (.int .i64 (m:Int))/\w'.cell? ⟨w.heap.size,1,none⟩=some (.slice a gv.length c)/\Since w10 w' from ⟨h.cell (p:=⟨q,2,none⟩) hqs.1 e2,h.cell (p:=⟨w.heap.size,0,none⟩) hbs b0,h.cell (p:=⟨w.heap.size,1,none⟩) hbs b1,h⟩));have HJoin:Hid (∀w',Since w10 w'->Since W0 w'):=fun w' hs=>⟨hlow.trans (hs.low.mono hlow.size)⟩
     clear e2 hlow hCl;clear b0 b1;refine Zai (S:=(fun w'=>w'.cell? ⟨q,2,none⟩=some (.slice (some ⟨gC,0,none⟩) (N+1) cC)/\w'.cell? ⟨w.heap.size,0,none⟩=some (.int .i64 (m:Int))/\w'.cell? ⟨w.heap.size,1,none⟩=some (.slice a gv.length c)/\Since w10 w')) 6 (by kernel_rfl) ?_ (fun hHeld=>?_)
     ·exact Cl2.out _ hin
     refine tk2 0 ⟨some 57,_,0,_,_,none⟩ ?_;refine tk2 1 ⟨some 58,_,36,_,_,none⟩ ?_;refine tk2 2 ⟨some 59,_,3,_,_,none⟩ ?_;refine tk2 3 ⟨some 60,_,33,_,_,none⟩ ?_
     try simp only[Act.put,zA,zB,zC]
     refine rd2 4 ⟨some 61,_,3,_,_,none⟩ fun K hK=>?_
     go_simp
     (go_at_call 62;refine (HGV.out _ (HJoin.out _ hin)).mono ?_;rintro e w13 ⟨rfl,hb8⟩;have hin1:=hin.trans hb8)
     refine hK.out _ _ ?_ (fun hHeld=>?_)
     ·exact Cl2.out _ hin1
     clear hK K
     try simp only[Act.put,zA,zB,zC]
     refine rd2 5 ⟨some 62,_,35,_,_,none⟩ fun K hK=>?_
     go_simp
     (go_at_call 61;refine (Zbf gr _).mono ?_;rintro e w14 ⟨rfl,hb9⟩;have hin2:=hin1.trans hb9)
     refine hK.out _ _ ?_ (fun hHeld=>?_)
     ·exact Cl2.out _ hin2
     clear hK K
     try simp only[Act.put,zA,zB,zC]
     have hst3:=HSn.out.below hin2.low;have nN:(N:Int)<(N:Int)+1:=by omega
     have hcl:=HCl.out;have hown9:Zad W0.heap.size w14 (.slice (some ⟨gC,0,none⟩) CF.length cC) CF:=by rw[hcl];exact hst3.c
     obtain⟨⟨v0,s0⟩,g0,⟨v1,s1⟩,g1⟩:=Zk3 hown9 N (by omega);have hst3':LpBe q W0 w14 (.slice aE AE.length cE) (.slice a7 ZE.length c7) (.slice (some ⟨gC,0,none⟩) CF.length cC) AE ZE CF:=by rw[hcl];exact hst3
     have HSp:=zH (hst3'.Zpo (k:=N) (x:=(gr,1)) (by omega));refine rd3 6 ⟨some 63,_,0,_,_,none⟩ fun K hK=>?_
     go_simp
     refine hK.out _ _ ?_;clear hK K
     try simp only[Act.put,zA,zB,zC]
     refine rd3 7 ⟨none,_,0,_,_,none⟩ fun K hK=>?_
     go_simp
     refine hK.out _ _ ?_;clear hK K;refine Zas (by kernel_rfl) ?_ _;rw[HCE.out] at HSp;clear hst3 hst3' hown9 v0 s0 g0 v1 s1 g1 hin hin1 hin2 hb8 hb9 Cl2 HJoin HSn hqs hbs
     go_upto_region 13 with fail
     generalize (w14.setCell ⟨gC,N*2,none⟩ (.int .i64 gr)).setCell ⟨gC,N*2+1,none⟩ (.int .i64 1)=w15 at *;obtain⟨y0,y1,y2,_⟩:=HSp.out.box.cells;obtain⟨z0,z1,z2,f0,f1,f2⟩:=HSp.out.res.cells;have hcl2:=HCl.out;have HF:=zH HSp.out.fin;have hs:=HS0.out;have HF2:=HF.out;rw[hs] at z0 z1 z2 f0 f1 f2 HF2;rw[hcl2] at y2 HF2;have HF3:=zH HF2;clear HF HF2 HSp hcl2 hcl
     go_wp2_with fail
     refine bodyPost_ret (v:=.tuple #[.agg #[.slice aE AE.length cE,.slice a7 ZE.length c7,.slice (some ⟨gC,0,none⟩) (N+1) cC],.bool true]) (by
      obtain⟨z0,z1,z2,_⟩:=HF3.out.1.cells;revert z0 z1 z2;generalize (World.setCell _ (⟨w.heap.size+1,2,none⟩:Addr) (.slice (some ⟨gC,0,none⟩) (N+1) cC))=W4;intro z0 z1 z2;simp[results,Tryz.results42,go_sem,z0,z1,z2]) rfl ?_
     rw[HE.out,HC.out];exact⟨_,_,_,rfl,HF3.out.2.1.raise (Nat.le_succ _),Zad.raise HF3.out.2.2.1 (Nat.le_succ _),HB0.out.trans (HF3.out.2.2.2.mono (Nat.le_succ _))⟩
end Go.Proofs.YtpjnjidbdpfdcaaGreat
