/- FindLeastCore, both sides. -/
import Derived.Test.YtlohljkfphljgaaGreatLeA
import Derived.Test.YtlohljkfphljgaaGreatLeB
import Derived.Test.YtlohljkfphljgaaGreatGLk
import Derived.Test.YtlohljkfphljgaaGreatHCoB
import Derived.Test.YtlohljkfphljgaaGreatHLkLe
import Derived.Test.YtlohljkfphljgaaGreatHLkLe
import Derived.Test.YtlohljkfphljgaaGreatSxG
import Derived.Test.YtlohljkfphljgaaGreatGSz
import Derived.Test.YtlohljkfphljgaaGreatHLkLe
set_option maxRecDepth 100000
set_option maxHeartbeats 8000000
namespace Go.Proofs.YtlohljkfphljgaaGreat
open Go.RowKit
open Ve (R)
open Gm (G)
open Le (Lst)
open Lp (P)
def Zh0 (r:Lst) (w:World) (e:Ending) (w':World):Prop:=(∃y z:Value,e=.returned (.agg #[.bool r.ok,.int .i64 r.ex.1,.int .i64 r.ex.2,y,z])/\Zaa w.heap.size w' y r.point/\Zaa w.heap.size w' z r.weights/\∀g,y.ownBlock=some g->z.ownBlock≠some g)/\Below w.heap.size w w'
theorem Zpn:31≠65:=by decide
def Zmk (w:World) (q:Nat) (x n d y z:Value):World:=((((w.setCell ⟨q,0,none⟩ x).setCell ⟨q,1,none⟩ n).setCell ⟨q,2,none⟩ d).setCell ⟨q,3,none⟩ y).setCell ⟨q,4,none⟩ z
theorem Zfc {w:World} {q:Nat} {x n d y z:Value} {t:TypeId} (h:Zac w q #[x,n,d,y,z] t) (x' n' d' y' z':Value):Zac (Zmk w q x' n' d' y' z') q #[x',n',d',y',z'] t:=
 ((((h.set 0 x').set 1 n').set 2 d').set 3 y').set 4 z'
theorem Zeb {B q:Nat} {w w':World} (h:Below B w w') (hq:B≤q) (x n d y z:Value):Below B w (Zmk w' q x n d y z):=
 ((((h.setCell (p:=⟨q,0,none⟩) hq x).setCell (p:=⟨q,1,none⟩) hq n).setCell (p:=⟨q,2,none⟩) hq d).setCell (p:=⟨q,3,none⟩) hq y).setCell (p:=⟨q,4,none⟩) hq z
theorem Zfv {B q:Nat} {w:World} {v:Value} {xs:List R} {cs:Array Value} (h:Zaa B w v xs) (hq:Zac w q cs 65) (x n d y z:Value):Zaa B (Zmk w q x n d y z) v xs:=by
 have h1:=Za7 h (show TyAt w q 65 from ⟨_,hq⟩) Zpn;exact Zao (Zao (Zao (Zao (Zao h h1) h1) h1) h1) h1
theorem Zub (v:List R) (k n:Nat) (hk:k<n) (hn:n<v.length):Cr.negs (v.take (k+1))=Cr.negs (v.take k)++[Ta.negR (Ve.at_ v k)]:=by
 unfold Cr.negs;have hk2:k<v.length:=by omega
 rw[List.take_add_one,List.map_append,List.getElem?_eq_getElem hk2];simp[Ve.at_,hk2]
theorem Zv9 (v:List R) (k:Nat) (hk:k≤v.length):(Cr.negs (v.take k)).length=k:=by simp[Cr.negs];omega
theorem Zr6 {w:World} {x y z:Value} {p:P} (h:LpC w x y z p) (hn:Zbs p):Calls Tryz.prog 11 #[.agg #[x,y,z]] w (Zbl (Ta.solve p) w):=by
 have h0:=LpC.rg (h);obtain⟨a,b,c,c1,c2,c3,e1,e2,e3,hi⟩:=id h;subst e1 e2 e3;exact Zp8 a b c c1 c2 c3 p hn w hi fun q hq=>Z0b c1 c2 c3 h0 hq
theorem Zre {w:World} {x y z:Value} {p:P} (h:LpX w x y z p) (hn:Zbs p):Calls Tryz.prog 9 #[.agg #[x,y,z]] w (Zbl (Ta.solve p) w):=by
 have h0:=LpC.rg (h.1);obtain⟨a,b,c,c1,c2,c3,e1,e2,e3,hi⟩:=id (h.1);have hcap:=h.2 _ _ _ e2;subst e1 e2 e3;exact Zph a b c c1 c2 c3 p hn hcap w hi fun q hq=>Z0b c1 c2 c3 h0 hq
theorem Ziu {w:World} {x y:Value} {g:G} (h:GmX w x y g) (hf:GmOk g) :
  Calls Tryz.prog 39 #[.agg #[x,y]] w (Zh0 (Le.find g) w):=by
 obtain⟨gn,gv⟩:=g;obtain⟨⟨a,c,rfl,rfl,hi⟩,hroom⟩:=h;have hl:gv.length≤1048576:=hf.1;dsimp only at hi ⊢;obtain⟨W0,hW0⟩:∃W0,W0=w.alloc (.cells #[.int .i64 gn,.slice a gv.length c] 48):=⟨_,rfl⟩;obtain⟨W,hW⟩:∃W,W=W0.alloc (.cells #[.bool false,.int .i64 0,.int .i64 0,.slice none 0 0,.slice none 0 0] 65):=⟨_,rfl⟩;have hs0:W0.heap.size=w.heap.size+1:=by rw[hW0];exact Zar _ _
 have hsW:W.heap.size=w.heap.size+2:=by rw[hW,Zar,hs0]
 have hb0:Below w.heap.size w W0:=by rw[hW0];exact (Below.refl _ _).alloc (Nat.le_refl _) _
 have hb1:Below W0.heap.size W0 W:=by rw[hW];exact (Below.refl _ _).alloc (Nat.le_refl _) _
 have hb:Below w.heap.size w W:=hb0.trans (hb1.mono (by omega));have hbox0:Zac W0 w.heap.size #[.int .i64 gn,.slice a gv.length c] 48:=by rw[hW0];exact Zac.new _ _ _
 have hbox:=hbox0.below hb1;have hres:Zac W (w.heap.size+1) #[.bool false,.int .i64 0,.int .i64 0,.slice none 0 0,.slice none 0 0] 65:=by rw[hW,<-hs0];exact Zac.new _ _ _
 have hgm:GmX W (.int .i64 gn) (.slice a gv.length c) ⟨gn,gv⟩:=⟨GmC.up (g:=⟨gn,gv⟩) ⟨a,c,rfl,rfl,hi⟩ hb,fun b n c' e=>hroom b n c' e⟩;have hMk:=Zp7 hgm.1 hf;have HBox:=zH hbox;have HRes:=zH hres;have HB:=zH hb;have HSW:=zH hsW;have HW:Hid ((w.alloc (.cells #[.int .i64 gn,.slice a gv.length c] 48)).alloc (.cells #[.bool false,.int .i64 0,.int .i64 0,.slice none 0 0,.slice none 0 0] 65)=W):=by show _=_;rw[hW,hW0]
 obtain⟨KC,hKC⟩:∃k,Le.can ⟨gn,gv⟩=k:=⟨_,rfl⟩;obtain⟨PL,hPL⟩:∃k,Le.least ⟨gn,gv⟩=k:=⟨_,rfl⟩;have HPs:Hid (Zbs PL):=by rw[<-hPL];exact Zvr (Zlg _)
 obtain⟨S,hS⟩:∃S,Ta.solve PL=S:=⟨_,rfl⟩;obtain⟨m,hm⟩:∃m,gn.toNat=m:=⟨_,rfl⟩;have HNo:Hid (KC=false->Le.find ⟨gn,gv⟩=Le.zero):=fun h=>Le.Zq2 (by rw[hKC];exact h)
 have hSol:KC=true->Le.sol ⟨gn,gv⟩=S:=fun h=>by
  rw[<-hS,<-hPL,Le.Zgp (by rw[hKC];exact h)];rfl
 have HStat:Hid (KC=true->S.status≠1->Le.find ⟨gn,gv⟩=Le.zero):=fun h h2=>Le.Zh7 (by rw[hKC];exact h) (by rw[hSol h];exact h2)
 have HYes:Hid (KC=true->S.status=1->Le.find ⟨gn,gv⟩=⟨true,Ta.negR S.value,Cr.negs (S.Y.take m),S.X⟩):=fun h h2=>by
  rw[Le.Znv (by rw[hKC];exact h) (by rw[hSol h];exact h2),hSol h,<-hm]
 have HYl:Hid (KC=true->S.status=1->S.Y.length=m+1):=fun h h2=>by
  have:=Le.Zzl (g:=⟨gn,gv⟩) (by rw[hSol h];exact h2);rw[hSol h] at this;rw[this,<-hm]
 have Hmn:Hid (KC=true->gn=(m:Int)/\m≤5):=fun h=>by
  have h1:=Le.Zff (g:=⟨gn,gv⟩) (by rw[hKC];exact h);have:=Gm.Zmq h1.1;dsimp only at this;omega
 rw[hKC,hPL] at hMk;have HMk:=zH hMk;have HSl:=zH hS;generalize Le.find ⟨gn,gv⟩=FD at *;clear hf hgm hbox hbox0 hres hb0 hb1 hb hi hs0 hsW hW hW0 hroom hMk hKC hPL hS hSol hm;obtain⟨b0,b1⟩:=two HBox.out
 go_enter Tryz.func39,Tryz.ntmps39
 go_upto_region 1 with fail
 rw[HW.out]
 go_wp2_with fail
 refine HMk.out.mono ?_;rintro e w1 ⟨vA,vB,vC,rfl,hab,hc,hb1⟩;have hrs:=RsLP.of (p:=PL) hab hc;obtain⟨⟨aA,cA,hvA⟩,⟨aB,cB,hvB⟩⟩:=hab.shape;obtain⟨aC,cC,hvC,_⟩:=Zai hc;subst hvA hvB hvC;have HLx:=zH (Tri.new w1 (.slice aA PL.A.length cA) (.slice aB PL.B.length cB) (.slice aC PL.C.length cC) 28);have hbw:Below w1.heap.size w1 (w1.alloc (.cells #[.slice aA PL.A.length cA,.slice aB PL.B.length cB,.slice aC PL.C.length cC] 28)):=(Below.refl w1.heap.size w1).alloc (Nat.le_refl _) _;have HSv:=zH (Zr6 (hrs.Zbe.up hbw) HPs.out);have HBx:=zH ((HBox.out.below hb1).below hbw);have HRx:=zH ((HRes.out.below hb1).below hbw);have HS1:Hid (Since W (w1.alloc (.cells #[.slice aA PL.A.length cA,.slice aB PL.B.length cB,.slice aC PL.C.length cC] 28))):=((Since.refl W).trans hb1).alloc _;rw[HSl.out] at HSv;have HLow1:Hid (Below w.heap.size w (w1.alloc (.cells #[.slice aA PL.A.length cA,.slice aB PL.B.length cB,.slice aC PL.C.length cC] 28))):=HB.out.trans (HS1.out.low.mono HB.out.size);clear hab hc hb1 hrs hbw HBox HRes b0 b1 HMk HSl HPs
 go_upto_region 2 with fail
 generalize w1.heap.size=p3 at *;generalize w1.alloc (.cells #[.slice aA PL.A.length cA,.slice aB PL.B.length cB,.slice aC PL.C.length cC] 28)=w2 at *;obtain⟨l0,l1,l2,_⟩:=HLx.out.cells;cases KC with
 | false=>
  have HE:=zH (HNo.out rfl);obtain⟨z0,z1,z2,z3,z4⟩:=five HRx.out;obtain⟨f0,f1,f2,f3,f4⟩:=Zmb HRx.out;clear HNo HStat HYes HYl Hmn HSv
  go_wp2_with fail
  have HEnd:=zH (Zfc HRx.out (.bool false) (.int .i64 0) (.int .i64 0) (.slice none 0 0) (.slice none 0 0));refine bodyPost_ret (v:=.agg #[.bool false,.int .i64 0,.int .i64 0,.slice none 0 0,.slice none 0 0]) (by
   obtain⟨z0,z1,z2,z3,z4⟩:=five HEnd.out;unfold Zmk at z0 z1 z2 z3 z4;revert z0 z1 z2 z3 z4;generalize (World.setCell _ (⟨w.heap.size+1,4,none⟩:Addr) (.slice none 0 0))=W4;intro z0 z1 z2 z3 z4;simp[results,Tryz.results39,go_sem,z0,z1,z2,z3,z4]) rfl ?_
  rw[HE.out];exact⟨⟨_,_,rfl,World.ownsRow_nil _ _ _ _,World.ownsRow_nil _ _ _ _,fun g hg=>by cases hg⟩,Zeb HLow1.out (Nat.le_succ _) _ _ _ _ _⟩
 | true=>
  obtain⟨hgn,hm5⟩:=Hmn.out rfl;subst hgn
  replace HStat:=zH (HStat.out rfl)
  replace HYes:=zH (HYes.out rfl)
  replace HYl:=zH (HYl.out rfl)
  clear HNo Hmn
  go_wp2_with fail
  refine HSv.out.mono ?_;rintro e w3 ⟨⟨aX,aY,aZ,cX,cY,cZ,he,hX,hY,_,hap⟩,hb3⟩;obtain⟨st,SX,SY,SZ,⟨vn,vd⟩,sp⟩:=S;unfold resV at he;dsimp only at he hX hY hap HStat HYes HYl ⊢;subst he;have hbx3:=HBx.out.below hb3;have hrx3:=HRx.out.below hb3;have hs3:=HS1.out.trans hb3;have hX2:Zaa w.heap.size w3 (.slice aX SX.length cX) SX:=Zaa.raise hX HLow1.out.size;have hY2:Zaa w.heap.size w3 (.slice aY SY.length cY) SY:=Zaa.raise hY HLow1.out.size;have HBx4:=zH (hbx3.more (.cells #[.int .i64 st,.slice aX SX.length cX,.slice aY SY.length cY,.slice aZ SZ.length cZ,.int .i64 vn,.int .i64 vd,.int .i64 sp] 33));have HRx4:=zH (hrx3.more (.cells #[.int .i64 st,.slice aX SX.length cX,.slice aY SY.length cY,.slice aZ SZ.length cZ,.int .i64 vn,.int .i64 vd,.int .i64 sp] 33));have HS4:=zH (hs3.alloc (.cells #[.int .i64 st,.slice aX SX.length cX,.slice aY SY.length cY,.slice aZ SZ.length cZ,.int .i64 vn,.int .i64 vd,.int .i64 sp] 33));have HX4:=zH (Zaa.alloc hX2 (.cells #[.int .i64 st,.slice aX SX.length cX,.slice aY SY.length cY,.slice aZ SZ.length cZ,.int .i64 vn,.int .i64 vd,.int .i64 sp] 33));have HY4:=zH (Zaa.alloc hY2 (.cells #[.int .i64 st,.slice aX SX.length cX,.slice aY SY.length cY,.slice aZ SZ.length cZ,.int .i64 vn,.int .i64 vd,.int .i64 sp] 33));have HQ4:=zH (Zac.new w3 #[.int .i64 st,.slice aX SX.length cX,.slice aY SY.length cY,.slice aZ SZ.length cZ,.int .i64 vn,.int .i64 vd,.int .i64 sp] 33);clear hX hY hX2 hY2 hb3 hbx3 hrx3 hs3 l0 l1 l2 HSv HBx HRx HLx HS1 hap
  go_upto_region 5 with fail
  generalize w3.heap.size=Q at *;generalize w3.alloc (.cells #[.int .i64 st,.slice aX SX.length cX,.slice aY SY.length cY,.slice aZ SZ.length cZ,.int .i64 vn,.int .i64 vd,.int .i64 sp] 33)=w4 at *;have HLow4:Hid (Below w.heap.size w w4):=HB.out.trans (HS4.out.low.mono HB.out.size);obtain⟨⟨t0,t1,t2,t3⟩,t4,t5,t6⟩:=sevC HQ4.out
  by_cases hst:st=1
  case neg=>
   have hb1:(st != 1)=true:=by rw[bne_iff_ne];exact hst
   have HE:=zH (HStat.out hst);obtain⟨z0,z1,z2,z3,z4⟩:=five HRx4.out;obtain⟨f0,f1,f2,f3,f4⟩:=Zmb HRx4.out;clear HStat HYes HYl
   go_wp2_with fail
   have HEnd:=zH (Zfc HRx4.out (.bool false) (.int .i64 0) (.int .i64 0) (.slice none 0 0) (.slice none 0 0));refine bodyPost_ret (v:=.agg #[.bool false,.int .i64 0,.int .i64 0,.slice none 0 0,.slice none 0 0]) (by
    obtain⟨z0,z1,z2,z3,z4⟩:=five HEnd.out;unfold Zmk at z0 z1 z2 z3 z4;revert z0 z1 z2 z3 z4;generalize (World.setCell _ (⟨w.heap.size+1,4,none⟩:Addr) (.slice none 0 0))=W4;intro z0 z1 z2 z3 z4;simp[results,Tryz.results39,go_sem,z0,z1,z2,z3,z4]) rfl ?_
   rw[HE.out];exact⟨⟨_,_,rfl,World.ownsRow_nil _ _ _ _,World.ownsRow_nil _ _ _ _,fun g hg=>by cases hg⟩,Zeb HLow4.out (Nat.le_succ _) _ _ _ _ _⟩
  case pos=>
   subst hst;have HE:=zH (HYes.out rfl);have hyl:=HYl.out rfl;have HNg:=zH (fun W'=>Zd9 (vn,vd) W');obtain⟨NX,hNX⟩:∃k,Ta.negR (vn,vd)=k:=⟨_,rfl⟩;rw[hNX] at HE HNg;have Cl1:Hid (∀w',Since w4 w'->w'.cell? ⟨Q,4,none⟩=some (.int .i64 vn)/\w'.cell? ⟨Q,5,none⟩=some (.int .i64 vd)/\w'.cell? ⟨Q,1,none⟩=some (.slice aX SX.length cX)/\Since w4 w'):=fun w' h=>
    ⟨h.cell (p:=⟨Q,4,none⟩) (Zab HQ4.out) (HQ4.out.cell 4),h.cell (p:=⟨Q,5,none⟩) (Zab HQ4.out) (HQ4.out.cell 5),h.cell (p:=⟨Q,1,none⟩) (Zab HQ4.out) (HQ4.out.cell 1),h⟩
   clear HStat HYes HYl hNX
   go_upto_region 7 with fail
   clear t0 t1 t2 t3 t4 t5 t6
   go_cut [6] (fun p wx=>∃q:Nat,p=.pointer (some ⟨q,0,none⟩)/\Hid (w4.heap.size≤q)/\Hid (Zac wx q #[.bool true,.int .i64 NX.1,.int .i64 NX.2,.slice none 0 0,.slice aX SX.length cX] 65)/\Hid (Since w4 wx))
   case first=>
    have hin:=(Since.refl w4).drew;have hA1:=hin.alloc (.cells #[.bool false,.int .i64 0,.int .i64 0,.slice none 0 0,.slice none 0 0] 65);have hx1:Zac (w4.drew.alloc (.cells #[.bool false,.int .i64 0,.int .i64 0,.slice none 0 0,.slice none 0 0] 65)) w4.heap.size #[.bool false,.int .i64 0,.int .i64 0,.slice none 0 0,.slice none 0 0] 65:=Zac.new w4.drew _ _;refine Zaf (S:=(fun w'=>w'.cell? ⟨Q,4,none⟩=some (.int .i64 vn)/\w'.cell? ⟨Q,5,none⟩=some (.int .i64 vd)/\w'.cell? ⟨Q,1,none⟩=some (.slice aX SX.length cX)/\Since w4 w')) 7 (by kernel_rfl) ?_ (fun hHeld=>?_)
    ·exact Cl1.out _ hin
    refine tk2 0 ⟨some 22,_,0,_,_,none⟩ ?_;refine tk2 1 ⟨some 23,_,31,_,_,none⟩ ?_;refine tk2 3 ⟨some 25,_,0,_,_,none⟩ ?_;refine tk2 4 ⟨some 26,_,26,_,_,none⟩ ?_
    try simp only[Act.put,zA,zB,zC]
    refine Zct (rs:=[2,6]) (by kernel_rfl) (by simp) ?_;refine (Zay.cons (o:=⟨some 24,.call { callee:=.value (.func 93),args:=#[.tmp 23],argTypes:=#[31] },31,"l13_least.go:38",#[⟨1,.data⟩],none⟩) (rs:=[6]) rfl (fun K hK=>?_) (Zay.cons (o:=⟨some 6,.alloc 65,0,"l13_least.go:38",#[],none⟩) (rs:=[]) rfl (fun K hK=>?_) Zay.nil))
    ·go_simp
     (go_at_call 93;refine (HNg.out _).mono ?_;rintro e w5 ⟨rfl,k5⟩;have hin5:=hin.trans k5)
     refine hK.out _ _ ?_ (fun hHeld=>?_)
     ·exact Cl1.out _ hin5
     clear hK K;refine tk2 5 ⟨some 27,_,65,_,_,none⟩ ?_
     try simp only[Act.put,zA,zB,zC]
     have hin6:=hin5.alloc (.cells #[.bool false,.int .i64 0,.int .i64 0,.slice none 0 0,.slice none 0 0] 65);have hx6:=Zac.new w5 #[.bool false,.int .i64 0,.int .i64 0,.slice none 0 0,.slice none 0 0] 65;refine rd2 6 ⟨some 6,_,0,_,_,none⟩ fun K hK=>?_
     go_simp
     refine hK.out _ _ ?_ (fun hHeld=>?_)
     ·exact Cl1.out _ hin6
     clear hK K
     try simp only[Act.put,zA,zB,zC]
     obtain⟨z0,z1,z2,z3,z4⟩:=five hx6;obtain⟨f0,f1,f2,f3,f4⟩:=Zmb hx6;refine rd3 7 ⟨none,_,0,_,_,none⟩ fun K hK=>?_
     go_simp
     refine hK.out _ _ ?_;clear hK K;refine Zal (by kernel_rfl) ?_ _
     go_wp2_with fail
     go_meet
     exact⟨_,rfl,hin5.low.size,Zac.new w5 _ _,hin5.alloc _⟩
    ·go_simp
     refine hK.out _ _ ?_ (fun hHeld=>?_)
     ·exact Cl1.out _ hA1
     clear hK K
     try simp only[Act.put,zA,zB,zC]
     refine rd2 2 ⟨some 24,_,31,_,_,none⟩ fun K hK=>?_
     go_simp
     (go_at_call 93;refine (HNg.out _).mono ?_;rintro e w5 ⟨rfl,k5⟩;have hin5:=hA1.trans k5;have hx6:=hx1.below k5)
     refine hK.out _ _ ?_ (fun hHeld=>?_)
     ·exact Cl1.out _ hin5
     clear hK K;refine tk2 5 ⟨some 27,_,65,_,_,none⟩ ?_
     try simp only[Act.put,zA,zB,zC]
     obtain⟨z0,z1,z2,z3,z4⟩:=five hx6;obtain⟨f0,f1,f2,f3,f4⟩:=Zmb hx6;refine rd3 7 ⟨none,_,0,_,_,none⟩ fun K hK=>?_
     go_simp
     refine hK.out _ _ ?_;clear hK K;refine Zal (by kernel_rfl) ?_ _;have hfin:=Zfc hx6 (.bool true) (.int .i64 NX.1) (.int .i64 NX.2) (.slice none 0 0) (.slice aX SX.length cX)
     go_wp2_with fail
     go_meet
     exact⟨_,rfl,Nat.le_refl _,hfin,⟨Zeb hin5.low (Nat.le_refl _) _ _ _ _ _⟩⟩
   case rest=>
    obtain⟨w5,hw5⟩:∃q:World,q=wc:=⟨_,rfl⟩;subst hw5;obtain⟨q6,rfl,hq6,hO,hS5⟩:=hcut;have HBx5:=zH (HBx4.out.below hS5.out.low);have HRx5:=zH (HRx4.out.below hS5.out.low);have HX5:=zH (Zaa.below HX4.out hS5.out.low);have HY5:=zH (Zaa.below HY4.out hS5.out.low);have HQ5:=zH (HQ4.out.below hS5.out.low);have HLow5:Hid (Below w.heap.size w w5):=HLow4.out.trans (hS5.out.low.mono HLow4.out.size);have HXb:Hid (∀g,(Value.slice aX SX.length cX).ownBlock=some g->g<w5.heap.size):=fun g hg=>(World.ownsRow.lt HX5.out g hg).2
    have HQq:Hid (Q≠q6/\w.heap.size+1≠q6):=⟨by have:=Zab HQ4.out;have:=hq6.out;omega,by have:=Zab HRx4.out;have:=hq6.out;omega⟩;have HNm:Hid (∀k,k<m->Cr.negs (SY.take (k+1))=Cr.negs (SY.take k)++[Ta.negR (Ve.at_ SY k)]):=fun k hk=>Zub SY k m hk (by omega)
    have HNl:Hid (∀k,k≤m->(Cr.negs (SY.take k)).length=k):=fun k hk=>Zv9 SY k (by omega)
    have HN0:Hid (Cr.negs (SY.take 0) = []):=by show _=_;simp[Cr.negs]
    obtain⟨NF,hNF⟩:∃NF:Nat->List R,∀k,Cr.negs (SY.take k)=NF k:=⟨fun k=>Cr.negs (SY.take k),fun _=>rfl⟩;simp only[hNF] at HNm HNl HN0;have HEn:Hid (FD=⟨true,NX,NF m,SX⟩):=by show _=_;rw[HE.out,hNF]
    obtain⟨aYr,cYr,eY,hYr,_,_⟩:=Zai HY5.out;injection eY with eY1 eY2 eY3
    subst eY1 eY3;obtain⟨bY,oY,rfl,_,_,_⟩:=hYr.at 0 (by omega);have HYr:=zH hYr;have HO0:Hid (Zaa w5.heap.size w5 (.slice none 0 0) (NF 0)):=by show Zaa _ _ _ _;rw[HN0.out];exact World.ownsRow_nil _ _ _ _
    have HL0:Hid (Below q6 w5 w5):=Below.refl _ _;have hyl2:m<SY.length:=by omega
    have hw4:w.heap.size+1<w4.heap.size:=Zab HRx4.out;have Hyl:=zH hyl;clear hNF hYr eY2 hyl HE HBx4 HRx4 HX4 HY4 HQ4 HS4 Cl1 HLow4 HN0
    go_wp2_with fail
    go_loopw [7] (fun i wr=>∃(k:Nat) (vP:Value),k≤m/\i=.int .i64 k/\Hid (Zac wr q6 #[.bool true,.int .i64 NX.1,.int .i64 NX.2,vP,.slice aX SX.length cX] 65)/\Hid (Zaa w5.heap.size wr vP (NF k))/\Hid (∀b,b<w5.heap.size->b≠q6->wr.heap[b]? = w5.heap[b]?)/\Hid (Below q6 w5 wr)) (fun i _=>m-(intOf i).toNat)
    case atStart=>exact⟨0,_,Nat.zero_le _,rfl,hO,HO0,fun b _ _=>rfl,HL0⟩
    case round=>
     clear HO0 HL0;obtain⟨k,vP,hk,rfl,hO2,hP,hK,hL⟩:=hrel;have hbk:∀ {q:Nat} {cs:Array Value} {t:TypeId},Zac w5 q cs t->q≠q6->Zac wr q cs t:=fun h hne=>(hK.out _ (Zab h) hne).trans h
     have hne1:w.heap.size≠q6:=by have:=hw4;have:=hq6.out;omega
     have HBr:=zH (hbk HBx5.out hne1);have hQr:=hbk HQ5.out HQq.out.1;obtain⟨⟨t0,t1,t2,t3⟩,t4,t5,t6⟩:=sevC hQr;obtain⟨b0,b1⟩:=two HBr.out;have hszr:=hL.out.size;have holt:=Zab hO2.out
     by_cases hlt:k<m
     ·have n1:(k:Int)<(m:Int):=by omega
      have n2:(k:Int)<(SY.length:Int):=by omega
      obtain⟨b',o',e',hb',y0,y1⟩:=HYr.out.at k (by omega);simp only[Option.some.injEq,Addr.mk.injEq] at e';obtain⟨rfl,rfl,_⟩:=e';have hbq:bY≠q6:=fun e=>Za7 HY5.out (show TyAt w5 q6 65 from ⟨_,hO.out⟩) Zpn (by rw[<-e];rfl)
      have y0:wr.cell? ⟨bY,oY+k*2,none⟩=some (.int .i64 (Ve.at_ SY k).1):=(World.cell?_of_block (w:=w5) (a:=⟨bY,oY+k*2,none⟩) (hK.out bY hb' hbq)).trans y0;have y1:wr.cell? ⟨bY,oY+k*2+1,none⟩=some (.int .i64 (Ve.at_ SY k).2):=(World.cell?_of_block (w:=w5) (a:=⟨bY,oY+k*2+1,none⟩) (hK.out bY hb' hbq)).trans y1;have HNk:=zH (HNm.out k hlt);have HNlk:=zH (HNl.out k hk);obtain⟨o0,o1,o2,o3,o4⟩:=five hO2.out;obtain⟨aP,cP,rfl,_⟩:=Zai hP.out;have Cl2:Hid (∀w',Since wr w'->w'.cell? ⟨q6,3,none⟩=some (.slice aP (NF k).length cP)/\w'.cell? ⟨Q,2,none⟩=some (.slice (some ⟨bY,oY,none⟩) SY.length cY)/\w'.cell? ⟨bY,oY+k*2,none⟩=some (.int .i64 (Ve.at_ SY k).1)/\w'.cell? ⟨bY,oY+k*2+1,none⟩=some (.int .i64 (Ve.at_ SY k).2)/\Since wr w'):=fun w' h=>
       ⟨h.cell (p:=⟨q6,3,none⟩) holt o3,h.cell (p:=⟨Q,2,none⟩) (Zab hQr) t2,h.cell (p:=⟨bY,oY+k*2,none⟩) (block_lt_of_cell (a:=⟨bY,oY+k*2,none⟩) y0) y0,h.cell (p:=⟨bY,oY+k*2+1,none⟩) (block_lt_of_cell (a:=⟨bY,oY+k*2+1,none⟩) y1) y1,h⟩
      have hin:=(Since.refl wr).drew;generalize Ve.at_ SY k=yk at *;generalize NF k=NK at *;clear o0 o1 o2 o4 hQr hbk
      go_upto_region 11 with fail
      clear t0 t1 t2 t3 t4 t5 t6 o3 y0 y1 b0 b1;refine Zaf (S:=(fun w'=>w'.cell? ⟨q6,3,none⟩=some (.slice aP NK.length cP)/\w'.cell? ⟨Q,2,none⟩=some (.slice (some ⟨bY,oY,none⟩) SY.length cY)/\w'.cell? ⟨bY,oY+k*2,none⟩=some (.int .i64 yk.1)/\w'.cell? ⟨bY,oY+k*2+1,none⟩=some (.int .i64 yk.2)/\Since wr w')) 9 (by kernel_rfl) ?_ (fun hHeld=>?_)
      ·exact Cl2.out _ hin
      refine tk2 0 ⟨some 34,_,0,_,_,none⟩ ?_;refine tk2 1 ⟨some 35,_,26,_,_,none⟩ ?_;refine tk2 2 ⟨some 36,_,0,_,_,none⟩ ?_;refine tk2 3 ⟨some 37,_,26,_,_,none⟩ ?_;refine tk2 4 ⟨some 38,_,3,_,_,none⟩ ?_;refine tk2 5 ⟨some 39,_,0,_,_,none⟩ ?_;refine tk2 6 ⟨some 40,_,31,_,_,none⟩ ?_
      try simp only[Act.put,zA,zB,zC]
      refine rd2 7 ⟨some 41,_,31,_,_,none⟩ fun K hK=>?_
      go_simp
      (go_at_call 93;refine (Zd9 yk _).mono ?_;rintro e w9 ⟨rfl,hb9⟩;have hin2:=hin.trans hb9)
      refine hK.out _ _ ?_ (fun hHeld=>?_)
      ·exact Cl2.out _ hin2
      clear hK K
      try simp only[Act.put,zA,zB,zC]
      have hin3:=hin2.alloc (.cells #[.int .i64 (Ta.negR yk).1,.int .i64 (Ta.negR yk).2] 31);have hone:=Zb2 w9 (Ta.negR yk);have hP3:=Zaa.below hP.out hin3.low;have hO3:=hO2.out.below hin3.low;have hL3:=hL.out.trans (hin3.low.mono (Nat.le_of_lt holt));refine rd2 8 ⟨some 42,_,26,_,_,none⟩ fun K hK=>?_
      go_simp
      refine hK.out _ _ ?_ (fun hHeld=>?_)
      ·exact Cl2.out _ hin3
      clear hK K
      try simp only[Act.put,zA,zB,zC]
      refine rd3 9 ⟨some 43,_,26,_,_,none⟩ fun K hK=>?_
      (refine Zcz rfl _ _ rfl w5.heap.size _ NK rfl hP3 w9.heap.size 0 [Ta.negR yk] 1 1 rfl rfl _ hone (by have:=HNlk.out;simp;omega) (by have:=hin3.low.size;omega) ?_;intro v6 w6 hown6 hgrow6)
      refine hK.out _ _ ?_;clear hK K
      try simp only[Act.put,zA,zB,zC]
      rw[<-HNk.out] at hown6;obtain⟨a6,c6,rfl,_⟩:=Zai hown6;have hO4:Zac w6 q6 #[.bool true,.int .i64 NX.1,.int .i64 NX.2,.slice aP NK.length cP,.slice aX SX.length cX] 65:=(hgrow6.block _ (Zab hO3) (fun e=>Za7 hP3 (show TyAt _ q6 65 from ⟨_,hO3⟩) Zpn e.symm)).trans hO3;obtain⟨y0,y1,y2,y3,y4⟩:=five hO4;obtain⟨f0,f1,f2,f3,f4⟩:=Zmb hO4;have hL4:=hL3.grown hgrow6 (by have:=hL3.size;have:=Zab hO.out;omega) (fun g hg=>by have:=(World.ownsRow.lt hP3 g hg).1;have:=Zab hO.out;omega);have hK4:∀b,b<w5.heap.size->b≠q6->w6.heap[b]? = w5.heap[b]?:=fun b h1 h2=>by
       rw[hgrow6.block b (by have:=hin3.low.size;omega) (fun e=>by have:=(World.ownsRow.lt hP3 b e.symm).1;omega),hin3.low.block b (by omega)];exact hK.out b h1 h2
      refine rd3 10 ⟨some 44,_,0,_,_,none⟩ fun K hK=>?_
      go_simp
      refine hK.out _ _ ?_;clear hK K
      try simp only[Act.put,zA,zB,zC]
      refine rd3 11 ⟨none,_,0,_,_,none⟩ fun K hK=>?_
      go_simp
      refine hK.out _ _ ?_;clear hK K;refine Zal (by kernel_rfl) ?_ _;have HO5:Hid (Zac (w6.setCell ⟨q6,3,none⟩ (.slice a6 (NF (k+1)).length c6)) q6 #[.bool true,.int .i64 NX.1,.int .i64 NX.2,.slice a6 (NF (k+1)).length c6,.slice aX SX.length cX] 65):=hO4.set 3 _;have HP5:Hid (Zaa w5.heap.size (w6.setCell ⟨q6,3,none⟩ (.slice a6 (NF (k+1)).length c6)) (.slice a6 (NF (k+1)).length c6) (NF (k+1))):=Zao hown6 (Za7 hown6 (show TyAt w6 q6 65 from ⟨_,hO4⟩) Zpn);have HL5:=zH (hL4.setCell (p:=⟨q6,3,none⟩) (Nat.le_refl _) (.slice a6 (NF (k+1)).length c6));have HK5:Hid (∀b,b<w5.heap.size->b≠q6->(w6.setCell ⟨q6,3,none⟩ (.slice a6 (NF (k+1)).length c6)).heap[b]? = w5.heap[b]?):=fun b h1 h2=>by
       rw[Below.heap_setCell _ _ _ _ h2];exact hK4 b h1 h2
      clear hin hin2 hin3 hb9 hone hP3 hO3 hL3 hown6 hgrow6 hO4 hL4 hK4 y0 y1 y2 y3 y4 f0 f1 f2 f3 f4 hO2 hP hL hK Cl2
      go_wp2_with fail
      go_roundw
      case rel=>exact⟨k+1,_,by omega,by go_num,HO5,HP5,HK5,HL5⟩
      case measure=>simp[intOf];omega
     ·have hke:k=m:=by omega
      subst hke;have hRr:=hbk HRx5.out HQq.out.2;have HRr:=zH hRr;obtain⟨aP,cP,rfl,_⟩:=Zai hP.out;obtain⟨o0,o1,o2,o3,o4⟩:=five hO2.out;obtain⟨z0,z1,z2,z3,z4⟩:=five hRr;obtain⟨f0,f1,f2,f3,f4⟩:=Zmb hRr;have hXr:Zaa w.heap.size wr (.slice aX SX.length cX) SX:=Zak HX5.out fun g hg=>hK.out g (HXb.out g hg) (fun e=>Za7 HX5.out (show TyAt w5 q6 65 from ⟨_,hO.out⟩) Zpn (by rw[<-e];exact hg))
      have HXr:=zH hXr;have HPr:=zH (Zaa.raise hP.out HLow5.out.size);have HApp:Hid (∀g,(Value.slice aP (NF k).length cP).ownBlock=some g->(Value.slice aX SX.length cX).ownBlock≠some g):=fun g hg hg2=>by
       have:=(World.ownsRow.lt hP.out g hg).1;have:=HXb.out g hg2;omega
      have HLf:Hid (Below w.heap.size w wr):=HLow5.out.trans (hL.out.mono (by have:=HQq.out.2;have:=hq6.out;have:=HLow5.out.size;have:=Zab HBx5.out;omega));clear hXr hRr hbk hQr hP hL hK hO2
      go_wp2_with fail
      have HEnd:=zH (Zfc HRr.out (.bool true) (.int .i64 NX.1) (.int .i64 NX.2) (.slice aP (NF k).length cP) (.slice aX SX.length cX));refine bodyPost_ret (v:=.agg #[.bool true,.int .i64 NX.1,.int .i64 NX.2,.slice aP (NF k).length cP,.slice aX SX.length cX]) (by
       obtain⟨z0,z1,z2,z3,z4⟩:=five HEnd.out;unfold Zmk at z0 z1 z2 z3 z4;revert z0 z1 z2 z3 z4;generalize (World.setCell _ (⟨w.heap.size+1,4,none⟩:Addr) (.slice aX SX.length cX))=W4;intro z0 z1 z2 z3 z4;simp[results,Tryz.results39,go_sem,z0,z1,z2,z3,z4]) rfl ?_
      rw[HEn.out];exact⟨⟨_,_,rfl,Zfv HPr.out HRr.out _ _ _ _ _,Zfv HXr.out HRr.out _ _ _ _ _,HApp.out⟩,Zeb HLf.out (Nat.le_succ _) _ _ _ _ _⟩
theorem Zjs {w:World} {x y z:Value} {p:P} (h:LpX w x y z p) (hn:Zbs p):Calls Tryz.prog 111 #[.agg #[x,y,z]] w (Zbl (Ta.solve p) w):=by
 have hb0:=(Below.refl w.heap.size w).alloc (Nat.le_refl _) (.cells #[x,y,z] 145);have hb:=hb0.alloc (by rw[Zar];omega) (.cells #[.int .i64 0,.slice none 0 0,.slice none 0 0,.slice none 0 0,.int .i64 0,.int .i64 0,.int .i64 0] 33);have hx:=(Zac.new w #[x,y,z] 145).more (.cells #[.int .i64 0,.slice none 0 0,.slice none 0 0,.slice none 0 0,.int .i64 0,.int .i64 0,.int .i64 0] 33);have hr:=Zac.new (w.alloc (.cells #[x,y,z] 145)) #[.int .i64 0,.slice none 0 0,.slice none 0 0,.slice none 0 0,.int .i64 0,.int .i64 0,.int .i64 0] 33;rw[Zar] at hr;have HSv:=zH (Zre (⟨h.1.up hb,h.2⟩:LpX _ x y z p) hn);have HB:=zH hb;have HR:=zH hr;obtain⟨x0,x1,x2⟩:=three hx;obtain⟨⟨a,b,c,c1,c2,c3,rfl,rfl,rfl,_⟩,_⟩:=h;clear hb0 hb hx hr
 go_enter Tryz.func111,Tryz.ntmps111
 go_wp2_with fail
 generalize (w.alloc (.cells #[.slice a p.A.length c1,.slice b p.B.length c2,.slice c p.C.length c3] 145)).alloc (.cells #[.int .i64 0,.slice none 0 0,.slice none 0 0,.slice none 0 0,.int .i64 0,.int .i64 0,.int .i64 0] 33)=W at *;refine HSv.out.mono ?_;rintro e w3 ⟨⟨aX,aY,aZ,cX,cY,cZ,he,hX,hY,hZ,hap⟩,hb3⟩;generalize Ta.solve p=S at *;obtain⟨st,SX,SY,SZ,⟨vn,vd⟩,sp⟩:=S;unfold resV at he;dsimp only at he hX hY hZ hap;subst he;have hr3:=HR.out.below hb3;have HR3:=zH hr3;have HLo:=zH (HB.out.trans (hb3.mono HB.out.size));have HX:=zH hX;have HY:=zH hY;have HZ:=zH hZ;have HAp:=zH hap;have hws:w.heap.size≤W.heap.size:=HB.out.size;have hwr:w.heap.size+1<W.heap.size:=Zab HR.out;obtain⟨⟨t0,t1,t2,t3,t4,t5,t6⟩,f0,f1,f2,f3,f4,f5,f6⟩:=seven hr3;clear hX hY hZ hap hb3 hr3 x0 x1 x2 HSv
 go_wp2_with fail
 refine bodyPost_ret (v:=.agg #[.int .i64 st,.slice aX SX.length cX,.slice aY SY.length cY,.slice aZ SZ.length cZ,.int .i64 vn,.int .i64 vd,.int .i64 sp]) (by
  obtain⟨⟨z0,z1,z2,z3,z4,z5,z6⟩,_⟩:=seven (((((((HR3.out.set 0 (.int .i64 st)).set 1 (.slice aX SX.length cX)).set 2 (.slice aY SY.length cY)).set 3 (.slice aZ SZ.length cZ)).set 4 (.int .i64 vn)).set 5 (.int .i64 vd)).set 6 (.int .i64 sp));revert z0 z1 z2 z3 z4 z5 z6;generalize (World.setCell _ (⟨w.heap.size+1,6,none⟩:Addr) (.int .i64 sp))=W4;intro z0 z1 z2 z3 z4 z5 z6;simp[results,Tryz.results111,go_sem,z0,z1,z2,z3,z4,z5,z6]) rfl ?_
 refine⟨⟨aX,aY,aZ,cX,cY,cZ,rfl,?_,?_,?_,HAp.out⟩,?_⟩
 ·exact Zaa.raise (Zbv HX.out hwr _ _ _ _ _ _ _) hws
 ·exact Zaa.raise (Zbv HY.out hwr _ _ _ _ _ _ _) hws
 ·exact Zaa.raise (Zbv HZ.out hwr _ _ _ _ _ _ _) hws
 ·exact Zbu HLo.out (Nat.le_succ _) _ _ _ _ _ _ _
theorem Zjt {w:World} {x y z:Value} {p:P} {S:Lp.Res} {FD:Lst} {m:Nat} (h:LpX w x y z p) (hn:Zbs p) (hS:Ta.solve p=S) (hstat:S.status≠1->FD=Le.zero) (hyes:S.status=1->FD=⟨true,Ta.negR S.value,Cr.negs (S.Y.take m),S.X⟩) (hyl:S.status=1->S.Y.length=m+1) (hm5:m≤5) :
  Calls Tryz.prog 110 #[.func (.func 111) #[.agg #[x,y,z]] #[]] w (Zh0 FD w):=by
 have hb:=(Below.refl w.heap.size w).alloc (Nat.le_refl _) (.cells #[.bool false,.int .i64 0,.int .i64 0,.slice none 0 0,.slice none 0 0] 65);have hr:=Zac.new w #[.bool false,.int .i64 0,.int .i64 0,.slice none 0 0,.slice none 0 0] 65;have hSv:=Zjs (⟨h.1.up hb,h.2⟩:LpX _ x y z p) hn;rw[hS] at hSv;have HSv:=zH hSv;have HB:=zH hb;have HR:=zH hr;have HStat:=zH hstat;have HYes:=zH hyes;have HYl:=zH hyl;have HE0:=zH (enters_of (P:=Tryz.prog) Tryz.func111 (by kernel_rfl) rfl);obtain⟨⟨a,b,c,c1,c2,c3,rfl,rfl,rfl,_⟩,_⟩:=h;clear hb hr hSv hS hstat hyes hyl hn
 go_enter Tryz.func110,Tryz.ntmps110
 go_wp2_with fail
 generalize w.alloc (.cells #[.bool false,.int .i64 0,.int .i64 0,.slice none 0 0,.slice none 0 0] 65)=W at *;refine HSv.out.mono ?_;rintro e w3 ⟨⟨aX,aY,aZ,cX,cY,cZ,he,hX,hY,_,hap⟩,hb3⟩;obtain⟨st,SX,SY,SZ,⟨vn,vd⟩,sp⟩:=S;unfold resV at he;dsimp only at he hX hY hap HStat HYes HYl ⊢;subst he;have hr3:=HR.out.below hb3;have HLow3:=zH (HB.out.trans (hb3.mono HB.out.size));have HR4:=zH (hr3.more (.cells #[.int .i64 st,.slice aX SX.length cX,.slice aY SY.length cY,.slice aZ SZ.length cZ,.int .i64 vn,.int .i64 vd,.int .i64 sp] 33));have HX4:=zH (Zaa.alloc (Zaa.raise hX HB.out.size) (.cells #[.int .i64 st,.slice aX SX.length cX,.slice aY SY.length cY,.slice aZ SZ.length cZ,.int .i64 vn,.int .i64 vd,.int .i64 sp] 33));have HY4:=zH (Zaa.alloc (Zaa.raise hY HB.out.size) (.cells #[.int .i64 st,.slice aX SX.length cX,.slice aY SY.length cY,.slice aZ SZ.length cZ,.int .i64 vn,.int .i64 vd,.int .i64 sp] 33));have HQ4:=zH (Zac.new w3 #[.int .i64 st,.slice aX SX.length cX,.slice aY SY.length cY,.slice aZ SZ.length cZ,.int .i64 vn,.int .i64 vd,.int .i64 sp] 33);have HL4:=zH (HLow3.out.alloc HLow3.out.size (.cells #[.int .i64 st,.slice aX SX.length cX,.slice aY SY.length cY,.slice aZ SZ.length cZ,.int .i64 vn,.int .i64 vd,.int .i64 sp] 33));clear hX hY hb3 hr3 HSv HR HB HE0 HLow3 hap
 go_upto_region 2 with fail
 generalize w3.heap.size=Q at *;generalize w3.alloc (.cells #[.int .i64 st,.slice aX SX.length cX,.slice aY SY.length cY,.slice aZ SZ.length cZ,.int .i64 vn,.int .i64 vd,.int .i64 sp] 33)=w4 at *;obtain⟨⟨t0,t1,t2,t3⟩,t4,t5,t6⟩:=sevC HQ4.out
 by_cases hst:st=1
 case neg=>
  have hb1:(st != 1)=true:=by rw[bne_iff_ne];exact hst
  have HE:=zH (HStat.out hst);obtain⟨z0,z1,z2,z3,z4⟩:=five HR4.out;obtain⟨f0,f1,f2,f3,f4⟩:=Zmb HR4.out;clear HStat HYes HYl
  go_wp2_with fail
  have HEnd:=zH (Zfc HR4.out (.bool false) (.int .i64 0) (.int .i64 0) (.slice none 0 0) (.slice none 0 0));refine bodyPost_ret (v:=.agg #[.bool false,.int .i64 0,.int .i64 0,.slice none 0 0,.slice none 0 0]) (by
   obtain⟨z0,z1,z2,z3,z4⟩:=five HEnd.out;unfold Zmk at z0 z1 z2 z3 z4;revert z0 z1 z2 z3 z4;generalize (World.setCell _ (⟨w.heap.size,4,none⟩:Addr) (.slice none 0 0))=W4;intro z0 z1 z2 z3 z4;simp[results,Tryz.results110,go_sem,z0,z1,z2,z3,z4]) rfl ?_
  rw[HE.out];exact⟨⟨_,_,rfl,World.ownsRow_nil _ _ _ _,World.ownsRow_nil _ _ _ _,fun g hg=>by cases hg⟩,Zeb HL4.out (Nat.le_refl _) _ _ _ _ _⟩
 case pos=>
  subst hst;have HE:=zH (HYes.out rfl);have hyl:=HYl.out rfl;have HNg:=zH (fun W'=>Zb9 (vn,vd) W');obtain⟨NX,hNX⟩:∃k,Ta.negR (vn,vd)=k:=⟨_,rfl⟩;obtain⟨NV,hNV⟩:∃k,Cr.negs (SY.take m)=k:=⟨_,rfl⟩;rw[hNX,hNV] at HE;rw[hNX] at HNg;have htl:(SY.take m).length=m:=by rw[List.length_take];omega
  obtain⟨aYr,cYr,eY,hYr,_,_⟩:=Zai HY4.out;injection eY with eY1 eY2 eY3
  subst eY1 eY3;have hroom:SY.length≤cY:=by
   obtain⟨_,⟨e,h2⟩ | ⟨g,cap,cur,e,_,_,h3,_⟩⟩:=HY4.out
   ·omega
   ·injection e with e1 e2 e3;omega
  have hYt:Zah w4.heap.size w4 aY (SY.take m):=fun j x hx=>hYr j x (by
   have hj:j<m:=by have:=(List.getElem?_eq_some_iff.1 hx).1;omega
   rw[List.getElem?_take_of_lt hj] at hx;exact hx)
  have HYt:=zH hYt;have HNv:Hid (∀W',Since w4 W'->Calls Tryz.prog 162 #[.slice aY m cY] W' (Zbg NV W')):=fun W' hs=>by
   have h9:=Zie (xs:=SY.take m) (v:=.slice aY (SY.take m).length cY) (w:=W') (⟨aY,cY,rfl,(HYt.out.below hs.low).mono hs.low.size⟩) (by rw[htl];omega);rw[hNV,htl] at h9;exact h9
  have hNl:NV.length=m:=by rw[<-hNV];simp[Cr.negs];omega
  have Cl1:Hid (∀w',Since w4 w'->w'.cell? ⟨Q,4,none⟩=some (.int .i64 vn)/\w'.cell? ⟨Q,5,none⟩=some (.int .i64 vd)/\w'.cell? ⟨Q,1,none⟩=some (.slice aX SX.length cX)/\Since w4 w'):=fun w' h=>
   ⟨h.cell (p:=⟨Q,4,none⟩) (Zab HQ4.out) (HQ4.out.cell 4),h.cell (p:=⟨Q,5,none⟩) (Zab HQ4.out) (HQ4.out.cell 5),h.cell (p:=⟨Q,1,none⟩) (Zab HQ4.out) (HQ4.out.cell 1),h⟩
  have hin:=(Since.refl w4).drew;have n1:(0:Int)≤(m:Int):=by omega
  have n2:(m:Int)≤(cY:Int):=by omega
  have HNl:=zH hNl;rw[hyl] at t2;clear HStat HYes HYl hNX hNV hYr hYt eY2 htl hNl
  go_upto_region 5 with fail
  clear t0 t1 t2 t3 t4 t5 t6;refine Zaf (S:=(fun w'=>w'.cell? ⟨Q,4,none⟩=some (.int .i64 vn)/\w'.cell? ⟨Q,5,none⟩=some (.int .i64 vd)/\w'.cell? ⟨Q,1,none⟩=some (.slice aX SX.length cX)/\Since w4 w')) 8 (by kernel_rfl) ?_ (fun hHeld=>?_)
  ·exact Cl1.out _ hin
  refine tk2 0 ⟨some 18,_,0,_,_,none⟩ ?_;refine tk2 1 ⟨some 19,_,31,_,_,none⟩ ?_;refine tk2 3 ⟨some 21,_,26,_,_,none⟩ ?_;refine tk2 5 ⟨some 23,_,0,_,_,none⟩ ?_;refine tk2 6 ⟨some 24,_,26,_,_,none⟩ ?_
  try simp only[Act.put,zA,zB,zC]
  refine rd2 2 ⟨some 20,_,31,_,_,none⟩ fun K hK=>?_
  go_simp
  (go_at_call 161;refine (HNg.out _).mono ?_;rintro e w5 ⟨rfl,k5⟩;have hin5:=hin.trans k5)
  refine hK.out _ _ ?_ (fun hHeld=>?_)
  ·exact Cl1.out _ hin5
  clear hK K
  try simp only[Act.put,zA,zB,zC]
  refine rd2 4 ⟨some 22,_,26,_,_,none⟩ fun K hK=>?_
  go_simp
  (go_at_call 162;refine (HNv.out _ hin5).mono ?_;rintro e w6 ⟨vP,rfl,hP6,k6⟩;have hin6:=hin5.trans k6;obtain⟨aP,cP,rfl,_⟩:=Zai hP6)
  refine hK.out _ _ ?_ (fun hHeld=>?_)
  ·exact Cl1.out _ hin6
  clear hK K;refine tk2 7 ⟨some 25,_,65,_,_,none⟩ ?_
  try simp only[Act.put,zA,zB,zC]
  have HR6:=zH (HR4.out.below hin6.low);obtain⟨z0,z1,z2,z3,z4⟩:=five HR6.out;obtain⟨f0,f1,f2,f3,f4⟩:=Zmb HR6.out;refine rd3 8 ⟨none,_,0,_,_,none⟩ fun K hK=>?_
  go_simp
  refine hK.out _ _ ?_;clear hK K;refine Zal (by kernel_rfl) ?_ _;have HX6:=zH (Zaa.below HX4.out hin6.low);have HP6:=zH (Zaa.raise hP6 (show w.heap.size≤w5.heap.size by have:=hin5.low.size;have:=HL4.out.size;omega));have HApp:Hid (∀g,(Value.slice aP NV.length cP).ownBlock=some g->(Value.slice aX SX.length cX).ownBlock≠some g):=fun g hg hg2=>by
   have:=(World.ownsRow.lt hP6 g hg).1;have:=(World.ownsRow.lt HX4.out g hg2).2;have:=hin5.low.size;omega
  have HLf:Hid (Below w.heap.size w w6):=HL4.out.trans (hin6.low.mono HL4.out.size);clear hP6 hin hin5 hin6 k5 k6 Cl1
  go_wp2_with fail
  have HEnd:=zH (Zfc HR6.out (.bool true) (.int .i64 NX.1) (.int .i64 NX.2) (.slice aP NV.length cP) (.slice aX SX.length cX));refine bodyPost_ret (v:=.agg #[.bool true,.int .i64 NX.1,.int .i64 NX.2,.slice aP NV.length cP,.slice aX SX.length cX]) (by
   obtain⟨z0,z1,z2,z3,z4⟩:=five HEnd.out;unfold Zmk at z0 z1 z2 z3 z4;revert z0 z1 z2 z3 z4;generalize (World.setCell _ (⟨w.heap.size,4,none⟩:Addr) (.slice aX SX.length cX))=W4;intro z0 z1 z2 z3 z4;simp[results,Tryz.results110,go_sem,z0,z1,z2,z3,z4]) rfl ?_
  rw[HE.out];exact⟨⟨_,_,rfl,Zfv HP6.out HR6.out _ _ _ _ _,Zfv HX6.out HR6.out _ _ _ _ _,HApp.out⟩,Zeb HLf.out (Nat.le_refl _) _ _ _ _ _⟩
theorem Zia {w:World} {x y:Value} {g:G} (h:GmX w x y g) (hf:GmOk g) :
  Calls Tryz.prog 37 #[.agg #[x,y]] w (Zh0 (Le.find g) w):=by
 obtain⟨gn,gv⟩:=g;have hx:=h;obtain⟨⟨a,c,rfl,rfl,hi⟩,hroom⟩:=h;dsimp only at hi hx ⊢;obtain⟨W0,hW0⟩:∃W0,W0=w.alloc (.cells #[.int .i64 gn,.slice a gv.length c] 48):=⟨_,rfl⟩;obtain⟨W,hW⟩:∃W,W=W0.alloc (.cells #[.bool false,.int .i64 0,.int .i64 0,.slice none 0 0,.slice none 0 0] 65):=⟨_,rfl⟩;have hs0:W0.heap.size=w.heap.size+1:=by rw[hW0];exact Zar _ _
 have hb0:Below w.heap.size w W0:=by rw[hW0];exact (Below.refl _ _).alloc (Nat.le_refl _) _
 have hb1:Below W0.heap.size W0 W:=by rw[hW];exact (Below.refl _ _).alloc (Nat.le_refl _) _
 have hb:Below w.heap.size w W:=hb0.trans (hb1.mono (by omega));have hbox0:Zac W0 w.heap.size #[.int .i64 gn,.slice a gv.length c] 48:=by rw[hW0];exact Zac.new _ _ _
 have hbox:=hbox0.below hb1;have hres:Zac W (w.heap.size+1) #[.bool false,.int .i64 0,.int .i64 0,.slice none 0 0,.slice none 0 0] 65:=by rw[hW,<-hs0];exact Zac.new _ _ _
 have hMk:=Zpf (hx.up hb) hf;have HBox:=zH hbox;have HRes:=zH hres;have HB:=zH hb;have HW:Hid ((w.alloc (.cells #[.int .i64 gn,.slice a gv.length c] 48)).alloc (.cells #[.bool false,.int .i64 0,.int .i64 0,.slice none 0 0,.slice none 0 0] 65)=W):=by show _=_;rw[hW,hW0]
 obtain⟨KC,hKC⟩:∃k,Le.can ⟨gn,gv⟩=k:=⟨_,rfl⟩;obtain⟨PL,hPL⟩:∃k,Le.least ⟨gn,gv⟩=k:=⟨_,rfl⟩;have HPs:Hid (Zbs PL):=by rw[<-hPL];exact Zvr (Zlg _)
 obtain⟨S,hS⟩:∃S,Ta.solve PL=S:=⟨_,rfl⟩;have HNo:Hid (KC=false->Le.find ⟨gn,gv⟩=Le.zero):=fun h=>Le.Zq2 (by rw[hKC];exact h)
 have hSol:KC=true->Le.sol ⟨gn,gv⟩=S:=fun h=>by
  rw[<-hS,<-hPL,Le.Zgp (by rw[hKC];exact h)];rfl
 have HStat:Hid (KC=true->S.status≠1->Le.find ⟨gn,gv⟩=Le.zero):=fun h h2=>Le.Zh7 (by rw[hKC];exact h) (by rw[hSol h];exact h2)
 have HYes:Hid (KC=true->S.status=1->Le.find ⟨gn,gv⟩=⟨true,Ta.negR S.value,Cr.negs (S.Y.take gn.toNat),S.X⟩):=fun h h2=>by
  rw[Le.Znv (by rw[hKC];exact h) (by rw[hSol h];exact h2),hSol h]
 have HYl:Hid (KC=true->S.status=1->S.Y.length=gn.toNat+1):=fun h h2=>by
  have:=Le.Zzl (g:=⟨gn,gv⟩) (by rw[hSol h];exact h2);rw[hSol h] at this;exact this
 have Hm5:Hid (KC=true->gn.toNat≤5):=fun h=>by
  have h1:=Le.Zff (g:=⟨gn,gv⟩) (by rw[hKC];exact h);have:=Gm.Zmq h1.1;dsimp only at this;omega
 rw[hKC,hPL] at hMk;have HMk:=zH hMk;have HSl:=zH hS;generalize Le.find ⟨gn,gv⟩=FD at *;generalize gn.toNat=m at *;clear hf hbox hbox0 hres hb0 hb1 hb hi hs0 hW hW0 hroom hMk hKC hPL hS hSol hx;have hmf:∀(fn:Fn) (first cap:Array Value) (w:World),(Instr.makeFunc fn first cap).run Tryz.prog w=.ok (.func fn first cap) w:=fun _ _ _ _=>rfl
 obtain⟨b0,b1⟩:=two HBox.out
 go_enter Tryz.func37,Tryz.ntmps37
 go_upto_region 1 with fail
 rw[HW.out]
 go_wp2_with fail
 refine HMk.out.mono ?_;rintro e w1 ⟨vA,vB,vC,rfl,hab,hc,hb1⟩;have hrs:=RsLP.of (p:=PL) hab hc;obtain⟨⟨aA,cA,hvA⟩,⟨aB,cB,hvB⟩⟩:=hab.shape;obtain⟨aC,cC,hvC,_⟩:=Zai hc;subst hvA hvB hvC;have HLx:=zH (Tri.new w1 (.slice aA PL.A.length cA) (.slice aB PL.B.length cB) (.slice aC PL.C.length cC) 28);have hbw:Below w1.heap.size w1 (w1.alloc (.cells #[.slice aA PL.A.length cA,.slice aB PL.B.length cB,.slice aC PL.C.length cC] 28)):=(Below.refl w1.heap.size w1).alloc (Nat.le_refl _) _;have HLX:Hid (LpX (w1.alloc (.cells #[.slice aA PL.A.length cA,.slice aB PL.B.length cB,.slice aC PL.C.length cC] 28)) (.slice aA PL.A.length cA) (.slice aB PL.B.length cB) (.slice aC PL.C.length cC) PL):=⟨hrs.Zgu.1.up hbw,hrs.Zgu.2⟩;have HRx:=zH ((HRes.out.below hb1).below hbw);have HLow1:Hid (Below w.heap.size w (w1.alloc (.cells #[.slice aA PL.A.length cA,.slice aB PL.B.length cB,.slice aC PL.C.length cC] 28))):=HB.out.trans ((hb1.alloc hb1.size _).mono HB.out.size);clear hab hc hb1 hrs hbw HBox HRes b0 b1 HMk
 go_upto_region 2 with fail
 generalize w1.heap.size=p3 at *;generalize w1.alloc (.cells #[.slice aA PL.A.length cA,.slice aB PL.B.length cB,.slice aC PL.C.length cC] 28)=w2 at *;obtain⟨l0,l1,l2,_⟩:=HLx.out.cells;cases KC with
 | false=>
  have HE:=zH (HNo.out rfl);obtain⟨z0,z1,z2,z3,z4⟩:=five HRx.out;obtain⟨f0,f1,f2,f3,f4⟩:=Zmb HRx.out;clear HNo HStat HYes HYl Hm5
  go_wp2_with fail
  have HEnd:=zH (Zfc HRx.out (.bool false) (.int .i64 0) (.int .i64 0) (.slice none 0 0) (.slice none 0 0));refine bodyPost_ret (v:=.agg #[.bool false,.int .i64 0,.int .i64 0,.slice none 0 0,.slice none 0 0]) (by
   obtain⟨z0,z1,z2,z3,z4⟩:=five HEnd.out;unfold Zmk at z0 z1 z2 z3 z4;revert z0 z1 z2 z3 z4;generalize (World.setCell _ (⟨w.heap.size+1,4,none⟩:Addr) (.slice none 0 0))=W4;intro z0 z1 z2 z3 z4;simp[results,Tryz.results37,go_sem,z0,z1,z2,z3,z4]) rfl ?_
  rw[HE.out];exact⟨⟨_,_,rfl,World.ownsRow_nil _ _ _ _,World.ownsRow_nil _ _ _ _,fun g hg=>by cases hg⟩,Zeb HLow1.out (Nat.le_succ _) _ _ _ _ _⟩
 | true=>
  have HCall:=zH (Zjt HLX.out HPs.out HSl.out (HStat.out rfl) (HYes.out rfl) (HYl.out rfl) (Hm5.out rfl));clear HNo HStat HYes HYl Hm5 HLX HPs HSl
  go_wp2_with fail
  refine HCall.out.mono ?_;rintro e w3 ⟨⟨vP,vW,rfl,hP,hWt,hap⟩,hb3⟩;obtain⟨aP,cP,rfl,_⟩:=Zai hP;obtain⟨aQ,cQ,rfl,_⟩:=Zai hWt;have HRr:=zH (HRx.out.below hb3);have HP:=zH (Zaa.raise hP HLow1.out.size);have HWt:=zH (Zaa.raise hWt HLow1.out.size);have HAp:=zH hap;have HLf:=zH (HLow1.out.trans (hb3.mono HLow1.out.size));obtain⟨z0,z1,z2,z3,z4⟩:=five HRr.out;obtain⟨f0,f1,f2,f3,f4⟩:=Zmb HRr.out;clear hP hWt hap hb3 HCall HLx HRx HLow1 l0 l1 l2
  go_wp2_with fail
  have HEnd:=zH (Zfc HRr.out (.bool FD.ok) (.int .i64 FD.ex.1) (.int .i64 FD.ex.2) (.slice aP FD.point.length cP) (.slice aQ FD.weights.length cQ));refine bodyPost_ret (v:=.agg #[.bool FD.ok,.int .i64 FD.ex.1,.int .i64 FD.ex.2,.slice aP FD.point.length cP,.slice aQ FD.weights.length cQ]) (by
   obtain⟨z0,z1,z2,z3,z4⟩:=five HEnd.out;unfold Zmk at z0 z1 z2 z3 z4;revert z0 z1 z2 z3 z4;generalize (World.setCell _ (⟨w.heap.size+1,4,none⟩:Addr) (.slice aQ FD.weights.length cQ))=W4;intro z0 z1 z2 z3 z4;simp[results,Tryz.results37,go_sem,z0,z1,z2,z3,z4]) rfl ?_
  exact⟨⟨_,_,rfl,Zfv HP.out HRr.out _ _ _ _ _,Zfv HWt.out HRr.out _ _ _ _ _,HAp.out⟩,Zeb HLf.out (Nat.le_succ _) _ _ _ _ _⟩
end Go.Proofs.YtlohljkfphljgaaGreat
