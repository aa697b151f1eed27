/- spec.FindCore. -/
import Derived.Test.YtjfnleilddgjiaaGreatCrB
import Derived.Test.YtjfnleilddgjiaaGreatHLkCo
import Derived.Test.YtjfnleilddgjiaaGreatHLkCo
import Derived.Test.YtjfnleilddgjiaaGreatHLkLpr
import Derived.Test.YtjfnleilddgjiaaGreatSxG
import Derived.Test.YtjfnleilddgjiaaGreatGSz
import Derived.Test.YtjfnleilddgjiaaGreatCrC
namespace Go.Proofs.YtjfnleilddgjiaaGreat
open Go.RowKit
open Ve (R)
open Gm (G)
open Cr (Cor)
def Zj5 (r:Cor) (w:World) (e:Ending) (w':World):Prop:=(∃y z:Value,e=.returned (.agg #[.int .i64 r.code,y,z])/\Zaa w.heap.size w' y r.point/\Zaa w.heap.size w' z r.weights/\(y=.slice none 0 0\/z=.slice none 0 0))/\Below w.heap.size w w'
theorem Zdo {A B C:World} (h:Since A B) (k:Since B C):Since A C:=⟨h.low.trans (k.low.mono h.low.size)⟩
def Zjc (w:World) (q:Nat) (x y z:Value):World:=((w.setCell ⟨q,0,none⟩ x).setCell ⟨q,1,none⟩ y).setCell ⟨q,2,none⟩ z
theorem Zed {w:World} {q:Nat} {x y z:Value} {t:TypeId} (h:Zad w q #[x,y,z] t) (x' y' z':Value):Zad (Zjc w q x' y' z') q #[x',y',z'] t:=Tri.set2 (Tri.set1 (Tri.set0 h x') y') z'
theorem Zdc {B q:Nat} {w w':World} (h:Below B w w') (hq:B≤q) (x y z:Value):Below B w (Zjc w' q x y z):=((h.setCell (p:=⟨q,0,none⟩) hq x).setCell (p:=⟨q,1,none⟩) hq y).setCell (p:=⟨q,2,none⟩) hq z
theorem Zin {B q:Nat} {w:World} {v:Value} {xs:List R} {t:TypeId} {cs:Array Value} (h:Zaa B w v xs) (hq:Zad w q cs t) (ht:59≠t) (x y z:Value):Zaa B (Zjc w q x y z) v xs:=by
 have h1:=Za1 h (show TyAt w q t from ⟨_,hq⟩) ht;exact Zah (Zah (Zah h h1) h1) h1
theorem Zh2 {w:World} {q:Nat} {x y z:Value} {t:TypeId} (h:Zad w q #[x,y,z] t):w.frozen? ⟨q,0,none⟩=false/\w.frozen? ⟨q,1,none⟩=false/\w.frozen? ⟨q,2,none⟩=false:=⟨h.free 0,h.free 1,h.free 2⟩
theorem Zk4:59≠28:=by decide
theorem Zqa (v:List R) (k:Nat) (hk:k<v.length):Cr.negs (v.take (k+1))=Cr.negs (v.take k)++[Ta.negR (Ve.at_ v k)]:=by
 unfold Cr.negs;rw[List.take_add_one,List.map_append,List.getElem?_eq_getElem hk];simp[Ve.at_,hk]
theorem Ztb (v:List R) (k:Nat) (hk:k≤v.length):(Cr.negs (v.take k)).length=k:=by simp[Cr.negs];omega
theorem Zta (v:List R):Cr.negs (v.take v.length)=Cr.negs v:=by rw[List.take_length]
set_option maxRecDepth 100000 in
set_option maxHeartbeats 8000000 in
theorem Zo1 {w:World} {x y:Value} {g:G} (h:GmX w x y g) (hf:GmOk g) :
  Calls Tryz.prog 8 #[.agg #[x,y]] w (Zj5 (Cr.find g) w):=by
 obtain⟨gn,gv⟩:=g;obtain⟨⟨a,c,rfl,rfl,hi⟩,hroom⟩:=h;have hl:gv.length≤1048576:=hf.1;dsimp only at hi ⊢;obtain⟨W0,hW0⟩:∃W0,W0=w.alloc (.cells #[.int .i64 gn,.slice a gv.length c] 30):=⟨_,rfl⟩;obtain⟨W,hW⟩:∃W,W=W0.alloc (.cells #[.int .i64 0,.slice none 0 0,.slice none 0 0] 28):=⟨_,rfl⟩;have hs0:W0.heap.size=w.heap.size+1:=by rw[hW0];exact Zao _ _
 have hsW:W.heap.size=w.heap.size+2:=by rw[hW,Zao,hs0]
 have hb0:Below w.heap.size w W0:=by rw[hW0];exact (Below.refl _ _).alloc (Nat.le_refl _) _
 have hb1:Below W0.heap.size W0 W:=by rw[hW];exact (Below.refl _ _).alloc (Nat.le_refl _) _
 have hb:Below w.heap.size w W:=hb0.trans (hb1.mono (by omega));have hbox0:Zad W0 w.heap.size #[.int .i64 gn,.slice a gv.length c] 30:=by rw[hW0];exact Zad.new _ _ _
 have hbox:=hbox0.below hb1;have hres:Zad W (w.heap.size+1) #[.int .i64 0,.slice none 0 0,.slice none 0 0] 28:=by rw[hW,<-hs0];exact Zad.new _ _ _
 have hgm:GmX W (.int .i64 gn) (.slice a gv.length c) ⟨gn,gv⟩:=⟨GmC.up (g:=⟨gn,gv⟩) ⟨a,c,rfl,rfl,hi⟩ hb,fun b n c' e=>hroom b n c' e⟩;have HMk:=zH (Zmf hgm.1 hf);have HF:=zH hf;have HGM:=zH hgm;have HBox:=zH hbox;have HRes:=zH hres;have HB:=zH hb;have HSW:=zH hsW;have HW:Hid ((w.alloc (.cells #[.int .i64 gn,.slice a gv.length c] 30)).alloc (.cells #[.int .i64 0,.slice none 0 0,.slice none 0 0] 28)=W):=by show _=_;rw[hW,hW0]
 clear hf hgm hbox hbox0 hres hb0 hb1 hb hi hs0 hsW hW hW0 hroom;obtain⟨b0,b1⟩:=two HBox.out
 rcases hv:Gm.vld ⟨gn,gv⟩ with _|_
 ·rw[hv] at HMk
  have HE:=zH (Cr.Zsz hv);rw[Cr.Zpc hv] at HMk;clear hv
  go_enter Tryz.func8,Tryz.ntmps8
  go_upto_region 1 with fail
  rw[HW.out]
  go_wp2_with fail
  refine HMk.out.mono ?_;rintro e w1 ⟨vA,vB,vC,rfl,hab,hc,hb1⟩;obtain⟨⟨aA,cA,hvA⟩,⟨aB,cB,hvB⟩⟩:=hab.shape;obtain⟨aC,cC,hvC,_⟩:=Zai hc;subst hvA hvB hvC;have HR1:=zH ((HRes.out.below hb1).more (.cells #[.slice aA Cr.lp0.A.length cA,.slice aB Cr.lp0.B.length cB,.slice aC Cr.lp0.C.length cC] 45));have HB1:=zH ((HB.out.trans (hb1.mono HB.out.size)).alloc ((HB.out.trans (hb1.mono HB.out.size))).size (.cells #[.slice aA Cr.lp0.A.length cA,.slice aB Cr.lp0.B.length cB,.slice aC Cr.lp0.C.length cC] 45));clear hab hc hb1 b0 b1;obtain⟨z0,z1,z2⟩:=three HR1.out;obtain⟨f0,f1,f2⟩:=Zh2 HR1.out
  go_wp2_with fail
  have HEnd:=zH (Zed HR1.out (.int .i64 0) (.slice none 0 0) (.slice none 0 0));refine bodyPost_ret (v:=.agg #[.int .i64 0,.slice none 0 0,.slice none 0 0]) (by
   obtain⟨z0,z1,z2⟩:=three HEnd.out;unfold Zjc at z0 z1 z2;revert z0 z1 z2;generalize (World.setCell _ (⟨w.heap.size+1,2,none⟩:Addr) (.slice none 0 0))=W4;intro z0 z1 z2;simp[results,Tryz.results8,go_sem,z0,z1,z2]) rfl ?_
  rw[HE.out];exact⟨⟨_,_,rfl,World.ownsRow_nil _ _ _ _,World.ownsRow_nil _ _ _ _,.inl rfl⟩,Zdc HB1.out (Nat.le_succ _) _ _ _⟩
 ·rw[hv] at HMk
  have hbal:Cr.bal ⟨gn,gv⟩=Cr.lp ⟨gn,gv⟩:=Cr.Zkw hv;have HPs:=zH (Zwi (Zpd ⟨gn,gv⟩));rw[hbal] at HPs HMk;have hn:=Gm.Zhz hv;dsimp only at hn;obtain⟨m,rfl⟩:∃m:Nat,gn=m:=⟨gn.toNat,by omega⟩;have hm1:1≤m:=by omega
  have hm5:m≤5:=by omega
  have hgr:=Cr.Zkb hv;have HStat:=zH (fun h=>Cr.Zld hv h);have HFits:=zH (fun h=>Cr.Zyw hv h);have HEmp:=zH (fun h1 h2 h3=>Cr.Znd hv h1 h2 h3);have HLast:=zH (fun h1 h2 h3 h4=>Cr.find_last hv h1 h2 h3 h4);have HPoint:=zH (fun h1 h2 h3 h4=>Cr.Zi6 hv h1 h2 h3 h4);have HYl:=zH (fun h=>Cr.Z3u hv h);simp only[Cr.Zjq,Cr.Ze5,Cr.Zui,Cr.Zcf] at HFits HEmp HLast HPoint;have HSl:Hid (Ta.solve (Cr.lp ⟨(m:Int),gv⟩)=Cr.sol ⟨(m:Int),gv⟩):=rfl;generalize Cr.sol ⟨(m:Int),gv⟩=S at *;generalize Cr.lp ⟨(m:Int),gv⟩=P at *;generalize Cr.find ⟨(m:Int),gv⟩=FD at *;have HGr:Hid (∀W',Since W W'->Calls Tryz.prog 48 #[.agg #[.int .i64 (m:Int),.slice a gv.length c]] W' fun e w'=>e=.returned (.int .i64 (Gm.Zbt ⟨(m:Int),gv⟩))/\Below W'.heap.size W' w'):=fun W' hs=>Ze7 (HGM.out.1.up hs.low) HF.out
  generalize Gm.Zbt ⟨(m:Int),gv⟩=gr at *;simp only[Int.toNat_natCast] at HLast HPoint HYl;clear hv hn hbal HF HGM
  go_enter Tryz.func8,Tryz.ntmps8
  go_upto_region 1 with fail
  rw[HW.out]
  go_wp2_with fail
  refine HMk.out.mono ?_;rintro e w1 ⟨vA,vB,vC,rfl,hab,hc,hb1⟩;have hrs:=RsLP.of (p:=P) hab hc;obtain⟨⟨aA,cA,hvA⟩,⟨aB,cB,hvB⟩⟩:=hab.shape;obtain⟨aC,cC,hvC,_⟩:=Zai hc;subst hvA hvB hvC;have hLc:=hrs.Zdx;have HBw:=zH ((Below.refl w1.heap.size w1).alloc (Nat.le_refl _) (.cells #[.slice aA P.A.length cA,.slice aB P.B.length cB,.slice aC P.C.length cC] 45));have hLr:=(hLc.rg.below HBw.out);obtain⟨b1',b2',b3',c1',c2',c3',e1,e2,e3,hLi⟩:=hLr.get;injection e1 with e1 _ e1c
  injection e2 with e2 _ e2c
  injection e3 with e3 _ e3c
  subst e1 e2 e3 e1c e2c e3c;have hLg:Rg (fun w'=>LpC w' (.slice aA P.A.length cA) (.slice aB P.B.length cB) (.slice aC P.C.length cC) P) 0 (w1.alloc (.cells #[.slice aA P.A.length cA,.slice aB P.B.length cB,.slice aC P.C.length cC] 45)).heap.size (w1.alloc (.cells #[.slice aA P.A.length cA,.slice aB P.B.length cB,.slice aC P.C.length cC] 45)):=LpC.rg ⟨_,_,_,_,_,_,rfl,rfl,rfl,hLi⟩;have HSv:=zH (Zqs aA aB aC cA cB cC P HPs.out _ hLi fun q hq=>Z0w cA cB cC hLg hq);rw[HSl.out] at HSv;have HBx:=zH ((HBox.out.below hb1).below HBw.out);have HRx:=zH ((HRes.out.below hb1).below HBw.out);have HLx:=zH (Tri.new w1 (.slice aA P.A.length cA) (.slice aB P.B.length cB) (.slice aC P.C.length cC) 45);have HS1:Hid (Since W (w1.alloc (.cells #[.slice aA P.A.length cA,.slice aB P.B.length cB,.slice aC P.C.length cC] 45))):=((Since.refl W).trans hb1).alloc _;clear hab hc hb1 hrs hLc hLr hLi hLg HBw HBox HRes b0 b1 HMk;obtain⟨l0,l1,l2,_⟩:=HLx.out.cells
  go_wp2_with fail
  generalize w1.alloc (.cells #[.slice aA P.A.length cA,.slice aB P.B.length cB,.slice aC P.C.length cC] 45)=w2 at *;refine HSv.out.mono ?_;rintro e w3 ⟨⟨aX,aY,aZ,cX,cY,cZ,he,hX,hY,_,_⟩,hb3⟩;obtain⟨st,SX,SY,SZ,⟨vn,vd⟩,sp⟩:=S;unfold resV at he;dsimp only at he hX hY HStat HFits HEmp HLast HPoint HYl ⊢;subst he;have hbx3:=HBx.out.below hb3;have hrx3:=HRx.out.below hb3;have hs3:=HS1.out.trans hb3;have hQ:=Zad.new w3 #[.int .i64 st,.slice aX SX.length cX,.slice aY SY.length cY,.slice aZ SZ.length cZ,.int .i64 vn,.int .i64 vd,.int .i64 sp] 61;have HBx4:=zH (hbx3.more (.cells #[.int .i64 st,.slice aX SX.length cX,.slice aY SY.length cY,.slice aZ SZ.length cZ,.int .i64 vn,.int .i64 vd,.int .i64 sp] 61));have HRx4:=zH (hrx3.more (.cells #[.int .i64 st,.slice aX SX.length cX,.slice aY SY.length cY,.slice aZ SZ.length cZ,.int .i64 vn,.int .i64 vd,.int .i64 sp] 61));have HS4:=zH (hs3.alloc (.cells #[.int .i64 st,.slice aX SX.length cX,.slice aY SY.length cY,.slice aZ SZ.length cZ,.int .i64 vn,.int .i64 vd,.int .i64 sp] 61));have hX2:Zaa w.heap.size w3 (.slice aX SX.length cX) SX:=Zaa.raise hX (by have:=HS1.out.low.size;have:=HSW.out;omega);have hY2:Zaa w.heap.size w3 (.slice aY SY.length cY) SY:=Zaa.raise hY (by have:=HS1.out.low.size;have:=HSW.out;omega);have HX4:=zH (Zaa.alloc hX2 (.cells #[.int .i64 st,.slice aX SX.length cX,.slice aY SY.length cY,.slice aZ SZ.length cZ,.int .i64 vn,.int .i64 vd,.int .i64 sp] 61));have HY4:=zH (Zaa.alloc hY2 (.cells #[.int .i64 st,.slice aX SX.length cX,.slice aY SY.length cY,.slice aZ SZ.length cZ,.int .i64 vn,.int .i64 vd,.int .i64 sp] 61));have HQ4:=zH hQ;have hq3:w.heap.size+2≤w3.heap.size:=by have:=hs3.low.size;have:=HSW.out;omega
  clear hX hY hX2 hY2 hb3 hbx3 hrx3 hs3 hQ l0 l1 l2 HSv HBx HRx HLx HS1 HSl HPs
  go_upto_region 5 with fail
  generalize hQ3:w3.heap.size=Q at *;generalize hW4:w3.alloc (.cells #[.int .i64 st,.slice aX SX.length cX,.slice aY SY.length cY,.slice aZ SZ.length cZ,.int .i64 vn,.int .i64 vd,.int .i64 sp] 61)=w4 at *;clear hW4 hQ3;have Cell:Hid (∀w',Since w4 w'->w'.cell? ⟨w.heap.size,0,none⟩=some (.int .i64 (m:Int))/\w'.cell? ⟨w.heap.size,1,none⟩=some (.slice a gv.length c)/\w'.cell? ⟨Q,4,none⟩=some (.int .i64 vn)/\w'.cell? ⟨Q,5,none⟩=some (.int .i64 vd)/\Since w4 w'):=fun w' h=>
   ⟨h.cell (p:=⟨w.heap.size,0,none⟩) (Zab HBx4.out) (two HBx4.out).1,h.cell (p:=⟨w.heap.size,1,none⟩) (Zab HBx4.out) (two HBx4.out).2,h.cell (p:=⟨Q,4,none⟩) (Zab HQ4.out) (HQ4.out.cell 4),h.cell (p:=⟨Q,5,none⟩) (Zab HQ4.out) (HQ4.out.cell 5),h⟩
  have hx0:=Since.refl w4
  go_cut [6,7] (fun p b wx=>Got w4 (Ve.addR (Py.whole gr) (vn,vd)).1 (Ve.addR (Py.whole gr) (vn,vd)).2 (Ve.addK (Py.whole gr) (vn,vd)) p b wx)
  case first=>
   go_region_held3 (fun w'=>w'.cell? ⟨w.heap.size,0,none⟩=some (.int .i64 (m:Int))/\w'.cell? ⟨w.heap.size,1,none⟩=some (.slice a gv.length c)/\w'.cell? ⟨Q,4,none⟩=some (.int .i64 vn)/\w'.cell? ⟨Q,5,none⟩=some (.int .i64 vd)/\Since w4 w') (first|exact Cell.out _ (by assumption) | exact Cell.out _ (Since.drew (by assumption)) | exact Cell.out _ (Own2.since (by assumption)) | exact Cell.out _ (Since.drew (Own2.since (by assumption))) | exact Cell.out _ (Since.alloc (by assumption) _) | exact Cell.out _ (Since.drew (Since.alloc (by assumption) _)) | exact Cell.out _ (Own2.set2 (by assumption) _ _) | exact Cell.out _ (Since.drew (Own2.set2 (by assumption) _ _)))
    (first | (go_at_call 48;refine (Za8 (HGr.out _ (Zdo HS4.out (by first|assumption|exact Since.drew (by assumption) | exact Own2.since (by assumption) | exact Own2.since (Own2.drew (by assumption)) | exact Own2.since (Since.new (by assumption) _ _ _) | exact Own2.since (Own2.drew (Since.new (by assumption) _ _ _))))) (B:=w4) (x:=.int .i64 0) (y:=.int .i64 0) (t:=59) (by first|assumption|exact Own2.drew (by assumption) | exact Since.new (by assumption) _ _ _|exact Own2.drew (Since.new (by assumption) _ _ _))).mono ?_;rintro e w' ⟨⟨rfl,_⟩,hin3⟩;obtain⟨z0,z1,f0,f1⟩:=Own2.own hin3) | (go_at_call 48;refine (Zaw (HGr.out _ (Zdo HS4.out (by first|assumption|exact Since.drew (by assumption) | exact Own2.since (by assumption) | exact Own2.since (Own2.drew (by assumption)) | exact Own2.since (Since.new (by assumption) _ _ _) | exact Own2.since (Own2.drew (Since.new (by assumption) _ _ _))))) (B:=w4) (by first|assumption|exact Since.drew (by assumption))).mono ?_;rintro e w' ⟨⟨rfl,_⟩,hin2⟩) | (go_at_call 47;refine (Za8 (Zaq gr _) (B:=w4) (x:=.int .i64 0) (y:=.int .i64 0) (t:=59) (by first|assumption|exact Own2.drew (by assumption) | exact Since.new (by assumption) _ _ _|exact Own2.drew (Since.new (by assumption) _ _ _))).mono ?_;rintro e w' ⟨⟨rfl,_⟩,hin3⟩;obtain⟨z0,z1,f0,f1⟩:=Own2.own hin3) | (go_at_call 47;refine (Zaw (Zaq gr _) (B:=w4) (by first|assumption|exact Since.drew (by assumption))).mono ?_;rintro e w' ⟨⟨rfl,_⟩,hin2⟩) | (go_at_call 46;refine (Za8 (Zeu (Py.whole gr) (vn,vd) _) (B:=w4) (x:=.int .i64 0) (y:=.int .i64 0) (t:=59) (by first|assumption|exact Own2.drew (by assumption) | exact Since.new (by assumption) _ _ _|exact Own2.drew (Since.new (by assumption) _ _ _))).mono ?_;rintro e w' ⟨⟨rfl,_⟩,hin3⟩;obtain⟨z0,z1,f0,f1⟩:=Own2.own hin3) | (go_at_call 46;refine (Zaw (Zeu (Py.whole gr) (vn,vd) _) (B:=w4) (by first|assumption|exact Since.drew (by assumption))).mono ?_;rintro e w' ⟨⟨rfl,_⟩,hin2⟩))
   all_goals
    go_wp2_with fail
    go_meet
    first
    | exact Got.last (by assumption) _ _ _ _
    | exact Got.set (by assumption) _ _ _
    | exact Got.drew (Got.last (by assumption) _ _ _ _)
    | exact Got.drew (Got.set (by assumption) _ _ _)
  case rest=>
   obtain⟨w5,hw5⟩:∃q:World,q=wc:=⟨_,rfl⟩;subst hw5;obtain⟨q6,rfl,rfl,m0,m1,hq6,hqh6,hs5⟩:=hcut;have HBx5:=zH (HBx4.out.below hs5.low);have HRx5:=zH (HRx4.out.below hs5.low);have HX5:=zH (Zaa.below HX4.out hs5.low);have HY5:=zH (Zaa.below HY4.out hs5.low);have HQ5:=zH (HQ4.out.below hs5.low);have HS5:=zH (Zdo HS4.out hs5);have HQ6:Hid (Q≠w.heap.size+1/\q6≠w.heap.size+1/\w.heap.size<q6):=⟨by omega,by have:=Zab HRx4.out;omega,by have:=Zab HRx4.out;omega⟩;have Hm:=zH (And.intro m0 m1);generalize Ve.addR (Py.whole gr) (vn,vd)=SL at *;generalize Ve.addK (Py.whole gr) (vn,vd)=K at *;clear hs5 HBx4 HRx4 HX4 HY4 HQ4 HS4 Cell hx0 m0 m1 HGr;have HLow5:Hid (Below w.heap.size w w5):=HB.out.trans (HS5.out.low.mono HB.out.size);obtain⟨⟨t0,t1,t2,t3⟩,t4,t5,t6⟩:=sevC HQ5.out
   by_cases hst:st=1
   ·subst hst
    cases K with
    | false=>
     have HE:=zH (HFits.out rfl);obtain⟨z0,z1,z2⟩:=three HRx5.out;obtain⟨f0,f1,f2⟩:=Zh2 HRx5.out;clear HFits HStat HEmp HLast HPoint HYl
     go_wp2_with fail
     have HEnd:=zH (Zed HRx5.out (.int .i64 3) (.slice none 0 0) (.slice none 0 0));refine bodyPost_ret (v:=.agg #[.int .i64 3,.slice none 0 0,.slice none 0 0]) (by
      obtain⟨z0,z1,z2⟩:=three HEnd.out;unfold Zjc at z0 z1 z2;revert z0 z1 z2;generalize (World.setCell _ (⟨w.heap.size+1,2,none⟩:Addr) (.slice none 0 0))=W4;intro z0 z1 z2;simp[results,Tryz.results8,go_sem,z0,z1,z2]) rfl ?_
     rw[HE.out];exact⟨⟨_,_,rfl,World.ownsRow_nil _ _ _ _,World.ownsRow_nil _ _ _ _,.inl rfl⟩,Zdc HLow5.out (Nat.le_succ _) _ _ _⟩
    | true=>
     have HYn:=HYl.out rfl
     by_cases hneg:SL.1<0
     ·have hd:decide (SL.1<0)=true:=by rw[decide_eq_true_iff];exact hneg
      have HE:=zH (HEmp.out rfl rfl hneg);obtain⟨z0,z1,z2⟩:=three HRx5.out;obtain⟨f0,f1,f2⟩:=Zh2 HRx5.out;obtain⟨m0,m1⟩:=Hm.out;clear HFits HStat HEmp HLast HPoint HYl HYn
      go_wp2_with fail
      have HEnd:=zH (Zed HRx5.out (.int .i64 2) (.slice none 0 0) (.slice aX SX.length cX));refine bodyPost_ret (v:=.agg #[.int .i64 2,.slice none 0 0,.slice aX SX.length cX]) (by
       obtain⟨z0,z1,z2⟩:=three HEnd.out;unfold Zjc at z0 z1 z2;revert z0 z1 z2;generalize (World.setCell _ (⟨w.heap.size+1,2,none⟩:Addr) (.slice aX SX.length cX))=W4;intro z0 z1 z2;simp[results,Tryz.results8,go_sem,z0,z1,z2]) rfl ?_
      rw[HE.out];exact⟨⟨_,_,rfl,World.ownsRow_nil _ _ _ _,Zin HX5.out HRx5.out Zk4 _ _ _,.inl rfl⟩,Zdc HLow5.out (Nat.le_succ _) _ _ _⟩
     ·have hd:decide (SL.1<0)=false:=by rw[decide_eq_false_iff_not];exact hneg
      have HNg:=zH (fun h4=>HPoint.out rfl rfl (by omega) h4);have HLs:=zH (fun h4=>HLast.out rfl rfl (by omega) h4);obtain⟨m0,m1⟩:=Hm.out;clear HFits HStat HEmp HLast HPoint HYl hneg;have HO5:=zH (Zad.new w5 #[.int .i64 1,.slice none 0 0,.slice none 0 0] 28);have Hb5:=zH ((Below.refl w5.heap.size w5).alloc (Nat.le_refl _) (.cells #[.int .i64 1,.slice none 0 0,.slice none 0 0] 28));have HNm:Hid (∀k,k<SY.length->Cr.negs (SY.take (k+1))=Cr.negs (SY.take k)++[Ta.negR (Ve.at_ SY k)]):=fun k hk=>Zqa SY k hk
      have HNl:Hid (∀k,k≤SY.length->(Cr.negs (SY.take k)).length=k):=fun k hk=>Ztb SY k hk
      have HNa:Hid (Cr.negs (SY.take SY.length)=Cr.negs SY):=Zta SY;have HN0:Hid (Cr.negs (SY.take 0) = []):=by show _=_;simp[Cr.negs]
      obtain⟨NF,hNF⟩:∃NF:Nat->List R,∀k,Cr.negs (SY.take k)=NF k:=⟨fun k=>Cr.negs (SY.take k),fun _=>rfl⟩;simp only[hNF] at HNm HNl HNa HN0;clear hNF;have HO0:Hid (Zaa w.heap.size (w5.alloc (.cells #[.int .i64 1,.slice none 0 0,.slice none 0 0] 28)) (.slice none 0 0) (NF 0)):=by show Zaa _ _ _ _;rw[HN0.out];exact World.ownsRow_nil _ _ _ _
      obtain⟨aYr,cYr,eY,hYr,_,_⟩:=Zai HY5.out;injection eY with eY1 eY2 eY3
      subst eY1 eY3;obtain⟨bY,oY,rfl,_,_,_⟩:=hYr.at 0 (by omega);have HYr:=zH hYr;obtain⟨j,hj⟩:∃j:Nat,m=j+1:=⟨m-1,by omega⟩;have hmj:(m:Int)-1=(j:Int):=by omega
      have hwj:IntKind.i64.wrap (j:Int)=(j:Int):=IntWalk.i64_in _ (by omega);have hjm:m-1=j:=by omega
      have HJ:=zH hj;have hQ6:=HQ6.out;have hq5:w.heap.size+1<w5.heap.size:=Zab HRx5.out;have hQ5:Q<w5.heap.size:=Zab HQ5.out;rw[hjm] at HNg HLs;clear hYr hjm hj eY2
      go_wp2_with fail
      go_loopw [9] (fun i wr=>∃(k:Nat) (vP:Value),k≤SY.length/\i=.int .i64 k/\Hid (Zad wr w5.heap.size #[.int .i64 1,vP,.slice none 0 0] 28)/\Hid (Zaa w5.heap.size wr vP (NF k))/\Hid (Below w5.heap.size w5 wr)) (fun i _=>SY.length-(intOf i).toNat)
      case atStart=>exact⟨0,_,Nat.zero_le _,rfl,HO5,(by show Zaa _ _ _ _;rw[HN0.out];exact World.ownsRow_nil _ _ _ _),Hb5⟩
      case round=>
       clear HO5 Hb5 HO0;obtain⟨k,vP,hk,rfl,hO,hP,hL⟩:=hrel;have hQr:=HQ5.out.below hL.out;obtain⟨⟨t0,t1,t2,t3⟩,t4,t5,t6⟩:=sevC hQr;have hszr:=hL.out.size;have holt:=Zab hO.out
       by_cases hlt:k<SY.length
       ·have n1:(k:Int)<(SY.length:Int):=by omega
        obtain⟨b',o',e',_,y0,y1⟩:=(HYr.out.below hL.out).at k hlt;simp only[Option.some.injEq,Addr.mk.injEq] at e';obtain⟨rfl,rfl,_⟩:=e';have HNk:=zH (HNm.out k hlt);have HNlk:=zH (HNl.out k hk);obtain⟨o0,o1,o2⟩:=three hO.out;obtain⟨aP,cP,rfl,_⟩:=Zai hP.out;have Cl2:Hid (∀w',Since wr w'->w'.cell? ⟨w5.heap.size,1,none⟩=some (.slice aP (NF k).length cP)/\w'.cell? ⟨Q,2,none⟩=some (.slice (some ⟨bY,oY,none⟩) SY.length cY)/\w'.cell? ⟨bY,oY+k*2,none⟩=some (.int .i64 (Ve.at_ SY k).1)/\w'.cell? ⟨bY,oY+k*2+1,none⟩=some (.int .i64 (Ve.at_ SY k).2)/\Since wr w'):=fun w' h=>
         ⟨h.cell (p:=⟨w5.heap.size,1,none⟩) holt o1,h.cell (p:=⟨Q,2,none⟩) (by show Q<wr.heap.size;omega) t2,h.cell (p:=⟨bY,oY+k*2,none⟩) (block_lt_of_cell (a:=⟨bY,oY+k*2,none⟩) y0) y0,h.cell (p:=⟨bY,oY+k*2+1,none⟩) (block_lt_of_cell (a:=⟨bY,oY+k*2+1,none⟩) y1) y1,h⟩
        have hin:=(Since.refl wr).drew;generalize Ve.at_ SY k=yk at *;generalize NF k=NK at *;clear o0 o2 hQr
        go_upto_region 14 with fail
        clear t0 t1 t2 t3 t4 t5 t6 o1 y0 y1;refine Zaf (S:=(fun w'=>w'.cell? ⟨w5.heap.size,1,none⟩=some (.slice aP NK.length cP)/\w'.cell? ⟨Q,2,none⟩=some (.slice (some ⟨bY,oY,none⟩) SY.length cY)/\w'.cell? ⟨bY,oY+k*2,none⟩=some (.int .i64 yk.1)/\w'.cell? ⟨bY,oY+k*2+1,none⟩=some (.int .i64 yk.2)/\Since wr w')) 9 (by kernel_rfl) ?_ (fun hHeld=>?_)
        ·exact Cl2.out _ hin
        refine tk2 0 ⟨some 53,_,0,_,_,none⟩ ?_;refine tk2 1 ⟨some 54,_,26,_,_,none⟩ ?_;refine tk2 2 ⟨some 55,_,0,_,_,none⟩ ?_;refine tk2 3 ⟨some 56,_,26,_,_,none⟩ ?_;refine tk2 4 ⟨some 57,_,3,_,_,none⟩ ?_;refine tk2 5 ⟨some 58,_,0,_,_,none⟩ ?_;refine tk2 6 ⟨some 59,_,59,_,_,none⟩ ?_
        try simp only[Act.put,zA,zB,zC]
        refine rd2 7 ⟨some 60,_,59,_,_,none⟩ fun K hK=>?_
        go_simp
        (go_at_call 49;refine (Zft yk _).mono ?_;rintro e w9 ⟨rfl,hb9⟩;have hin2:=hin.trans hb9)
        refine hK.out _ _ ?_ (fun hHeld=>?_)
        ·exact Cl2.out _ hin2
        clear hK K
        try simp only[Act.put,zA,zB,zC]
        have hin3:=hin2.alloc (.cells #[.int .i64 (Ta.negR yk).1,.int .i64 (Ta.negR yk).2] 59);have hone:=Zb6 w9 (Ta.negR yk);have hP3:=Zaa.below hP.out hin3.low;have hO3:=hO.out.below hin3.low;have hL3:=hL.out.trans (hin3.low.mono hszr);refine rd2 8 ⟨some 61,_,26,_,_,none⟩ fun K hK=>?_
        go_simp
        refine hK.out _ _ ?_ (fun hHeld=>?_)
        ·exact Cl2.out _ hin3
        clear hK K
        try simp only[Act.put,zA,zB,zC]
        refine rd3 9 ⟨some 62,_,26,_,_,none⟩ fun K hK=>?_
        (refine Zd6 rfl _ _ rfl w5.heap.size _ NK rfl hP3 w9.heap.size 0 [Ta.negR yk] 1 1 rfl rfl _ hone (by have:=HNlk.out;simp;omega) (by have:=hin3.low.size;omega) ?_;intro v6 w6 hown6 hgrow6)
        refine hK.out _ _ ?_;clear hK K
        try simp only[Act.put,zA,zB,zC]
        rw[<-HNk.out] at hown6;obtain⟨a6,c6,rfl,_⟩:=Zai hown6;have hO4:Zad w6 w5.heap.size #[.int .i64 1,.slice aP NK.length cP,.slice none 0 0] 28:=(hgrow6.block _ (Zab hO3) (fun e=>Za1 hP3 (show TyAt _ w5.heap.size 28 from ⟨_,hO3⟩) Zk4 e.symm)).trans hO3;obtain⟨y0,y1,y2⟩:=three hO4;obtain⟨f0,f1,f2⟩:=Zh2 hO4;have hL4:=hL3.grown hgrow6 hL3.size (fun g hg=>(World.ownsRow.lt hP3 g hg).1);refine rd3 10 ⟨some 63,_,0,_,_,none⟩ fun K hK=>?_
        go_simp
        refine hK.out _ _ ?_;clear hK K
        try simp only[Act.put,zA,zB,zC]
        refine rd3 11 ⟨none,_,0,_,_,none⟩ fun K hK=>?_
        go_simp
        refine hK.out _ _ ?_;clear hK K;refine Zam (by kernel_rfl) ?_ _;have HO5:Hid (Zad (w6.setCell ⟨w5.heap.size,1,none⟩ (.slice a6 (NF (k+1)).length c6)) w5.heap.size #[.int .i64 1,.slice a6 (NF (k+1)).length c6,.slice none 0 0] 28):=Tri.set1 hO4 _;have HP5:Hid (Zaa w5.heap.size (w6.setCell ⟨w5.heap.size,1,none⟩ (.slice a6 (NF (k+1)).length c6)) (.slice a6 (NF (k+1)).length c6) (NF (k+1))):=Zah hown6 (Za1 hown6 (show TyAt w6 w5.heap.size 28 from ⟨_,hO4⟩) Zk4);have HL5:=zH (hL4.setCell (p:=⟨w5.heap.size,1,none⟩) (Nat.le_refl _) (.slice a6 (NF (k+1)).length c6));clear hin hin2 hin3 hb9 hone hP3 hO3 hL3 hown6 hgrow6 hO4 hL4 y0 y1 y2 f0 f1 f2 hO hP hL Cl2
        go_wp2_with fail
        go_roundw
        case rel=>exact⟨k+1,_,by omega,by go_num,HO5,HP5,HL5⟩
        case measure=>simp[intOf];omega
       ·have hke:k=SY.length:=by omega
        have hP2:=hP.out;rw[hke,HNa.out] at hP2;have hlenN:(Cr.negs SY).length=SY.length:=by simp[Cr.negs]
        obtain⟨gP,⟨cP,hvP⟩,hgl,hgs⟩:∃gP,(∃cP,vP=.slice (some ⟨gP,0,none⟩) (Cr.negs SY).length cP)/\w5.heap.size≤gP/\gP<wr.heap.size:=by
         obtain⟨a',c',e,_,hb',hg'⟩:=Zai hP2;obtain⟨g,hg⟩:=hg' (fun e0=>by rw[e0] at hlenN;simp at hlenN;omega);have:=hb' _ hg;subst hg;exact⟨g,⟨c',e⟩,this.1,this.2⟩
        subst hvP;have HNlen:=zH hlenN;generalize Cr.negs SY=NL at *;have hjl:j<NL.length:=by have:=HJ.out;omega
        have hPr:Zaj wr.heap.size wr (some ⟨gP,0,none⟩) NL:=by
         obtain⟨a',c',e,hr,_⟩:=Zai hP2;injection e with e1 e2 e3
         subst e1;exact hr
        obtain⟨b',o',e',_,p0,p1⟩:=hPr.at j hjl;simp only[Option.some.injEq,Addr.mk.injEq] at e';obtain⟨e'1,e'2,_⟩:=e';subst e'1 e'2;rw[Nat.zero_add] at p0 p1;have HP2:=zH hP2;have hBxr:=HBx5.out.below hL.out;have HRxr:=zH (HRx5.out.below hL.out);obtain⟨c0,_⟩:=two hBxr;obtain⟨o0,o1,o2⟩:=three hO.out;have hSm:wr.cell? ⟨q6,0,none⟩=some (.int .i64 SL.1)/\wr.cell? ⟨q6,1,none⟩=some (.int .i64 SL.2):=by
         obtain⟨k0,k1⟩:=Hm.out;exact⟨by rw[hL.out.cell (p:=⟨q6,0,none⟩) (by show q6<_;omega)];exact k0,by rw[hL.out.cell (p:=⟨q6,1,none⟩) (by show q6<_;omega)];exact k1⟩
        have Cl3:Hid (∀w',Since wr w'->w'.cell? ⟨w5.heap.size,1,none⟩=some (.slice (some ⟨gP,0,none⟩) NL.length cP)/\w'.cell? ⟨w.heap.size,0,none⟩=some (.int .i64 (m:Int))/\w'.cell? ⟨gP,j*2,none⟩=some (.int .i64 (Ve.at_ NL j).1)/\w'.cell? ⟨gP,j*2+1,none⟩=some (.int .i64 (Ve.at_ NL j).2)/\w'.cell? ⟨q6,0,none⟩=some (.int .i64 SL.1)/\w'.cell? ⟨q6,1,none⟩=some (.int .i64 SL.2)/\Since wr w'):=fun w' h=>
         ⟨h.cell (p:=⟨w5.heap.size,1,none⟩) holt o1,h.cell (p:=⟨w.heap.size,0,none⟩) (Zab hBxr) c0,h.cell (p:=⟨gP,j*2,none⟩) hgs p0,h.cell (p:=⟨gP,j*2+1,none⟩) hgs p1,h.cell (p:=⟨q6,0,none⟩) (show q6<wr.heap.size by omega) hSm.1,h.cell (p:=⟨q6,1,none⟩) (show q6<wr.heap.size by omega) hSm.2,h⟩
        have HBr:=zH hBxr;have n7:(j:Int)<(NL.length:Int):=by omega
        generalize hpj:Ve.at_ NL j=pj at *;have hx0:=Since.refl wr;clear hP2 hP hPr hBxr c0 o0 o1 o2 hSm p0 p1 hke hlenN hpj HYn
        go_upto_region 15 with fail
        clear t0 t1 t2 t3 t4 t5 t6 hQr
        go_cut [10,11] (fun p b wx=>Got wr (Ve.addR pj SL).1 (Ve.addR pj SL).2 (Ve.addK pj SL) p b wx)
        case first=>
         go_region_held3 (fun w'=>w'.cell? ⟨w5.heap.size,1,none⟩=some (.slice (some ⟨gP,0,none⟩) NL.length cP)/\w'.cell? ⟨w.heap.size,0,none⟩=some (.int .i64 (m:Int))/\w'.cell? ⟨gP,j*2,none⟩=some (.int .i64 pj.1)/\w'.cell? ⟨gP,j*2+1,none⟩=some (.int .i64 pj.2)/\w'.cell? ⟨q6,0,none⟩=some (.int .i64 SL.1)/\w'.cell? ⟨q6,1,none⟩=some (.int .i64 SL.2)/\Since wr w') (first|exact Cl3.out _ (by assumption) | exact Cl3.out _ (Since.drew (by assumption)) | exact Cl3.out _ (Own2.since (by assumption)) | exact Cl3.out _ (Since.drew (Own2.since (by assumption))) | exact Cl3.out _ (Since.alloc (by assumption) _) | exact Cl3.out _ (Since.drew (Since.alloc (by assumption) _)) | exact Cl3.out _ (Own2.set2 (by assumption) _ _) | exact Cl3.out _ (Since.drew (Own2.set2 (by assumption) _ _)))
          (first | (go_at_call 46;refine (Za8 (Zeu pj SL _) (B:=wr) (x:=.int .i64 0) (y:=.int .i64 0) (t:=59) (by first|assumption|exact Own2.drew (by assumption) | exact Since.new (by assumption) _ _ _|exact Own2.drew (Since.new (by assumption) _ _ _))).mono ?_;rintro e w' ⟨⟨rfl,_⟩,hin3⟩;obtain⟨z0,z1,f0,f1⟩:=Own2.own hin3) | (go_at_call 46;refine (Zaw (Zeu pj SL _) (B:=wr) (by first|assumption|exact Since.drew (by assumption))).mono ?_;rintro e w' ⟨⟨rfl,_⟩,hin2⟩))
         all_goals
          go_wp2_with fail
          go_meet
          first
          | exact Got.last (by assumption) _ _ _ _
          | exact Got.set (by assumption) _ _ _
          | exact Got.drew (Got.last (by assumption) _ _ _ _)
          | exact Got.drew (Got.set (by assumption) _ _ _)
        case rest=>
         obtain⟨w6,hw6⟩:∃q:World,q=wc:=⟨_,rfl⟩;subst hw6;obtain⟨q7,rfl,rfl,m2,m3,hq7,hqh7,hs7⟩:=hcut;have HO6:=zH (hO.out.below hs7.low);have HR6:=zH (HRxr.out.below hs7.low);have HB6:=zH (HBr.out.below hs7.low);have HP6:=zH (Zaa.below HP2.out hs7.low);have HL6:Hid (Below w.heap.size w w6):=(HLow5.out.trans (hL.out.mono (by omega))).trans (hs7.low.mono (by have:=hL.out.size;omega));generalize Ve.addR pj SL=LR at *;generalize Ve.addK pj SL=LK at *;clear hs7 hO HRxr HBr HP2 Cl3 hx0 hL HYr;obtain⟨o0,o1,o2⟩:=three HO6.out;obtain⟨z0,z1,z2⟩:=three HR6.out;obtain⟨f0,f1,f2⟩:=Zh2 HR6.out;obtain⟨c0,c1⟩:=two HB6.out;cases LK with
         | false=>
          have HE:=zH (HLs.out rfl);clear HLs HNg
          go_wp2_with fail
          have HEnd:=zH (Zed HR6.out (.int .i64 3) (.slice none 0 0) (.slice none 0 0));refine bodyPost_ret (v:=.agg #[.int .i64 3,.slice none 0 0,.slice none 0 0]) (by
           obtain⟨z0,z1,z2⟩:=three HEnd.out;unfold Zjc at z0 z1 z2;revert z0 z1 z2;generalize (World.setCell _ (⟨w.heap.size+1,2,none⟩:Addr) (.slice none 0 0))=W4;intro z0 z1 z2;simp[results,Tryz.results8,go_sem,z0,z1,z2]) rfl ?_
          rw[HE.out];exact⟨⟨_,_,rfl,World.ownsRow_nil _ _ _ _,World.ownsRow_nil _ _ _ _,.inl rfl⟩,Zdc HL6.out (Nat.le_succ _) _ _ _⟩
         | true=>
          have HE:=zH (HNg.out rfl);obtain⟨⟨v0,s0⟩,g0,⟨v1,s1⟩,g1⟩:=Zaa.spots HP6.out j hjl;have HP7:=zH (Zaa.put HP6.out j LR hjl);have hgo:gP≠w5.heap.size:=fun e=>Za1 HP6.out (show TyAt w6 w5.heap.size 28 from ⟨_,HO6.out⟩) Zk4 (by rw[<-e];rfl)
          have HO7:=zH ((HO6.out.other (p:=⟨gP,j*2,none⟩) hgo (.int .i64 LR.1)).other (p:=⟨gP,j*2+1,none⟩) hgo (.int .i64 LR.2));have HR7:=zH ((HR6.out.other (p:=⟨gP,j*2,none⟩) (show gP≠w.heap.size+1 by omega) (.int .i64 LR.1)).other (p:=⟨gP,j*2+1,none⟩) (show gP≠w.heap.size+1 by omega) (.int .i64 LR.2));have HL7:=zH (Zeh HL6.out (show w.heap.size≤gP by omega) (j*2) (j*2+1) (.int .i64 LR.1) (.int .i64 LR.2));have hwk:w.heap.size≤w5.heap.size:=by omega
          clear HLs HNg
          go_upto_region 19 with fail
          clear o0 o1 o2 z0 z1 z2 f0 f1 f2 c0 c1 s0 s1 g0 g1 m2 m3;generalize (w6.setCell ⟨gP,j*2,none⟩ (.int .i64 LR.1)).setCell ⟨gP,j*2+1,none⟩ (.int .i64 LR.2)=w7 at *;obtain⟨o0,o1,o2⟩:=three HO7.out;obtain⟨z0,z1,z2⟩:=three HR7.out;obtain⟨f0,f1,f2⟩:=Zh2 HR7.out
          go_wp2_with fail
          have HEnd:=zH (Zed HR7.out (.int .i64 1) (.slice (some ⟨gP,0,none⟩) NL.length cP) (.slice none 0 0));refine bodyPost_ret (v:=.agg #[.int .i64 1,.slice (some ⟨gP,0,none⟩) NL.length cP,.slice none 0 0]) (by
           obtain⟨z0,z1,z2⟩:=three HEnd.out;unfold Zjc at z0 z1 z2;revert z0 z1 z2;generalize (World.setCell _ (⟨w.heap.size+1,2,none⟩:Addr) (.slice none 0 0))=W4;intro z0 z1 z2;simp[results,Tryz.results8,go_sem,z0,z1,z2]) rfl ?_
          rw[HE.out];exact⟨⟨_,_,rfl,Zin (Zaa.raise HP7.out hwk) HR7.out Zk4 _ _ _,World.ownsRow_nil _ _ _ _,.inr rfl⟩,Zdc HL7.out (Nat.le_succ _) _ _ _⟩
   ·have hb1:(st != 1)=true:=by rw[bne_iff_ne];exact hst
    have HE:=zH (HStat.out hst);obtain⟨z0,z1,z2⟩:=three HRx5.out;obtain⟨f0,f1,f2⟩:=Zh2 HRx5.out;clear HFits HStat HEmp HLast HPoint HYl
    go_wp2_with fail
    have HEnd:=zH (Zed HRx5.out (.int .i64 3) (.slice none 0 0) (.slice none 0 0));refine bodyPost_ret (v:=.agg #[.int .i64 3,.slice none 0 0,.slice none 0 0]) (by
     obtain⟨z0,z1,z2⟩:=three HEnd.out;unfold Zjc at z0 z1 z2;revert z0 z1 z2;generalize (World.setCell _ (⟨w.heap.size+1,2,none⟩:Addr) (.slice none 0 0))=W4;intro z0 z1 z2;simp[results,Tryz.results8,go_sem,z0,z1,z2]) rfl ?_
    rw[HE.out];exact⟨⟨_,_,rfl,World.ownsRow_nil _ _ _ _,World.ownsRow_nil _ _ _ _,.inl rfl⟩,Zdc HLow5.out (Nat.le_succ _) _ _ _⟩
end Go.Proofs.YtjfnleilddgjiaaGreat
