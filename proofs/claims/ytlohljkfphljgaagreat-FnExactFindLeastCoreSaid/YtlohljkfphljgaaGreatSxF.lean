/- The specification's l7Solve. -/
import Derived.Test.YtlohljkfphljgaaGreatGSx
import Derived.Test.YtlohljkfphljgaaGreatGTd
import Derived.Test.YtlohljkfphljgaaGreatHApR
import Derived.Test.YtlohljkfphljgaaGreatGLq
namespace Go.Proofs.YtlohljkfphljgaaGreat
open Go.RowKit
open Ve (R)
open Ta (T)
open Lp (P Res)
theorem Zwe {q B:Nat} {w:World} {v:Value} {xs:List R} (h:Zaa B w v xs) (hq:q<B):∃(a:Option Addr) (c:Nat),v=.slice a xs.length c/\Off q (fun w'=>Zah w'.heap.size w' a xs) w:=by
 obtain⟨a,c,rfl,hr,_,_⟩:=Zai h;refine⟨a,c,rfl,hr,fun w' hs hk=>?_⟩;have h':Zaa B w' (.slice a xs.length c) xs:=Zak h fun g hg=>hk g (World.ownsRow.lt h g hg).2 (by have:=(World.ownsRow.lt h g hg).1;omega)
 obtain⟨a',c',e,hr',_,_⟩:=Zai h';injection e with e1 _ _
 subst e1;exact hr'
theorem Zwo {B:Nat} {w:World} {a:Option Addr} {xs:List R} (h:Zah B w a xs) (m:Nat):Zah B w a (xs.take m):=fun j x hx=>h j x (by
 rw[List.getElem?_take] at hx
 split at hx
 ·exact hx
 ·cases hx)
def Zcg (w:World) (q:Nat) (y0 y1 y2 y3 y4 y5 y6:Value):World:=
 ((((((w.setCell ⟨q,0,none⟩ y0).setCell ⟨q,1,none⟩ y1).setCell ⟨q,2,none⟩ y2).setCell ⟨q,3,none⟩ y3).setCell ⟨q,4,none⟩ y4).setCell ⟨q,5,none⟩ y5).setCell ⟨q,6,none⟩ y6
theorem Zbf {w:World} {q:Nat} {x0 x1 x2 x3 x4 x5 x6:Value} {t:TypeId} (h:Zac w q #[x0,x1,x2,x3,x4,x5,x6] t) (y0 y1 y2 y3 y4 y5 y6:Value):Zac (Zcg w q y0 y1 y2 y3 y4 y5 y6) q #[y0,y1,y2,y3,y4,y5,y6] t:=by
 have:=((((((h.set 0 y0).set 1 y1).set 2 y2).set 3 y3).set 4 y4).set 5 y5).set 6 y6
 simpa [Zcg] using this
theorem Zf2 (w:World) (q:Nat) (y0 y1 y2 y3 y4 y5 y6:Value) {k:Nat} (hk:k≠q):(Zcg w q y0 y1 y2 y3 y4 y5 y6).heap[k]? = w.heap[k]?:=by
 unfold Zcg;rw[Below.heap_setCell _ _ _ _ (show k≠q from hk),Below.heap_setCell _ _ _ _ (show k≠q from hk),Below.heap_setCell _ _ _ _ (show k≠q from hk),Below.heap_setCell _ _ _ _ (show k≠q from hk),Below.heap_setCell _ _ _ _ (show k≠q from hk),Below.heap_setCell _ _ _ _ (show k≠q from hk),Below.heap_setCell _ _ _ _ (show k≠q from hk)]
theorem Zhb {w w':World} {q R:Nat} (h:Only q w w') (hq:q≤w.heap.size) (hR:w.heap.size≤R) (y0 y1 y2 y3 y4 y5 y6:Value):Only q w (Zcg w' R y0 y1 y2 y3 y4 y5 y6):=
 ((((((h.Zls hq hR 0 y0).Zls hq hR 1 y1).Zls hq hR 2 y2).Zls hq hR 3 y3).Zls hq hR 4 y4).Zls hq hR 5 y5).Zls hq hR 6 y6
theorem sevC {w:World} {q:Nat} {x0 x1 x2 x3 x4 x5 x6:Value} {t:TypeId} (h:Zac w q #[x0,x1,x2,x3,x4,x5,x6] t) :
  (w.cell? ⟨q,0,none⟩=some x0/\w.cell? ⟨q,1,none⟩=some x1/\w.cell? ⟨q,2,none⟩=some x2/\w.cell? ⟨q,3,none⟩=some x3)/\w.cell? ⟨q,4,none⟩=some x4/\w.cell? ⟨q,5,none⟩=some x5/\w.cell? ⟨q,6,none⟩=some x6:=
 ⟨⟨h.cell 0,h.cell 1,h.cell 2,h.cell 3⟩,h.cell 4,h.cell 5,h.cell 6⟩
theorem sevF {w:World} {q:Nat} {cs:Array Value} {t:TypeId} (h:Zac w q cs t) :
  (w.frozen? ⟨q,0,none⟩=false/\w.frozen? ⟨q,1,none⟩=false/\w.frozen? ⟨q,2,none⟩=false/\w.frozen? ⟨q,3,none⟩=false)/\w.frozen? ⟨q,4,none⟩=false/\w.frozen? ⟨q,5,none⟩=false/\w.frozen? ⟨q,6,none⟩=false:=
 ⟨⟨h.free 0,h.free 1,h.free 2,h.free 3⟩,h.free 4,h.free 5,h.free 6⟩
def WkN (q:Nat) (w:World) (n:Nat):Prop:=∃x0 x1 x2 x3 x4 x5:Value,Zac w q #[x0,x1,x2,x3,x4,x5,.int .i64 n,.bool false] 92
def Z13 (q B:Nat) (r:Res) (v:Value) (w':World):Prop:=
 ∃(a b c:Option Addr) (c1 c2 c3:Nat) (n:Nat),v=.agg #[.int .i64 r.status,.slice a r.X.length c1,.slice b r.Y.length c2,.slice c r.ray.length c3,.int .i64 r.value.1,.int .i64 r.value.2,.int .i64 0]/\r.pivots=n/\WkN q w' n/\
  Zah w'.heap.size w' a r.X/\Zaa B w' (.slice b r.Y.length c2) r.Y/\Zaa B w' (.slice c r.ray.length c3) r.ray/\(b=none\/c=none)
def Zew (q:Nat) (RR:Option Res) (w:World) (e:Ending) (w':World):Prop:=Only q w w'/\∃v,e=.returned v/\(match RR with
 | none=>v=.agg #[.int .i64 0,.slice none 0 0,.slice none 0 0,.slice none 0 0,.int .i64 0,.int .i64 0,.int .i64 0]/\Zki q w'
 | some r=>Z13 q w.heap.size r v w')
theorem Zew.bad {q:Nat} {RR:Option Res} {w w':World} (hR:RR=none) (ho:Only q w w') (hq:q<w.heap.size) {cs:Array Value} {t:TypeId} (_hx:Zac w' w.heap.size cs t) (hb:Zki q w') (y0 y1 y2 y3 y4 y5 y6:Value) (v:Value) (hv:v=.agg #[.int .i64 0,.slice none 0 0,.slice none 0 0,.slice none 0 0,.int .i64 0,.int .i64 0,.int .i64 0]):Zew q RR w (.returned v) (Zcg w' w.heap.size y0 y1 y2 y3 y4 y5 y6):=by
 subst hR;obtain⟨x0,x1,x2,a,l,c,x4,x5,n,h⟩:=hb;exact⟨Zhb ho (Nat.le_of_lt hq) (Nat.le_refl _) _ _ _ _ _ _ _,v,rfl,hv,x0,x1,x2,a,l,c,x4,x5,n,(Zf2 w' w.heap.size y0 y1 y2 y3 y4 y5 y6 (show q≠w.heap.size by omega)).trans h⟩
theorem Zew.good {q B n:Nat} {RR:Option Res} {w w':World} {r:Res} (hR:RR=some r) (ho:Only q w w') (hq:q<w.heap.size) (hB:w.heap.size<B) (hp:r.pivots=n) (hn:WkN q w' n)
  {a b c:Option Addr} {c1 c2 c3 nX:Nat} {full:List R} (hX:Zaa B w' (.slice a nX c1) full) (hXe:r.X=full.take r.X.length) (hY:Zaa B w' (.slice b r.Y.length c2) r.Y) (hZ:Zaa B w' (.slice c r.ray.length c3) r.ray) (hbc:b=none\/c=none)
  (y0 y1 y2 y3 y4 y5 y6:Value) (v:Value) (hv:v=.agg #[.int .i64 r.status,.slice a r.X.length c1,.slice b r.Y.length c2,.slice c r.ray.length c3,.int .i64 r.value.1,.int .i64 r.value.2,.int .i64 0]):Zew q RR w (.returned v) (Zcg w' w.heap.size y0 y1 y2 y3 y4 y5 y6):=by
 subst hR;obtain⟨x0,x1,x2,x3,x4,x5,h⟩:=hn;have own:∀ {u:Value} {xs:List R},Zaa B w' u xs->Zaa B (Zcg w' w.heap.size y0 y1 y2 y3 y4 y5 y6) u xs:=fun hu=>Zak hu fun g hg=>Zf2 _ _ _ _ _ _ _ _ _ (by have:=(World.ownsRow.lt hu g hg).1;omega)
 have hX':=own hX;obtain⟨a',c',e,hr,_,_⟩:=Zai hX';injection e with e1 _ _
 subst e1;refine⟨Zhb ho (Nat.le_of_lt hq) (Nat.le_refl _) _ _ _ _ _ _ _,v,rfl,a,b,c,c1,c2,c3,n,hv,hp,⟨x0,x1,x2,x3,x4,x5,(Zf2 w' w.heap.size y0 y1 y2 y3 y4 y5 y6 (show q≠w.heap.size by omega)).trans h⟩,?_,(own hY).lower (Nat.le_of_lt hB),(own hZ).lower (Nat.le_of_lt hB),hbc⟩;rw[hXe];exact Zwo hr _
theorem Zj9 {B:Nat} {w:World} {v:Value} {xs:List R} (h:Zaa B w v xs):∃(a:Option Addr) (c:Nat),v=.slice a xs.length c/\xs.length≤c:=by
 obtain⟨h1,⟨rfl,hn⟩ | ⟨g,cap,cur,rfl,_,_,hc,_⟩⟩:=h
 ·exact⟨none,0,by rw[hn],by omega⟩
 ·exact⟨_,cap,rfl,hc⟩
theorem Zva {cost:List R} {last:Int} (h:0≤Ta.entR cost last):Ta.entR cost last<last:=by
 unfold Ta.entR at *
 split at h
 ·rename_i hc
  rw[if_pos hc];have:=Zkz cost last.toNat;omega
 ·omega
theorem Zzk {t:T} (h:Ta.good t=true):(Ta.solR t).length=(t.cols+t.rows.length).toNat:=by
 unfold Ta.solR;rw[if_pos h,Ta.Zhr]
theorem Zzb {p:P} (h:Ta.ph (Ta.Zgf p) (Ta.start p,0)=none):Ta.run1 p=none:=by unfold Ta.run1;rw[h]
theorem Zzc {p:P} {s1:T×Nat} {c1:List R} {k:Int} (h:Ta.ph (Ta.Zgf p) (Ta.start p,0)=some (s1,c1,k)) (hs:Ta.sgn (Ta.Zcr c1)<0):Ta.run1 p=some ⟨2,[],Ta.Zc8 p c1 1,[],Ta.noR,s1.2⟩:=by simp[Ta.run1,h,hs]
theorem Zzd {p:P} {s1:T×Nat} {c1:List R} {k:Int} (h:Ta.ph (Ta.Zgf p) (Ta.start p,0)=some (s1,c1,k)) (hs0:0≤Ta.sgn (Ta.Zcr c1)) (hd:Ta.drive s1 p.A.length=none):Ta.run1 p=none:=by have hs:=Int.not_lt.2 hs0;simp[Ta.run1,h,hs,hd]
theorem Zze {p:P} {s1 s2:T×Nat} {c1:List R} {k:Int} (h:Ta.ph (Ta.Zgf p) (Ta.start p,0)=some (s1,c1,k)) (hs0:0≤Ta.sgn (Ta.Zcr c1)) (hd:Ta.drive s1 p.A.length=some s2) (hp:Ta.ph (Ta.Zdq p) s2=none):Ta.run1 p=none:=by have hs:=Int.not_lt.2 hs0;simp[Ta.run1,h,hs,hd,hp]
theorem Zzf {p:P} {s1 s2 s3:T×Nat} {c1 c3:List R} {k k3:Int} (h:Ta.ph (Ta.Zgf p) (Ta.start p,0)=some (s1,c1,k)) (hs0:0≤Ta.sgn (Ta.Zcr c1)) (hd:Ta.drive s1 p.A.length=some s2) (hp:Ta.ph (Ta.Zdq p) s2=some (s3,c3,k3)) (hk:0≤k3):Ta.run1 p=some ⟨3,Ta.xR s3.1,[],Ta.Zdn s3.1 k3.toNat p.A.length,Ta.noR,s3.2⟩:=by have hs:=Int.not_lt.2 hs0;simp[Ta.run1,h,hs,hd,hp,hk]
theorem Zzg {p:P} {s1 s2 s3:T×Nat} {c1 c3:List R} {k k3:Int} (h:Ta.ph (Ta.Zgf p) (Ta.start p,0)=some (s1,c1,k)) (hs0:0≤Ta.sgn (Ta.Zcr c1)) (hd:Ta.drive s1 p.A.length=some s2) (hp:Ta.ph (Ta.Zdq p) s2=some (s3,c3,k3)) (hk:¬0≤k3):Ta.run1 p=some ⟨1,Ta.xR s3.1,Ta.Zc8 p c3 0,[],Ta.negR (Ta.Zcr c3),s3.2⟩:=by have hs:=Int.not_lt.2 hs0;simp[Ta.run1,h,hs,hd,hp,hk]
theorem Wk.wkN {q:Nat} {w:World} {p:P} {t:T} {n:Nat} (h:Wk q w p t n false):WkN q w n:=by
 obtain⟨_,_,_,_,_,_,_,_,_,_,h1,_⟩:=h;exact⟨_,_,_,_,_,_,h1⟩
set_option maxRecDepth 100000 in
set_option maxHeartbeats 8000000 in
theorem Zqb {q:Nat} {w:World} {p:P} (h:Wk q w p (Ta.start p) 0 false) (hv:Lp.vldP p=true) :
  Calls Tryz.prog 62 #[.pointer (some ⟨q,0,none⟩)] w (Zew q (Ta.run1 p) w):=by
 obtain⟨RR,hRR⟩:∃RR,Ta.run1 p=RR:=⟨_,rfl⟩;rw[hRR];have HR:=zH hRR;have HV:=zH hv;have hC70:=(Lp.Zas hv).2.1;have hA8:=(Lp.Zas hv).2.2.1;have hq:=h.lt;have hbel:=(Below.refl w.heap.size w).alloc (Nat.le_refl _) (.cells #[.int .i64 0,.slice none 0 0,.slice none 0 0,.slice none 0 0,.int .i64 0,.int .i64 0,.int .i64 0] 33);have HW1:=zH (h.only hbel);have HO1:=zH (Zaz hbel (Nat.le_of_lt hq));have HX1:=zH (Zac.new w #[.int .i64 0,.slice none 0 0,.slice none 0 0,.slice none 0 0,.int .i64 0,.int .i64 0,.int .i64 0] 33);have HZ1:=zH (Zar w (.cells #[.int .i64 0,.slice none 0 0,.slice none 0 0,.slice none 0 0,.int .i64 0,.int .i64 0,.int .i64 0] 33));clear h hRR hv hbel
 go_enter Tryz.func62,Tryz.ntmps62
 go_upto_region 1 with fail
 generalize hW:w.alloc (.cells #[.int .i64 0,.slice none 0 0,.slice none 0 0,.slice none 0 0,.int .i64 0,.int .i64 0,.int .i64 0] 33)=W1 at *;clear hW HZ1;obtain⟨aA,aB,aC,a,b,cA,cB,cC,c1,c2,h1,h2,h3⟩:=HW1.out;obtain⟨⟨d0,d1,d2⟩,⟨d3,d4,d5⟩,d6,d7⟩:=eight h1;have HCO:=zH (Zjn W1.heap.size aA aB aC cA cB cC p (by omega) (by omega) true W1 (Nat.le_refl _) h2.1);have hqW:=Zab h1;clear h1 h2 h3
 go_wp2_with fail
 refine HCO.out.mono ?_;rintro e wa2 ⟨v,rfl,ho,hb2⟩;obtain⟨a1,k1,rfl,hoff⟩:=Zwe ho hqW;have HWa2:=zH (HW1.out.only hb2);have HXa2:=zH (HX1.out.below hb2);have HOa2:=zH (HO1.out.trans (Zaz hb2 (Nat.le_of_lt hqW)));have HPH:=zH (Zjo HWa2.out HV.out (Ta.Zet HV.out) a1 k1 (costs p true) (by rw[Zo8];omega) hoff);obtain⟨Pa,hP⟩:∃Pa,Ta.ph (costs p true) (Ta.start p,0)=Pa:=⟨_,rfl⟩;rw[hP] at HPH;have HPa:=zH (show Ta.ph (Ta.Zgf p) (Ta.start p,0)=Pa from hP);obtain⟨CL,hCL⟩:∃CL,(costs p true).length=CL:=⟨_,rfl⟩;rw[hCL] at HPH ⊢;clear hP hCL ho hb2 hoff d0 d1 d2 d3 d4 d5 d6 d7 HCO hqW
 go_wp2_with fail
 refine HPH.out.mono ?_;rintro e wa3 ⟨ho3,hm⟩;have HOa3:=zH (HOa2.out.trans ho3);have HXa3:Hid (Zac wa3 w.heap.size #[.int .i64 0,.slice none 0 0,.slice none 0 0,.slice none 0 0,.int .i64 0,.int .i64 0,.int .i64 0] 33):=(ho3.block (show w.heap.size≠q by omega) (Zab HXa2.out)).trans HXa2.out;clear ho3 HPH HXa2 HOa2 HWa2;cases Pa with
 | none=>
  obtain⟨⟨v,c,rfl⟩,hbad⟩:=hm;have HN:Hid (RR=none):=by show _=_;rw[<-HR.out];exact Zzb HPa.out
  have HBd:=zH (show Zki q wa3 from hbad);obtain⟨x0,x1,x2,x3,l3,y3,x4,x5,m,k1⟩:=HBd.out;obtain⟨⟨d0,d1,d2⟩,⟨d3,d4,d5⟩,d6,d7⟩:=eight k1;clear k1;obtain⟨⟨b0,b1,b2,b3⟩,b4,b5,b6⟩:=sevC HXa3.out;obtain⟨⟨e0,e1,e2,e3⟩,e4,e5,e6⟩:=sevF HXa3.out
  go_wp2_with fail
  generalize hG:(World.setCell _ (⟨w.heap.size,6,none⟩:Addr) _)=WF;have hG2:Zcg wa3 w.heap.size (.int .i64 0) (.slice none 0 0) (.slice none 0 0) (.slice none 0 0) (.int .i64 0) (.int .i64 0) (.int .i64 0)=WF:=hG;have hF:=Zbf HXa3.out (.int .i64 0) (.slice none 0 0) (.slice none 0 0) (.slice none 0 0) (.int .i64 0) (.int .i64 0) (.int .i64 0);rw[hG2] at hF;obtain⟨⟨z0,z1,z2,z3⟩,z4,z5,z6⟩:=sevC hF;refine bodyPost_ret (v:=.agg #[.int .i64 0,.slice none 0 0,.slice none 0 0,.slice none 0 0,.int .i64 0,.int .i64 0,.int .i64 0]) (by simp[results,Tryz.results62,go_sem,z0,z1,z2,z3,z4,z5,z6]) rfl ?_;rw[<-hG2];exact Zew.bad HN.out HOa3.out hq HXa3.out HBd.out _ _ _ _ _ _ _ _ rfl
 | some r1=>
  obtain⟨⟨t1,n1⟩,cs1,col1⟩:=r1;obtain⟨av,cv,rfl,hW3,hrd⟩:=hm;have HW3:=zH (show Wk q wa3 p t1 n1 false from hW3);obtain⟨hs1,hk1,he1,he2,_⟩:=Ta.Zgs (Ta.Zet HV.out) HPa.out;have HS1:=zH hs1;have hl1:cs1.length=p.C.length+p.A.length+1:=by
   obtain⟨_,g2,g3,_⟩:=hs1;simp only at g2 g3;have h9:(cs1.length:Int)=t1.cols+t1.rows.length+1:=by rw[he1];exact Ta.Zbj hk1
   omega
  have HL1:=zH hl1;have HC1:=zH (show t1.cols=p.C.length from hs1.2.2.1);have HE1:=zH (show col1=Ta.entC t1 _ from he2);obtain⟨NL,hNL⟩:∃NL,cs1.length=NL:=⟨_,rfl⟩;obtain⟨m,hmm⟩:∃m,NL=m+1:=⟨p.C.length+p.A.length,by omega⟩;have hm1:(m:Int)<(NL:Int):=by omega
  have hwrap:IntKind.i64.wrap ((NL:Int)-1)=(m:Int):=by rw[show (NL:Int)-1=(m:Int) by omega];exact IntWalk.i64_in _ (by omega)
  have HLR:=zH (show Ta.Zcr cs1=Ve.at_ cs1 m by unfold Ta.Zcr;congr 1;omega);have HRD:=zH hrd;obtain⟨b5,o5,rfl,hb5,p0,p1⟩:=hrd.at m (by omega);have HNL:=zH hNL;rw[hNL];obtain⟨LX,hLX⟩:∃LX,Ve.at_ cs1 m=LX:=⟨_,rfl⟩;rw[hLX] at p0 p1 HLR;have HMN:=zH hmm;have HLX:=zH hLX;clear hW3 hrd hs1 hk1 he1 he2 hl1 hNL hmm hLX;obtain⟨_,_,_,_,_,_,_,_,_,_,k1,_,_⟩:=HW3.out;obtain⟨⟨d0,d1,d2⟩,⟨d3,d4,d5⟩,d6,d7⟩:=eight k1;have hqW:=Zab k1;clear k1
  go_wp2_with fail
  refine (Zhv LX _).mono ?_;rintro e w4 ⟨rfl,hb4⟩;have HW4:=zH (HW3.out.only hb4);have HX4:=zH (HXa3.out.below hb4);have HO4:=zH (HOa3.out.trans (Zaz hb4 (Nat.le_of_lt hqW)));have HRD4:=zH ((HRD.out.below hb4).mono hb4.size);obtain⟨S,hS⟩:∃S,Ta.sgn LX=S:=⟨_,rfl⟩;rw[hS];have HSG:=zH (show Ta.sgn (Ta.Zcr cs1)=S by rw[HLR.out,hS]);clear hb4 hS d0 d1 d2 d3 d4 d5 d6 d7 p0 p1 hwrap hm1 hb5 HXa3 HOa3 HRD HW3 HLR hqW;have hBR:=Zab HX4.out
  by_cases hs:S<0
  ·have hd:decide (S<0)=true:=decide_eq_true hs
   have HN0:=zH (Zzc HPa.out (by rw[HSG.out];exact hs));have HDU:=zH (Zl4 HW4.out HV.out HC1.out (some ⟨b5,o5,none⟩) cv cs1 HL1.out 1 HRD4.out);rw[HNL.out] at HDU;obtain⟨DR,hDR⟩:∃DR,Ta.Zc8 p cs1 1=DR:=⟨_,rfl⟩;rw[hDR] at HDU HN0;have HN:Hid (RR=some ⟨2,[],DR,[],Ta.noR,n1⟩):=by show _=_;rw[<-HR.out];exact HN0.out
   clear hDR HN0
   go_wp2_with fail
   refine HDU.out.mono ?_;rintro e w5 ⟨v,rfl,ho5,hb5⟩;obtain⟨ay,cy,rfl⟩:=Zbb ho5;have HW5:=zH (HW4.out.only hb5);have HX5:=zH (HX4.out.below hb5);have HO5:=zH (HO4.out.trans (Zaz hb5 (Nat.le_of_lt HW4.out.lt)));have HY5:=zH ho5;clear ho5 hb5;obtain⟨⟨b0,b1,b2,b3⟩,b4,b5,b6⟩:=sevC HX5.out;obtain⟨⟨e0,e1,e2,e3⟩,e4,e5,e6⟩:=sevF HX5.out
   go_wp2_with fail
   generalize hG:(World.setCell _ (⟨w.heap.size,6,none⟩:Addr) _)=WF;have hG2:Zcg w5 w.heap.size (.int .i64 2) (.slice none 0 0) (.slice ay DR.length cy) (.slice none 0 0) (.int .i64 0) (.int .i64 0) (.int .i64 0)=WF:=hG;have hF:=Zbf HX5.out (.int .i64 2) (.slice none 0 0) (.slice ay DR.length cy) (.slice none 0 0) (.int .i64 0) (.int .i64 0) (.int .i64 0);rw[hG2] at hF;obtain⟨⟨z0,z1,z2,z3⟩,z4,z5,z6⟩:=sevC hF;refine bodyPost_ret (v:=.agg #[.int .i64 2,.slice none 0 0,.slice ay DR.length cy,.slice none 0 0,.int .i64 0,.int .i64 0,.int .i64 0]) (by simp[results,Tryz.results62,go_sem,z0,z1,z2,z3,z4,z5,z6]) rfl ?_;rw[<-hG2];exact Zew.good (B:=w4.heap.size) (n:=n1) (a:=none) (c:=none) (c1:=0) (c3:=0) (nX:=0) (full:=[]) HN.out HO5.out hq hBR rfl HW5.out.wkN (World.ownsRow_nil _ _ _ _) rfl HY5.out (World.ownsRow_nil _ _ _ _) (.inr rfl) _ _ _ _ _ _ _ _ rfl
  ·have hd:decide (S<0)=false:=decide_eq_false hs
   have HNS:=zH (show 0≤Ta.sgn (Ta.Zcr cs1) by rw[HSG.out];omega);have HDV:=zH (Zqa HW4.out HV.out HS1.out);obtain⟨D2,hD2⟩:∃D2,Ta.drive (t1,n1) p.A.length=D2:=⟨_,rfl⟩;rw[hD2] at HDV;have HD2:=zH hD2;clear hD2
   go_wp2_with fail
   refine HDV.out.mono ?_;rintro e w5 ⟨rfl,ho5,hm5⟩;have HO5:=zH (HO4.out.trans ho5);have HX5:Hid (Zac w5 w.heap.size #[.int .i64 0,.slice none 0 0,.slice none 0 0,.slice none 0 0,.int .i64 0,.int .i64 0,.int .i64 0] 33):=(ho5.block (show w.heap.size≠q by omega) hBR).trans HX4.out;clear ho5 HDV HX4 HO4 HRD4 HW4;cases D2 with
   | none=>
    have HN:Hid (RR=none):=by show _=_;rw[<-HR.out];exact Zzd HPa.out HNS.out HD2.out
    have HBd:=zH (show Zki q w5 from hm5);obtain⟨x0,x1,x2,x3,l3,y3,x4,x5,m,k1⟩:=HBd.out;obtain⟨⟨d0,d1,d2⟩,⟨d3,d4,d5⟩,d6,d7⟩:=eight k1;clear k1;obtain⟨⟨b0,b1,b2,b3⟩,b4,b5,b6⟩:=sevC HX5.out;obtain⟨⟨e0,e1,e2,e3⟩,e4,e5,e6⟩:=sevF HX5.out
    go_wp2_with fail
    generalize hG:(World.setCell _ (⟨w.heap.size,6,none⟩:Addr) _)=WF;have hG2:Zcg w5 w.heap.size (.int .i64 0) (.slice none 0 0) (.slice none 0 0) (.slice none 0 0) (.int .i64 0) (.int .i64 0) (.int .i64 0)=WF:=hG;have hF:=Zbf HX5.out (.int .i64 0) (.slice none 0 0) (.slice none 0 0) (.slice none 0 0) (.int .i64 0) (.int .i64 0) (.int .i64 0);rw[hG2] at hF;obtain⟨⟨z0,z1,z2,z3⟩,z4,z5,z6⟩:=sevC hF;refine bodyPost_ret (v:=.agg #[.int .i64 0,.slice none 0 0,.slice none 0 0,.slice none 0 0,.int .i64 0,.int .i64 0,.int .i64 0]) (by simp[results,Tryz.results62,go_sem,z0,z1,z2,z3,z4,z5,z6]) rfl ?_;rw[<-hG2];exact Zew.bad HN.out HO5.out hq HX5.out HBd.out _ _ _ _ _ _ _ _ rfl
   | some s2=>
    obtain⟨t2,n2⟩:=s2;have HW5:=zH (show Wk q w5 p t2 n2 false from hm5);have HS2:=zH (Ta.Zdy HS1.out HD2.out);clear hm5 hBR;obtain⟨aA,aB,aC,a,b,cA,cB,cC,c1,c2,h1,h2,h3⟩:=HW5.out;obtain⟨⟨d0,d1,d2⟩,⟨d3,d4,d5⟩,d6,d7⟩:=eight h1;have HCO:=zH (Zjn w5.heap.size aA aB aC cA cB cC p (by omega) (by omega) false w5 (Nat.le_refl _) h2.1);have hqW:=Zab h1;clear h1 h2 h3
    go_wp2_with fail
    refine HCO.out.mono ?_;rintro e wb2 ⟨v,rfl,ho,hb2⟩;obtain⟨a1,k1,rfl,hoff⟩:=Zwe ho hqW;have HWb2:=zH (HW5.out.only hb2);have HXb2:=zH (HX5.out.below hb2);have HOb2:=zH (HO5.out.trans (Zaz hb2 (Nat.le_of_lt hqW)));have HPH:=zH (Zjo HWb2.out HV.out HS2.out a1 k1 (costs p false) (by rw[Zo8];omega) hoff);obtain⟨Pb,hP⟩:∃Pb,Ta.ph (costs p false) (t2,n2)=Pb:=⟨_,rfl⟩;rw[hP] at HPH;have HPb:=zH (show Ta.ph (Ta.Zdq p) (t2,n2)=Pb from hP);obtain⟨CL,hCL⟩:∃CL,(costs p false).length=CL:=⟨_,rfl⟩;rw[hCL] at HPH ⊢;clear hP hCL ho hb2 hoff d0 d1 d2 d3 d4 d5 d6 d7 HCO hqW
    go_wp2_with fail
    refine HPH.out.mono ?_;rintro e wb3 ⟨ho3,hm⟩;have HOb3:=zH (HOb2.out.trans ho3);have HXb3:Hid (Zac wb3 w.heap.size #[.int .i64 0,.slice none 0 0,.slice none 0 0,.slice none 0 0,.int .i64 0,.int .i64 0,.int .i64 0] 33):=(ho3.block (show w.heap.size≠q by omega) (Zab HXb2.out)).trans HXb2.out;clear ho3 HPH HXb2 HOb2 HWb2;cases Pb with
    | none=>
     obtain⟨⟨v,c,rfl⟩,hbad⟩:=hm;have HN:Hid (RR=none):=by show _=_;rw[<-HR.out];exact Zze HPa.out HNS.out HD2.out HPb.out
     have HBd:=zH (show Zki q wb3 from hbad);obtain⟨x0,x1,x2,x3,l3,y3,x4,x5,m,k1⟩:=HBd.out;obtain⟨⟨d0,d1,d2⟩,⟨d3,d4,d5⟩,d6,d7⟩:=eight k1;clear k1;obtain⟨⟨b0,b1,b2,b3⟩,b4,b5,b6⟩:=sevC HXb3.out;obtain⟨⟨e0,e1,e2,e3⟩,e4,e5,e6⟩:=sevF HXb3.out
     go_wp2_with fail
     generalize hG:(World.setCell _ (⟨w.heap.size,6,none⟩:Addr) _)=WF;have hG2:Zcg wb3 w.heap.size (.int .i64 0) (.slice none 0 0) (.slice none 0 0) (.slice none 0 0) (.int .i64 0) (.int .i64 0) (.int .i64 0)=WF:=hG;have hF:=Zbf HXb3.out (.int .i64 0) (.slice none 0 0) (.slice none 0 0) (.slice none 0 0) (.int .i64 0) (.int .i64 0) (.int .i64 0);rw[hG2] at hF;obtain⟨⟨z0,z1,z2,z3⟩,z4,z5,z6⟩:=sevC hF;refine bodyPost_ret (v:=.agg #[.int .i64 0,.slice none 0 0,.slice none 0 0,.slice none 0 0,.int .i64 0,.int .i64 0,.int .i64 0]) (by simp[results,Tryz.results62,go_sem,z0,z1,z2,z3,z4,z5,z6]) rfl ?_;rw[<-hG2];exact Zew.bad HN.out HOb3.out hq HXb3.out HBd.out _ _ _ _ _ _ _ _ rfl
    | some r3=>
     obtain⟨⟨t3,n3⟩,cs3,col3⟩:=r3;obtain⟨av,cv,rfl,hW3,hrd⟩:=hm;have HW6:=zH (show Wk q wb3 p t3 n3 false from hW3);obtain⟨hs1,hk1,he1,he2,_⟩:=Ta.Zgs HS2.out HPb.out;have HS3:=zH hs1;have hl3:cs3.length=p.C.length+p.A.length+1:=by
      obtain⟨_,g2,g3,_⟩:=hs1;simp only at g2 g3;have h9:(cs3.length:Int)=t3.cols+t3.rows.length+1:=by rw[he1];exact Ta.Zbj hk1
      omega
     have HL3:=zH hl3;have HC3:=zH (show t3.cols=p.C.length from hs1.2.2.1);have HE3:=zH (show col3=Ta.entC t3 _ from he2);obtain⟨NL,hNL⟩:∃NL,cs3.length=NL:=⟨_,rfl⟩;obtain⟨m,hmm⟩:∃m,NL=m+1:=⟨p.C.length+p.A.length,by omega⟩;have hm1:(m:Int)<(NL:Int):=by omega
     have hwrap:IntKind.i64.wrap ((NL:Int)-1)=(m:Int):=by rw[show (NL:Int)-1=(m:Int) by omega];exact IntWalk.i64_in _ (by omega)
     have HLR:=zH (show Ta.Zcr cs3=Ve.at_ cs3 m by unfold Ta.Zcr;congr 1;omega);have HRD:=zH hrd;obtain⟨b5,o5,rfl,hb5,p0,p1⟩:=hrd.at m (by omega);have HNL:=zH hNL;rw[hNL];obtain⟨LX,hLX⟩:∃LX,Ve.at_ cs3 m=LX:=⟨_,rfl⟩;rw[hLX] at p0 p1 HLR;have HMN:=zH hmm;have HLX:=zH hLX;clear hW3 hrd hs1 hk1 he1 he2 hl3 hNL hmm hLX;obtain⟨hft,hr8,hc0,hc70,hn9⟩:=Zcs HV.out HS3.out;obtain⟨TN,hTN⟩:∃TN:Nat,t3.cols=TN:=⟨t3.cols.toNat,by omega⟩;have HTN:=zH hTN;obtain⟨aA,aB,aC,a,b,cA,cB,cC,k1,k2,h1,h2,h3⟩:=HW6.out;have HSO:=zH (fun w' (hs:Since wb3 w')=>Ze7 (Zl2 wb3.heap.size a b k1 k2 t3 hft w' hs.low.size (h3.1.below hs.low)) hs);rw[show tabV a b k1 k2 t3=.agg #[.slice a t3.rows.length k1,.slice b t3.basis.length k2,.int .i64 t3.cols] from rfl] at HSO;have hxl:(Ta.solR t3).length=(t3.cols+t3.rows.length).toNat:=Zzk HS3.out.1;have hxt:TN≤(Ta.solR t3).length:=by omega
     have HXT:=zH (show Ta.xR t3=(Ta.solR t3).take TN by unfold Ta.xR;rw[hTN];rfl);obtain⟨XF,hXF⟩:∃XF,Ta.solR t3=XF:=⟨_,rfl⟩;rw[hXF] at HSO hxt HXT;obtain⟨RL,hRL⟩:∃RL,t3.rows.length=RL:=⟨_,rfl⟩;obtain⟨BL,hBL⟩:∃BL,t3.basis.length=BL:=⟨_,rfl⟩;rw[hRL,hBL,hTN] at h1 HSO;obtain⟨⟨d0,d1,d2⟩,⟨d3,d4,d5⟩,d6,d7⟩:=eight h1;have hqW:=Zab h1;have hTb:TN≤70:=by omega
     have Cell:=zH (fun w' (hs:Since wb3 w')=>(show w'.cell? ⟨q,3,none⟩=some (.slice a RL k1)/\w'.cell? ⟨q,4,none⟩=some (.slice b BL k2)/\w'.cell? ⟨q,5,none⟩=some (.int .i64 TN)/\Since wb3 w' from ⟨hs.cell hqW d3,hs.cell hqW d4,hs.cell hqW d5,hs⟩));have hin:=Since.refl wb3;clear h1 h2 h3 hft hr8 hc0 hc70 hn9 hTN hxl hXF hRL hBL p0 p1 hwrap hm1 hb5 d0 d1 d2 d6
     go_upto_region 12 with fail
     go_region_held3 (fun w'=>w'.cell? ⟨q,3,none⟩=some (.slice a RL k1)/\w'.cell? ⟨q,4,none⟩=some (.slice b BL k2)/\w'.cell? ⟨q,5,none⟩=some (.int .i64 TN)/\Since wb3 w') (first|exact Cell.out _ (by assumption) | exact Cell.out _ (Since.drew (by assumption)))
      (first | (go_at_call 143;refine (HSO.out _ (by first|assumption|exact Since.drew (by assumption))).mono ?_;rintro e w' ⟨⟨v,rfl,ho⟩,hin2,_⟩;obtain⟨ax,cx,rfl,hcap⟩:=Zj9 ho;have hT1:(TN:Int)≤(cx:Int):=by omega))
     have HW7:=zH (HW6.out.only hin2.low);have HX7:=zH (HXb3.out.below hin2.low);have HO7:=zH (HOb3.out.trans (Zaz hin2.low (Nat.le_of_lt hqW)));have HRD7:=zH ((HRD.out.below hin2.low).mono hin2.low.size);have HF7:=zH ho;have hBR:=Zab HXb3.out;obtain⟨w7,hw7⟩:∃w7,w7=w':=⟨_,rfl⟩;rw[<-hw7] at HW7 HX7 HO7 HRD7 HF7 ⊢;have hsz7:=hin2.low.size;rw[<-hw7] at hsz7;clear hw7 hin2 hin Cell HSO ho hcap hT1 hqW HW6 HXb3 HOb3 HRD d3 d4 d5 d7
     by_cases hk:0≤col3
     ·obtain⟨cN,rfl⟩:∃cN:Nat,col3=cN:=⟨col3.toNat,by omega⟩
      have hd:decide ((cN:Int)≥0)=true:=by rw[decide_eq_true_iff];omega
      have hlt:(cN:Int)<t3.cols:=by
       rw[HE3.out];refine Zva ?_;have:=HE3.out;unfold Ta.entC at this;omega
      have HRY:=zH (Zum HW7.out HV.out HS3.out cN hlt);have HN0:=zH (Zzf HPa.out HNS.out HD2.out HPb.out hk);obtain⟨RY,hRY⟩:∃RY,Ta.Zdn t3 cN p.A.length=RY:=⟨_,rfl⟩;rw[hRY] at HRY;have HN:Hid (RR=some ⟨3,XF.take TN,[],RY,Ta.noR,n3⟩):=by show _=_;rw[<-HR.out,HN0.out,<-hRY,<-HXT.out];rfl
      have hXl:(XF.take TN).length=TN:=by rw[List.length_take];omega
      have HXl:=zH hXl;clear hRY HN0 hlt hXl
      go_wp2_with fail
      refine HRY.out.mono ?_;rintro e w8 ⟨v,rfl,ho8,hb8⟩;obtain⟨ay,cy,rfl⟩:=Zbb ho8;have HW8:=zH (HW7.out.only hb8);have HX8:=zH (HX7.out.below hb8);have HO8:=zH (HO7.out.trans (Zaz hb8 (Nat.le_of_lt HW7.out.lt)));have HF8:=zH (HF7.out.below hb8);have HY8:=zH (ho8.lower hsz7);clear ho8 hb8;obtain⟨⟨b0,b1,b2,b3⟩,b4,b5,b6⟩:=sevC HX8.out;obtain⟨⟨e0,e1,e2,e3⟩,e4,e5,e6⟩:=sevF HX8.out
      go_wp2_with fail
      generalize hG:(World.setCell _ (⟨w.heap.size,6,none⟩:Addr) _)=WF;have hG2:Zcg w8 w.heap.size (.int .i64 3) (.slice ax TN cx) (.slice none 0 0) (.slice ay RY.length cy) (.int .i64 0) (.int .i64 0) (.int .i64 0)=WF:=hG;have hF:=Zbf HX8.out (.int .i64 3) (.slice ax TN cx) (.slice none 0 0) (.slice ay RY.length cy) (.int .i64 0) (.int .i64 0) (.int .i64 0);rw[hG2] at hF;obtain⟨⟨z0,z1,z2,z3⟩,z4,z5,z6⟩:=sevC hF;refine bodyPost_ret (v:=.agg #[.int .i64 3,.slice ax TN cx,.slice none 0 0,.slice ay RY.length cy,.int .i64 0,.int .i64 0,.int .i64 0]) (by simp[results,Tryz.results62,go_sem,z0,z1,z2,z3,z4,z5,z6]) rfl ?_;rw[<-hG2];exact Zew.good (B:=wb3.heap.size) (n:=n3) (b:=none) (c2:=0) (full:=XF) HN.out HO8.out hq hBR rfl HW8.out.wkN HF8.out (by show _=XF.take (XF.take TN).length;rw[HXl.out]) (World.ownsRow_nil _ _ _ _) HY8.out (.inl rfl) _ _ _ _ _ _ _ _ (by rw[HXl.out];rfl)
     ·have hd:decide (col3≥0)=false:=by rw[decide_eq_false_iff_not];omega
      have HN0:=zH (Zzg HPa.out HNS.out HD2.out HPb.out hk);have HDU:=zH (fun w' (hs:Since w7 w')=>Ze7 (Zl4 (HW7.out.only hs.low) HV.out HC3.out (some ⟨b5,o5,none⟩) cv cs3 HL3.out 0 ((HRD7.out.below hs.low).mono hs.low.size)) hs);rw[HNL.out] at HDU;obtain⟨DR,hDR⟩:∃DR,Ta.Zc8 p cs3 0=DR:=⟨_,rfl⟩;rw[hDR] at HDU;have HN:Hid (RR=some ⟨1,XF.take TN,DR,[],Ta.negR LX,n3⟩):=by show _=_;rw[<-HR.out,HN0.out,hDR,HXT.out,HLR.out]
      have hXl:(XF.take TN).length=TN:=by rw[List.length_take];omega
      have HXl:=zH hXl;have hm0:m<cs3.length:=by have h1:=HMN.out;have h2:=HNL.out;omega
      obtain⟨b6,o6,he6,hb6,p0,p1⟩:=HRD7.out.at m hm0;injection he6 with he6
      injection he6 with he7 he8 _
      subst he7 he8;rw[HLX.out] at p0 p1;have hm1:(m:Int)<(NL:Int):=by have h1:=HMN.out;omega
      have hN9:NL≤100:=by have h1:=HL3.out;have h2:=HNL.out;omega
      have hwrap:IntKind.i64.wrap ((NL:Int)-1)=(m:Int):=by have h1:=HMN.out;rw[show (NL:Int)-1=(m:Int) by omega];exact IntWalk.i64_in _ (by omega)
      have Cell:=zH (fun w' (hs:Since w7 w')=>(show w'.cell? ⟨b5,o5+m*2,none⟩=some (.int .i64 LX.1)/\w'.cell? ⟨b5,o5+m*2+1,none⟩=some (.int .i64 LX.2)/\Since w7 w' from ⟨hs.cell hb6 p0,hs.cell hb6 p1,hs⟩));have hin0:=(Since.refl w7).drew;clear hDR HN0 hXl hm0 hb6 p0 p1 hN9
      go_upto_region 15 with fail
      refine Zaf (S:=(fun w'=>w'.cell? ⟨b5,o5+m*2,none⟩=some (.int .i64 LX.1)/\w'.cell? ⟨b5,o5+m*2+1,none⟩=some (.int .i64 LX.2)/\Since w7 w')) 12 (by kernel_rfl) ?_ (fun hHeld=>?_)
      ·exact Cell.out _ hin0
      refine tk2 0 ⟨some 74,_,26,_,_,none⟩ ?_;refine tk2 1 ⟨some 75,_,90,_,_,none⟩ ?_;refine tk2 2 ⟨some 76,_,26,_,_,none⟩ ?_;refine tk2 4 ⟨some 78,_,26,_,_,none⟩ ?_;refine tk2 5 ⟨some 79,_,26,_,_,none⟩ ?_;refine tk2 6 ⟨some 80,_,3,_,_,none⟩ ?_;refine tk2 7 ⟨some 81,_,3,_,_,none⟩ ?_;refine tk2 8 ⟨some 82,_,0,_,_,none⟩ ?_;refine tk2 9 ⟨some 83,_,31,_,_,none⟩ ?_
      try simp only[Act.put,zA,zB,zC]
      refine rd2 3 ⟨some 77,_,26,_,_,none⟩ fun K hK=>?_
      go_simp
      (go_at_call 141;refine (HDU.out _ hin0).mono ?_;rintro e w8 ⟨⟨v,rfl,ho8⟩,hin8,_⟩;obtain⟨ay,cy,rfl⟩:=Zbb ho8)
      refine hK.out _ _ ?_ (fun hHeld=>?_)
      ·exact Cell.out _ hin8
      clear hK K
      try simp only[Act.put,zA,zB,zC]
      refine rd2 10 ⟨some 84,_,31,_,_,none⟩ fun K hK=>?_
      go_simp
      (go_at_call 93;refine (Zd9 LX _).mono ?_;rintro e w9 ⟨rfl,hb9⟩;have hin9:=hin8.trans hb9)
      refine hK.out _ _ ?_ (fun hHeld=>?_)
      ·exact Cell.out _ hin9
      clear hK K;refine tk2 11 ⟨some 85,_,33,_,_,none⟩ ?_
      try simp only[Act.put,zA,zB,zC]
      have HW9:=zH (HW7.out.only hin9.low);have HX9:=zH (HX7.out.below hin9.low);have HO9:=zH (HO7.out.trans (Zaz hin9.low (Nat.le_of_lt HW7.out.lt)));have HF9:=zH (HF7.out.below hin9.low);have HY9:=zH ((Zaa.below ho8 hb9).lower hsz7);obtain⟨⟨b0,b1,b2,b3⟩,b4,b5,b6⟩:=sevC HX9.out;obtain⟨⟨e0,e1,e2,e3⟩,e4,e5,e6⟩:=sevF HX9.out;refine rd3 12 ⟨none,_,0,_,_,none⟩ fun K hK=>?_
      go_simp
      refine hK.out _ _ ?_;clear hK K;refine Zal (by kernel_rfl) ?_ _;clear hin9 hb9 ho8 hin8 Cell HDU hwrap
      go_wp2_with fail
      generalize hG:(World.setCell _ (⟨w.heap.size,6,none⟩:Addr) _)=WF;have hG2:Zcg w9 w.heap.size (.int .i64 1) (.slice ax TN cx) (.slice ay DR.length cy) (.slice none 0 0) (.int .i64 (Ta.negR LX).1) (.int .i64 (Ta.negR LX).2) (.int .i64 0)=WF:=hG;have hF:=Zbf HX9.out (.int .i64 1) (.slice ax TN cx) (.slice ay DR.length cy) (.slice none 0 0) (.int .i64 (Ta.negR LX).1) (.int .i64 (Ta.negR LX).2) (.int .i64 0);rw[hG2] at hF;obtain⟨⟨z0,z1,z2,z3⟩,z4,z5,z6⟩:=sevC hF;refine bodyPost_ret (v:=.agg #[.int .i64 1,.slice ax TN cx,.slice ay DR.length cy,.slice none 0 0,.int .i64 (Ta.negR LX).1,.int .i64 (Ta.negR LX).2,.int .i64 0]) (by simp[results,Tryz.results62,go_sem,z0,z1,z2,z3,z4,z5,z6]) rfl ?_;rw[<-hG2];exact Zew.good (B:=wb3.heap.size) (n:=n3) (c:=none) (c3:=0) (full:=XF) HN.out HO9.out hq hBR rfl HW9.out.wkN HF9.out (by show _=XF.take (XF.take TN).length;rw[HXl.out]) HY9.out (World.ownsRow_nil _ _ _ _) (.inr rfl) _ _ _ _ _ _ _ _ (by rw[HXl.out];rfl)
end Go.Proofs.YtlohljkfphljgaaGreat
