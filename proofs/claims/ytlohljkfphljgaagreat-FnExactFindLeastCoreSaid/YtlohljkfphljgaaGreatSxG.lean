/- The specification's SolveLP. -/
import Derived.Test.YtlohljkfphljgaaGreatSxF
import Derived.Test.YtlohljkfphljgaaGreatStA
import Derived.Test.YtlohljkfphljgaaGreatGLb
namespace Go.Proofs.YtlohljkfphljgaaGreat
open Go.RowKit
open Ve (R)
open Ta (T)
open Lp (P Res)
theorem Off.up {q:Nat} {F:World->Prop} {w w':World} (h:Off q F w) (hb:Below w.heap.size w w'):Off q F w':=
 ⟨h.2 w' hb.size fun k hk _=>hb.block k hk,fun w'' hs hk=>h.2 w'' (Nat.le_trans hb.size hs) fun k h1 h2=>(hk k (Nat.lt_of_lt_of_le h1 hb.size) h2).trans (hb.block k h1)⟩
theorem Zt4 {t:T} {w w':World} {e:Ending} (h:Zj0 t w e w') :
  ∃(a b:Option Addr) (c1 c2:Nat),e=.returned (.agg #[.slice a t.rows.length c1,.slice b t.basis.length c2,.int .i64 t.cols])/\(∀q,w'.heap.size≤q->Off q (fun w'=>Zc4 w'.heap.size w' a b t) w')/\Below w.heap.size w w':=by
 obtain⟨v,he,ho,hb⟩:=h;obtain⟨vR,vB,rfl,_,_⟩:=id ho;obtain⟨a,b,c1,c2,e1,e2,_,_⟩:=(Zkh.new ho).Zbe;subst e1 e2;exact⟨a,b,c1,c2,he,fun q hq=>(Off.Zwb (Zkh.new ho).rg (.inr hq)).mono fun w' h=>Zkd h.Zbe,hb⟩
def ApX (x y z:Value):Prop:=(∀g,x.ownBlock=some g->y.ownBlock≠some g/\z.ownBlock≠some g)/\∀g,y.ownBlock=some g->z.ownBlock≠some g
def Zbl (r:Res) (w:World) (e:Ending) (w':World):Prop:=
 (∃(a b c:Option Addr) (c1 c2 c3:Nat),e=.returned (resV a b c c1 c2 c3 r)/\Zaa w.heap.size w' (.slice a r.X.length c1) r.X/\Zaa w.heap.size w' (.slice b r.Y.length c2) r.Y/\Zaa w.heap.size w' (.slice c r.ray.length c3) r.ray/\ApX (.slice a r.X.length c1) (.slice b r.Y.length c2) (.slice c r.ray.length c3))/\Below w.heap.size w w'
theorem Zbu {B R:Nat} {w w':World} (h:Below B w w') (hR:B≤R) (y0 y1 y2 y3 y4 y5 y6:Value):Below B w (Zcg w' R y0 y1 y2 y3 y4 y5 y6):=
 ((((((h.setCell (p:=⟨R,0,none⟩) hR y0).setCell (p:=⟨R,1,none⟩) hR y1).setCell (p:=⟨R,2,none⟩) hR y2).setCell (p:=⟨R,3,none⟩) hR y3).setCell (p:=⟨R,4,none⟩) hR y4).setCell (p:=⟨R,5,none⟩) hR y5).setCell (p:=⟨R,6,none⟩) hR y6
theorem Zbv {B R':Nat} {w:World} {v:Value} {xs:List R} (h:Zaa B w v xs) (hR:R'<B) (y0 y1 y2 y3 y4 y5 y6:Value):Zaa B (Zcg w R' y0 y1 y2 y3 y4 y5 y6) v xs:=
 Zak h fun g hg=>Zf2 _ _ _ _ _ _ _ _ _ (by have:=(World.ownsRow.lt h g hg).1;omega)
theorem Zbl.bare {w w':World} (st:Int) (hb:Below w.heap.size w w'):Zbl ⟨st,[],[],[],Ta.noR,0⟩ w (.returned (.agg #[.int .i64 st,.slice none 0 0,.slice none 0 0,.slice none 0 0,.int .i64 0,.int .i64 0,.int .i64 0])) w':=
 ⟨⟨none,none,none,0,0,0,rfl,World.ownsRow_nil _ _ _ _,World.ownsRow_nil _ _ _ _,World.ownsRow_nil _ _ _ _,⟨fun g h=>by simp[Value.ownBlock] at h,fun g h=>by simp[Value.ownBlock] at h⟩⟩,hb⟩
theorem Zte {p:P} (h:Lp.vldP p=false):Ta.solve p=⟨0,[],[],[],Ta.noR,0⟩:=by unfold Ta.solve;rw[h];rfl
theorem Zlw {p:P} (h:Lp.vldP p=true) (h2:Ta.run1 p=none):Ta.solve p=⟨4,[],[],[],Ta.noR,0⟩:=by unfold Ta.solve;rw[h,h2];rfl
theorem Zjl {p:P} {r:Res} (h:Lp.vldP p=true) (h2:Ta.run1 p=some r) (h3:Lp.chk p r=false):Ta.solve p=⟨4,[],[],[],Ta.noR,0⟩:=by unfold Ta.solve;rw[h,h2];simp[h3]
theorem Zis {p:P} {r:Res} (h:Lp.vldP p=true) (h2:Ta.run1 p=some r) (h3:Lp.chk p r=true):Ta.solve p=r:=by unfold Ta.solve;rw[h,h2];simp[h3]
theorem Zpz {p:P} {r:Res} (hv:Lp.vldP p=true) (h:Ta.run1 p=some r):Zdp r:=by
 obtain⟨_,hC,hA,_,_,_⟩:=Lp.Zas hv
 rcases h1:Ta.ph (Ta.Zgf p) (Ta.start p,0) with _|⟨s1,c1,k1⟩
 ·rw[Zzb h1] at h;cases h
 ·by_cases hs:Ta.sgn (Ta.Zcr c1)<0
  ·rw[Zzc h1 hs] at h
   injection h with h
   subst h;refine Zoi ?_;simp[resN,Ta.Zc8];omega
  ·have hs':0≤Ta.sgn (Ta.Zcr c1):=by omega
   rcases h2:Ta.drive s1 p.A.length with _|s2
   ·rw[Zzd h1 hs' h2] at h;cases h
   ·rcases h3:Ta.ph (Ta.Zdq p) s2 with _|⟨s3,c3,k3⟩
    ·rw[Zze h1 hs' h2 h3] at h;cases h
    ·have hS3:=(Ta.Zgs (Ta.Zdy (Ta.Zgs (Ta.Zet hv) h1).1 h2) h3).1
     obtain⟨_,_,hc0,hc70,_⟩:=Zcs (t:=s3.1) (n:=s3.2) hv hS3;have hx:(Ta.xR s3.1).length≤70:=by unfold Ta.xR;rw[List.length_take];omega
     by_cases hk:0≤k3
     ·rw[Zzf h1 hs' h2 h3 hk] at h
      injection h with h
      subst h;refine Zoi ?_;simp only[resN,Ta.Zft,List.length_nil];omega
     ·rw[Zzg h1 hs' h2 h3 hk] at h
      injection h with h
      subst h;refine Zoi ?_;have hd:(Ta.Zc8 p c3 0).length=p.A.length:=by simp[Ta.Zc8]
      simp only[resN,hd,List.length_nil];omega
set_option maxRecDepth 100000 in
set_option maxHeartbeats 8000000 in
theorem Zp8 (a b c:Option Addr) (c1 c2 c3:Nat) (p:P) (hn:Zbs p) (w:World) (hz:LpIn w.heap.size w a b c p) (hO:∀q,w.heap.size≤q->Off q (fun w'=>LpIn w'.heap.size w' a b c p) w) :
  Calls Tryz.prog 11 #[.agg #[.slice a p.A.length c1,.slice b p.B.length c2,.slice c p.C.length c3]] w (Zbl (Ta.solve p) w):=by
 have hb0:=(Below.refl w.heap.size w).alloc (Nat.le_refl _) (.cells #[.slice a p.A.length c1,.slice b p.B.length c2,.slice c p.C.length c3] 28);have hb:=hb0.alloc (by rw[Zar];omega) (.cells #[.int .i64 0,.slice none 0 0,.slice none 0 0,.slice none 0 0,.int .i64 0,.int .i64 0,.int .i64 0] 33);have hx:=(Tri.new w (.slice a p.A.length c1) (.slice b p.B.length c2) (.slice c p.C.length c3) 28).more (.cells #[.int .i64 0,.slice none 0 0,.slice none 0 0,.slice none 0 0,.int .i64 0,.int .i64 0,.int .i64 0] 33);have hr:=Zac.new (w.alloc (.cells #[.slice a p.A.length c1,.slice b p.B.length c2,.slice c p.C.length c3] 28)) #[.int .i64 0,.slice none 0 0,.slice none 0 0,.slice none 0 0,.int .i64 0,.int .i64 0,.int .i64 0] 33;rw[Zar] at hr;have hs2:=Zjv w (.cells #[.slice a p.A.length c1,.slice b p.B.length c2,.slice c p.C.length c3] 28) (.cells #[.int .i64 0,.slice none 0 0,.slice none 0 0,.slice none 0 0,.int .i64 0,.int .i64 0,.int .i64 0] 33);obtain⟨SO,hSO⟩:∃SO,Ta.solve p=SO:=⟨_,rfl⟩;rw[hSO];have HSO:=zH hSO;have HN:=zH hn;have HZ:=zH (hz.below hb);have HOf:=zH hO;have HB0:=zH hb;have HX0:=zH hx;have HR0:=zH hr;have HS0:=zH hs2;clear hn hz hO hb0 hb hx hr hs2 hSO
 go_enter Tryz.func11,Tryz.ntmps11
 go_upto_region 1 with fail
 generalize hW:(w.alloc (.cells #[.slice a p.A.length c1,.slice b p.B.length c2,.slice c p.C.length c3] 28)).alloc (.cells #[.int .i64 0,.slice none 0 0,.slice none 0 0,.slice none 0 0,.int .i64 0,.int .i64 0,.int .i64 0] 33)=W at *;clear hW;obtain⟨x0,x1,x2,_⟩:=HX0.out.cells;obtain⟨g,hg⟩:∃g,Lp.vldP p=g:=⟨_,rfl⟩;have HG:=zH hg;have HIV:=zH (Zbq w.heap.size a b c c1 c2 c3 p HN.out W HB0.out.size HZ.out);rw[hg] at HIV;clear hg
 go_wp2_with fail
 refine HIV.out.mono ?_;rintro e w1 ⟨rfl,hb1⟩;have HB1:=zH (HB0.out.trans (hb1.mono HB0.out.size));have HX1:=zH (HX0.out.below hb1);have HR1:=zH (HR0.out.below hb1);have HZ1:=zH (HZ.out.below (hb1.mono HB0.out.size));have hs1:w.heap.size+2≤w1.heap.size:=by have:=hb1.size;have:=HS0.out;omega
 clear x0 x1 x2 HIV hb1 HB0 HX0 HR0 HZ HS0;cases g with
 | false=>
  have HE:Hid (SO=⟨0,[],[],[],Ta.noR,0⟩):=by show _=_;rw[<-HSO.out];exact Zte HG.out
  obtain⟨⟨b0,b1,b2,b3⟩,b4,b5,b6⟩:=sevC HR1.out;obtain⟨⟨e0,e1,e2,e3⟩,e4,e5,e6⟩:=sevF HR1.out
  go_wp2_with fail
  generalize hG:(World.setCell _ (⟨w.heap.size+1,6,none⟩:Addr) _)=WF;have hG2:Zcg w1 (w.heap.size+1) (.int .i64 0) (.slice none 0 0) (.slice none 0 0) (.slice none 0 0) (.int .i64 0) (.int .i64 0) (.int .i64 0)=WF:=hG;have hF:=Zbf HR1.out (.int .i64 0) (.slice none 0 0) (.slice none 0 0) (.slice none 0 0) (.int .i64 0) (.int .i64 0) (.int .i64 0);rw[hG2] at hF;obtain⟨⟨z0,z1,z2,z3⟩,z4,z5,z6⟩:=sevC hF;refine bodyPost_ret (v:=.agg #[.int .i64 0,.slice none 0 0,.slice none 0 0,.slice none 0 0,.int .i64 0,.int .i64 0,.int .i64 0]) (by simp[results,Tryz.results11,go_sem,z0,z1,z2,z3,z4,z5,z6]) rfl ?_;rw[<-hG2,HE.out];exact Zbl.bare 0 (Zbu HB1.out (Nat.le_succ _) _ _ _ _ _ _ _)
 | true=>
  obtain⟨x0,x1,x2,_⟩:=HX1.out.cells;have hx1:=Zab HX1.out;have HST:=zH (fun w' (hs:Since w1 w')=>Zjc w.heap.size a b c c1 c2 c3 p HN.out w' (Nat.le_trans HB1.out.size hs.low.size) (HZ1.out.below (hs.low.mono HB1.out.size)));obtain⟨T0,hT0⟩:∃T0,Ta.start p=T0:=⟨_,rfl⟩;rw[hT0] at HST;have HT0:=zH hT0;clear hT0;have Cell:=zH (fun w' (hs:Since w1 w')=>(show w'.cell? ⟨w.heap.size,0,none⟩=some (.slice a p.A.length c1)/\w'.cell? ⟨w.heap.size,1,none⟩=some (.slice b p.B.length c2)/\w'.cell? ⟨w.heap.size,2,none⟩=some (.slice c p.C.length c3)/\Since w1 w' from ⟨hs.cell hx1 x0,hs.cell hx1 x1,hs.cell hx1 x2,hs⟩));have hin0:=(Since.refl w1).drew
  go_upto_region 3 with fail
  refine Zaf (S:=(fun w'=>w'.cell? ⟨w.heap.size,0,none⟩=some (.slice a p.A.length c1)/\w'.cell? ⟨w.heap.size,1,none⟩=some (.slice b p.B.length c2)/\w'.cell? ⟨w.heap.size,2,none⟩=some (.slice c p.C.length c3)/\Since w1 w')) 4 (by kernel_rfl) ?_ (fun hHeld=>?_)
  ·exact Cell.out _ hin0
  refine tk2 0 ⟨some 9,_,28,_,_,none⟩ ?_;refine tk2 1 ⟨some 10,_,28,_,_,none⟩ ?_
  try simp only[Act.put,zA,zB,zC]
  refine rd2 2 ⟨some 11,_,39,_,_,none⟩ fun K hK=>?_
  go_simp
  (go_at_call 61;refine (HST.out _ hin0).mono ?_;rintro e w2 hm;obtain⟨a',b',c1',c2',rfl,hy,hb2⟩:=Zt4 hm;have hin2:=hin0.trans hb2)
  refine hK.out _ _ ?_ (fun hHeld=>?_)
  ·exact Cell.out _ hin2
  clear hK K;refine tk2 3 ⟨some 12,_,92,_,_,none⟩ ?_
  try simp only[Act.put,zA,zB,zC]
  refine rd3 4 ⟨some 13,_,90,_,_,none⟩ fun K hK=>?_
  go_simp
  refine hK.out _ _ ?_;clear hK K
  try simp only[Act.put,zA,zB,zC]
  refine rd3 5 ⟨some 3,_,90,_,_,none⟩ fun K hK=>?_
  go_simp
  refine hK.out _ _ ?_;clear hK K
  try simp only[Act.put,zA,zB,zC]
  refine Zal (by kernel_rfl) ?_ _;have hbw:=(Below.refl w2.heap.size w2).alloc (Nat.le_refl _) (.cells #[.slice a p.A.length c1,.slice b p.B.length c2,.slice c p.C.length c3,.slice a' T0.rows.length c1',.slice b' T0.basis.length c2',.int .i64 T0.cols,.int .i64 0,.bool false] 92);have hs2:=hin2.low.size;have hb12:=hin2.low.trans (hbw.mono hs2);have HB3:=zH (HB1.out.trans (hb12.mono HB1.out.size));have HX3:=zH (HX1.out.below hb12);have HR3:=zH (HR1.out.below hb12);have HZ3:=zH (HZ1.out.below (hb12.mono HB1.out.size));have HWk:Hid (Wk w2.heap.size (w2.alloc (.cells #[.slice a p.A.length c1,.slice b p.B.length c2,.slice c p.C.length c3,.slice a' T0.rows.length c1',.slice b' T0.basis.length c2',.int .i64 T0.cols,.int .i64 0,.bool false] 92)) p T0 0 false):=
   ⟨a,b,c,a',b',c1,c2,c3,c1',c2',Zac.new _ _ _,(HOf.out w2.heap.size (by omega)).up HB3.out,(hy w2.heap.size (Nat.le_refl _)).up hbw⟩
  have hq3:w.heap.size+2≤w2.heap.size:=by omega
  generalize w2.alloc (.cells #[.slice a p.A.length c1,.slice b p.B.length c2,.slice c p.C.length c3,.slice a' T0.rows.length c1',.slice b' T0.basis.length c2',.int .i64 T0.cols,.int .i64 0,.bool false] 92)=w3 at *;generalize w2.heap.size=q at *;rw[<-HT0.out] at HWk;obtain⟨RR,hRR⟩:∃RR,Ta.run1 p=RR:=⟨_,rfl⟩;have HRR:=zH hRR;have HSV:=zH (Zqb HWk.out HG.out);rw[hRR] at HSV;have hq5:=HWk.out.lt;have hl1:=Zab HX3.out;have hl2:=Zab HR3.out;clear hbw hs2 hb12 hs1 hin2 hin0 hy hb2 Cell HST HX1 HR1 HZ1 HB1 x0 x1 x2 hx1 hRR hm
  go_wp2_with fail
  refine HSV.out.mono ?_;rintro e w4 ⟨ho4,v,rfl,hm4⟩;have HX4:Hid (Tri w4 w.heap.size (.slice a p.A.length c1) (.slice b p.B.length c2) (.slice c p.C.length c3) 28):=(ho4.block (show w.heap.size≠q by omega) hl1).trans HX3.out;have HR4:Hid (Zac w4 (w.heap.size+1) #[.int .i64 0,.slice none 0 0,.slice none 0 0,.slice none 0 0,.int .i64 0,.int .i64 0,.int .i64 0] 33):=(ho4.block (show w.heap.size+1≠q by omega) hl2).trans HR3.out;have HB4:=zH (HB3.out.trans (ho4.low.mono (show w.heap.size≤q by omega)));have HZ4:=zH (HZ3.out.below (ho4.low.mono (show w.heap.size≤q by omega)));have hs4:=ho4.low.size;clear ho4 HX3 HR3 HB3 HZ3 HSV HWk hl1 hl2;cases RR with
  | none=>
   obtain⟨rfl,hbad⟩:=hm4;have HE:Hid (SO=⟨4,[],[],[],Ta.noR,0⟩):=by show _=_;rw[<-HSO.out];exact Zlw HG.out HRR.out
   obtain⟨y0,y1,y2,y3,l3,u3,y4,y5,m,k1⟩:=hbad;have hlq:=Zab k1;have hlr:=Zab HR4.out;have K6:=k1.more (.cells #[.int .i64 0,.slice none 0 0,.slice none 0 0,.slice none 0 0,.int .i64 0,.int .i64 0,.int .i64 m] 33);have R6:=HR4.out.more (.cells #[.int .i64 0,.slice none 0 0,.slice none 0 0,.slice none 0 0,.int .i64 0,.int .i64 0,.int .i64 m] 33);have B6:=HB4.out.alloc HB4.out.size (.cells #[.int .i64 0,.slice none 0 0,.slice none 0 0,.slice none 0 0,.int .i64 0,.int .i64 0,.int .i64 m] 33);have HK6:=zH K6;have HR6:=zH R6;have HB6:=zH B6;obtain⟨⟨d0,d1,d2⟩,⟨d3,d4,d5⟩,d6,d7⟩:=eight (k1.more (.cells #[.int .i64 0,.slice none 0 0,.slice none 0 0,.slice none 0 0,.int .i64 0,.int .i64 0,.int .i64 0] 33));clear K6 R6 B6 k1
   go_upto_region 6 with fail
   generalize w4.alloc (.cells #[.int .i64 0,.slice none 0 0,.slice none 0 0,.slice none 0 0,.int .i64 0,.int .i64 0,.int .i64 m] 33)=W6 at *;clear d0 d1 d2 d3 d4 d5 d6 d7;obtain⟨⟨d0,d1,d2⟩,⟨d3,d4,d5⟩,d6,d7⟩:=eight HK6.out;obtain⟨⟨b0,b1,b2,b3⟩,b4,b5,b6⟩:=sevC HR6.out;obtain⟨⟨e0,e1,e2,e3⟩,e4,e5,e6⟩:=sevF HR6.out
   go_wp2_with fail
   generalize hG:(World.setCell _ (⟨w.heap.size+1,6,none⟩:Addr) _)=WF;have hG2:Zcg W6 (w.heap.size+1) (.int .i64 4) (.slice none 0 0) (.slice none 0 0) (.slice none 0 0) (.int .i64 0) (.int .i64 0) (.int .i64 0)=WF:=hG;have hF:=Zbf HR6.out (.int .i64 4) (.slice none 0 0) (.slice none 0 0) (.slice none 0 0) (.int .i64 0) (.int .i64 0) (.int .i64 0);rw[hG2] at hF;obtain⟨⟨z0,z1,z2,z3⟩,z4,z5,z6⟩:=sevC hF;refine bodyPost_ret (v:=.agg #[.int .i64 4,.slice none 0 0,.slice none 0 0,.slice none 0 0,.int .i64 0,.int .i64 0,.int .i64 0]) (by simp[results,Tryz.results11,go_sem,z0,z1,z2,z3,z4,z5,z6]) rfl ?_;rw[<-hG2,HE.out];exact Zbl.bare 4 (Zbu HB6.out (Nat.le_succ _) _ _ _ _ _ _ _)
  | some r=>
   obtain⟨aX,aY,aZ,k1,k2,k3,n,hv,hp,hn,hX,hY,hZ,hbc⟩:=hm4;have HBC:=zH hbc;clear hbc;have hfit:=Zpz HG.out HRR.out;obtain⟨st,X,Y,Z,⟨nu,de⟩,pv⟩:=r;simp only at hv hp hX hY hZ;subst hp hv;obtain⟨y0,y1,y2,y3,y4,y5,q1⟩:=hn;have hlq:=Zab q1;have hlr:=Zab HR4.out;have HK6:=zH (q1.more (.cells #[.int .i64 st,.slice aX X.length k1,.slice aY Y.length k2,.slice aZ Z.length k3,.int .i64 nu,.int .i64 de,.int .i64 n] 33));have HR6:=zH (HR4.out.more (.cells #[.int .i64 st,.slice aX X.length k1,.slice aY Y.length k2,.slice aZ Z.length k3,.int .i64 nu,.int .i64 de,.int .i64 n] 33));have HX6:=zH (HX4.out.more (.cells #[.int .i64 st,.slice aX X.length k1,.slice aY Y.length k2,.slice aZ Z.length k3,.int .i64 nu,.int .i64 de,.int .i64 n] 33));have hbw:=(Below.refl w4.heap.size w4).alloc (Nat.le_refl _) (.cells #[.int .i64 st,.slice aX X.length k1,.slice aY Y.length k2,.slice aZ Z.length k3,.int .i64 nu,.int .i64 de,.int .i64 n] 33);have HB6:=zH (HB4.out.trans (hbw.mono HB4.out.size));have HN6:=zH (Zac.new w4 #[.int .i64 st,.slice aX X.length k1,.slice aY Y.length k2,.slice aZ Z.length k3,.int .i64 nu,.int .i64 de,.int .i64 n] 33);have HZ6:=zH ((HZ4.out.below (hbw.mono HB4.out.size)).mono (Nat.le_trans HB4.out.size hbw.size));obtain⟨_,_,eY,rY,_,_⟩:=Zai hY;injection eY with eY eY2 eY3
   clear eY2 eY3;obtain⟨_,_,eZ,rZ,_,_⟩:=Zai hZ;injection eZ with eZ eZ2 eZ3
   clear eZ2 eZ3;subst eY eZ;have HI6:Hid (Zej (w4.alloc (.cells #[.int .i64 st,.slice aX X.length k1,.slice aY Y.length k2,.slice aZ Z.length k3,.int .i64 nu,.int .i64 de,.int .i64 n] 33)).heap.size (w4.alloc (.cells #[.int .i64 st,.slice aX X.length k1,.slice aY Y.length k2,.slice aZ Z.length k3,.int .i64 nu,.int .i64 de,.int .i64 n] 33)) aX aY aZ ⟨st,X,Y,Z,(nu,de),n⟩):=⟨(hX.below hbw).mono hbw.size,(rY.below hbw).mono hbw.size,(rZ.below hbw).mono hbw.size⟩;have HY6:=zH (Zaa.below hY hbw);have HZZ6:=zH (Zaa.below hZ hbw);have HFT:=zH hfit;have HYb:=zH (fun g hg=>(World.ownsRow.lt hY g hg).2);have HZb:=zH (fun g hg=>(World.ownsRow.lt hZ g hg).2);obtain⟨⟨d0,d1,d2⟩,⟨d3,d4,d5⟩,d6,d7⟩:=eight (q1.more (.cells #[.int .i64 st,.slice aX X.length k1,.slice aY Y.length k2,.slice aZ Z.length k3,.int .i64 nu,.int .i64 de,.int .i64 0] 33));have hq4:w.heap.size+2≤w4.heap.size:=by omega
   have hw6:w4.heap.size<(w4.alloc (.cells #[.int .i64 st,.slice aX X.length k1,.slice aY Y.length k2,.slice aZ Z.length k3,.int .i64 nu,.int .i64 de,.int .i64 n] 33)).heap.size:=Zab HN6.out;have Hw6:=zH hw6;clear q1 hbw hX hY hZ rY rZ hfit hw6
   go_upto_region 6 with fail
   generalize w4.alloc (.cells #[.int .i64 st,.slice aX X.length k1,.slice aY Y.length k2,.slice aZ Z.length k3,.int .i64 nu,.int .i64 de,.int .i64 n] 33)=W6 at *;clear d0 d1 d2 d3 d4 d5 d6 d7;obtain⟨⟨d0,d1,d2⟩,⟨d3,d4,d5⟩,d6,d7⟩:=eight HK6.out;obtain⟨x0,x1,x2,_⟩:=HX6.out.cells;obtain⟨⟨r0,r1,r2,r3⟩,r4,r5,r6⟩:=sevC HN6.out;obtain⟨g2,hg2⟩:∃g2,Lp.chk p ⟨st,X,Y,Z,(nu,de),n⟩=g2:=⟨_,rfl⟩;have HG2:=zH hg2;have HCK:=zH (Zp4 W6.heap.size a b c aX aY aZ c1 c2 c3 k1 k2 k3 p ⟨st,X,Y,Z,(nu,de),n⟩ HN.out HFT.out g2 hg2 W6 (Nat.le_refl _) HZ6.out HI6.out);rw[show resV aX aY aZ k1 k2 k3 ⟨st,X,Y,Z,(nu,de),n⟩=.agg #[.int .i64 st,.slice aX X.length k1,.slice aY Y.length k2,.slice aZ Z.length k3,.int .i64 nu,.int .i64 de,.int .i64 n] from rfl] at HCK;clear hg2
   go_wp2_with fail
   refine HCK.out.mono ?_;rintro e w7 ⟨rfl,hb7⟩;have HB7:=zH (HB6.out.trans (hb7.mono HB6.out.size));have HR7:=zH (HR6.out.below hb7);have HN7:=zH (HN6.out.below hb7);have HX7:=zH ((HI6.out.mX.below hb7).mono hb7.size);have HY7:=zH (Zaa.below HY6.out hb7);have HZ7:=zH (Zaa.below HZZ6.out hb7);have Hw7:=zH (Nat.lt_of_lt_of_le Hw6.out hb7.size);clear d0 d1 d2 d3 d4 d5 d6 d7 x0 x1 x2 r0 r1 r2 r3 r4 r5 r6 hb7 HB6 HR6 HN6 HI6 HY6 HZZ6 HCK HK6 HX6 HZ6 Hw6;obtain⟨⟨b0,b1,b2,b3⟩,b4,b5,b6⟩:=sevC HR7.out;obtain⟨⟨e0,e1,e2,e3⟩,e4,e5,e6⟩:=sevF HR7.out;cases g2 with
   | false=>
    have HE:Hid (SO=⟨4,[],[],[],Ta.noR,0⟩):=by show _=_;rw[<-HSO.out];exact Zjl HG.out HRR.out HG2.out
    go_wp2_with fail
    generalize hG:(World.setCell _ (⟨w.heap.size+1,6,none⟩:Addr) _)=WF;have hG2:Zcg w7 (w.heap.size+1) (.int .i64 4) (.slice none 0 0) (.slice none 0 0) (.slice none 0 0) (.int .i64 0) (.int .i64 0) (.int .i64 0)=WF:=hG;have hF:=Zbf HR7.out (.int .i64 4) (.slice none 0 0) (.slice none 0 0) (.slice none 0 0) (.int .i64 0) (.int .i64 0) (.int .i64 0);rw[hG2] at hF;obtain⟨⟨z0,z1,z2,z3⟩,z4,z5,z6⟩:=sevC hF;refine bodyPost_ret (v:=.agg #[.int .i64 4,.slice none 0 0,.slice none 0 0,.slice none 0 0,.int .i64 0,.int .i64 0,.int .i64 0]) (by simp[results,Tryz.results11,go_sem,z0,z1,z2,z3,z4,z5,z6]) rfl ?_;rw[<-hG2,HE.out];exact Zbl.bare 4 (Zbu HB7.out (Nat.le_succ _) _ _ _ _ _ _ _)
   | true=>
    have HE:Hid (SO=⟨st,X,Y,Z,(nu,de),n⟩):=by show _=_;rw[<-HSO.out];exact Zis HG.out HRR.out HG2.out
    have HCP:=zH (Zhw w7.heap.size aX k1 X (by have:=HFT.out.X;simp only at this;omega) w7 (Nat.le_refl _) HX7.out);obtain⟨⟨r0,r1,r2,r3⟩,r4,r5,r6⟩:=sevC HN7.out;clear b0 b1 b2 b3 b4 b5 b6 e0 e1 e2 e3 e4 e5 e6
    go_wp2_with fail
    refine HCP.out.mono ?_;rintro e w8 ⟨v,rfl,ho8,hb8⟩;obtain⟨ax,cx,rfl⟩:=Zbb ho8;have HN8:=zH (HN7.out.below hb8);have HR8:=zH (HR7.out.below hb8);have HB8:=zH (HB7.out.trans (hb8.mono HB7.out.size));have HY8:=zH (Zaa.below HY7.out hb8);have HZ8:=zH (Zaa.below HZ7.out hb8);have HX8:=zH ho8;have hlr8:=Zab HN8.out;have hne:w4.heap.size≠w.heap.size+1:=by omega
    have hN9:(Zac (w8.setCell ⟨w4.heap.size,1,none⟩ (.slice ax X.length cx)) w4.heap.size #[.int .i64 st,.slice ax X.length cx,.slice aY Y.length k2,.slice aZ Z.length k3,.int .i64 nu,.int .i64 de,.int .i64 n] 33):=by
     have:=HN8.out.set 1 (.slice ax X.length cx)
     simpa using this
    have HN9:=zH hN9;clear hN9;have HR9:=zH (HR8.out.other (p:=⟨w4.heap.size,1,none⟩) hne (.slice ax X.length cx));have HB9:=zH (HB8.out.setCell (p:=⟨w4.heap.size,1,none⟩) (show w.heap.size≤w4.heap.size by omega) (.slice ax X.length cx));have HX9:Hid (Zaa w7.heap.size (w8.setCell ⟨w4.heap.size,1,none⟩ (.slice ax X.length cx)) (.slice ax X.length cx) X):=Zao HX8.out (fun e=>by have h1:=(World.ownsRow.lt HX8.out _ e).1;have h2:=Hw7.out;omega);have HY9:Hid (Zaa w3.heap.size (w8.setCell ⟨w4.heap.size,1,none⟩ (.slice ax X.length cx)) (.slice aY Y.length k2) Y):=Zao HY8.out (fun e=>by have h1:=HYb.out _ e;omega);have HZ9:Hid (Zaa w3.heap.size (w8.setCell ⟨w4.heap.size,1,none⟩ (.slice ax X.length cx)) (.slice aZ Z.length k3) Z):=Zao HZ8.out (fun e=>by have h1:=HZb.out _ e;omega);have hf1:w8.frozen? ⟨w4.heap.size,1,none⟩=false:=HN8.out.free 1;have hc1:w8.cell? ⟨w4.heap.size,1,none⟩=some (.slice aX X.length k1):=HN8.out.cell 1;clear r0 r1 r2 r3 r4 r5 r6 ho8 hb8 HN8 HR8 HB8 HX8 HY8 HZ8 HCP hlr8
    go_upto_region 9 with fail
    generalize w8.setCell ⟨w4.heap.size,1,none⟩ (.slice ax X.length cx)=W9 at *;clear hf1 hc1;obtain⟨⟨r0,r1,r2,r3⟩,r4,r5,r6⟩:=sevC HN9.out;obtain⟨⟨b0,b1,b2,b3⟩,b4,b5,b6⟩:=sevC HR9.out;obtain⟨⟨e0,e1,e2,e3⟩,e4,e5,e6⟩:=sevF HR9.out
    go_wp2_with fail
    generalize hG:(World.setCell _ (⟨w.heap.size+1,6,none⟩:Addr) _)=WF;have hG2:Zcg W9 (w.heap.size+1) (.int .i64 st) (.slice ax X.length cx) (.slice aY Y.length k2) (.slice aZ Z.length k3) (.int .i64 nu) (.int .i64 de) (.int .i64 n)=WF:=hG;have hF:=Zbf HR9.out (.int .i64 st) (.slice ax X.length cx) (.slice aY Y.length k2) (.slice aZ Z.length k3) (.int .i64 nu) (.int .i64 de) (.int .i64 n);rw[hG2] at hF;obtain⟨⟨z0,z1,z2,z3⟩,z4,z5,z6⟩:=sevC hF;refine bodyPost_ret (v:=.agg #[.int .i64 st,.slice ax X.length cx,.slice aY Y.length k2,.slice aZ Z.length k3,.int .i64 nu,.int .i64 de,.int .i64 n]) (by simp[results,Tryz.results11,go_sem,z0,z1,z2,z3,z4,z5,z6]) rfl ?_;rw[<-hG2,HE.out];have hw7:=Hw7.out;have hap:ApX (.slice ax X.length cx) (.slice aY Y.length k2) (.slice aZ Z.length k3):=⟨fun g h=>⟨fun e=>by have h1:=(World.ownsRow.lt HX9.out g h).1;have h2:=HYb.out g e;omega,fun e=>by have h1:=(World.ownsRow.lt HX9.out g h).1;have h2:=HZb.out g e;omega⟩,fun g h e=>by
     rcases HBC.out with h0|h0
     ·rw[h0] at h;simp[Value.ownBlock] at h
     ·rw[h0] at e;simp[Value.ownBlock] at e⟩
    exact⟨⟨ax,aY,aZ,cx,k2,k3,rfl,(Zbv HX9.out (by omega) _ _ _ _ _ _ _).lower (by omega),(Zbv HY9.out (by omega) _ _ _ _ _ _ _).lower (by omega),(Zbv HZ9.out (by omega) _ _ _ _ _ _ _).lower (by omega),hap⟩,Zbu HB9.out (Nat.le_succ _) _ _ _ _ _ _ _⟩
end Go.Proofs.YtlohljkfphljgaaGreat
