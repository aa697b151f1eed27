/- impl: minimize. -/
import Derived.Test.YtlohljkfphljgaaGreatGSy
import Derived.Test.YtlohljkfphljgaaGreatGSx
import Derived.Test.YtlohljkfphljgaaGreatTaN
import Derived.Test.YtlohljkfphljgaaGreatGTo
import Derived.Test.YtlohljkfphljgaaGreatGSx
import Derived.ScopeJumps
import Derived.WalkMore
import Derived.Deep.RegionHeld3
namespace Go.Proofs.YtlohljkfphljgaaGreat
open Go.RowKit
open Ve (R)
open Ta (T)
open Lp (P Res)
theorem Zyz {lo q c:Nat} {w:World} {a:Option Addr} {xs:List R} (h:Zaa lo w (.slice a xs.length c) xs) (hq:q<lo):Off q (fun w'=>Zah w'.heap.size w' a xs) w:=by
 obtain⟨a',c',e,hr,hb,_⟩:=Zai h;injection e with e1 e2 e3
 subst e1 e3;exact⟨hr,fun w' hs hk=>(hr.same fun p hp hlt=>hk p.block hlt (by have:=(hb p hp).1;omega)).mono hs⟩
theorem Sk.piv {q:Nat} {w:World} {p:P} {t:T} {n:Nat} (h:Sk q w p t n):pivN q w=n:=by
 obtain⟨_,_,_,_,_,_,_,_,_,_,h1,_⟩:=h;obtain⟨_,_,_,d6⟩:=sevC h1;unfold pivN;rw[d6];simp
theorem Zuj {P:Program} {a:Act} {w:World} {Q:Exit->Act->World->Prop} {c y:Code} (l:Nat) (J:Act->World->Prop) (μ:Act->World->Nat) (hf:findLabel c l=some (.seq .skip y))
  (pre:∀Q',(∀a w,J a w->y.wp P Q' a w)->c.wp P Q' a w)
  (pass:∀a w,J a w->y.wp P (Exit.jump l (fun a' w'=>J a' w'/\μ a' w'<μ a w) Q) a w):(Code.scope c).wp P Q a w:=
 Go.wp_scope_jumps l J μ hf (pre _ fun a w h=>Code.wp_mono (fun e a w h=>by
  cases e with
  | goto l'=>exact⟨h.1,h.2.1⟩
  | _=>exact h) (pass a w h)) fun a w h=>Go.wp_seq (Go.wp_skip (pass a w h))
def Zuq (q:Nat) (p:P) (RR:Option ((T×Nat)×List R×Int)) (w:World) (e:Ending) (w':World):Prop:=
 ∃(a:Option Addr) (l c:Nat) (col:Int) (b:Bool),e=.returned (.tuple #[.slice a l c,.int .i64 col,.bool b])/\Only q w w'/\(b=false->RR=none)/\(b=true->∃s cs,RR=some (s,cs,col)/\l=cs.length/\Sk q w' p s.1 s.2/\Zah w'.heap.size w' a cs)/\w'.cell? ⟨q,5,none⟩=some (.int .i64 p.C.length)
set_option maxRecDepth 100000 in
set_option maxHeartbeats 8000000 in
theorem Zid {q:Nat} {w:World} {p:P} {t:T} {n:Nat} (h:Sk q w p t n) (hv:Lp.vldP p=true) (hS:Ta.Same p (t,n)) (ad:Option Addr) (cc:Nat) (cost:List R) (hcl:cost.length≤100) (hk:Zah w.heap.size w ad cost) (x:R) :
  Calls Tryz.prog 129 #[.pointer (some ⟨q,0,none⟩),.slice ad cost.length cc,.agg #[.int .i64 x.1,.int .i64 x.2]] w (Zuq q p (Ta.ph (cost++repR x t.rows.length) (t,n)) w):=by
 obtain⟨full,hfull⟩:∃full,cost++repR x t.rows.length=full:=⟨_,rfl⟩;rw[hfull];obtain⟨RR,hRR⟩:∃RR,Ta.ph full (t,n)=RR:=⟨_,rfl⟩;rw[hRR];have hq:=h.lt;have hfits:=Zcs hv hS;have hr8:=hfits.2.1;have H:=zH h;have HS:=zH hS;have HR:=zH hRR;have HK:=zH hk;have HV:=zH hv;have HF:=zH hfull;obtain⟨FL,hFL⟩:∃FL,full.length=FL:=⟨_,rfl⟩;have HFL:=zH hFL;have hFl2:FL≤200:=by rw[<-hFL,<-hfull,List.length_append];simp[repR];omega
 have HFl2:=zH hFl2;clear hRR hfull hFL hfits hv hS hFl2
 go_enter Tryz.func129,Tryz.ntmps129
 go_wp2_with fail
 refine Zuj 0 (fun a' w'=>∃(t':T) (n':Nat) (a9:Option Addr) (c9:Nat) (u1 u2 u3 u4 u5 u6 u7 u8 u10 u11 u12 u13 u14 u15 u16 u17 u18 u19 u20 u21 u22 u23 u24 u25 u26 u27 u28 u29 u30 u31 u32 u33 u34 u35 u36 u37 u38 u39 u40 u41 u42 u43 u44 u45 u46 u47 u48 u49 u50 u51 u52 u53 u54 u55 u56 u57 u58 u59 u60 u61:Value),a' = { tmps:=#[.pointer (some ⟨q,0,none⟩),u1,u2,u3,u4,u5,u6,u7,u8,.slice a9 FL c9,u10,u11,u12,u13,u14,u15,u16,u17,u18,u19,u20,u21,u22,u23,u24,u25,u26,u27,u28,u29,u30,u31,u32,u33,u34,u35,u36,u37,u38,u39,u40,u41,u42,u43,u44,u45,u46,u47,u48,u49,u50,u51,u52,u53,u54,u55,u56,u57,u58,u59,u60,u61],defers:=[] }/\Hid (Ta.Same p (t',n'))/\Hid (Sk q w' p t' n')/\Hid (Only q w w')/\Hid (Ta.ph full (t',n')=RR)/\Hid (Off q (fun w''=>Zah w''.heap.size w'' a9 full) w')) (fun _ wr=>1001-pivN q wr) rfl ?_ ?_
 ·intro Q' hr
  have Hr:=zH hr;clear hr;have Hb:=zH ((Below.refl w.heap.size w).alloc (Nat.le_refl _) (.cells #[.int .i64 x.1,.int .i64 x.2] 31));have HA:=zH (Zac.new w #[.int .i64 x.1,.int .i64 x.2] 31);have H0:=zH (h.only Hb.out);have HK0:=zH (HK.out.below Hb.out);obtain⟨RL,hRL⟩:∃RL,t.rows.length=RL:=⟨_,rfl⟩;obtain⟨aA,aB,aC,a,b,cA,cB,cC,c1,c2,h1,_⟩:=H0.out;rw[hRL] at h1;have hr8':RL≤8:=by rw[<-hRL];exact hr8
  have HFq:=HF.out;rw[hRL] at HFq;have HFF:=zH HFq;obtain⟨⟨_,_,_,d3⟩,_⟩:=sevC h1;have hqr:=Zab h1;obtain⟨y0,y1,_,_⟩:=twoc HA.out;obtain⟨CL,hCL⟩:∃CL,cost.length=CL:=⟨_,rfl⟩;have HCL:=zH hCL;have hcl2:CL≤100:=by omega
  have h2b:w.heap.size<(w.alloc (.cells #[.int .i64 x.1,.int .i64 x.2] 31)).heap.size:=Zab HA.out;have HSz:=zH (show (w.alloc (.cells #[.int .i64 x.1,.int .i64 x.2] 31)).heap.size=w.heap.size+1 from Zar _ _);rw[hCL];have Cell:=zH (fun w' (hs:Since (w.alloc (.cells #[.int .i64 x.1,.int .i64 x.2] 31)) w')=>(show w'.cell? ⟨q,3,none⟩=some (.slice a RL c1)/\w'.cell? ⟨w.heap.size,0,none⟩=some (.int .i64 x.1)/\w'.cell? ⟨w.heap.size,1,none⟩=some (.int .i64 x.2)/\Since (w.alloc (.cells #[.int .i64 x.1,.int .i64 x.2] 31)) w' from ⟨hs.cell hqr d3,hs.cell h2b y0,hs.cell h2b y1,hs⟩));have hs0:=(Since.refl (w.alloc (.cells #[.int .i64 x.1,.int .i64 x.2] 31))).drew;clear h h1 hcl hk hRL hCL hr8 HFq d3 y0 y1
  go_upto_region 1 with fail
  generalize (w.alloc (.cells #[.int .i64 x.1,.int .i64 x.2] 31))=w0 at *;refine wp_region_noPanic ?_;refine Zaf (S:=(fun w'=>w'.cell? ⟨q,3,none⟩=some (.slice a RL c1)/\w'.cell? ⟨w.heap.size,0,none⟩=some (.int .i64 x.1)/\w'.cell? ⟨w.heap.size,1,none⟩=some (.int .i64 x.2)/\Since w0 w')) 12 (by kernel_rfl) ?_ (fun hHeld=>?_)
  ·exact Cell.out _ hs0
  refine tk2 0 ⟨some 14,_,26,_,_,none⟩ ?_;refine tk2 1 ⟨some 15,_,31,_,_,none⟩ ?_;refine tk2 3 ⟨some 17,_,156,_,_,none⟩ ?_;refine tk2 4 ⟨some 18,_,0,_,_,none⟩ ?_;refine tk2 5 ⟨some 19,_,0,_,_,none⟩ ?_;refine tk2 6 ⟨some 20,_,0,_,_,none⟩ ?_;refine tk2 7 ⟨some 21,_,37,_,_,none⟩ ?_;refine tk2 8 ⟨some 22,_,3,_,_,none⟩ ?_
  try simp only[Act.put,zA,zB,zC]
  refine rd2 2 ⟨some 16,_,26,_,_,none⟩ fun K hK=>?_
  go_simp
  (have hs1:=hs0.alloc (.cells #[.int .i64 x.1,.int .i64 x.2] 31);have HA1:=zH (Zac.new w0.drew #[.int .i64 x.1,.int .i64 x.2] 31))
  refine hK.out _ _ ?_ (fun hHeld=>?_)
  ·exact Cell.out _ hs1
  clear hK K
  try simp only[Act.put,zA,zB,zC]
  refine rd2 9 ⟨some 23,_,26,_,_,none⟩ fun K hK=>?_
  go_simp
  (obtain⟨z0,z1,_,_⟩:=twoc HA1.out;refine (Ziq x RL w0.heap.size 1 (by omega) _ (Zab HA1.out) z0 z1).mono ?_;rintro e w3 ⟨v3,rfl,ho3,k3⟩;clear z0 z1;obtain⟨av,cv,rfl,hrd3,_,_⟩:=Zai ho3;have hs3:=hs1.trans k3;clear k3;have hlr:(repR x RL).length=RL:=by simp[repR])
  refine hK.out _ _ ?_ (fun hHeld=>?_)
  ·exact Cell.out _ hs3
  clear hK K
  try simp only[Act.put,zA,zB,zC]
  have hM:=Ztl (c:=cc) (d:=cv) (Nat.le_refl w3.heap.size) ((HK0.out.below (hs3.low.mono (by omega))).mono (by have:=hs3.low.size;omega)) hrd3;have HCc:=zH (Zio (w3.heap.size+1) (some ⟨w3.heap.size,0,none⟩) 2 [cost,repR x RL] (by simp) (by simp only[Zb4];have:=HCL.out;omega) (w3.alloc (.cells #[.slice ad cost.length cc,.slice av (repR x RL).length cv] 26)) (by rw[Zar];omega) hM);rw[show [cost,repR x RL].flatten=full by simp[HFF.out],HCL.out,hlr,show [cost,repR x RL].length=2 from rfl] at HCc;clear hM;refine rd2 10 ⟨some 24,_,37,_,_,none⟩ fun K hK=>?_
  go_simp
  (have hs4:=hs3.alloc (.cells #[.slice ad CL cc,.slice av RL cv] 26))
  refine hK.out _ _ ?_ (fun hHeld=>?_)
  ·exact Cell.out _ hs4
  clear hK K
  try simp only[Act.put,zA,zB,zC]
  refine rd2 11 ⟨some 25,_,26,_,_,none⟩ fun K hK=>?_
  go_simp
  (refine HCc.out.mono ?_;rintro e w5 ⟨v5,rfl,ho5,k5⟩;have hs5:=hs4.trans k5;clear k5;obtain⟨a9,c9,rfl⟩:=Zbb ho5)
  refine hK.out _ _ ?_ (fun hHeld=>?_)
  ·exact Cell.out _ hs5
  clear hK K
  try simp only[Act.put,zA,zB,zC]
  refine rd3 12 ⟨some 9,_,26,_,_,none⟩ fun K hK=>?_
  go_simp
  refine hK.out _ _ ?_;clear hK K
  try simp only[Act.put,zA,zB,zC]
  refine Zal (by kernel_rfl) ?_ _;refine NoPanic.normal ?_;rw[HFL.out];have hB5:=Hb.out.trans (hs5.low.mono Hb.out.size);have hq4:q<(w3.alloc (.cells #[.slice ad CL cc,.slice av RL cv] 26)).heap.size:=by have:=hs4.low.size;omega
  have hOf:=Zyz ho5 hq4
  go_wp2_with fail
  refine Go.wp_label ?_;simp only[Exit.then];refine (?hk:∀(a:Act) (w:World),Code.wp Tryz.prog ?yy ?QQ a w->(?KK:Act->World->Prop) a w) _ _ ?go
  case hk=>assumption
  case go=>exact Hr.out _ _ ⟨t,n,a9,c9,_,_,_,_,_,_,_,_,_,_,_,_,_,_,_,_,_,_,_,_,_,_,_,_,_,_,_,_,_,_,_,_,_,_,_,_,_,_,_,_,_,_,_,_,_,_,_,_,_,_,_,_,_,_,_,_,_,_,_,_,rfl,HS,H.out.only hB5,Zaz hB5 (Nat.le_of_lt hq),HR,hOf⟩
 ·rintro a' wr ⟨t',n',a9,c9,u1,u2,u3,u4,u5,u6,u7,u8,u10,u11,u12,u13,u14,u15,u16,u17,u18,u19,u20,u21,u22,u23,u24,u25,u26,u27,u28,u29,u30,u31,u32,u33,u34,u35,u36,u37,u38,u39,u40,u41,u42,u43,u44,u45,u46,u47,u48,u49,u50,u51,u52,u53,u54,u55,u56,u57,u58,u59,u60,u61,rfl,hS,hW,hO,hE,hF⟩
  clear HK HR HS H HF h hcl hk hr8;obtain⟨aA,aB,aC,a,b,cA,cB,cC,c1,c2,h1,h2,h3,h4⟩:=hW.out;have hqr:=Zab h1;have hkr:=hF.out;obtain⟨hft,hr8,hc0,hc70,hn1⟩:=Zcs HV.out hS.out;have HCR:=zH (Zpd wr.heap.size a b a9 c1 c2 c9 t' full hft (by have:=HFL.out;have:=HFl2.out;omega) wr (Nat.le_refl _) h3.1 hkr.1);rw[HFL.out,show tabV a b c1 c2 t'=.agg #[.slice a t'.rows.length c1,.slice b t'.basis.length c2,.int .i64 t'.cols] from rfl] at HCR;obtain⟨K,hK⟩:∃K,Ta.Zco t' full=K:=⟨_,rfl⟩;obtain⟨CS,hCS⟩:∃CS,Ta.Zdm t' full=CS:=⟨_,rfl⟩;obtain⟨RL,hRL⟩:∃RL,t'.rows.length=RL:=⟨_,rfl⟩;obtain⟨BL,hBL⟩:∃BL,t'.basis.length=BL:=⟨_,rfl⟩;rw[hK,hCS,hRL,hBL] at HCR;have HCC:=zH (show t'.cols=p.C.length from hS.out.2.2.1);have HFT:=zH hft;have HHK:=zH hK;have HCS:=zH hCS;have HRL:=zH hRL;have HBL:=zH hBL;have H1:=zH h1;have H3:=zH h3;rw[hRL,hBL] at H1;rw[hRL,hBL] at h1;rw[hRL] at hr8;obtain⟨⟨d0,d1,d2,d3⟩,d4,d5,d6⟩:=sevC h1;have HOF:=hF;clear h1 h2 h3 h4 hft hK hCS hRL hBL hkr hF
  go_wp2_with fail
  refine HCR.out.mono ?_;rintro e w1 ⟨v,rfl,ho,hb1⟩;obtain⟨av,cv,rfl,hrd,_,_⟩:=Zai ho;have C1:=H1.out.below hb1;have HO1:=zH (hO.out.trans (Zaz hb1 (Nat.le_of_lt hqr)));have HB1:=zH hb1;have HRD:=zH hrd;obtain⟨XL,hXL⟩:∃XL,CS.length=XL:=⟨_,rfl⟩;have HXL:=zH hXL;rw[hXL];clear d0 d1 d2 d3 d4 d5 d6 ho hrd hb1 hXL HCR;obtain⟨⟨d0,d1,d2,d3⟩,d4,d5,d6⟩:=sevC C1;have HC1:=zH C1;clear C1;cases K with
  | false=>
   have HN:Hid (RR=none):=by show _=_;rw[<-hE.out];exact Ta.Z0g HHK.out
   go_wp2_with fail
   simp only[Exit.jump]
   go_ret3
   exact⟨_,_,_,_,false,rfl,HO1.out,fun _=>HN.out,(fun h=>by cases h),by rw[<-HCC.out];exact HC1.out.cell 5⟩
  | true=>
   have hlen:CS.length≤1048576:=by
    have:=Ta.Zbj HHK.out;rw[HCS.out,HRL.out] at this;omega
   obtain⟨EC,hEC⟩:∃EC,Ta.entR CS t'.cols=EC:=⟨_,rfl⟩;have hEC2:Ta.entC t' full=EC:=by rw[<-hEC,<-HCS.out];rfl
   have hr1:=Zm0 CS t'.cols;rw[hEC] at hr1;have hwc:(Lit.int .i64 t'.cols).wf=true:=HFT.out.cols;have HEN:=zH (fun (w':World) (hs:Since w1 w')=>(show Calls Tryz.prog 15 #[.agg #[.slice a RL c1,.slice b BL c2,.int .i64 t'.cols],.slice av XL cv,.int .i64 t'.cols] w' (fun e w''=>e=.returned (.int .i64 EC)/\Below w'.heap.size w' w'') by
    have:=Zhn w1.heap.size a b av c1 c2 cv t' CS t'.cols hwc hlen w' hs.low.size (HRD.out.below hs.low);rw[hEC,HXL.out,show tabV a b c1 c2 t'=.agg #[.slice a t'.rows.length c1,.slice b t'.basis.length c2,.int .i64 t'.cols] from rfl,HRL.out,HBL.out] at this;exact this))
   have hin:=(Since.refl w1).drew;have hqw:=Zab HC1.out;have Cell:=zH (fun w' (hs:Since w1 w')=>(show w'.cell? ⟨q,3,none⟩=some (.slice a RL c1)/\w'.cell? ⟨q,4,none⟩=some (.slice b BL c2)/\w'.cell? ⟨q,5,none⟩=some (.int .i64 t'.cols)/\Since w1 w' from ⟨hs.cell hqw d3,hs.cell hqw d4,hs.cell hqw d5,hs⟩));have HEC2:=zH hEC2;have HR1:=zH hr1;have HLEN:=zH hlen;clear hEC hEC2 hr1 hwc d0 d1 d2 d6 hlen;obtain⟨TC,hTC⟩:∃TC,t'.cols=TC:=⟨_,rfl⟩;have HTC:=zH hTC;rw[hTC] at HEN Cell d5 HC1 hc0 hc70;clear hTC
   go_upto_region 5 with fail
   refine Zaf (S:=(fun w'=>w'.cell? ⟨q,3,none⟩=some (.slice a RL c1)/\w'.cell? ⟨q,4,none⟩=some (.slice b BL c2)/\w'.cell? ⟨q,5,none⟩=some (.int .i64 TC)/\Since w1 w')) 11 (by kernel_rfl) ?_ (fun hHeld=>?_)
   ·exact Cell.out _ hin
   refine tk2 0 ⟨some 37,_,156,_,_,none⟩ ?_;refine tk2 1 ⟨some 38,_,0,_,_,none⟩ ?_;refine tk2 2 ⟨some 39,_,0,_,_,none⟩ ?_;refine tk2 3 ⟨some 40,_,39,_,_,none⟩ ?_;refine tk2 4 ⟨some 41,_,26,_,_,none⟩ ?_;refine tk2 5 ⟨some 42,_,156,_,_,none⟩ ?_;refine tk2 6 ⟨some 43,_,0,_,_,none⟩ ?_;refine tk2 7 ⟨some 44,_,0,_,_,none⟩ ?_;refine tk2 8 ⟨some 45,_,0,_,_,none⟩ ?_;refine tk2 9 ⟨some 46,_,3,_,_,none⟩ ?_
   try simp only[Act.put,zA,zB,zC]
   refine rd2 10 ⟨some 47,_,3,_,_,none⟩ fun K hK=>?_
   go_simp
   (refine (HEN.out _ hin).mono ?_;rintro e w2 ⟨rfl,k2⟩;have hin2:=hin.trans k2;clear k2)
   refine hK.out _ _ ?_ (fun hHeld=>?_)
   ·exact Cell.out _ hin2
   clear hK K
   try simp only[Act.put,zA,zB,zC]
   refine rd3 11 ⟨some 12,_,3,_,_,none⟩ fun K hK=>?_
   go_simp
   refine hK.out _ _ ?_;clear hK K
   try simp only[Act.put,zA,zB,zC]
   refine Zal (by kernel_rfl) ?_ _;have HC2:=zH (HC1.out.below hin2.low);have HO2:=zH (HO1.out.trans (Zaz hin2.low (Nat.le_of_lt hqw)));have HB2:=zH (HB1.out.trans (hin2.low.mono HB1.out.size));have HRD2:=zH ((HRD.out.below hin2.low).mono hin2.low.size);clear d3 d4 d5 Cell HEN hin hin2 HC1 HO1 HB1 HRD;obtain⟨⟨d0,d1,d2,d3⟩,d4,d5,d6⟩:=sevC HC2.out;have hwe:(Lit.int .i64 EC).wf=true:=Zot (by have:=HR1.out;have:=HLEN.out;omega);have hT2:=(H3.out.only (Zaz HB2.out (Nat.le_of_lt hqr))).1;have HLV:=zH (Zk8 w2.heap.size a b c1 c2 t' EC hwe HFT.out w2 (Nat.le_refl _) hT2);obtain⟨LV,hLV⟩:∃LV,Ta.lvR t' EC=LV:=⟨_,rfl⟩;have HHL:=zH hLV;have hr2:=Zpo t' EC;rw[hLV,HRL.out] at hr2;rw[hLV,show tabV a b c1 c2 t'=.agg #[.slice a t'.rows.length c1,.slice b t'.basis.length c2,.int .i64 t'.cols] from rfl,HRL.out,HBL.out,HTC.out] at HLV;have hwl:(Lit.int .i64 LV).wf=true:=Zot (by omega);clear hT2 hLV hr2
   go_wp2_with fail
   refine HLV.out.mono ?_;rintro e w3 ⟨rfl,hb3⟩;have HB3:=zH (HB2.out.trans (hb3.mono HB2.out.size));have HO3:=zH (HO2.out.trans (Zaz hb3 (Nat.le_of_lt (Zab HC2.out))));have HRD3:=zH ((HRD2.out.below hb3).mono hb3.size);have HWk:Hid (Sk q w3 p t' n'):=hW.out.only HB3.out;clear d0 d1 d2 d3 d4 d5 d6 hb3 HC2 HO2 HRD2 HLV HB2
   by_cases hl:LV<0
   ·have hd2:decide (LV<0)=true:=decide_eq_true hl
    have HN:Hid (RR=some ((t',n'),CS,EC)):=by
     show _=_;rw[<-hE.out,Ta.Zrp hn1 HHK.out (by rw[HEC2.out,HHL.out];exact hl)];rw[HCS.out,HEC2.out]
    go_wp2_with fail
    simp only[Exit.jump]
    go_ret3
    exact⟨_,_,_,_,true,rfl,HO3.out,(fun h=>by cases h),fun _=>⟨_,_,HN.out,HXL.out.symm,HWk.out,HRD3.out⟩,by rw[<-HCC.out];exact HWk.out.c5⟩
   ·have hd2:decide (LV<0)=false:=decide_eq_false hl
    have HPV:=zH (Zld HWk.out HFT.out hn1 LV EC hwl hwe);have HPH:=zH (fun (h3:Ta.Zcc (t',n') LV EC=none)=>(show RR=none by
     rw[<-hE.out];exact Ta.Zwi (by rw[HEC2.out,HHL.out];exact hl) (by rw[HEC2.out,HHL.out];exact h3)))
    have HPM:=zH (fun (s:T×Nat) (h3:Ta.Zcc (t',n') LV EC=some s)=>(show Ta.ph full s=RR by
     rw[<-hE.out];exact (Ta.Zwh HHK.out (by rw[HEC2.out,HHL.out];exact hl) (by rw[HEC2.out,HHL.out];exact h3)).symm))
    go_wp2_with fail
    refine HPV.out.mono ?_;rintro e w4 ⟨bb,rfl,ho4,hno,hyes,h5⟩;have H5:=zH h5;clear h5;have HO4:=zH (HO3.out.trans ho4);have HF4:=zH ((HOF.out.only (Zaz HB3.out (Nat.le_of_lt hqr))).only ho4);clear ho4 HPV;cases bb with
    | false=>
     have HN:=zH (HPH.out (hno rfl));clear hno hyes
     go_wp2_with fail
     simp only[Exit.jump]
     go_ret3
     exact⟨_,_,_,_,false,rfl,HO4.out,fun _=>HN.out,(fun h=>by cases h),by rw[<-HCC.out];exact H5.out⟩
    | true=>
     obtain⟨⟨t4,n4⟩,hst,hsk⟩:=hyes rfl;have HN:=zH (HPM.out _ hst);have HS4:=zH (Ta.Zin hS.out hst);have hn4:n4=n'+1/\n'<1000:=by
      obtain⟨q1,_,q2⟩:=Ta.Zfy hst;injection q2 with _ q2
      exact⟨q2,q1⟩
     have hp1:=hW.out.piv;have hp2:=hsk.piv;have HG:=zH (show Sk q w4 p t4 n4 from hsk);have Hlt:Hid (1001-pivN q w4<1001-pivN q wr):=by show _<_;rw[hp1,hp2];simp only;omega
     clear hno hyes hst hsk hn4 hp1 hp2
     go_wp2_with fail
     refine Go.wp_goto ?_;refine⟨rfl,⟨t4,n4,a9,c9,_,_,_,_,_,_,_,_,_,_,_,_,_,_,_,_,_,_,_,_,_,_,_,_,_,_,_,_,_,_,_,_,_,_,_,_,_,_,_,_,_,_,_,_,_,_,_,_,_,_,_,_,_,_,_,_,_,_,_,_,rfl,HS4,HG,HO4,HN,HF4⟩,Hlt.out⟩
end Go.Proofs.YtlohljkfphljgaaGreat
