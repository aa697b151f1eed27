/- spec.PivotTableau. -/
import Derived.Test.YtlohljkfphljgaaGreatGTo
import Derived.Test.YtlohljkfphljgaaGreatGMt
import Derived.Test.YtlohljkfphljgaaGreatGTa
import Derived.Test.YtlohljkfphljgaaGreatGTd
import Derived.Test.YtlohljkfphljgaaGreatGLp
import Derived.Test.YtlohljkfphljgaaGreatGTo
namespace Go.Proofs.YtlohljkfphljgaaGreat
open Go.RowKit
open Ve (R)
open Ta (T)
set_option maxRecDepth 100000 in
set_option maxHeartbeats 8000000 in
theorem Zja (B:Nat) (a b:Option Addr) (c1 c2:Nat) (t:T) (r c:Int) (hr0:(Lit.int .i64 r).wf=true) (hc0:(Lit.int .i64 c).wf=true) (hn:Zca t) (w:World) (hBw:B≤w.heap.size) (hz:Zc4 B w a b t) :
  Calls Tryz.prog 149 #[tabV a b c1 c2 t,.int .i64 r,.int .i64 c] w (Zkf (Ta.piv t r c) (Ta.pivK t r c) w):=by
 have HN:=zH hn;have hb:=((Below.refl w.heap.size w).alloc (Nat.le_refl _) (.cells #[.slice a t.rows.length c1,.slice b t.basis.length c2,.int .i64 t.cols] 39));have hb2:=hb.alloc hb.size (.cells #[.slice none 0 0,.slice none 0 0,.int .i64 0] 39);have HZ:=zH ((hz.mono hBw).below hb2);have hx:=(Tri.new w (.slice a t.rows.length c1) (.slice b t.basis.length c2) (.int .i64 t.cols) 39).more (.cells #[.slice none 0 0,.slice none 0 0,.int .i64 0] 39);have hr:=Tri.new (w.alloc (.cells #[.slice a t.rows.length c1,.slice b t.basis.length c2,.int .i64 t.cols] 39)) (.slice none 0 0) (.slice none 0 0) (.int .i64 0) 39;rw[Zar] at hr;have hs2:=Zjv w (.cells #[.slice a t.rows.length c1,.slice b t.basis.length c2,.int .i64 t.cols] 39) (.cells #[.slice none 0 0,.slice none 0 0,.int .i64 0] 39);have Hb:=zH hb2;have Hx:=zH hx;have Hr:=zH hr;have HS2:=zH hs2;rw[show tabV a b c1 c2 t=.agg #[.slice a t.rows.length c1,.slice b t.basis.length c2,.int .i64 t.cols] from rfl];have hn1:=hn.rows;have hn2:=hn.basis;have HRow:=zH hn.row;obtain⟨PV,hPV⟩:∃PV,Ta.piv t r c=PV:=⟨_,rfl⟩;obtain⟨KK,hKK⟩:∃KK,Ta.pivK t r c=KK:=⟨_,rfl⟩;have HPV:=zH hPV;have HKK:=zH hKK;rw[hPV,hKK];have hno:Hid (Ta.pivK t r c=false->false=KK/\t=PV):=fun h=>⟨by rw[<-HKK.out,h],by rw[<-HPV.out,Ta.Z0i h]⟩
 obtain⟨g,hg⟩:∃g,Ta.good t=g:=⟨_,rfl⟩;obtain⟨m,hm⟩:∃m,Ta.may t r c=m:=⟨_,rfl⟩;have Hg:=zH hg;have Hm:=zH hm;obtain⟨hrA,hrB⟩:=Zjg hr0;obtain⟨hcA,hcB⟩:=Zjg hc0;have hs2':=hs2;have HGd:Hid (∀wx,Below ((w.alloc (.cells #[.slice a t.rows.length c1,.slice b t.basis.length c2,.int .i64 t.cols] 39)).alloc (.cells #[.slice none 0 0,.slice none 0 0,.int .i64 0] 39)).heap.size ((w.alloc (.cells #[.slice a t.rows.length c1,.slice b t.basis.length c2,.int .i64 t.cols] 39)).alloc (.cells #[.slice none 0 0,.slice none 0 0,.int .i64 0] 39)) wx->Calls Tryz.prog 75 #[.agg #[.slice a t.rows.length c1,.slice b t.basis.length c2,.int .i64 t.cols]] wx fun e w'=>e=.returned (.bool g)/\Below wx.heap.size wx w'):=fun wx hbx=>
  Zf3 w.heap.size a b c1 c2 t hn g hg wx (Nat.le_trans hb2.size hbx.size) (HZ.out.below (hbx.mono (by rw[hs2'];omega)))
 have HCp:Hid (∀wx,Below ((w.alloc (.cells #[.slice a t.rows.length c1,.slice b t.basis.length c2,.int .i64 t.cols] 39)).alloc (.cells #[.slice none 0 0,.slice none 0 0,.int .i64 0] 39)).heap.size ((w.alloc (.cells #[.slice a t.rows.length c1,.slice b t.basis.length c2,.int .i64 t.cols] 39)).alloc (.cells #[.slice none 0 0,.slice none 0 0,.int .i64 0] 39)) wx->Calls Tryz.prog 191 #[.agg #[.slice a t.rows.length c1,.slice b t.basis.length c2,.int .i64 t.cols]] wx (Zj0 t wx)):=fun wx hbx=>
  Zr5 w.heap.size a b c1 c2 t hn wx (Nat.le_trans hb2.size hbx.size) (HZ.out.below (hbx.mono (by rw[hs2'];omega)))
 clear hz hb hb2 hx hr hs2 hs2' hn hPV hKK hg hm hr0 hc0
 go_enter Tryz.func149,Tryz.ntmps149
 go_upto_region 1 with fail
 generalize hW:(w.alloc (.cells #[.slice a t.rows.length c1,.slice b t.basis.length c2,.int .i64 t.cols] 39)).alloc (.cells #[.slice none 0 0,.slice none 0 0,.int .i64 0] 39)=W at *;clear hW;obtain⟨x0,x1,x2,_⟩:=Hx.out.cells
 go_cut [50] (fun v wx=>v=.bool (!m)/\Hid (Below W.heap.size W wx))
 case first=>
  go_wp2_with fail
  refine (HGd.out W (Below.refl _ _)).mono ?_;rintro e w1 ⟨rfl,hb1⟩;have Hx1:=zH (Hx.out.below hb1);have HB1:=zH hb1;clear x0 x1 x2 hb1;obtain⟨x0,x1,x2,_⟩:=Hx1.out.cells;cases g with
  | false=>
   have hm0:m=false:=by rw[<-Hm.out];unfold Ta.may;rw[Hg.out];rfl
   subst hm0
   go_wp2_with fail
   go_meet
   exact⟨rfl,HB1⟩
  | true=>
   obtain⟨g0,g1,g2,g3⟩:=Ta.Za2 Hg.out;have G3:=zH g3;clear g3 g2
   by_cases hir:0≤r/\r≤(t.rows.length:Int) - 1
   ·have HI1:=zH (fun W=>Zlf r 0 ((t.rows.length:Int)-1) true (by rw[decide_eq_true_iff];exact hir) W)
    by_cases hic:0≤c/\c≤t.cols+(t.rows.length:Int) - 1
    ·have HI2:=zH (fun W=>Zlf c 0 (t.cols+(t.rows.length:Int)-1) true (by rw[decide_eq_true_iff];exact hic) W)
     obtain⟨rn,hrn⟩:∃rn:Nat,r=rn:=⟨r.toNat,by omega⟩;obtain⟨cn,hcn⟩:∃cn:Nat,c=cn:=⟨c.toNat,by omega⟩;subst hrn hcn;have hlt:rn<t.rows.length:=by omega
     have hTw:=HZ.out.below (HB1.out.mono (show w.heap.size≤W.heap.size by have:=HS2.out;omega));obtain⟨b1,o1,a1,k1,ha1,hl1,hrow,hRr⟩:=hTw.mR rn hlt;have hcl:cn<(rr t.rows rn).length:=by have h:=(G3.out rn hlt).1;rw[Zwu] at h;omega
     obtain⟨b3,o3,rfl,hl3,p0,p1⟩:=hRr.at cn hcl;subst ha1;have hcl2:(cn:Int)<((rr t.rows rn).length:Int):=by omega
     obtain⟨q0,hq0⟩:∃q0:Bool,decide ((Ve.at_ (rr t.rows rn) cn).1=0)=q0:=⟨_,rfl⟩;have hq1:((Ve.at_ (rr t.rows rn) cn).1 == 0)=q0:=by rw[<-hq0];rfl
     have hm0:(!m)=q0:=by
      rw[<-Hm.out];unfold Ta.may;rw[Hg.out,Zwu];simp only[Int.toNat_natCast,hq0];simp only[hir,hic,and_self,decide_true,Bool.true_and,Bool.not_not]
     have Hm0:=zH hm0;have hlti:(rn:Int)<(t.rows.length:Int):=by omega
     clear hq0 hTw hRr hm0 p1 hcl hlt
     go_wp2_with fail
     refine (HI1.out _).mono ?_;rintro e w2 ⟨rfl,rfl⟩
     go_wp2_with fail
     refine (HI2.out _).mono ?_;rintro e w2 ⟨rfl,rfl⟩
     go_wp2_with fail
     go_meet
     exact⟨by rw[Hm0.out],HB1⟩
    ·have HI2:=zH (fun W=>Zlf c 0 (t.cols+(t.rows.length:Int)-1) false (by rw[decide_eq_false_iff_not];exact hic) W)
     have hm0:m=false:=by rw[<-Hm.out];unfold Ta.may;rw[show decide (0≤c/\c≤t.cols+(t.rows.length:Int)-1)=false by rw[decide_eq_false_iff_not];exact hic];simp
     subst hm0;clear hic
     go_wp2_with fail
     refine (HI1.out _).mono ?_;rintro e w2 ⟨rfl,rfl⟩
     go_wp2_with fail
     refine (HI2.out _).mono ?_;rintro e w2 ⟨rfl,rfl⟩
     go_wp2_with fail
     go_meet
     exact⟨rfl,HB1⟩
   ·have HI1:=zH (fun W=>Zlf r 0 ((t.rows.length:Int)-1) false (by rw[decide_eq_false_iff_not];exact hir) W)
    have hm0:m=false:=by rw[<-Hm.out];unfold Ta.may;rw[show decide (0≤r/\r≤(t.rows.length:Int)-1)=false by rw[decide_eq_false_iff_not];exact hir];simp
    subst hm0;clear hir
    go_wp2_with fail
    refine (HI1.out _).mono ?_;rintro e w2 ⟨rfl,rfl⟩
    go_wp2_with fail
    go_meet
    exact⟨rfl,HB1⟩
 case rest=>
  clear x0 x1 x2 HGd;obtain⟨w1,rfl⟩:∃q:World,q=wc:=⟨_,rfl⟩;obtain⟨rfl,hB1⟩:=hcut;obtain⟨x0,x1,x2,_⟩:=(Hx.out.below hB1.out).cells;cases m with
  | false=>
   go_wp2_with fail
   refine (HCp.out _ hB1.out).mono ?_;rintro e wf ⟨v,rfl,⟨vR,vB,rfl,hoR,hoB⟩,hbf⟩;obtain⟨aR,cR,rfl⟩:=Zd1 hoR;obtain⟨aB,cB,rfl⟩:=Zam hoB;have hbx:=hB1.out;have hszx:=hbx.size;have HRf:=zH ((Hr.out.below hbx).below hbf);have HoR:=zH hoR;have HoB:=zH hoB;have Hbf:=zH (hbx.trans (hbf.mono hszx));have HP:=zH (hno.out (Ta.Zy2 Hm.out));obtain⟨z0,z1,z2,f0,f1,f2⟩:=HRf.out.cells;have HSX:=zH hszx;clear hoR hoB hbf hbx hszx x0 x1 x2 
   go_wp2_with fail
   clear z0 z1 z2 f0 f1 f2;refine bodyPost_ret (v:=.tuple #[.agg #[.slice aR t.rows.length cR,.slice aB t.basis.length cB,.int .i64 t.cols],.bool false]) (by
    obtain⟨z0,z1,z2,_⟩:=(Zck HRf.out (.slice aR t.rows.length cR) (.slice aB t.basis.length cB) (.int .i64 t.cols)).cells;revert z0 z1 z2;generalize (World.setCell _ (⟨w.heap.size+1,2,none⟩:Addr) (.int .i64 t.cols))=W4;intro z0 z1 z2;simp[results,Tryz.results149,go_sem,z0,z1,z2]) rfl ?_
   exact Zh6 HP.out.2 HP.out.1 rfl HSX.out HoR.out HoB.out Hb.out Hbf.out HS2.out _ _ _
  | true=>
   obtain⟨mg,mr,mc,me⟩:=Ta.Zv1 Hm.out;obtain⟨g0,g1,g2,g3⟩:=Ta.Za2 mg;have G3:=zH g3;have G2:=zH g2;obtain⟨rn,hrn⟩:∃rn:Nat,r=rn:=⟨r.toNat,by omega⟩;obtain⟨cn,hcn⟩:∃cn:Nat,c=cn:=⟨c.toNat,by omega⟩;subst hrn hcn;have hlt:rn<t.rows.length:=by omega
   have hrl:(rn:Int)<(t.rows.length:Int):=by omega
   have hnoM:Hid (Ta.Zgq t rn cn=false->false=KK/\t=PV):=fun h=>hno.out (Ta.Zwk (by simpa using h))
   have hnoK:Hid (∀k,k<t.rows.length->Ta.nextK t rn cn k=false->false=KK/\t=PV):=fun k hk h=>hno.out (Ta.Zy3 hk (by simpa using h))
   have hyes:Hid (Ta.Zgq t rn cn=true->Ta.Zbm t rn cn t.rows.length=true->true=KK/\(⟨Ta.Zbc t rn cn t.rows.length,t.basis.set rn cn,t.cols⟩:T)=PV):=fun h1 h2=>by
    have h:=Ta.Zy1 Hm.out (by simpa using h1) (by simpa using h2);exact⟨by rw[<-HKK.out,h],by rw[<-HPV.out,Ta.Zwl h];simp⟩
   have HTw:Hid (∀wx,Below W.heap.size W wx->Zc4 w.heap.size wx a b t):=fun wx h=>HZ.out.below (h.mono (show w.heap.size≤W.heap.size by have:=HS2.out;omega))
   have Hcol:Hid (∀k,k<t.rows.length->cn<(rr t.rows k).length):=fun k hk=>by have h:=(G3.out k hk).1;rw[Zwu] at h;omega
   clear g3 g2 mg mr me hno G3 Hg Hm
   go_wp2_with fail
   refine (HCp.out _ hB1.out).mono ?_;rintro e w2 ⟨v,rfl,⟨vR,vB,rfl,hoR,hoB⟩,hb2⟩;obtain⟨aR,cR,rfl⟩:=Zd1 hoR;obtain⟨aB,cB,rfl⟩:=Zam hoB;have hsz1:=hB1.out.size;have HB2:=zH (hB1.out.trans (hb2.mono hsz1));have hsz2:=HB2.out.size;have HB3:=zH (HB2.out.alloc hsz2 (.cells #[.slice aR t.rows.length cR,.slice aB t.basis.length cB,.int .i64 t.cols] 39));have HO3:=zH ((hoR.raise hsz1).below ((Below.refl _ _).alloc (Nat.le_refl _) (.cells #[.slice aR t.rows.length cR,.slice aB t.basis.length cB,.int .i64 t.cols] 39)));have HI3:=zH ((hoB.Zf9 hsz1).below ((Below.refl _ _).alloc (Nat.le_refl _) (.cells #[.slice aR t.rows.length cR,.slice aB t.basis.length cB,.int .i64 t.cols] 39)));have HT3:=zH (Tri.new w2 (.slice aR t.rows.length cR) (.slice aB t.basis.length cB) (.int .i64 t.cols) 39);obtain⟨q,hq⟩:∃q,w2.heap.size=q:=⟨_,rfl⟩;rw[hq] at HT3;have hqW:W.heap.size≤q:=by omega
   clear hoR hoB hb2 x0 x1 x2
   go_upto_region 4 with fail
   generalize hW3:w2.alloc (.cells #[.slice aR t.rows.length cR,.slice aB t.basis.length cB,.int .i64 t.cols] 39)=W3 at *;clear hW3 hq hsz2 HB2 hB1 hsz1;have hs2:=HS2.out;have hsz3:=HB3.out.size;obtain⟨x0,x1,x2,_⟩:=(Hx.out.below HB3.out).cells;have hTw:=HTw.out _ HB3.out;obtain⟨b1,o1,a1,k1,rfl,hl1,hrow,hRr⟩:=hTw.mR rn hlt;have hcl:=Hcol.out rn hlt;obtain⟨b3,o3,rfl,hl3,p0,p1⟩:=hRr.at cn hcl;have hcli:(cn:Int)<((rr t.rows rn).length:Int):=by omega
   have HRl:Hid ((rr t.rows rn).length≤1048576):=HRow.out rn hlt;have HRr:=zH hRr;have Cell:=zH (fun w' (h:Since W3 w')=>(show w'.cell? ⟨w.heap.size,0,none⟩=some (.slice (some ⟨b1,o1,none⟩) t.rows.length c1)/\w'.cell? ⟨b1,o1+rn,none⟩=some (.slice (some ⟨b3,o3,none⟩) (rr t.rows rn).length k1)/\w'.cell? ⟨b3,o3+cn*2,none⟩=some (.int .i64 (Ve.at_ (rr t.rows rn) cn).1)/\w'.cell? ⟨b3,o3+cn*2+1,none⟩=some (.int .i64 (Ve.at_ (rr t.rows rn) cn).2)/\Since W3 w' from
    ⟨h.cell (p:=⟨w.heap.size,0,none⟩) (show w.heap.size<W3.heap.size by omega) x0,h.cell (p:=⟨b1,o1+rn,none⟩) (show b1<W3.heap.size by omega) hrow,h.cell (p:=⟨b3,o3+cn*2,none⟩) (show b3<W3.heap.size by omega) p0,h.cell (p:=⟨b3,o3+cn*2+1,none⟩) (show b3<W3.heap.size by omega) p1,h⟩))
   have HDv:=zH (fun w' (h:Since W3 w')=>Zg6 h (Zoo W3.heap.size (some ⟨b3,o3,none⟩) k1 (rr t.rows rn) (Ve.at_ (rr t.rows rn) cn) HRl.out w' h.low.size ((HRr.out.below (h.low.mono (show w.heap.size≤W3.heap.size by omega))).mono (show w.heap.size≤W3.heap.size by omega))));have hmain:Ta.dvR (rr t.rows rn) (Ve.at_ (rr t.rows rn) cn)=Ta.main t rn cn:=rfl;have hmainK:Ta.dvK (rr t.rows rn) (Ve.at_ (rr t.rows rn) cn)=Ta.Zgq t rn cn:=rfl;rw[hmain,hmainK] at HDv;obtain⟨mk,hmk⟩:∃mk,Ta.Zgq t rn cn=mk:=⟨_,rfl⟩;have Hmk:=zH hmk;rw[hmk] at HDv;have hsn:=(Since.refl W3).drew;clear hTw hRr hrow p0 p1 hmain hmainK x0 x1 x2 hmk;generalize (Ve.at_ (rr t.rows rn) cn).1=e1 at *;generalize (Ve.at_ (rr t.rows rn) cn).2=e2 at *
   go_region_held3 (fun w'=>w'.cell? ⟨w.heap.size,0,none⟩=some (.slice (some ⟨b1,o1,none⟩) t.rows.length c1)/\w'.cell? ⟨b1,o1+rn,none⟩=some (.slice (some ⟨b3,o3,none⟩) (rr t.rows rn).length k1)/\w'.cell? ⟨b3,o3+cn*2,none⟩=some (.int .i64 e1)/\w'.cell? ⟨b3,o3+cn*2+1,none⟩=some (.int .i64 e2)/\Since W3 w') (first|exact Cell.out _ (by assumption))
    (first | (go_at_call 192;refine (HDv.out _ (by assumption)).mono ?_;rintro e w' ⟨⟨vM,rfl,hoM⟩,hin2⟩))
   obtain⟨aM,cM,rfl⟩:=Zbb hoM;have HM4:=zH (hoM.raise hsz3);have HB4:=zH (HB3.out.trans (hin2.low.mono hsz3));have HO4:=zH (HO3.out.below hin2.low);have HI4:=zH (HI3.out.below hin2.low);have HT4:=zH (HT3.out.below hin2.low);clear Cell HDv hsn hoM hin2 HO3 HI3 HT3 HB3 HRr HRl hcl hcli;obtain⟨w4,rfl⟩:∃q:World,q=w':=⟨_,rfl⟩;obtain⟨x0,x1,x2,_⟩:=(Hx.out.below HB4.out).cells;cases mk with
   | false=>
    go_wp2_with fail
    refine (HCp.out _ HB4.out).mono ?_;rintro e wf ⟨v,rfl,⟨vR,vB,rfl,hoR,hoB⟩,hbf⟩;obtain⟨aR,cR,rfl⟩:=Zd1 hoR;obtain⟨aB,cB,rfl⟩:=Zam hoB;have hbx:=HB4.out;have hszx:=hbx.size;have HRf:=zH ((Hr.out.below hbx).below hbf);have HoR:=zH hoR;have HoB:=zH hoB;have Hbf:=zH (hbx.trans (hbf.mono hszx));have HP:=zH (hnoM.out Hmk.out);obtain⟨z0,z1,z2,f0,f1,f2⟩:=HRf.out.cells;have HSX:=zH hszx;clear hoR hoB hbf hbx hszx x0 x1 x2 hs2 hsz3 hqW hl1 hl3 hrl hlt g0 g1 mc hrA hrB hcA hcB hn1 hn2
    go_wp2_with fail
    clear z0 z1 z2 f0 f1 f2;refine bodyPost_ret (v:=.tuple #[.agg #[.slice aR t.rows.length cR,.slice aB t.basis.length cB,.int .i64 t.cols],.bool false]) (by
     obtain⟨z0,z1,z2,_⟩:=(Zck HRf.out (.slice aR t.rows.length cR) (.slice aB t.basis.length cB) (.int .i64 t.cols)).cells;revert z0 z1 z2;generalize (World.setCell _ (⟨w.heap.size+1,2,none⟩:Addr) (.int .i64 t.cols))=W4;intro z0 z1 z2;simp[results,Tryz.results149,go_sem,z0,z1,z2]) rfl ?_
    exact Zh6 HP.out.2 HP.out.1 rfl HSX.out HoR.out HoB.out Hb.out Hbf.out HS2.out _ _ _
   | true=>
    have hL:=Zpw HO4.out hlt;obtain⟨gR,rfl,hgR,hgR2,⟨vo,ho1⟩,ho2⟩:=hL;obtain⟨y0,y1,y2,f0,f1,f2⟩:=HT4.out.cells;have HO5:Hid (Zbt W.heap.size (w4.setCell ⟨gR,rn,none⟩ (.slice aM (Ta.main t rn cn).length cM)) (.slice (some ⟨gR,0,none⟩) t.rows.length cR) (Ta.Zbc t rn cn 0)):=by
     rw[Ta.Zlp];exact Zs9 HO4.out rfl hlt HM4.out
    have hgq:gR≠q:=fun e=>Zeq HO4.out HT4.out (by decide) (by rw[e];rfl)
    have HM5:Hid (Zaa W.heap.size (w4.setCell ⟨gR,rn,none⟩ (.slice aM (Ta.main t rn cn).length cM)) (.slice aM (Ta.main t rn cn).length cM) (Ta.main t rn cn)):=(Zao (i:=rn) (u:=.slice aM (Ta.main t rn cn).length cM) HM4.out (q:=gR) (fun e=>by obtain⟨vs,h1,_⟩:=HO4.out;exact Zb0 HM4.out h1 Zcf gR e rfl));have HI5:Hid (Zad W.heap.size (w4.setCell ⟨gR,rn,none⟩ (.slice aM (Ta.main t rn cn).length cM)) (.slice aB t.basis.length cB) t.basis):=(Zao (i:=rn) (u:=.slice aM (Ta.main t rn cn).length cM) HI4.out (q:=gR) (fun e=>by obtain⟨vs,h1,_⟩:=HO4.out;exact Zb0 HI4.out h1 (fun e=>Zcx e.symm) gR e rfl));have HT5:=zH (HT4.out.other (p:=⟨gR,rn,none⟩) hgq (.slice aM (Ta.main t rn cn).length cM));have HB5:=zH (HB4.out.setCell (p:=⟨gR,rn,none⟩) hgR (.slice aM (Ta.main t rn cn).length cM));clear HO4 HM4 HI4 HT4;have hlMb:(Ta.main t rn cn).length≤1048576:=by
     have h:=Ta.Zqz (l:=rr t.rows rn) (y:=Ve.at_ (rr t.rows rn) cn) Hmk.out;have h2:=HRow.out rn hlt;show (Ta.dvR (rr t.rows rn) (Ve.at_ (rr t.rows rn) cn)).length≤1048576;rw[h];exact h2
    have HlM:Hid (∀l,l=(Ta.main t rn cn).length->l=(Ta.main t rn cn).length):=fun _ h=>h
    generalize hlM:(Ta.main t rn cn).length=lM at *;have HlM:=zH hlM;clear hlM HlM
    go_wp2_with fail
    clear ho1 ho2 y0 y1 y2 f0 f1 f2
    go_loopw [11] (fun i wr=>∃k:Nat,k≤t.rows.length/\i=.int .i64 k/\Hid (Zbt W.heap.size wr (.slice (some ⟨gR,0,none⟩) t.rows.length cR) (Ta.Zbc t rn cn k))/\Hid (Zaa W.heap.size wr (.slice aM lM cM) (Ta.main t rn cn))/\Hid (Zad W.heap.size wr (.slice aB t.basis.length cB) t.basis)/\
     Hid (Tri wr q (.slice (some ⟨gR,0,none⟩) t.rows.length cR) (.slice aB t.basis.length cB) (.int .i64 t.cols) 39)/\Hid (Below W.heap.size W wr)/\Hid (Ta.Zbm t rn cn k=true)) (fun i _=>t.rows.length-(intOf i).toNat)
    case atStart=>exact⟨0,Nat.zero_le _,rfl,HO5,HM5,HI5,HT5,HB5,Ta.Zoy _ _ _⟩
    case round=>
     clear x0 x1 x2 HO5 HM5 HI5 HT5 HB5 HB4 hgR2;obtain⟨k,hk,rfl,hO,hM,hI,hT,hB,hA⟩:=hrel;obtain⟨x0,x1,x2,_⟩:=(Hx.out.below hB.out).cells;have hszr:=hB.out.size
     by_cases hlt2:k<t.rows.length
     ·have hTw:=HTw.out _ hB.out
      obtain⟨b1',o1',a2,k2,ha2,hl2,hrow,hRr⟩:=hTw.mR k hlt2;obtain⟨rfl,rfl⟩:b1=b1'/\o1=o1':=by simp only[Option.some.injEq,Addr.mk.injEq] at ha2;exact⟨ha2.1,ha2.2.1⟩
      have hcl:=Hcol.out k hlt2;obtain⟨b4,o4,rfl,hl4,p0,p1⟩:=hRr.at cn hcl;have HRr:=zH hRr;have HRl:Hid ((rr t.rows k).length≤1048576):=HRow.out k hlt2;have hcli:(cn:Int)<((rr t.rows k).length:Int):=by omega
      have hlt2i:(k:Int)<(t.rows.length:Int):=by omega
      obtain⟨st,hst⟩:∃st,Ta.still t rn cn k=st:=⟨_,rfl⟩;have Hst:=zH hst;obtain⟨el,hel⟩:∃el,Ve.at_ (rr t.rows k) cn=el:=⟨_,rfl⟩;have Hel:=zH hel;rw[hel] at p0 p1;have hst2:st=(decide (k=rn) || decide (el=(0,1))):=by rw[<-hst,<-hel];rfl
      have Hst2:=zH hst2;have HNx:Hid (st=false->Ta.nextK t rn cn k=Ve.scK (rr t.rows k) (Ta.negR el) (Ta.main t rn cn)):=fun h=>by rw[Ta.Zyt (by rw[Hst.out,h]),<-Hel.out];rfl
      have HRx:Hid (st=false->Ta.Zbc t rn cn (k+1)=(Ta.Zbc t rn cn k).set k (Ve.scR (rr t.rows k) (Ta.negR el) (Ta.main t rn cn))):=fun h=>by rw[Ta.Zlo (by rw[Hst.out,h]),<-Hel.out];rfl
      have HRs:Hid (st=true->Ta.Zbc t rn cn (k+1)=Ta.Zbc t rn cn k/\Ta.Zbm t rn cn (k+1)=true):=fun h=>⟨Ta.Zgv (by rw[Hst.out,h]),Ta.Ze6 hA.out (Ta.Zlj (by rw[Hst.out,h]))⟩
      clear hTw hRr ha2 hst hel hst2 hcl Hst
      go_upto_region 12 with fail
      have hbx:=Zac.new wr #[.int .i64 el.1,.int .i64 el.2] 31;have hal:Below wr.heap.size wr (wr.alloc (.cells #[.int .i64 el.1,.int .i64 el.2] 31)):=(Below.refl _ _).alloc (Nat.le_refl _) _;have HBr:=zH (hB.out.trans (hal.mono hszr));have HOr:=zH (hO.out.below hal);have HMr:=zH (hM.out.below hal);have HIr:=zH (hI.out.below hal);have HTr:=zH (hT.out.below hal);have hszp:(wr.alloc (.cells #[.int .i64 el.1,.int .i64 el.2] 31)).heap.size=wr.heap.size+1:=Zar _ _;generalize hWR:wr.alloc (.cells #[.int .i64 el.1,.int .i64 el.2] 31)=WR at *;clear hWR hal hO hM hI hT hB p0 p1 hrow x0 x1 x2;generalize hpx:wr.heap.size=px at *;clear hpx;have Hbx:=zH hbx;have hcell0:=hbx.cell 0;have hcell1:=hbx.cell 1;clear hbx;have Cell2:=zH (fun w' (h:Since WR w')=>(show w'.cell? ⟨px,0,none⟩=some (.int .i64 el.1)/\w'.cell? ⟨px,1,none⟩=some (.int .i64 el.2)/\Since WR w' from
       ⟨h.cell (p:=⟨px,0,none⟩) (show px<WR.heap.size by omega) hcell0,h.cell (p:=⟨px,1,none⟩) (show px<WR.heap.size by omega) hcell1,h⟩))
      have hsn:=(Since.refl WR).drew;clear hcell0 hcell1
      go_cut [103] (fun v wx=>v=.bool st/\Hid (Since WR wx))
      case first=>
       by_cases hkr:k=rn
       ·have hkr1:((k:Int) == (rn:Int))=true:=by rw[hkr];exact beq_self_eq_true _
        have hst1:st=true:=by rw[Hst2.out];simp[hkr]
        clear hkr;refine Zaf (S:=(fun w'=>w'.cell? ⟨px,0,none⟩=some (.int .i64 el.1)/\w'.cell? ⟨px,1,none⟩=some (.int .i64 el.2)/\Since WR w')) 7 (by kernel_rfl) ?_ (fun hHeld=>?_)
        ·exact Cell2.out _ hsn
        refine tk2 0 ⟨some 96,_,3,_,_,none⟩ ?_;refine tk2 1 ⟨some 97,_,3,_,_,none⟩ ?_;refine tk2 2 ⟨some 98,_,4,_,_,none⟩ ?_;refine tk2 3 ⟨some 99,_,4,_,_,none⟩ ?_
        try simp only[Act.put,zA,zB,zC]
        refine tkTu (i:=4) (oi:=⟨some 100,.load 31 (.tmp 12),31,"l06_tableau.go:74",#[⟨3,.guard⟩],some (3,false)⟩) rfl (by assumption) ?_
        try simp only[Act.put,zA,zB,zC]
        refine tkTu (i:=5) (oi:=⟨some 101,.call { callee:=.value (.func 91),args:=#[.const (Value.int IntKind.i64 0)],argTypes:=#[3] },31,"l06_tableau.go:74",#[⟨3,.chain⟩,⟨3,.guard⟩],some (3,false)⟩) rfl (by assumption) ?_
        try simp only[Act.put,zA,zB,zC]
        refine tkTu (i:=6) (oi:=⟨some 102,.binOp .eql 31 (.tmp 100) (.tmp 101) 31,4,"l06_tableau.go:74",#[⟨4,.data⟩,⟨5,.data⟩,⟨3,.guard⟩],some (3,false)⟩) rfl (by assumption) ?_
        try simp only[Act.put,zA,zB,zC]
        refine rd3 7 ⟨some 103,_,4,_,_,none⟩ fun K hK=>?_
        go_simp
        refine hK.out _ _ ?_;clear hK K
        try simp only[Act.put,zA,zB,zC]
        refine Zal (by kernel_rfl) ?_ _
        go_wp2_with fail
        go_meet
        exact⟨by rw[hst1],hsn⟩
       ·have hkr1:((k:Int) == (rn:Int))=false:=by rw[beq_eq_false_iff_ne];omega
        have heq:=Zk0;have heqg:=Zgj;obtain⟨eb,heb⟩:∃eb:Bool,(el.1 == 0 && el.2 == 1)=eb:=⟨_,rfl⟩;have hst1:st=eb:=by
         rw[Hst2.out,<-heb,show decide (k=rn)=false by rw[decide_eq_false_iff_not];exact hkr,Bool.false_or];obtain⟨n,d⟩:=el
         by_cases h1:n=0<;>by_cases h2:d=1<;>simp[h1,h2]
        have Hst1:=zH hst1;clear hkr hst1;refine Zaf (S:=(fun w'=>w'.cell? ⟨px,0,none⟩=some (.int .i64 el.1)/\w'.cell? ⟨px,1,none⟩=some (.int .i64 el.2)/\Since WR w')) 7 (by kernel_rfl) ?_ (fun hHeld=>?_)
        ·exact Cell2.out _ hsn
        refine tk2 0 ⟨some 96,_,3,_,_,none⟩ ?_;refine tk2 1 ⟨some 97,_,3,_,_,none⟩ ?_;refine tk2 2 ⟨some 98,_,4,_,_,none⟩ ?_;refine tk2 3 ⟨some 99,_,4,_,_,none⟩ ?_
        try simp only[Act.put,zA,zB,zC]
        refine tk2 4 ⟨some 100,_,31,_,_,some (3,false)⟩ ?_
        try simp only[Act.put,zA,zB,zC]
        refine rd2 5 ⟨some 101,_,31,_,_,some (3,false)⟩ fun K hK=>?_
        go_simp
        (go_at_call 91;refine (Za4 0 _).mono ?_;rintro e w7 ⟨rfl,hb7⟩;have hin7:=hsn.trans hb7)
        refine hK.out _ _ ?_ (fun hHeld=>?_)
        ·exact Cell2.out _ hin7
        clear hK K
        try simp only[Act.put,zA,zB,zC]
        refine tk2 6 ⟨some 102,_,4,_,_,some (3,false)⟩ ?_
        try simp only[Act.put,zA,zB,zC]
        refine rd3 7 ⟨some 103,_,4,_,_,none⟩ fun K hK=>?_
        go_simp
        refine hK.out _ _ ?_;clear hK K
        try simp only[Act.put,zA,zB,zC]
        refine Zal (by kernel_rfl) ?_ _
        go_wp2_with fail
        go_meet
        exact⟨by rw[Hst1.out],hin7⟩
      case rest=>
       obtain⟨wc2,rfl⟩:∃q:World,q=wc:=⟨_,rfl⟩;obtain⟨rfl,hSc⟩:=hcut;have hbc:=hSc.out.low;have hszc:=hbc.size;have HBc:=zH (HBr.out.trans (hbc.mono (by omega)));have HOc:=zH (HOr.out.below hbc);have HMc:=zH (HMr.out.below hbc);have HIc:=zH (HIr.out.below hbc);have HTc:=zH (HTr.out.below hbc);have Hbc:=zH (Hbx.out.below hbc);clear Cell2 hsn hSc hbc HBr HOr HMr HIr HTr Hbx;cases st with
       | true=>
        have hs:=HRs.out rfl;have HOn:Hid (Zbt W.heap.size wc2 (.slice (some ⟨gR,0,none⟩) t.rows.length cR) (Ta.Zbc t rn cn (k+1))):=by rw[hs.1];exact HOc.out
        have HAn:=zH hs.2;clear hs
        go_wp2_with fail
        go_roundw
        case rel=>exact⟨k+1,by omega,by go_num,HOn,HMc,HIc,HTc,HBc,HAn⟩
        case measure=>simp[intOf];omega
       | false=>
        obtain⟨x0,x1,x2,_⟩:=(Hx.out.below HBc.out).cells;have hTw:=HTw.out _ HBc.out;obtain⟨b1',o1',a2,k2',ha2,hl2',hrow,hRr⟩:=hTw.mR k hlt2;obtain⟨rfl,rfl⟩:b1=b1'/\o1=o1':=by simp only[Option.some.injEq,Addr.mk.injEq] at ha2;exact⟨ha2.1,ha2.2.1⟩
        have HRr2:=zH hRr;have hc0:=Hbc.out.cell 0;have hc1:=Hbc.out.cell 1;obtain⟨hlm,hrM⟩:=Zfs HMc.out;have HrM:=zH hrM;have Hlm:=zH hlm;clear hlm;have hszc2:=HBc.out.size;have Cell3:=zH (fun w' (h:Since wc2 w')=>(show w'.cell? ⟨w.heap.size,0,none⟩=some (.slice (some ⟨b1,o1,none⟩) t.rows.length c1)/\w'.cell? ⟨b1,o1+k,none⟩=some (.slice a2 (rr t.rows k).length k2')/\w'.cell? ⟨px,0,none⟩=some (.int .i64 el.1)/\w'.cell? ⟨px,1,none⟩=some (.int .i64 el.2)/\Since wc2 w' from
         ⟨h.cell (p:=⟨w.heap.size,0,none⟩) (show w.heap.size<wc2.heap.size by omega) x0,h.cell (p:=⟨b1,o1+k,none⟩) (show b1<wc2.heap.size by omega) hrow,h.cell (p:=⟨px,0,none⟩) (show px<wc2.heap.size by omega) hc0,h.cell (p:=⟨px,1,none⟩) (show px<wc2.heap.size by omega) hc1,h⟩))
        have HAS:=zH (fun w' (h:Since wc2 w')=>Zg6 h (Zhh wc2.heap.size a2 aM k2' cM (rr t.rows k) (Ta.negR el) (Ta.main t rn cn) HRl.out (Hlm.out▸hlMb) w' h.low.size ((HRr2.out.below (h.low.mono (show w.heap.size≤wc2.heap.size by omega))).mono (show w.heap.size≤wc2.heap.size by omega)) (HrM.out.below h.low)));rw[show (Ta.negR el).1=Ta.w64 (-el.1) from rfl,show (Ta.negR el).2=el.2 from rfl,<-Zi0,<-Hlm.out] at HAS;obtain⟨sk,hsk⟩:∃sk,Ve.scK (rr t.rows k) (Ta.negR el) (Ta.main t rn cn)=sk:=⟨_,rfl⟩;have Hsk:=zH hsk;rw[hsk] at HAS;have hsn:=(Since.refl wc2).drew;clear hTw hRr ha2 hsk hc0 hc1 hrow x0 x1 x2 hrM
        go_upto_region 13 with fail
        go_region_held3 (fun w'=>w'.cell? ⟨w.heap.size,0,none⟩=some (.slice (some ⟨b1,o1,none⟩) t.rows.length c1)/\w'.cell? ⟨b1,o1+k,none⟩=some (.slice a2 (rr t.rows k).length k2')/\w'.cell? ⟨px,0,none⟩=some (.int .i64 el.1)/\w'.cell? ⟨px,1,none⟩=some (.int .i64 el.2)/\Since wc2 w') (first|exact Cell3.out _ (by assumption))
         (first | (go_at_call 148;refine (HAS.out _ (by assumption)).mono ?_;rintro e w' ⟨⟨vN,rfl,hoN⟩,hin2⟩))
        obtain⟨aN,cN,rfl⟩:=Zbb hoN;have HN6:=zH (hoN.raise hszc2);have HB6:=zH (HBc.out.trans (hin2.low.mono hszc2));have HO6:=zH (HOc.out.below hin2.low);have HM6:=zH (HMc.out.below hin2.low);have HI6:=zH (HIc.out.below hin2.low);have HT6:=zH (HTc.out.below hin2.low);have hN1:=HNx.out (by simp);rw[Hsk.out] at hN1;have HN1:=zH hN1;have HR1:=zH (HRx.out (by simp));obtain⟨w6,rfl⟩:∃q:World,q=w':=⟨_,rfl⟩;clear Cell3 HAS hsn hoN hin2 HOc HMc HIc HTc HBc Hbc HRr2 HrM hN1;obtain⟨x0,x1,x2,_⟩:=(Hx.out.below HB6.out).cells;cases sk with
        | false=>
         go_wp2_with fail
         refine (HCp.out _ HB6.out).mono ?_;rintro e wf ⟨v,rfl,⟨vR,vB,rfl,hoR,hoB⟩,hbf⟩;obtain⟨aR,cR,rfl⟩:=Zd1 hoR;obtain⟨aB,cB,rfl⟩:=Zam hoB;have hbx:=HB6.out;have hszx:=hbx.size;have HRf:=zH ((Hr.out.below hbx).below hbf);have HoR:=zH hoR;have HoB:=zH hoB;have Hbf:=zH (hbx.trans (hbf.mono hszx));have HP:=zH (hnoK.out k hlt2 HN1.out);obtain⟨z0,z1,z2,f0,f1,f2⟩:=HRf.out.cells;have HSX:=zH hszx;clear hoR hoB hbf hbx hszx x0 x1 x2 hs2 hszr hszc hszc2 hszp hqW hsz3 hl1 hl2 hl4 hl2' hl3 hlt2 hlt2i hcli hk hgR hrl hlt hlMb hn1 hn2 g0 g1 mc hrA hrB hcA hcB
         go_wp2_with fail
         clear z0 z1 z2 f0 f1 f2;refine bodyPost_ret (v:=.tuple #[.agg #[.slice aR t.rows.length cR,.slice aB t.basis.length cB,.int .i64 t.cols],.bool false]) (by
          obtain⟨z0,z1,z2,_⟩:=(Zck HRf.out (.slice aR t.rows.length cR) (.slice aB t.basis.length cB) (.int .i64 t.cols)).cells;revert z0 z1 z2;generalize (World.setCell _ (⟨w.heap.size+1,2,none⟩:Addr) (.int .i64 t.cols))=W4;intro z0 z1 z2;simp[results,Tryz.results149,go_sem,z0,z1,z2]) rfl ?_
         exact Zh6 HP.out.2 HP.out.1 rfl HSX.out HoR.out HoB.out Hb.out Hbf.out HS2.out _ _ _
        | true=>
         obtain⟨y0,y1,y2,f0,f1,f2⟩:=HT6.out.cells;obtain⟨g',hg',_,_,⟨vo,ho1⟩,ho2⟩:=Zpw (j:=k) HO6.out (by rw[Ta.Zbh];exact hlt2);obtain rfl:gR=g':=by simp only[Option.some.injEq,Addr.mk.injEq] at hg';exact hg'.1
         have hgq:gR≠q:=fun e=>Zeq HO6.out HT6.out (by decide) (by rw[e];rfl)
         have HO7:Hid (Zbt W.heap.size (w6.setCell ⟨gR,k,none⟩ (.slice aN (Ve.scR (rr t.rows k) (Ta.negR el) (Ta.main t rn cn)).length cN)) (.slice (some ⟨gR,0,none⟩) t.rows.length cR) (Ta.Zbc t rn cn (k+1))):=by
          rw[HR1.out];exact Zs9 HO6.out (by rw[Ta.Zbh]) (by rw[Ta.Zbh];exact hlt2) HN6.out
         have HM7:Hid (Zaa W.heap.size (w6.setCell ⟨gR,k,none⟩ (.slice aN (Ve.scR (rr t.rows k) (Ta.negR el) (Ta.main t rn cn)).length cN)) (.slice aM lM cM) (Ta.main t rn cn)):=(Zao HM6.out (q:=gR) (fun e=>by obtain⟨vs,h1,_⟩:=HO6.out;exact Zb0 HM6.out h1 Zcf gR e rfl));have HI7:Hid (Zad W.heap.size (w6.setCell ⟨gR,k,none⟩ (.slice aN (Ve.scR (rr t.rows k) (Ta.negR el) (Ta.main t rn cn)).length cN)) (.slice aB t.basis.length cB) t.basis):=(Zao HI6.out (q:=gR) (fun e=>by obtain⟨vs,h1,_⟩:=HO6.out;exact Zb0 HI6.out h1 (fun e=>Zcx e.symm) gR e rfl));have HT7:=zH (HT6.out.other (p:=⟨gR,k,none⟩) hgq (.slice aN (Ve.scR (rr t.rows k) (Ta.negR el) (Ta.main t rn cn)).length cN));have HB7:=zH (HB6.out.setCell (p:=⟨gR,k,none⟩) hgR (.slice aN (Ve.scR (rr t.rows k) (Ta.negR el) (Ta.main t rn cn)).length cN));have HA7:=zH (Ta.Ze6 hA.out HN1.out);generalize (Ve.scR (rr t.rows k) (Ta.negR el) (Ta.main t rn cn)).length=lN at *;clear HO6 HM6 HI6 HT6 HB6 hg' HN6 HR1 HN1
         go_wp2_with fail
         go_roundw
         case rel=>exact⟨k+1,by omega,by go_num,HO7,HM7,HI7,HT7,HB7,HA7⟩
         case measure=>simp[intOf];omega
     ·have he:k=t.rows.length:=by omega
      have HO8:Hid (Zbt W.heap.size wr (.slice (some ⟨gR,0,none⟩) t.rows.length cR) (Ta.Zbc t rn cn t.rows.length)):=by have h:=hO.out;rw[he] at h;exact h
      have hA8:Ta.Zbm t rn cn t.rows.length=true:=by have h:=hA.out;rw[he] at h;exact h
      have HY:=zH (hyes.out Hmk.out hA8);obtain⟨y0,y1,y2,f0,f1,f2⟩:=hT.out.cells;have hbl:rn<t.basis.length:=by have:=G2.out;omega
      obtain⟨gB,rfl,hgB,hgB2,⟨vo,ho1⟩,ho2⟩:=Zik hI.out hbl;have hgq:gB≠q:=fun e=>Zdf hI.out hT.out (by decide) (by rw[e];rfl)
      have hbli:(rn:Int)<(t.basis.length:Int):=by omega
      have HI8:=zH (Zj7 (j:=rn) (x:=(cn:Int)) hI.out rfl);have HO9:=zH (Zd8 (i:=rn) (u:=.int .i64 (cn:Int)) HO8.out (q:=gB) (fun e=>by obtain⟨vs,h1,_⟩:=HO8.out;exact Zb0 hI.out h1 (fun e=>Zcx e.symm) gB rfl e) (fun h=>TyAt.ne h (Zav hI.out rfl) Zha rfl));have HT8:=zH (hT.out.other (p:=⟨gB,rn,none⟩) hgq (.int .i64 (cn:Int)));have HB8:=zH (hB.out.setCell (p:=⟨gB,rn,none⟩) hgB (.int .i64 (cn:Int)));have HR8:=zH (Hr.out.below HB8.out);clear he hO hI hT hA hA8 HO8 hM hgB2;obtain⟨v0,v1,v2,e0,e1,e2⟩:=HT8.out.cells;obtain⟨z0,z1,z2,f3,f4,f5⟩:=HR8.out.cells
      go_wp2_with fail
      clear z0 z1 z2 f3 f4 f5 v0 v1 v2 e0 e1 e2;refine bodyPost_ret (v:=.tuple #[.agg #[.slice (some ⟨gR,0,none⟩) t.rows.length cR,.slice (some ⟨gB,0,none⟩) t.basis.length cB,.int .i64 t.cols],.bool true]) (by
       obtain⟨z0,z1,z2,_⟩:=(Zck HR8.out (.slice (some ⟨gR,0,none⟩) t.rows.length cR) (.slice (some ⟨gB,0,none⟩) t.basis.length cB) (.int .i64 t.cols)).cells;revert z0 z1 z2;generalize (World.setCell _ (⟨w.heap.size+1,2,none⟩:Addr) (.int .i64 t.cols))=W4;intro z0 z1 z2;simp[results,Tryz.results149,go_sem,z0,z1,z2]) rfl ?_
      exact Zh6 HY.out.2 HY.out.1 rfl (wx:=W) (Nat.le_refl _) HO9.out HI8.out Hb.out HB8.out HS2.out _ _ _
end Go.Proofs.YtlohljkfphljgaaGreat
