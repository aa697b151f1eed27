/- The parts ShM, ShA, ShB, ShC, ShD0. -/
import Derived.Test.YtjfnleilddgjiaaGreatGM
import Derived.Test.YtjfnleilddgjiaaGreatHPyM
import Derived.Test.YtjfnleilddgjiaaGreatHPyP
import Derived.Test.YtjfnleilddgjiaaGreatHCoB
import Derived.Test.YtjfnleilddgjiaaGreatHGmBe
import Derived.Test.YtjfnleilddgjiaaGreatHHeldT
set_option maxRecDepth 100000
set_option maxHeartbeats 8000000
namespace Go.Proofs.YtjfnleilddgjiaaGreat.Sh
open Ve (R)
open Gm (G)
def fac:Nat->Nat
 | 0=>1
 | n+1=>(n+1)*fac n
theorem Zvx:∀n:Fin 6,1≤fac n.val/\fac n.val≤120:=by decide
theorem Zyv:∀n:Fin 5,fac n.val≤24:=by decide
theorem Z0s {n:Nat} (h:n≤5):1≤fac n/\fac n≤120:=Zvx ⟨n,by omega⟩
theorem Zn5 {n:Nat} (h:n≤4):fac n≤24:=Zyv ⟨n,by omega⟩
def term (g:G) (k t:Nat):Int:=if Co.has (t:Int) k then 0 else (fac (Co.size (t:Int) 5).toNat:Int)*(fac (g.n-Co.size (t:Int) 5-1).toNat:Int)*(g.v.getD (t+2 ^ k) 0-g.v.getD t 0)
theorem Zty {g:G} {k t:Nat} (h:Co.has (t:Int) k=true):term g k t=0:=if_pos h
theorem Zx4 {g:G} {k t:Nat} (h:Co.has (t:Int) k=false):term g k t=(fac (Co.size (t:Int) 5).toNat:Int)*(fac (g.n-Co.size (t:Int) 5-1).toNat:Int)*(g.v.getD (t+2 ^ k) 0-g.v.getD t 0):=by unfold term;rw[h];rfl
theorem Zyy:∀n:Fin 6,∀k:Fin 5,∀t:Fin 32,k.val<n.val->t.val<2 ^ n.val->Co.has ((t.val:Nat):Int) k.val=false->t.val+2 ^ k.val<2 ^ n.val/\Co.size ((t.val:Nat):Int) 5+1≤(n.val:Int):=by decide +kernel
theorem free_at {g:G} (hv:Gm.vld g=true) {k t:Nat} (hk:(k:Int)<g.n) (ht:t<g.v.length) (h:Co.has (t:Int) k=false):t+2 ^ k<g.v.length/\0≤Co.size (t:Int) 5/\Co.size (t:Int) 5+1≤g.n:=by
 have hn:=Gm.Zhz hv;have hp:=Gm.Zmo hv;have hl:=Gm.Zcu hv;have h1:=Zyy ⟨g.n.toNat,by omega⟩ ⟨k,by omega⟩ ⟨t,by omega⟩ (by show k<g.n.toNat;omega) (by show t<2 ^ g.n.toNat;omega) h;have h2:=(Co.Zr9 (t:Int) 5).1;simp only at h1;exact⟨by omega,h2,by omega⟩
theorem mul3 {a b:Nat} {d:Int} (ha:a≤24) (hb:b≤24) (hd:-1000≤d/\d≤1000):(0≤(a:Int)*b/\(a:Int)*b≤576)/\-576000≤(a:Int)*b*d/\(a:Int)*b*d≤576000:=by
 have h1:a*b≤24*24:=Nat.mul_le_mul ha hb;have h2:(a:Int)*b=((a*b:Nat):Int):=by simp
 have h3:((a:Int)*b*d).natAbs≤576*1000:=by
  rw[Int.natAbs_mul,h2,Int.natAbs_natCast];exact Nat.mul_le_mul (by omega) (by omega)
 omega
def sum (g:G) (k:Nat):Nat->Int
 | 0=>0
 | t+1=>sum g k t+term g k t
theorem Z2k {g:G} (hv:Gm.vld g=true) {k t:Nat} (hk:(k:Int)<g.n) (ht:t<g.v.length):-576000≤term g k t/\term g k t≤576000:=by
 rcases h:Co.has (t:Int) k with _|_
 ·have hf:=free_at hv hk ht h
  have hn:=Gm.Zhz hv;have d1:=Gm.Ziy hv ht;have d2:=Gm.Ziy hv hf.1;rw[Zx4 h];exact (mul3 (Zn5 (by omega)) (Zn5 (by omega)) (by omega)).2
 ·rw[Zty h];omega
theorem Z1e {g:G} (hv:Gm.vld g=true) {k:Nat} (hk:(k:Int)<g.n):∀t,t≤g.v.length->-(576000*(t:Int))≤sum g k t/\sum g k t≤576000*t
 | 0,_=>by simp[sum]
 | t+1,h=>by
  have h1:=Z1e hv hk t (by omega);have h2:=Z2k hv hk (show t<g.v.length by omega);unfold sum;omega
def val (g:G) (k:Nat):R:=(Ra.rn (sum g k g.v.length) (fac g.n.toNat),Ra.rd (sum g k g.v.length) (fac g.n.toNat))
def pre (g:G) (k:Nat):List R:=(List.range k).map (val g)
theorem Zja (g:G) (k:Nat):(pre g k).length=k:=by simp[pre]
theorem Zos (g:G) (k:Nat):pre g (k+1)=pre g k++[val g k]:=by simp[pre,List.range_succ]
def shR (g:G):List R:=if Gm.vld g then pre g g.n.toNat else []
theorem Zxt {g:G} (h:Gm.vld g=true):shR g=pre g g.n.toNat:=if_pos h
theorem Z1c {g:G} (h:Gm.vld g=false):shR g = []:=by unfold shR;rw[h];rfl
theorem Z2g (g:G):(shR g).length≤5:=by
 rcases h:Gm.vld g with _|_
 ·rw[Z1c h];simp
 ·rw[Zxt h,Zja];have:=Gm.Zhz h;omega
end Go.Proofs.YtjfnleilddgjiaaGreat.Sh
namespace Go.Proofs.YtjfnleilddgjiaaGreat
open Go.RowKit
open Ve (R)
open Gm (G)
theorem Zd4 (z:Int) (n:Nat) (hz:z=n) (hn:n≤5) (w:World):Calls Tryz.prog 165 #[.int .i64 z] w fun e w'=>e=.returned (.int .i64 (Sh.fac n:Int))/\w'=w:=by
 subst hz
 go_enter Tryz.func165,Tryz.ntmps165
 go_wp2_with fail
 go_loop [3,4] (fun u i=>∃m:Nat,m≤5/\(m+1≤n\/m+1=n\/m=n\/m=1)/\1≤m/\u=.int .i64 (Sh.fac m:Int)/\i=.int .i64 ((m+1:Nat):Int)) (fun _ i=>7-(intOf i).toNat)
 case atStart=>exact⟨1,by omega,by omega,by omega,rfl,rfl⟩
 case round=>
  obtain⟨m,hm5,hmn,hm1,rfl,rfl⟩:=hrel;have hb:=Sh.Z0s hm5
  by_cases hlt:m+1≤n
  ·have hf:((Sh.fac (m+1):Nat):Int)=(Sh.fac m:Int)*((m+1:Nat):Int):=by rw[Sh.fac];simp[Int.mul_comm]
   have hb2:=Sh.Z0s (n:=m+1) (by omega);have Hf:=zH hf;have n1:((m+1:Nat):Int)≤(n:Int):=by omega
   have hw:IntKind.i64.wrap ((Sh.fac m:Int)*((m:Int)+1))=(Sh.fac (m+1):Int):=by rw[hf,show ((m+1:Nat):Int)=(m:Int)+1 by simp];exact IntWalk.i64_in _ (by rw[show (m:Int)+1=((m+1:Nat):Int) by simp,<-hf];omega)
   have hw2:-9223372036854775808≤(Sh.fac m:Int)*((m:Int)+1)/\(Sh.fac m:Int)*((m:Int)+1)≤9223372036854775807:=by rw[show (m:Int)+1=((m+1:Nat):Int) by simp,<-hf];omega
   clear hf
   go_wp2_with fail
   go_round
   case rel=>exact⟨m+1,by omega,by omega,by omega,by rw[Hf.out],by go_num⟩
   case measure=>simp[intOf];omega
  ·have n1:¬((m+1:Nat):Int)≤(n:Int):=by omega
   have hz:(Sh.fac m:Int)=(Sh.fac n:Int):=by
    rcases hmn with h|h|h|h
    ·omega
    ·omega
    ·rw[h]
    ·subst h
     have:n=0\/n=1:=by omega
     rcases this with rfl|rfl<;>rfl
   have Hz:=zH hz;clear hz
   go_wp2_with fail
   go_ret;exact⟨Zbf Hz.out,rfl⟩
theorem Zje {w:World} {x y:Value} {g:G} (h:GmC w x y g) (hf:GmOk g) :
  Calls Tryz.prog 125 #[.agg #[x,y]] w (Zb5 (Sh.shR g) (Gm.vld g) w):=by
 obtain⟨gn,gv⟩:=g;obtain⟨a,c,rfl,rfl,hi⟩:=h;obtain⟨W,hW⟩:∃W,W=w.alloc (.cells #[.int .i64 gn,.slice a gv.length c] 30):=⟨_,rfl⟩;have hb:=(Below.refl w.heap.size w).alloc (Nat.le_refl _) (.cells #[.int .i64 gn,.slice a gv.length c] 30);have hc:=Zad.new w #[.int .i64 gn,.slice a gv.length c] 30;have hws:W.heap.size=w.heap.size+1:=by rw[hW];exact Zao _ _
 rw[<-hW] at hb hc;obtain⟨W2,hW2⟩:∃W2,W2=W.alloc (.cells #[] 59):=⟨_,rfl⟩;have ho0:Zaa W.heap.size (W.alloc (.cells #[] 59)) (.slice (some ⟨w.heap.size+1,0,none⟩) 0 0) []:=by
  have hs:w.heap.size+1=W.heap.size:=hws.symm;rw[hs];exact Zke _ _ (Nat.le_refl _)
 have hb2:=(Below.refl W.heap.size W).alloc (Nat.le_refl _) (.cells #[] 59);rw[<-hW2] at ho0 hb2;have hc2:Zad W2 w.heap.size #[.int .i64 gn,.slice a gv.length c] 30:=hc.below hb2;have hX:GmC W2 (.int .i64 gn) (.slice a gv.length c) ⟨gn,gv⟩:=GmC.up (GmC.up ⟨a,c,rfl,rfl,hi⟩ hb) hb2;have hlv:gv.length≤1048576:=hf.1;have hnb:=hf.n;obtain⟨i0,hii,hz0,hz1,hz2⟩:=info_parts Zdf;have HI:=zH hii;have HZ0:=zH hz0;have HZ1:=zH hz1;have HZ2:=zH hz2;dsimp only at hi hnb;have HIn:=zH (hi.below hb);have HW:=zH hW;have HW2:=zH hW2;have HB:=zH hb;have HB2:=zH hb2;have HC2:=zH hc2;have HX:=zH hX;have HF:=zH hf;have HO0:=zH ho0;have hlo:=hb.size;have Hws:=zH hws;clear hW hW2 hb hc hb2 hc2 hX hi hf ho0 hii hz0 hz1 hz2 hws
 rcases hvl:Gm.vld ⟨gn,gv⟩ with _|_
 ·rw[Sh.Z1c hvl]
  have HVL:=zH hvl;clear hvl
  go_enter Tryz.func125,Tryz.ntmps125
  go_wp2_with fail
  rw[<-HW.out,<-HW2.out];refine (Zaz false HVL.out HX.out HF.out).mono ?_;rintro e w1 ⟨rfl,hb1⟩;have HB1:=zH (HB2.out.trans (hb1.mono HB2.out.size));have HO1:=zH (HO0.out.below hb1);clear hb1
  go_wp2_with fail
  go_ret2
  exact⟨_,rfl,Zaa.lower HO1.out hlo,HB.out.trans (HB1.out.mono hlo)⟩
 ·rw[Sh.Zxt hvl]
  have HVL:=zH hvl;have hvn:=Gm.Zhz hvl;have hvL:=Gm.Zcu hvl;dsimp only at hvn hvL;obtain⟨n,hn⟩:∃n:Nat,gn=n:=⟨gn.toNat,by omega⟩;have Hn:=zH hn;have hn5:n≤5:=by omega
  have hnn:gn.toNat=n:=by omega
  have Hnn:=zH hnn;rw[show (Gm.G.mk gn gv).n.toNat=n from hnn];have Hval:=zH (fun k=>(show Sh.val ⟨gn,gv⟩ k=(Ra.rn (Sh.sum ⟨gn,gv⟩ k gv.length) (Sh.fac n),Ra.rd (Sh.sum ⟨gn,gv⟩ k gv.length) (Sh.fac n)) from by unfold Sh.val;rw[show (Gm.G.mk gn gv).n.toNat=n from hnn]));have Hbd:=zH (fun (k:Nat) (hk:k<n)=>Sh.Z1e hvl (k:=k) (by show (k:Int)<gn;omega));have Hfree:=zH (fun (k t:Nat) (hk:k<n) (ht:t<gv.length) (h:Co.has (t:Int) k=false)=>Sh.free_at hvl (k:=k) (t:=t) (by show (k:Int)<gn;omega) ht h);have Hat:=zH (fun (t:Nat) (ht:t<gv.length)=>Gm.Ziy hvl ht);clear hn hnn hvl
  go_enter Tryz.func125,Tryz.ntmps125
  go_wp2_with fail
  rw[<-HW.out,<-HW2.out];refine (Zaz true HVL.out HX.out HF.out).mono ?_;rintro e w1 ⟨rfl,hb1⟩;have HB1:=zH (HB2.out.trans (hb1.mono HB2.out.size));have HO1:=zH (HO0.out.below hb1);obtain⟨x0,x1⟩:=two (HC2.out.below hb1);have HCW:=zH (show Zad W w.heap.size #[.int .i64 gn,.slice a gv.length c] 30 from by have h1:=HC2.out;unfold Zad at h1 ⊢;rw[HB2.out.block _ (by have:=Hws.out;omega)] at h1;exact h1);clear hb1
  go_wp2_with fail
  go_loopw [4,6] (fun v i wr=>∃k:Nat,k≤n/\i=.int .i64 k/\Hid (Zaa W.heap.size wr v (Sh.pre ⟨gn,gv⟩ k))/\Hid (Below W.heap.size W wr)) (fun _ i _=>n-(intOf i).toNat)
  case atStart=>exact⟨0,Nat.zero_le _,rfl,HO1,HB1⟩
  case round=>
   clear HO1 HB1 x0 x1;obtain⟨k,hk,rfl,hO,hB⟩:=hrel
   by_cases hlt:k<n
   ·have n1:(k:Int)<gn:=by have:=Hn.out;omega
    have hpl:=Sh.Zja ⟨gn,gv⟩ k;have He:=zH (Sh.Zos ⟨gn,gv⟩ k);have hk5:k<5:=by omega
    have HO:=zH hO.out;have HBk:=zH hB.out;obtain⟨V,rfl⟩:∃q:World,q=wr:=⟨_,rfl⟩;have hszV:=HBk.out.size;have hplb:(Sh.pre ⟨gn,gv⟩ k).length≤5:=by omega
    clear hO hB hpl
    go_wp2_with fail
    go_loopw [7,8] (fun z i wr=>∃t:Nat,t≤gv.length/\z=.int .i64 (Sh.sum ⟨gn,gv⟩ k t)/\i=.int .i64 t/\Hid (Since V wr)) (fun _ i _=>gv.length-(intOf i).toNat)
    case atStart=>exact⟨0,Nat.zero_le _,rfl,rfl,Since.refl _⟩
    case round=>
     obtain⟨t,ht,rfl,rfl,hS⟩:=hrel;obtain⟨x0,x1⟩:=two (HCW.out.below (HBk.out.trans (hS.out.low.mono hszV)))
     by_cases htl:t<gv.length
     ·have n2:(t:Int)<(gv.length:Int):=by omega
      have hts:(t:Int)≤9223372036854775807:=by omega
      rcases hh:Co.has (t:Int) k with _|_
      ·obtain⟨hf1,hf2,hf3⟩:=Hfree.out k t hlt htl hh
       have hte:=Sh.Zx4 (g:=⟨gn,gv⟩) hh;have hsm:Sh.sum ⟨gn,gv⟩ k (t+1)=Sh.sum ⟨gn,gv⟩ k t+Sh.term ⟨gn,gv⟩ k t:=rfl;have hbs:=Hbd.out k hlt t (by omega);obtain⟨A,hA⟩:∃A:Nat,Co.size (t:Int) 5=A:=⟨(Co.size (t:Int) 5).toNat,by omega⟩;obtain⟨M,hM⟩:∃M:Nat,gn-(A:Int)-1=M:=⟨(gn-(A:Int)-1).toNat,by omega⟩;have hfa:=Sh.Zn5 (n:=A) (by omega);have hfm:=Sh.Zn5 (n:=M) (by omega);have d1:=Hat.out t htl;have d2:=Hat.out (t+2 ^ k) hf1;dsimp only at d1 d2 hte;obtain⟨b,o,rfl,lb,q0⟩:=(HIn.out.below (Below.mono (HBk.out.trans (hS.out.low.mono hszV)) hlo)) t htl;obtain⟨b',o',e',_,q1⟩:=(HIn.out.below (Below.mono (HBk.out.trans (hS.out.low.mono hszV)) hlo)) (t+2 ^ k) hf1;simp only[Option.some.injEq,Addr.mk.injEq,and_true] at e';obtain⟨e1,e2⟩:=e';subst e1 e2;obtain⟨p2,hp2⟩:∃p2:Nat,2 ^ k=p2:=⟨_,rfl⟩;have Hbi:=zH (fun w=>Znm k (by omega) w);rw[hp2] at Hbi hf1 d2 q1 hte;obtain⟨u,hu⟩:∃u:Nat,t+p2=u:=⟨_,rfl⟩;rw[hu] at hf1 d2 q1 hte;have Hsz:=zH (fun w=>(show Calls Tryz.prog 121 #[.int .i64 (t:Int)] w fun e w'=>e=.returned (.int .i64 (A:Int))/\w=w' from hA▸Ze8 (t:Int) hts w));have Hh:=zH hh;rw[hA] at hte hf2 hf3;rw[hM,Int.toNat_natCast,Int.toNat_natCast] at hte;have hbs2:=Hbd.out k hlt (t+1) (by omega);rw[hsm,hte] at hbs2;have Hsm:=zH (hsm.trans (by rw[hte]));have HFA:=zH (fun w=>Zd4 (A:Int) A rfl (by omega) w);have HFM:=zH (fun w=>Zd4 (gn-(A:Int)-1) M hM (by omega) w);clear hte hsm hh hp2;generalize Sh.fac A=fa at *;generalize Sh.fac M=fm at *;generalize gv.getD u 0=X at *;generalize gv.getD t 0=Y at *;generalize Sh.sum ⟨gn,gv⟩ k t=z at *;have hm3:=Sh.mul3 (a:=fa) (b:=fm) (d:=X-Y) hfa hfm (by omega);have hn9:=Hn.out;have hw1:IntKind.i64.wrap (gn-(A:Int))=gn-(A:Int):=IntWalk.i64_in _ (by omega);have hw2:IntKind.i64.wrap (gn-(A:Int)-1)=gn-(A:Int)-1:=IntWalk.i64_in _ (by omega);have hw3:IntKind.i64.wrap ((fa:Int)*(fm:Int))=(fa:Int)*(fm:Int):=IntWalk.i64_in _ (by omega);have hw4:IntKind.i64.wrap ((t:Int)+(p2:Int))=(u:Int):=by rw[IntWalk.i64_in _ (by omega)];omega
       have hw5:IntKind.i64.wrap (X-Y)=X-Y:=IntWalk.i64_in _ (by omega);have hw6:IntKind.i64.wrap ((fa:Int)*(fm:Int)*(X-Y))=(fa:Int)*(fm:Int)*(X-Y):=IntWalk.i64_in _ (by omega);have hw7:IntKind.i64.wrap (z+(fa:Int)*(fm:Int)*(X-Y))=z+(fa:Int)*(fm:Int)*(X-Y):=IntWalk.i64_in _ (by omega);have n3:(u:Int)<(gv.length:Int):=by omega
       have Cell:=zH (fun w' (h:Since wr w')=>(show w'.cell? ⟨w.heap.size,1,none⟩=some (.slice (some ⟨b,o,none⟩) gv.length c)/\w'.cell? ⟨b,o+u,none⟩=some (.int .i64 X)/\w'.cell? ⟨b,o+t,none⟩=some (.int .i64 Y)/\Since wr w' from
        ⟨h.cell (p:=⟨w.heap.size,1,none⟩) (show w.heap.size<wr.heap.size by have:=hS.out.low.size;have:=Hws.out;omega) x1,h.cell (p:=⟨b,o+u,none⟩) (show b<wr.heap.size by have:=hS.out.low.size;omega) q1,h.cell (p:=⟨b,o+t,none⟩) (show b<wr.heap.size by have:=hS.out.low.size;omega) q0,h⟩))
       clear hn9 hbs hbs2 hm3 hfa hfm d1 d2 q0 q1 hA hM hf2 hf3 hu
       go_wp2_with fail
       refine (Zbx (t:Int) hts k hk5 false Hh.out _).mono ?_;rintro e w4 ⟨rfl,rfl⟩
       go_wp2_with fail
       refine (Hsz.out _).mono ?_;rintro e w4 ⟨rfl,rfl⟩
       go_upto_region 14 with (fail)
       have hg0:=(Since.refl wr).drew;refine wp_region_held_drew (S:=fun w'=>w'.cell? ⟨w.heap.size,1,none⟩=some (.slice (some ⟨b,o,none⟩) gv.length c)/\w'.cell? ⟨b,o+u,none⟩=some (.int .i64 X)/\w'.cell? ⟨b,o+t,none⟩=some (.int .i64 Y)/\Since wr w') (by kernel_rfl) ?_ (fun hHeld=>?_)
       ·exact Cell.out _ hg0
       refine tk1 0 ⟨some 36,_,3,_,_,none⟩ ?_;refine tk1 1 ⟨some 37,_,3,_,_,none⟩ ?_;refine tk1 3 ⟨some 39,_,3,_,_,none⟩ ?_;refine tk1 4 ⟨some 40,_,3,_,_,none⟩ ?_;refine tk1 5 ⟨some 41,_,3,_,_,none⟩ ?_;refine tk1 6 ⟨some 42,_,3,_,_,none⟩ ?_;refine tk1 9 ⟨some 45,_,0,_,_,none⟩ ?_;refine tk1 10 ⟨some 46,_,22,_,_,none⟩ ?_;refine tk1 11 ⟨some 47,_,3,_,_,none⟩ ?_;refine tk1 12 ⟨some 48,_,3,_,_,none⟩ ?_;refine tk1 17 ⟨some 53,_,0,_,_,none⟩ ?_;refine tk1 18 ⟨some 54,_,22,_,_,none⟩ ?_;refine tk1 19 ⟨some 55,_,3,_,_,none⟩ ?_;refine tk1 20 ⟨some 56,_,0,_,_,none⟩ ?_;refine tk1 21 ⟨some 57,_,3,_,_,none⟩ ?_
       try simp only[Act.put,zA,zB,zC]
       refine rd1 2 ⟨some 38,_,3,_,_,none⟩ fun K hK=>?_
       go_simp
       (go_at_call 165;refine (HFA.out _).mono ?_;rintro e w5 ⟨rfl,rfl⟩)
       refine hK.out _ _ ?_ (fun hHeld=>?_)
       ·exact Cell.out _ hg0
       clear hK K
       try simp only[Act.put,zA,zB,zC]
       refine rd1 7 ⟨some 43,_,3,_,_,none⟩ fun K hK=>?_
       go_simp
       (go_at_call 165;refine (HFM.out _).mono ?_;rintro e w5 ⟨rfl,rfl⟩)
       refine hK.out _ _ ?_ (fun hHeld=>?_)
       ·exact Cell.out _ hg0
       clear hK K;refine tk1 8 ⟨some 44,_,3,_,_,none⟩ ?_
       try simp only[Act.put,zA,zB,zC]
       refine rd1 13 ⟨some 49,_,3,_,_,none⟩ fun K hK=>?_
       go_simp
       (go_at_call 118;refine (Hbi.out _).mono ?_;rintro e w5 ⟨rfl,rfl⟩)
       refine hK.out _ _ ?_ (fun hHeld=>?_)
       ·exact Cell.out _ hg0
       clear hK K;refine tk1 14 ⟨some 50,_,3,_,_,none⟩ ?_;refine tk1 15 ⟨some 51,_,0,_,_,none⟩ ?_;refine tk1 16 ⟨some 52,_,3,_,_,none⟩ ?_;refine tk1 22 ⟨some 58,_,3,_,_,none⟩ ?_;refine tk1 23 ⟨some 59,_,3,_,_,none⟩ ?_;refine tk1 24 ⟨some 60,_,3,_,_,none⟩ ?_;refine tk1 25 ⟨some 7,_,3,_,_,none⟩ ?_
       try simp only[Act.put,zA,zB,zC]
       refine wpAnyH_done (by kernel_rfl) ?_ _;have HS2:=zH hS.out.drew;clear Cell hg0
       go_wp2_with fail
       go_roundw
       case rel=>exact⟨t+1,by omega,by rw[Hsm.out],by go_num,HS2⟩
       case measure=>simp[intOf];omega
      ·have hsm:Sh.sum ⟨gn,gv⟩ k (t+1)=Sh.sum ⟨gn,gv⟩ k t:=by show _+Sh.term ⟨gn,gv⟩ k t=_;rw[Sh.Zty hh];omega
       have Hsm:=zH hsm;have Hh:=zH hh;generalize Sh.sum ⟨gn,gv⟩ k t=z at *;clear hh hsm
       go_wp2_with fail
       refine (Zbx (t:Int) hts k hk5 true Hh.out _).mono ?_;rintro e w4 ⟨rfl,rfl⟩
       go_wp2_with fail
       go_roundw
       case rel=>exact⟨t+1,by omega,by rw[Hsm.out],by go_num,hS⟩
       case measure=>simp[intOf];omega
     ·have n2:¬(t:Int)<(gv.length:Int):=by omega
      have hte:t=gv.length:=by omega
      have Hv:=zH (Hval.out k);rw[<-hte] at Hv;generalize Sh.sum ⟨gn,gv⟩ k t=z at *;have HRO:=zH (fun w=>Zf0 z (Sh.fac n) w);have HFN:=zH (fun w=>Zd4 gn n Hn.out hn5 w);have HVw:=zH (HBk.out.trans (hS.out.low.mono hszV));have hOw:=zH (HO.out.below hS.out.low);obtain⟨E,hE⟩:∃E,Sh.val ⟨gn,gv⟩ k=E:=⟨_,rfl⟩;rw[hE] at He Hv;generalize Sh.pre ⟨gn,gv⟩ k=ls at *;generalize hr1:Ra.rn z (Sh.fac n)=r1 at *;generalize hr2:Ra.rd z (Sh.fac n)=r2 at *;generalize Ra.fits z (Sh.fac n)=r3 at *;have hEE:E=(r1,r2):=Hv.out;subst hEE;clear hr1 hr2 Hv hE hte
      go_wp2_with fail
      refine (HFN.out _).mono ?_;rintro e w4 ⟨rfl,rfl⟩
      go_wp2_with fail
      refine (HRO.out _).mono ?_;rintro e w5 ⟨rfl,hb5⟩;have HB5:=zH (HVw.out.trans (hb5.mono HVw.out.size));have hsz5:=HB5.out.size;have Hown:=zH (World.ownsRow.alloc (World.ownsRow.alloc (hOw.out.below hb5) (.cells #[.int .i64 r1,.int .i64 r2] 59)) (.cells #[.int .i64 r1,.int .i64 r2] 59));clear hb5 hS HO hOw HVw x0 x1
      go_wp2_with (at_builtin;refine wpList_append_own _ rfl _ _ 26 rfl W.heap.size 59 i0 (.agg #[.int .i64 0,.int .i64 0]) 2 16 Tryz.underlying26 HI.out HZ0.out HZ1.out HZ2.out rfl (by decide) _ _ _ rfl Hown.out ⟨w5.heap.size+1,0,none⟩ 1 1 [.int .i64 r1,.int .i64 r2] rfl rfl ?c1 ?c2 ?c3 ?c4 ?c5 ?_)
      case c1=>
       intro j u hj
       match j,hj with
       | 0,hj=>simp at hj;subst hj;simp[Addr.add]
       | 1,hj=>simp at hj;subst hj;simp[Addr.add]
      case c2=>intro u hu;simp at hu;rcases hu with rfl|rfl<;>rfl
      case c3=>unfold maxLen;omega
      case c4=>omega
      case c5=>simp;omega
      intro v' w6 hown' hgrow _;have hne:=Hown.out.lt;have Ho1:=zH (Zaa.more (x:=(r1,r2)) hown');have Hb1:=zH (((HB5.out.alloc hsz5 (.cells #[.int .i64 r1,.int .i64 r2] 59)).alloc (by rw[Zao];omega) (.cells #[.int .i64 r1,.int .i64 r2] 59)).grown hgrow (by simp;omega) (fun g hg=>(hne g hg).1));rw[<-He.out] at Ho1;clear hown' hgrow hne
      go_wp2_with fail
      go_roundw
      case rel=>exact⟨k+1,by omega,by go_num,Ho1,Hb1⟩
      case measure=>simp[intOf];omega
   ·have he:k=n:=by omega
    have n1:¬(k:Int)<gn:=by have:=Hn.out;omega
    have HO2:Hid (Zaa W.heap.size wr u4 (Sh.pre ⟨gn,gv⟩ n)):=by show Zaa _ _ _ _;rw[<-he];exact hO.out
    have HBe:=zH (HB.out.trans (hB.out.mono hlo));clear hO he
    go_wp2_with fail
    go_ret2
    exact⟨_,rfl,Zaa.lower HO2.out hlo,HBe.out⟩
def Z1g (p:Nat) (a:Option Addr) (len cap:Nat) (w:World) (e:Ending) (w':World):Prop:=
 ∃(v:Value) (xs:List R),e=.returned v/\xs.length≤5/\Zaa w.heap.size w' v xs/\Cur w' p a len cap/\Only p w w'
def Zns (p:Nat) (a:Option Addr) (len cap:Nat) (w:World) (C:Array Value) (k:Nat) (v:Value) (wr:World):Prop:=
 ∃xs:List R,xs.length=k/\Zaa (w.heap.size+1) wr v xs/\Cur wr p a len cap/\Only p w wr/\Zad wr w.heap.size C 30
theorem Zkb {g:G}:-500≤Gm.Zbt g/\Gm.Zbt g≤500:=by
 rcases h:Gm.vld g with _|_
 ·rw[Gm.Zoc h];omega
 ·rw[Gm.Zgn h]
  have:=Gm.Zcu h;exact Gm.Ziy h (by omega)
theorem Zm2 (B p:Nat) (a:Option Addr) (len cap:Nat) {x y:Value} {g:G} (w:World) (hB:B≤p) (hcur:Cur w p a len cap) (hcode:Zc6 B w a len) (h:GmC w x y g) (hf:GmOk g) :
  Calls Tryz.prog 124 #[.pointer (some ⟨p,0,none⟩),.agg #[x,y]] w (Z1g p a len cap w):=by
 have hp:=hcur.lt;obtain⟨i0,hi,hz0,hz1,hz2⟩:=info_parts Zdf;have HI:=zH hi;have HZ0:=zH hz0;have HZ1:=zH hz1;have HZ2:=zH hz2;have Hc:=zH hcode;obtain⟨gn,gv⟩:=g;have h0:=h;obtain⟨ga,gc,rfl,rfl,_⟩:=h;obtain⟨C,hC⟩:∃C:Array Value,C=#[.int .i64 gn,.slice ga gv.length gc]:=⟨_,rfl⟩;obtain⟨W,hW⟩:∃W,W=w.alloc (.cells #[.int .i64 gn,.slice ga gv.length gc] 30):=⟨_,rfl⟩;have hb:=(Below.refl w.heap.size w).alloc (Nat.le_refl _) (.cells #[.int .i64 gn,.slice ga gv.length gc] 30);have hc:=Zad.new w #[.int .i64 gn,.slice ga gv.length gc] 30;have hcu:=hcur.alloc (.cells #[.int .i64 gn,.slice ga gv.length gc] 30);have hws:W.heap.size=w.heap.size+1:=by rw[hW];exact Zao _ _
 rw[<-hW] at hb hc hcu;obtain⟨W2,hW2⟩:∃W2,W2=W.alloc (.cells #[] 59):=⟨_,rfl⟩;have ho0:Zaa (w.heap.size+1) (W.alloc (.cells #[] 59)) (.slice (some ⟨w.heap.size+1,0,none⟩) 0 0) []:=by
  rw[<-hws];exact Zke _ _ (Nat.le_refl _)
 have hb2:=(Below.refl W.heap.size W).alloc (Nat.le_refl _) (.cells #[] 59);have hcu2:=hcu.alloc (.cells #[] 59);rw[<-hW2] at ho0 hb2 hcu2;have hc2:=hc.below hb2;have hX:GmC W2 (.int .i64 gn) (.slice ga gv.length gc) ⟨gn,gv⟩:=GmC.up (GmC.up h0 hb) hb2;have hbw:=hb.trans (hb2.mono (by omega));have HW:=zH hW;have HW2:=zH hW2;have HC2:=zH hc2;have HX:=zH hX;have HF:=zH hf;have HO0:=zH ho0;have HBW:=zH hbw;have HCU:=zH hcu2;have HCC:=zH hC;have hs2:w.heap.size+1≤W2.heap.size:=by rw[<-hws];exact hb2.size
 have hnb:=hf.n;dsimp only at hnb;clear hW hW2 hb hc hcu hb2 hc2 hcu2 hX hf ho0 hi hz0 hz1 hz2 hws hcode hcur hbw h0 hC
 go_enter Tryz.func124,Tryz.ntmps124
 go_wp2_with fail
 rw[<-HW.out,<-HW2.out];refine (Ze7 HX.out HF.out).mono ?_;rintro e w1 ⟨rfl,hb1⟩;have HX1:Hid (Zns p a len cap w C 0 (.slice (some ⟨w.heap.size+1,0,none⟩) 0 0) w1):=
  ⟨[],rfl,HO0.out.below hb1,HCU.out.below hb1,Only.of_below (HBW.out.trans (hb1.mono (by omega))) (by omega),by rw[HCC.out];exact HC2.out.below hb1⟩
 obtain⟨z0,hz0⟩:∃z0,Gm.Zbt ⟨gn,gv⟩=z0:=⟨_,rfl⟩;have hz0b:=Zkb (g:=⟨gn,gv⟩);rw[hz0] at hz0b ⊢;clear hb1 HO0 HC2 HCU HBW HW HW2 HX hz0
 go_wp2_with fail
 go_loopw [5,6,7] (fun v r i wr=>∃(k:Nat) (z:Int),k≤5/\i=.int .i64 k/\r=.int .i64 z/\-600-10*(k:Int)≤z/\z≤600+10*(k:Int)/\Hid (Zns p a len cap w C k v wr)) (fun _ _ i _=>5-(intOf i).toNat)
 case atStart=>exact⟨0,z0,by omega,rfl,rfl,by omega,by omega,HX1⟩
 case round=>
  obtain⟨k,z,hk,rfl,rfl,hzl,hzh,hX⟩:=hrel;obtain⟨xs,hl,ho,hc,hO,hG⟩:=hX.out;have hG':=hG;rw[HCC.out] at hG';obtain⟨y0,y1⟩:=two hG';clear hG';have HO:=zH ho;have HC:=zH hc;have HOn:=zH hO;have HG:=zH hG;have hxl:=Nat.le_of_eq hl;have HL:=zH hl;have hszr:=Zab hG;clear hl ho hc hO hG
  by_cases hlt:(k:Int)<gn/\k<5
  ·obtain⟨n1,hk5⟩:=hlt
   have n2:(k:Int)<5:=by omega
   go_wp2_with fail
   refine (Zoq B p a len cap 6 [0,1,2,3,(-1),5] #[.int .i64 0,.int .i64 1,.int .i64 2,.int .i64 3,.int .i64 (-1),.int .i64 5] rfl 6 rfl (by decide) (by decide) _ hB HC.out (Hc.out.below (HOn.out.below hB)) _ rfl).mono ?_;rintro e w2 ⟨y,rfl,hy,hc2,ho2⟩;have hy5:-1≤y/\y≤5:=by simp at hy;omega
   have HC2:=zH hc2;have HO2:=zH (HO.out.only ho2 (by omega));have HOn2:=zH (HOn.out.trans ho2);have hsz2:w.heap.size+1≤w2.heap.size:=Nat.le_trans hszr ho2.low.size;have hG2:=HG.out.only ho2 (by omega);have HG2:=zH hG2;rw[HCC.out] at hG2;obtain⟨q0,q1⟩:=two hG2;have hw1:IntKind.i64.wrap (gn-1)=gn-1:=IntWalk.i64_in _ (by omega);have hwz:IntKind.i64.wrap (z-z)=0:=by rw[show z-z=0 by omega];rfl
   have hwy:IntKind.i64.wrap (z-y)=z-y:=IntWalk.i64_in _ (by omega);clear hc2 ho2 hG2 hy y0 y1
   by_cases he:(k:Int)=gn - 1
   ·have d0:((k:Int) == gn-1)=true:=by rw[beq_iff_eq];exact he
    have HE:=zH he;clear he
    go_wp2_with fail
    refine (Zaq z _).mono ?_;rintro e w4 ⟨rfl,hb4⟩;have HC4:=zH (HC2.out.below hb4);have HO4:=zH (HO2.out.below hb4);have HG4:=zH (HG2.out.below hb4);have HOn4:=zH (HOn2.out.trans (Only.of_below hb4 (by omega)));have hsz4:w.heap.size+1≤w4.heap.size:=Nat.le_trans hsz2 hb4.size;have Hown:=zH (World.ownsRow.alloc HO4.out (.cells #[.int .i64 z,.int .i64 1] 59));clear hb4
    go_wp2_with (at_builtin;refine wpList_append_own _ rfl _ _ 26 rfl (w.heap.size+1) 59 i0 (.agg #[.int .i64 0,.int .i64 0]) 2 16 Tryz.underlying26 HI.out HZ0.out HZ1.out HZ2.out rfl (by decide) _ _ _ rfl Hown.out ⟨w4.heap.size,0,none⟩ 1 1 [.int .i64 z,.int .i64 1] rfl rfl ?c1 ?c2 ?c3 ?c4 ?c5 ?_)
    case c1=>
     intro j u hj
     match j,hj with
     | 0,hj=>simp at hj;subst hj;simp[Addr.add]
     | 1,hj=>simp at hj;subst hj;simp[Addr.add]
    case c2=>intro u hu;simp at hu;rcases hu with rfl|rfl<;>rfl
    case c3=>unfold maxLen;omega
    case c4=>omega
    case c5=>simp;omega
    intro v' w5 hown' hgrow _;have hne:=Hown.out.lt;have HX2:Hid (Zns p a len cap w C (k+1) v' w5):=
     ⟨xs++[(z,1)],by rw[List.length_append,HL.out];rfl,Zaa.more (x:=(z,1)) hown',(HC4.out.alloc _).grown hgrow (fun e=>by have:=(hne p e).1;omega),(HOn4.out.alloc (by omega) _).grown (by omega) hgrow (fun g hg=>by have:=(hne g hg).1;omega),by
      have h1:=HG4.out.more (.cells #[.int .i64 z,.int .i64 1] 59);have h2:=Zab h1;exact (hgrow.block _ h2 (fun e=>by have:=(hne _ e.symm).1;omega)).trans h1⟩
    clear hown' hgrow hne
    go_wp2_with fail
    go_roundw
    case rel=>exact⟨k+1,0,by omega,by go_num,rfl,by omega,by omega,HX2⟩
    case measure=>simp[intOf];omega
   ·have d0:((k:Int) == gn-1)=false:=by rw[beq_eq_false_iff_ne];exact he
    clear he
    go_wp2_with fail
    refine (Zaq y _).mono ?_;rintro e w4 ⟨rfl,hb4⟩;have HC4:=zH (HC2.out.below hb4);have HO4:=zH (HO2.out.below hb4);have HG4:=zH (HG2.out.below hb4);have HOn4:=zH (HOn2.out.trans (Only.of_below hb4 (by omega)));have hsz4:w.heap.size+1≤w4.heap.size:=Nat.le_trans hsz2 hb4.size;have Hown:=zH (World.ownsRow.alloc HO4.out (.cells #[.int .i64 y,.int .i64 1] 59));clear hb4
    go_wp2_with (at_builtin;refine wpList_append_own _ rfl _ _ 26 rfl (w.heap.size+1) 59 i0 (.agg #[.int .i64 0,.int .i64 0]) 2 16 Tryz.underlying26 HI.out HZ0.out HZ1.out HZ2.out rfl (by decide) _ _ _ rfl Hown.out ⟨w4.heap.size,0,none⟩ 1 1 [.int .i64 y,.int .i64 1] rfl rfl ?c1 ?c2 ?c3 ?c4 ?c5 ?_)
    case c1=>
     intro j u hj
     match j,hj with
     | 0,hj=>simp at hj;subst hj;simp[Addr.add]
     | 1,hj=>simp at hj;subst hj;simp[Addr.add]
    case c2=>intro u hu;simp at hu;rcases hu with rfl|rfl<;>rfl
    case c3=>unfold maxLen;omega
    case c4=>omega
    case c5=>simp;omega
    intro v' w5 hown' hgrow _;have hne:=Hown.out.lt;have HX2:Hid (Zns p a len cap w C (k+1) v' w5):=
     ⟨xs++[(y,1)],by rw[List.length_append,HL.out];rfl,Zaa.more (x:=(y,1)) hown',(HC4.out.alloc _).grown hgrow (fun e=>by have:=(hne p e).1;omega),(HOn4.out.alloc (by omega) _).grown (by omega) hgrow (fun g hg=>by have:=(hne g hg).1;omega),by
      have h1:=HG4.out.more (.cells #[.int .i64 y,.int .i64 1] 59);have h2:=Zab h1;exact (hgrow.block _ h2 (fun e=>by have:=(hne _ e.symm).1;omega)).trans h1⟩
    clear hown' hgrow hne
    go_wp2_with fail
    go_roundw
    case rel=>exact⟨k+1,z-y,by omega,by go_num,rfl,by omega,by omega,HX2⟩
    case measure=>simp[intOf];omega
  ·have hcc:((decide ((k:Int)<gn) && decide ((k:Int)<5))=false):=by
    rw[Bool.and_eq_false_iff,decide_eq_false_iff_not,decide_eq_false_iff_not];omega
   by_cases n1:(k:Int)<gn
   ·have n2:¬(k:Int)<5:=by omega
    go_wp2_with fail
    go_ret;exact⟨_,xs,rfl,by omega,Zaa.lower HO.out (by omega),HC.out,HOn.out⟩
   ·go_wp2_with fail
    go_ret;exact⟨_,xs,rfl,by omega,Zaa.lower HO.out (by omega),HC.out,HOn.out⟩
theorem Zsp {g:G} (h1:-1≤g.n) (h2:g.n≤6) (h3:g.v.length≤33):GmOk g:=⟨by omega,by
  have e1:IntKind.i64.min=-9223372036854775808:=rfl;have e2:IntKind.i64.max=9223372036854775807:=rfl;simp[Lit.wf,e1,e2];omega⟩
theorem Zk0:∀(xs:List R) (k:Nat) (x:R),k<xs.length->((Zat xs).set (k*2) (.int .i64 x.1)).set (k*2+1) (.int .i64 x.2)=Zat (xs.set k x)
  | [],k,x,h=>by simp at h
  | y::xs,0,x,_=>rfl
  | y::xs,k+1,x,h=>by
    have:=Zk0 xs k x (by simpa using h);rw[show (k+1)*2=k*2+1+1 by omega];simp only[Zat,List.set_cons_succ];rw[this]
theorem Zaa.put0 {B g c:Nat} {w:World} {x:R} {xs:List R} (h:Zaa B w (.slice (some ⟨g,0,none⟩) (xs.length+1) c) (x::xs)) (y:R) :
    Zaa B ((w.setCell ⟨g,0,none⟩ (.int .i64 y.1)).setCell ⟨g,1,none⟩ (.int .i64 y.2)) (.slice (some ⟨g,0,none⟩) (xs.length+1) c) (y::xs):=by
  have h3:=((World.ownsRow.stored h (0*2) (.int .i64 y.1)).1.stored (0*2+1) (.int .i64 y.2)).1;rw[Zk0 (x::xs) 0 y (by simp)] at h3;exact h3
theorem Zaa.Z4w {B g c:Nat} {w:World} {x:R} {xs:List R} (h:Zaa B w (.slice (some ⟨g,0,none⟩) (xs.length+1) c) (x::xs)) :
    w.cell? ⟨g,0,none⟩=some (.int .i64 x.1)/\w.frozen? ⟨g,0,none⟩=false/\w.cell? ⟨g,1,none⟩=some (.int .i64 x.2)/\w.frozen? ⟨g,1,none⟩=false:=by
  have hl:(Zat (x::xs)).length=xs.length*2+2:=by rw[Zch,List.length_cons];omega
  exact⟨by rw[World.ownsRow.cellAt h 0 (by omega)];rfl,World.ownsRow.frozenAt h _,by rw[World.ownsRow.cellAt h 1 (by omega)];rfl,World.ownsRow.frozenAt h _⟩
structure StG (p q:Nat) (a:Option Addr) (len cap:Nat) (w wx:World) (gn:Int) (gv:List Int) (ga:Option Addr) (gc N:Nat):Prop where
  box:Zad wx q #[.int .i64 gn,.slice ga N gc] 30
  own:Zae (p+1) wx (.slice ga N gc) gv
  lv:gv.length=N
  ok:GmOk ⟨gn,gv⟩
  n33:2≤N/\N≤33
  cur:Cur wx p a len cap
  low:Below w.heap.size w wx
  res:Zad wx w.heap.size #[.int .i64 0,.slice none 0 0] 30
  pq:w.heap.size<p/\p<q
theorem StG.only {p q:Nat} {a:Option Addr} {len cap:Nat} {w wx wy:World} {gn:Int} {gv:List Int} {ga:Option Addr} {gc N:Nat} (h:StG p q a len cap w wx gn gv ga gc N) (ho:Only p wx wy) (hc:Cur wy p a len cap):StG p q a len cap w wy gn gv ga gc N:=
  have hh:=h.pq
  ⟨h.box.only ho (by omega),h.own.only ho (by omega),h.lv,h.ok,h.n33,hc,h.low.trans (ho.below (by omega)),h.res.only ho (by omega),h.pq⟩
theorem StG.below {p q:Nat} {a:Option Addr} {len cap:Nat} {w wx wy:World} {gn:Int} {gv:List Int} {ga:Option Addr} {gc N:Nat} (h:StG p q a len cap w wx gn gv ga gc N) (hb:Below wx.heap.size wx wy):StG p q a len cap w wy gn gv ga gc N:=
  ⟨h.box.below hb,h.own.below hb,h.lv,h.ok,h.n33,h.cur.below hb,h.low.trans (hb.mono h.low.size),h.res.below hb,h.pq⟩
theorem StG.gm {p q:Nat} {a:Option Addr} {len cap:Nat} {w wx:World} {gn:Int} {gv:List Int} {ga:Option Addr} {gc N:Nat} (h:StG p q a len cap w wx gn gv ga gc N):GmC wx (.int .i64 gn) (.slice ga N gc) ⟨gn,gv⟩:=
  GmC.Zhg (g:=⟨gn,gv⟩) h.own
theorem StG.put {p q:Nat} {a:Option Addr} {len cap:Nat} {w wx wy:World} {gn hn:Int} {gv hv:List Int} {ga ha:Option Addr} {gc hc N M:Nat} (h:StG p q a len cap w wx gn gv ga gc N)
    (ho:Only p wx wy) (hcu:Cur wy p a len cap) (hx:Zae wx.heap.size wy (.slice ha M hc) hv) (hl:hv.length=M) (hk:GmOk ⟨hn,hv⟩) (hM:2≤M/\M≤33) (hp:p<wx.heap.size) :
    StG p q a len cap w ((wy.setCell ⟨q,0,none⟩ (.int .i64 hn)).setCell ⟨q,1,none⟩ (.slice ha M hc)) hn hv ha hc M:=by
  have hs:=h.only ho hcu;have hh:=hs.pq;have hw:=hs.low.size;have hne:(Value.slice ha M hc).ownBlock≠some q:=Za1 hx hs.box.ty (by decide);exact⟨(hs.box.s0 _).s1 _,Zae.Zen (Zah (Zah hx hne) hne) (by omega),hl,hk,hM,(hcu.other (by omega) _).other (by omega) _,
    (hs.low.setCell (p:=⟨q,0,none⟩) (show w.heap.size≤q by omega) _).setCell (p:=⟨q,1,none⟩) (show w.heap.size≤q by omega) _,
    (hs.res.other (p:=⟨q,0,none⟩) (show q≠w.heap.size by omega) _).other (p:=⟨q,1,none⟩) (show q≠w.heap.size by omega) _,hh⟩
theorem Zdm {B:Nat} {w:World} {v:Value} {xs:List R} (h:Zaa B w v xs):∃(a:Option Addr) (c:Nat),v=.slice a xs.length c:=by
  obtain⟨a,c,e,_⟩:=Zai h;exact⟨a,c,e⟩
theorem Zuq {B n c:Nat} {w:World} {a:Option Addr} {xs:List R} (h:Zaa B w (.slice a n c) xs) (hx:xs.length≠0):∃g,a=some ⟨g,0,none⟩:=by
  obtain⟨a',c',e,_,hb,hg⟩:=Zai h;injection e with e1 e2 e3
  obtain⟨g,hg⟩:=hg (fun e=>hx (by rw[e];rfl));exact⟨g,e1.trans hg⟩
theorem StG.row {p q b m xc:Nat} {a:Option Addr} {len cap:Nat} {w wx:World} {gn:Int} {gv:List Int} {ga:Option Addr} {gc N:Nat} {xs:List R} (h:StG p q a len cap w wx gn gv ga gc N)
    (hx:Zaa (p+1) wx (.slice (some ⟨b,0,none⟩) m xc) xs) (i j:Nat) (u v:Value) :
    StG p q a len cap w ((wx.setCell ⟨b,i,none⟩ u).setCell ⟨b,j,none⟩ v) gn gv ga gc N:=by
  have hh:=h.pq;have hb:p+1≤b:=by
    obtain⟨a',c',e,_,hb,_⟩:=Zai hx;injection e with e1 e2 e3
    exact (hb _ e1.symm).1
  have hq:b≠q:=fun e=>Za1 hx h.box.ty (by decide) (by rw[e];rfl)
  have hn:(Value.slice ga N gc).ownBlock≠some b:=fun e=>by
    have h1:=Zay h.own e;have h2:=Zay hx (show (Value.slice (some ⟨b,0,none⟩) m xc).ownBlock=some b from rfl);exact TyAt.ne h1 h2 (by decide) rfl
  exact⟨(h.box.other (p:=⟨b,i,none⟩) hq _).other (p:=⟨b,j,none⟩) hq _,Zah (Zah h.own hn) hn,h.lv,h.ok,h.n33,(h.cur.other (by omega) _).other (by omega) _,
    (h.low.setCell (p:=⟨b,i,none⟩) (show w.heap.size≤b by omega) _).setCell (p:=⟨b,j,none⟩) (show w.heap.size≤b by omega) _,
    (h.res.other (p:=⟨b,i,none⟩) (show b≠w.heap.size by omega) _).other (p:=⟨b,j,none⟩) (show b≠w.heap.size by omega) _,hh⟩
structure StP (p q:Nat) (a:Option Addr) (len cap:Nat) (w wx:World) (gn:Int) (gv:List Int) (ga:Option Addr) (gc N:Nat) (xa:Option Addr) (m xc:Nat) (xs:List R):Prop where
  g:StG p q a len cap w wx gn gv ga gc N
  x:Zaa (p+1) wx (.slice xa m xc) xs
  lx:xs.length=m
  l5:m≤5
theorem StP.only {p q:Nat} {a:Option Addr} {len cap:Nat} {w wx wy:World} {gn:Int} {gv:List Int} {ga:Option Addr} {gc N:Nat} {xa:Option Addr} {m xc:Nat} {xs:List R} (h:StP p q a len cap w wx gn gv ga gc N xa m xc xs) (ho:Only p wx wy) (hc:Cur wy p a len cap):StP p q a len cap w wy gn gv ga gc N xa m xc xs:=
  ⟨h.g.only ho hc,h.x.only ho (by omega),h.lx,h.l5⟩
def Zsm (w:World) (e:Ending) (w':World):Prop:=
  ∃(g:G) (v u:Value) (xs:List R),e=.returned (.tuple #[.agg #[.int .i64 g.n,v],u])/\Zae w.heap.size w' v g.v/\GmOk g/\2≤g.v.length/\g.v.length≤33/\Zaa w.heap.size w' u xs/\xs.length≤5/\Below w.heap.size w w'
theorem Zqt (a:Option Addr) (len cap:Nat) (w:World) (hcode:Zc6 w.heap.size w a len) :
    Calls Tryz.prog 79 #[.slice a len cap] w (Zsm w):=by
  have Hc:=zH hcode;have hz1:=Zad.new w #[.int .i64 0,.slice none 0 0] 30;have hb0:=(Below.refl w.heap.size w).alloc (Nat.le_refl _) (.cells #[.int .i64 0,.slice none 0 0] 30);have hs0:=Zao w (.cells #[.int .i64 0,.slice none 0 0] 30);have HZ1:=zH hz1;have HB0:=zH hb0;have Hs0:=zH hs0;clear hz1 hb0 hs0 hcode
  go_enter Tryz.func79,Tryz.ntmps79
  go_wp2_with fail
  refine (Zuz w.heap.size a len cap _ (Hc.out.below HB0.out)).mono ?_;rintro e w1 ⟨rfl,hc1,hb1,hsz1⟩;rw[Hs0.out] at hc1 hb1 hsz1 ⊢;obtain⟨p,hp⟩:∃p,w.heap.size+1=p:=⟨_,rfl⟩;have HY1:=zH (show Zad w1 w.heap.size #[.int .i64 0,.slice none 0 0] 30 from (hb1.block _ (by omega)).trans HZ1.out);have HB1:=zH (HB0.out.trans (hb1.mono (by omega)));rw[hp] at hc1 hsz1 ⊢;have HU1:=zH hc1;have hBp:w.heap.size≤p:=by omega
  have hp2:w.heap.size<p:=by omega
  have hp3:p+1≤w1.heap.size:=by omega
  clear hc1 hb1 HZ1 HB0 Hs0 hp hsz1
  go_wp2_with fail
  refine (Zmn w.heap.size p a len cap 4 (by decide) (by decide) w1 hBp HU1.out (Hc.out.below HB1.out)).mono ?_;rintro e w2 ⟨g,v,rfl,hx2,hn1,hn5,hxl,hc2,ho2⟩;obtain⟨gn,gv⟩:=g;simp only at hx2 hn1 hn5 hxl ⊢;have hlen:2≤gv.length/\gv.length≤32:=by rw[hxl];exact Gm.Zw8 ⟨hn1,hn5⟩
  clear hxl;obtain⟨ga,gc,rfl⟩:=Zau hx2;have hs2:=ho2.low.size;obtain⟨N,hN⟩:∃N,gv.length=N:=⟨_,rfl⟩;rw[hN] at hx2 hlen ⊢;have hb2:=HB1.out.trans (ho2.below hBp);have HS:Hid (StG p w2.heap.size a len cap w (w2.alloc (.cells #[.int .i64 gn,.slice ga N gc] 30)) gn gv ga gc N):=
    ⟨Zad.new _ _ _,(Zae.Zen hx2 hp3).alloc _,hN,Zsp (by simp only;omega) (by simp only;omega) (by simp only;omega),by omega,hc2.alloc _,hb2.alloc hb2.size _,(HY1.out.only ho2 (by omega)).more _,hp2,by omega⟩
  have hq0:p<w2.heap.size:=by omega
  clear hx2 hn1 hn5 hlen hc2 ho2 hs2 hN hb2 HY1 HB1 HU1 hp3
  go_wp2_with fail
  generalize hW3:w2.alloc (.cells #[.int .i64 gn,.slice ga N gc] 30)=w3 at *;generalize hQ:w2.heap.size=q at *;clear hW3 hQ;refine (Zf9 w.heap.size p a len cap 16 (by decide) (by decide) w3 hBp HS.out.cur (Hc.out.below HS.out.low)).mono ?_;rintro e w4 ⟨b,rfl,hc4,ho4⟩;have HS4:=zH (HS.out.only ho4 hc4);clear hc4 ho4 HS
  go_upto_if 12 with fail
  go_cut [] (fun wx=>∃(gn:Int) (gv:List Int) (ga:Option Addr) (gc N:Nat),Hid (StG p q a len cap w wx gn gv ga gc N))
  case first=>
    cases b with
    | false=>
      go_wp2_with fail
      go_meet
      exact⟨_,_,_,_,_,HS4⟩
    | true=>
      go_wp2_with fail
      refine (Zsi w.heap.size p a len cap w4 hBp HS4.out.cur (Hc.out.below HS4.out.low)).mono ?_;rintro e w5 ⟨g,v,rfl,hx5,hm1,hm2,hl5,hc5,ho5⟩;obtain⟨hn,hv⟩:=g;simp only at hx5 hm1 hm2 hl5 ⊢;obtain⟨ha,hc,rfl⟩:=Zau hx5;obtain⟨d0,d1,f0,f1⟩:=two' (HS4.out.only ho5 hc5).box;obtain⟨M,hM⟩:∃M,hv.length=M:=⟨_,rfl⟩;rw[hM] at hx5 hl5 ⊢;have HS5:=zH (HS4.out.put (hn:=hn) ho5 hc5 hx5 hM (Zsp (by simp only;omega) (by simp only;omega) (by simp only;omega)) hl5 HS4.out.cur.lt);clear hx5 hm1 hm2 hl5 hc5 ho5 hM HS4
      go_wp2_with fail
      go_meet
      exact⟨_,_,_,_,_,HS5⟩
  case rest=>
    obtain⟨w6,rfl⟩:∃q:World,q=wc:=⟨_,rfl⟩;clear HS4;clear gn gv ga gc N;obtain⟨gn,gv,ga,gc,N,HS6⟩:=hcut;obtain⟨d0,d1,f0,f1⟩:=two' HS6.out.box
    go_wp2_with fail
    refine (Zm2 w.heap.size p a len cap w6 hBp HS6.out.cur (Hc.out.below HS6.out.low) HS6.out.gm HS6.out.ok).mono ?_;rintro e w7 ⟨v,xs,rfl,hl7,hx7,hc7,ho7⟩;obtain⟨xa,xc,rfl⟩:=Zdm hx7;obtain⟨m,hm⟩:∃m,xs.length=m:=⟨_,rfl⟩;rw[hm] at hx7 hl7 ⊢;have HP7:Hid (StP p q a len cap w w7 gn gv ga gc N xa m xc xs):=⟨HS6.out.only ho7 hc7,Zaa.lower hx7 (by have:=HS6.out.cur.lt;omega),hm,hl7⟩;clear d0 d1 f0 f1 hx7 hl7 hc7 ho7 hm HS6
    go_upto_region 6 with fail
    go_cut [24] (fun v wx=>∃b:Bool,v=.bool b/\Hid (b=true->m≠0)/\Hid (StP p q a len cap w wx gn gv ga gc N xa m xc xs))
    case first=>
      by_cases hm0:m=0
      · subst hm0
        go_wp2_with fail
        go_meet
        exact⟨false,rfl,fun h=>(by cases h),HP7⟩
      · have hm1:(0:Int)<(m:Int):=by omega
        go_wp2_with fail
        refine (Zf9 w.heap.size p a len cap 10 (by decide) (by decide) w7 hBp HP7.out.g.cur (Hc.out.below HP7.out.g.low)).mono ?_;rintro e w8 ⟨b8,rfl,hc8,ho8⟩;have HP8:=zH (HP7.out.only ho8 hc8);clear hc8 ho8 HP7
        go_wp2_with fail
        go_meet
        exact⟨b8,rfl,fun _=>hm0,HP8⟩
    case rest=>
     obtain⟨w8,rfl⟩:∃q:World,q=wc:=⟨_,rfl⟩;clear HP7;obtain⟨b8,rfl,HM,HP8⟩:=hcut
     go_upto_if 24 with fail
     go_cut [6] (fun v wx=>∃(xa:Option Addr) (m xc:Nat) (xs:List R),v=.slice xa m xc/\Hid (StP p q a len cap w wx gn gv ga gc N xa m xc xs))
     case first=>
        have hmz:=HM.out;cases b8 with
        | false=>
          clear hmz
          go_wp2_with fail
          go_meet
          exact⟨_,_,_,_,rfl,HP8⟩
        | true=>
          have hm0:m≠0:=hmz rfl;clear hmz
          go_wp2_with fail
          refine (Zsg w.heap.size p a len cap w8 hBp HP8.out.g.cur (Hc.out.below HP8.out.g.low)).mono ?_;rintro e w9 ⟨N9,D9,rfl,hc9,ho9⟩;have HP9:=zH (HP8.out.only ho9 hc9);clear hc9 ho9 HP8;obtain⟨x,ys,rfl⟩:∃x ys,xs=x::ys:=by
            have:=HP9.out.lx;cases xs with
            | nil=>simp at this;omega
            | cons x ys=>exact⟨x,ys,rfl⟩
          obtain⟨b,rfl⟩:=Zuq HP9.out.x (by simp);obtain⟨m',hm'⟩:∃m':Nat,m'=ys.length:=⟨_,rfl⟩;have hmm:m=ys.length+1:=by have:=HP9.out.lx;simpa using this.symm
          have hx9:=HP9.out.x;rw[hmm] at hx9;obtain⟨y0,f0,y1,f1⟩:=Zaa.Z4w hx9;have hy:=Zaa.put0 hx9 (N9,D9);rw[<-hmm] at hy;have HPe:Hid (StP p q a len cap w ((w9.setCell ⟨b,0,none⟩ (.int .i64 N9)).setCell ⟨b,1,none⟩ (.int .i64 D9)) gn gv ga gc N (some ⟨b,0,none⟩) m xc ((N9,D9)::ys)):=
            ⟨StG.row HP9.out.g HP9.out.x 0 1 _ _,hy,by simpa using hmm.symm,HP9.out.l5⟩
          clear hm' hmm hx9 hy
          go_wp2_with fail
          go_meet
          exact⟨_,_,_,_,rfl,HPe⟩
     case rest=>
      obtain⟨w8,rfl⟩:∃q:World,q=wc:=⟨_,rfl⟩;clear HP8 HM;clear xa m xc xs;obtain⟨xa,m,xc,xs,rfl,HP8⟩:=hcut
      go_wp2_with fail
      refine (Zf9 w.heap.size p a len cap 3 (by decide) (by decide) w8 hBp HP8.out.g.cur (Hc.out.below HP8.out.g.low)).mono ?_;rintro e w9 ⟨b9,rfl,hc9,ho9⟩;have HP9:=zH (HP8.out.only ho9 hc9);clear hc9 ho9 HP8;obtain⟨d0,d1,f0,f1⟩:=two' HP9.out.g.box
      go_upto_if 30 with fail
      go_cut [6] (fun v wx=>∃(xa:Option Addr) (m xc:Nat) (xs:List R),v=.slice xa m xc/\Hid (StP p q a len cap w wx gn gv ga gc N xa m xc xs))
      case first=>
        cases b9 with
        | false=>
          go_wp2_with fail
          go_meet
          exact⟨_,_,_,_,rfl,HP9⟩
        | true=>
          go_wp2_with fail
          refine (Zje HP9.out.g.gm HP9.out.g.ok).mono ?_;rintro e wa ⟨v,rfl,hv,hba⟩;obtain⟨va,vc,rfl⟩:=Zdm hv;have hlv:=Sh.Z2g ⟨gn,gv⟩;obtain⟨ls,hls⟩:∃ls,Sh.shR ⟨gn,gv⟩=ls:=⟨_,rfl⟩;rw[hls] at hv hlv ⊢;obtain⟨M,hM⟩:∃M,ls.length=M:=⟨_,rfl⟩;rw[hM] at hv hlv ⊢;have HPa:Hid (StP p q a len cap w wa gn gv ga gc N va M vc ls):=⟨HP9.out.g.below hba,Zaa.lower hv HP9.out.g.cur.lt,hM,hlv⟩;clear hv hba hls hM hlv
          go_wp2_with fail
          go_meet
          exact⟨_,_,_,_,rfl,HPa⟩
      case rest=>
        obtain⟨w10,rfl⟩:∃q:World,q=wc:=⟨_,rfl⟩;clear HP9 d0 d1 f0 f1;clear xa m xc xs;obtain⟨xa,m,xc,xs,rfl,HP⟩:=hcut;obtain⟨d0,d1,_,_⟩:=two' HP.out.g.box;obtain⟨r0,r1,f0,f1⟩:=two' HP.out.g.res;have hne:(Value.slice ga N gc).ownBlock≠some w.heap.size:=Za1 HP.out.g.own HP.out.g.res.ty (by decide);have hnx:(Value.slice xa m xc).ownBlock≠some w.heap.size:=Za1 HP.out.x HP.out.g.res.ty (by decide);have HA:=zH (Zah (i:=1) (u:=.slice ga N gc) (Zah (i:=0) (u:=.int .i64 gn) HP.out.g.own hne) hne);have HX:=zH (Zah (i:=1) (u:=.slice ga N gc) (Zah (i:=0) (u:=.int .i64 gn) HP.out.x hnx) hnx);have HE1:=zH ((HP.out.g.res.s0 (.int .i64 gn)).s1 (.slice ga N gc));have HBe:=zH ((HP.out.g.low.setCell (p:=⟨w.heap.size,0,none⟩) (Nat.le_refl _) (.int .i64 gn)).setCell (p:=⟨w.heap.size,1,none⟩) (Nat.le_refl _) (.slice ga N gc));clear hne hnx
        go_wp2_with fail
        refine bodyPost_ret (v:=.tuple #[.agg #[.int .i64 gn,.slice ga N gc],.slice xa m xc]) (by
          obtain⟨z0,z1⟩:=two HE1.out;revert z0 z1;generalize ((w10.setCell ⟨w.heap.size,0,none⟩ (.int .i64 gn)).setCell ⟨w.heap.size,1,none⟩ (.slice ga N gc))=W4;intro z0 z1;simp[results,Tryz.results79,go_sem,z0,z1]) rfl ⟨⟨gn,gv⟩,_,_,xs,rfl,Zae.Zen (by have:=HA.out;rw[HP.out.g.lv.symm] at this ⊢;exact this) (by omega),HP.out.g.ok,by simp only;rw[HP.out.g.lv];exact HP.out.g.n33.1,by simp only;rw[HP.out.g.lv];exact HP.out.g.n33.2,Zaa.lower (by have:=HX.out;rw[HP.out.lx.symm] at this ⊢;exact this) (by omega),by rw[HP.out.lx];exact HP.out.l5,HBe.out⟩
theorem Zzm {B:Nat} {w:World} {v:Value} {xs:List R} (h:Zaa B w v xs):Zcc w v xs:=by
 obtain⟨a,c,e,hr,hb,_⟩:=Zai h;exact⟨a,c,e,hr⟩
theorem Zmg (a:Option Addr) (len cap:Nat) (w:World) (hcode:Zc6 w.heap.size w a len) :
  Calls Tryz.prog 30 #[.slice a len cap] w (Zsm w):=by
 have hz1:=Zad.new w #[.int .i64 0,.slice none 0 0] 30;have hb0:=(Below.refl w.heap.size w).alloc (Nat.le_refl _) (.cells #[.int .i64 0,.slice none 0 0] 30);have hs0:=Zao w (.cells #[.int .i64 0,.slice none 0 0] 30);have HZ1:=zH hz1;have HB0:=zH hb0;have Hs0:=zH hs0;have Hc:=zH ((hcode.below hb0).mono (show w.heap.size≤(w.alloc (.cells #[.int .i64 0,.slice none 0 0] 30)).heap.size by omega));clear hz1 hb0 hs0 hcode
 go_enter Tryz.func30,Tryz.ntmps30
 go_wp2_with fail
 refine (Zqt a len cap _ Hc.out).mono ?_;rintro e w1 ⟨g,v,u,xs,rfl,hg,hok,hl1,hl2,hx,hx5,hb⟩;obtain⟨gn,gv⟩:=g;simp only at hg hl1 hl2 ⊢;obtain⟨av,cv,rfl⟩:=Zau hg;obtain⟨xa,xc,rfl⟩:=Zdm hx;have hb1:=HB0.out.trans (hb.mono (by rw[Hs0.out];omega));have hz:=HZ1.out.below hb;obtain⟨d0,d1,f0,f1⟩:=two' hz;have HE1:=zH ((hz.s0 (.int .i64 gn)).s1 (.slice av gv.length cv));have HBe:=zH ((hb1.setCell (p:=⟨w.heap.size,0,none⟩) (Nat.le_refl _) (.int .i64 gn)).setCell (p:=⟨w.heap.size,1,none⟩) (Nat.le_refl _) (.slice av gv.length cv));have n1:=Za1 hg hz.ty (by decide);have n2:=Za1 hx hz.ty (by decide);have HG:=zH (Zah (i:=1) (u:=.slice av gv.length cv) (Zah (i:=0) (u:=.int .i64 gn) hg n1) n1);have HX:=zH (Zah (i:=1) (u:=.slice av gv.length cv) (Zah (i:=0) (u:=.int .i64 gn) hx n2) n2);have hsz0:w.heap.size≤(w.alloc (.cells #[.int .i64 0,.slice none 0 0] 30)).heap.size:=by rw[Zao];omega
 clear hg hz hb hb1 n1 n2 hx
 go_wp2_with fail
 refine bodyPost_ret (v:=.tuple #[.agg #[.int .i64 gn,.slice av gv.length cv],.slice xa xs.length xc]) (by
  obtain⟨z0,z1⟩:=two HE1.out;revert z0 z1;generalize ((w1.setCell ⟨w.heap.size,0,none⟩ (.int .i64 gn)).setCell ⟨w.heap.size,1,none⟩ (.slice av gv.length cv))=W4;intro z0 z1;simp[results,Tryz.results30,go_sem,z0,z1]) rfl ⟨⟨gn,gv⟩,_,_,xs,rfl,Zae.Zen HG.out hsz0,hok,hl1,hl2,Zaa.lower HX.out hsz0,hx5,HBe.out⟩
end Go.Proofs.YtjfnleilddgjiaaGreat
