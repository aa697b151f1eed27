/- The parts GmA, GmB. -/
import Derived.Test.YtlohljkfphljgaaGreatGK
import Derived.Test.YtlohljkfphljgaaGreatGmM
import Derived.Test.YtlohljkfphljgaaGreatGLk
set_option maxRecDepth 100000
set_option maxHeartbeats 1000000
namespace Go.Proofs.YtlohljkfphljgaaGreat
open Go.RowKit
open Gm (G)
theorem two {w:World} {q:Nat} {x y:Value} {t:TypeId} (h:Zac w q #[x,y] t):w.cell? ⟨q,0,none⟩=some x/\w.cell? ⟨q,1,none⟩=some y:=⟨h.cell 0,h.cell 1⟩
theorem two' {w:World} {q:Nat} {x y:Value} {t:TypeId} (h:Zac w q #[x,y] t):w.cell? ⟨q,0,none⟩=some x/\w.cell? ⟨q,1,none⟩=some y/\w.frozen? ⟨q,0,none⟩=false/\w.frozen? ⟨q,1,none⟩=false:=⟨h.cell 0,h.cell 1,h.free 0,h.free 1⟩
theorem Zac.s0 {w:World} {q:Nat} {x y:Value} {t:TypeId} (h:Zac w q #[x,y] t) (u:Value):Zac (w.setCell ⟨q,0,none⟩ u) q #[u,y] t:=by
 have:=h.set 0 u
 simpa using this
theorem Zac.s1 {w:World} {q:Nat} {x y:Value} {t:TypeId} (h:Zac w q #[x,y] t) (u:Value):Zac (w.setCell ⟨q,1,none⟩ u) q #[x,u] t:=by
 have:=h.set 1 u
 simpa using this
def Zov (g:G):Prop:=g.v.length≤9223372036854775807/\(Lit.int .i64 g.n).wf=true
def GmOk (g:G):Prop:=g.v.length≤1048576/\(Lit.int .i64 g.n).wf=true
theorem gmOk {g:G} (hw:Zov g) (h:g.v.length≤1048576):GmOk g:=⟨h,hw.2⟩
theorem GmOk.n {g:G} (h:GmOk g):-9223372036854775808≤g.n/\g.n≤9223372036854775807:=by
 have h2:=h.2;have e1:IntKind.i64.min=-9223372036854775808:=rfl;have e2:IntKind.i64.max=9223372036854775807:=rfl;simp[Lit.wf,e1,e2] at h2;exact h2
def GmC (w:World) (x y:Value) (g:G):Prop:=∃(a:Option Addr) (c:Nat),x=.int .i64 g.n/\y=.slice a g.v.length c/\Zat w.heap.size w a g.v
def Zf0 (lo hi:Nat) (w:World) (v:Value) (g:G):Prop:=∃vV:Value,v=.agg #[.int .i64 g.n,vV]/\Zby lo hi w vV g.v/\hi≤w.heap.size
theorem GmC.up {w w':World} {x y:Value} {g:G} (h:GmC w x y g) (hb:Below w.heap.size w w'):GmC w' x y g:=by
 obtain⟨a,c,e0,e1,hi⟩:=h;exact⟨a,c,e0,e1,(hi.below hb).mono hb.size⟩
theorem GmC.one {w:World} {x y:Value} {g:G} (h:GmC w x y g):x.oneCell'=true/\y.oneCell'=true:=by
 obtain⟨a,c,rfl,rfl,_⟩:=h;exact⟨rfl,rfl⟩
theorem GmC.rg {w:World} {x y:Value} {g:G} (h:GmC w x y g):Rg (fun w'=>GmC w' x y g) 0 w.heap.size w:=
 ⟨h,Nat.le_refl _,fun w' hs hk=>by
  obtain⟨a,c,e0,e1,hi⟩:=h;exact⟨a,c,e0,e1,Zat.mono (hi.same fun k h=>hk k (Nat.zero_le _) h) hs⟩⟩
theorem Zf0.size {lo hi:Nat} {w:World} {v:Value} {g:G} (h:Zf0 lo hi w v g):hi≤w.heap.size:=by
 obtain⟨_,_,_,h⟩:=h;exact h
theorem Zf0.Zbe {lo hi:Nat} {w:World} {x y:Value} {g:G} (h:Zf0 lo hi w (.agg #[x,y]) g):GmC w x y g:=by
 obtain⟨vV,e,hr,hs⟩:=h;obtain⟨a,c,rfl,hn⟩:=hr.reads;injection e with e
 have e0:x=.int .i64 g.n:=by have:=congrArg (fun q=>q[0]?) e;simpa using this
 have e1:y=.slice a g.v.length c:=by have:=congrArg (fun q=>q[1]?) e;simpa using this
 exact⟨a,c,e0,e1,hn.mono hs⟩
theorem Zf0.rg {lo hi:Nat} {w:World} {v:Value} {g:G} (h:Zf0 lo hi w v g):Rg (fun w'=>Zf0 lo hi w' v g) lo hi w:=by
 refine⟨h,h.size,fun w' hs hk=>?_⟩;obtain⟨vV,rfl,hr,hh⟩:=h;exact⟨vV,rfl,hr.same fun b hb=>by have:=hr.blk hb;exact hk b this.1 this.2.1,Nat.le_trans hh hs⟩
theorem Zf0.Zhg {lo:Nat} {w:World} {vV:Value} {g:G} (h:Zad lo w vV g.v):Zf0 lo w.heap.size w (.agg #[.int .i64 g.n,vV]) g:=
 ⟨vV,rfl,Zby.Zhg h fun g hg=>(World.ownsRow.lt h g hg).2,Nat.le_refl _⟩
theorem Z23 {w:World} {x y:Value} {g:G} (h:GmC w x y g) (hn:Zov g) (left:Int) (hl0:0≤left) (hl1:left≤1048576) :
  Calls Tryz.prog 48 #[.agg #[x,y],.int .i64 left] w fun e w'=>(∃r:Int,e=.returned (.int .i64 r)/\-1≤r/\r≤1048576/\(0≤r->(g.v.length:Int)+r=left))/\Below w.heap.size w w':=by
 obtain⟨a,c,rfl,rfl,hi⟩:=h;have hn1:=hn.1;have Hb:=zH ((Below.refl w.heap.size w).alloc (Nat.le_refl _) (.cells #[.int .i64 g.n,.slice a g.v.length c] 76));clear hn hi
 go_enter Tryz.func48,Tryz.ntmps48
 go_wp2_with fail
 refine (szI a g.v.length c left hn1 hl0 hl1 _).mono ?_;rintro e w1 ⟨r,rfl,hr0,hr1,hr2,rfl⟩
 by_cases hneg:r<0
 ·have hb2:decide (r<0)=true:=by rw[decide_eq_true_iff];exact hneg
  go_wp2_with fail
  go_ret;exact⟨⟨-1,rfl,by omega,by omega,fun h=>by omega⟩,Hb.out⟩
 ·have hb2:decide (r<0)=false:=by rw[decide_eq_false_iff_not];exact hneg
  go_wp2_with fail
  go_ret;exact⟨⟨r,rfl,by omega,by omega,fun h=>hr2 h⟩,Hb.out⟩
theorem Ztk {w:World} {x y:Value} {g:G} (h:GmC w x y g) (hf:GmOk g) :
  Calls Tryz.prog 49 #[.agg #[x,y]] w fun e w'=>(∃x y:Value,e=.returned (.agg #[x,y])/\Zf0 w.heap.size w'.heap.size w' (.agg #[x,y]) g)/\Below w.heap.size w w':=by
 obtain⟨a,c,rfl,rfl,hi⟩:=h;have hl:=hf.1;obtain⟨W,hW⟩:∃W,W=((w.alloc (.cells #[.int .i64 g.n,.slice a g.v.length c] 76)).alloc (.cells #[.int .i64 0,.slice none 0 0] 48)).alloc (.cells #[.int .i64 g.n,.slice none 0 0] 48):=⟨_,rfl⟩;have hc1:=(Zac.new (w.alloc (.cells #[.int .i64 g.n,.slice a g.v.length c] 76)) #[.int .i64 0,.slice none 0 0] 48).more (.cells #[.int .i64 g.n,.slice none 0 0] 48);rw[Zar,<-hW] at hc1;have hc2:=Zac.new ((w.alloc (.cells #[.int .i64 g.n,.slice a g.v.length c] 76)).alloc (.cells #[.int .i64 0,.slice none 0 0] 48)) #[.int .i64 g.n,.slice none 0 0] 48;rw[Zjv,<-hW] at hc2;have hb:=((((Below.refl w.heap.size w).alloc (Nat.le_refl _) (.cells #[.int .i64 g.n,.slice a g.v.length c] 76)).alloc (by rw[Zar];omega) (.cells #[.int .i64 0,.slice none 0 0] 48)).alloc (by rw[Zjv];omega) (.cells #[.int .i64 g.n,.slice none 0 0] 48));rw[<-hW] at hb;have hsz:w.heap.size+3≤W.heap.size:=by rw[hW,Zar,Zjv];omega
 have HI:=zH ((hi.below hb).mono (show w.heap.size≤W.heap.size by omega));have HB:=zH hb;have HC1:=zH hc1;have HC2:=zH hc2;have HW:=zH hW;clear hi hc1 hc2 hb hf hW
 go_enter Tryz.func49,Tryz.ntmps49
 go_wp2_with fail
 rw[<-HW.out];refine (Zri W.heap.size a c g.v hl W (Nat.le_refl _) HI.out).mono ?_;rintro e w1 ⟨v,rfl,ho,kB⟩;have HC3:=zH (HC1.out.below kB);have HC4:=zH (HC2.out.below kB);have HB1:=zH (HB.out.trans (kB.mono (by omega)));have hsz1:=kB.size;have HO:=zH ho;obtain⟨o0,o1,f0,f1⟩:=two' HC4.out;obtain⟨o2,o3,f2,f3⟩:=two' HC3.out;obtain⟨a2,c2,rfl,_⟩:=Zaw ho;clear ho kB HC1 HC2 HI HW;have hx:w.heap.size+1≠w.heap.size+2:=by omega
 go_wp2_with fail
 have hR:=(((HC3.out.other (p:=⟨w.heap.size+1+1,1,none⟩) (show w.heap.size+1+1≠w.heap.size+1 by omega) (.slice a2 g.v.length c2)).s0 (.int .i64 g.n)).s1 (.slice a2 g.v.length c2));have HR:=zH hR;clear hR;refine bodyPost_ret (v:=.agg #[.int .i64 g.n,.slice a2 g.v.length c2]) (by
  obtain⟨z0,z1⟩:=two HR.out;revert z0 z1;generalize (((w1.setCell ⟨w.heap.size+1+1,1,none⟩ (.slice a2 g.v.length c2)).setCell ⟨w.heap.size+1,0,none⟩ (.int .i64 g.n)).setCell ⟨w.heap.size+1,1,none⟩ (.slice a2 g.v.length c2))=W4;intro z0 z1;simp[results,Tryz.results49,go_sem,z0,z1]) rfl ⟨⟨_,_,rfl,?_⟩,?_⟩
 ·have ht:Turned w.heap.size (w.heap.size+3) w1 (((w1.setCell ⟨w.heap.size+1+1,1,none⟩ (.slice a2 g.v.length c2)).setCell ⟨w.heap.size+1,0,none⟩ (.int .i64 g.n)).setCell ⟨w.heap.size+1,1,none⟩ (.slice a2 g.v.length c2)):=by
   refine (((Turned.refl _ _ _).setCell ?_ ?_ _).setCell ?_ ?_ _).setCell ?_ ?_ _<;>simp only<;>omega
  exact Zf0.Zhg ((HO.out.turned ht fun g hg=>.inr (by have:=World.ownsRow.lt HO.out g hg;omega)).Zf9 (by omega))
 ·exact ((HB1.out.setCell (p:=⟨w.heap.size+1+1,1,none⟩) (show w.heap.size≤w.heap.size+1+1 by omega) _).setCell (p:=⟨w.heap.size+1,0,none⟩) (Nat.le_succ _) _).setCell (p:=⟨w.heap.size+1,1,none⟩) (Nat.le_succ _) _
theorem Z2h {w:World} {x y x' y':Value} {g:G} (h:GmC w x y g) (h':GmC w x' y' g) (hf:GmOk g) :
  Calls Tryz.prog 51 #[.agg #[x,y],.agg #[x',y']] w fun e w'=>e=.returned (.bool true)/\Below w.heap.size w w':=by
 obtain⟨a,c,rfl,rfl,hi⟩:=h;obtain⟨a',c',rfl,rfl,hi'⟩:=h';have hl:=hf.1;have hb:=((Below.refl w.heap.size w).alloc (Nat.le_refl _) (.cells #[.int .i64 g.n,.slice a g.v.length c] 48)).alloc (by rw[Zar];omega) (.cells #[.int .i64 g.n,.slice a' g.v.length c'] 48);have HI:=zH (hi.below hb).ints;have HI':=zH (hi'.below hb).ints;have HB:=zH hb;have hne:(g.n != g.n)=false:=by simp
 clear hi hi' hb hf
 go_enter Tryz.func51,Tryz.ntmps51
 go_wp2_with fail
 refine (Zrg a a' c c' g.v (by omega) _ HI.out HI'.out).mono ?_;rintro e w1 ⟨rfl,d,rfl⟩
 go_wp2_with fail
 go_ret;exact⟨rfl,below_drewN HB.out d⟩
theorem Zyj {lo hi:Nat} {w:World} {x y:Value} {g:G} (h:Zf0 lo hi w (.agg #[x,y]) g) (hf:GmOk g) (kk:Int) (h0:0≤kk) (h1:kk≤4194304) :
  Calls Tryz.prog 52 #[.agg #[x,y],.int .i64 kk] w fun e w'=>e=.returned (.int .i64 (kk+g.v.length))/\Zf0 lo hi w' (.agg #[x,y]) ⟨g.n,Zc2 kk.toNat g.v.length⟩/\Turned lo hi w w':=by
 obtain⟨vV,e,hr,hs⟩:=h;injection e with e
 have e0:x=.int .i64 g.n:=by have:=congrArg (fun q=>q[0]?) e;simpa using this
 have e1:y=vV:=by have:=congrArg (fun q=>q[1]?) e;simpa using this
 subst e0 e1;have hl:=hf.1;have hb:=(Below.refl w.heap.size w).alloc (Nat.le_refl _) (.cells #[.int .i64 g.n,y] 48);have HR:=zH (hr.below hb);obtain⟨a,c,rfl,_⟩:=hr;have HT:=zH (Turned.of_below (lo:=lo) (hi:=hi) hb);have hsz:=hb.size;clear hf hb e
 go_enter Tryz.func52,Tryz.ntmps52
 go_wp2_with fail
 refine (Zvz lo hi _ kk kk.toNat (by omega) g.v (by omega) (by omega) _ HR.out).mono ?_;rintro e w1 ⟨rfl,h3,row,h4,h5⟩;have HT1:=zH (HT.out.trans (Turned.Zof h4 fun b hb=>by have:=HR.out.blk (h5 b hb);omega));have H3:=zH h3;have hsz2:=h4.size;clear h3 h4 h5
 go_wp2_with fail
 go_ret;exact⟨rfl,⟨_,rfl,H3.out,by omega⟩,HT1.out⟩
theorem Zm3 {w:World} {x y:Value} {g:G} (h:GmC w x y g) (t:TypeId):GmC (w.alloc (.cells #[x,y] t)) x y g/\Below w.heap.size w (w.alloc (.cells #[x,y] t)):=
 ⟨h.up ((Below.refl _ _).alloc (Nat.le_refl _) _),(Below.refl _ _).alloc (Nat.le_refl _) _⟩
theorem Zhu (x a b:Int) (r:Bool) (h:decide (a≤x/\x≤b)=r) (w:World):Calls Tryz.prog 76 #[.int .i64 x,.int .i64 a,.int .i64 b] w fun e w'=>e=.returned (.bool r)/\w'=w:=(Za0 x a b r h w).mono fun _ _ ⟨h1,h2⟩=>⟨h1,h2.symm⟩
theorem Zp6 (n:Nat) (hn:n≤5) (w:World):Calls Tryz.prog 109 #[.int .i64 n] w fun e w'=>e=.returned (.int .i64 ((2 ^ n:Nat):Int))/\w'=w:=(Zei n hn w).mono fun _ _ ⟨h1,h2⟩=>⟨h1,h2.symm⟩
theorem Zry {g:G} (h:¬(1≤g.n/\g.n≤5)):Gm.shape g=false:=by unfold Gm.shape;simp only[h,decide_false,Bool.false_and]
theorem Ztb {g:G} {m:Nat} (h:g.n=m) (h1:1≤m) (h2:m≤5):Gm.shape g=decide (g.v.length=2 ^ m):=by
 have h3:(1≤g.n/\g.n≤5):=by omega
 have h4:g.n.toNat=m:=by omega
 unfold Gm.shape;rw[h4,decide_eq_true h3];rfl
theorem Zdd {w:World} {x y:Value} {g:G} (b:Bool) (hb:Gm.vld g=b) (h:GmC w x y g) (hf:GmOk g) :
  Calls Tryz.prog 98 #[.agg #[x,y]] w fun e w'=>e=.returned (.bool b)/\Below w.heap.size w w':=by
 obtain⟨gn,gv⟩:=g;obtain⟨a,c,rfl,rfl,hi⟩:=h;have hl:gv.length≤1048576:=hf.1;dsimp only at hi ⊢;have HBl:=zH ((Below.refl w.heap.size w).alloc (Nat.le_refl _) (.cells #[.int .i64 gn,.slice a gv.length c] 48));have HI:=zH (hi.below HBl.out);have HV:=zH hb;clear hi hb hf
 go_enter Tryz.func98,Tryz.ntmps98
 go_wp2_with fail
 go_loop [3] (fun i=>∃k:Nat,k≤gv.length/\i=.int .i64 k/\Hid (∀j,j<k->decide (-500≤gv.getD j 0/\gv.getD j 0≤500)=true)) (fun i=>gv.length-(intOf i).toNat)
 case atStart=>exact⟨0,Nat.zero_le _,rfl,fun j hj=>absurd hj (by omega)⟩
 case round=>
  obtain⟨k,hk,rfl,hA⟩:=hrel
  by_cases hlt:k<gv.length
  ·obtain⟨bb,o,rfl,_,hc⟩:=HI.out k hlt
   rcases hv:decide (-500≤gv.getD k 0/\gv.getD k 0≤500) with _|_
   ·have Hr:=zH (show false=b from (Gm.Zne (g:=⟨gn,gv⟩) (Gm.Zqj hlt hv)).symm.trans HV.out)
    generalize gv.getD k 0=x at *;have Hv:=zH hv;clear hv
    go_wp2_with fail
    refine (Za0 x (-500) 500 false Hv.out _).mono ?_;rintro e w1 ⟨rfl,rfl⟩
    go_wp2_with fail
    go_ret;exact⟨Zae Hr.out,HBl.out⟩
   ·have HA2:Hid (∀j,j<k+1->decide (-500≤gv.getD j 0/\gv.getD j 0≤500)=true):=fun j hj=>by
     by_cases e:j=k
     ·subst e;exact hv
     ·exact hA.out j (by omega)
    generalize gv.getD k 0=x at *;have Hv:=zH hv;clear hv
    go_wp2_with fail
    refine (Za0 x (-500) 500 true Hv.out _).mono ?_;rintro e w1 ⟨rfl,rfl⟩
    go_wp2_with fail
    go_round
    case rel=>exact⟨k+1,by omega,by go_num,HA2⟩
    case measure=>simp[intOf];omega
  ·have HW:=zH (Gm.Znf fun j hj=>hA.out j (by omega))
   clear hA
   by_cases hn:1≤gn/\gn≤5
   ·obtain⟨m,hm⟩:∃m:Nat,gn=m:=⟨gn.toNat,by omega⟩
    subst hm;have HS:=zH (Ztb (g:=⟨(m:Int),gv⟩) rfl (by omega) (by omega));have Hd:=zH (show decide (1≤(m:Int)/\(m:Int)≤5)=true by rw[decide_eq_true_iff];omega);have hm5:m≤5:=by omega
    have hpw:2 ^ m≤32:=Nat.pow_le_pow_right (by omega) hm5;have hp1:1≤2 ^ m:=Nat.one_le_two_pow;have HC:=zH (fun W=>Zp6 m hm5 W);clear hn
    by_cases hlen:gv.length=2 ^ m
    ·have HS2:=zH (HS.out.trans (decide_eq_true hlen))
     have Hr:=zH ((Gm.Ztn (g:=⟨(m:Int),gv⟩) HS2.out HW.out).symm.trans HV.out);have hpos:0<gv.length:=by omega
     have heq:((gv.length:Int) == ((2 ^ m:Nat):Int))=true:=by rw[hlen];simp
     obtain⟨bb,o,rfl,_,hc⟩:=HI.out 0 hpos;rw[Nat.add_zero] at hc;have Hz:Hid ((gv.getD 0 0 == 0)=b):=by
      have:=Hr.out;unfold Gm.Zxk at this;show _=_;rw[<-this,Bool.eq_iff_iff];simp
     clear hlen HS HS2 Hr HV HW;generalize 2 ^ m=q at *;generalize gv.getD 0 0=z at *
     go_wp2_with fail
     go_quiet (first | (go_at_call 76;exact Calls.quiet_of_same (Zhu m 1 5 true Hd.out _)) | (go_at_call 109;exact Calls.quiet_of_same (HC.out _)))
     go_wp2_with fail
     go_ret;exact⟨Zae Hz.out,below_drewN HBl.out nq⟩
    ·have Hr:=zH ((Gm.Zg2 (g:=⟨(m:Int),gv⟩) (HS.out.trans (decide_eq_false hlen))).symm.trans HV.out)
     have heq:((gv.length:Int) == ((2 ^ m:Nat):Int))=false:=(Zfq hlen).1;clear hlen HS HV HW;generalize 2 ^ m=q at *
     go_wp2_with fail
     go_quiet (first | (go_at_call 76;exact Calls.quiet_of_same (Zhu m 1 5 true Hd.out _)) | (go_at_call 109;exact Calls.quiet_of_same (HC.out _)))
     go_wp2_with fail
     go_ret;exact⟨Zae Hr.out,below_drewN HBl.out nq⟩
   ·have Hr:=zH ((Gm.Zg2 (g:=⟨gn,gv⟩) (Zry hn)).symm.trans HV.out)
    have Hd:=zH (show decide (1≤gn/\gn≤5)=false by rw[decide_eq_false_iff_not];exact hn);clear hn HV HW
    go_wp2_with fail
    go_quiet (first | (go_at_call 76;exact Calls.quiet_of_same (Zhu gn 1 5 false Hd.out _)))
    go_wp2_with fail
    go_ret;exact⟨Zae Hr.out,below_drewN HBl.out nq⟩
theorem Zlz {w:World} {x y:Value} {g:G} (h:GmC w x y g) (hf:GmOk g) :
  Calls Tryz.prog 92 #[.agg #[x,y]] w fun e w'=>e=.returned (.int .i64 (Gm.Zga g))/\Below w.heap.size w w':=by
 rcases hv:Gm.vld g with _|_
 ·have Hg:=zH (Gm.Zsl hv)
  have HV:=zH hv;have Hb:=Zm3 h 48;have HX:=zH Hb.1;have HB:=zH Hb.2;rw[Hg.out];clear hv Hb h
  go_enter Tryz.func92,Tryz.ntmps92
  go_wp2_with fail
  refine (Zdd false HV.out HX.out hf).mono ?_;rintro e w1 ⟨rfl,k⟩;have HB1:=zH (HB.out.trans (k.mono HB.out.size));clear k
  go_wp2_with fail
  go_ret;exact⟨rfl,HB1.out⟩
 ·obtain⟨m,hm,z,hz⟩:∃m,g.v.length=m+1/\∃z,g.v.getD m 0=z:=⟨g.v.length-1,by have:=Gm.Zef hv;omega,_,rfl⟩
  have Hg:=zH (show Gm.Zga g=z by rw[Gm.Zh8 hv,hm,<-hz];rfl);have HV:=zH hv;have hi0:=h;obtain⟨a,c,rfl,e1,hi⟩:=hi0;obtain⟨bb,o,rfl,_,hc⟩:=hi m (by omega);rw[hm] at e1;subst e1;rw[hz] at hc;have HX:=zH (Zm3 h 48).1;have HB:=zH (Zm3 h 48).2;have HC:=zH (Zac.new w #[.int .i64 g.n,.slice (some ⟨bb,o,none⟩) (m+1) c] 48);have hm2:m≤1048576:=by have:=hf.1;omega
  have HK:=zH (show bb<w.heap.size/\w.cell? ⟨bb,o+m,none⟩=some (.int .i64 z) from ⟨by assumption,hc⟩);rw[Hg.out];clear hv h hi hc hm hz
  go_enter Tryz.func92,Tryz.ntmps92
  go_wp2_with fail
  refine (Zdd true HV.out HX.out hf).mono ?_;rintro e w1 ⟨rfl,k⟩;have HB1:=zH (HB.out.trans (k.mono HB.out.size));obtain⟨m0,m1⟩:=two (HC.out.below k);have hc1:w1.cell? ⟨bb,o+m,none⟩=some (.int .i64 z):=(HB1.out.cell (p:=⟨bb,o+m,none⟩) HK.out.1).trans HK.out.2;clear k
  go_wp2_with fail
  go_ret;exact⟨rfl,HB1.out⟩
end Go.Proofs.YtlohljkfphljgaaGreat
