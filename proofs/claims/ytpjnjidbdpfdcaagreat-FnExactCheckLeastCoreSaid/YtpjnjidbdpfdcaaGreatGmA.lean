/- Games in memory; a kind of arguments and results of exact laws: laws.szGame, toGame, eqGame, markGame, heldGame. -/
import Derived.Test.YtpjnjidbdpfdcaaGreatGK
import Derived.Test.YtpjnjidbdpfdcaaGreatGmM
set_option maxRecDepth 100000
set_option maxHeartbeats 1000000
namespace Go.Proofs.YtpjnjidbdpfdcaaGreat
open Go.RowKit
open Gm (G)
theorem two {w:World} {q:Nat} {x y:Value} {t:TypeId} (h:Zaa w q #[x,y] t):w.cell? ⟨q,0,none⟩=some x/\w.cell? ⟨q,1,none⟩=some y:=⟨h.cell 0,h.cell 1⟩
theorem two' {w:World} {q:Nat} {x y:Value} {t:TypeId} (h:Zaa w q #[x,y] t):w.cell? ⟨q,0,none⟩=some x/\w.cell? ⟨q,1,none⟩=some y/\w.frozen? ⟨q,0,none⟩=false/\w.frozen? ⟨q,1,none⟩=false:=⟨h.cell 0,h.cell 1,h.free 0,h.free 1⟩
theorem Zaa.s0 {w:World} {q:Nat} {x y:Value} {t:TypeId} (h:Zaa w q #[x,y] t) (u:Value):Zaa (w.setCell ⟨q,0,none⟩ u) q #[u,y] t:=by
 have:=h.set 0 u
 simpa using this
theorem Zaa.s1 {w:World} {q:Nat} {x y:Value} {t:TypeId} (h:Zaa w q #[x,y] t) (u:Value):Zaa (w.setCell ⟨q,1,none⟩ u) q #[x,u] t:=by
 have:=h.set 1 u
 simpa using this
def Zhk (g:G):Prop:=g.v.length≤9223372036854775807/\(Lit.int .i64 g.n).wf=true
def GmOk (g:G):Prop:=g.v.length≤1048576/\(Lit.int .i64 g.n).wf=true
theorem gmOk {g:G} (hw:Zhk g) (h:g.v.length≤1048576):GmOk g:=⟨h,hw.2⟩
theorem GmOk.n {g:G} (h:GmOk g):-9223372036854775808≤g.n/\g.n≤9223372036854775807:=by
 have h2:=h.2;have e1:IntKind.i64.min=-9223372036854775808:=rfl;have e2:IntKind.i64.max=9223372036854775807:=rfl;simp[Lit.wf,e1,e2] at h2;exact h2
def GmC (w:World) (x y:Value) (g:G):Prop:=∃(a:Option Addr) (c:Nat),x=.int .i64 g.n/\y=.slice a g.v.length c/\Zal w.heap.size w a g.v
def Zck (lo hi:Nat) (w:World) (v:Value) (g:G):Prop:=∃vV:Value,v=.agg #[.int .i64 g.n,vV]/\Zbm lo hi w vV g.v/\hi≤w.heap.size
theorem GmC.up {w w':World} {x y:Value} {g:G} (h:GmC w x y g) (hb:Below w.heap.size w w'):GmC w' x y g:=by
 obtain⟨a,c,e0,e1,hi⟩:=h;exact⟨a,c,e0,e1,(hi.below hb).mono hb.size⟩
theorem GmC.one {w:World} {x y:Value} {g:G} (h:GmC w x y g):x.oneCell'=true/\y.oneCell'=true:=by
 obtain⟨a,c,rfl,rfl,_⟩:=h;exact⟨rfl,rfl⟩
theorem GmC.rg {w:World} {x y:Value} {g:G} (h:GmC w x y g):Rg (fun w'=>GmC w' x y g) 0 w.heap.size w:=
 ⟨h,Nat.le_refl _,fun w' hs hk=>by
  obtain⟨a,c,e0,e1,hi⟩:=h;exact⟨a,c,e0,e1,Zal.mono (hi.same fun k h=>hk k (Nat.zero_le _) h) hs⟩⟩
theorem Zck.size {lo hi:Nat} {w:World} {v:Value} {g:G} (h:Zck lo hi w v g):hi≤w.heap.size:=by
 obtain⟨_,_,_,h⟩:=h;exact h
theorem Zck.Zbo {lo hi:Nat} {w:World} {x y:Value} {g:G} (h:Zck lo hi w (.agg #[x,y]) g):GmC w x y g:=by
 obtain⟨vV,e,hr,hs⟩:=h;obtain⟨a,c,rfl,hn⟩:=hr.reads;injection e with e
 have e0:x=.int .i64 g.n:=by have:=congrArg (fun q=>q[0]?) e;simpa using this
 have e1:y=.slice a g.v.length c:=by have:=congrArg (fun q=>q[1]?) e;simpa using this
 exact⟨a,c,e0,e1,hn.mono hs⟩
theorem Zck.rg {lo hi:Nat} {w:World} {v:Value} {g:G} (h:Zck lo hi w v g):Rg (fun w'=>Zck lo hi w' v g) lo hi w:=by
 refine⟨h,h.size,fun w' hs hk=>?_⟩;obtain⟨vV,rfl,hr,hh⟩:=h;exact⟨vV,rfl,hr.same fun b hb=>by have:=hr.blk hb;exact hk b this.1 this.2.1,Nat.le_trans hh hs⟩
theorem Zck.Zh3 {lo:Nat} {w:World} {vV:Value} {g:G} (h:Zab lo w vV g.v):Zck lo w.heap.size w (.agg #[.int .i64 g.n,vV]) g:=
 ⟨vV,rfl,Zbm.Zh3 h fun g hg=>(World.ownsRow.lt h g hg).2,Nat.le_refl _⟩
theorem Zqw {w:World} {x y:Value} {g:G} (h:GmC w x y g) (hn:Zhk g) (left:Int) (hl0:0≤left) (hl1:left≤1048576) :
  Calls Tryz.prog 4 #[.agg #[x,y],.int .i64 left] w fun e w'=>(∃r:Int,e=.returned (.int .i64 r)/\-1≤r/\r≤1048576/\(0≤r->(g.v.length:Int)+r=left))/\Below w.heap.size w w':=by
 obtain⟨a,c,rfl,rfl,hi⟩:=h;have hn1:=hn.1;have Hb:=zH ((Below.refl w.heap.size w).alloc (Nat.le_refl _) (.cells #[.int .i64 g.n,.slice a g.v.length c] 24));clear hn hi
 go_enter Tryz.func4,Tryz.ntmps4
 go_wp2_with fail
 refine (szI a g.v.length c left hn1 hl0 hl1 _).mono ?_;rintro e w1 ⟨r,rfl,hr0,hr1,hr2,rfl⟩
 by_cases hneg:r<0
 ·have hb2:decide (r<0)=true:=by rw[decide_eq_true_iff];exact hneg
  go_wp2_with fail
  go_ret;exact⟨⟨-1,rfl,by omega,by omega,fun h=>by omega⟩,Hb.out⟩
 ·have hb2:decide (r<0)=false:=by rw[decide_eq_false_iff_not];exact hneg
  go_wp2_with fail
  go_ret;exact⟨⟨r,rfl,by omega,by omega,fun h=>hr2 h⟩,Hb.out⟩
theorem Zm4 {w:World} {x y:Value} {g:G} (h:GmC w x y g) (hf:GmOk g) :
  Calls Tryz.prog 7 #[.agg #[x,y]] w fun e w'=>(∃x y:Value,e=.returned (.agg #[x,y])/\Zck w.heap.size w'.heap.size w' (.agg #[x,y]) g)/\Below w.heap.size w w':=by
 obtain⟨a,c,rfl,rfl,hi⟩:=h;have hl:=hf.1;obtain⟨W,hW⟩:∃W,W=((w.alloc (.cells #[.int .i64 g.n,.slice a g.v.length c] 24)).alloc (.cells #[.int .i64 0,.slice none 0 0] 33)).alloc (.cells #[.int .i64 g.n,.slice none 0 0] 33):=⟨_,rfl⟩;have hc1:=(Zaa.new (w.alloc (.cells #[.int .i64 g.n,.slice a g.v.length c] 24)) #[.int .i64 0,.slice none 0 0] 33).more (.cells #[.int .i64 g.n,.slice none 0 0] 33);rw[Zar,<-hW] at hc1;have hc2:=Zaa.new ((w.alloc (.cells #[.int .i64 g.n,.slice a g.v.length c] 24)).alloc (.cells #[.int .i64 0,.slice none 0 0] 33)) #[.int .i64 g.n,.slice none 0 0] 33;rw[Zib,<-hW] at hc2;have hb:=((((Below.refl w.heap.size w).alloc (Nat.le_refl _) (.cells #[.int .i64 g.n,.slice a g.v.length c] 24)).alloc (by rw[Zar];omega) (.cells #[.int .i64 0,.slice none 0 0] 33)).alloc (by rw[Zib];omega) (.cells #[.int .i64 g.n,.slice none 0 0] 33));rw[<-hW] at hb;have hsz:w.heap.size+3≤W.heap.size:=by rw[hW,Zar,Zib];omega
 have HI:=zH ((hi.below hb).mono (show w.heap.size≤W.heap.size by omega));have HB:=zH hb;have HC1:=zH hc1;have HC2:=zH hc2;have HW:=zH hW;clear hi hc1 hc2 hb hf hW
 go_enter Tryz.func7,Tryz.ntmps7
 go_wp2_with fail
 rw[<-HW.out];refine (Zi4 W.heap.size a c g.v hl W (Nat.le_refl _) HI.out).mono ?_;rintro e w1 ⟨v,rfl,ho,kB⟩;have HC3:=zH (HC1.out.below kB);have HC4:=zH (HC2.out.below kB);have HB1:=zH (HB.out.trans (kB.mono (by omega)));have hsz1:=kB.size;have HO:=zH ho;obtain⟨o0,o1,f0,f1⟩:=two' HC4.out;obtain⟨o2,o3,f2,f3⟩:=two' HC3.out;obtain⟨a2,c2,rfl,_⟩:=Zbb ho;clear ho kB HC1 HC2 HI HW;have hx:w.heap.size+1≠w.heap.size+2:=by omega
 go_wp2_with fail
 have hR:=(((HC3.out.other (p:=⟨w.heap.size+1+1,1,none⟩) (show w.heap.size+1+1≠w.heap.size+1 by omega) (.slice a2 g.v.length c2)).s0 (.int .i64 g.n)).s1 (.slice a2 g.v.length c2));have HR:=zH hR;clear hR;refine bodyPost_ret (v:=.agg #[.int .i64 g.n,.slice a2 g.v.length c2]) (by
  obtain⟨z0,z1⟩:=two HR.out;revert z0 z1;generalize (((w1.setCell ⟨w.heap.size+1+1,1,none⟩ (.slice a2 g.v.length c2)).setCell ⟨w.heap.size+1,0,none⟩ (.int .i64 g.n)).setCell ⟨w.heap.size+1,1,none⟩ (.slice a2 g.v.length c2))=W4;intro z0 z1;simp[results,Tryz.results7,go_sem,z0,z1]) rfl ⟨⟨_,_,rfl,?_⟩,?_⟩
 ·have ht:Turned w.heap.size (w.heap.size+3) w1 (((w1.setCell ⟨w.heap.size+1+1,1,none⟩ (.slice a2 g.v.length c2)).setCell ⟨w.heap.size+1,0,none⟩ (.int .i64 g.n)).setCell ⟨w.heap.size+1,1,none⟩ (.slice a2 g.v.length c2)):=by
   refine (((Turned.refl _ _ _).setCell ?_ ?_ _).setCell ?_ ?_ _).setCell ?_ ?_ _<;>simp only<;>omega
  exact Zck.Zh3 ((HO.out.turned ht fun g hg=>.inr (by have:=World.ownsRow.lt HO.out g hg;omega)).Zou (by omega))
 ·exact ((HB1.out.setCell (p:=⟨w.heap.size+1+1,1,none⟩) (show w.heap.size≤w.heap.size+1+1 by omega) _).setCell (p:=⟨w.heap.size+1,0,none⟩) (Nat.le_succ _) _).setCell (p:=⟨w.heap.size+1,1,none⟩) (Nat.le_succ _) _
theorem Zqh {w:World} {x y x' y':Value} {g:G} (h:GmC w x y g) (h':GmC w x' y' g) (hf:GmOk g) :
  Calls Tryz.prog 10 #[.agg #[x,y],.agg #[x',y']] w fun e w'=>e=.returned (.bool true)/\Below w.heap.size w w':=by
 obtain⟨a,c,rfl,rfl,hi⟩:=h;obtain⟨a',c',rfl,rfl,hi'⟩:=h';have hl:=hf.1;have hb:=((Below.refl w.heap.size w).alloc (Nat.le_refl _) (.cells #[.int .i64 g.n,.slice a g.v.length c] 33)).alloc (by rw[Zar];omega) (.cells #[.int .i64 g.n,.slice a' g.v.length c'] 33);have HI:=zH (hi.below hb).ints;have HI':=zH (hi'.below hb).ints;have HB:=zH hb;have hne:(g.n != g.n)=false:=by simp
 clear hi hi' hb hf
 go_enter Tryz.func10,Tryz.ntmps10
 go_wp2_with fail
 refine (Zi2 a a' c c' g.v (by omega) _ HI.out HI'.out).mono ?_;rintro e w1 ⟨rfl,d,rfl⟩
 go_wp2_with fail
 go_ret;exact⟨rfl,below_drewN HB.out d⟩
end Go.Proofs.YtpjnjidbdpfdcaaGreat
