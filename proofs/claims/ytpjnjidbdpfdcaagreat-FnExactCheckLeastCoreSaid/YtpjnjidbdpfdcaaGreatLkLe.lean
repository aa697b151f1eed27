/- A kind of arguments and results of exact laws: results about the least core: laws.szLeastResult, toLeastResult, eqLeastResult, markLeastResult, heldLeastResult. -/
import Derived.Test.YtpjnjidbdpfdcaaGreatLkRats
import Derived.Test.YtpjnjidbdpfdcaaGreatHLeN
import Derived.Test.YtpjnjidbdpfdcaaGreatGLk
import Derived.Test.YtpjnjidbdpfdcaaGreatGLa
import Derived.Test.YtpjnjidbdpfdcaaGreatGRa
set_option maxRecDepth 100000
set_option maxHeartbeats 2000000
namespace Go.Proofs.YtpjnjidbdpfdcaaGreat
open Go.RowKit
open Ve (R)
open Le (Lst)
theorem five {w:World} {q:Nat} {x n d y z:Value} {t:TypeId} (h:Zaa w q #[x,n,d,y,z] t) :
  w.cell? ⟨q,0,none⟩=some x/\w.cell? ⟨q,1,none⟩=some n/\w.cell? ⟨q,2,none⟩=some d/\w.cell? ⟨q,3,none⟩=some y/\w.cell? ⟨q,4,none⟩=some z:=⟨h.cell 0,h.cell 1,h.cell 2,h.cell 3,h.cell 4⟩
theorem Znm {w:World} {q:Nat} {x n d y z:Value} {t:TypeId} (h:Zaa w q #[x,n,d,y,z] t) :
  w.frozen? ⟨q,0,none⟩=false/\w.frozen? ⟨q,1,none⟩=false/\w.frozen? ⟨q,2,none⟩=false/\w.frozen? ⟨q,3,none⟩=false/\w.frozen? ⟨q,4,none⟩=false:=⟨h.free 0,h.free 1,h.free 2,h.free 3,h.free 4⟩
def Zgt (r:Lst):Prop:=r.point.length≤9223372036854775807/\r.weights.length≤9223372036854775807
def lstN (r:Lst):Nat:=r.point.length+r.weights.length
def Zdp (r:Lst):Prop:=lstN r≤1048576
theorem Zrh {r:Lst} (h:lstN r≤1048576):Zdp r:=h
theorem Zdp.p {r:Lst} (h:Zdp r):r.point.length≤1048576:=by unfold Zdp lstN at h;omega
theorem Zdp.w {r:Lst} (h:Zdp r):r.weights.length≤1048576:=by unfold Zdp lstN at h;omega
def LstC (w:World) (x n d y z:Value) (r:Lst):Prop:=x=.bool r.ok/\n=.int .i64 r.ex.1/\d=.int .i64 r.ex.2/\Za8 w y r.point/\Za8 w z r.weights
def Zes (lo hi:Nat) (w:World) (v:Value) (r:Lst):Prop:=∃(y z:Value) (l1 n1 l2 n2:Nat),v=.agg #[.bool r.ok,.int .i64 r.ex.1,.int .i64 r.ex.2,y,z]/\Zdr l1 n1 w y r.point/\Zdr l2 n2 w z r.weights/\(lo≤l1/\n1≤hi/\lo≤l2/\n2≤hi)/\(∀k,l1≤k->k<n1->k<l2\/n2≤k)/\hi≤w.heap.size
theorem LstC.up {w w':World} {x n d y z:Value} {r:Lst} (h:LstC w x n d y z r) (hb:Below w.heap.size w w'):LstC w' x n d y z r:=⟨h.1,h.2.1,h.2.2.1,h.2.2.2.1.up hb,h.2.2.2.2.up hb⟩
theorem LstC.one {w:World} {x n d y z:Value} {r:Lst} (h:LstC w x n d y z r):x.oneCell'=true/\n.oneCell'=true/\d.oneCell'=true/\y.oneCell'=true/\z.oneCell'=true:=by
 obtain⟨rfl,rfl,rfl,⟨a,c,rfl,_⟩,⟨b,d,rfl,_⟩⟩:=h;exact⟨rfl,rfl,rfl,rfl,rfl⟩
theorem LstC.rg {w:World} {x n d y z:Value} {r:Lst} (h:LstC w x n d y z r):Rg (fun w'=>LstC w' x n d y z r) 0 w.heap.size w:=
 ⟨h,Nat.le_refl _,fun w' hs hk=>⟨h.1,h.2.1,h.2.2.1,h.2.2.2.1.rg.on w' hs hk,h.2.2.2.2.rg.on w' hs hk⟩⟩
theorem Zes.rg {lo hi:Nat} {w:World} {v:Value} {r:Lst} (h:Zes lo hi w v r):Rg (fun w'=>Zes lo hi w' v r) lo hi w:=by
 have h0:=h;obtain⟨y,z,l1,n1,l2,n2,rfl,r1,r2,⟨q1,q2,q3,q4⟩,hd,hh⟩:=h;exact⟨h0,hh,fun w' hs hk=>⟨y,z,l1,n1,l2,n2,rfl,r1.rg.on w' hs fun k k1 k2=>hk k (by omega) (by omega),r2.rg.on w' hs fun k k1 k2=>hk k (by omega) (by omega),⟨q1,q2,q3,q4⟩,hd,Nat.le_trans hh hs⟩⟩
theorem Zes.Zbo {lo hi:Nat} {w:World} {x n d y z:Value} {r:Lst} (h:Zes lo hi w (.agg #[x,n,d,y,z]) r):LstC w x n d y z r:=by
 obtain⟨y',z',l1,n1,l2,n2,e,r1,r2,_⟩:=h;injection e with e
 have e0:x=.bool r.ok:=by have:=congrArg (fun q=>q[0]?) e;simpa using this
 have e1:n=.int .i64 r.ex.1:=by have:=congrArg (fun q=>q[1]?) e;simpa using this
 have e2:d=.int .i64 r.ex.2:=by have:=congrArg (fun q=>q[2]?) e;simpa using this
 have e3:y=y':=by have:=congrArg (fun q=>q[3]?) e;simpa using this
 have e4:z=z':=by have:=congrArg (fun q=>q[4]?) e;simpa using this
 subst e0 e1 e2 e3 e4;exact⟨rfl,rfl,rfl,r1.reads,r2.reads⟩
theorem Zpw {w:World} {x n d y z:Value} {r:Lst} (h:LstC w x n d y z r) (hn:Zgt r) (left:Int) (hl0:0≤left) (hl1:left≤1048576) :
  Calls Tryz.prog 5 #[.agg #[x,n,d,y,z],.int .i64 left] w fun e w'=>(∃q:Int,e=.returned (.int .i64 q)/\-1≤q/\q≤1048576/\(0≤q->(lstN r:Int)+q=left))/\Below w.heap.size w w':=by
 obtain⟨rfl,rfl,rfl,h1,h2⟩:=h;have hb:=(Below.refl w.heap.size w).alloc (Nat.le_refl _) (.cells #[.bool r.ok,.int .i64 r.ex.1,.int .i64 r.ex.2,y,z] 29);have hq:=Zaa.new w #[.bool r.ok,.int .i64 r.ex.1,.int .i64 r.ex.2,y,z] 29;have H1:=zH (h1.up hb);have H2:=zH (h2.up hb);have HB:=zH hb;have HQ:=zH hq;obtain⟨ay,cy,ey,_⟩:=h1;obtain⟨az,cz,ez,_⟩:=h2;have hn1:=hn.1;have hn2:=hn.2;obtain⟨q0,q1,q2,q3,q4⟩:=five hq;subst ey ez;clear hb hq hn
 go_enter Tryz.func5,Tryz.ntmps5
 go_wp2_with fail
 generalize w.alloc (.cells #[.bool r.ok,.int .i64 r.ex.1,.int .i64 r.ex.2,.slice ay r.point.length cy,.slice az r.weights.length cz] 29)=W at *;refine (Zkk H1.out hn1 left hl0 hl1).mono ?_;rintro e w1 ⟨⟨q,rfl,hq0,hq1,hq2⟩,k1⟩;have HB1:=zH (HB.out.trans (k1.mono HB.out.size));have HW1:=zH (HQ.out.below k1);have H3:=zH (H2.out.up k1);clear k1 q0 q1 q2 q3 q4 H2 H1 HQ;obtain⟨q0,q1,q2,q3,q4⟩:=five HW1.out
 by_cases hneg:q<0
 ·have hb2:decide (q<0)=true:=by rw[decide_eq_true_iff];exact hneg
  go_wp2_with fail
  go_ret;exact⟨⟨-1,rfl,by omega,by omega,fun h=>by omega⟩,HB1.out⟩
 ·have hb2:decide (q<0)=false:=by rw[decide_eq_false_iff_not];exact hneg
  have Hq2:=zH hq2;clear hq2
  go_wp2_with fail
  refine (Zkk H3.out hn2 q (by omega) hq1).mono ?_;rintro e w2 ⟨⟨s,rfl,hs0,hs1,hs2⟩,k2⟩;have HB2:=zH (HB1.out.trans (k2.mono HB1.out.size));have Hs2:=zH hs2;clear k2 hs2 q0 q1 q2 q3 q4
  by_cases hneg2:s<0
  ·have hb3:decide (s<0)=true:=by rw[decide_eq_true_iff];exact hneg2
   go_wp2_with fail
   go_ret;exact⟨⟨-1,rfl,by omega,by omega,fun h=>by omega⟩,HB2.out⟩
  ·have hb3:decide (s<0)=false:=by rw[decide_eq_false_iff_not];exact hneg2
   go_wp2_with fail
   go_ret;refine⟨⟨s,rfl,by omega,by omega,fun h=>?_⟩,HB2.out⟩;have:=Hq2.out (by omega);have:=Hs2.out (by omega);unfold lstN;omega
structure Zb0 (W w:World) (s:Nat) (cs os:Array Value):Prop where
 arg:Zaa w s cs 29
 res:Zaa w (s+1) #[.bool false,.int .i64 0,.int .i64 0,.slice none 0 0,.slice none 0 0] 38
 out:Zaa w (s+1+1) os 38
 low:Below s W w
 size:s+3≤w.heap.size
theorem Zb0.start (w:World) (cs os:Array Value) :
  Zb0 w (((w.alloc (.cells cs 29)).alloc (.cells #[.bool false,.int .i64 0,.int .i64 0,.slice none 0 0,.slice none 0 0] 38)).alloc (.cells os 38)) w.heap.size cs os:=by
 have e1:(w.alloc (.cells cs 29)).heap.size=w.heap.size+1:=Zar _ _;have e2:=Zib w (.cells cs 29) (.cells #[.bool false,.int .i64 0,.int .i64 0,.slice none 0 0,.slice none 0 0] 38);have h1:=Zaa.new w cs 29;have h2:=Zaa.new (w.alloc (.cells cs 29)) #[.bool false,.int .i64 0,.int .i64 0,.slice none 0 0,.slice none 0 0] 38;have h3:=Zaa.new ((w.alloc (.cells cs 29)).alloc (.cells #[.bool false,.int .i64 0,.int .i64 0,.slice none 0 0,.slice none 0 0] 38)) os 38;rw[e1] at h2;rw[e2] at h3;exact⟨(h1.more _).more _,h2.more _,h3,(((Below.refl _ w).alloc (Nat.le_refl _) _).alloc (by rw[e1];omega) _).alloc (by rw[e2];omega) _,by rw[Zar,e2];omega⟩
theorem Zb0.below {W w w':World} {s:Nat} {cs os:Array Value} (h:Zb0 W w s cs os) (hb:Below w.heap.size w w'):Zb0 W w' s cs os:=
 ⟨h.arg.below hb,h.res.below hb,h.out.below hb,h.low.trans (hb.mono (by have:=h.size;omega)),by have:=h.size;have:=hb.size;omega⟩
theorem Zb0.set {W w:World} {s:Nat} {cs os:Array Value} (h:Zb0 W w s cs os) (i:Nat) (u:Value):Zb0 W (w.setCell ⟨s+1+1,i,none⟩ u) s cs (os.setIfInBounds i u):=
 ⟨h.arg.other (p:=⟨s+1+1,i,none⟩) (show s+1+1≠s by omega) u,h.res.other (p:=⟨s+1+1,i,none⟩) (show s+1+1≠s+1 by omega) u,h.out.set i u,h.low.setCell (p:=⟨s+1+1,i,none⟩) (show s≤s+1+1 by omega) u,by have:=h.size;simpa [World.setCell] using this⟩
theorem Zjn {w:World} {x n d y z:Value} {r:Lst} (h:LstC w x n d y z r) (hf:Zdp r) :
  Calls Tryz.prog 8 #[.agg #[x,n,d,y,z]] w fun e w'=>(∃x n d y z:Value,e=.returned (.agg #[x,n,d,y,z])/\Zes w.heap.size w'.heap.size w' (.agg #[x,n,d,y,z]) r)/\Below w.heap.size w w':=by
 obtain⟨rfl,rfl,rfl,h1,h2⟩:=h;have hp:=hf.p;have hw:=hf.w;have H1:=zH h1;have H2:=zH h2;obtain⟨ay,cy,ey,_⟩:=h1;obtain⟨az,cz,ez,_⟩:=h2;subst ey ez;have Hb0:=zH (Zb0.start w #[.bool r.ok,.int .i64 r.ex.1,.int .i64 r.ex.2,.slice ay r.point.length cy,.slice az r.weights.length cz] #[.bool r.ok,.int .i64 0,.int .i64 0,.slice none 0 0,.slice none 0 0]);clear hf
 go_enter Tryz.func8,Tryz.ntmps8
 go_wp2_with fail
 refine (Zgk r.ex.1 r.ex.2 _).mono ?_;rintro e w1 ⟨rfl,kA⟩;have hb1:=Hb0.out.below kA;obtain⟨r0,r1,r2,r3,r4⟩:=five hb1.arg;obtain⟨o0,o1,o2,o3,o4⟩:=five hb1.out;obtain⟨f0,f1,f2,f3,f4⟩:=Znm hb1.out;have Hb1:=zH ((hb1.set 1 (.int .i64 r.ex.1)).set 2 (.int .i64 r.ex.2));clear hb1 kA
 go_wp2_with fail
 clear r0 r1 r2 r3 r4 o0 o1 o2 o3 o4 f0 f1 f2 f3 f4;generalize (w1.setCell ⟨w.heap.size+1+1,1,none⟩ (.int .i64 r.ex.1)).setCell ⟨w.heap.size+1+1,2,none⟩ (.int .i64 r.ex.2)=w2 at *;refine (Zkn (H1.out.up Hb1.out.low) hp).mono ?_;rintro e w3 ⟨⟨v1,rfl,hr1⟩,k1⟩;have HR1:=zH hr1.rg;have hb1:=Hb1.out.below k1;obtain⟨r0,r1,r2,r3,r4⟩:=five hb1.arg;obtain⟨o0,o1,o2,o3,o4⟩:=five hb1.out;obtain⟨f0,f1,f2,f3,f4⟩:=Znm hb1.out;obtain⟨a1,c1,rfl,_⟩:=hr1.reads;have Hb2:=zH (hb1.set 3 (.slice a1 r.point.length c1));have HT1:Hid (Turned w.heap.size (w.heap.size+3) w3 (w3.setCell ⟨w.heap.size+1+1,3,none⟩ (.slice a1 r.point.length c1))):=(Turned.refl _ _ _).setCell (p:=⟨w.heap.size+1+1,3,none⟩) (by simp only;omega) (by simp only;omega) _;have HR2:=zH (HR1.out.turned HT1.out (.inr (by have:=Hb1.out.size;omega)));have hs2:=Hb1.out.size;have hk1:=k1.size;have hs3:=HT1.out.size;clear hb1 k1 hr1 HR1 HT1
 go_wp2_with fail
 clear r0 r1 r2 r3 r4 o0 o1 o2 o3 o4 f0 f1 f2 f3 f4;generalize w3.setCell ⟨w.heap.size+1+1,3,none⟩ (.slice a1 r.point.length c1)=w4 at *;obtain⟨r0,r1,r2,r3,r4⟩:=five Hb2.out.arg
 go_wp2_with fail
 refine (Zkn (H2.out.up Hb2.out.low) hw).mono ?_;rintro e w5 ⟨⟨v2,rfl,hr2⟩,k2⟩;have HS3:=zH hr2.rg;have HR3:=zH (HR2.out.below k2);have hs4:=k2.size;have hb1:=Hb2.out.below k2;clear r0 r1 r2 r3 r4;obtain⟨o0,o1,o2,o3,o4⟩:=five hb1.out;obtain⟨f0,f1,f2,f3,f4⟩:=Znm hb1.out;obtain⟨a2,c2,rfl,_⟩:=hr2.reads;have hb5:=hb1.set 4 (.slice a2 r.weights.length c2);obtain⟨x0,x1,x2,x3,x4⟩:=five hb5.res;obtain⟨g0,g1,g2,g3,g4⟩:=Znm hb5.res;obtain⟨y0,y1,y2,y3,y4⟩:=five hb5.out;have Hb5:=zH hb5;have Hs2:=zH Hb1.out.size;have Hs5:=zH Hb2.out.size;clear hb1 k2 hr2 hb5 Hb0 Hb1 Hb2 HR2 H1 H2
 go_wp2_with fail
 have HF:Hid (Zaa ((((((w5.setCell ⟨w.heap.size+1+1,4,none⟩ (.slice a2 r.weights.length c2)).setCell ⟨w.heap.size+1,0,none⟩ (.bool r.ok)).setCell ⟨w.heap.size+1,1,none⟩ (.int .i64 r.ex.1)).setCell ⟨w.heap.size+1,2,none⟩ (.int .i64 r.ex.2)).setCell ⟨w.heap.size+1,3,none⟩ (.slice a1 r.point.length c1)).setCell ⟨w.heap.size+1,4,none⟩ (.slice a2 r.weights.length c2)) (w.heap.size+1) #[.bool r.ok,.int .i64 r.ex.1,.int .i64 r.ex.2,.slice a1 r.point.length c1,.slice a2 r.weights.length c2] 38):=
  ((((Hb5.out.res.set 0 (.bool r.ok)).set 1 (.int .i64 r.ex.1)).set 2 (.int .i64 r.ex.2)).set 3 (.slice a1 r.point.length c1)).set 4 (.slice a2 r.weights.length c2)
 have HT:Hid (Turned w.heap.size (w.heap.size+3) w5 ((((((w5.setCell ⟨w.heap.size+1+1,4,none⟩ (.slice a2 r.weights.length c2)).setCell ⟨w.heap.size+1,0,none⟩ (.bool r.ok)).setCell ⟨w.heap.size+1,1,none⟩ (.int .i64 r.ex.1)).setCell ⟨w.heap.size+1,2,none⟩ (.int .i64 r.ex.2)).setCell ⟨w.heap.size+1,3,none⟩ (.slice a1 r.point.length c1)).setCell ⟨w.heap.size+1,4,none⟩ (.slice a2 r.weights.length c2))):=by
  refine ((((((Turned.refl _ _ _).setCell ?_ ?_ _).setCell ?_ ?_ _).setCell ?_ ?_ _).setCell ?_ ?_ _).setCell ?_ ?_ _).setCell ?_ ?_ _<;>simp only<;>omega
 have HL:Hid (Below w.heap.size w ((((((w5.setCell ⟨w.heap.size+1+1,4,none⟩ (.slice a2 r.weights.length c2)).setCell ⟨w.heap.size+1,0,none⟩ (.bool r.ok)).setCell ⟨w.heap.size+1,1,none⟩ (.int .i64 r.ex.1)).setCell ⟨w.heap.size+1,2,none⟩ (.int .i64 r.ex.2)).setCell ⟨w.heap.size+1,3,none⟩ (.slice a1 r.point.length c1)).setCell ⟨w.heap.size+1,4,none⟩ (.slice a2 r.weights.length c2))):=
  (((((Hb5.out.low.setCell (p:=⟨w.heap.size+1,0,none⟩) (Nat.le_succ _) _).setCell (p:=⟨w.heap.size+1,1,none⟩) (Nat.le_succ _) _).setCell (p:=⟨w.heap.size+1,2,none⟩) (Nat.le_succ _) _).setCell (p:=⟨w.heap.size+1,3,none⟩) (Nat.le_succ _) _).setCell (p:=⟨w.heap.size+1,4,none⟩) (Nat.le_succ _) _)
 refine bodyPost_ret (v:=.agg #[.bool r.ok,.int .i64 r.ex.1,.int .i64 r.ex.2,.slice a1 r.point.length c1,.slice a2 r.weights.length c2]) (by
  obtain⟨z0,z1,z2,z3,z4⟩:=five HF.out;revert z0 z1 z2 z3 z4;generalize ((((((w5.setCell ⟨w.heap.size+1+1,4,none⟩ (.slice a2 r.weights.length c2)).setCell ⟨w.heap.size+1,0,none⟩ (.bool r.ok)).setCell ⟨w.heap.size+1,1,none⟩ (.int .i64 r.ex.1)).setCell ⟨w.heap.size+1,2,none⟩ (.int .i64 r.ex.2)).setCell ⟨w.heap.size+1,3,none⟩ (.slice a1 r.point.length c1)).setCell ⟨w.heap.size+1,4,none⟩ (.slice a2 r.weights.length c2))=W4;intro z0 z1 z2 z3 z4;simp[results,Tryz.results8,go_sem,z0,z1,z2,z3,z4]) rfl ⟨⟨_,_,_,_,_,rfl,?_⟩,HL.out⟩
 have h1:=(HR3.out.turned HT.out (.inr (by have:=Hs2.out;omega))).get;have h2:=(HS3.out.turned HT.out (.inr (by have:=Hs5.out;omega))).get;have hs9:=HT.out.size;have:=Hs2.out;exact⟨_,_,_,_,_,_,rfl,h1,h2,⟨by omega,by omega,by omega,hs9⟩,fun k k1 k2=>.inl (by omega),Nat.le_refl _⟩
theorem Zpx {w:World} {x n d y z:Value} {r:Lst} (h:LstC w x n d y z r) (hf:Zdp r) :
  Calls Tryz.prog 8 #[.agg #[x,n,d,y,z]] w fun e w'=>(∃x n d y z:Value,e=.returned (.agg #[x,n,d,y,z])/\LstC w' x n d y z r)/\Below w.heap.size w w':=
 (Zjn h hf).mono fun _ _ ⟨⟨x,n,d,y,z,h1,h2⟩,hb⟩=>⟨⟨x,n,d,y,z,h1,h2.Zbo⟩,hb⟩
theorem Zo8 {w:World} {x n d y z x' n' d' y' z':Value} {r:Lst} (h:LstC w x n d y z r) (h':LstC w x' n' d' y' z' r) (hf:Zdp r) :
  Calls Tryz.prog 11 #[.agg #[x,n,d,y,z],.agg #[x',n',d',y',z']] w fun e w'=>e=.returned (.bool true)/\Below w.heap.size w w':=by
 obtain⟨rfl,rfl,rfl,h1,h2⟩:=h;obtain⟨rfl,rfl,rfl,h1',h2'⟩:=h';have hp:=hf.p;have hw:=hf.w;have hb:=((Below.refl w.heap.size w).alloc (Nat.le_refl _) (.cells #[.bool r.ok,.int .i64 r.ex.1,.int .i64 r.ex.2,y,z] 38)).alloc (by rw[Zar];omega) (.cells #[.bool r.ok,.int .i64 r.ex.1,.int .i64 r.ex.2,y',z'] 38);have hc0:=(Zaa.new w #[.bool r.ok,.int .i64 r.ex.1,.int .i64 r.ex.2,y,z] 38).more (.cells #[.bool r.ok,.int .i64 r.ex.1,.int .i64 r.ex.2,y',z'] 38);have hc1:=Zaa.new (w.alloc (.cells #[.bool r.ok,.int .i64 r.ex.1,.int .i64 r.ex.2,y,z] 38)) #[.bool r.ok,.int .i64 r.ex.1,.int .i64 r.ex.2,y',z'] 38;rw[Zar] at hc1;have H1:=zH (h1.up hb);have H1':=zH (h1'.up hb);have H2:=zH (h2.up hb);have H2':=zH (h2'.up hb);have HB:=zH hb;have HC0:=zH hc0;have HC1:=zH hc1;obtain⟨q0,q1,q2,q3,q4⟩:=five hc0;obtain⟨p0,p1,p2,p3,p4⟩:=five hc1;obtain⟨a1,c1,e1,_⟩:=h1;obtain⟨a2,c2,e2,_⟩:=h2;obtain⟨a3,c3,e3,_⟩:=h1';obtain⟨a4,c4,e4,_⟩:=h2';subst e1 e2 e3 e4;have hne:(r.ok != r.ok)=false:=Zj8 _;clear hb hc0 hc1 hf
 go_enter Tryz.func11,Tryz.ntmps11
 go_wp2_with fail
 generalize (w.alloc (.cells #[.bool r.ok,.int .i64 r.ex.1,.int .i64 r.ex.2,.slice a1 r.point.length c1,.slice a2 r.weights.length c2] 38)).alloc (.cells #[.bool r.ok,.int .i64 r.ex.1,.int .i64 r.ex.2,.slice a3 r.point.length c3,.slice a4 r.weights.length c4] 38)=W at *;refine (Zgj r.ex.1 r.ex.2 _).mono ?_;rintro e w0 ⟨rfl,k1⟩
 replace HB:=zH (HB.out.trans (k1.mono HB.out.size))
 replace H1:=zH (H1.out.up k1)
 replace H1':=zH (H1'.out.up k1)
 replace H2:=zH (H2.out.up k1)
 replace H2':=zH (H2'.out.up k1)
 replace HC0:=zH (HC0.out.below k1)
 replace HC1:=zH (HC1.out.below k1)
 clear k1 q0 q1 q2 q3 q4 p0 p1 p2 p3 p4;obtain⟨q0,q1,q2,q3,q4⟩:=five HC0.out;obtain⟨p0,p1,p2,p3,p4⟩:=five HC1.out
 go_wp2_with fail
 refine (Zjq H1.out H1'.out hp).mono ?_;rintro e w1 ⟨rfl,k1⟩;have HB1:=zH (HB.out.trans (k1.mono HB.out.size));have H3:=zH (H2.out.up k1);have H3':=zH (H2'.out.up k1);have HC2:=zH (HC0.out.below k1);have HC3:=zH (HC1.out.below k1);clear k1 q0 q1 q2 q3 q4 p0 p1 p2 p3 p4 HC0 HC1 H1 H1' H2 H2';obtain⟨q0,q1,q2,q3,q4⟩:=five HC2.out;obtain⟨p0,p1,p2,p3,p4⟩:=five HC3.out
 go_wp2_with fail
 refine (Zjq H3.out H3'.out hw).mono ?_;rintro e w2 ⟨rfl,k2⟩;have HB2:=zH (HB1.out.trans (k2.mono HB1.out.size));clear k2 q0 q1 q2 q3 q4 p0 p1 p2 p3 p4
 go_wp2_with fail
 go_ret;exact⟨rfl,HB2.out⟩
def Zq4 (r:Lst):Lst:=⟨r.ok,r.ex,Zj1 1 r.point.length,Zj1 (1+2*r.point.length) r.weights.length⟩
def Zrx (r:Lst):Int:=1+2*(r.point.length:Int)+2*(r.weights.length:Int)
end Go.Proofs.YtpjnjidbdpfdcaaGreat
