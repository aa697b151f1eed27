/- The parts LpV, LkLp, LkRats, LkLpr, LkCo. -/
import Derived.Test.YtjfnleilddgjiaaGreatGLr
import Derived.Deep.RegionHeld3
import Derived.Test.YtjfnleilddgjiaaGreatHGrI
import Derived.Test.YtjfnleilddgjiaaGreatGK
import Derived.Test.YtjfnleilddgjiaaGreatGVa
import Derived.Test.YtjfnleilddgjiaaGreatGIx
import Derived.Test.YtjfnleilddgjiaaGreatHCrP
import Derived.Test.YtjfnleilddgjiaaGreatGLa
set_option maxRecDepth 100000
set_option maxHeartbeats 1000000
namespace Go.Proofs.YtjfnleilddgjiaaGreat
open Go.RowKit
open Ve (R)
open Lp (P Res)
def LpC (w:World) (x y z:Value) (p:P):Prop:=∃(a b c:Option Addr) (c1 c2 c3:Nat),x=.slice a p.A.length c1∧y=.slice b p.B.length c2∧z=.slice c p.C.length c3∧LpIn w.heap.size w a b c p
theorem LpC.up {w w':World} {x y z:Value} {p:P} (h:LpC w x y z p) (hb:Below w.heap.size w w'):LpC w' x y z p:=by
 obtain⟨a,b,c,c1,c2,c3,e1,e2,e3,hi⟩:=h
 exact⟨a,b,c,c1,c2,c3,e1,e2,e3,(hi.below hb).mono hb.size⟩
theorem LpC.one {w:World} {x y z:Value} {p:P} (h:LpC w x y z p):x.oneCell'=true∧y.oneCell'=true∧z.oneCell'=true:=by
 obtain⟨a,b,c,c1,c2,c3,rfl,rfl,rfl,_⟩:=h
 exact⟨rfl,rfl,rfl⟩
def ResC (w:World) (u0 u1 u2 u3 u4 u5 u6:Value) (r:Res):Prop:=∃(a b c:Option Addr) (c1 c2 c3:Nat),u0=.int .i64 r.status∧u1=.slice a r.X.length c1∧u2=.slice b r.Y.length c2∧u3=.slice c r.ray.length c3∧u4=.int .i64 r.value.1∧u5=.int .i64 r.value.2∧u6=.int .i64 r.pivots∧ResIn w.heap.size w a b c r
theorem ResC.up {w w':World} {u0 u1 u2 u3 u4 u5 u6:Value} {r:Res} (h:ResC w u0 u1 u2 u3 u4 u5 u6 r) (hb:Below w.heap.size w w'):ResC w' u0 u1 u2 u3 u4 u5 u6 r:=by
 obtain⟨a,b,c,c1,c2,c3,e0,e1,e2,e3,e4,e5,e6,hi⟩:=h
 exact⟨a,b,c,c1,c2,c3,e0,e1,e2,e3,e4,e5,e6,(hi.below hb).mono hb.size⟩
theorem ResC.one {w:World} {u0 u1 u2 u3 u4 u5 u6:Value} {r:Res} (h:ResC w u0 u1 u2 u3 u4 u5 u6 r):u0.oneCell'=true∧u1.oneCell'=true∧u2.oneCell'=true∧u3.oneCell'=true∧u4.oneCell'=true∧u5.oneCell'=true∧u6.oneCell'=true:=by
 obtain⟨a,b,c,c1,c2,c3,rfl,rfl,rfl,rfl,rfl,rfl,rfl,_⟩:=h
 exact⟨rfl,rfl,rfl,rfl,rfl,rfl,rfl⟩
def NewLP (w:World) (p:P) (e:Ending) (w':World):Prop:=∃x y z:Value,e=.returned (.agg #[x,y,z])∧LpC w' x y z p∧OwnLP w.heap.size w'.heap.size w' (.agg #[x,y,z]) p
def NewRes (w:World) (r:Res) (e:Ending) (w':World):Prop:=∃u0 u1 u2 u3 u4 u5 u6:Value,e=.returned (.agg #[u0,u1,u2,u3,u4,u5,u6])∧ResC w' u0 u1 u2 u3 u4 u5 u6 r∧OwnRes w.heap.size w'.heap.size w' (.agg #[u0,u1,u2,u3,u4,u5,u6]) r
def ResResC (f:FuncId) (g:Res→Res→Bool):Prop:=∀(w:World) (u0 u1 u2 u3 u4 u5 u6 v0 v1 v2 v3 v4 v5 v6:Value) (r s:Res),ResFits r→ResFits s→ResC w u0 u1 u2 u3 u4 u5 u6 r→ResC w v0 v1 v2 v3 v4 v5 v6 s→
 Calls Tryz.prog f #[.agg #[u0,u1,u2,u3,u4,u5,u6],.agg #[v0,v1,v2,v3,v4,v5,v6]] w fun e w'=>e=.returned (.bool (g r s))∧Below w.heap.size w w'
def LpResC (f:FuncId) (g:P→Res→Bool):Prop:=∀(w:World) (x y z u0 u1 u2 u3 u4 u5 u6:Value) (p:P) (r:Res),LpFits p→ResFits r→(Lit.int .i64 r.status).wf=true→LpC w x y z p→ResC w u0 u1 u2 u3 u4 u5 u6 r→
 Calls Tryz.prog f #[.agg #[x,y,z],.agg #[u0,u1,u2,u3,u4,u5,u6]] w fun e w'=>e=.returned (.bool (g p r))∧Below w.heap.size w w'
end Go.Proofs.YtjfnleilddgjiaaGreat
namespace Go.Proofs.YtjfnleilddgjiaaGreat
open Go.RowKit
open Ve (R)
open Lp (P)
def LpOk (p:P):Prop:=LpFits p
theorem lpOk {p:P} (h:lpN p≤1048576):LpOk p:=lpFits h
theorem LpC.rg {w:World} {x y z:Value} {p:P} (h:LpC w x y z p):Rg (fun w'=>LpC w' x y z p) 0 w.heap.size w:=
 ⟨h,Nat.le_refl _,fun w' hs hk=>by
  obtain⟨a,b,c,c1,c2,c3,e1,e2,e3,hi⟩:=h
  exact⟨a,b,c,c1,c2,c3,e1,e2,e3,LpIn.mono ⟨hi.mA.same fun k h=>hk k (Nat.zero_le _) h,hi.mB.same fun k h=>hk k (Nat.zero_le _) h,hi.mC.of_low fun k h=>hk k (Nat.zero_le _) h⟩ hs⟩⟩
theorem OwnLP.size {lo hi:Nat} {w:World} {v:Value} {p:P} (h:OwnLP lo hi w v p):hi≤w.heap.size:=by
 obtain⟨_,_,_,_,_,_,_,_,_,h4,_⟩:=h.ex
 exact h4
theorem OwnLP.reads_c {lo hi:Nat} {w:World} {x y z:Value} {p:P} (h:OwnLP lo hi w (.agg #[x,y,z]) p):LpC w x y z p:=by
 obtain⟨a,b,c,c1,c2,c3,e,hi,hh⟩:=h.reads
 injection e with e
 have e1:x=.slice a p.A.length c1:=by have:=congrArg (fun q=>q[0]?) e;simpa using this
 have e2:y=.slice b p.B.length c2:=by have:=congrArg (fun q=>q[1]?) e;simpa using this
 have e3:z=.slice c p.C.length c3:=by have:=congrArg (fun q=>q[2]?) e;simpa using this
 exact⟨a,b,c,c1,c2,c3,e1,e2,e3,hi.mono hh⟩
def LpX (w:World) (x y z:Value) (p:P):Prop:=LpC w x y z p∧∀(b:Option Addr) (n c:Nat),y=.slice b n c→p.B.length≤c
theorem OwnLP.reads_x {lo hi:Nat} {w:World} {x y z:Value} {p:P} (h:OwnLP lo hi w (.agg #[x,y,z]) p):LpX w x y z p:=by
 refine⟨h.reads_c,fun b n c e=>?_⟩
 obtain⟨m1,m2,vA,vB,vC,e2,_,_,_,_,_,⟨hB,_⟩,_⟩:=h
 injection e2 with e2
 have e3:y=vB:=by have:=congrArg (fun q=>q[1]?) e2;simpa using this
 subst e3
 obtain⟨_,⟨e4,h4⟩ | ⟨g,cap,cur,e4,_,_,hnc,_⟩⟩:=hB
 ·omega
 ·rw[e] at e4
  injection e4 with e5 e6 e7
  omega
theorem OwnLP.rg {lo hi:Nat} {w:World} {v:Value} {p:P} (h:OwnLP lo hi w v p):Rg (fun w'=>OwnLP lo hi w' v p) lo hi w:=by
 refine⟨h,h.size,fun w' hs hk=>?_⟩
 obtain⟨m1,m2,vA,vB,vC,rfl,h1,h2,h3,h4,hA,⟨hB,kB⟩,hC,kC⟩:=h
 exact⟨m1,m2,vA,vB,vC,rfl,h1,h2,h3,Nat.le_trans h4 hs,hA.same fun k a1 a2 _=>hk k a1 (by omega),⟨owns_same hB fun g hg=>by have:=World.ownsRow.lt hB g hg;have:=kB g hg;exact hk g (by omega) (by omega),kB⟩,
  owns_same hC fun g hg=>by have:=World.ownsRow.lt hC g hg;have:=kC g hg;exact hk g (by omega) (by omega),kC⟩
end Go.Proofs.YtjfnleilddgjiaaGreat
namespace Go.Proofs.YtjfnleilddgjiaaGreat
open Go.RowKit
open Ve (R)
def InRats (w:World) (v:Value) (xs:List R):Prop:=∃(a:Option Addr) (c:Nat),v=.slice a xs.length c∧RatsIn w.heap.size w a xs
theorem InRats.up {w w':World} {v:Value} {xs:List R} (h:InRats w v xs) (hb:Below w.heap.size w w'):InRats w' v xs:=by
 obtain⟨a,c,e,hi⟩:=h
 exact⟨a,c,e,(hi.below hb).mono hb.size⟩
theorem InRats.rg {w:World} {v:Value} {xs:List R} (h:InRats w v xs):Rg (fun w'=>InRats w' v xs) 0 w.heap.size w:=
 ⟨h,Nat.le_refl _,fun w' hs hk=>by
  obtain⟨a,c,e,hi⟩:=h
  refine⟨a,c,e,RatsIn.mono (fun j x hx=>?_) hs⟩
  obtain⟨b,o,e1,h2,h3,h4⟩:=hi j x hx
  have hc:∀i,w'.cell? ⟨b,i,none⟩=w.cell? ⟨b,i,none⟩:=fun i=>World.cell?_of_block (w:=w) (a:=⟨b,i,none⟩) (hk b (Nat.zero_le _) h2)
  exact⟨b,o,e1,h2,by rw[hc];exact h3,by rw[hc];exact h4⟩⟩
def RsRats (lo hi:Nat) (w:World) (v:Value) (xs:List R):Prop:=RowAt lo hi w v xs∧hi≤w.heap.size
theorem RsRats.rg {lo hi:Nat} {w:World} {v:Value} {xs:List R} (h:RsRats lo hi w v xs):Rg (fun w'=>RsRats lo hi w' v xs) lo hi w:=
 ⟨h,h.2,fun w' hs hk=>⟨h.1.same fun b hb=>by have:=h.1.blk hb;exact hk b this.1 this.2.1,Nat.le_trans h.2 hs⟩⟩
theorem RsRats.reads {lo hi:Nat} {w:World} {v:Value} {xs:List R} (h:RsRats lo hi w v xs):InRats w v xs:=by
 obtain⟨a,c,e,hr⟩:=h.1.reads
 exact⟨a,c,e,hr.mono h.2⟩
theorem eqRats_k {w:World} {v v':Value} {xs:List R} (h:InRats w v xs) (h':InRats w v' xs) (hf:xs.length≤1048576) :
  Calls Tryz.prog 52 #[v,v'] w fun e w'=>e=.returned (.bool true)∧Below w.heap.size w w':=by
 obtain⟨a,c,rfl,hi⟩:=h
 obtain⟨a',c',rfl,hi'⟩:=h'
 exact laws_eqRatS w.heap.size a a' c c' xs (by omega) w (Nat.le_refl _) hi hi'
theorem markRats_k {lo hi:Nat} {w:World} {v:Value} {xs:List R} (h:RsRats lo hi w v xs) (hf:xs.length≤1048576) (kk:Int) (h0:0≤kk) (h1:kk≤8388608) :
  Calls Tryz.prog 55 #[v,.int .i64 kk] w fun e w'=>e=.returned (.int .i64 (kk+2*xs.length))∧RsRats lo hi w' v (marksR kk.toNat xs.length)∧Turned lo hi w w':=by
 refine (mark_row lo hi v kk kk.toNat (by omega) xs (by omega) (by omega) w h.1).mono ?_
 rintro e w' ⟨rfl,h3,row,h4,h5⟩
 exact⟨rfl,⟨h3,Nat.le_trans h.2 h4.size⟩,Turned.of_grown h4 fun g hg=>by have:=h.1.blk (h5 g hg);omega⟩
theorem heldRats_k {w:World} {v:Value} {n:Nat} (kk:Int) (h:InRats w v (marksR kk.toNat n)) (hf:n≤1048576) (h0:0≤kk) (h1:kk≤8388608) :
  Calls Tryz.prog 56 #[v,.int .i64 kk] w fun e w'=>e=.returned (.int .i64 (kk+2*n))∧Below w.heap.size w w':=by
 obtain⟨a,c,rfl,hi⟩:=h
 rw[marksR_len]
 exact (laws_heldFrom w.heap.size a c kk kk.toNat n (by omega) (by omega) (by omega) w hi).mono fun e w' ⟨h1,h2⟩=>⟨h1,h2▸Below.refl _ _⟩
end Go.Proofs.YtjfnleilddgjiaaGreat
namespace Go.Proofs.YtjfnleilddgjiaaGreat
open Go.RowKit
open Ve (R)
open Lp (P)
def RsLP (lo hi:Nat) (w:World) (v:Value) (p:P):Prop:=∃(vA vB vC:Value) (vs:List Value),v=.agg #[vA,vB,vC]∧w.ownsRow lo 22 1 vA p.A.length vs∧RowsIX lo w (vB::vs) (p.B::p.A)∧(∀g,vA.ownBlock=some g→g<hi)∧
 (∀(j:Nat) (u:Value),(vB::vs)[j]? = some u→∀b,u.ownBlock=some b→b<hi)∧OwnRats lo w vC p.C∧(∀g,vC.ownBlock=some g→g<hi)∧hi≤w.heap.size
theorem RsLP.of {lo:Nat} {w:World} {vA vB vC:Value} {p:P} (h1:OwnAB lo w vA vB p.A p.B) (h2:OwnRats lo w vC p.C):RsLP lo w.heap.size w (.agg #[vA,vB,vC]) p:=by
 obtain⟨vs,k1,k2⟩:=h1
 exact⟨vA,vB,vC,vs,rfl,k1,k2,fun g hg=>(World.ownsRow.lt k1 g hg).2,fun j u e b hb=>(World.ownsRow.lt (k2.own j u e) b hb).2,h2,fun g hg=>(World.ownsRow.lt h2 g hg).2,Nat.le_refl _⟩
theorem RowsIX.same {lo hi:Nat} {w w':World} {vs:List Value} {L:List (List Int)} (h:RowsIX lo w vs L) (hb:∀(j:Nat) (u:Value),vs[j]? = some u→∀b,u.ownBlock=some b→b<hi) (hk:∀k,lo≤k→k<hi→w'.heap[k]? = w.heap[k]?):RowsIX lo w' vs L:=
 ⟨h.len,fun j u e=>owns_same (h.own j u e) fun g hg=>hk g (World.ownsRow.lt (h.own j u e) g hg).1 (hb j u e g hg),h.apart⟩
theorem RsLP.rg {lo hi:Nat} {w:World} {v:Value} {p:P} (h:RsLP lo hi w v p):Rg (fun w'=>RsLP lo hi w' v p) lo hi w:=by
 have h0:=h
 obtain⟨vA,vB,vC,vs,rfl,h1,h2,h3,h4,h5,h6,h7⟩:=h
 exact⟨h0,h7,fun w' hs hk=>⟨vA,vB,vC,vs,rfl,owns_same h1 fun g hg=>hk g (World.ownsRow.lt h1 g hg).1 (h3 g hg),h2.same h4 hk,h3,h4,owns_same h5 fun g hg=>hk g (World.ownsRow.lt h5 g hg).1 (h6 g hg),h6,Nat.le_trans h7 hs⟩⟩
theorem RsLP.reads_x {lo hi:Nat} {w:World} {x y z:Value} {p:P} (h:RsLP lo hi w (.agg #[x,y,z]) p):LpX w x y z p:=by
 obtain⟨vA,vB,vC,vs,e,h1,h2,_,_,h3,_⟩:=h
 injection e with e
 have e1:x=vA:=by have:=congrArg (fun q=>q[0]?) e;simpa using this
 have e2:y=vB:=by have:=congrArg (fun q=>q[1]?) e;simpa using this
 have e3:z=vC:=by have:=congrArg (fun q=>q[2]?) e;simpa using this
 subst e1 e2 e3
 have hab:OwnAB lo w x y p.A p.B:=⟨vs,h1,h2⟩
 obtain⟨a,c1,rfl,hA⟩:=hab.reads
 obtain⟨b,c2,rfl,hb,hb2,_⟩:=own_reads hab.b
 obtain⟨c,c3,rfl,hc,_⟩:=own_rats h3
 refine⟨⟨a,b,c,c1,c2,c3,rfl,rfl,rfl,hA,NumsIn.of_ints hb fun q hq=>(hb2 q hq).2,?_⟩,fun b' n c' e=>?_⟩
 ·exact hc
 ·injection e with e1 e2 e3
  subst e3
  obtain⟨_,⟨e4,h4⟩ | ⟨g,cap,cur,e4,_,_,hnc,_⟩⟩:=hab.b
  ·omega
  ·injection e4 with e5 e6 e7
   omega
theorem RsLP.reads_c {lo hi:Nat} {w:World} {x y z:Value} {p:P} (h:RsLP lo hi w (.agg #[x,y,z]) p):LpC w x y z p:=h.reads_x.1
theorem MakesLPk.res {p:P} {k:Bool} {w w':World} {e:Ending} (h:MakesLPk p k w e w'):(∃x y z:Value,e=.returned (.tuple #[.agg #[x,y,z],.bool k])∧RsLP w.heap.size w'.heap.size w' (.agg #[x,y,z]) p)∧Below w.heap.size w w':=by
 obtain⟨vA,vB,vC,he,h1,h2,hb⟩:=h
 exact⟨⟨vA,vB,vC,he,RsLP.of h1 h2⟩,hb⟩
def KeptI (w w':World):Prop:=∀b T,TyAt w b T→T≠3→w'.heap[b]? = w.heap[b]?
def mkM (k0:Nat) (A:List (List Int)):Nat→List (List Int)
 | 0=>A
 | k+1=>(mkM k0 A k).set k (marksI (k0+cellsOf (A.take k)) (rw_ A k).length)
def lprN (p:P):Int:=1+(cellsOf p.A:Int)+(p.B.length:Int)+2*(p.C.length:Int)
def marksLP (p:P):P:=⟨mkM 1 p.A p.A.length,marksI (1+cellsOf p.A) p.B.length,marksR (1+cellsOf p.A+p.B.length) p.C.length⟩
def LprOk (p:P):Prop:=lpN p≤1048576
theorem LprOk.ok {p:P} (h:LprOk p):LpOk p:=lpOk h
end Go.Proofs.YtjfnleilddgjiaaGreat
namespace Go.Proofs.YtjfnleilddgjiaaGreat
open Go.RowKit
open Ve (R)
open Cr (Cor)
def CorLens (r:Cor):Prop:=r.point.length≤9223372036854775807∧r.weights.length≤9223372036854775807
def corN (r:Cor):Nat:=r.point.length+r.weights.length
def CorOk (r:Cor):Prop:=corN r≤1048576
theorem corOk {r:Cor} (h:corN r≤1048576):CorOk r:=h
theorem CorOk.p {r:Cor} (h:CorOk r):r.point.length≤1048576:=by unfold CorOk corN at h;omega
theorem CorOk.w {r:Cor} (h:CorOk r):r.weights.length≤1048576:=by unfold CorOk corN at h;omega
def CorC (w:World) (x y z:Value) (r:Cor):Prop:=x=.int .i64 r.code∧InRats w y r.point∧InRats w z r.weights
def RsCor (lo hi:Nat) (w:World) (v:Value) (r:Cor):Prop:=∃(y z:Value) (l1 n1 l2 n2:Nat),v=.agg #[.int .i64 r.code,y,z]∧RsRats l1 n1 w y r.point∧RsRats l2 n2 w z r.weights∧(lo≤l1∧n1≤hi∧lo≤l2∧n2≤hi)∧(∀k,l1≤k→k<n1→k<l2∨n2≤k)∧hi≤w.heap.size
theorem CorC.up {w w':World} {x y z:Value} {r:Cor} (h:CorC w x y z r) (hb:Below w.heap.size w w'):CorC w' x y z r:=⟨h.1,h.2.1.up hb,h.2.2.up hb⟩
theorem CorC.one {w:World} {x y z:Value} {r:Cor} (h:CorC w x y z r):x.oneCell'=true∧y.oneCell'=true∧z.oneCell'=true:=by
 obtain⟨rfl,⟨a,c,rfl,_⟩,⟨b,d,rfl,_⟩⟩:=h
 exact⟨rfl,rfl,rfl⟩
theorem CorC.rg {w:World} {x y z:Value} {r:Cor} (h:CorC w x y z r):Rg (fun w'=>CorC w' x y z r) 0 w.heap.size w:=
 ⟨h,Nat.le_refl _,fun w' hs hk=>⟨h.1,h.2.1.rg.on w' hs hk,h.2.2.rg.on w' hs hk⟩⟩
theorem RsCor.rg {lo hi:Nat} {w:World} {v:Value} {r:Cor} (h:RsCor lo hi w v r):Rg (fun w'=>RsCor lo hi w' v r) lo hi w:=by
 have h0:=h
 obtain⟨y,z,l1,n1,l2,n2,rfl,r1,r2,⟨q1,q2,q3,q4⟩,hd,hh⟩:=h
 exact⟨h0,hh,fun w' hs hk=>⟨y,z,l1,n1,l2,n2,rfl,r1.rg.on w' hs fun k k1 k2=>hk k (by omega) (by omega),r2.rg.on w' hs fun k k1 k2=>hk k (by omega) (by omega),⟨q1,q2,q3,q4⟩,hd,Nat.le_trans hh hs⟩⟩
theorem RsCor.reads_c {lo hi:Nat} {w:World} {x y z:Value} {r:Cor} (h:RsCor lo hi w (.agg #[x,y,z]) r):CorC w x y z r:=by
 obtain⟨y',z',l1,n1,l2,n2,e,r1,r2,_⟩:=h
 injection e with e
 have e0:x=.int .i64 r.code:=by have:=congrArg (fun q=>q[0]?) e;simpa using this
 have e1:y=y':=by have:=congrArg (fun q=>q[1]?) e;simpa using this
 have e2:z=z':=by have:=congrArg (fun q=>q[2]?) e;simpa using this
 subst e0 e1 e2
 exact⟨rfl,r1.reads,r2.reads⟩
theorem eqCor_k {w:World} {x y z x' y' z':Value} {r:Cor} (h:CorC w x y z r) (h':CorC w x' y' z' r) (hf:CorOk r) :
  Calls Tryz.prog 11 #[.agg #[x,y,z],.agg #[x',y',z']] w fun e w'=>e=.returned (.bool true)∧Below w.heap.size w w':=by
 obtain⟨rfl,h1,h2⟩:=h
 obtain⟨rfl,h1',h2'⟩:=h'
 have hp:=hf.p
 have hw:=hf.w
 have hb:=((Below.refl w.heap.size w).alloc (Nat.le_refl _) (.cells #[.int .i64 r.code,y,z] 28)).alloc (by rw[size1];omega) (.cells #[.int .i64 r.code,y',z'] 28)
 have hc0:=(CellsAt.new w #[.int .i64 r.code,y,z] 28).more (.cells #[.int .i64 r.code,y',z'] 28)
 have hc1:=CellsAt.new (w.alloc (.cells #[.int .i64 r.code,y,z] 28)) #[.int .i64 r.code,y',z'] 28
 rw[size1] at hc1
 have H1:=zH (h1.up hb)
 have H1':=zH (h1'.up hb)
 have H2:=zH (h2.up hb)
 have H2':=zH (h2'.up hb)
 have HB:=zH hb
 have HC0:=zH hc0
 have HC1:=zH hc1
 obtain⟨q0,q1,q2⟩:=three hc0
 obtain⟨p0,p1,p2⟩:=three hc1
 obtain⟨a1,c1,e1,_⟩:=h1
 obtain⟨a2,c2,e2,_⟩:=h2
 obtain⟨a3,c3,e3,_⟩:=h1'
 obtain⟨a4,c4,e4,_⟩:=h2'
 subst e1 e2 e3 e4
 have hne:(r.code != r.code)=false:=by simp
 clear hb hc0 hc1 hf
 go_enter Tryz.func11,Tryz.ntmps11
 go_wp2_with fail
 generalize (w.alloc (.cells #[.int .i64 r.code,.slice a1 r.point.length c1,.slice a2 r.weights.length c2] 28)).alloc (.cells #[.int .i64 r.code,.slice a3 r.point.length c3,.slice a4 r.weights.length c4] 28)=W at *
 refine (eqRats_k H1.out H1'.out hp).mono ?_
 rintro e w1 ⟨rfl,k1⟩
 have HB1:=zH (HB.out.trans (k1.mono HB.out.size))
 have H3:=zH (H2.out.up k1)
 have H3':=zH (H2'.out.up k1)
 have HC2:=zH (HC0.out.below k1)
 have HC3:=zH (HC1.out.below k1)
 clear k1 q0 q1 q2 p0 p1 p2 HC0 HC1 H1 H1' H2 H2'
 obtain⟨q0,q1,q2⟩:=three HC2.out
 obtain⟨p0,p1,p2⟩:=three HC3.out
 go_wp2_with fail
 refine (eqRats_k H3.out H3'.out hw).mono ?_
 rintro e w2 ⟨rfl,k2⟩
 have HB2:=zH (HB1.out.trans (k2.mono HB1.out.size))
 clear k2 q0 q1 q2 p0 p1 p2
 go_wp2_with fail
 go_ret
 exact⟨rfl,HB2.out⟩
def marksCor (r:Cor):Cor:=⟨r.code,marksR 1 r.point.length,marksR (1+2*r.point.length) r.weights.length⟩
def markNC (r:Cor):Int:=1+2*(r.point.length:Int)+2*(r.weights.length:Int)
theorem markNC_le {r:Cor} (h:CorOk r):1≤markNC r∧markNC r≤4194304:=by
 unfold CorOk corN at h
 unfold markNC
 omega
theorem markCor_k {lo hi:Nat} {w:World} {v:Value} {r:Cor} (h:RsCor lo hi w v r) (hf:CorOk r) :
  Calls Tryz.prog 14 #[v,.int .i64 1] w fun e w'=>e=.returned (.int .i64 (markNC r))∧RsCor lo hi w' v (marksCor r)∧Turned lo hi w w':=by
 obtain⟨y,z,l1,n1,l2,n2,rfl,r1,r2,⟨q1,s1,q2,s2⟩,hd,hh⟩:=h
 have hp:=hf.p
 have hw:=hf.w
 have hb:=(Below.refl w.heap.size w).alloc (Nat.le_refl _) (.cells #[.int .i64 r.code,y,z] 28)
 have H1:=zH (r1.rg.below hb)
 have H2:=zH (r2.rg.below hb)
 have HQ:=zH (CellsAt.new w #[.int .i64 r.code,y,z] 28)
 have HT:Hid (Turned lo hi w (w.alloc (.cells #[.int .i64 r.code,y,z] 28))):=(Turned.refl lo hi w).step hb
 obtain⟨ay,cy,ey,_⟩:=r1.reads
 obtain⟨az,cz,ez,_⟩:=r2.reads
 subst ey ez
 obtain⟨b0,b1,b2⟩:=three HQ.out
 clear hb r1 r2 hf
 go_enter Tryz.func14,Tryz.ntmps14
 go_wp2_with fail
 generalize w.alloc (.cells #[.int .i64 r.code,.slice ay r.point.length cy,.slice az r.weights.length cz] 28)=W at *
 refine (markRats_k H1.out.get hp 1 (by omega) (by omega)).mono ?_
 rintro e w2 ⟨rfl,hs,ht⟩
 have hne:∀k,l1≤k→k<n1→(k<l2∨n2≤k):=hd
 have HT1:Hid (Turned l1 n1 W w2):=ht
 have HS1:=zH hs.rg
 have HS2:Hid (Rg (fun w'=>RsRats l2 n2 w' (.slice az r.weights.length cz) r.weights) l2 n2 w2):=H2.out.same ht.size fun k k1 k2=>ht.block k (by have:=H2.out.size;omega) (by
  rcases Nat.lt_or_ge k l1 with h|h
  ·exact .inl h
  ·rcases Nat.lt_or_ge k n1 with h' | h'
   ·rcases hd k h h' with h9|h9<;>omega
   ·exact .inr h')
 have HQ2:=zH ((ht.block w.heap.size (lt_of_at HQ.out) (.inr (by omega))).trans HQ.out:CellsAt w2 w.heap.size #[.int .i64 r.code,.slice ay r.point.length cy,.slice az r.weights.length cz] 28)
 have HT2:=zH (HT.out.trans (ht.wider q1 s1))
 clear hs ht H1 H2 HQ HT b0 b1 b2 hne
 obtain⟨b0,b1,b2⟩:=three HQ2.out
 go_wp2_with fail
 refine (markRats_k HS2.out.get hw (1+2*(r.point.length:Int)) (by omega) (by omega)).mono ?_
 rintro e w3 ⟨rfl,hs,ht⟩
 have HS3:=zH hs.rg
 have HS4:Hid (Rg (fun w'=>RsRats l1 n1 w' (.slice ay r.point.length cy) (marksR 1 r.point.length)) l1 n1 w3):=HS1.out.same ht.size fun k k1 k2=>ht.block k (by have:=HS1.out.size;omega) (hd k k1 k2)
 have HT3:=zH (HT2.out.trans (ht.wider q2 s2))
 clear hs ht HS1 HS2 HQ2 HT2 b0 b1 b2
 go_wp2_with fail
 go_ret
 refine⟨ret_int (by unfold markNC;omega),⟨.slice ay r.point.length cy,.slice az r.weights.length cz,l1,n1,l2,n2,?_,?_,?_,⟨q1,s1,q2,s2⟩,hd,Nat.le_trans hh HT3.out.size⟩,HT3.out⟩
 ·unfold marksCor
  rfl
 ·exact HS4.out.get
 ·have h9:=HS3.out.get
  rw[show (1+2*(r.point.length:Int)).toNat=1+2*r.point.length by omega] at h9
  exact h9
theorem heldCor_k {w:World} {x y z:Value} {r:Cor} (h:CorC w x y z (marksCor r)) (hf:CorOk r) :
  Calls Tryz.prog 15 #[.agg #[x,y,z],.int .i64 1] w fun e w'=>e=.returned (.int .i64 (markNC r))∧Below w.heap.size w w':=by
 obtain⟨rfl,h1,h2⟩:=h
 have hp:=hf.p
 have hw:=hf.w
 have e2:(marksCor r).weights=marksR (1+2*(r.point.length:Int)).toNat r.weights.length:=by rw[show (1+2*(r.point.length:Int)).toNat=1+2*r.point.length by omega];rfl
 rw[e2] at h2
 have h1:InRats w y (marksR (1:Int).toNat r.point.length):=h1
 have hb:=(Below.refl w.heap.size w).alloc (Nat.le_refl _) (.cells #[.int .i64 r.code,y,z] 28)
 have H1:=zH (h1.up hb)
 have H2:=zH (h2.up hb)
 have HQ:=zH (CellsAt.new w #[.int .i64 r.code,y,z] 28)
 have HB:=zH hb
 obtain⟨ay,cy,ey,_⟩:=h1
 obtain⟨az,cz,ez,_⟩:=h2
 rw[marksR_len] at ey ez
 subst ey ez
 show Calls Tryz.prog 15 #[.agg #[.int .i64 r.code,.slice ay r.point.length cy,.slice az r.weights.length cz],.int .i64 1] w _
 obtain⟨q0,q1,q2⟩:=three HQ.out
 have n1:decide (1+2*(r.point.length:Int)<0)=false:=by rw[decide_eq_false_iff_not];omega
 have n2:decide (1+2*(r.point.length:Int)+2*(r.weights.length:Int)<0)=false:=by rw[decide_eq_false_iff_not];omega
 clear hb hf e2
 go_enter Tryz.func15,Tryz.ntmps15
 go_wp2_with fail
 generalize w.alloc (.cells #[.int .i64 r.code,.slice ay r.point.length cy,.slice az r.weights.length cz] 28)=W at *
 refine (heldRats_k 1 H1.out hp (by omega) (by omega)).mono ?_
 rintro e w2 ⟨rfl,k2⟩
 have H3:=zH (H2.out.up k2)
 have HQ2:=zH (HQ.out.below k2)
 have HB2:=zH (HB.out.trans (k2.mono HB.out.size))
 clear k2 H1 H2 HQ HB q0 q1 q2
 obtain⟨q0,q1,q2⟩:=three HQ2.out
 go_wp2_with fail
 refine (heldRats_k (1+2*(r.point.length:Int)) H3.out hw (by omega) (by omega)).mono ?_
 rintro e w3 ⟨rfl,k3⟩
 have HB3:=zH (HB2.out.trans (k3.mono HB2.out.size))
 clear k3 q0 q1 q2
 go_wp2_with fail
 go_ret
 exact⟨ret_int (by unfold markNC;omega),HB3.out⟩
end Go.Proofs.YtjfnleilddgjiaaGreat
