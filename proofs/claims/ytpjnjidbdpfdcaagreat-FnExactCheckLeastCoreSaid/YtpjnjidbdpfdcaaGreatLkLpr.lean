/- A kind of results of exact laws: LPs whose slices lie anywhere in the call's own blocks; marked and held. -/
import Derived.Test.YtpjnjidbdpfdcaaGreatGLk
import Derived.Test.YtpjnjidbdpfdcaaGreatLkRats
import Derived.Test.YtpjnjidbdpfdcaaGreatGVa
import Derived.Test.YtpjnjidbdpfdcaaGreatGK
import Derived.Test.YtpjnjidbdpfdcaaGreatGIx
namespace Go.Proofs.YtpjnjidbdpfdcaaGreat
open Go.RowKit
open Ve (R)
open Lp (P)
def RsLP (lo hi:Nat) (w:World) (v:Value) (p:P):Prop:=∃(vA vB vC:Value) (vs:List Value),v=.agg #[vA,vB,vC]/\w.ownsRow lo 22 1 vA p.A.length vs/\Zbi lo w (vB::vs) (p.B::p.A)/\(∀g,vA.ownBlock=some g->g<hi)/\
 (∀(j:Nat) (u:Value),(vB::vs)[j]? = some u->∀b,u.ownBlock=some b->b<hi)/\Zad lo w vC p.C/\(∀g,vC.ownBlock=some g->g<hi)/\hi≤w.heap.size
theorem RsLP.of {lo:Nat} {w:World} {vA vB vC:Value} {p:P} (h1:Zax lo w vA vB p.A p.B) (h2:Zad lo w vC p.C):RsLP lo w.heap.size w (.agg #[vA,vB,vC]) p:=by
 obtain⟨vs,k1,k2⟩:=h1;exact⟨vA,vB,vC,vs,rfl,k1,k2,fun g hg=>(World.ownsRow.lt k1 g hg).2,fun j u e b hb=>(World.ownsRow.lt (k2.own j u e) b hb).2,h2,fun g hg=>(World.ownsRow.lt h2 g hg).2,Nat.le_refl _⟩
theorem Zbi.same {lo hi:Nat} {w w':World} {vs:List Value} {L:List (List Int)} (h:Zbi lo w vs L) (hb:∀(j:Nat) (u:Value),vs[j]? = some u->∀b,u.ownBlock=some b->b<hi) (hk:∀k,lo≤k->k<hi->w'.heap[k]? = w.heap[k]?):Zbi lo w' vs L:=
 ⟨h.len,fun j u e=>Zan (h.own j u e) fun g hg=>hk g (World.ownsRow.lt (h.own j u e) g hg).1 (hb j u e g hg),h.apart⟩
theorem RsLP.rg {lo hi:Nat} {w:World} {v:Value} {p:P} (h:RsLP lo hi w v p):Rg (fun w'=>RsLP lo hi w' v p) lo hi w:=by
 have h0:=h;obtain⟨vA,vB,vC,vs,rfl,h1,h2,h3,h4,h5,h6,h7⟩:=h;exact⟨h0,h7,fun w' hs hk=>⟨vA,vB,vC,vs,rfl,Zan h1 fun g hg=>hk g (World.ownsRow.lt h1 g hg).1 (h3 g hg),h2.same h4 hk,h3,h4,Zan h5 fun g hg=>hk g (World.ownsRow.lt h5 g hg).1 (h6 g hg),h6,Nat.le_trans h7 hs⟩⟩
theorem RsLP.Zfq {lo hi:Nat} {w:World} {x y z:Value} {p:P} (h:RsLP lo hi w (.agg #[x,y,z]) p):LpX w x y z p:=by
 obtain⟨vA,vB,vC,vs,e,h1,h2,_,_,h3,_⟩:=h;injection e with e
 have e1:x=vA:=by have:=congrArg (fun q=>q[0]?) e;simpa using this
 have e2:y=vB:=by have:=congrArg (fun q=>q[1]?) e;simpa using this
 have e3:z=vC:=by have:=congrArg (fun q=>q[2]?) e;simpa using this
 subst e1 e2 e3;have hab:Zax lo w x y p.A p.B:=⟨vs,h1,h2⟩;obtain⟨a,c1,rfl,hA⟩:=hab.reads;obtain⟨b,c2,rfl,hb,hb2,_⟩:=Zbb hab.b;obtain⟨c,c3,rfl,hc,_⟩:=Za1 h3;refine⟨⟨a,b,c,c1,c2,c3,rfl,rfl,rfl,hA,Zal.Zdl hb fun q hq=>(hb2 q hq).2,?_⟩,fun b' n c' e=>?_⟩
 ·exact hc
 ·injection e with e1 e2 e3
  subst e3;obtain⟨_,⟨e4,h4⟩ | ⟨g,cap,cur,e4,_,_,hnc,_⟩⟩:=hab.b
  ·omega
  ·injection e4 with e5 e6 e7
   omega
theorem RsLP.Zbo {lo hi:Nat} {w:World} {x y z:Value} {p:P} (h:RsLP lo hi w (.agg #[x,y,z]) p):LpC w x y z p:=h.Zfq.1
theorem Zcj.res {p:P} {k:Bool} {w w':World} {e:Ending} (h:Zcj p k w e w'):(∃x y z:Value,e=.returned (.tuple #[.agg #[x,y,z],.bool k])/\RsLP w.heap.size w'.heap.size w' (.agg #[x,y,z]) p)/\Below w.heap.size w w':=by
 obtain⟨vA,vB,vC,he,h1,h2,hb⟩:=h;exact⟨⟨vA,vB,vC,he,RsLP.of h1 h2⟩,hb⟩
def Zry (w w':World):Prop:=∀b T,TyAt w b T->T≠3->w'.heap[b]? = w.heap[b]?
def mkM (k0:Nat) (A:List (List Int)):Nat->List (List Int)
 | 0=>A
 | k+1=>(mkM k0 A k).set k (Zma (k0+cellsOf (A.take k)) (rw_ A k).length)
def lprN (p:P):Int:=1+(cellsOf p.A:Int)+(p.B.length:Int)+2*(p.C.length:Int)
def Zrj (p:P):P:=⟨mkM 1 p.A p.A.length,Zma (1+cellsOf p.A) p.B.length,Zj1 (1+cellsOf p.A+p.B.length) p.C.length⟩
def Zp5 (p:P):Prop:=lpN p≤1048576
theorem Zp5.ok {p:P} (h:Zp5 p):LpOk p:=lpOk h
end Go.Proofs.YtpjnjidbdpfdcaaGreat
