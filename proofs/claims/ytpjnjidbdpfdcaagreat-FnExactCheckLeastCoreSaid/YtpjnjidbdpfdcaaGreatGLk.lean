/- The parts LkIn, CrA, LpV, LkLp. -/
import Derived.Test.YtpjnjidbdpfdcaaGreatGK
import Derived.Test.YtpjnjidbdpfdcaaGreatGLa
import Derived.Test.YtpjnjidbdpfdcaaGreatCrM
import Derived.Test.YtpjnjidbdpfdcaaGreatGIx
import Derived.Test.YtpjnjidbdpfdcaaGreatGmB
import Derived.Test.YtpjnjidbdpfdcaaGreatHeldT
import Derived.Test.YtpjnjidbdpfdcaaGreatCoA
import Derived.Test.YtpjnjidbdpfdcaaGreatGB
import Derived.Test.YtpjnjidbdpfdcaaGreatGLr
import Derived.Deep.RegionHeld3
import Derived.Test.YtpjnjidbdpfdcaaGreatLkBase
namespace Go.Proofs.YtpjnjidbdpfdcaaGreat
open Go.RowKit
open Ve (R)
theorem Zah.of_low {n:Nat} {w w':World} {a:Option Addr} {xs:List R} (h:Zah n w a xs) (hk:∀k,k<n->w'.heap[k]? = w.heap[k]?):Zah n w' a xs:=fun j x hx=>by
 obtain⟨b,o,e1,h2,h3,h4⟩:=h j x hx;have hc:∀i,w'.cell? ⟨b,i,none⟩=w.cell? ⟨b,i,none⟩:=fun i=>World.cell?_of_block (w:=w) (a:=⟨b,i,none⟩) (hk b h2)
 exact⟨b,o,e1,h2,by rw[hc];exact h3,by rw[hc];exact h4⟩
theorem Zdc.same {n:Nat} {w w':World} {a:Option Addr} {L:List (List Int)} (h:Zdc n w a L) (hk:∀k,k<n->w'.heap[k]? = w.heap[k]?):Zdc n w' a L:=fun j hj=>by
 obtain⟨b,o,a',c',e1,h2,h3,h4⟩:=h j hj;exact⟨b,o,a',c',e1,h2,by rw[World.cell?_of_block (w:=w) (a:=⟨b,o+j,none⟩) (hk b h2)];exact h3,h4.same hk⟩
open Gm (G)
def Zd7 (q b s o k:Nat) (vC sl v:Value) (B:World):Prop:=
 B.cell? ⟨q,2,none⟩=some vC/\B.cell? ⟨b,1,none⟩=some sl/\B.cell? ⟨s,o+k,none⟩=some v/\q<B.heap.size/\b<B.heap.size/\s<B.heap.size
theorem Zd7.all {q b s o k:Nat} {vC sl v:Value} {B wx:World} (H:Hid (Zd7 q b s o k vC sl v B)) (h:Since B wx) :
  wx.cell? ⟨q,2,none⟩=some vC/\wx.cell? ⟨b,1,none⟩=some sl/\wx.cell? ⟨s,o+k,none⟩=some v/\Since B wx:=
 have k:=H.out
 ⟨h.cell (p:=⟨q,2,none⟩) k.2.2.2.1 k.1,h.cell (p:=⟨b,1,none⟩) k.2.2.2.2.1 k.2.1,h.cell (p:=⟨s,_,none⟩) k.2.2.2.2.2 k.2.2.1,h⟩
theorem LpBe.since {q:Nat} {w wr w2:World} {vA vB vC:Value} {A:List (List Int)} {B:List Int} {C:List R} (h:LpBe q w wr vA vB vC A B C) (hs:Since wr w2):LpBe q w w2 vA vB vC A B C:=h.below hs.low
theorem Znj (b:Bool) (n:Int) (h:Cr.bit b=n) (w:World):Calls Tryz.prog 30 #[.bool b] w fun e w'=>e=.returned (.int .i64 n)/\w=w':=by
 subst h;cases b
 ·go_enter Tryz.func30,Tryz.ntmps30
  go_wp2_with fail
  go_ret;exact⟨rfl,rfl⟩
 ·go_enter Tryz.func30,Tryz.ntmps30
  go_wp2_with fail
  go_ret;exact⟨rfl,rfl⟩
open Lp (P Res)
def LpC (w:World) (x y z:Value) (p:P):Prop:=∃(a b c:Option Addr) (c1 c2 c3:Nat),x=.slice a p.A.length c1/\y=.slice b p.B.length c2/\z=.slice c p.C.length c3/\LpIn w.heap.size w a b c p
theorem LpC.up {w w':World} {x y z:Value} {p:P} (h:LpC w x y z p) (hb:Below w.heap.size w w'):LpC w' x y z p:=by
 obtain⟨a,b,c,c1,c2,c3,e1,e2,e3,hi⟩:=h;exact⟨a,b,c,c1,c2,c3,e1,e2,e3,(hi.below hb).mono hb.size⟩
theorem LpC.one {w:World} {x y z:Value} {p:P} (h:LpC w x y z p):x.oneCell'=true/\y.oneCell'=true/\z.oneCell'=true:=by
 obtain⟨a,b,c,c1,c2,c3,rfl,rfl,rfl,_⟩:=h;exact⟨rfl,rfl,rfl⟩
def ResC (w:World) (u0 u1 u2 u3 u4 u5 u6:Value) (r:Res):Prop:=∃(a b c:Option Addr) (c1 c2 c3:Nat),u0=.int .i64 r.status/\u1=.slice a r.X.length c1/\u2=.slice b r.Y.length c2/\u3=.slice c r.ray.length c3/\u4=.int .i64 r.value.1/\u5=.int .i64 r.value.2/\u6=.int .i64 r.pivots/\Zd8 w.heap.size w a b c r
theorem ResC.up {w w':World} {u0 u1 u2 u3 u4 u5 u6:Value} {r:Res} (h:ResC w u0 u1 u2 u3 u4 u5 u6 r) (hb:Below w.heap.size w w'):ResC w' u0 u1 u2 u3 u4 u5 u6 r:=by
 obtain⟨a,b,c,c1,c2,c3,e0,e1,e2,e3,e4,e5,e6,hi⟩:=h;exact⟨a,b,c,c1,c2,c3,e0,e1,e2,e3,e4,e5,e6,(hi.below hb).mono hb.size⟩
theorem ResC.one {w:World} {u0 u1 u2 u3 u4 u5 u6:Value} {r:Res} (h:ResC w u0 u1 u2 u3 u4 u5 u6 r):u0.oneCell'=true/\u1.oneCell'=true/\u2.oneCell'=true/\u3.oneCell'=true/\u4.oneCell'=true/\u5.oneCell'=true/\u6.oneCell'=true:=by
 obtain⟨a,b,c,c1,c2,c3,rfl,rfl,rfl,rfl,rfl,rfl,rfl,_⟩:=h;exact⟨rfl,rfl,rfl,rfl,rfl,rfl,rfl⟩
def Zrz (w:World) (p:P) (e:Ending) (w':World):Prop:=∃x y z:Value,e=.returned (.agg #[x,y,z])/\LpC w' x y z p/\Zdd w.heap.size w'.heap.size w' (.agg #[x,y,z]) p
def Zrw (w:World) (r:Res) (e:Ending) (w':World):Prop:=∃u0 u1 u2 u3 u4 u5 u6:Value,e=.returned (.agg #[u0,u1,u2,u3,u4,u5,u6])/\ResC w' u0 u1 u2 u3 u4 u5 u6 r/\Zgc w.heap.size w'.heap.size w' (.agg #[u0,u1,u2,u3,u4,u5,u6]) r
def Zq7 (f:FuncId) (g:Res->Res->Bool):Prop:=∀(w:World) (u0 u1 u2 u3 u4 u5 u6 v0 v1 v2 v3 v4 v5 v6:Value) (r s:Res),Zin r->Zin s->ResC w u0 u1 u2 u3 u4 u5 u6 r->ResC w v0 v1 v2 v3 v4 v5 v6 s->
 Calls Tryz.prog f #[.agg #[u0,u1,u2,u3,u4,u5,u6],.agg #[v0,v1,v2,v3,v4,v5,v6]] w fun e w'=>e=.returned (.bool (g r s))/\Below w.heap.size w w'
def Zrv (f:FuncId) (g:P->Res->Bool):Prop:=∀(w:World) (x y z u0 u1 u2 u3 u4 u5 u6:Value) (p:P) (r:Res),Zct p->Zin r->(Lit.int .i64 r.status).wf=true->LpC w x y z p->ResC w u0 u1 u2 u3 u4 u5 u6 r->
 Calls Tryz.prog f #[.agg #[x,y,z],.agg #[u0,u1,u2,u3,u4,u5,u6]] w fun e w'=>e=.returned (.bool (g p r))/\Below w.heap.size w w'
open Lp (P)
def LpOk (p:P):Prop:=Zct p
theorem lpOk {p:P} (h:lpN p≤1048576):LpOk p:=Zl8 h
theorem LpC.rg {w:World} {x y z:Value} {p:P} (h:LpC w x y z p):Rg (fun w'=>LpC w' x y z p) 0 w.heap.size w:=
 ⟨h,Nat.le_refl _,fun w' hs hk=>by
  obtain⟨a,b,c,c1,c2,c3,e1,e2,e3,hi⟩:=h;exact⟨a,b,c,c1,c2,c3,e1,e2,e3,LpIn.mono ⟨hi.mA.same fun k h=>hk k (Nat.zero_le _) h,hi.mB.same fun k h=>hk k (Nat.zero_le _) h,hi.mC.of_low fun k h=>hk k (Nat.zero_le _) h⟩ hs⟩⟩
theorem Zdd.size {lo hi:Nat} {w:World} {v:Value} {p:P} (h:Zdd lo hi w v p):hi≤w.heap.size:=by
 obtain⟨_,_,_,_,_,_,_,_,_,h4,_⟩:=h.ex;exact h4
theorem Zdd.Zbo {lo hi:Nat} {w:World} {x y z:Value} {p:P} (h:Zdd lo hi w (.agg #[x,y,z]) p):LpC w x y z p:=by
 obtain⟨a,b,c,c1,c2,c3,e,hi,hh⟩:=h.reads;injection e with e
 have e1:x=.slice a p.A.length c1:=by have:=congrArg (fun q=>q[0]?) e;simpa using this
 have e2:y=.slice b p.B.length c2:=by have:=congrArg (fun q=>q[1]?) e;simpa using this
 have e3:z=.slice c p.C.length c3:=by have:=congrArg (fun q=>q[2]?) e;simpa using this
 exact⟨a,b,c,c1,c2,c3,e1,e2,e3,hi.mono hh⟩
def LpX (w:World) (x y z:Value) (p:P):Prop:=LpC w x y z p/\∀(b:Option Addr) (n c:Nat),y=.slice b n c->p.B.length≤c
theorem Zdd.Zfq {lo hi:Nat} {w:World} {x y z:Value} {p:P} (h:Zdd lo hi w (.agg #[x,y,z]) p):LpX w x y z p:=by
 refine⟨h.Zbo,fun b n c e=>?_⟩;obtain⟨m1,m2,vA,vB,vC,e2,_,_,_,_,_,⟨hB,_⟩,_⟩:=h;injection e2 with e2
 have e3:y=vB:=by have:=congrArg (fun q=>q[1]?) e2;simpa using this
 subst e3;obtain⟨_,⟨e4,h4⟩ | ⟨g,cap,cur,e4,_,_,hnc,_⟩⟩:=hB
 ·omega
 ·rw[e] at e4
  injection e4 with e5 e6 e7
  omega
theorem Zdd.rg {lo hi:Nat} {w:World} {v:Value} {p:P} (h:Zdd lo hi w v p):Rg (fun w'=>Zdd lo hi w' v p) lo hi w:=by
 refine⟨h,h.size,fun w' hs hk=>?_⟩;obtain⟨m1,m2,vA,vB,vC,rfl,h1,h2,h3,h4,hA,⟨hB,kB⟩,hC,kC⟩:=h;exact⟨m1,m2,vA,vB,vC,rfl,h1,h2,h3,Nat.le_trans h4 hs,hA.same fun k a1 a2 _=>hk k a1 (by omega),⟨Zan hB fun g hg=>by have:=World.ownsRow.lt hB g hg;have:=kB g hg;exact hk g (by omega) (by omega),kB⟩,
  Zan hC fun g hg=>by have:=World.ownsRow.lt hC g hg;have:=kC g hg;exact hk g (by omega) (by omega),kC⟩
end Go.Proofs.YtpjnjidbdpfdcaaGreat
