/- The parts Onl, NumOpen, LpOpen, LpR, LpR2, LpR3, LeM, NgM, LeQ, EqI, LkIn, LeN, LpV, LkLp. -/
import Derived.Test.YtlohljkfphljgaaGreatChecked
import Derived.Handy
import Derived.Below
import Derived.OwnWalk
import Derived.Deep.QuietTactic
import Derived.BigQuiet
import Derived.Laws.AppendOwn
import Derived.Test.YtlohljkfphljgaaGreatHNumI
import Derived.Deep.Matrix
import Derived.Lib.SmallJoins
import Derived.Test.YtlohljkfphljgaaGreatGLa
import Derived.Test.YtlohljkfphljgaaGreatGVa
import Derived.Test.YtlohljkfphljgaaGreatHCrP
import Derived.Test.YtlohljkfphljgaaGreatGMt
import Derived.Test.YtlohljkfphljgaaGreatGK
import Derived.Deep.RegionHeld3
import Derived.Test.YtlohljkfphljgaaGreatHGrI
namespace Go.Proofs.YtlohljkfphljgaaGreat
open Go.RowKit
structure Only (p:Nat) (w w':World):Prop where
 low:Below p w w'
 high:∀k,p<k->k<w.heap.size->w'.heap[k]? = w.heap[k]?
theorem Only.refl (p:Nat) (w:World):Only p w w:=⟨Below.refl _ _,fun _ _ _=>rfl⟩
theorem Only.trans {p:Nat} {a b c:World} (h:Only p a b) (k:Only p b c):Only p a c:=
 ⟨h.low.trans k.low,fun j h1 h2=>by rw[k.high j h1 (Nat.lt_of_lt_of_le h2 h.low.size),h.high j h1 h2]⟩
theorem Only.setCell {p:Nat} {a w:World} (h:Only p a w) (o:Nat) (u:Value):Only p a (w.setCell ⟨p,o,none⟩ u):=
 ⟨h.low.setCell (p:=⟨p,o,none⟩) (Nat.le_refl _) u,fun j h1 h2=>by rw[Below.heap_setCell _ _ _ _ (show j≠p by omega)];exact h.high j h1 h2⟩
theorem Only.drew {p:Nat} {a w:World} (h:Only p a w):Only p a w.drew:=⟨h.low.drew,fun j h1 h2=>h.high j h1 h2⟩
theorem Only.drewN {p:Nat} {a w:World} (h:Only p a w) (n:Nat):Only p a (w.drewN n):=
 ⟨⟨h.low.os,h.low.tape,h.low.output,h.low.size,h.low.block⟩,fun j h1 h2=>h.high j h1 h2⟩
theorem Only.below {p B:Nat} {w w':World} (h:Only p w w') (hB:B≤p):Below B w w':=h.low.mono hB
theorem Only.block {p k:Nat} {w w':World} (h:Only p w w') (hk:k≠p) (hl:k<w.heap.size):w'.heap[k]? = w.heap[k]?:=by
 rcases Nat.lt_or_ge k p with h1|h1
 ·exact h.low.block k h1
 ·exact h.high k (by omega) hl
theorem Only.alloc {p:Nat} {a w:World} (h:Only p a w) (hp:p≤a.heap.size) (o:Obj):Only p a (w.alloc o):=
 ⟨h.low.alloc (Nat.le_trans hp h.low.size) o,fun j h1 h2=>by rw[Below.heap_alloc _ _ _ (Nat.lt_of_lt_of_le h2 h.low.size)];exact h.high j h1 h2⟩
theorem Only.Zls {p k:Nat} {a w:World} (h:Only p a w) (hp:p≤a.heap.size) (hk:a.heap.size≤k) (o:Nat) (u:Value):Only p a (w.setCell ⟨k,o,none⟩ u):=
 ⟨h.low.setCell (p:=⟨k,o,none⟩) (Nat.le_trans hp hk) u,fun j h1 h2=>by rw[Below.heap_setCell _ _ _ _ (show j≠k by omega)];exact h.high j h1 h2⟩
theorem Only.grown {p:Nat} {a w w':World} {row:Option Nat} (h:Only p a w) (hp:p≤a.heap.size) (hg:w.grownBy w' row) (hr:∀g,row=some g->a.heap.size≤g):Only p a w':=
 ⟨h.low.grown hg (Nat.le_trans hp h.low.size) (fun g e=>Nat.le_trans hp (hr g e)),fun j h1 h2=>by
  rw[hg.block j (Nat.lt_of_lt_of_le h2 h.low.size) (fun e=>by have:=hr j e.symm;omega)];exact h.high j h1 h2⟩
open Go.RowKit Go.Deep Go.ChangeShapes Go.WideShapes
theorem Zy5 {W:World} {a:Addr} {v:Value} (h:W.cell? (a.add 0)=some v):∃b o,a=⟨b,o,none⟩:=by
 obtain⟨b,o,sp⟩:=a;have h2:=World.cell?_spot h;unfold Addr.add at h2;rw[if_pos (by decide)] at h2;have hs:sp=none:=h2;subst hs;exact⟨b,o,rfl⟩
theorem Z1a {W:World} {A:Option Addr} {l:Nat} {zs:List Int} (hl:l≤zs.length) (hn:A=none->l=0) (hc:∀a',A=some a'->∀c,c<zs.length->W.cell? (a'.add c)=some (.int .i64 (zs.getD c 0))):Zat W.heap.size W A (zs.take l):=fun j hj=>by
 have hj2:j<l:=by simp at hj;omega
 cases hA:A with
 | none=>have:=hn hA;omega
 | some a=>
  have h0:=hc a hA 0 (by omega);obtain⟨b,o,rfl⟩:=Zy5 h0;have h1:=hc _ hA j (by omega);rw[Z15] at h1;refine⟨b,o,rfl,block_lt_of_cell (a:=⟨b,o+j,none⟩) h1,?_⟩;rw[h1];simp[List.getD_eq_getElem?_getD,hj2]
theorem Zvp {H:Type} {enc:TypeId×Value->H} {W:World} {fuel:Nat} {v:Value} {x:DataW H×List MemPlace}
  (h:DataW.trod enc Tryz.prog W 0 (fun _=>true) true fuel 25 [v]=some x):∃(a:Option Addr) (c:Nat) (l:List Int),v=.slice a l.length c/\l.length≤9223372036854775807/\Zat W.heap.size W a l:=by
 rcases open_ints Tryz.underlying25 Tryz.underlying3 (by kernel_rfl) h with ⟨hcs,_⟩ | ⟨a,len,cap,zs,hcs,_,hl,hm,hz,_,hcell,hwz⟩
 ·simp at hcs
  subst hcs;exact⟨none,0,[],rfl,by decide,fun j hj=>by simp at hj⟩
 ·simp at hcs
  subst hcs;simp only[if_true] at hz;unfold maxLen at hm;refine⟨some a,cap,zs.take len,?_,?_,Z1a (by omega) (fun e=>by cases e) fun a' e c hc=>?_⟩
  ·rw[List.length_take];congr 1;omega
  ·rw[List.length_take];omega
  ·cases e;exact hcell c hc
open Ve (R)
open Lp (P)
open Lp (Res)
def Z3e (s:Value) (x y z:Value) (n d pv:Value):Array Value:=#[s,x,y,z,n,d,pv]
/-! ### Results -/
structure Zej (B:Nat) (w:World) (a b c:Option Addr) (r:Res):Prop where
 mX:Zah B w a r.X
 mY:Zah B w b r.Y
 mR:Zah B w c r.ray
theorem Zej.below {B:Nat} {w w':World} {a b c:Option Addr} {p:Res} (h:Zej B w a b c p) (hb:Below B w w'):Zej B w' a b c p:=⟨h.mX.below hb,h.mY.below hb,h.mR.below hb⟩
theorem Zej.mono {B B':Nat} {w:World} {a b c:Option Addr} {p:Res} (h:Zej B w a b c p) (hB:B≤B'):Zej B' w a b c p:=⟨h.mX.mono hB,h.mY.mono hB,h.mR.mono hB⟩
theorem Zej.drewN {B:Nat} {w:World} {a b c:Option Addr} {p:Res} (h:Zej B w a b c p) (d:Nat):Zej B (w.drewN d) a b c p:=⟨h.mX,h.mY,h.mR⟩
def resN (r:Res):Nat:=r.X.length+r.Y.length+r.ray.length
def Z3j (r:Res):Prop:=r.X.length≤9223372036854775807/\r.Y.length≤9223372036854775807/\r.ray.length≤9223372036854775807
def resV (a b c:Option Addr) (c1 c2 c3:Nat) (r:Res):Value:=
 .agg #[.int .i64 r.status,.slice a r.X.length c1,.slice b r.Y.length c2,.slice c r.ray.length c3,.int .i64 r.value.1,.int .i64 r.value.2,.int .i64 r.pivots]
structure Zdp (r:Res):Prop where
 X:r.X.length≤1048576
 Y:r.Y.length≤1048576
 R:r.ray.length≤1048576
 N:resN r≤1048576
theorem Zoi {r:Res} (h:resN r≤1048576):Zdp r:=by
 have h':=h;unfold resN at h';exact⟨by omega,by omega,by omega,h⟩
structure Zms (lo hi:Nat) (w:World) (v:Value) (r:Res):Prop where
 ex:∃(m1 m2:Nat) (a b c:Option Addr) (c1 c2 c3:Nat),v=resV a b c c1 c2 c3 r/\lo≤m1/\m1≤m2/\m2≤hi/\hi≤w.heap.size/\(Zaa lo w (.slice a r.X.length c1) r.X/\∀g,(Value.slice a r.X.length c1).ownBlock=some g->g<m1)/\
  (Zaa m1 w (.slice b r.Y.length c2) r.Y/\∀g,(Value.slice b r.Y.length c2).ownBlock=some g->g<m2)/\(Zaa m2 w (.slice c r.ray.length c3) r.ray/\∀g,(Value.slice c r.ray.length c3).ownBlock=some g->g<hi)
theorem Zms.below {lo hi:Nat} {w w':World} {v:Value} {r:Res} (h:Zms lo hi w v r) (hb:Below w.heap.size w w'):Zms lo hi w' v r:=by
 obtain⟨m1,m2,a,b,c,c1,c2,c3,rfl,h1,h2,h3,h4,⟨hA,kA⟩,⟨hB,kB⟩,hC,kC⟩:=h;exact⟨m1,m2,a,b,c,c1,c2,c3,rfl,h1,h2,h3,Nat.le_trans h4 hb.size,⟨hA.below hb,kA⟩,⟨hB.below hb,kB⟩,hC.below hb,kC⟩
theorem Zaa.Zrq {lo hi:Nat} {w:World} {a:Option Addr} {c:Nat} {xs:List R} (h:Zaa lo w (.slice a xs.length c) xs) (hb:∀g,(Value.slice a xs.length c).ownBlock=some g->g<hi):Zah hi w a xs:=by
 obtain⟨a',c',e,h1,_,_⟩:=Zai h;obtain⟨rfl,rfl⟩:a=a'/\c=c':=by injection e with e1 e2 e3;exact⟨e1,e3⟩
 exact h1.narrow fun q hq=>hb q.block (by rw[hq];rfl)
theorem Zms.reads {lo hi:Nat} {w:World} {v:Value} {r:Res} (h:Zms lo hi w v r):∃(a b c:Option Addr) (c1 c2 c3:Nat),v=resV a b c c1 c2 c3 r/\Zej hi w a b c r/\hi≤w.heap.size:=by
 obtain⟨m1,m2,a,b,c,c1,c2,c3,rfl,h1,h2,h3,h4,⟨hA,kA⟩,⟨hB,kB⟩,hC,kC⟩:=h;exact⟨a,b,c,c1,c2,c3,rfl,⟨(hA.Zrq kA).mono (by omega),(hB.Zrq kB).mono (by omega),hC.Zrq kC⟩,h4⟩
end Go.Proofs.YtlohljkfphljgaaGreat
namespace Go.Proofs.YtlohljkfphljgaaGreat.Le
open Ve (R at_)
open Gm (G)
open Lp (P)
def Ze3 (n k:Nat):List (List Int):=(List.range k).map fun j=>Cr.mrow j n++[-1]
theorem Zgw (n k:Nat):(Ze3 n k).length=k:=by simp[Ze3]
theorem Zuh (n k:Nat):Ze3 n (k+1)=Ze3 n k++[Cr.mrow k n++[-1]]:=by simp[Ze3,List.range_succ]
theorem Zza {n k j:Nat} (h:j<k):(Ze3 n k).getD j []=Cr.mrow j n++[-1]:=by simp[Ze3,List.getD_eq_getElem?_getD,h]
def Zci (k:Nat):List Int:=(List.range k).map fun _=>0
theorem Zhx (k:Nat):(Zci k).length=k:=by simp[Zci]
theorem Zql (k:Nat):Zci (k+1)=Zci k++[0]:=by simp[Zci,List.range_succ]
def lp (g:G):P:=⟨Ze3 (g.v.length-2) g.n.toNat++[Cr.Zbp (g.v.length-2)++[0]],Zci g.n.toNat++[1],Cr.cost g (g.v.length-2)++[(Gm.Zga g,1)]⟩
def can (g:G):Bool:=Gm.vld g && decide (2≤g.n)
def least (g:G):P:=if can g then lp g else Cr.lp0
theorem Zgp {g:G} (h:can g=true):least g=lp g:=if_pos h
theorem Zoc {g:G} (h:can g=false):least g=Cr.lp0:=by unfold least;rw[h];rfl
theorem Zff {g:G} (h:can g=true):Gm.vld g=true/\2≤g.n:=by
 unfold can at h
 simpa using h
theorem Zzy {g:G} (h:Gm.vld g=true) (h2:2≤g.n):can g=true:=by unfold can;rw[h,decide_eq_true h2];rfl
structure Lst where
 ok:Bool
 ex:R
 point:List R
 weights:List R
end Go.Proofs.YtlohljkfphljgaaGreat.Le
namespace Go.Proofs.YtlohljkfphljgaaGreat
open Ve (R)
theorem Zwa (v:List R) (k:Nat) (hk:k<v.length):Cr.negs (v.take (k+1))=Cr.negs (v.take k)++[Ta.negR (Ve.at_ v k)]:=by
 unfold Cr.negs;rw[List.take_add_one,List.map_append,List.getElem?_eq_getElem hk];simp[Ve.at_,hk]
theorem Zys (v:List R) (k:Nat) (hk:k≤v.length):(Cr.negs (v.take k)).length=k:=by simp[Cr.negs];omega
theorem Zyr (v:List R):Cr.negs (v.take v.length)=Cr.negs v:=by rw[List.take_length]
end Go.Proofs.YtlohljkfphljgaaGreat
namespace Go.Proofs.YtlohljkfphljgaaGreat.Le
open Ve (R)
open Gm (G)
def proved (g:G) (w:List R) (ex:R):Bool:=can g && (Lp.feas (least g) w && (Ve.dotK (least g).C w && decide (Ve.dotR (least g).C w=Ta.negR ex)))
def chkL (g:G) (r:Lst):Bool:=r.ok && (Py.some_ g r.point && (decide (Py.worst g r.point=r.ex) && proved g r.weights r.ex))
end Go.Proofs.YtlohljkfphljgaaGreat.Le
namespace Go.Proofs.YtlohljkfphljgaaGreat
open Go.RowKit
open Ve (R)
theorem Zah.of_low {n:Nat} {w w':World} {a:Option Addr} {xs:List R} (h:Zah n w a xs) (hk:∀k,k<n->w'.heap[k]? = w.heap[k]?):Zah n w' a xs:=fun j x hx=>by
 obtain⟨b,o,e1,h2,h3,h4⟩:=h j x hx;have hc:∀i,w'.cell? ⟨b,i,none⟩=w.cell? ⟨b,i,none⟩:=fun i=>World.cell?_of_block (w:=w) (a:=⟨b,i,none⟩) (hk b h2)
 exact⟨b,o,e1,h2,by rw[hc];exact h3,by rw[hc];exact h4⟩
theorem Zgc.same {n:Nat} {w w':World} {a:Option Addr} {L:List (List Int)} (h:Zgc n w a L) (hk:∀k,k<n->w'.heap[k]? = w.heap[k]?):Zgc n w' a L:=fun j hj=>by
 obtain⟨b,o,a',c',e1,h2,h3,h4⟩:=h j hj;exact⟨b,o,a',c',e1,h2,by rw[World.cell?_of_block (w:=w) (a:=⟨b,o+j,none⟩) (hk b h2)];exact h3,h4.same hk⟩
open Gm (G)
theorem Zsq (b:Nat):∀(L:List (List Int)),(∀r∈L,r.length≤b)->cellsOf L≤L.length*b
 | [],_=>by simp[cellsOf]
 | r::L,h=>by
  have h1:=Zsq b L fun x hx=>h x (List.mem_cons_of_mem _ hx)
  have h2:=h r (by simp);simp only[cellsOf,List.length_cons,Nat.succ_mul];omega
theorem Zlg (g:G):lpN (Le.least g)≤1048576:=by
 unfold lpN
 rcases hv:Le.can g with _|_
 ·rw[Le.Zoc hv]
  simp[Cr.lp0,cellsOf]
 ·rw[Le.Zgp hv]
  have hn:=Gm.Zmq (Le.Zff hv).1;have hl:=Gm.Zef (Le.Zff hv).1;have e1:(Le.lp g).A.length=g.n.toNat+1:=by
   show (Le.Ze3 _ _++[_]).length=_;rw[List.length_append,Le.Zgw];rfl
  have e2:(Le.lp g).B.length=g.n.toNat+1:=by
   show (Le.Zci _++[_]).length=_;rw[List.length_append,Le.Zhx];rfl
  have e3:(Le.lp g).C.length=g.v.length-2+1:=by
   show (Cr.cost _ _++[_]).length=_;rw[List.length_append,Cr.Zbj];rfl
  have e4:=Zsq 31 (Le.lp g).A fun r hr=>by
   have hr':r∈Le.Ze3 (g.v.length-2) g.n.toNat++[Cr.Zbp (g.v.length-2)++[0]]:=hr
   rcases List.mem_append.1 hr' with h1|h1
   ·unfold Le.Ze3 at h1
    obtain⟨j,_,rfl⟩:=List.mem_map.1 h1;rw[List.length_append,Cr.Zep];simp;omega
   ·simp at h1
    subst h1;rw[List.length_append,Cr.Zdj];simp;omega
  rw[e1] at e4;rw[e1,e2,e3];have h5:g.n.toNat+1≤6:=by omega
  have h6:(g.n.toNat+1)*31≤6*31:=Nat.mul_le_mul_right _ h5;omega
open Lp (P Res)
def LpC (w:World) (x y z:Value) (p:P):Prop:=∃(a b c:Option Addr) (c1 c2 c3:Nat),x=.slice a p.A.length c1/\y=.slice b p.B.length c2/\z=.slice c p.C.length c3/\LpIn w.heap.size w a b c p
theorem LpC.up {w w':World} {x y z:Value} {p:P} (h:LpC w x y z p) (hb:Below w.heap.size w w'):LpC w' x y z p:=by
 obtain⟨a,b,c,c1,c2,c3,e1,e2,e3,hi⟩:=h;exact⟨a,b,c,c1,c2,c3,e1,e2,e3,(hi.below hb).mono hb.size⟩
theorem LpC.one {w:World} {x y z:Value} {p:P} (h:LpC w x y z p):x.oneCell'=true/\y.oneCell'=true/\z.oneCell'=true:=by
 obtain⟨a,b,c,c1,c2,c3,rfl,rfl,rfl,_⟩:=h;exact⟨rfl,rfl,rfl⟩
def ResC (w:World) (u0 u1 u2 u3 u4 u5 u6:Value) (r:Res):Prop:=∃(a b c:Option Addr) (c1 c2 c3:Nat),u0=.int .i64 r.status/\u1=.slice a r.X.length c1/\u2=.slice b r.Y.length c2/\u3=.slice c r.ray.length c3/\u4=.int .i64 r.value.1/\u5=.int .i64 r.value.2/\u6=.int .i64 r.pivots/\Zej w.heap.size w a b c r
theorem ResC.up {w w':World} {u0 u1 u2 u3 u4 u5 u6:Value} {r:Res} (h:ResC w u0 u1 u2 u3 u4 u5 u6 r) (hb:Below w.heap.size w w'):ResC w' u0 u1 u2 u3 u4 u5 u6 r:=by
 obtain⟨a,b,c,c1,c2,c3,e0,e1,e2,e3,e4,e5,e6,hi⟩:=h;exact⟨a,b,c,c1,c2,c3,e0,e1,e2,e3,e4,e5,e6,(hi.below hb).mono hb.size⟩
theorem ResC.one {w:World} {u0 u1 u2 u3 u4 u5 u6:Value} {r:Res} (h:ResC w u0 u1 u2 u3 u4 u5 u6 r):u0.oneCell'=true/\u1.oneCell'=true/\u2.oneCell'=true/\u3.oneCell'=true/\u4.oneCell'=true/\u5.oneCell'=true/\u6.oneCell'=true:=by
 obtain⟨a,b,c,c1,c2,c3,rfl,rfl,rfl,rfl,rfl,rfl,rfl,_⟩:=h;exact⟨rfl,rfl,rfl,rfl,rfl,rfl,rfl⟩
def Z4f (w:World) (p:P) (e:Ending) (w':World):Prop:=∃x y z:Value,e=.returned (.agg #[x,y,z])/\LpC w' x y z p/\Zhi w.heap.size w'.heap.size w' (.agg #[x,y,z]) p
def Z39 (w:World) (r:Res) (e:Ending) (w':World):Prop:=∃u0 u1 u2 u3 u4 u5 u6:Value,e=.returned (.agg #[u0,u1,u2,u3,u4,u5,u6])/\ResC w' u0 u1 u2 u3 u4 u5 u6 r/\Zms w.heap.size w'.heap.size w' (.agg #[u0,u1,u2,u3,u4,u5,u6]) r
def Z3k (f:FuncId) (g:Res->Res->Bool):Prop:=∀(w:World) (u0 u1 u2 u3 u4 u5 u6 v0 v1 v2 v3 v4 v5 v6:Value) (r s:Res),Zdp r->Zdp s->ResC w u0 u1 u2 u3 u4 u5 u6 r->ResC w v0 v1 v2 v3 v4 v5 v6 s->
 Calls Tryz.prog f #[.agg #[u0,u1,u2,u3,u4,u5,u6],.agg #[v0,v1,v2,v3,v4,v5,v6]] w fun e w'=>e=.returned (.bool (g r s))/\Below w.heap.size w w'
def Z38 (f:FuncId) (g:P->Res->Bool):Prop:=∀(w:World) (x y z u0 u1 u2 u3 u4 u5 u6:Value) (p:P) (r:Res),Zbs p->Zdp r->(Lit.int .i64 r.status).wf=true->LpC w x y z p->ResC w u0 u1 u2 u3 u4 u5 u6 r->
 Calls Tryz.prog f #[.agg #[x,y,z],.agg #[u0,u1,u2,u3,u4,u5,u6]] w fun e w'=>e=.returned (.bool (g p r))/\Below w.heap.size w w'
open Lp (P)
def LpOk (p:P):Prop:=Zbs p
theorem lpOk {p:P} (h:lpN p≤1048576):LpOk p:=Zvr h
theorem LpC.rg {w:World} {x y z:Value} {p:P} (h:LpC w x y z p):Rg (fun w'=>LpC w' x y z p) 0 w.heap.size w:=
 ⟨h,Nat.le_refl _,fun w' hs hk=>by
  obtain⟨a,b,c,c1,c2,c3,e1,e2,e3,hi⟩:=h;exact⟨a,b,c,c1,c2,c3,e1,e2,e3,LpIn.mono ⟨hi.mA.same fun k h=>hk k (Nat.zero_le _) h,hi.mB.same fun k h=>hk k (Nat.zero_le _) h,hi.mC.of_low fun k h=>hk k (Nat.zero_le _) h⟩ hs⟩⟩
theorem Zhi.size {lo hi:Nat} {w:World} {v:Value} {p:P} (h:Zhi lo hi w v p):hi≤w.heap.size:=by
 obtain⟨_,_,_,_,_,_,_,_,_,h4,_⟩:=h.ex;exact h4
theorem Zhi.Zbe {lo hi:Nat} {w:World} {x y z:Value} {p:P} (h:Zhi lo hi w (.agg #[x,y,z]) p):LpC w x y z p:=by
 obtain⟨a,b,c,c1,c2,c3,e,hi,hh⟩:=h.reads;injection e with e
 have e1:x=.slice a p.A.length c1:=by have:=congrArg (fun q=>q[0]?) e;simpa using this
 have e2:y=.slice b p.B.length c2:=by have:=congrArg (fun q=>q[1]?) e;simpa using this
 have e3:z=.slice c p.C.length c3:=by have:=congrArg (fun q=>q[2]?) e;simpa using this
 exact⟨a,b,c,c1,c2,c3,e1,e2,e3,hi.mono hh⟩
def LpX (w:World) (x y z:Value) (p:P):Prop:=LpC w x y z p/\∀(b:Option Addr) (n c:Nat),y=.slice b n c->p.B.length≤c
theorem Zhi.Zgu {lo hi:Nat} {w:World} {x y z:Value} {p:P} (h:Zhi lo hi w (.agg #[x,y,z]) p):LpX w x y z p:=by
 refine⟨h.Zbe,fun b n c e=>?_⟩;obtain⟨m1,m2,vA,vB,vC,e2,_,_,_,_,_,⟨hB,_⟩,_⟩:=h;injection e2 with e2
 have e3:y=vB:=by have:=congrArg (fun q=>q[1]?) e2;simpa using this
 subst e3;obtain⟨_,⟨e4,h4⟩ | ⟨g,cap,cur,e4,_,_,hnc,_⟩⟩:=hB
 ·omega
 ·rw[e] at e4
  injection e4 with e5 e6 e7
  omega
theorem Zhi.rg {lo hi:Nat} {w:World} {v:Value} {p:P} (h:Zhi lo hi w v p):Rg (fun w'=>Zhi lo hi w' v p) lo hi w:=by
 refine⟨h,h.size,fun w' hs hk=>?_⟩;obtain⟨m1,m2,vA,vB,vC,rfl,h1,h2,h3,h4,hA,⟨hB,kB⟩,hC,kC⟩:=h;exact⟨m1,m2,vA,vB,vC,rfl,h1,h2,h3,Nat.le_trans h4 hs,hA.same fun k a1 a2 _=>hk k a1 (by omega),⟨Zak hB fun g hg=>by have:=World.ownsRow.lt hB g hg;have:=kB g hg;exact hk g (by omega) (by omega),kB⟩,
  Zak hC fun g hg=>by have:=World.ownsRow.lt hC g hg;have:=kC g hg;exact hk g (by omega) (by omega),kC⟩
end Go.Proofs.YtlohljkfphljgaaGreat
