/- FnExactFindLeastCore: for every input the law returns true, and each argument reads as it did. -/
import Derived.Test.YtlohljkfphljgaaGreatHLkLe
import Derived.Test.YtlohljkfphljgaaGreatGLk
import Derived.Test.YtlohljkfphljgaaGreatSxG
import Derived.Test.YtlohljkfphljgaaGreatGSz
import Derived.Test.YtlohljkfphljgaaGreatHGmB
import Derived.Test.YtlohljkfphljgaaGreatLeF
import Derived.Test.YtlohljkfphljgaaGreatLeL4
import Derived.Test.YtlohljkfphljgaaGreatRows
import Derived.ProofKit
import Derived.OpenShut
import Derived.ShutString
import Derived.ChangeOld
import Derived.Deep.DeepHandedRow
set_option maxRecDepth 100000
namespace Go.Proofs.YtlohljkfphljgaaGreat
open Go.RowKit
open Ve (R)
open Lp (P Res)
theorem Zps {B:Nat} {w:World} {v:Value} {xs:List R} (h:Zaa B w v xs) (hB:B≤w.heap.size):∃l n,Zev l n w v xs/\B≤l/\n≤w.heap.size/\∀k,l≤k->k<n->v.ownBlock=some k:=by
 have h':=h;obtain⟨h1,⟨rfl,_⟩ | ⟨g,cap,cur,rfl,hg,hh,hr⟩⟩:=h'
 ·exact⟨B,B,⟨Zdw.Zhg h fun g hg=>by simp[Value.ownBlock] at hg,hB⟩,Nat.le_refl _,hB,fun k h1 h2=>by omega⟩
 ·have hl:=Zab hh
  have ho:Zaa g w (.slice (some ⟨g,0,none⟩) xs.length cap) xs:=⟨h1,.inr ⟨g,cap,cur,rfl,Nat.le_refl _,hh,hr⟩⟩;refine⟨g,g+1,⟨Zdw.Zhg ho fun k hk=>?_,hl⟩,hg,hl,fun k h1 h2=>?_⟩
  ·simp[Value.ownBlock] at hk
   omega
  ·obtain rfl:k=g:=by omega
   rfl
def Zqp (lo hi:Nat) (w:World) (v:Value) (r:Res):Prop:=∃(a b c:Option Addr) (c1 c2 c3 l1 n1 l2 n2 l3 n3:Nat),v=resV a b c c1 c2 c3 r/\
 (Zev l1 n1 w (.slice a r.X.length c1) r.X/\Zev l2 n2 w (.slice b r.Y.length c2) r.Y/\Zev l3 n3 w (.slice c r.ray.length c3) r.ray)/\(lo≤l1/\n1≤hi/\lo≤l2/\n2≤hi/\lo≤l3/\n3≤hi)/\
 ((∀k,l1≤k->k<n1->(k<l2\/n2≤k)/\(k<l3\/n3≤k))/\(∀k,l2≤k->k<n2->k<l3\/n3≤k))/\hi≤w.heap.size
theorem Zqp.rg {lo hi:Nat} {w:World} {v:Value} {r:Res} (h:Zqp lo hi w v r):Rg (fun w'=>Zqp lo hi w' v r) lo hi w:=by
 have h0:=h;obtain⟨a,b,c,c1,c2,c3,l1,n1,l2,n2,l3,n3,rfl,⟨r1,r2,r3⟩,⟨q1,s1,q2,s2,q3,s3⟩,hd,hh⟩:=h;exact⟨h0,hh,fun w' hs hk=>⟨a,b,c,c1,c2,c3,l1,n1,l2,n2,l3,n3,rfl,⟨r1.rg.on w' hs fun k k1 k2=>hk k (by omega) (by omega),r2.rg.on w' hs fun k k1 k2=>hk k (by omega) (by omega),r3.rg.on w' hs fun k k1 k2=>hk k (by omega) (by omega)⟩,⟨q1,s1,q2,s2,q3,s3⟩,hd,Nat.le_trans hh hs⟩⟩
theorem Zn6 {w:World} {a:Option Addr} {n c:Nat} {xs:List R} (h:Zeu w (.slice a n c) xs):Zah w.heap.size w a xs:=by
 obtain⟨a',c',e,h1⟩:=h;injection e with e1 _ _
 subst e1;exact h1
theorem Zqp.reads {lo hi:Nat} {w:World} {v:Value} {r:Res} (h:Zqp lo hi w v r):∃(a b c:Option Addr) (c1 c2 c3:Nat),v=resV a b c c1 c2 c3 r/\Zej w.heap.size w a b c r:=by
 obtain⟨a,b,c,c1,c2,c3,l1,n1,l2,n2,l3,n3,rfl,⟨r1,r2,r3⟩,_⟩:=h;exact⟨a,b,c,c1,c2,c3,rfl,Zn6 r1.reads,Zn6 r2.reads,Zn6 r3.reads⟩
theorem Zqp.Zbe {lo hi:Nat} {w:World} {u0 u1 u2 u3 u4 u5 u6:Value} {r:Res} (h:Zqp lo hi w (.agg #[u0,u1,u2,u3,u4,u5,u6]) r):ResC w u0 u1 u2 u3 u4 u5 u6 r:=by
 obtain⟨a,b,c,c1,c2,c3,e,hi⟩:=h.reads;unfold resV at e;injection e with e
 have e0:u0=.int .i64 r.status:=by have:=congrArg (fun q=>q[0]?) e;simpa using this
 have e1:u1=.slice a r.X.length c1:=by have:=congrArg (fun q=>q[1]?) e;simpa using this
 have e2:u2=.slice b r.Y.length c2:=by have:=congrArg (fun q=>q[2]?) e;simpa using this
 have e3:u3=.slice c r.ray.length c3:=by have:=congrArg (fun q=>q[3]?) e;simpa using this
 have e4:u4=.int .i64 r.value.1:=by have:=congrArg (fun q=>q[4]?) e;simpa using this
 have e5:u5=.int .i64 r.value.2:=by have:=congrArg (fun q=>q[5]?) e;simpa using this
 have e6:u6=.int .i64 r.pivots:=by have:=congrArg (fun q=>q[6]?) e;simpa using this
 exact⟨a,b,c,c1,c2,c3,e0,e1,e2,e3,e4,e5,e6,hi⟩
def Z3d (r:Res):Res:=⟨r.status,Zbo 1 r.X.length,Zbo (1+2*r.X.length) r.Y.length,Zbo (1+2*r.X.length+2*r.Y.length) r.ray.length,r.value,r.pivots⟩
def Z4b (r:Res):Int:=1+2*(r.X.length:Int)+2*(r.Y.length:Int)+2*(r.ray.length:Int)
open Ta (T)
open Go.RowKit Go.Deep Go.ChangeShapes Go.WideShapes
open Gm (G)
theorem Z0w {H:Type} {enc:TypeId×Value->H} {W:World} {base:Nat} {v:Value} {d:DataW H} {ps:List MemPlace} (hv:Value.okWide Tryz.prog W .any base 76 v)
  (h:DataW.Trod enc Tryz.prog W 0 (fun _=>true) true 76 v d ps) :
  ∃(x y:Value) (g:G),v=.agg #[x,y]/\Zov g/\GmC W x y g:=by
 obtain⟨v0,v1,y0,y1,n,rfl,_,_,h0,h1⟩:=Joins.open_agg2 Tryz.underlying76 (by kernel_rfl) (by kernel_rfl) hv h;obtain⟨s,a0,_,ws⟩:=DataW.trod_int Tryz.underlying3 h0;obtain⟨b,c2,l,rfl,l3,m2⟩:=Zvp h1;simp only[List.cons.injEq,and_true] at a0;subst a0;exact⟨_,_,⟨s,l⟩,rfl,⟨l3,ws⟩,b,c2,rfl,rfl,m2⟩
open Le (Lst)
theorem Zh0.res {r:Lst} {w:World} {e:Ending} {w':World} (h:Zh0 r w e w'):(∃x n d y z:Value,e=.returned (.agg #[x,n,d,y,z])/\Zgd w.heap.size w'.heap.size w' (.agg #[x,n,d,y,z]) r)/\Below w.heap.size w w':=by
 obtain⟨⟨y,z,rfl,h1,h2,ho⟩,hb⟩:=h;obtain⟨l1,n1,r1,q1,s1,b1⟩:=Zps h1 hb.size;obtain⟨l2,n2,r2,q2,s2,b2⟩:=Zps h2 hb.size;refine⟨⟨_,_,_,_,_,rfl,y,z,l1,n1,l2,n2,rfl,r1,r2,⟨q1,s1,q2,s2⟩,fun k k1 k2=>?_,Nat.le_refl _⟩,hb⟩
 rcases Nat.lt_or_ge k l2 with h|h
 ·exact .inl h
 ·rcases Nat.lt_or_ge k n2 with h' | h'
  ·exact absurd (b2 k h h') (ho k (b1 k k1 k2))
  ·exact .inr h'
theorem Zq1 (g:G):Zhy (Le.find g):=by
 refine Z3v ?_;unfold lstN
 rcases hc:Le.can g with _|_
 ·rw[Le.Zq2 hc]
  decide
 by_cases h1:(Le.sol g).status=1
 ·rw[Le.Znv hc h1]
  have hy:=Le.Zzl h1;have hx:=Le.Z33 hc h1;have hl:=Gm.Zef (Le.Zff hc).1;have hn:=Gm.Zmq (Le.Zff hc).1;show (Cr.negs _).length+(Le.sol g).X.length≤_;unfold Cr.negs;rw[List.length_map,List.length_take,hx];omega
 ·rw[Le.Zh7 hc h1]
  decide
theorem fnExactFindLeastCore.walk (x y:Value) (g:G) (w:World) (n0:Zov g) (h0:GmC w x y g) :
  Calls Tryz.prog 6 #[.agg #[x,y]] w fun e w'=>e=.returned (.bool true)/\Below w.heap.size w w':=
 fnExactFindLeastCore.Z25 g (Le.find g) (fun _=>Zq1 g) (fun f0 _ _ _ c0=>(Ziu c0 f0).mono fun _ _ h=>h.res) (fun f0 _ _ _ c0=>(Zia c0 f0).mono fun _ _ h=>h.res) w _ _ n0 h0
end Go.Proofs.YtlohljkfphljgaaGreat
namespace Go.Proofs.YtlohljkfphljgaaGreat.fnExactFindLeastCore
open Go.ChangeShapes Go.WideShapes Go.ChangeAt Go.RowKit
open Go.ChangeMaps (open_string shut_string)
theorem own:ownKnob Tryz.prog.godebug=none:=by kernel_rfl
theorem laidOut:laidOutB Tryz.prog=true:=by kernel_rfl
theorem contract (H:Type) (enc:TypeId×Value->H) (W:World) (base:Nat) (args:Array Value) (ds gs:List (DataW H)) (before:List MemPlace)
  (hval:∀(j:Nat) t v,Tryz.f6.params[j]? = some t->args[j]? = some v->Value.okWide Tryz.prog W .any base t v)
  (hW:DataW.Whole enc Tryz.prog Tryz.f6.params.toList Rows.fnExactFindLeastCoreSpec.vars false W args.toList ds gs before) :
  Calls Tryz.prog 6 args W fun e W'=>∃v,e=.returned v/\Rows.fnExactFindLeastCoreSpec.post enc Tryz.prog Tryz.f6 false true false false W args v W':=by
 have hW':=hW;obtain⟨p,q,hA0,hV,rfl,hfz,hnd⟩:=hW;have hA:DataW.TrodAll enc Tryz.prog W 0 (fun _=>true) true Tryz.f6.params.toList args.toList ds p:=hA0;rw[Tryz.params6] at hA hval;obtain⟨v0,vs0,d0,ds0,p0,q0,hargs,rfl,rfl,h0,r0⟩:=trodAll_cons hA;obtain⟨rfl,rfl,rfl⟩:=trodAll_nil r0;obtain rfl:args=#[v0]:=by cases args;simp_all
 obtain⟨rfl,rfl⟩:=trodVars_none hV;have k0:=h0;have lt0:∀x∈p0,x.block<W.heap.size:=by obtain⟨m,hm⟩:=k0;exact DataW.trod_lt m _ _ _ hm
 obtain⟨x0,y0,z0,rfl,m0,w0⟩:=Z0w (hval 0 76 v0 rfl rfl) h0;clear hA0;simp only[List.append_nil] at hW';refine (walk x0 y0 z0 W m0 w0).mono fun e W' ⟨he,bel⟩=>?_
 subst he;exact⟨_,rfl,_,_,_,[],_,[],hW',trodAll_mk1 (shut_bool Tryz.underlying4 _),(trodAll_cons_mk (Below.trod laidOut (by kernel_rfl) (of_decide_eq_true (by kernel_rfl)) k0 bel lt0) trodAll_mk0),rfl,bel.frame _,fun h=>by cases h⟩
theorem lifted (os:Os) (started:os.Started) (H:Type) (enc:TypeId×Value->H) :
  ReturnsInHanded {} Tryz.checked os 6 .any (Rows.fnExactFindLeastCoreSpec.pre6 enc Tryz.prog Tryz.f6 Rows.fnExactFindLeastCoreRow.domain false) (Rows.fnExactFindLeastCoreSpec.post enc Tryz.prog Tryz.f6 false true false false):=by
 refine returnsInHanded_of_change (C:=Tryz.checked) own started (by kernel_rfl) Tryz.func6
  (ChangeSpec.witness6 (enc:=enc) (C:=Tryz.checked) false ⟨#[],#[.agg #[.int .i64 0,.slice none 0 0]],[]⟩ 8 (by kernel_rfl) (by kernel_rfl) (by kernel_rfl) (by kernel_rfl)) ?_
 intro W base args ds gs before hval hW _ _;exact contract H enc W base args ds gs before hval hW
theorem said:Rows.FnExactFindLeastCoreSaid:=
 OpenClaim.holds_of_wide 6 Tryz.f6 rfl rfl rfl rfl rfl rfl rfl ⟨rfl,rfl,rfl,rfl,rfl⟩ rfl rfl rfl rfl rfl (by kernel_rfl) Tryz.func6 (by kernel_rfl)
  (of_decide_eq_true (by kernel_rfl)) (by unfold Func.isWrapper;first | (rw[if_pos (by decide +kernel)];kernel_rfl) | (rw[if_neg (by decide +kernel)];exact⟨rfl,rfl⟩))
  (fun os started H enc _=>lifted os started H enc)
end Go.Proofs.YtlohljkfphljgaaGreat.fnExactFindLeastCore
