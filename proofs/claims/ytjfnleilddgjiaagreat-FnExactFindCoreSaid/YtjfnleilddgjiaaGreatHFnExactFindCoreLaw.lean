/- FnExactFindCore: for every input the law returns true, and each argument reads as it did. -/
import Derived.Test.YtjfnleilddgjiaaGreatHLkCo
import Derived.Test.YtjfnleilddgjiaaGreatGLr
import Derived.Test.YtjfnleilddgjiaaGreatSxG
import Derived.Test.YtjfnleilddgjiaaGreatGSz
import Derived.Test.YtjfnleilddgjiaaGreatCrF
import Derived.Test.YtjfnleilddgjiaaGreatCrG
import Derived.Test.YtjfnleilddgjiaaGreatCrL4
import Derived.Test.YtjfnleilddgjiaaGreatOpenC
import Derived.Test.YtjfnleilddgjiaaGreatRows
import Derived.ProofKit
import Derived.OpenShut
import Derived.ShutString
import Derived.ChangeOld
import Derived.Deep.DeepHandedRow
set_option maxRecDepth 100000
namespace Go.Proofs.YtjfnleilddgjiaaGreat
open Go.RowKit
open Ve (R)
open Lp (P Res)
theorem own_range {B:Nat} {w:World} {v:Value} {xs:List R} (h:OwnRats B w v xs) (hB:B≤w.heap.size):∃l n,RsRats l n w v xs∧B≤l∧n≤w.heap.size∧∀k,l≤k→k<n→v.ownBlock=some k:=by
 have h':=h
 obtain⟨h1,⟨rfl,_⟩ | ⟨g,cap,cur,rfl,hg,hh,hr⟩⟩:=h'
 ·exact⟨B,B,⟨RowAt.of_own h fun g hg=>by simp[Value.ownBlock] at hg,hB⟩,Nat.le_refl _,hB,fun k h1 h2=>by omega⟩
 ·have hl:=lt_of_at hh
  have ho:OwnRats g w (.slice (some ⟨g,0,none⟩) xs.length cap) xs:=⟨h1,.inr ⟨g,cap,cur,rfl,Nat.le_refl _,hh,hr⟩⟩
  refine⟨g,g+1,⟨RowAt.of_own ho fun k hk=>?_,hl⟩,hg,hl,fun k h1 h2=>?_⟩
  ·simp[Value.ownBlock] at hk
   omega
  ·obtain rfl:k=g:=by omega
   rfl
def RsRes (lo hi:Nat) (w:World) (v:Value) (r:Res):Prop:=∃(a b c:Option Addr) (c1 c2 c3 l1 n1 l2 n2 l3 n3:Nat),v=resV a b c c1 c2 c3 r∧
 (RsRats l1 n1 w (.slice a r.X.length c1) r.X∧RsRats l2 n2 w (.slice b r.Y.length c2) r.Y∧RsRats l3 n3 w (.slice c r.ray.length c3) r.ray)∧(lo≤l1∧n1≤hi∧lo≤l2∧n2≤hi∧lo≤l3∧n3≤hi)∧
 ((∀k,l1≤k→k<n1→(k<l2∨n2≤k)∧(k<l3∨n3≤k))∧(∀k,l2≤k→k<n2→k<l3∨n3≤k))∧hi≤w.heap.size
theorem RsRes.rg {lo hi:Nat} {w:World} {v:Value} {r:Res} (h:RsRes lo hi w v r):Rg (fun w'=>RsRes lo hi w' v r) lo hi w:=by
 have h0:=h
 obtain⟨a,b,c,c1,c2,c3,l1,n1,l2,n2,l3,n3,rfl,⟨r1,r2,r3⟩,⟨q1,s1,q2,s2,q3,s3⟩,hd,hh⟩:=h
 exact⟨h0,hh,fun w' hs hk=>⟨a,b,c,c1,c2,c3,l1,n1,l2,n2,l3,n3,rfl,⟨r1.rg.on w' hs fun k k1 k2=>hk k (by omega) (by omega),r2.rg.on w' hs fun k k1 k2=>hk k (by omega) (by omega),r3.rg.on w' hs fun k k1 k2=>hk k (by omega) (by omega)⟩,⟨q1,s1,q2,s2,q3,s3⟩,hd,Nat.le_trans hh hs⟩⟩
theorem in_slice {w:World} {a:Option Addr} {n c:Nat} {xs:List R} (h:InRats w (.slice a n c) xs):RatsIn w.heap.size w a xs:=by
 obtain⟨a',c',e,h1⟩:=h
 injection e with e1 _ _
 subst e1
 exact h1
theorem RsRes.reads {lo hi:Nat} {w:World} {v:Value} {r:Res} (h:RsRes lo hi w v r):∃(a b c:Option Addr) (c1 c2 c3:Nat),v=resV a b c c1 c2 c3 r∧ResIn w.heap.size w a b c r:=by
 obtain⟨a,b,c,c1,c2,c3,l1,n1,l2,n2,l3,n3,rfl,⟨r1,r2,r3⟩,_⟩:=h
 exact⟨a,b,c,c1,c2,c3,rfl,in_slice r1.reads,in_slice r2.reads,in_slice r3.reads⟩
theorem RsRes.reads_c {lo hi:Nat} {w:World} {u0 u1 u2 u3 u4 u5 u6:Value} {r:Res} (h:RsRes lo hi w (.agg #[u0,u1,u2,u3,u4,u5,u6]) r):ResC w u0 u1 u2 u3 u4 u5 u6 r:=by
 obtain⟨a,b,c,c1,c2,c3,e,hi⟩:=h.reads
 unfold resV at e
 injection e with e
 have e0:u0=.int .i64 r.status:=by have:=congrArg (fun q=>q[0]?) e;simpa using this
 have e1:u1=.slice a r.X.length c1:=by have:=congrArg (fun q=>q[1]?) e;simpa using this
 have e2:u2=.slice b r.Y.length c2:=by have:=congrArg (fun q=>q[2]?) e;simpa using this
 have e3:u3=.slice c r.ray.length c3:=by have:=congrArg (fun q=>q[3]?) e;simpa using this
 have e4:u4=.int .i64 r.value.1:=by have:=congrArg (fun q=>q[4]?) e;simpa using this
 have e5:u5=.int .i64 r.value.2:=by have:=congrArg (fun q=>q[5]?) e;simpa using this
 have e6:u6=.int .i64 r.pivots:=by have:=congrArg (fun q=>q[6]?) e;simpa using this
 exact⟨a,b,c,c1,c2,c3,e0,e1,e2,e3,e4,e5,e6,hi⟩
def marksRes (r:Res):Res:=⟨r.status,marksR 1 r.X.length,marksR (1+2*r.X.length) r.Y.length,marksR (1+2*r.X.length+2*r.Y.length) r.ray.length,r.value,r.pivots⟩
def markNR (r:Res):Int:=1+2*(r.X.length:Int)+2*(r.Y.length:Int)+2*(r.ray.length:Int)
end Go.Proofs.YtjfnleilddgjiaaGreat
namespace Go.Proofs.YtjfnleilddgjiaaGreat
open Go.RowKit
open Ve (R)
open Lp (P Res)
end Go.Proofs.YtjfnleilddgjiaaGreat
namespace Go.Proofs.YtjfnleilddgjiaaGreat
open Go.RowKit
open Ve (R)
open Ta (T)
open Lp (P Res)
end Go.Proofs.YtjfnleilddgjiaaGreat
namespace Go.Proofs.YtjfnleilddgjiaaGreat
open Go.RowKit
open Ve (R)
open Gm (G)
open Cr (Cor)
theorem MakesCor.res {r:Cor} {w:World} {e:Ending} {w':World} (h:MakesCor r w e w'):(∃x y z:Value,e=.returned (.agg #[x,y,z])∧RsCor w.heap.size w'.heap.size w' (.agg #[x,y,z]) r)∧Below w.heap.size w w':=by
 obtain⟨⟨y,z,rfl,h1,h2,ho⟩,hb⟩:=h
 obtain⟨l1,n1,r1,q1,s1,b1⟩:=own_range h1 hb.size
 obtain⟨l2,n2,r2,q2,s2,b2⟩:=own_range h2 hb.size
 refine⟨⟨_,_,_,rfl,y,z,l1,n1,l2,n2,rfl,r1,r2,⟨q1,s1,q2,s2⟩,fun k k1 k2=>?_,Nat.le_refl _⟩,hb⟩
 rcases ho with rfl|rfl
 ·exact absurd (b1 k k1 k2) (by simp[Value.ownBlock])
 ·rcases Nat.lt_or_ge k l2 with h|h
  ·exact .inl h
  ·rcases Nat.lt_or_ge k n2 with h' | h'
   ·exact absurd (b2 k h h') (by simp[Value.ownBlock])
   ·exact .inr h'
theorem find_small (g:G):CorOk (Cr.find g):=by
 refine corOk ?_
 unfold corN
 rcases hv:Gm.vld g with _|_
 ·rw[Cr.find_bad hv]
  decide
 have hn:=Gm.vld_n hv
 by_cases h1:(Cr.sol g).status=1
 ·have hy:=Cr.sol_y hv h1
  obtain⟨_,_,_,ho,_⟩:=Cr.sol_fr hv h1
  have hx:(Cr.sol g).X.length=g.v.length-1:=(Lp.feas_parts (Lp.opt_parts ho).1).2.1.trans (Cr.cost_len _ _)
  have hl:=Gm.vld_len hv
  have hk:=(Cr.slack_fits hv h1).1
  by_cases h3:(Cr.slackR g).1<0
  ·rw[Cr.find_empty hv h1 hk h3]
   show 0+(Cr.sol g).X.length≤_
   have:=bal_small g
   omega
  ·rcases h4:Cr.lastK g with _|_
   ·rw[Cr.find_last hv h1 hk h3 h4]
    decide
   ·rw[Cr.find_point hv h1 hk h3 h4]
    show ((Cr.negs (Cr.sol g).Y).set _ _).length+0≤_
    rw[List.length_set,Cr.negs,List.length_map,hy]
    omega
 ·rw[Cr.find_stat hv h1]
  decide
theorem fnExactFindCore.walk (x y:Value) (g:G) (w:World) (n0:GmLens g) (h0:GmC w x y g) :
  Calls Tryz.prog 3 #[.agg #[x,y]] w fun e w'=>e=.returned (.bool true)∧Below w.heap.size w w':=
 fnExactFindCore.walk_c g (Cr.find g) (fun _=>find_small g) (fun f0 _ _ _ c0=>(spec_FindCore c0 f0).mono fun _ _ h=>h.res) (fun f0 _ _ _ c0=>(impl_FindCore c0 f0).mono fun _ _ h=>h.res) w _ _ n0 h0
end Go.Proofs.YtjfnleilddgjiaaGreat
namespace Go.Proofs.YtjfnleilddgjiaaGreat.fnExactFindCore
open Go.ChangeShapes Go.WideShapes Go.ChangeAt Go.RowKit
open Go.ChangeMaps (open_string shut_string)
theorem own:ownKnob Tryz.prog.godebug=none:=by kernel_rfl
theorem laidOut:laidOutB Tryz.prog=true:=by kernel_rfl
theorem contract (H:Type) (enc:TypeId×Value→H) (W:World) (base:Nat) (args:Array Value) (ds gs:List (DataW H)) (before:List MemPlace)
  (hval:∀(j:Nat) t v,Tryz.f3.params[j]? = some t→args[j]? = some v→Value.okWide Tryz.prog W .any base t v)
  (hW:DataW.Whole enc Tryz.prog Tryz.f3.params.toList Rows.fnExactFindCoreSpec.vars false W args.toList ds gs before) :
  Calls Tryz.prog 3 args W fun e W'=>∃v,e=.returned v∧Rows.fnExactFindCoreSpec.post enc Tryz.prog Tryz.f3 false true false false W args v W':=by
 have hW':=hW
 obtain⟨p,q,hA0,hV,rfl,hfz,hnd⟩:=hW
 have hA:DataW.TrodAll enc Tryz.prog W 0 (fun _=>true) true Tryz.f3.params.toList args.toList ds p:=hA0
 rw[Tryz.params3] at hA hval
 obtain⟨v0,vs0,d0,ds0,p0,q0,hargs,rfl,rfl,h0,r0⟩:=trodAll_cons hA
 obtain⟨rfl,rfl,rfl⟩:=trodAll_nil r0
 obtain rfl:args=#[v0]:=by cases args;simp_all
 obtain⟨rfl,rfl⟩:=trodVars_none hV
 have k0:=h0
 have lt0:∀x∈p0,x.block<W.heap.size:=by obtain⟨m,hm⟩:=k0;exact DataW.trod_lt m _ _ _ hm
 obtain⟨x0,y0,z0,rfl,m0,w0⟩:=gm_open (hval 0 24 v0 rfl rfl) h0
 clear hA0
 simp only[List.append_nil] at hW'
 refine (walk x0 y0 z0 W m0 w0).mono fun e W' ⟨he,bel⟩=>?_
 subst he
 exact⟨_,rfl,_,_,_,[],_,[],hW',trodAll_mk1 (shut_bool Tryz.underlying4 _),(trodAll_cons_mk (Below.trod laidOut (by kernel_rfl) (of_decide_eq_true (by kernel_rfl)) k0 bel lt0) trodAll_mk0),rfl,bel.frame _,fun h=>by cases h⟩
theorem lifted (os:Os) (started:os.Started) (H:Type) (enc:TypeId×Value→H) :
  ReturnsInHanded {} Tryz.checked os 3 .any (Rows.fnExactFindCoreSpec.pre6 enc Tryz.prog Tryz.f3 Rows.fnExactFindCoreRow.domain false) (Rows.fnExactFindCoreSpec.post enc Tryz.prog Tryz.f3 false true false false):=by
 refine returnsInHanded_of_change (C:=Tryz.checked) own started (by kernel_rfl) Tryz.func3
  (ChangeSpec.witness6 (enc:=enc) (C:=Tryz.checked) false ⟨#[],#[.agg #[.int .i64 0,.slice none 0 0]],[]⟩ 8 (by kernel_rfl) (by kernel_rfl) (by kernel_rfl) (by kernel_rfl)) ?_
 intro W base args ds gs before hval hW _ _
 exact contract H enc W base args ds gs before hval hW
theorem said:Rows.FnExactFindCoreSaid:=
 OpenClaim.holds_of_wide 3 Tryz.f3 rfl rfl rfl rfl rfl rfl rfl ⟨rfl,rfl,rfl,rfl,rfl⟩ rfl rfl rfl rfl rfl (by kernel_rfl) Tryz.func3 (by kernel_rfl)
  (of_decide_eq_true (by kernel_rfl)) (by unfold Func.isWrapper;first | (rw[if_pos (by decide +kernel)];kernel_rfl) | (rw[if_neg (by decide +kernel)];exact⟨rfl,rfl⟩))
  (fun os started H enc _=>lifted os started H enc)
end Go.Proofs.YtjfnleilddgjiaaGreat.fnExactFindCore
