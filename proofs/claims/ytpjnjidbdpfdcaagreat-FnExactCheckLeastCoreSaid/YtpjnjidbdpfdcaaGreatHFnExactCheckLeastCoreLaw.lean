/- FnExactCheckLeastCore: for every input the law returns true, and each argument reads as it did. -/
import Derived.Test.YtpjnjidbdpfdcaaGreatLkLe
import Derived.Test.YtpjnjidbdpfdcaaGreatGLr
import Derived.Test.YtpjnjidbdpfdcaaGreatGmA
import Derived.Test.YtpjnjidbdpfdcaaGreatHNumOpen
import Derived.Test.YtpjnjidbdpfdcaaGreatLeC
import Derived.Test.YtpjnjidbdpfdcaaGreatLeL3
import Derived.Test.YtpjnjidbdpfdcaaGreatRows
import Derived.ProofKit
import Derived.OpenShut
import Derived.ShutString
import Derived.ChangeOld
import Derived.Deep.DeepHandedRow
set_option maxRecDepth 100000
namespace Go.Proofs.YtpjnjidbdpfdcaaGreat
open Go.RowKit Go.Deep Go.ChangeShapes Go.WideShapes Go.ChangeAt
open Ve (R)
open Le (Lst)
theorem Zqa {α:Type} {cs:Array α} (h:cs.size=5):∃c0 c1 c2 c3 c4,cs=#[c0,c1,c2,c3,c4]:=by
 obtain⟨l⟩:=cs
 match l,h with
 | [c0,c1,c2,c3,c4],_=>exact⟨c0,c1,c2,c3,c4,rfl⟩
set_option maxHeartbeats 1000000 in
theorem Znt {H:Type} {enc:TypeId×Value->H} {W:World} {base:Nat} {v:Value} {d:DataW H} {ps:List MemPlace} (hv:Value.okWide Tryz.prog W .any base 29 v)
  (h:DataW.Trod enc Tryz.prog W 0 (fun _=>true) true 29 v d ps) :
  ∃(x n e y z:Value) (r:Lst),v=.agg #[x,n,e,y,z]/\Zgt r/\LstC W x n e y z r:=by
 obtain⟨cs,rfl,hsz⟩:=okWide_struct Tryz.underlying29 hv;obtain⟨c0,c1,c2,c3,c4,rfl⟩:=Zqa (hsz.trans (by kernel_rfl));obtain⟨fuel,hf⟩:=h;obtain⟨xs,n,_,_,hl,hlen,hg⟩:=DataW.trod_struct Tryz.underlying29 hf
 match xs,hlen with
 | [y0,y1,y2,y3],_=>
  have g0:=hg 0 _ rfl;have g1:=hg 1 _ rfl;have g2:=hg 2 _ rfl;have g3:=hg 3 _ rfl;have kb:Tryz.prog.cellsOf 4=1:=by kernel_rfl
  have ki:Tryz.prog.cellsOf 3=1:=by kernel_rfl
  have ks:Tryz.prog.cellsOf 27=1:=by kernel_rfl
  have kr:Tryz.prog.cellsOf 26=2:=by kernel_rfl
  have e0:DataW.trod enc Tryz.prog W 0 (fun _=>true) true n 4 [c0]=some y0:=by simpa [Value.cells,kb] using g0
  have e1:DataW.trod enc Tryz.prog W 0 (fun _=>true) true n 26 [c1,c2]=some y1:=by simpa [Value.cells,kr] using g1
  have e2:DataW.trod enc Tryz.prog W 0 (fun _=>true) true n 27 [c3]=some y2:=by simpa [Value.cells,ks] using g2
  have e3:DataW.trod enc Tryz.prog W 0 (fun _=>true) true n 27 [c4]=some y3:=by simpa [Value.cells,ks] using g3
  clear g0 g1 g2 g3 hg hf hl hlen hsz hv;obtain⟨s,a0,_⟩:=DataW.trod_bool Tryz.underlying4 e0;obtain⟨z0,z1,m,_,_,q0,q1⟩:=trod_struct2 Tryz.underlying26 e1;have f0:DataW.trod enc Tryz.prog W 0 (fun _=>true) true m 3 [c1]=some z0:=by simpa [Value.cells,ki] using q0
  have f1:DataW.trod enc Tryz.prog W 0 (fun _=>true) true m 3 [c2]=some z1:=by simpa [Value.cells,ki] using q1
  obtain⟨nu,b4,_,_⟩:=DataW.trod_int Tryz.underlying3 f0;obtain⟨de,b5,_,_⟩:=DataW.trod_int Tryz.underlying3 f1;simp only[List.cons.injEq,and_true] at a0 b4 b5;subst a0 b4 b5;obtain⟨a,k1,X,rfl,l1,m1⟩:=Zgn e2;obtain⟨b,k2,Y,rfl,l2,m2⟩:=Zgn e3;exact⟨_,_,_,_,_,⟨s,(nu,de),X,Y⟩,rfl,⟨l1,l2⟩,rfl,rfl,rfl,⟨a,k1,rfl,m1⟩,⟨b,k2,rfl,m2⟩⟩
open Go.RowKit Go.Deep Go.ChangeShapes Go.WideShapes
open Gm (G)
theorem Zo9 {H:Type} {enc:TypeId×Value->H} {W:World} {base:Nat} {v:Value} {d:DataW H} {ps:List MemPlace} (hv:Value.okWide Tryz.prog W .any base 24 v)
  (h:DataW.Trod enc Tryz.prog W 0 (fun _=>true) true 24 v d ps) :
  ∃(x y:Value) (g:G),v=.agg #[x,y]/\Zhk g/\GmC W x y g:=by
 obtain⟨v0,v1,y0,y1,n,rfl,_,_,h0,h1⟩:=Joins.open_agg2 Tryz.underlying24 (by kernel_rfl) (by kernel_rfl) hv h;obtain⟨s,a0,_,ws⟩:=DataW.trod_int Tryz.underlying3 h0;obtain⟨b,c2,l,rfl,l3,m2⟩:=Zl6 h1;simp only[List.cons.injEq,and_true] at a0;subst a0;exact⟨_,_,⟨s,l⟩,rfl,⟨l3,ws⟩,b,c2,rfl,rfl,m2⟩
open Go.RowKit
theorem fnExactCheckLeastCore.walk (x y:Value) (g:G) (u0 u1 u2 u3 u4:Value) (r:Lst) (w:World) (n0:Zhk g) (h0:GmC w x y g) (n1:Zgt r) (h1:LstC w u0 u1 u2 u3 u4 r) :
  Calls Tryz.prog 3 #[.agg #[x,y],.agg #[u0,u1,u2,u3,u4]] w fun e w'=>e=.returned (.bool true)/\Below w.heap.size w w':=
 fnExactCheckLeastCore.Zqz g r (Le.chkL g r) (fun f0 f1 _ _ _ _ _ _ _ _ c0 c1=>Zdn _ rfl c0 c1 f0 f1) (fun f0 f1 _ _ _ _ _ _ _ _ c0 c1=>Zdj _ rfl c0 c1 f0 f1) w _ _ _ _ _ _ _ n0 n1 h0 h1
end Go.Proofs.YtpjnjidbdpfdcaaGreat
namespace Go.Proofs.YtpjnjidbdpfdcaaGreat.fnExactCheckLeastCore
open Go.ChangeShapes Go.WideShapes Go.ChangeAt Go.RowKit
open Go.ChangeMaps (open_string shut_string)
theorem own:ownKnob Tryz.prog.godebug=none:=by kernel_rfl
theorem laidOut:laidOutB Tryz.prog=true:=by kernel_rfl
theorem contract (H:Type) (enc:TypeId×Value->H) (W:World) (base:Nat) (args:Array Value) (ds gs:List (DataW H)) (before:List MemPlace)
  (hval:∀(j:Nat) t v,Tryz.f3.params[j]? = some t->args[j]? = some v->Value.okWide Tryz.prog W .any base t v)
  (hW:DataW.Whole enc Tryz.prog Tryz.f3.params.toList Rows.fnExactCheckLeastCoreSpec.vars false W args.toList ds gs before) :
  Calls Tryz.prog 3 args W fun e W'=>∃v,e=.returned v/\Rows.fnExactCheckLeastCoreSpec.post enc Tryz.prog Tryz.f3 false true false false W args v W':=by
 have hW':=hW;obtain⟨p,q,hA0,hV,rfl,hfz,hnd⟩:=hW;have hA:DataW.TrodAll enc Tryz.prog W 0 (fun _=>true) true Tryz.f3.params.toList args.toList ds p:=hA0;rw[Tryz.params3] at hA hval;obtain⟨v0,vs0,d0,ds0,p0,q0,hargs,rfl,rfl,h0,r0⟩:=trodAll_cons hA;obtain⟨v1,vs1,d1,ds1,p1,q1,rfl,rfl,rfl,h1,r1⟩:=trodAll_cons r0;obtain⟨rfl,rfl,rfl⟩:=trodAll_nil r1;obtain rfl:args=#[v0,v1]:=by cases args;simp_all
 obtain⟨rfl,rfl⟩:=trodVars_none hV;have k0:=h0;have lt0:∀x∈p0,x.block<W.heap.size:=by obtain⟨m,hm⟩:=k0;exact DataW.trod_lt m _ _ _ hm
 obtain⟨x0,y0,z0,rfl,m0,w0⟩:=Zo9 (hval 0 24 v0 rfl rfl) h0;have k1:=h1;have lt1:∀x∈p1,x.block<W.heap.size:=by obtain⟨m,hm⟩:=k1;exact DataW.trod_lt m _ _ _ hm
 obtain⟨x1,n1,e1,y1,u1,z1,rfl,m1,w1⟩:=Znt (hval 1 29 v1 rfl rfl) h1;clear hA0;simp only[List.append_nil] at hW';refine (walk x0 y0 z0 x1 n1 e1 y1 u1 z1 W m0 w0 m1 w1).mono fun e W' ⟨he,bel⟩=>?_
 subst he;exact⟨_,rfl,_,_,_,[],_,[],hW',trodAll_mk1 (shut_bool Tryz.underlying4 _),(trodAll_cons_mk (Below.trod laidOut (by kernel_rfl) (of_decide_eq_true (by kernel_rfl)) k0 bel lt0) (trodAll_cons_mk (Below.trod laidOut (by kernel_rfl) (of_decide_eq_true (by kernel_rfl)) k1 bel lt1) trodAll_mk0)),rfl,bel.frame _,fun h=>by cases h⟩
theorem lifted (os:Os) (started:os.Started) (H:Type) (enc:TypeId×Value->H) :
  ReturnsInHanded {} Tryz.checked os 3 .any (Rows.fnExactCheckLeastCoreSpec.pre6 enc Tryz.prog Tryz.f3 Rows.fnExactCheckLeastCoreRow.domain false) (Rows.fnExactCheckLeastCoreSpec.post enc Tryz.prog Tryz.f3 false true false false):=by
 refine returnsInHanded_of_change (C:=Tryz.checked) own started (by kernel_rfl) Tryz.func3
  (ChangeSpec.witness6 (enc:=enc) (C:=Tryz.checked) false ⟨#[],#[.agg #[.int .i64 0,.slice none 0 0],.agg #[.bool false,.int .i64 0,.int .i64 0,.slice none 0 0,.slice none 0 0]],[]⟩ 8 (by kernel_rfl) (by kernel_rfl) (by kernel_rfl) (by kernel_rfl)) ?_
 intro W base args ds gs before hval hW _ _;exact contract H enc W base args ds gs before hval hW
theorem said:Rows.FnExactCheckLeastCoreSaid:=
 OpenClaim.holds_of_wide 3 Tryz.f3 rfl rfl rfl rfl rfl rfl rfl ⟨rfl,rfl,rfl,rfl,rfl⟩ rfl rfl rfl rfl rfl (by kernel_rfl) Tryz.func3 (by kernel_rfl)
  (of_decide_eq_true (by kernel_rfl)) (by unfold Func.isWrapper;first | (rw[if_pos (by decide +kernel)];kernel_rfl) | (rw[if_neg (by decide +kernel)];exact⟨rfl,rfl⟩))
  (fun os started H enc _=>lifted os started H enc)
end Go.Proofs.YtpjnjidbdpfdcaaGreat.fnExactCheckLeastCore
