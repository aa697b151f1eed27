/- What opens a game that came in (of NumOpen and GmOpen, which this claim holds without it). -/
import Derived.Test.YtjfnleilddgjiaaGreatGLr
import Derived.Test.YtjfnleilddgjiaaGreatGLr
namespace Go.Proofs.YtjfnleilddgjiaaGreat
theorem add_at (b o i:Nat):(⟨b,o,none⟩:Addr).add i=⟨b,o+i,none⟩:=by
 unfold Addr.add
 split
 ·rename_i h
  have h4:i=0:=by simpa using h
  subst h4;rfl
 ·rfl
open Go.RowKit Go.Deep Go.ChangeShapes Go.WideShapes
theorem plain_of {W:World} {a:Addr} {v:Value} (h:W.cell? (a.add 0)=some v):∃b o,a=⟨b,o,none⟩:=by
 obtain⟨b,o,sp⟩:=a
 have h2:=World.cell?_spot h
 unfold Addr.add at h2
 rw[if_pos (by decide)] at h2
 have hs:sp=none:=h2
 subst hs
 exact⟨b,o,rfl⟩
theorem nums_of {W:World} {A:Option Addr} {l:Nat} {zs:List Int} (hl:l≤zs.length) (hn:A=none→l=0) (hc:∀a',A=some a'→∀c,c<zs.length→W.cell? (a'.add c)=some (.int .i64 (zs.getD c 0))):NumsIn W.heap.size W A (zs.take l):=fun j hj=>by
 have hj2:j<l:=by simp at hj;omega
 cases hA:A with
 | none=>have:=hn hA;omega
 | some a=>
  have h0:=hc a hA 0 (by omega)
  obtain⟨b,o,rfl⟩:=plain_of h0
  have h1:=hc _ hA j (by omega)
  rw[add_at] at h1
  refine⟨b,o,rfl,block_lt_of_cell (a:=⟨b,o+j,none⟩) h1,?_⟩
  rw[h1]
  simp[List.getD_eq_getElem?_getD,hj2]
theorem ints_open {H:Type} {enc:TypeId×Value→H} {W:World} {fuel:Nat} {v:Value} {x:DataW H×List MemPlace}
  (h:DataW.trod enc Tryz.prog W 0 (fun _=>true) true fuel 22 [v]=some x):∃(a:Option Addr) (c:Nat) (l:List Int),v=.slice a l.length c∧l.length≤9223372036854775807∧NumsIn W.heap.size W a l:=by
 rcases open_ints Tryz.underlying22 Tryz.underlying3 (by kernel_rfl) h with ⟨hcs,_⟩ | ⟨a,len,cap,zs,hcs,_,hl,hm,hz,_,hcell,hwz⟩
 ·simp at hcs
  subst hcs
  exact⟨none,0,[],rfl,by decide,fun j hj=>by simp at hj⟩
 ·simp at hcs
  subst hcs
  simp only[if_true] at hz
  unfold maxLen at hm
  refine⟨some a,cap,zs.take len,?_,?_,nums_of (by omega) (fun e=>by cases e) fun a' e c hc=>?_⟩
  ·rw[List.length_take];congr 1;omega
  ·rw[List.length_take];omega
  ·cases e;exact hcell c hc
open Gm (G)
set_option maxRecDepth 100000 in
theorem gm_open {H:Type} {enc:TypeId×Value→H} {W:World} {base:Nat} {v:Value} {d:DataW H} {ps:List MemPlace} (hv:Value.okWide Tryz.prog W .any base 24 v)
  (h:DataW.Trod enc Tryz.prog W 0 (fun _=>true) true 24 v d ps) :
  ∃(x y:Value) (g:G),v=.agg #[x,y]∧GmLens g∧GmC W x y g:=by
 obtain⟨v0,v1,y0,y1,n,rfl,_,_,h0,h1⟩:=Joins.open_agg2 Tryz.underlying24 (by kernel_rfl) (by kernel_rfl) hv h
 obtain⟨s,a0,_,ws⟩:=DataW.trod_int Tryz.underlying3 h0
 obtain⟨b,c2,l,rfl,l3,m2⟩:=ints_open h1
 simp only[List.cons.injEq,and_true] at a0
 subst a0
 exact⟨_,_,⟨s,l⟩,rfl,⟨l3,ws⟩,b,c2,rfl,rfl,m2⟩
end Go.Proofs.YtjfnleilddgjiaaGreat
