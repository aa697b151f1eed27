/- The parts LkI, VeI, LkRow, GmA. -/
import Derived.Test.YtjfnleilddgjiaaGreatHGrI
import Derived.Test.YtjfnleilddgjiaaGreatGVa
import Derived.Test.YtjfnleilddgjiaaGreatGVb
import Derived.Test.YtjfnleilddgjiaaGreatHPyM
namespace Go.Proofs.YtjfnleilddgjiaaGreat
open Go.RowKit
theorem Zae.same {B:Nat} {w w':World} {v:Value} {xs:List Int} (h:Zae B w v xs) (hs:∀g,v.ownBlock=some g->w'.heap[g]? = w.heap[g]?):Zae B w' v xs:=by
 obtain⟨h1,h2|⟨g,cap,cur,rfl,hg,hh,hr⟩⟩:=h
 ·exact⟨h1,.inl h2⟩
 ·exact⟨h1,.inr ⟨g,cap,cur,rfl,hg,(hs g rfl).trans hh,hr⟩⟩
theorem Zae.turned {lo hi B:Nat} {w w':World} {v:Value} {xs:List Int} (h:Zae B w v xs) (ht:Turned lo hi w w') (hB:∀g,v.ownBlock=some g->g<lo\/hi≤g):Zae B w' v xs:=
 h.same fun g hg=>ht.block g (World.ownsRow.lt h g hg).2 (hB g hg)
def Zbz (lo hi:Nat) (w:World) (u:Value) (xs:List Int):Prop:=∃(a:Option Addr) (c:Nat),u=.slice a xs.length c/\(xs.length≠0->Zae lo w u xs/\∀g,u.ownBlock=some g->g<hi)
def Blk (u:Value) (n b:Nat):Prop:=n≠0/\u.ownBlock=some b
theorem Zbz.Zhg {lo hi:Nat} {w:World} {u:Value} {xs:List Int} (h:Zae lo w u xs) (hb:∀g,u.ownBlock=some g->g<hi):Zbz lo hi w u xs:=by
 obtain⟨a,c,rfl,_⟩:=Zax h;exact⟨a,c,rfl,fun _=>⟨h,hb⟩⟩
theorem Zbz.blk {lo hi:Nat} {w:World} {u:Value} {xs:List Int} (h:Zbz lo hi w u xs) {b:Nat} (hb:Blk u xs.length b):lo≤b/\b<hi/\b<w.heap.size:=by
 obtain⟨a,c,rfl,h2⟩:=h;obtain⟨h3,h4⟩:=h2 hb.1;have:=World.ownsRow.lt h3 b hb.2;exact⟨this.1,h4 b hb.2,this.2⟩
theorem Zbz.same {lo hi:Nat} {w w':World} {u:Value} {xs:List Int} (h:Zbz lo hi w u xs) (hs:∀b,Blk u xs.length b->w'.heap[b]? = w.heap[b]?):Zbz lo hi w' u xs:=by
 obtain⟨a,c,rfl,h2⟩:=h;exact⟨a,c,rfl,fun hn=>⟨(h2 hn).1.same fun g hg=>hs g ⟨hn,hg⟩,(h2 hn).2⟩⟩
theorem Zbz.below {lo hi:Nat} {w w':World} {u:Value} {xs:List Int} (h:Zbz lo hi w u xs) (hb:Below w.heap.size w w'):Zbz lo hi w' u xs:=h.same fun b h1=>hb.block b (h.blk h1).2.2
theorem Zbz.reads {lo hi:Nat} {w:World} {u:Value} {xs:List Int} (h:Zbz lo hi w u xs):∃(a:Option Addr) (c:Nat),u=.slice a xs.length c/\Zas hi w a xs:=by
 obtain⟨a,c,rfl,h2⟩:=h;refine⟨a,c,rfl,fun j hj=>?_⟩;obtain⟨h3,h4⟩:=h2 (by omega);obtain⟨a',c',e,hr,hp,_⟩:=Zax h3;obtain⟨rfl,rfl⟩:a=a'/\c=c':=by injection e with e1 _ e3;exact⟨e1,e3⟩
 exact Zas.Zbv (B:=hi) hr (fun p hp=>h4 p.block (by rw[hp];rfl)) j hj
theorem Zbz.turned {lo hi l2 h2:Nat} {w w':World} {u:Value} {xs:List Int} (h:Zbz lo hi w u xs) (ht:Turned l2 h2 w w') (ha:hi≤l2\/h2≤lo):Zbz lo hi w' u xs:=h.same fun b hb=>by
 have:=h.blk hb;exact ht.block b this.2.2 (by omega)
theorem Zae.Zen {B B':Nat} {w:World} {v:Value} {xs:List Int} (h:Zae B w v xs) (hB:B'≤B):Zae B' w v xs:=by
 obtain⟨h1,h2|⟨g,cap,cur,e,hg,rest⟩⟩:=h
 ·exact⟨h1,.inl h2⟩
 ·exact⟨h1,.inr ⟨g,cap,cur,e,by omega,rest⟩⟩
theorem Zbz.wider {lo hi lo' hi':Nat} {w:World} {u:Value} {xs:List Int} (h:Zbz lo hi w u xs) (h1:lo'≤lo) (h2:hi≤hi'):Zbz lo' hi' w u xs:=by
 obtain⟨a,c,rfl,k⟩:=h;exact⟨a,c,rfl,fun hn=>⟨(k hn).1.Zen h1,fun g hg=>Nat.lt_of_lt_of_le ((k hn).2 g hg) h2⟩⟩
def SzR (n:Nat) (left:Int) (w:World) (e:Ending) (w':World):Prop:=
 ∃r:Int,e=.returned (.int .i64 r)/\-1≤r/\r≤1048576/\(0≤r->(n:Int)+r=left)/\w=w'
open Ve (R)
theorem Zaa.same {B:Nat} {w w':World} {v:Value} {xs:List R} (h:Zaa B w v xs) (hs:∀g,v.ownBlock=some g->w'.heap[g]? = w.heap[g]?):Zaa B w' v xs:=by
 obtain⟨h1,h2|⟨g,cap,cur,rfl,hg,hh,hr⟩⟩:=h
 ·exact⟨h1,.inl h2⟩
 ·exact⟨h1,.inr ⟨g,cap,cur,rfl,hg,(hs g rfl).trans hh,hr⟩⟩
theorem Zaa.turned {lo hi B:Nat} {w w':World} {v:Value} {xs:List R} (h:Zaa B w v xs) (ht:Turned lo hi w w') (hB:∀g,v.ownBlock=some g->g<lo\/hi≤g):Zaa B w' v xs:=
 h.same fun g hg=>ht.block g (World.ownsRow.lt h g hg).2 (hB g hg)
theorem Zaa.raise {B B':Nat} {w:World} {v:Value} {xs:List R} (h:Zaa B w v xs) (hB:B'≤B):Zaa B' w v xs:=by
 obtain⟨h1,h2|⟨g,cap,cur,e,hg,rest⟩⟩:=h
 ·exact⟨h1,.inl h2⟩
 ·exact⟨h1,.inr ⟨g,cap,cur,e,by omega,rest⟩⟩
/-! ### A row: of the call's own, in a block from lo to hi - 1, or empty -/
def Zeo (lo hi:Nat) (w:World) (u:Value) (xs:List R):Prop:=∃(a:Option Addr) (c:Nat),u=.slice a xs.length c/\(xs.length≠0->Zaa lo w u xs/\∀g,u.ownBlock=some g->g<hi)
theorem Zeo.Zhg {lo hi:Nat} {w:World} {u:Value} {xs:List R} (h:Zaa lo w u xs) (hb:∀g,u.ownBlock=some g->g<hi):Zeo lo hi w u xs:=by
 obtain⟨a,c,rfl,_⟩:=Zai h;exact⟨a,c,rfl,fun _=>⟨h,hb⟩⟩
theorem Zeo.blk {lo hi:Nat} {w:World} {u:Value} {xs:List R} (h:Zeo lo hi w u xs) {b:Nat} (hb:Blk u xs.length b):lo≤b/\b<hi/\b<w.heap.size:=by
 obtain⟨a,c,rfl,h2⟩:=h;obtain⟨h3,h4⟩:=h2 hb.1;have:=World.ownsRow.lt h3 b hb.2;exact⟨this.1,h4 b hb.2,this.2⟩
theorem Zeo.same {lo hi:Nat} {w w':World} {u:Value} {xs:List R} (h:Zeo lo hi w u xs) (hs:∀b,Blk u xs.length b->w'.heap[b]? = w.heap[b]?):Zeo lo hi w' u xs:=by
 obtain⟨a,c,rfl,h2⟩:=h;exact⟨a,c,rfl,fun hn=>⟨(h2 hn).1.same fun g hg=>hs g ⟨hn,hg⟩,(h2 hn).2⟩⟩
theorem Zeo.below {lo hi:Nat} {w w':World} {u:Value} {xs:List R} (h:Zeo lo hi w u xs) (hb:Below w.heap.size w w'):Zeo lo hi w' u xs:=h.same fun b h1=>hb.block b (h.blk h1).2.2
theorem Zeo.reads {lo hi:Nat} {w:World} {u:Value} {xs:List R} (h:Zeo lo hi w u xs):∃(a:Option Addr) (c:Nat),u=.slice a xs.length c/\Zaj hi w a xs:=by
 obtain⟨a,c,rfl,h2⟩:=h;refine⟨a,c,rfl,fun j x hx=>?_⟩;have hn:xs.length≠0:=by have:=(List.getElem?_eq_some_iff.1 hx).1;omega
 obtain⟨h3,h4⟩:=h2 hn;obtain⟨a',c',e,hr,_⟩:=Zai h3;obtain⟨rfl,rfl⟩:a=a'/\c=c':=by injection e with e1 _ e3;exact⟨e1,e3⟩
 exact (hr.narrow fun p hp=>h4 p.block (by rw[hp];rfl)) j x hx
theorem Zeo.wider {lo hi lo' hi':Nat} {w:World} {u:Value} {xs:List R} (h:Zeo lo hi w u xs) (h1:lo'≤lo) (h2:hi≤hi'):Zeo lo' hi' w u xs:=by
 obtain⟨a,c,rfl,k⟩:=h;exact⟨a,c,rfl,fun hn=>⟨(k hn).1.raise h1,fun g hg=>Nat.lt_of_lt_of_le ((k hn).2 g hg) h2⟩⟩
theorem Zeo.turned {lo hi l2 h2:Nat} {w w':World} {u:Value} {xs:List R} (h:Zeo lo hi w u xs) (ht:Turned l2 h2 w w') (ha:hi≤l2\/h2≤lo):Zeo lo hi w' u xs:=h.same fun b hb=>by
 have:=h.blk hb;exact ht.block b this.2.2 (by omega)
open Gm (G)
theorem two {w:World} {q:Nat} {x y:Value} {t:TypeId} (h:Zad w q #[x,y] t):w.cell? ⟨q,0,none⟩=some x/\w.cell? ⟨q,1,none⟩=some y:=⟨h.cell 0,h.cell 1⟩
theorem two' {w:World} {q:Nat} {x y:Value} {t:TypeId} (h:Zad w q #[x,y] t):w.cell? ⟨q,0,none⟩=some x/\w.cell? ⟨q,1,none⟩=some y/\w.frozen? ⟨q,0,none⟩=false/\w.frozen? ⟨q,1,none⟩=false:=⟨h.cell 0,h.cell 1,h.free 0,h.free 1⟩
theorem Zad.s0 {w:World} {q:Nat} {x y:Value} {t:TypeId} (h:Zad w q #[x,y] t) (u:Value):Zad (w.setCell ⟨q,0,none⟩ u) q #[u,y] t:=by
 have:=h.set 0 u
 simpa using this
theorem Zad.s1 {w:World} {q:Nat} {x y:Value} {t:TypeId} (h:Zad w q #[x,y] t) (u:Value):Zad (w.setCell ⟨q,1,none⟩ u) q #[x,u] t:=by
 have:=h.set 1 u
 simpa using this
def Z41 (g:G):Prop:=g.v.length≤9223372036854775807/\(Lit.int .i64 g.n).wf=true
def GmOk (g:G):Prop:=g.v.length≤1048576/\(Lit.int .i64 g.n).wf=true
theorem GmOk.n {g:G} (h:GmOk g):-9223372036854775808≤g.n/\g.n≤9223372036854775807:=by
 have h2:=h.2;have e1:IntKind.i64.min=-9223372036854775808:=rfl;have e2:IntKind.i64.max=9223372036854775807:=rfl;simp[Lit.wf,e1,e2] at h2;exact h2
def GmC (w:World) (x y:Value) (g:G):Prop:=∃(a:Option Addr) (c:Nat),x=.int .i64 g.n/\y=.slice a g.v.length c/\Zas w.heap.size w a g.v
def Zh1 (lo hi:Nat) (w:World) (v:Value) (g:G):Prop:=∃vV:Value,v=.agg #[.int .i64 g.n,vV]/\Zbz lo hi w vV g.v/\hi≤w.heap.size
theorem GmC.up {w w':World} {x y:Value} {g:G} (h:GmC w x y g) (hb:Below w.heap.size w w'):GmC w' x y g:=by
 obtain⟨a,c,e0,e1,hi⟩:=h;exact⟨a,c,e0,e1,(hi.below hb).mono hb.size⟩
theorem GmC.one {w:World} {x y:Value} {g:G} (h:GmC w x y g):x.oneCell'=true/\y.oneCell'=true:=by
 obtain⟨a,c,rfl,rfl,_⟩:=h;exact⟨rfl,rfl⟩
theorem GmC.rg {w:World} {x y:Value} {g:G} (h:GmC w x y g):Rg (fun w'=>GmC w' x y g) 0 w.heap.size w:=
 ⟨h,Nat.le_refl _,fun w' hs hk=>by
  obtain⟨a,c,e0,e1,hi⟩:=h;exact⟨a,c,e0,e1,Zas.mono (hi.same fun k h=>hk k (Nat.zero_le _) h) hs⟩⟩
theorem Zh1.size {lo hi:Nat} {w:World} {v:Value} {g:G} (h:Zh1 lo hi w v g):hi≤w.heap.size:=by
 obtain⟨_,_,_,h⟩:=h;exact h
theorem Zh1.Zdx {lo hi:Nat} {w:World} {x y:Value} {g:G} (h:Zh1 lo hi w (.agg #[x,y]) g):GmC w x y g:=by
 obtain⟨vV,e,hr,hs⟩:=h;obtain⟨a,c,rfl,hn⟩:=hr.reads;injection e with e
 have e0:x=.int .i64 g.n:=by have:=congrArg (fun q=>q[0]?) e;simpa using this
 have e1:y=.slice a g.v.length c:=by have:=congrArg (fun q=>q[1]?) e;simpa using this
 exact⟨a,c,e0,e1,hn.mono hs⟩
theorem Zh1.rg {lo hi:Nat} {w:World} {v:Value} {g:G} (h:Zh1 lo hi w v g):Rg (fun w'=>Zh1 lo hi w' v g) lo hi w:=by
 refine⟨h,h.size,fun w' hs hk=>?_⟩;obtain⟨vV,rfl,hr,hh⟩:=h;exact⟨vV,rfl,hr.same fun b hb=>by have:=hr.blk hb;exact hk b this.1 this.2.1,Nat.le_trans hh hs⟩
theorem Zh1.Zhg {lo:Nat} {w:World} {vV:Value} {g:G} (h:Zae lo w vV g.v):Zh1 lo w.heap.size w (.agg #[.int .i64 g.n,vV]) g:=
 ⟨vV,rfl,Zbz.Zhg h fun g hg=>(World.ownsRow.lt h g hg).2,Nat.le_refl _⟩
end Go.Proofs.YtjfnleilddgjiaaGreat
