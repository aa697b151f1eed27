/- The parts LkBase, GrI. -/
import Derived.Test.YtlohljkfphljgaaGreatGB
import Derived.Deep.RegionHeld3
import Derived.Test.YtlohljkfphljgaaGreatHNumI
import Derived.Laws.AppendOwnNone
import Derived.OwnWalk
namespace Go.Proofs.YtlohljkfphljgaaGreat
open Go.RowKit
structure Turned (lo hi:Nat) (w w':World):Prop where
 os:w'.os=w.os
 tape:w'.tape=w.tape
 output:w'.output=w.output
 size:w.heap.size≤w'.heap.size
 block:∀k,k<w.heap.size->(k<lo\/hi≤k)->w'.heap[k]? = w.heap[k]?
theorem Turned.refl (lo hi:Nat) (w:World):Turned lo hi w w:=⟨rfl,rfl,rfl,Nat.le_refl _,fun _ _ _=>rfl⟩
theorem Turned.trans {lo hi:Nat} {a b c:World} (h:Turned lo hi a b) (k:Turned lo hi b c):Turned lo hi a c:=
 ⟨k.os.trans h.os,k.tape.trans h.tape,k.output.trans h.output,Nat.le_trans h.size k.size,fun i h1 h2=>(k.block i (by have:=h.size;omega) h2).trans (h.block i h1 h2)⟩
theorem Turned.Zof {lo hi:Nat} {w w':World} {row:Option Nat} (h:w.grownBy w' row) (hr:∀g,row=some g->lo≤g/\g<hi):Turned lo hi w w':=
 ⟨h.os,h.tape,h.output,h.size,fun k h1 h2=>h.block k h1 (fun e=>by have:=hr k e.symm;omega)⟩
theorem Turned.of_below {lo hi:Nat} {w w':World} (h:Below w.heap.size w w'):Turned lo hi w w':=⟨h.os,h.tape,h.output,h.size,fun k h1 _=>h.block k h1⟩
theorem Turned.low {lo hi:Nat} {w w':World} (h:Turned lo hi w w') (hl:lo≤w.heap.size):Below lo w w':=
 ⟨h.os,h.tape,h.output,h.size,fun k hk=>h.block k (by omega) (.inl hk)⟩
theorem Turned.wider {lo hi lo' hi':Nat} {w w':World} (h:Turned lo hi w w') (h1:lo'≤lo) (h2:hi≤hi'):Turned lo' hi' w w':=
 ⟨h.os,h.tape,h.output,h.size,fun k hk hr=>h.block k hk (by omega)⟩
theorem Turned.setCell {lo hi:Nat} {a w:World} (h:Turned lo hi a w) {p:Addr} (h1:lo≤p.block) (h2:p.block<hi) (u:Value):Turned lo hi a (w.setCell p u):=
 ⟨h.os,h.tape,h.output,by have:=h.size;simpa [World.setCell] using this,fun k hk hr=>by
  obtain⟨b,o,sp⟩:=p;simp only at h1 h2;rw[Below.heap_setCell _ _ _ _ (show k≠b by omega)];exact h.block k hk hr⟩
theorem Turned.step {lo hi:Nat} {a w w':World} (h:Turned lo hi a w) (hb:Below w.heap.size w w'):Turned lo hi a w':=h.trans (.of_below hb)
/-! ### Boxes of any number of cells -/
def Zac (w:World) (q:Nat) (cs:Array Value) (t:TypeId):Prop:=w.heap[q]? = some (.cells cs t)
theorem Zac.cell {w:World} {q:Nat} {cs:Array Value} {t:TypeId} (h:Zac w q cs t) (i:Nat):w.cell? ⟨q,i,none⟩=cs[i]?:=by
 unfold Zac at h;simp[World.cell?,h]
theorem Zac.free {w:World} {q:Nat} {cs:Array Value} {t:TypeId} (h:Zac w q cs t) (i:Nat):w.frozen? ⟨q,i,none⟩=false:=by
 unfold Zac at h;simp[World.frozen?,h]
theorem Zac.below {w w':World} {q:Nat} {cs:Array Value} {t:TypeId} (h:Zac w q cs t) (hb:Below w.heap.size w w'):Zac w' q cs t:=(hb.block q (Zab h)).trans h
theorem Zac.new (w:World) (cs:Array Value) (t:TypeId):Zac (w.alloc (.cells cs t)) w.heap.size cs t:=by show (w.heap.push _)[w.heap.size]? = _;simp
theorem Zac.more {w:World} {q:Nat} {cs:Array Value} {t:TypeId} (h:Zac w q cs t) (o:Obj):Zac (w.alloc o) q cs t:=by
 have hl:=Zab h;show (w.heap.push _)[q]? = _;rw[Array.getElem?_push_lt hl,<-Array.getElem?_eq_getElem hl];exact h
theorem Zac.other {w:World} {q:Nat} {cs:Array Value} {t:TypeId} (h:Zac w q cs t) {p:Addr} (hp:p.block≠q) (u:Value):Zac (w.setCell p u) q cs t:=by
 obtain⟨b,o,sp⟩:=p;show (w.setCell _ u).heap[q]? = _;rw[Below.heap_setCell _ _ _ _ (fun e=>hp e.symm)];exact h
theorem Zac.set {w:World} {q:Nat} {cs:Array Value} {t:TypeId} (h:Zac w q cs t) (i:Nat) (u:Value):Zac (w.setCell ⟨q,i,none⟩ u) q (cs.setIfInBounds i u) t:=by
 show (w.heap.modify q _)[q]? = _;rw[Array.getElem?_modify,show w.heap[q]? = _ from h];simp
theorem Zac.drewN {w:World} {q:Nat} {cs:Array Value} {t:TypeId} (h:Zac w q cs t) (d:Nat):Zac (w.drewN d) q cs t:=h
theorem seven {w:World} {q:Nat} {s x y z n d pv:Value} {t:TypeId} (h:Zac w q #[s,x,y,z,n,d,pv] t) :
  (w.cell? ⟨q,0,none⟩=some s/\w.cell? ⟨q,1,none⟩=some x/\w.cell? ⟨q,2,none⟩=some y/\w.cell? ⟨q,3,none⟩=some z/\w.cell? ⟨q,4,none⟩=some n/\w.cell? ⟨q,5,none⟩=some d/\w.cell? ⟨q,6,none⟩=some pv)/\
  (w.frozen? ⟨q,0,none⟩=false/\w.frozen? ⟨q,1,none⟩=false/\w.frozen? ⟨q,2,none⟩=false/\w.frozen? ⟨q,3,none⟩=false/\w.frozen? ⟨q,4,none⟩=false/\w.frozen? ⟨q,5,none⟩=false/\w.frozen? ⟨q,6,none⟩=false):=
 ⟨⟨h.cell 0,h.cell 1,h.cell 2,h.cell 3,h.cell 4,h.cell 5,h.cell 6⟩,h.free 0,h.free 1,h.free 2,h.free 3,h.free 4,h.free 5,h.free 6⟩
theorem Zyo (g:Bool):(g != g)=false:=by cases g<;>rfl
theorem sto {v:Value} (h:v.oneCell'=true):∀(W:World) (a:Addr) (m:Mode),(store a v m).run Tryz.prog W=stored Tryz.prog W a v m:=fun W a m=>run_store _ W a v m h
def Stable (K:World->Prop):Prop:=∀w w',Below w.heap.size w w'->K w->K w'
theorem Za5 {P:Program} {f:FuncId} {args:Array Value} {wx:World} {G:Ending->World->Prop} {K:World->Prop} (hs:Stable K) (h:Calls P f args wx fun e w'=>G e w'/\Below wx.heap.size wx w') (hk:K wx) :
  Calls P f args wx fun e w'=>G e w'/\Below wx.heap.size wx w'/\K w':=h.mono fun _ _ ⟨hg,hb⟩=>⟨hg,hb,hs _ _ hb hk⟩
theorem Stable.drew {K:World->Prop} (hs:Stable K) {w:World} (h:K w):K w.drew:=hs _ _ (Below.refl _ _).drew h
theorem Stable.drewN {K:World->Prop} (hs:Stable K) {w:World} (h:K w) (n:Nat):K (w.drewN n):=hs _ _ (below_drewN (Below.refl _ _) n) h
theorem Stable.alloc {K:World->Prop} (hs:Stable K) {w:World} (h:K w) (o:Obj):K (w.alloc o):=hs _ _ ((Below.refl _ _).alloc (Nat.le_refl _) o) h
theorem Stable.and {K L:World->Prop} (h:Stable K) (h':Stable L):Stable fun w=>K w/\L w:=fun w w' hb ⟨k,l⟩=>⟨h w w' hb k,h' w w' hb l⟩
theorem Zqc (q:Nat) (cs:Array Value) (t:TypeId):Stable fun w=>Zac w q cs t:=fun _ _ hb h=>h.below hb
theorem Zun (w0:World):Stable fun w=>Below w0.heap.size w0 w:=fun _ _ hb h=>h.trans (hb.mono h.size)
theorem Zn7 {K:World->Prop} (hs:Stable K) {w:World} (cs:Array Value) (t:TypeId) (G:World->Prop) (hG:Stable G) (hk:K w) (hg:G w) :
  ∃L:World->Prop,Stable L/\(∀w',L w'->K w'/\Zac w' w.heap.size cs t/\G w')/\L (w.alloc (.cells cs t)):=
 ⟨fun w'=>K w'/\Zac w' w.heap.size cs t/\G w',hs.and ((Zqc _ _ _).and hG),fun _ h=>h,hs.alloc hk _,Zac.new _ _ _,hG.alloc hg _⟩
theorem three {w:World} {q:Nat} {x y z:Value} {t:TypeId} (h:Zac w q #[x,y,z] t):w.cell? ⟨q,0,none⟩=some x/\w.cell? ⟨q,1,none⟩=some y/\w.cell? ⟨q,2,none⟩=some z:=⟨h.cell 0,h.cell 1,h.cell 2⟩
structure Rg (F:World->Prop) (a b:Nat) (w:World):Prop where
 get:F w
 size:b≤w.heap.size
 on:∀w',w.heap.size≤w'.heap.size->(∀k,a≤k->k<b->w'.heap[k]? = w.heap[k]?)->F w'
theorem Rg.same {F:World->Prop} {a b:Nat} {w w':World} (h:Rg F a b w) (hs:w.heap.size≤w'.heap.size) (hk:∀k,a≤k->k<b->w'.heap[k]? = w.heap[k]?):Rg F a b w':=
 ⟨h.on w' hs hk,Nat.le_trans h.size hs,fun w'' h1 h2=>h.on w'' (Nat.le_trans hs h1) fun k h3 h4=>(h2 k h3 h4).trans (hk k h3 h4)⟩
theorem Rg.below {F:World->Prop} {a b:Nat} {w w':World} (h:Rg F a b w) (hb:Below w.heap.size w w'):Rg F a b w':=h.same hb.size fun k _ h2=>hb.block k (by have:=h.size;omega)
theorem Rg.turned {F:World->Prop} {a b lo hi:Nat} {w w':World} (h:Rg F a b w) (ht:Turned lo hi w w') (ha:b≤lo\/hi≤a):Rg F a b w':=h.same ht.size fun k h1 h2=>ht.block k (by have:=h.size;omega) (by omega)
theorem Zec (F:World->Prop) (a b:Nat):Stable fun w=>Rg F a b w:=fun _ _ hb h=>h.below hb
theorem Zy8 {w:World} {q:Nat} {cs:Array Value} {t:TypeId} (h:Zac w q cs t):Rg (fun w'=>Zac w' q cs t) q (q+1) w:=
 ⟨h,Zab h,fun _ _ hk=>(hk q (Nat.le_refl _) (Nat.lt_succ_self _)).trans h⟩
theorem Zpu (w:World) (cs:Array Value) (t:TypeId):Rg (fun w'=>Zac w' w.heap.size cs t) w.heap.size (w.heap.size+1) (w.alloc (.cells cs t)):=Zy8 (Zac.new w cs t)
theorem Rg.more {F:World->Prop} {a b:Nat} {w:World} (h:Rg F a b w) (o:Obj):Rg F a b (w.alloc o):=h.below ((Below.refl _ _).alloc (Nat.le_refl _) o)
theorem Zak {B:Nat} {T:TypeId} {s n:Nat} {w w':World} {v:Value} {vs:List Value} (h:w.ownsRow B T s v n vs) (hs:∀g,v.ownBlock=some g->w'.heap[g]? = w.heap[g]?):w'.ownsRow B T s v n vs:=by
 obtain⟨h1,h2|⟨g,cap,cur,rfl,hg,hh,hr⟩⟩:=h
 ·exact⟨h1,.inl h2⟩
 ·exact⟨h1,.inr ⟨g,cap,cur,rfl,hg,(hs g rfl).trans hh,hr⟩⟩
def TyAt (w:World) (b:Nat) (T:TypeId):Prop:=∃cs,w.heap[b]? = some (.cells cs T)
theorem TyAt.ne {w:World} {b b':Nat} {T T':TypeId} (h:TyAt w b T) (h':TyAt w b' T') (hT:T≠T'):b≠b':=fun e=>by
 subst e;obtain⟨cs,h⟩:=h;obtain⟨cs',h'⟩:=h';rw[h] at h';injection h' with h'
 injection h' with e1 e2
 exact hT e2
theorem TyAt.same {w w':World} {b:Nat} {T:TypeId} (h:TyAt w b T) (hs:w'.heap[b]? = w.heap[b]?):TyAt w' b T:=by
 obtain⟨cs,h⟩:=h;exact⟨cs,hs.trans h⟩
theorem Zav {w:World} {B s n:Nat} {T:TypeId} {v:Value} {xs:List Value} (h:w.ownsRow B T s v n xs) {g:Nat} (hg:v.ownBlock=some g):TyAt w g T:=by
 obtain⟨_,⟨rfl,_⟩ | ⟨g1,c1,cur1,rfl,_,hh1,_⟩⟩:=h
 ·cases hg
 ·obtain rfl:g1=g:=by simpa [Value.ownBlock] using hg
  exact⟨_,hh1⟩
theorem Zel {W w w':World} {row:Option Nat} (h:W.grownBy w row) (hb:Below w.heap.size w w'):W.grownBy w' row:=
 ⟨hb.os.trans h.os,hb.tape.trans h.tape,hb.output.trans h.output,Nat.le_trans h.size hb.size,fun k h1 h2=>(hb.block k (by have:=h.size;omega)).trans (h.block k h1 h2)⟩
theorem Zsk {W w w':World} {row:Option Nat} (h:W.grownBy w row) (k:w.grownBy w' row):W.grownBy w' row:=
 ⟨k.os.trans h.os,k.tape.trans h.tape,k.output.trans h.output,Nat.le_trans h.size k.size,fun i h1 h2=>(k.block i (by have:=h.size;omega) h2).trans (h.block i h1 h2)⟩
theorem Zny {W w:World} {row:Option Nat} (h:W.grownBy w row):W.grownBy w.drew row:=Zel h (Below.refl _ _).drew
theorem Znx {W w:World} {row:Option Nat} (h:W.grownBy w row) (o:Obj):W.grownBy (w.alloc o) row:=Zel h ((Below.refl _ _).alloc (Nat.le_refl _) o)
theorem Zde {W w:World} {row:Option Nat} (h:W.grownBy w row) {p:Addr} {u:Value} (hp:p.block<W.heap.size) (hr:row≠some p.block) (hu:W.cell? p=some u):w.cell? p=some u:=by
 rw[World.cell?_of_block (w:=W) (a:=p) (h.block _ hp (fun e=>hr e.symm))];exact hu
theorem Zg5 {B:Nat} {a W w:World} {row:Option Nat} (h:Below B a W) (hg:W.grownBy w row) (hB:B≤W.heap.size) (hr:∀g,row=some g->B≤g):Below B a w:=h.grown hg hB hr
theorem Zao {w:World} {B s n q i:Nat} {T:TypeId} {v u:Value} {xs:List Value} (h:w.ownsRow B T s v n xs) (hq:v.ownBlock≠some q):(w.setCell ⟨q,i,none⟩ u).ownsRow B T s v n xs:=
 Zak h fun g hg=>Below.heap_setCell _ _ _ _ (fun e=>hq (by rw[hg,e]))
theorem Zim {w:World} {q:Nat} {t t':TypeId} (h:TyAt w q t) (hT:t≠t'):¬TyAt w q t':=fun h'=>TyAt.ne h h' hT rfl
theorem Zam {B:Nat} {w:World} {v:Value} {xs:List Int} (h:Zad B w v xs):∃(a:Option Addr) (c:Nat),v=.slice a xs.length c:=by
 obtain⟨a,c,e,_⟩:=Zaw h;exact⟨a,c,e⟩
theorem Since.grown {B w w':World} {row:Option Nat} (h:Since B w) (hg:w.grownBy w' row) (hr:∀g,row=some g->B.heap.size≤g):Since B w':=⟨h.low.grown hg h.low.size hr⟩
theorem one_num (w:World) (x:Int):Zat (w.heap.size+1) (w.alloc (.cells #[.int .i64 x] 3)) (some ⟨w.heap.size,0,none⟩) [x]:=fun j hj=>by
 match j with
 | 0=>exact⟨w.heap.size,0,rfl,Nat.lt_succ_self _,(Zac.new w #[.int .i64 x] 3).cell 0⟩
 | j+1=>simp at hj
theorem Zdt {P:Program} {w:World} (base:Nat) (t ty e:TypeId) (i:TypeInfo) (size:Nat) (ht:P.underlying t=some (.slice e)) (hi:P.info? e=some i) (v:Value) (n:Nat) (xs:List Value) (c:Nat) (hown:w.ownsRow base e size v n xs) :
  (Builtin.append_ #[t,t] ty #[v,.slice none 0 c]).run P w=.ok v w:=by
 rcases hown.2 with ⟨rfl,rfl⟩ | ⟨g,cap,cur,rfl,_,_,hnc,_⟩
 ·simp[Builtin.append_,run_underlying ht,sizeOf,typeInfo,hi,Builtin.lenOf,Builtin.firstCells]
 ·simp[Builtin.append_,run_underlying ht,sizeOf,typeInfo,hi,Builtin.lenOf,Builtin.firstCells,hnc,storeCells]
theorem Zjj {n:Nat} {w:World} {b o:Nat} {ys:List Int} (h:Zat n w (some ⟨b,o,none⟩) ys):∀j u,(ys.map (Value.int .i64))[j]? = some u->w.cell? ((⟨b,o,none⟩:Addr).add j)=some u:=fun j u hu=>by
 have hlt:j<ys.length:=by have:=(List.getElem?_eq_some_iff.1 hu).1;simpa using this
 obtain⟨b',o',e,_,c0⟩:=h j hlt;obtain⟨rfl,rfl⟩:b=b'/\o=o':=by simp only[Option.some.injEq,Addr.mk.injEq] at e;exact⟨e.1,e.2.1⟩
 rw[Addr.add_lit,c0,<-hu];simp[hlt]
theorem Zee {w:World} {ops:Array Oper} {o:Oper} {a:Act} {K:Act->World->Prop} {Q:Exit->Act->World->Prop} {E:Prop} (hgd:o.guard=none) (s x:Operand)
  (hop:o.op=Op.call { callee:=Callee.builtin Builtin.append,args:=#[s,x],argTypes:=#[25,25] }) (B:Nat) (v:Value) (xs:List Int) (hs:a.eval s=v) (hown:Zad B w v xs) (ad:Option Addr) (ys:List Int) (n c:Nat) (hn:n=ys.length) (hx:a.eval x=.slice ad n c)
  (n0:Nat) (hr:Zat n0 w ad ys) (hlen:xs.length+ys.length≤4000000) (hB:B≤w.heap.size) (hK:∀v' w',Zad B w' v' (xs++ys)->w.grownBy w' v.ownBlock->K (a.put o.dst v') w'):if Region.wanted o (yielded ops a.tmps)=true then Oper.wp Tryz.prog o a w K Q else E:=by
 have hw:Region.wanted o (yielded ops a.tmps)=true:=by simp[Region.wanted,hgd]
 rw[if_pos hw];subst hn;obtain⟨i0,hi,hz0,hz1,hz2⟩:=info_parts Zdc;cases ad with
 | none=>
  have h0:ys = []:=by
   cases ys with
   | nil=>rfl
   | cons y ys=>obtain⟨b,o,e,_⟩:=hr 0 (by simp);cases e
  subst h0;have hrun:=Zdt (P:=Tryz.prog) (w:=w) B 25 o.type 3 i0 1 Tryz.underlying25 hi v xs.length _ c hown;unfold Oper.wp;simp only[List.length_nil] at hx;simp[execOp,hop,resolve,invoke,builtin,hs,hx,hrun,Result.andThen];exact hK v w (by simpa using hown) (World.grownBy.refl _ _)
 | some q=>
  obtain⟨b,o1,sp⟩:=q;refine wp_append_own w s x 25 hop B 3 i0 (.int .i64 0) 1 8 Tryz.underlying25 hi hz0 hz1 hz2 rfl (by decide) v xs.length (xs.map (Value.int .i64)) hs hown ⟨b,o1,sp⟩ ys.length c (ys.map (Value.int .i64)) hx (by simp) ?_ (fun u hu=>ints_oneCell .i64 ys u hu) (by unfold maxLen;omega) (by omega) hB ?_
  ·intro j u hj
   have hlt:j<ys.length:=by have:=(List.getElem?_eq_some_iff.1 hj).1;simpa using this
   obtain⟨b',o',e,_⟩:=hr j hlt;have e2:sp=none:=by
    simp only[Option.some.injEq,Addr.mk.injEq] at e;exact e.2.2
   subst e2;exact Zjj hr j u hj
  ·intro v' w' h1 h2 _
   refine hK v' w' ?_ h2;unfold Zad;rw[List.length_append,List.map_append];exact h1
theorem Zdk (w:World):Zad w.heap.size (w.alloc (.cells #[] 3)) (.slice (some ⟨w.heap.size,0,none⟩) 0 0) []:=World.ownsRow_made w #[] 0 (Nat.le_refl _) (Nat.zero_le _) rfl
theorem Zac.ty {w:World} {q:Nat} {cs:Array Value} {t:TypeId} (h:Zac w q cs t):TyAt w q t:=⟨_,h⟩
theorem Za7 {w:World} {B s n q:Nat} {T t:TypeId} {v:Value} {xs:List Value} (h:w.ownsRow B T s v n xs) (hx:TyAt w q t) (hT:T≠t):v.ownBlock≠some q:=fun hq=>(TyAt.ne (Zav h hq) hx hT) rfl
end Go.Proofs.YtlohljkfphljgaaGreat
