/- The parts IntsLaw, Row, Big, NumI, LkBase, GrI. -/
import Derived.Test.YtjfnleilddgjiaaGreatHHeldT
import Derived.Test.YtjfnleilddgjiaaGreatCoA
import Derived.Test.YtjfnleilddgjiaaGreatRows
import Derived.ProofKit
import Derived.OpenShut
import Derived.Test.YtjfnleilddgjiaaGreatHDrawA
import Derived.Laws.AppendOwn
import Derived.Deep.RegionHeld3
import Derived.Laws.AppendOwnNone
import Derived.OwnWalk
namespace Go.Proofs.YtjfnleilddgjiaaGreat
open Go.RowKit
def Z40 (w:World) (e:Ending) (w':World):Prop:=e=.returned (.bool true)/\∃d,w'=w.drewN d
def Zs8 (k n:Nat):List Int:=(List.range n).map fun j=>((k+j:Nat):Int)
def Z2v (B k:Nat) (v:Value) (n:Nat) (w:World) (e:Ending) (w':World):Prop:=
 e=.returned (.int .i64 ((k:Int)+n))/\Zae B w' v (Zs8 k n)/\w.grownBy w' v.ownBlock
theorem Zw0 {B g cap:Nat} {w:World} {xs:List Int} (h:Zae B w (.slice (some ⟨g,0,none⟩) xs.length cap) xs) (j:Nat) (x:Int):Zae B (w.setCell ⟨g,j,none⟩ (.int .i64 x)) (.slice (some ⟨g,0,none⟩) (xs.set j x).length cap) (xs.set j x):=by
 have:=World.ownsRow.stored h j (.int .i64 x);unfold Zae;rw[List.length_set,List.map_set];exact this.1
theorem Zh7 {w a:World} {g:Nat} (h:w.grownBy a (some g)) (j:Nat) (u:Value):w.grownBy (a.setCell ⟨g,j,none⟩ u) (some g):=
 ⟨h.os,h.tape,h.output,by have:=h.size;simp;omega,fun k hk hne=>by
  rw[Below.heap_setCell _ _ _ _ (show k≠g from fun e=>hne (by rw[e]))];exact h.block k hk hne⟩
def Zo8 (k:IntKind) (B:Nat) (w:World) (a:Option Addr) (len:Nat) (zs:List Int):Prop:=
 len≤9223372036854775807/\zs.length=len/\∀i,i<len->∃b o:Nat,a=some ⟨b,o,none⟩/\b<B/\w.cell? ⟨b,o+i,none⟩=some (.int k (zs.getD i 0))/\(Lit.int k (zs.getD i 0)).wf=true
theorem lt_of_cell {w:World} {p:Addr} {v:Value} (h:w.cell? p=some v):p.block<w.heap.size:=by
 rcases Nat.lt_or_ge p.block w.heap.size with h1|h1
 ·exact h1
 ·unfold World.cell? at h
  rw[Array.getElem?_eq_none h1] at h
  split at h<;>simp_all
theorem Zrv (k:IntKind) (B:Nat) (w:World):Zo8 k B w none 0 []:=⟨by decide,rfl,fun i h=>absurd h (by omega)⟩
theorem ints_at {k:IntKind} {w:World} {x:Addr} {len cap:Nat} {zs:List Int} (hl:len≤cap) (hm:cap≤maxLen) (hz:zs.length=cap)
  (hc:∀i,i<zs.length->w.cell? (x.add i)=some (.int k (zs.getD i 0))) (hw:∀n∈zs,(Lit.int k n).wf=true) :
  Zo8 k w.heap.size w (some x) len (zs.take len):=by
 refine⟨by unfold maxLen at hm;omega,by rw[List.length_take];omega,fun i hi=>?_⟩;have h1:=hc i (by omega);obtain⟨b,o,sp⟩:=x;have hsp:sp=none:=by
  have h2:=World.cell?_spot (hc 0 (by omega));unfold Addr.add at h2;rw[if_pos (by decide)] at h2;exact h2
 subst hsp;have h2:w.cell? ⟨b,o+i,none⟩=some (.int k (zs.getD i 0)):=by
  have h3:=h1;unfold Addr.add at h3
  split at h3
  ·rename_i h0
   have h4:i=0:=by simpa using h0
   subst h4;exact h3
  ·exact h3
 have e:(zs.take len).getD i 0=zs.getD i 0:=by
  simp[List.getD_eq_getElem?_getD,hi]
 refine⟨b,o,rfl,lt_of_cell (p:=⟨b,o+i,none⟩) h2,by rw[e];exact h2,?_⟩;rw[e]
 apply hw
 rw[List.getD_eq_getElem?_getD,List.getElem?_eq_getElem (by omega)];exact List.getElem_mem _
theorem Z1n {B:Nat} {w:World} {a:Option Addr} {len:Nat} {zs:List Int} (h:Zo8 .u8 B w a len zs):Zc6 B w a len:=
 ⟨h.1,fun i hi=>by
  obtain⟨b,o,h1,h2,h3,h4⟩:=h.2.2 i hi;have e1:IntKind.u8.min=0:=rfl;have e2:IntKind.u8.max=255:=rfl;simp[Lit.wf,e1,e2] at h4;exact⟨b,o,_,h1,h2,h4.1,h4.2,h3⟩⟩
theorem Z29 (a:Option Addr) (len cap:Nat) (hl:len≤1048576) (w:World) :
  Calls Tryz.prog 16 #[.slice a len cap] w fun e w'=>e=.returned (.bool false)/\w=w':=by
 have hb:decide ((1048576:Int)<(len:Int))=false:=by rw[decide_eq_false_iff_not];omega
 go_enter Tryz.func16,Tryz.ntmps16
 go_wp2_with fail
 go_ret;exact⟨rfl,rfl⟩
theorem Z1m (a:Option Addr) (len cap:Nat) (hl:1048576<len) (w:World) :
  Calls Tryz.prog 16 #[.slice a len cap] w fun e w'=>e=.returned (.bool true)/\w=w':=by
 have hb:decide ((1048576:Int)<(len:Int))=true:=by rw[decide_eq_true_iff];omega
 go_enter Tryz.func16,Tryz.ntmps16
 go_wp2_with fail
 go_ret;exact⟨rfl,rfl⟩
def Zas (B:Nat) (w:World) (a:Option Addr) (zs:List Int):Prop:=∀j,j<zs.length->∃b o:Nat,a=some ⟨b,o,none⟩/\b<B/\w.cell? ⟨b,o+j,none⟩=some (.int .i64 (zs.getD j 0))
theorem Zas.below {B:Nat} {w w':World} {a:Option Addr} {zs:List Int} (h:Zas B w a zs) (hb:Below B w w'):Zas B w' a zs:=fun j hj=>by
 obtain⟨b,o,h1,h2,h3⟩:=h j hj;exact⟨b,o,h1,h2,by rw[hb.cell (p:=⟨b,o+j,none⟩) h2];exact h3⟩
theorem Zas.mono {B B':Nat} {w:World} {a:Option Addr} {zs:List Int} (h:Zas B w a zs) (hB:B≤B'):Zas B' w a zs:=fun j hj=>by
 obtain⟨b,o,h1,h2,h3⟩:=h j hj;exact⟨b,o,h1,by omega,h3⟩
theorem Zas.Zbv {B:Nat} {w:World} {a:Option Addr} {zs:List Int} (h:IntsIn w a zs) (ha:∀p,a=some p->p.block<B):Zas B w a zs:=fun j hj=>by
 obtain⟨b,o,h1,h2⟩:=h j _ (List.getElem?_eq_getElem hj);refine⟨b,o,h1,ha ⟨b,o,none⟩ h1,?_⟩;rw[List.getD_eq_getElem?_getD,List.getElem?_eq_getElem hj];exact h2
theorem Zas.grown {B:Nat} {w w':World} {row:Option Nat} {a:Option Addr} {zs:List Int} (h:Zas B w a zs) (hg:w.grownBy w' row) (hB:B≤w.heap.size) (hr:∀g,row=some g->B≤g):Zas B w' a zs:=fun j hj=>by
 obtain⟨b,o,h1,h2,h3⟩:=h j hj;exact⟨b,o,h1,h2,by rw[World.cell?_of_block (w:=w) (a:=⟨b,o+j,none⟩) (hg.block b (by omega) (fun e=>by have:=hr b e.symm;omega))];exact h3⟩
theorem Zas.ints {B:Nat} {w:World} {a:Option Addr} {zs:List Int} (h:Zas B w a zs):IntsIn w a zs:=fun j x hx=>by
 have hj:j<zs.length:=(List.getElem?_eq_some_iff.1 hx).1;obtain⟨b,o,h1,_,h3⟩:=h j hj;refine⟨b,o,h1,?_⟩;rw[h3,List.getD_eq_getElem?_getD,hx];rfl
theorem Zae.grown {lo:Nat} {w w':World} {v:Value} {xs:List Int} {row:Option Nat} (h:Zae lo w v xs) (hg:w.grownBy w' row) (hne:∀g,v.ownBlock=some g->row≠some g):Zae lo w' v xs:=
 World.ownsRow.kept h hg (by
  cases hv:v.ownBlock with
  | none=>exact .inl rfl
  | some g=>exact .inr (fun e=>hne g hv e.symm))
theorem Zas.same {n:Nat} {w w':World} {a:Option Addr} {L:List Int} (h:Zas n w a L) (hk:∀k,k<n->w'.heap[k]? = w.heap[k]?):Zas n w' a L:=fun j hj=>by
 obtain⟨b,o,e1,h2,h3⟩:=h j hj;exact⟨b,o,e1,h2,by rw[World.cell?_of_block (w:=w) (a:=⟨b,o+j,none⟩) (hk b h2)];exact h3⟩
theorem Zas.drewN {B:Nat} {w:World} {a:Option Addr} {zs:List Int} (h:Zas B w a zs) (d:Nat):Zas B (w.drewN d) a zs:=h
def Z39 (B g n k:Nat) (wr:World) (xs:List Int):Prop:=
 ∃L:List Value,wr.ownsRow B 3 1 (.slice (some ⟨g,0,none⟩) n n) n L/\∀j,j<k->L[j]? = some (.int .i64 (xs.getD j 0))
structure Turned (lo hi:Nat) (w w':World):Prop where
 os:w'.os=w.os
 tape:w'.tape=w.tape
 output:w'.output=w.output
 size:w.heap.size≤w'.heap.size
 block:∀k,k<w.heap.size->(k<lo\/hi≤k)->w'.heap[k]? = w.heap[k]?
theorem Turned.refl (lo hi:Nat) (w:World):Turned lo hi w w:=⟨rfl,rfl,rfl,Nat.le_refl _,fun _ _ _=>rfl⟩
theorem Turned.trans {lo hi:Nat} {a b c:World} (h:Turned lo hi a b) (k:Turned lo hi b c):Turned lo hi a c:=
 ⟨k.os.trans h.os,k.tape.trans h.tape,k.output.trans h.output,Nat.le_trans h.size k.size,fun i h1 h2=>(k.block i (by have:=h.size;omega) h2).trans (h.block i h1 h2)⟩
theorem Turned.Zzk {lo hi:Nat} {w w':World} {row:Option Nat} (h:w.grownBy w' row) (hr:∀g,row=some g->lo≤g/\g<hi):Turned lo hi w w':=
 ⟨h.os,h.tape,h.output,h.size,fun k h1 h2=>h.block k h1 (fun e=>by have:=hr k e.symm;omega)⟩
theorem Turned.of_below {lo hi:Nat} {w w':World} (h:Below w.heap.size w w'):Turned lo hi w w':=⟨h.os,h.tape,h.output,h.size,fun k h1 _=>h.block k h1⟩
theorem Turned.low {lo hi:Nat} {w w':World} (h:Turned lo hi w w') (hl:lo≤w.heap.size):Below lo w w':=
 ⟨h.os,h.tape,h.output,h.size,fun k hk=>h.block k (by omega) (.inl hk)⟩
theorem Turned.wider {lo hi lo' hi':Nat} {w w':World} (h:Turned lo hi w w') (h1:lo'≤lo) (h2:hi≤hi'):Turned lo' hi' w w':=
 ⟨h.os,h.tape,h.output,h.size,fun k hk hr=>h.block k hk (by omega)⟩
theorem Turned.setCell {lo hi:Nat} {a w:World} (h:Turned lo hi a w) {p:Addr} (h1:lo≤p.block) (h2:p.block<hi) (u:Value):Turned lo hi a (w.setCell p u):=
 ⟨h.os,h.tape,h.output,by have:=h.size;simpa [World.setCell] using this,fun k hk hr=>by
  obtain⟨b,o,sp⟩:=p;simp only at h1 h2;rw[Below.heap_setCell _ _ _ _ (show k≠b by omega)];exact h.block k hk hr⟩
theorem Turned.step {lo hi:Nat} {a w w':World} (h:Turned lo hi a w) (hb:Below w.heap.size w w'):Turned lo hi a w':=h.trans (.of_below hb)
/-! ### Boxes of any number of cells -/
def Zad (w:World) (q:Nat) (cs:Array Value) (t:TypeId):Prop:=w.heap[q]? = some (.cells cs t)
theorem Zad.cell {w:World} {q:Nat} {cs:Array Value} {t:TypeId} (h:Zad w q cs t) (i:Nat):w.cell? ⟨q,i,none⟩=cs[i]?:=by
 unfold Zad at h;simp[World.cell?,h]
theorem Zad.free {w:World} {q:Nat} {cs:Array Value} {t:TypeId} (h:Zad w q cs t) (i:Nat):w.frozen? ⟨q,i,none⟩=false:=by
 unfold Zad at h;simp[World.frozen?,h]
theorem Zad.below {w w':World} {q:Nat} {cs:Array Value} {t:TypeId} (h:Zad w q cs t) (hb:Below w.heap.size w w'):Zad w' q cs t:=(hb.block q (Zab h)).trans h
theorem Zad.new (w:World) (cs:Array Value) (t:TypeId):Zad (w.alloc (.cells cs t)) w.heap.size cs t:=by show (w.heap.push _)[w.heap.size]? = _;simp
theorem Zad.more {w:World} {q:Nat} {cs:Array Value} {t:TypeId} (h:Zad w q cs t) (o:Obj):Zad (w.alloc o) q cs t:=by
 have hl:=Zab h;show (w.heap.push _)[q]? = _;rw[Array.getElem?_push_lt hl,<-Array.getElem?_eq_getElem hl];exact h
theorem Zad.other {w:World} {q:Nat} {cs:Array Value} {t:TypeId} (h:Zad w q cs t) {p:Addr} (hp:p.block≠q) (u:Value):Zad (w.setCell p u) q cs t:=by
 obtain⟨b,o,sp⟩:=p;show (w.setCell _ u).heap[q]? = _;rw[Below.heap_setCell _ _ _ _ (fun e=>hp e.symm)];exact h
theorem Zad.set {w:World} {q:Nat} {cs:Array Value} {t:TypeId} (h:Zad w q cs t) (i:Nat) (u:Value):Zad (w.setCell ⟨q,i,none⟩ u) q (cs.setIfInBounds i u) t:=by
 show (w.heap.modify q _)[q]? = _;rw[Array.getElem?_modify,show w.heap[q]? = _ from h];simp
theorem Zad.drewN {w:World} {q:Nat} {cs:Array Value} {t:TypeId} (h:Zad w q cs t) (d:Nat):Zad (w.drewN d) q cs t:=h
theorem seven {w:World} {q:Nat} {s x y z n d pv:Value} {t:TypeId} (h:Zad w q #[s,x,y,z,n,d,pv] t) :
  (w.cell? ⟨q,0,none⟩=some s/\w.cell? ⟨q,1,none⟩=some x/\w.cell? ⟨q,2,none⟩=some y/\w.cell? ⟨q,3,none⟩=some z/\w.cell? ⟨q,4,none⟩=some n/\w.cell? ⟨q,5,none⟩=some d/\w.cell? ⟨q,6,none⟩=some pv)/\
  (w.frozen? ⟨q,0,none⟩=false/\w.frozen? ⟨q,1,none⟩=false/\w.frozen? ⟨q,2,none⟩=false/\w.frozen? ⟨q,3,none⟩=false/\w.frozen? ⟨q,4,none⟩=false/\w.frozen? ⟨q,5,none⟩=false/\w.frozen? ⟨q,6,none⟩=false):=
 ⟨⟨h.cell 0,h.cell 1,h.cell 2,h.cell 3,h.cell 4,h.cell 5,h.cell 6⟩,h.free 0,h.free 1,h.free 2,h.free 3,h.free 4,h.free 5,h.free 6⟩
def Stable (K:World->Prop):Prop:=∀w w',Below w.heap.size w w'->K w->K w'
theorem Za7 {P:Program} {f:FuncId} {args:Array Value} {wx:World} {G:Ending->World->Prop} {K:World->Prop} (hs:Stable K) (h:Calls P f args wx fun e w'=>G e w'/\Below wx.heap.size wx w') (hk:K wx) :
  Calls P f args wx fun e w'=>G e w'/\Below wx.heap.size wx w'/\K w':=h.mono fun _ _ ⟨hg,hb⟩=>⟨hg,hb,hs _ _ hb hk⟩
theorem Stable.drew {K:World->Prop} (hs:Stable K) {w:World} (h:K w):K w.drew:=hs _ _ (Below.refl _ _).drew h
theorem Stable.drewN {K:World->Prop} (hs:Stable K) {w:World} (h:K w) (n:Nat):K (w.drewN n):=hs _ _ (below_drewN (Below.refl _ _) n) h
theorem Stable.alloc {K:World->Prop} (hs:Stable K) {w:World} (h:K w) (o:Obj):K (w.alloc o):=hs _ _ ((Below.refl _ _).alloc (Nat.le_refl _) o) h
theorem Stable.and {K L:World->Prop} (h:Stable K) (h':Stable L):Stable fun w=>K w/\L w:=fun w w' hb ⟨k,l⟩=>⟨h w w' hb k,h' w w' hb l⟩
theorem Zqx (q:Nat) (cs:Array Value) (t:TypeId):Stable fun w=>Zad w q cs t:=fun _ _ hb h=>h.below hb
theorem Zol {K:World->Prop} (hs:Stable K) {w:World} (cs:Array Value) (t:TypeId) (G:World->Prop) (hG:Stable G) (hk:K w) (hg:G w) :
  ∃L:World->Prop,Stable L/\(∀w',L w'->K w'/\Zad w' w.heap.size cs t/\G w')/\L (w.alloc (.cells cs t)):=
 ⟨fun w'=>K w'/\Zad w' w.heap.size cs t/\G w',hs.and ((Zqx _ _ _).and hG),fun _ h=>h,hs.alloc hk _,Zad.new _ _ _,hG.alloc hg _⟩
theorem three {w:World} {q:Nat} {x y z:Value} {t:TypeId} (h:Zad w q #[x,y,z] t):w.cell? ⟨q,0,none⟩=some x/\w.cell? ⟨q,1,none⟩=some y/\w.cell? ⟨q,2,none⟩=some z:=⟨h.cell 0,h.cell 1,h.cell 2⟩
structure Rg (F:World->Prop) (a b:Nat) (w:World):Prop where
 get:F w
 size:b≤w.heap.size
 on:∀w',w.heap.size≤w'.heap.size->(∀k,a≤k->k<b->w'.heap[k]? = w.heap[k]?)->F w'
theorem Rg.same {F:World->Prop} {a b:Nat} {w w':World} (h:Rg F a b w) (hs:w.heap.size≤w'.heap.size) (hk:∀k,a≤k->k<b->w'.heap[k]? = w.heap[k]?):Rg F a b w':=
 ⟨h.on w' hs hk,Nat.le_trans h.size hs,fun w'' h1 h2=>h.on w'' (Nat.le_trans hs h1) fun k h3 h4=>(h2 k h3 h4).trans (hk k h3 h4)⟩
theorem Rg.below {F:World->Prop} {a b:Nat} {w w':World} (h:Rg F a b w) (hb:Below w.heap.size w w'):Rg F a b w':=h.same hb.size fun k _ h2=>hb.block k (by have:=h.size;omega)
theorem Rg.turned {F:World->Prop} {a b lo hi:Nat} {w w':World} (h:Rg F a b w) (ht:Turned lo hi w w') (ha:b≤lo\/hi≤a):Rg F a b w':=h.same ht.size fun k h1 h2=>ht.block k (by have:=h.size;omega) (by omega)
theorem Rg.more {F:World->Prop} {a b:Nat} {w:World} (h:Rg F a b w) (o:Obj):Rg F a b (w.alloc o):=h.below ((Below.refl _ _).alloc (Nat.le_refl _) o)
theorem Zav {B:Nat} {T:TypeId} {s n:Nat} {w w':World} {v:Value} {vs:List Value} (h:w.ownsRow B T s v n vs) (hs:∀g,v.ownBlock=some g->w'.heap[g]? = w.heap[g]?):w'.ownsRow B T s v n vs:=by
 obtain⟨h1,h2|⟨g,cap,cur,rfl,hg,hh,hr⟩⟩:=h
 ·exact⟨h1,.inl h2⟩
 ·exact⟨h1,.inr ⟨g,cap,cur,rfl,hg,(hs g rfl).trans hh,hr⟩⟩
def TyAt (w:World) (b:Nat) (T:TypeId):Prop:=∃cs,w.heap[b]? = some (.cells cs T)
theorem TyAt.ne {w:World} {b b':Nat} {T T':TypeId} (h:TyAt w b T) (h':TyAt w b' T') (hT:T≠T'):b≠b':=fun e=>by
 subst e;obtain⟨cs,h⟩:=h;obtain⟨cs',h'⟩:=h';rw[h] at h';injection h' with h'
 injection h' with e1 e2
 exact hT e2
theorem TyAt.same {w w':World} {b:Nat} {T:TypeId} (h:TyAt w b T) (hs:w'.heap[b]? = w.heap[b]?):TyAt w' b T:=by
 obtain⟨cs,h⟩:=h;exact⟨cs,hs.trans h⟩
theorem Zay {w:World} {B s n:Nat} {T:TypeId} {v:Value} {xs:List Value} (h:w.ownsRow B T s v n xs) {g:Nat} (hg:v.ownBlock=some g):TyAt w g T:=by
 obtain⟨_,⟨rfl,_⟩ | ⟨g1,c1,cur1,rfl,_,hh1,_⟩⟩:=h
 ·cases hg
 ·obtain rfl:g1=g:=by simpa [Value.ownBlock] using hg
  exact⟨_,hh1⟩
theorem Zeq {W w w':World} {row:Option Nat} (h:W.grownBy w row) (hb:Below w.heap.size w w'):W.grownBy w' row:=
 ⟨hb.os.trans h.os,hb.tape.trans h.tape,hb.output.trans h.output,Nat.le_trans h.size hb.size,fun k h1 h2=>(hb.block k (by have:=h.size;omega)).trans (h.block k h1 h2)⟩
theorem Zs3 {W w w':World} {row:Option Nat} (h:W.grownBy w row) (k:w.grownBy w' row):W.grownBy w' row:=
 ⟨k.os.trans h.os,k.tape.trans h.tape,k.output.trans h.output,Nat.le_trans h.size k.size,fun i h1 h2=>(k.block i (by have:=h.size;omega) h2).trans (h.block i h1 h2)⟩
theorem Zob {W w:World} {row:Option Nat} (h:W.grownBy w row):W.grownBy w.drew row:=Zeq h (Below.refl _ _).drew
theorem Zoa {W w:World} {row:Option Nat} (h:W.grownBy w row) (o:Obj):W.grownBy (w.alloc o) row:=Zeq h ((Below.refl _ _).alloc (Nat.le_refl _) o)
theorem Zdg {W w:World} {row:Option Nat} (h:W.grownBy w row) {p:Addr} {u:Value} (hp:p.block<W.heap.size) (hr:row≠some p.block) (hu:W.cell? p=some u):w.cell? p=some u:=by
 rw[World.cell?_of_block (w:=W) (a:=p) (h.block _ hp (fun e=>hr e.symm))];exact hu
theorem Zg5 {B:Nat} {a W w:World} {row:Option Nat} (h:Below B a W) (hg:W.grownBy w row) (hB:B≤W.heap.size) (hr:∀g,row=some g->B≤g):Below B a w:=h.grown hg hB hr
theorem Zah {w:World} {B s n q i:Nat} {T:TypeId} {v u:Value} {xs:List Value} (h:w.ownsRow B T s v n xs) (hq:v.ownBlock≠some q):(w.setCell ⟨q,i,none⟩ u).ownsRow B T s v n xs:=
 Zav h fun g hg=>Below.heap_setCell _ _ _ _ (fun e=>hq (by rw[hg,e]))
theorem Zil {w:World} {q:Nat} {t t':TypeId} (h:TyAt w q t) (hT:t≠t'):¬TyAt w q t':=fun h'=>TyAt.ne h h' hT rfl
theorem Zau {B:Nat} {w:World} {v:Value} {xs:List Int} (h:Zae B w v xs):∃(a:Option Addr) (c:Nat),v=.slice a xs.length c:=by
 obtain⟨a,c,e,_⟩:=Zax h;exact⟨a,c,e⟩
theorem Since.grown {B w w':World} {row:Option Nat} (h:Since B w) (hg:w.grownBy w' row) (hr:∀g,row=some g->B.heap.size≤g):Since B w':=⟨h.low.grown hg h.low.size hr⟩
theorem one_num (w:World) (x:Int):Zas (w.heap.size+1) (w.alloc (.cells #[.int .i64 x] 3)) (some ⟨w.heap.size,0,none⟩) [x]:=fun j hj=>by
 match j with
 | 0=>exact⟨w.heap.size,0,rfl,Nat.lt_succ_self _,(Zad.new w #[.int .i64 x] 3).cell 0⟩
 | j+1=>simp at hj
theorem Zdy {P:Program} {w:World} (base:Nat) (t ty e:TypeId) (i:TypeInfo) (size:Nat) (ht:P.underlying t=some (.slice e)) (hi:P.info? e=some i) (v:Value) (n:Nat) (xs:List Value) (c:Nat) (hown:w.ownsRow base e size v n xs) :
  (Builtin.append_ #[t,t] ty #[v,.slice none 0 c]).run P w=.ok v w:=by
 rcases hown.2 with ⟨rfl,rfl⟩ | ⟨g,cap,cur,rfl,_,_,hnc,_⟩
 ·simp[Builtin.append_,run_underlying ht,sizeOf,typeInfo,hi,Builtin.lenOf,Builtin.firstCells]
 ·simp[Builtin.append_,run_underlying ht,sizeOf,typeInfo,hi,Builtin.lenOf,Builtin.firstCells,hnc,storeCells]
theorem Zjo {n:Nat} {w:World} {b o:Nat} {ys:List Int} (h:Zas n w (some ⟨b,o,none⟩) ys):∀j u,(ys.map (Value.int .i64))[j]? = some u->w.cell? ((⟨b,o,none⟩:Addr).add j)=some u:=fun j u hu=>by
 have hlt:j<ys.length:=by have:=(List.getElem?_eq_some_iff.1 hu).1;simpa using this
 obtain⟨b',o',e,_,c0⟩:=h j hlt;obtain⟨rfl,rfl⟩:b=b'/\o=o':=by simp only[Option.some.injEq,Addr.mk.injEq] at e;exact⟨e.1,e.2.1⟩
 rw[Addr.add_lit,c0,<-hu];simp[hlt]
theorem Zek {w:World} {ops:Array Oper} {o:Oper} {a:Act} {K:Act->World->Prop} {Q:Exit->Act->World->Prop} {E:Prop} (hgd:o.guard=none) (s x:Operand)
  (hop:o.op=Op.call { callee:=Callee.builtin Builtin.append,args:=#[s,x],argTypes:=#[22,22] }) (B:Nat) (v:Value) (xs:List Int) (hs:a.eval s=v) (hown:Zae B w v xs) (ad:Option Addr) (ys:List Int) (n c:Nat) (hn:n=ys.length) (hx:a.eval x=.slice ad n c)
  (n0:Nat) (hr:Zas n0 w ad ys) (hlen:xs.length+ys.length≤4000000) (hB:B≤w.heap.size) (hK:∀v' w',Zae B w' v' (xs++ys)->w.grownBy w' v.ownBlock->K (a.put o.dst v') w'):if Region.wanted o (yielded ops a.tmps)=true then Oper.wp Tryz.prog o a w K Q else E:=by
 have hw:Region.wanted o (yielded ops a.tmps)=true:=by simp[Region.wanted,hgd]
 rw[if_pos hw];subst hn;obtain⟨i0,hi,hz0,hz1,hz2⟩:=info_parts Zde;cases ad with
 | none=>
  have h0:ys = []:=by
   cases ys with
   | nil=>rfl
   | cons y ys=>obtain⟨b,o,e,_⟩:=hr 0 (by simp);cases e
  subst h0;have hrun:=Zdy (P:=Tryz.prog) (w:=w) B 22 o.type 3 i0 1 Tryz.underlying22 hi v xs.length _ c hown;unfold Oper.wp;simp only[List.length_nil] at hx;simp[execOp,hop,resolve,invoke,builtin,hs,hx,hrun,Result.andThen];exact hK v w (by simpa using hown) (World.grownBy.refl _ _)
 | some q=>
  obtain⟨b,o1,sp⟩:=q;refine wp_append_own w s x 22 hop B 3 i0 (.int .i64 0) 1 8 Tryz.underlying22 hi hz0 hz1 hz2 rfl (by decide) v xs.length (xs.map (Value.int .i64)) hs hown ⟨b,o1,sp⟩ ys.length c (ys.map (Value.int .i64)) hx (by simp) ?_ (fun u hu=>ints_oneCell .i64 ys u hu) (by unfold maxLen;omega) (by omega) hB ?_
  ·intro j u hj
   have hlt:j<ys.length:=by have:=(List.getElem?_eq_some_iff.1 hj).1;simpa using this
   obtain⟨b',o',e,_⟩:=hr j hlt;have e2:sp=none:=by
    simp only[Option.some.injEq,Addr.mk.injEq] at e;exact e.2.2
   subst e2;exact Zjo hr j u hj
  ·intro v' w' h1 h2 _
   refine hK v' w' ?_ h2;unfold Zae;rw[List.length_append,List.map_append];exact h1
theorem Zef (w:World):Zae w.heap.size (w.alloc (.cells #[] 3)) (.slice (some ⟨w.heap.size,0,none⟩) 0 0) []:=World.ownsRow_made w #[] 0 (Nat.le_refl _) (Nat.zero_le _) rfl
theorem Zad.ty {w:World} {q:Nat} {cs:Array Value} {t:TypeId} (h:Zad w q cs t):TyAt w q t:=⟨_,h⟩
theorem Za1 {w:World} {B s n q:Nat} {T t:TypeId} {v:Value} {xs:List Value} (h:w.ownsRow B T s v n xs) (hx:TyAt w q t) (hT:T≠t):v.ownBlock≠some q:=fun hq=>(TyAt.ne (Zay h hq) hx hT) rfl
end Go.Proofs.YtjfnleilddgjiaaGreat
