/- Words for the walks of laws: blocks that may have turned, boxes of any number of cells, facts that hold on whatever is made besides, facts that hang on a stretch of blocks. -/
import Derived.Test.YtpjnjidbdpfdcaaGreatGB
import Derived.Deep.RegionHeld3
namespace Go.Proofs.YtpjnjidbdpfdcaaGreat
open Go.RowKit
structure Turned (lo hi:Nat) (w w':World):Prop where
 os:w'.os=w.os
 tape:w'.tape=w.tape
 output:w'.output=w.output
 size:w.heap.size≤w'.heap.size
 block:∀k,k<w.heap.size->(k<lo\/hi≤k)->w'.heap[k]? = w.heap[k]?
theorem Turned.refl (lo hi:Nat) (w:World):Turned lo hi w w:=⟨rfl,rfl,rfl,Nat.le_refl _,fun _ _ _=>rfl⟩
theorem Turned.trans {lo hi:Nat} {a b c:World} (h:Turned lo hi a b) (k:Turned lo hi b c):Turned lo hi a c:=
 ⟨k.os.trans h.os,k.tape.trans h.tape,k.output.trans h.output,Nat.le_trans h.size k.size,fun i h1 h2=>(k.block i (by have:=h.size;omega) h2).trans (h.block i h1 h2)⟩
theorem Turned.of_below {lo hi:Nat} {w w':World} (h:Below w.heap.size w w'):Turned lo hi w w':=⟨h.os,h.tape,h.output,h.size,fun k h1 _=>h.block k h1⟩
theorem Turned.low {lo hi:Nat} {w w':World} (h:Turned lo hi w w') (hl:lo≤w.heap.size):Below lo w w':=
 ⟨h.os,h.tape,h.output,h.size,fun k hk=>h.block k (by omega) (.inl hk)⟩
theorem Turned.wider {lo hi lo' hi':Nat} {w w':World} (h:Turned lo hi w w') (h1:lo'≤lo) (h2:hi≤hi'):Turned lo' hi' w w':=
 ⟨h.os,h.tape,h.output,h.size,fun k hk hr=>h.block k hk (by omega)⟩
theorem Turned.setCell {lo hi:Nat} {a w:World} (h:Turned lo hi a w) {p:Addr} (h1:lo≤p.block) (h2:p.block<hi) (u:Value):Turned lo hi a (w.setCell p u):=
 ⟨h.os,h.tape,h.output,by have:=h.size;simpa [World.setCell] using this,fun k hk hr=>by
  obtain⟨b,o,sp⟩:=p;simp only at h1 h2;rw[Below.heap_setCell _ _ _ _ (show k≠b by omega)];exact h.block k hk hr⟩
theorem Turned.step {lo hi:Nat} {a w w':World} (h:Turned lo hi a w) (hb:Below w.heap.size w w'):Turned lo hi a w':=h.trans (.of_below hb)
/-! ### Boxes of any number of cells -/
def Zaa (w:World) (q:Nat) (cs:Array Value) (t:TypeId):Prop:=w.heap[q]? = some (.cells cs t)
theorem Zaa.cell {w:World} {q:Nat} {cs:Array Value} {t:TypeId} (h:Zaa w q cs t) (i:Nat):w.cell? ⟨q,i,none⟩=cs[i]?:=by
 unfold Zaa at h;simp[World.cell?,h]
theorem Zaa.free {w:World} {q:Nat} {cs:Array Value} {t:TypeId} (h:Zaa w q cs t) (i:Nat):w.frozen? ⟨q,i,none⟩=false:=by
 unfold Zaa at h;simp[World.frozen?,h]
theorem Zaa.below {w w':World} {q:Nat} {cs:Array Value} {t:TypeId} (h:Zaa w q cs t) (hb:Below w.heap.size w w'):Zaa w' q cs t:=(hb.block q (Zag h)).trans h
theorem Zaa.new (w:World) (cs:Array Value) (t:TypeId):Zaa (w.alloc (.cells cs t)) w.heap.size cs t:=by show (w.heap.push _)[w.heap.size]? = _;simp
theorem Zaa.more {w:World} {q:Nat} {cs:Array Value} {t:TypeId} (h:Zaa w q cs t) (o:Obj):Zaa (w.alloc o) q cs t:=by
 have hl:=Zag h;show (w.heap.push _)[q]? = _;rw[Array.getElem?_push_lt hl,<-Array.getElem?_eq_getElem hl];exact h
theorem Zaa.other {w:World} {q:Nat} {cs:Array Value} {t:TypeId} (h:Zaa w q cs t) {p:Addr} (hp:p.block≠q) (u:Value):Zaa (w.setCell p u) q cs t:=by
 obtain⟨b,o,sp⟩:=p;show (w.setCell _ u).heap[q]? = _;rw[Below.heap_setCell _ _ _ _ (fun e=>hp e.symm)];exact h
theorem Zaa.set {w:World} {q:Nat} {cs:Array Value} {t:TypeId} (h:Zaa w q cs t) (i:Nat) (u:Value):Zaa (w.setCell ⟨q,i,none⟩ u) q (cs.setIfInBounds i u) t:=by
 show (w.heap.modify q _)[q]? = _;rw[Array.getElem?_modify,show w.heap[q]? = _ from h];simp
theorem Zaa.drewN {w:World} {q:Nat} {cs:Array Value} {t:TypeId} (h:Zaa w q cs t) (d:Nat):Zaa (w.drewN d) q cs t:=h
theorem seven {w:World} {q:Nat} {s x y z n d pv:Value} {t:TypeId} (h:Zaa w q #[s,x,y,z,n,d,pv] t) :
  (w.cell? ⟨q,0,none⟩=some s/\w.cell? ⟨q,1,none⟩=some x/\w.cell? ⟨q,2,none⟩=some y/\w.cell? ⟨q,3,none⟩=some z/\w.cell? ⟨q,4,none⟩=some n/\w.cell? ⟨q,5,none⟩=some d/\w.cell? ⟨q,6,none⟩=some pv)/\
  (w.frozen? ⟨q,0,none⟩=false/\w.frozen? ⟨q,1,none⟩=false/\w.frozen? ⟨q,2,none⟩=false/\w.frozen? ⟨q,3,none⟩=false/\w.frozen? ⟨q,4,none⟩=false/\w.frozen? ⟨q,5,none⟩=false/\w.frozen? ⟨q,6,none⟩=false):=
 ⟨⟨h.cell 0,h.cell 1,h.cell 2,h.cell 3,h.cell 4,h.cell 5,h.cell 6⟩,h.free 0,h.free 1,h.free 2,h.free 3,h.free 4,h.free 5,h.free 6⟩
theorem Zj8 (g:Bool):(g != g)=false:=by cases g<;>rfl
theorem sto {v:Value} (h:v.oneCell'=true):∀(W:World) (a:Addr) (m:Mode),(store a v m).run Tryz.prog W=stored Tryz.prog W a v m:=fun W a m=>run_store _ W a v m h
def Stable (K:World->Prop):Prop:=∀w w',Below w.heap.size w w'->K w->K w'
theorem Zdf {P:Program} {f:FuncId} {args:Array Value} {wx:World} {G:Ending->World->Prop} {K:World->Prop} (hs:Stable K) (h:Calls P f args wx fun e w'=>G e w'/\Below wx.heap.size wx w') (hk:K wx) :
  Calls P f args wx fun e w'=>G e w'/\Below wx.heap.size wx w'/\K w':=h.mono fun _ _ ⟨hg,hb⟩=>⟨hg,hb,hs _ _ hb hk⟩
theorem Stable.drew {K:World->Prop} (hs:Stable K) {w:World} (h:K w):K w.drew:=hs _ _ (Below.refl _ _).drew h
theorem Stable.drewN {K:World->Prop} (hs:Stable K) {w:World} (h:K w) (n:Nat):K (w.drewN n):=hs _ _ (below_drewN (Below.refl _ _) n) h
theorem Stable.alloc {K:World->Prop} (hs:Stable K) {w:World} (h:K w) (o:Obj):K (w.alloc o):=hs _ _ ((Below.refl _ _).alloc (Nat.le_refl _) o) h
theorem Stable.and {K L:World->Prop} (h:Stable K) (h':Stable L):Stable fun w=>K w/\L w:=fun w w' hb ⟨k,l⟩=>⟨h w w' hb k,h' w w' hb l⟩
theorem Zef (w0:World):Stable fun w=>Below w0.heap.size w0 w:=fun _ _ hb h=>h.trans (hb.mono h.size)
structure Rg (F:World->Prop) (a b:Nat) (w:World):Prop where
 get:F w
 size:b≤w.heap.size
 on:∀w',w.heap.size≤w'.heap.size->(∀k,a≤k->k<b->w'.heap[k]? = w.heap[k]?)->F w'
theorem Rg.same {F:World->Prop} {a b:Nat} {w w':World} (h:Rg F a b w) (hs:w.heap.size≤w'.heap.size) (hk:∀k,a≤k->k<b->w'.heap[k]? = w.heap[k]?):Rg F a b w':=
 ⟨h.on w' hs hk,Nat.le_trans h.size hs,fun w'' h1 h2=>h.on w'' (Nat.le_trans hs h1) fun k h3 h4=>(h2 k h3 h4).trans (hk k h3 h4)⟩
theorem Rg.below {F:World->Prop} {a b:Nat} {w w':World} (h:Rg F a b w) (hb:Below w.heap.size w w'):Rg F a b w':=h.same hb.size fun k _ h2=>hb.block k (by have:=h.size;omega)
theorem Rg.turned {F:World->Prop} {a b lo hi:Nat} {w w':World} (h:Rg F a b w) (ht:Turned lo hi w w') (ha:b≤lo\/hi≤a):Rg F a b w':=h.same ht.size fun k h1 h2=>ht.block k (by have:=h.size;omega) (by omega)
theorem Zaw (F:World->Prop) (a b:Nat):Stable fun w=>Rg F a b w:=fun _ _ hb h=>h.below hb
theorem Zn2 {w:World} {q:Nat} {cs:Array Value} {t:TypeId} (h:Zaa w q cs t):Rg (fun w'=>Zaa w' q cs t) q (q+1) w:=
 ⟨h,Zag h,fun _ _ hk=>(hk q (Nat.le_refl _) (Nat.lt_succ_self _)).trans h⟩
theorem Zkd (w:World) (cs:Array Value) (t:TypeId):Rg (fun w'=>Zaa w' w.heap.size cs t) w.heap.size (w.heap.size+1) (w.alloc (.cells cs t)):=Zn2 (Zaa.new w cs t)
theorem Rg.more {F:World->Prop} {a b:Nat} {w:World} (h:Rg F a b w) (o:Obj):Rg F a b (w.alloc o):=h.below ((Below.refl _ _).alloc (Nat.le_refl _) o)
end Go.Proofs.YtpjnjidbdpfdcaaGreat
