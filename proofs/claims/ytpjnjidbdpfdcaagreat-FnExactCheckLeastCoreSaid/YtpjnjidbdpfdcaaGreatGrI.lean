/- Worlds in which at most one block has turned; blocks by their types; append at ints as one step of a region. -/
import Derived.Test.YtpjnjidbdpfdcaaGreatNumI
import Derived.Test.YtpjnjidbdpfdcaaGreatLkBase
import Derived.Laws.AppendOwnNone
import Derived.OwnWalk
namespace Go.Proofs.YtpjnjidbdpfdcaaGreat
open Go.RowKit
theorem Zan {B:Nat} {T:TypeId} {s n:Nat} {w w':World} {v:Value} {vs:List Value} (h:w.ownsRow B T s v n vs) (hs:∀g,v.ownBlock=some g->w'.heap[g]? = w.heap[g]?):w'.ownsRow B T s v n vs:=by
 obtain⟨h1,h2|⟨g,cap,cur,rfl,hg,hh,hr⟩⟩:=h
 ·exact⟨h1,.inl h2⟩
 ·exact⟨h1,.inr ⟨g,cap,cur,rfl,hg,(hs g rfl).trans hh,hr⟩⟩
def TyAt (w:World) (b:Nat) (T:TypeId):Prop:=∃cs,w.heap[b]? = some (.cells cs T)
theorem TyAt.ne {w:World} {b b':Nat} {T T':TypeId} (h:TyAt w b T) (h':TyAt w b' T') (hT:T≠T'):b≠b':=fun e=>by
 subst e;obtain⟨cs,h⟩:=h;obtain⟨cs',h'⟩:=h';rw[h] at h';injection h' with h'
 injection h' with e1 e2
 exact hT e2
theorem TyAt.same {w w':World} {b:Nat} {T:TypeId} (h:TyAt w b T) (hs:w'.heap[b]? = w.heap[b]?):TyAt w' b T:=by
 obtain⟨cs,h⟩:=h;exact⟨cs,hs.trans h⟩
theorem Za3 {w:World} {B s n:Nat} {T:TypeId} {v:Value} {xs:List Value} (h:w.ownsRow B T s v n xs) {g:Nat} (hg:v.ownBlock=some g):TyAt w g T:=by
 obtain⟨_,⟨rfl,_⟩ | ⟨g1,c1,cur1,rfl,_,hh1,_⟩⟩:=h
 ·cases hg
 ·obtain rfl:g1=g:=by simpa [Value.ownBlock] using hg
  exact⟨_,hh1⟩
theorem Ze0 {W w w':World} {row:Option Nat} (h:W.grownBy w row) (hb:Below w.heap.size w w'):W.grownBy w' row:=
 ⟨hb.os.trans h.os,hb.tape.trans h.tape,hb.output.trans h.output,Nat.le_trans h.size hb.size,fun k h1 h2=>(hb.block k (by have:=h.size;omega)).trans (h.block k h1 h2)⟩
theorem Zly {W w:World} {row:Option Nat} (h:W.grownBy w row):W.grownBy w.drew row:=Ze0 h (Below.refl _ _).drew
theorem Zd9 {W w:World} {row:Option Nat} (h:W.grownBy w row) {p:Addr} {u:Value} (hp:p.block<W.heap.size) (hr:row≠some p.block) (hu:W.cell? p=some u):w.cell? p=some u:=by
 rw[World.cell?_of_block (w:=W) (a:=p) (h.block _ hp (fun e=>hr e.symm))];exact hu
theorem Zbh {w:World} {B s n q i:Nat} {T:TypeId} {v u:Value} {xs:List Value} (h:w.ownsRow B T s v n xs) (hq:v.ownBlock≠some q):(w.setCell ⟨q,i,none⟩ u).ownsRow B T s v n xs:=
 Zan h fun g hg=>Below.heap_setCell _ _ _ _ (fun e=>hq (by rw[hg,e]))
theorem Zak {B:Nat} {w:World} {v:Value} {xs:List Int} (h:Zab B w v xs):∃(a:Option Addr) (c:Nat),v=.slice a xs.length c:=by
 obtain⟨a,c,e,_⟩:=Zbb h;exact⟨a,c,e⟩
theorem Since.grown {B w w':World} {row:Option Nat} (h:Since B w) (hg:w.grownBy w' row) (hr:∀g,row=some g->B.heap.size≤g):Since B w':=⟨h.low.grown hg h.low.size hr⟩
theorem Zeo (w:World):Zab w.heap.size (w.alloc (.cells #[] 3)) (.slice (some ⟨w.heap.size,0,none⟩) 0 0) []:=World.ownsRow_made w #[] 0 (Nat.le_refl _) (Nat.zero_le _) rfl
theorem Zaa.ty {w:World} {q:Nat} {cs:Array Value} {t:TypeId} (h:Zaa w q cs t):TyAt w q t:=⟨_,h⟩
theorem Zaz {w:World} {B s n q:Nat} {T t:TypeId} {v:Value} {xs:List Value} (h:w.ownsRow B T s v n xs) (hx:TyAt w q t) (hT:T≠t):v.ownBlock≠some q:=fun hq=>(TyAt.ne (Za3 h hq) hx hT) rfl
end Go.Proofs.YtpjnjidbdpfdcaaGreat
