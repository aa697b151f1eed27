/- The parts TaR, TaS, TaU, TaV, TaX, TaY, TaZ. -/
import Derived.Test.YtlohljkfphljgaaGreatGTo
import Derived.Test.YtlohljkfphljgaaGreatGTa
import Derived.Test.YtlohljkfphljgaaGreatGTd
import Derived.Test.YtlohljkfphljgaaGreatGSi
import Derived.Test.YtlohljkfphljgaaGreatHApR
import Derived.Test.YtlohljkfphljgaaGreatGVc
import Derived.Test.YtlohljkfphljgaaGreatHLpI1
set_option maxRecDepth 100000
set_option maxHeartbeats 4000000
namespace Go.Proofs.YtlohljkfphljgaaGreat
open Go.RowKit
open Ve (R)
open Ta (T)
structure Z0p (lo:Nat) (w:World) (vs:List Value) (L:List (List R)):Prop where
 own:∀j,j<L.length->∃u,vs[j]? = some u/\Zaa lo w u (rr L j)
 apart:∀i j u v,i<L.length->j<L.length->i≠j->vs[i]? = some u->vs[j]? = some v->∀b,u.ownBlock=some b->v.ownBlock≠some b
def Zbn (lo:Nat) (w:World) (v:Value) (L:List (List R)):Prop:=∃vs,w.ownsRow lo 26 1 v L.length vs/\Z0p lo w vs L
theorem Zbn.rm {lo:Nat} {w:World} {v:Value} {L:List (List R)} (h:Zbn lo w v L):Zbt lo w v L:=by
 obtain⟨vs,h1,h2⟩:=h;exact⟨vs,h1,h2.own⟩
theorem Zbn.shape {lo:Nat} {w:World} {v:Value} {L:List (List R)} (h:Zbn lo w v L):∃(a:Option Addr) (c:Nat),v=.slice a L.length c:=Zd1 h.rm
theorem Zbn.kept {lo:Nat} {w w':World} {v:Value} {L:List (List R)} (h:Zbn lo w v L) (hk:∀b,(TyAt w b 31\/TyAt w b 26)->w'.heap[b]? = w.heap[b]?):Zbn lo w' v L:=by
 obtain⟨vs,h1,h2⟩:=h;refine⟨vs,Zak h1 fun g hg=>hk g (.inr (Zav h1 hg)),fun j hj=>?_,h2.apart⟩;obtain⟨u,e,ho⟩:=h2.own j hj;exact⟨u,e,Zak ho fun g hg=>hk g (.inl (Zav ho hg))⟩
theorem TyAt.lt {w:World} {b:Nat} {t:TypeId} (h:TyAt w b t):b<w.heap.size:=by
 obtain⟨cs,h⟩:=h;exact Zab h
theorem Zbn.below {lo:Nat} {w w':World} {v:Value} {L:List (List R)} (h:Zbn lo w v L) (hb:Below w.heap.size w w'):Zbn lo w' v L:=
 h.kept fun b h1=>hb.block b (by rcases h1 with h1|h1<;>exact h1.lt)
theorem Zbn.set {lo q i:Nat} {w:World} {v u:Value} {t:TypeId} {L:List (List R)} (h:Zbn lo w v L) (hq:TyAt w q t) (h1:t≠31) (h2:t≠26):Zbn lo (w.setCell ⟨q,i,none⟩ u) v L:=
 h.kept fun b hb=>Below.heap_setCell _ _ _ _ (by
  rcases hb with hb|hb
  ·exact fun e=>(TyAt.ne hq hb h1) e.symm
  ·exact fun e=>(TyAt.ne hq hb h2) e.symm)
theorem Zbn.raise {lo B':Nat} {w:World} {v:Value} {L:List (List R)} (h:Zbn lo w v L) (hB:B'≤lo):Zbn B' w v L:=by
 obtain⟨vs,⟨e1,e2⟩,h2⟩:=h;refine⟨vs,⟨e1,?_⟩,fun j hj=>?_,h2.apart⟩
 ·rcases e2 with e2|⟨g',cap,cur,e,hg,rest⟩
  ·exact .inl e2
  ·exact .inr ⟨g',cap,cur,e,by omega,rest⟩
 ·obtain⟨u,e,ho⟩:=h2.own j hj
  exact⟨u,e,ho.raise hB⟩
theorem Zbn.res {lo:Nat} {w:World} {v:Value} {L:List (List R)} (h:Zbn lo w v L):ResM lo w.heap.size w v L:=by
 obtain⟨vs,h1,h2⟩:=h;have h1':=h1;obtain⟨e1,⟨rfl,hn⟩ | ⟨g,cap,cur,rfl,hg,hh,hr⟩⟩:=h1'
 ·have h0:L = []:=List.eq_nil_of_length_eq_zero hn
  subst h0;exact⟨none,0,fun _=>.bool false,rfl,Nat.le_refl _,⟨fun j hj=>absurd hj (by simp),fun i j _ hj=>absurd hj (by simp)⟩,fun j hj=>absurd hj (by simp)⟩
 ·have hl:vs.length=L.length:=by omega
  have hv:∀j,j<L.length->vs[j]? = some (vs.getD j (.bool false)):=fun j hj=>by
   rw[List.getD_eq_getElem?_getD,List.getElem?_eq_getElem (by omega)];rfl
  refine⟨some ⟨g,0,none⟩,cap,fun j=>vs.getD j (.bool false),rfl,Nat.le_refl _,⟨fun j hj=>⟨g,0,rfl,hg,Zab hh,?_,Zav h1 rfl⟩,fun i j hij hj b hb hb2=>?_⟩,fun j hj=>?_⟩
  ·rw[Nat.zero_add,World.ownsRow.cellAt h1 j (by omega)]
   exact hv j hj
  ·exact h2.apart i j _ _ (by omega) hj (by omega) (hv i (by omega)) (hv j hj) b hb.2 hb2.2
  ·obtain⟨u,e,ho⟩:=h2.own j hj
   rw[hv j hj] at e;obtain rfl:=Option.some.inj e;exact Zdw.Zhg ho fun g hg=>(World.ownsRow.lt ho g hg).2
theorem Zbn.spot {lo n c j:Nat} {w:World} {a:Option Addr} {L:List (List R)} (h:Zbn lo w (.slice a n c) L) (hj:j<L.length) :
  ∃g u,a=some ⟨g,0,none⟩/\lo≤g/\g<w.heap.size/\w.cell? ⟨g,j,none⟩=some u/\w.frozen? ⟨g,j,none⟩=false/\Zaa lo w u (rr L j)/\TyAt w g 26:=by
 obtain⟨vs,h1,h2⟩:=h;have h1':=h1;obtain⟨e1,⟨e,h0⟩ | ⟨g,cap,cur,e,hg,hh,hr⟩⟩:=h1'
 ·omega
 ·injection e with e2 e3 e4
  subst e2 e3 e4;obtain⟨u,e,ho⟩:=h2.own j hj;exact⟨g,u,rfl,hg,Zab hh,by rw[World.ownsRow.cellAt h1 j (by omega)];exact e,World.ownsRow.frozenAt h1 _,ho,Zav h1 rfl⟩
theorem Zhp {L:List (List R)} {j:Nat} {x:List R} (h:j<L.length):rr (L.set j x) j=x:=Zru (by simp[h])
theorem Zpy {L:List (List R)} {i j:Nat} {x:List R} (h:i≠j):rr (L.set j x) i=rr L i:=by
 unfold rr;rw[List.getD_eq_getElem?_getD,List.getD_eq_getElem?_getD,List.getElem?_set_ne (fun e=>h e.symm)]
theorem Zbn.put {lo g c n j:Nat} {w0 w:World} {u:Value} {x:List R} {L:List (List R)} (h:Zbn lo w0 (.slice (some ⟨g,0,none⟩) n c) L) (hn:n=L.length) (hb:Below w0.heap.size w0 w) (hl:lo≤w0.heap.size) (hu:Zaa w0.heap.size w u x) :
  Zbn lo (w.setCell ⟨g,j,none⟩ u) (.slice (some ⟨g,0,none⟩) n c) (L.set j x):=by
 subst hn;have h0:=h;obtain⟨vs,k1,k2⟩:=h0;have h1:w.ownsRow lo 26 1 (.slice (some ⟨g,0,none⟩) L.length c) L.length vs:=Zak k1 fun g hg=>hb.block g (World.ownsRow.lt k1 g hg).2
 have keep:∀(u':Value) (B:Nat) (xs:List R),Zaa B w u' xs->Zaa B (w.setCell ⟨g,j,none⟩ u) u' xs:=fun u' B xs ho=>
  Zao ho (fun e=>Zb0 ho h1 Zcf g e rfl)
 have hs:=World.ownsRow.stored h1 j u;have hlv:vs.length=L.length:=by have:=h1.1;omega
 refine⟨vs.set j u,by simpa using hs.1,fun i hi=>?_,fun i i' u1 u2 hi1 hi2 hii e1 e2 b hb1 hb2=>?_⟩
 ·rw[List.length_set] at hi
  by_cases e:i=j
  ·subst e
   refine⟨u,by simp[hlv,hi],?_⟩;rw[Zhp hi];exact (keep u _ x hu).raise hl
  ·obtain⟨u',e1,ho⟩:=k2.own i hi
   refine⟨u',by rw[List.getElem?_set_ne (fun e2=>e e2.symm)];exact e1,?_⟩;rw[Zpy e];exact keep u' _ _ (ho.below hb)
 ·have old:∀(i:Nat) (v:Value),vs[i]? = some v->∀b,v.ownBlock=some b->b<w0.heap.size:=fun i v e b hb=>by
   have hi:i<L.length:=by have:=(List.getElem?_eq_some_iff.1 e).1;omega
   obtain⟨u',e1,ho⟩:=k2.own i hi;rw[e1] at e;obtain rfl:=Option.some.inj e;exact (World.ownsRow.lt ho b hb).2
  have new:∀b,u.ownBlock=some b->w0.heap.size≤b:=fun b hb=>(World.ownsRow.lt hu b hb).1
  by_cases ei:i=j
  ·subst ei
   have hi:i<vs.length:=by have:=(List.getElem?_eq_some_iff.1 e1).1;simpa using this
   rw[List.getElem?_set_self hi] at e1;rw[List.getElem?_set_ne hii] at e2;obtain rfl:=Option.some.inj e1;have:=old i' u2 e2 b hb2;have:=new b hb1;omega
  ·rw[List.getElem?_set_ne (fun e=>ei e.symm)] at e1
   by_cases ej:i'=j
   ·subst ej
    have hi:i'<vs.length:=by have:=(List.getElem?_eq_some_iff.1 e2).1;simpa using this
    rw[List.getElem?_set_self hi] at e2;obtain rfl:=Option.some.inj e2;have:=old i u1 e1 b hb1;have:=new b hb2;omega
   ·rw[List.getElem?_set_ne (fun e=>ej e.symm)] at e2
    rw[List.length_set] at hi1 hi2;exact k2.apart i i' u1 u2 hi1 hi2 hii e1 e2 b hb1 hb2
theorem Zbn.elem {lo g c n j k b m c':Nat} {w:World} {L:List (List R)} (h:Zbn lo w (.slice (some ⟨g,0,none⟩) n c) L) (hn:n=L.length) (hj:j<L.length) (hc:w.cell? ⟨g,j,none⟩=some (.slice (some ⟨b,0,none⟩) m c')) (hk:k<(rr L j).length) (x:R) :
  Zbn lo ((w.setCell ⟨b,k*2,none⟩ (.int .i64 x.1)).setCell ⟨b,k*2+1,none⟩ (.int .i64 x.2)) (.slice (some ⟨g,0,none⟩) n c) (L.set j ((rr L j).set k x)):=by
 subst hn;obtain⟨vs,h1,h2⟩:=h;have hlv:vs.length=L.length:=by have:=h1.1;omega
 rw[World.ownsRow.cellAt h1 j (by omega)] at hc;obtain⟨u,e,ho⟩:=h2.own j hj;have e':=e;rw[hc] at e';obtain rfl:=Option.some.inj e';obtain⟨_,_,hm,_⟩:=Zaa.block ho (by omega);subst hm;have hgb:g≠b:=fun e3=>Zb0 ho h1 Zcf b rfl (by rw[<-e3];rfl)
 refine⟨vs,?_,fun i hi=>?_,fun i i' u1 u2 hi1 hi2=>h2.apart i i' u1 u2 (by rwa [List.length_set] at hi1) (by rwa [List.length_set] at hi2)⟩
 ·have h3:∀(u1 u2:Value),World.ownsRow ((w.setCell ⟨b,k*2,none⟩ u1).setCell ⟨b,k*2+1,none⟩ u2) lo 26 1 (.slice (some ⟨g,0,none⟩) L.length c) L.length vs:=fun u1 u2=>
   Zao (Zao h1 (fun e3=>hgb (by simpa [Value.ownBlock] using e3))) (fun e3=>hgb (by simpa [Value.ownBlock] using e3))
  rw[List.length_set];exact h3 _ _
 ·rw[List.length_set] at hi
  by_cases e2:i=j
  ·subst e2
   refine⟨_,e,?_⟩;rw[Zhp hi];have:=ho.put k x hk;exact this
  ·obtain⟨u',e3,ho'⟩:=h2.own i hi
   have hne:u'.ownBlock≠some b:=h2.apart j i _ u' hj hi (fun e4=>e2 e4.symm) e e3 b rfl;refine⟨u',e3,?_⟩;rw[Zpy e2];exact Zao (Zao ho' hne) hne
def Zdg (lo:Nat) (w:World) (v:Value) (us:List Value) (L:List (List R)) (k:Nat):Prop:=
 ∃vs,w.ownsRow lo 26 1 v L.length vs/\(∀j,k≤j->vs[j]? = us[j]?)/\Z0p lo w vs (L.take k)
theorem Zwx {L:List (List R)} {j k:Nat} (h:j<k):rr (L.take k) j=rr L j:=by
 unfold rr;rw[List.getD_eq_getElem?_getD,List.getD_eq_getElem?_getD,List.getElem?_take_of_lt h]
theorem Zdg.start {lo:Nat} {w:World} {v:Value} {us:List Value} {L:List (List R)} (h:w.ownsRow lo 26 1 v L.length us):Zdg lo w v us L 0:=
 ⟨us,h,fun _ _=>rfl,fun j hj=>absurd hj (by simp),fun i j u v hi=>absurd hi (by simp)⟩
theorem Zdg.done {lo:Nat} {w:World} {v:Value} {us:List Value} {L:List (List R)} (h:Zdg lo w v us L L.length):Zbn lo w v L:=by
 obtain⟨vs,h1,_,h2⟩:=h;rw[List.take_length] at h2;exact⟨vs,h1,h2⟩
theorem Zdg.spot {lo n c k:Nat} {w:World} {a:Option Addr} {us:List Value} {L:List (List R)} (h:Zdg lo w (.slice a n c) us L k) (hk:k<L.length) :
  ∃g,a=some ⟨g,0,none⟩/\n=L.length/\lo≤g/\g<w.heap.size/\w.cell? ⟨g,k,none⟩=us[k]?/\w.frozen? ⟨g,k,none⟩=false/\TyAt w g 26:=by
 obtain⟨vs,h1,h2,_⟩:=h;have h1':=h1;obtain⟨e1,⟨e,h0⟩ | ⟨g,cap,cur,e,hg,hh,hr⟩⟩:=h1'
 ·omega
 ·injection e with e2 e3 e4
  subst e2 e3 e4;exact⟨g,rfl,rfl,hg,Zab hh,by rw[World.ownsRow.cellAt h1 k (by omega)];exact h2 k (Nat.le_refl _),World.ownsRow.frozenAt h1 _,Zav h1 rfl⟩
theorem Zdg.below {lo k:Nat} {w w':World} {v:Value} {us:List Value} {L:List (List R)} (h:Zdg lo w v us L k) (hb:Below w.heap.size w w'):Zdg lo w' v us L k:=by
 obtain⟨vs,h1,h3,h2⟩:=h;refine⟨vs,Zak h1 fun g hg=>hb.block g (World.ownsRow.lt h1 g hg).2,h3,fun j hj=>?_,h2.apart⟩;obtain⟨u,e,ho⟩:=h2.own j hj;exact⟨u,e,ho.below hb⟩
theorem Zdg.next {lo g c k:Nat} {w0 w:World} {u:Value} {us:List Value} {L:List (List R)} (h:Zdg lo w0 (.slice (some ⟨g,0,none⟩) L.length c) us L k) (hk:k<L.length) (hb:Below w0.heap.size w0 w) (hl:lo≤w0.heap.size) (hu:Zaa w0.heap.size w u (rr L k)) :
  Zdg lo (w.setCell ⟨g,k,none⟩ u) (.slice (some ⟨g,0,none⟩) L.length c) us L (k+1):=by
 obtain⟨vs,k1,k3,k2⟩:=h;have h1:w.ownsRow lo 26 1 (.slice (some ⟨g,0,none⟩) L.length c) L.length vs:=Zak k1 fun g hg=>hb.block g (World.ownsRow.lt k1 g hg).2
 have keep:∀(u':Value) (B:Nat) (xs:List R),Zaa B w u' xs->Zaa B (w.setCell ⟨g,k,none⟩ u) u' xs:=fun u' B xs ho=>
  Zao ho (fun e=>Zb0 ho h1 Zcf g e rfl)
 have hs:=World.ownsRow.stored h1 k u;have hlv:vs.length=L.length:=by have:=h1.1;omega
 have hlt:(L.take k).length=k:=by rw[List.length_take];omega
 have hlt2:(L.take (k+1)).length=k+1:=by rw[List.length_take];omega
 refine⟨vs.set k u,by simpa using hs.1,fun j hj=>?_,fun i hi=>?_,fun i i' u1 u2 hi1 hi2 hii e1 e2 b hb1 hb2=>?_⟩
 ·rw[List.getElem?_set_ne (by omega)];exact k3 j (by omega)
 ·rw[hlt2] at hi
  rw[Zwx hi]
  by_cases e:i=k
  ·subst e
   exact⟨u,by simp[hlv,hk],(keep u _ _ hu).raise hl⟩
  ·obtain⟨u',e1,ho⟩:=k2.own i (by omega)
   rw[Zwx (by omega)] at ho;exact⟨u',by rw[List.getElem?_set_ne (fun e2=>e e2.symm)];exact e1,keep u' _ _ (ho.below hb)⟩
 ·rw[hlt2] at hi1 hi2
  have old:∀(i:Nat) (v:Value),i<k->vs[i]? = some v->∀b,v.ownBlock=some b->b<w0.heap.size:=fun i v hi e b hb=>by
   obtain⟨u',e1,ho⟩:=k2.own i (by omega);rw[e1] at e;obtain rfl:=Option.some.inj e;exact (World.ownsRow.lt ho b hb).2
  have new:∀b,u.ownBlock=some b->w0.heap.size≤b:=fun b hb=>(World.ownsRow.lt hu b hb).1
  by_cases ei:i=k
  ·subst ei
   rw[List.getElem?_set_self (by omega)] at e1;rw[List.getElem?_set_ne hii] at e2;obtain rfl:=Option.some.inj e1;have:=old i' u2 (by omega) e2 b hb2;have:=new b hb1;omega
  ·rw[List.getElem?_set_ne (fun e=>ei e.symm)] at e1
   by_cases ej:i'=k
   ·subst ej
    rw[List.getElem?_set_self (by omega)] at e2;obtain rfl:=Option.some.inj e2;have:=old i u1 (by omega) e1 b hb1;have:=new b hb2;omega
   ·rw[List.getElem?_set_ne (fun e=>ej e.symm)] at e2
    exact k2.apart i i' u1 u2 (by omega) (by omega) hii e1 e2 b hb1 hb2
theorem Zh5 {P:Nat->Value->Prop}:∀n:Nat,(∀j,j<n->∃u,P j u)->∃us:List Value,us.length=n/\∀j,j<n->∃u,us[j]? = some u/\P j u
 | 0,_=>⟨[],rfl,fun j hj=>absurd hj (by omega)⟩
 | n+1,h=>by
  obtain⟨us,h1,h2⟩:=Zh5 n fun j hj=>h j (by omega)
  obtain⟨u,hu⟩:=h n (by omega);refine⟨us++[u],by simp[h1],fun j hj=>?_⟩
  by_cases e:j=n
  ·subst e
   exact⟨u,by rw[List.getElem?_append_right (by omega),h1];simp,hu⟩
  ·obtain⟨u',e1,e2⟩:=h2 j (by omega)
   exact⟨u',by rw[List.getElem?_append_left (by omega)];exact e1,e2⟩
theorem Zug {B:Nat} {w:World} {a:Option Addr} {L:List (List R)} (h:Zdo B w a L):∃us:List Value,us.length=L.length/\(∀w',Below B w w'->Zqo w' a us)/\
  ∀j,j<L.length->∃(a':Option Addr) (c':Nat),us[j]? = some (.slice a' (rr L j).length c')/\Zah B w a' (rr L j):=by
 obtain⟨us,h1,h2⟩:=Zh5 (P:=fun j u=>∃(b o:Nat) (a':Option Addr) (c':Nat),u=.slice a' (rr L j).length c'/\a=some ⟨b,o,none⟩/\b<B/\w.cell? ⟨b,o+j,none⟩=some u/\Zah B w a' (rr L j)) L.length (fun j hj=>by
  obtain⟨b,o,a',c',e1,e2,e3,e4⟩:=h j hj;exact⟨_,b,o,a',c',rfl,e1,e2,e3,e4⟩)
 refine⟨us,h1,fun w' hb j u hj=>?_,fun j hj=>?_⟩
 ·have hlt:j<L.length:=by have:=(List.getElem?_eq_some_iff.1 hj).1;omega
  obtain⟨u',e,b,o,a',c',e1,e2,e3,e4,_⟩:=h2 j hlt;rw[e] at hj;obtain rfl:=Option.some.inj hj;exact⟨b,o,e2,by rw[hb.cell (p:=⟨b,o+j,none⟩) e3];exact e4,by rw[e1];rfl⟩
 ·obtain⟨u',e,b,o,a',c',e1,e2,e3,e4,e5⟩:=h2 j hj
  exact⟨a',c',by rw[e,e1],e5⟩
theorem Zwv {w:World} {B s n:Nat} {T:TypeId} {v:Value} {vs:List Value} (h:w.ownsRow B T s v n vs):∃(a:Option Addr) (c:Nat),v=.slice a n c:=by
 obtain⟨_,⟨rfl,rfl⟩ | ⟨g1,c1,cur1,rfl,_⟩⟩:=h
 ·exact⟨none,0,rfl⟩
 ·exact⟨_,_,rfl⟩
theorem Zdg.set {lo q i k:Nat} {w:World} {v u:Value} {t:TypeId} {us:List Value} {L:List (List R)} (h:Zdg lo w v us L k) (hq:TyAt w q t) (h1:t≠31) (h2:t≠26):Zdg lo (w.setCell ⟨q,i,none⟩ u) v us L k:=by
 obtain⟨vs,k1,k3,k2⟩:=h;refine⟨vs,Zao k1 fun e=>(TyAt.ne hq (Zav k1 e) h2) rfl,k3,fun j hj=>?_,k2.apart⟩;obtain⟨u',e,ho⟩:=k2.own j hj;exact⟨u',e,Zao ho fun e2=>(TyAt.ne hq (Zav ho e2) h1) rfl⟩
theorem Zla (B q:Nat) (a b:Option Addr) (c1 c2:Nat) (t:T) (hn:Zca t) (w:World) (hBw:B≤w.heap.size) (h:Zcd B w q a b c1 c2 t) :
  Calls Tryz.prog 228 #[.pointer (some ⟨q,0,none⟩)] w fun e w'=>(∃vR vB:Value,e=.returned (.agg #[vR,vB,.int .i64 t.cols])/\Zbn w.heap.size w' vR t.rows/\Zad w.heap.size w' vB t.basis)/\Below w.heap.size w w':=by
 have hb0:=(Below.refl w.heap.size w).alloc (Nat.le_refl _) (.cells #[.slice none 0 0,.slice none 0 0,.int .i64 0] 39);have hR0:=Tri.new w (.slice none 0 0) (.slice none 0 0) (.int .i64 0) 39;have hT0:=h.below hBw hb0;have hsz0:=Zar w (.cells #[.slice none 0 0,.slice none 0 0,.int .i64 0] 39);obtain⟨us,hul,hvals,hsrc⟩:=Zug h.tab.mR;have hn1:=hn.rows;have hn2:=hn.basis;have HRow:=zH hn.row;have HSrc:=zH hsrc;have HT:=zH h;have hqw:=Zab h.box;have HCl:Hid (∀W,Below w.heap.size w W->Calls Tryz.prog 234 #[.slice a t.rows.length c1] W fun e w'=>(∃v,e=.returned v/\w'.ownsRow W.heap.size 26 1 v t.rows.length us)/\Below W.heap.size W w'):=fun W hW=>
  Ztw a c1 t.rows.length us hul (by omega) W fun w' hw=>hvals w' ((hW.mono hBw).trans (hw.mono (Nat.le_trans hBw hW.size)))
 clear h hn hsrc hvals
 go_enter Tryz.func228,Tryz.ntmps228
 go_upto_region 1 with fail
 generalize hW0:w.alloc (.cells #[.slice none 0 0,.slice none 0 0,.int .i64 0] 39)=W0 at *;clear hW0;have HT0:=zH hT0;have HR0:=zH hR0;have Hb0:=zH hb0;obtain⟨x0,x1,x2,_⟩:=hT0.box.cells;obtain⟨L,B1,C⟩:=t;simp only at x0 x1 x2 hn1 hn2 hul;clear hT0 hR0 hb0
 go_wp2_with fail
 refine (HCl.out _ Hb0.out).mono ?_;rintro e w1 ⟨⟨v,rfl,ho⟩,hb1⟩;obtain⟨av,cv,rfl⟩:=Zwv ho;have HC:=zH (Zdg.start ho);have HB1:=zH (Hb0.out.trans (hb1.mono Hb0.out.size));have HR1:=zH (HR0.out.below hb1);clear ho hb1 HCl x0 x1 x2 HT0 HR0;have hWw:w.heap.size≤W0.heap.size:=Hb0.out.size;clear Hb0
 go_wp2_with fail
 go_loopw [4,5,13] (fun _ _ i wr=>∃k:Nat,k≤L.length/\i=.int .i64 k/\Hid (Zdg W0.heap.size wr (.slice av L.length cv) us L k)/\Hid (W0.heap.size≤wr.heap.size)/\Hid (Tri wr w.heap.size (.slice none 0 0) (.slice none 0 0) (.int .i64 0) 39)/\Hid (Below w.heap.size w wr)) (fun _ _ i _=>L.length-(intOf i).toNat)
 case atStart=>exact⟨0,Nat.zero_le _,rfl,HC,(by have:=Zab HR1.out;show _≤_;omega),HR1,HB1⟩
 case round=>
  clear HC HR1 HB1;obtain⟨k,hk,rfl,hC,hZ,hR,hB⟩:=hrel
  by_cases hlt:k<L.length
  ·obtain⟨g,rfl,_,hg1,hg2,hcell,hfr,hty⟩:=Zdg.spot hC.out hlt
   obtain⟨a',c',hus,hsr⟩:=HSrc.out k hlt;rw[hus] at hcell;have hrl:(rr L k).length≤1048576:=HRow.out k hlt;have HCr:=zH (Ztv B a' c' (rr L k) (by omega) wr (Nat.le_trans hBw hB.out.size) (hsr.below (hB.out.mono hBw)));have hgty:=zH hty;have n1:(k:Int)<(L.length:Int):=by omega
   obtain⟨row,hrow⟩:∃row,rr L k=row:=⟨_,rfl⟩;have Hrow:=zH hrow;rw[hrow] at hcell hrl HCr;clear hus hsr hty hrow
   go_wp2_with fail
   refine HCr.out.mono ?_;rintro e w2 ⟨⟨u,rfl,hu⟩,hb2⟩;obtain⟨au,cu,rfl⟩:=Zbb hu;have hc2:w2.cell? ⟨g,k,none⟩=some (.slice a' row.length c'):=by rw[hb2.cell (p:=⟨g,k,none⟩) hg2];exact hcell
   have hg3:=hb2.size;have HC2:Hid (Zdg W0.heap.size (w2.setCell ⟨g,k,none⟩ (.slice au row.length cu)) (.slice (some ⟨g,0,none⟩) L.length cv) us L (k+1)):=by
    have h:=hC.out.next hlt hb2 hZ.out (u:=.slice au row.length cu) (by rw[Hrow.out];exact hu);exact h
   have hfr2:w2.frozen? ⟨g,k,none⟩=false:=by
    obtain⟨g',e,_,_,_,_,h,_⟩:=Zdg.spot (hC.out.below hb2) hlt;simp only[Option.some.injEq,Addr.mk.injEq] at e;obtain⟨rfl,_⟩:=e;exact h
   have hgw:g≠w.heap.size:=fun e=>(TyAt.ne hgty.out (e▸Zax hR.out) (by decide)) rfl
   have HR2:Hid (Tri (w2.setCell ⟨g,k,none⟩ (.slice au row.length cu)) w.heap.size (.slice none 0 0) (.slice none 0 0) (.int .i64 0) 39):=(hR.out.below hb2).other (p:=⟨g,k,none⟩) hgw _;have HB2:Hid (Below w.heap.size w (w2.setCell ⟨g,k,none⟩ (.slice au row.length cu))):=(hB.out.trans (hb2.mono hB.out.size)).setCell (p:=⟨g,k,none⟩) (show w.heap.size≤g by omega) _;have HZ2:Hid (W0.heap.size≤(w2.setCell ⟨g,k,none⟩ (.slice au row.length cu)).heap.size):=by
    have h2:=HB2.out.size;show _≤_;have h3:(w2.setCell ⟨g,k,none⟩ (.slice au row.length cu)).heap.size=w2.heap.size:=by simp[World.setCell]
    rw[h3];have:=hZ.out;omega
   clear hu hcell hfr hC hR hB hZ hb2 hgty HCr
   go_wp2_with fail
   go_roundw
   case rel=>exact⟨k+1,by omega,by go_num,HC2,HZ2,HR2,HB2⟩
   case measure=>simp[intOf];omega
  ·have he:k=L.length:=by omega
   subst he;have HX:=zH hC.out.done;have hTq:=HT.out.below hBw hB.out;obtain⟨x0,x1,x2,_⟩:=hTq.box.cells;simp only at x0 x1 x2;have HCi:=zH (fun w' (h:Since wr w')=>Ztu B b c2 B1 (by omega) w' (Nat.le_trans hBw (Nat.le_trans hB.out.size h.low.size)) (hTq.tab.mB.below (h.low.mono (Nat.le_trans hBw hB.out.size))));have hqr:q<wr.heap.size:=Zab hTq.box;have Cell:=zH (fun w' (h:Since wr w')=>(show w'.cell? ⟨q,1,none⟩=some (.slice b B1.length c2)/\w'.cell? ⟨q,2,none⟩=some (.int .i64 C)/\Since wr w' from
    ⟨h.cell (p:=⟨q,1,none⟩) hqr x1,h.cell (p:=⟨q,2,none⟩) hqr x2,h⟩))
   have hin0:=(Since.refl wr).drew;clear hTq x0 x1 x2 hC
   go_upto_region 7 with fail
   refine Zaf (S:=(fun w'=>w'.cell? ⟨q,1,none⟩=some (.slice b B1.length c2)/\w'.cell? ⟨q,2,none⟩=some (.int .i64 C)/\Since wr w')) 11 (by kernel_rfl) ?_ (fun hHeld=>?_)
   ·exact Cell.out _ hin0
   refine tk2 0 ⟨some 24,_,37,_,_,none⟩ ?_;refine tk2 1 ⟨some 25,_,175,_,_,none⟩ ?_;refine tk2 2 ⟨some 26,_,0,_,_,none⟩ ?_;refine tk2 3 ⟨some 27,_,0,_,_,none⟩ ?_;refine tk2 4 ⟨some 28,_,25,_,_,none⟩ ?_;refine tk2 6 ⟨some 30,_,175,_,_,none⟩ ?_;refine tk2 7 ⟨some 31,_,0,_,_,none⟩ ?_;refine tk2 8 ⟨some 32,_,0,_,_,none⟩ ?_;refine tk2 9 ⟨some 33,_,3,_,_,none⟩ ?_
   try simp only[Act.put,zA,zB,zC]
   refine rd2 5 ⟨some 29,_,25,_,_,none⟩ fun K hK=>?_
   go_simp
   (go_at_call 236;refine (HCi.out _ hin0).mono ?_;rintro e w2 ⟨⟨u,rfl,hu⟩,hb2⟩;obtain⟨au,cu,rfl⟩:=Zam hu;have hin2:=hin0.trans hb2)
   refine hK.out _ _ ?_ (fun hHeld=>?_)
   ·exact Cell.out _ hin2
   clear hK K;refine tk2 10 ⟨some 34,_,39,_,_,none⟩ ?_
   try simp only[Act.put,zA,zB,zC]
   have HR2:=zH (hR.out.below hin2.low);have HX2:=zH (HX.out.below hin2.low);have HB2:=zH (hB.out.trans (hin2.low.mono hB.out.size));have HI2:=zH (hu.Zf9 (show w.heap.size≤_ from Nat.le_trans hB.out.size hin0.low.size));obtain⟨z0,z1,z2,f0,f1,f2⟩:=HR2.out.cells;clear Cell HCi hin0 hin2 hb2 hu hR HX hB;refine rd3 11 ⟨none,_,0,_,_,none⟩ fun K hK=>?_
   go_simp
   refine hK.out _ _ ?_;clear hK K;refine Zal (by kernel_rfl) ?_ _;have hF:=HR2.out
   go_wp2_with fail
   refine bodyPost_ret (v:=.agg #[.slice av L.length cv,.slice au B1.length cu,.int .i64 C]) (by
    obtain⟨z0,z1,z2,_⟩:=(Zck hF (.slice av L.length cv) (.slice au B1.length cu) (.int .i64 C)).cells;revert z0 z1 z2;generalize (World.setCell _ (⟨w.heap.size,2,none⟩:Addr) (.int .i64 C))=W4;intro z0 z1 z2;simp[results,Tryz.results228,go_sem,z0,z1,z2]) rfl ⟨⟨_,_,rfl,?_,?_⟩,?_⟩
   ·have h1:=(HX2.out.raise hWw).set (q:=w.heap.size) (i:=0) (u:=.slice av L.length cv) (Zax hF) (by decide) (by decide)
    have h2:=h1.set (q:=w.heap.size) (i:=1) (u:=.slice au B1.length cu) (Zax (hF.set0 _)) (by decide) (by decide);exact h2.set (q:=w.heap.size) (i:=2) (u:=.int .i64 C) (Zax ((hF.set0 _).set1 _)) (by decide) (by decide)
   ·exact Zey HI2.out (Zdf HI2.out hF (by decide))
   ·exact Zd7 HB2.out (Nat.le_refl _) _ _ _
theorem Zrd (B q:Nat) (a b:Option Addr) (c1 c2:Nat) (t:T) (j:Int) (g:Bool) (hg:decide (0≤j/\j≤(t.rows.length:Int)-1)=g) (w:World) (h:Zcd B w q a b c1 c2 t) :
  Calls Tryz.prog 229 #[.pointer (some ⟨q,0,none⟩),.int .i64 j] w fun e w'=>e=.returned (.bool g)/\w=w':=by
 obtain⟨x0,x1,x2,_⟩:=h.box.cells;clear h
 by_cases hj:j≥0
 ·have hd:decide (j≥0)=true:=by rw[decide_eq_true_iff];exact hj
  have Hr:Hid (decide (j<(t.rows.length:Int))=g):=by
   show _=_;rw[<-hg,decide_eq_decide];omega
  clear hg
  go_enter Tryz.func229,Tryz.ntmps229
  go_wp2_with fail
  go_ret;exact⟨Zae Hr.out,rfl⟩
 ·have hd:decide (j≥0)=false:=by rw[decide_eq_false_iff_not];exact hj
  have Hr:=zH (show false=g by rw[<-hg];symm;rw[decide_eq_false_iff_not];omega);clear hg
  go_enter Tryz.func229,Tryz.ntmps229
  go_wp2_with fail
  go_ret;exact⟨Zae Hr.out,rfl⟩
structure Zbi (lo:Nat) (w:World) (q:Nat) (vR vB:Value) (C:Int) (L:List (List R)) (Bs:List Int):Prop where
 box:Tri w q vR vB (.int .i64 C) 39
 rows:Zbn lo w vR L
 bas:Zad lo w vB Bs
theorem Zbi.below {lo q:Nat} {w w':World} {vR vB:Value} {C:Int} {L:List (List R)} {Bs:List Int} (h:Zbi lo w q vR vB C L Bs) (hb:Below w.heap.size w w'):Zbi lo w' q vR vB C L Bs:=⟨h.box.below hb,h.rows.below hb,h.bas.below hb⟩
theorem Zbi.elem {lo q g c n j k b m c':Nat} {w:World} {vB:Value} {C:Int} {L:List (List R)} {Bs:List Int} (h:Zbi lo w q (.slice (some ⟨g,0,none⟩) n c) vB C L Bs) (hn:n=L.length) (hj:j<L.length) (hc:w.cell? ⟨g,j,none⟩=some (.slice (some ⟨b,0,none⟩) m c')) (hk:k<(rr L j).length) (hty:TyAt w b 31) (x:R) :
  Zbi lo ((w.setCell ⟨b,k*2,none⟩ (.int .i64 x.1)).setCell ⟨b,k*2+1,none⟩ (.int .i64 x.2)) q (.slice (some ⟨g,0,none⟩) n c) vB C (L.set j ((rr L j).set k x)) Bs:=by
 have hbq:b≠q:=fun e=>(TyAt.ne hty (e▸Zax h.box) (by decide)) rfl
 have hbi:vB.ownBlock≠some b:=fun e=>(TyAt.ne hty (Zav h.bas e) Zha) rfl
 exact⟨(h.box.other (p:=⟨b,k*2,none⟩) hbq _).other (p:=⟨b,k*2+1,none⟩) hbq _,h.rows.elem hn hj hc hk x,Zao (Zao h.bas hbi) hbi⟩
theorem Zme (lo q:Nat) (vR vB:Value) (C:Int) (L:List (List R)) (Bs:List Int) (r c:Nat) (hr:r<L.length) (hc:c<(rr L r).length) (hrl:(rr L r).length≤1048576) (w:World) (hlo:lo≤w.heap.size) (h:Zbi lo w q vR vB C L Bs) :
  Calls Tryz.prog 237 #[.pointer (some ⟨q,0,none⟩),.int .i64 r,.int .i64 c] w fun e w'=>e=.returned (.bool (Ta.dvK (rr L r) (Ve.at_ (rr L r) c)))/\Below lo w w'/\
   (Ta.dvK (rr L r) (Ve.at_ (rr L r) c)=true->Zbi lo w' q vR vB C (L.set r (Ta.dvR (rr L r) (Ve.at_ (rr L r) c))) Bs):=by
 obtain⟨a,c1,rfl⟩:=h.rows.shape;obtain⟨g,u,rfl,hg1,hg2,hcell,_,ho,hgty⟩:=h.rows.spot hr;obtain⟨ab,cb,rfl⟩:=Zbb ho;obtain⟨b,rfl,_,hb1,hb2⟩:=Zaa.block ho (by omega);have hbty:TyAt w b 31:=Zav ho rfl;obtain⟨x0,x1,x2,_⟩:=h.box.cells;have hq:=Zab h.box;obtain⟨X,hX⟩:∃X,rr L r=X:=⟨_,rfl⟩;rw[hX] at hc hrl hcell ho ⊢;have hread:=(Zfs ho).2;obtain⟨b',o',e,_,p0,p1⟩:=hread.at c hc;simp only[Option.some.injEq,Addr.mk.injEq] at e;obtain⟨rfl,rfl,_⟩:=e;obtain⟨y,hy⟩:∃y,Ve.at_ X c=y:=⟨_,rfl⟩;rw[hy] at p0 p1 ⊢;simp only[Nat.zero_add] at p0 p1;have HX:=zH hX;obtain⟨K,hK⟩:∃K,Ta.dvK X y=K:=⟨_,rfl⟩;have HK:=zH hK;rw[hK];have hN0:Hid (Zbi lo (w.alloc (.cells #[.int .i64 y.1,.int .i64 y.2] 31)) q (.slice (some ⟨g,0,none⟩) L.length c1) vB C (L.set r (Ta.dvAt X y 0)) Bs):=by
  have e:L.set r (Ta.dvAt X y 0)=L:=by
   rw[Ta.Zu9,<-hX];refine List.ext_getElem? fun j=>?_
   by_cases e:j=r
   ·subst e;rw[List.getElem?_set_self hr,Zta hr]
   ·rw[List.getElem?_set_ne (fun h=>e h.symm)]
  rw[e];exact h.below ((Below.refl _ _).alloc (Nat.le_refl _) _)
 have hC0:Hid ((w.alloc (.cells #[.int .i64 y.1,.int .i64 y.2] 31)).cell? ⟨g,r,none⟩=some (.slice (some ⟨b,0,none⟩) X.length cb)):=by
  show _=_;rw[((Below.refl w.heap.size w).alloc (Nat.le_refl _) _).cell (p:=⟨g,r,none⟩) hg2];exact hcell
 have hY0:=zH (Zau.new w y);have hB0:=zH ((Below.refl lo w).alloc hlo (.cells #[.int .i64 y.1,.int .i64 y.2] 31));have hT0:Hid (TyAt (w.alloc (.cells #[.int .i64 y.1,.int .i64 y.2] 31)) b 31):=hbty.same (((Below.refl w.heap.size w).alloc (Nat.le_refl _) _).block b hb2);have n1:(r:Int)<(L.length:Int):=by omega
 have n2:(c:Int)<(X.length:Int):=by omega
 have hcs:=hC0.out;have hx0s:(w.alloc (.cells #[.int .i64 y.1,.int .i64 y.2] 31)).cell? ⟨q,0,none⟩=some (.slice (some ⟨g,0,none⟩) L.length c1):=by rw[((Below.refl w.heap.size w).alloc (Nat.le_refl _) _).cell (p:=⟨q,0,none⟩) hq];exact x0
 clear hread ho hy hK h hX x1 x2 hbty hgty
 go_enter Tryz.func237,Tryz.ntmps237
 go_wp2_with fail
 go_loopw [8,9,10,29] (fun f _ _ i wr=>∃k:Nat,k≤X.length/\f=.bool true/\i=.int .i64 k/\Hid (Zbi lo wr q (.slice (some ⟨g,0,none⟩) L.length c1) vB C (L.set r (Ta.dvAt X y k)) Bs)/\Hid (wr.cell? ⟨g,r,none⟩=some (.slice (some ⟨b,0,none⟩) X.length cb))/\Hid (TyAt wr b 31)/\Hid (Zau wr w.heap.size y)/\Hid (∀j,j<k->(Ta.dv X y j).2=true)/\Hid (Below lo w wr)) (fun _ _ _ i _=>X.length-(intOf i).toNat)
 case atStart=>exact⟨0,Nat.zero_le _,rfl,rfl,hN0,hC0,hT0,hY0,fun j hj=>absurd hj (by omega),hB0⟩
 case round=>
  clear hN0 hC0 hT0 hY0 hB0 p0 p1 x0 hcell hcs hx0s;obtain⟨k,hk,rfl,rfl,hN,hC,hT,hY,hA,hB⟩:=hrel
  by_cases hlt:k<X.length
  ·have hrow:rr (L.set r (Ta.dvAt X y k)) r=Ta.dvAt X y k:=Zhp hr
   have hlen:=Ta.Zx2 (l:=X) (y:=y) (k:=k) hk;obtain⟨g',u',e,_,hgs,hcell',hfr',ho,hgty⟩:=hN.out.rows.spot (j:=r) (by rw[List.length_set];exact hr);simp only[Option.some.injEq,Addr.mk.injEq] at e;obtain⟨rfl,_⟩:=e;rw[hC.out] at hcell';obtain rfl:=Option.some.inj hcell';rw[hrow] at ho;have ho':Zaa lo wr (.slice (some ⟨b,0,none⟩) (Ta.dvAt X y k).length cb) (Ta.dvAt X y k):=by rw[hlen];exact ho
   obtain⟨⟨v0,s0⟩,f0,⟨v1,s1⟩,f1⟩:=ho'.spots k (by omega);have hread:=(Zfs ho).2;obtain⟨b',o',e,_,p0,p1⟩:=hread.at k (by omega);simp only[Option.some.injEq,Addr.mk.injEq] at e;obtain⟨rfl,rfl,_⟩:=e;rw[Ta.Zu8 (Nat.le_refl k)] at p0 p1;simp only[Nat.zero_add] at p0 p1;obtain⟨x,hx⟩:∃x,Ve.at_ X k=x:=⟨_,rfl⟩;rw[hx] at p0 p1;have Hdv:Hid (Ta.dv X y k=(Ta.divR x y,Ta.divK x y)):=by show _=_;rw[<-hx];rfl
   obtain⟨x0,_,_,_⟩:=hN.out.box.cells;have hqr:=Zab hN.out.box;have hbr:=hT.out.lt;have hyr:=hY.out.lt;obtain⟨y0,y1,_,_⟩:=hY.out.four;have n3:(k:Int)<(X.length:Int):=by omega
   have Hgty:=zH hgty;have hwlo:=hB.out.size;have Hrow:=zH hrow;have Hlen:=zH hlen;clear s0 s1 f0 f1 hread ho' ho hgty hx hcell' hfr' hrow hlen
   go_upto_region 5 with fail
   obtain⟨W4,hW4⟩:∃W4,wr.alloc (.cells #[.int .i64 x.1,.int .i64 x.2] 31)=W4:=⟨_,rfl⟩;have hs4:Since wr W4:=by rw[<-hW4];exact (Since.refl wr).alloc _
   have hb4:Zau W4 wr.heap.size x:=by rw[<-hW4];exact Zau.new wr x
   rw[hW4];have hz4:=hb4.lt;obtain⟨z0,z1,_,_⟩:=hb4.four;have hbq:b≠q:=fun e=>(TyAt.ne hT.out (e▸Zax hN.out.box) (by decide)) rfl
   have hbg:b≠g:=fun e=>(TyAt.ne hT.out (e▸Hgty.out) Zcf) rfl
   have hbn:∀p:Nat,b≠p->(some b:Option Nat)≠some p:=fun p h e=>h (Option.some.inj e)
   have Cell:=zH (fun w' (h:W4.grownBy w' (some b))=>(show w'.cell? ⟨q,0,none⟩=some (.slice (some ⟨g,0,none⟩) L.length c1)/\w'.cell? ⟨g,r,none⟩=some (.slice (some ⟨b,0,none⟩) X.length cb)/\w'.cell? ⟨w.heap.size,0,none⟩=some (.int .i64 y.1)/\w'.cell? ⟨w.heap.size,1,none⟩=some (.int .i64 y.2)/\w'.cell? ⟨wr.heap.size,0,none⟩=some (.int .i64 x.1)/\w'.cell? ⟨wr.heap.size,1,none⟩=some (.int .i64 x.2)/\W4.grownBy w' (some b) from
    ⟨Zde (p:=⟨q,0,none⟩) h (show q<W4.heap.size by omega) (hbn _ hbq) (hs4.cell (p:=⟨q,0,none⟩) hqr x0),Zde (p:=⟨g,r,none⟩) h (show g<W4.heap.size by omega) (hbn _ hbg) (hs4.cell (p:=⟨g,r,none⟩) hgs hC.out),Zde (p:=⟨w.heap.size,0,none⟩) h (show w.heap.size<W4.heap.size by omega) (hbn w.heap.size (by omega)) (hs4.cell (p:=⟨w.heap.size,0,none⟩) hyr y0),Zde (p:=⟨w.heap.size,1,none⟩) h (show w.heap.size<W4.heap.size by omega) (hbn w.heap.size (by omega)) (hs4.cell (p:=⟨w.heap.size,1,none⟩) hyr y1),Zde (p:=⟨wr.heap.size,0,none⟩) h hz4 (hbn _ (by show b≠wr.heap.size;omega)) z0,Zde (p:=⟨wr.heap.size,1,none⟩) h hz4 (hbn _ (by show b≠wr.heap.size;omega)) z1,h⟩))
   have hg0:W4.grownBy W4.drew (some b):=Zny (World.grownBy.refl _ _);have Hs4:=zH hs4;clear hW4 x0 y0 y1 z0 z1 p0 p1 hb4;refine wp_region_held_drew (S:=fun w'=>w'.cell? ⟨q,0,none⟩=some (.slice (some ⟨g,0,none⟩) L.length c1)/\w'.cell? ⟨g,r,none⟩=some (.slice (some ⟨b,0,none⟩) X.length cb)/\w'.cell? ⟨w.heap.size,0,none⟩=some (.int .i64 y.1)/\w'.cell? ⟨w.heap.size,1,none⟩=some (.int .i64 y.2)/\w'.cell? ⟨wr.heap.size,0,none⟩=some (.int .i64 x.1)/\w'.cell? ⟨wr.heap.size,1,none⟩=some (.int .i64 x.2)/\W4.grownBy w' (some b)) (by kernel_rfl) ?_ (fun hHeld=>?_)
   ·exact Cell.out _ hg0
   refine tk1 0 ⟨some 35,_,175,_,_,none⟩ ?_;refine tk1 1 ⟨some 36,_,0,_,_,none⟩ ?_;refine tk1 2 ⟨some 37,_,0,_,_,none⟩ ?_;refine tk1 3 ⟨some 38,_,37,_,_,none⟩ ?_;refine tk1 4 ⟨some 39,_,3,_,_,none⟩ ?_;refine tk1 5 ⟨some 40,_,0,_,_,none⟩ ?_;refine tk1 6 ⟨some 41,_,26,_,_,none⟩ ?_;refine tk1 7 ⟨some 42,_,3,_,_,none⟩ ?_;refine tk1 8 ⟨some 43,_,31,_,_,none⟩ ?_;refine tk1 9 ⟨some 44,_,31,_,_,none⟩ ?_
   try simp only[Act.put,zA,zB,zC]
   refine rd1 10 ⟨some 45,_,107,_,_,none⟩ fun K hK=>?_
   go_simp
   (go_at_call 152;refine (Zsp x y _).mono ?_;rintro e w6 ⟨rfl,hb6⟩;have hg6:=Zel hg0 hb6;have hin6:=(Since.refl W4).drew.trans hb6)
   refine hK.out _ _ ?_ (fun hHeld=>?_)
   ·exact Cell.out _ hg6
   clear hK K
   try simp only[Act.put,zA,zB,zC]
   have hrow:=Hrow.out;have hlen:=Hlen.out;have hs6:Since wr w6:=Hs4.out.trans (hin6.low.mono (Nat.le_refl _));have HN6:=zH (hN.out.below hs6.low);have HC6:=zH (hs6.cell (p:=⟨g,r,none⟩) hgs hC.out);have HT6:Hid (TyAt w6 b 31):=hT.out.same (hs6.low.block b hbr);have HY6:=zH (hY.out.since hs6);have HB6:=zH (hB.out.trans (hs6.low.mono (Nat.le_trans hlo hwlo)));obtain⟨g',u',e,_,_,hcell',hfr',ho,_⟩:=HN6.out.rows.spot (j:=r) (by rw[List.length_set];exact hr);simp only[Option.some.injEq,Addr.mk.injEq] at e;obtain⟨rfl,_⟩:=e;rw[HC6.out] at hcell';obtain rfl:=Option.some.inj hcell';rw[hrow] at ho;have ho':Zaa lo w6 (.slice (some ⟨b,0,none⟩) (Ta.dvAt X y k).length cb) (Ta.dvAt X y k):=by rw[hlen];exact ho
   obtain⟨⟨v0,s0⟩,f0,⟨v1,s1⟩,f1⟩:=ho'.spots k (by omega);have hgb:g≠b:=fun e=>(TyAt.ne Hgty.out (e▸hT.out) (fun e=>Zcf e.symm)) rfl
   have HN7:Hid (Zbi lo ((w6.setCell ⟨b,k*2,none⟩ (.int .i64 (Ta.divR x y).1)).setCell ⟨b,k*2+1,none⟩ (.int .i64 (Ta.divR x y).2)) q (.slice (some ⟨g,0,none⟩) L.length c1) vB C (L.set r (Ta.dvAt X y (k+1))) Bs):=by
    have h:=HN6.out.elem (j:=r) (k:=k) (by rw[List.length_set]) (by rw[List.length_set];exact hr) HC6.out (by rw[hrow];omega) HT6.out (Ta.divR x y);rw[hrow,List.set_set] at h;have e:=Ta.Zu7 (y:=y) hlt;rw[Hdv.out] at e;rw[e] at h;exact h
   have HC7:Hid (((w6.setCell ⟨b,k*2,none⟩ (.int .i64 (Ta.divR x y).1)).setCell ⟨b,k*2+1,none⟩ (.int .i64 (Ta.divR x y).2)).cell? ⟨g,r,none⟩=some (.slice (some ⟨b,0,none⟩) X.length cb)):=by
    show _=_;rw[World.cell?_of_block (w:=w6) (a:=⟨g,r,none⟩) (by rw[Below.heap_setCell _ _ _ _ hgb,Below.heap_setCell _ _ _ _ hgb])];exact HC6.out
   have HT7:Hid (TyAt ((w6.setCell ⟨b,k*2,none⟩ (.int .i64 (Ta.divR x y).1)).setCell ⟨b,k*2+1,none⟩ (.int .i64 (Ta.divR x y).2)) b 31):=by
    obtain⟨g',u',e,_,_,hcell',_,ho,_⟩:=HN7.out.rows.spot (j:=r) (by rw[List.length_set];exact hr);simp only[Option.some.injEq,Addr.mk.injEq] at e;obtain⟨rfl,_⟩:=e;rw[HC7.out] at hcell';obtain rfl:=Option.some.inj hcell';exact Zav ho rfl
   have HY7:Hid (Zau ((w6.setCell ⟨b,k*2,none⟩ (.int .i64 (Ta.divR x y).1)).setCell ⟨b,k*2+1,none⟩ (.int .i64 (Ta.divR x y).2)) w.heap.size y):=HY6.out.other (show w.heap.size≠b by omega) _ _ _ _;have HB7:=zH (Zfj HB6.out hb1 (k*2) (k*2+1) (.int .i64 (Ta.divR x y).1) (.int .i64 (Ta.divR x y).2));clear hrow hlen Hrow Hlen hin6 hb6 hs6 HN6 HC6 HT6 HY6 HB6 hN hC hT hY hB ho ho' hcell' hfr' Hs4 Hgty;generalize Ta.divR x y=d at *;generalize Ta.divK x y=ok at *;have hg7:=Zgl (Zgl hg6 (k*2) (.int .i64 d.1)) (k*2+1) (.int .i64 d.2);refine tk1 11 ⟨some 34,_,107,_,_,none⟩ ?_;refine tk1 12 ⟨some 46,_,31,_,_,none⟩ ?_;refine tk1 13 ⟨some 47,_,4,_,_,none⟩ ?_;refine tk1 14 ⟨some 48,_,0,_,_,none⟩ ?_
   try simp only[Act.put,zA,zB,zC]
   refine rd1 15 ⟨none,_,0,_,_,none⟩ fun K hK=>?_
   go_simp
   skip
   refine hK.out _ _ ?_ (fun hHeld=>?_)
   ·exact Cell.out _ hg7
   clear hK K;refine tk1 16 ⟨some 8,_,4,_,_,none⟩ ?_
   try simp only[Act.put,zA,zB,zC]
   refine wpAnyH_done (by kernel_rfl) ?_ _;clear Cell hg0 hg6 hg7;cases ok with
   | false=>
    have Hr:Hid (false=K):=by show _=_;rw[<-HK.out,Ta.Zz7 hlt (by rw[Hdv.out])]
    go_wp2_with fail
    go_ret;exact⟨Zae Hr.out,HB7.out,fun h=>by rw[<-Hr.out] at h;cases h⟩
   | true=>
    have HA2:Hid (∀j,j<k+1->(Ta.dv X y j).2=true):=fun j hj=>by
     by_cases e:j=k
     ·subst e;rw[Hdv.out]
     ·exact hA.out j (by omega)
    go_wp2_with fail
    go_roundw
    case rel=>exact⟨k+1,by omega,rfl,by go_num,HN7,HC7,HT7,HY7,HA2,HB7⟩
    case measure=>simp[intOf];omega
  ·have he:k=X.length:=by omega
   have hKt:Ta.dvK X y=true:=by
    unfold Ta.dvK Ve.allK;rw[List.all_eq_true];exact fun j hj=>hA.out j (by rw[he];simpa using hj)
   have Hr:Hid (true=K):=by show _=_;rw[<-HK.out,hKt]
   have HF:Hid (Zbi lo wr q (.slice (some ⟨g,0,none⟩) L.length c1) vB C (L.set r (Ta.dvR X y)) Bs):=by
    rw[<-Ta.Zx1 hKt,<-he];exact hN.out
   clear hKt he
   go_wp2_with fail
   go_ret;exact⟨Zae Hr.out,hB.out,fun _=>HF.out⟩
theorem Zkl {w:World} {g i r:Nat} {cs:Array Value} {t:TypeId} (h:Zac w g cs t) (hir:i≠r) (u:Value):(w.setCell ⟨g,i,none⟩ u).cell? ⟨g,r,none⟩=w.cell? ⟨g,r,none⟩:=by
 rw[(h.set i u).cell r,h.cell r,Array.getElem?_setIfInBounds_ne hir]
theorem Zbi.put {lo q g c n j:Nat} {w0 w:World} {vB u:Value} {C:Int} {x:List R} {L:List (List R)} {Bs:List Int} (h:Zbi lo w0 q (.slice (some ⟨g,0,none⟩) n c) vB C L Bs) (hn:n=L.length) (hb:Below w0.heap.size w0 w) (hl:lo≤w0.heap.size) (hu:Zaa w0.heap.size w u x) (hty:TyAt w0 g 26) :
  Zbi lo (w.setCell ⟨g,j,none⟩ u) q (.slice (some ⟨g,0,none⟩) n c) vB C (L.set j x) Bs:=by
 have hgq:g≠q:=fun e=>(TyAt.ne hty (e▸Zax h.box) (by decide)) rfl
 have hgi:vB.ownBlock≠some g:=fun e=>(TyAt.ne hty (Zav h.bas e) Zcx) rfl
 exact⟨(h.box.below hb).other (p:=⟨g,j,none⟩) hgq _,h.rows.put hn hb hl hu,Zao (h.bas.below hb) hgi⟩
theorem Zju (lo q:Nat) (vR vB:Value) (C:Int) (L:List (List R)) (Bs:List Int) (i r c:Nat) (hir:i≠r) (hi:i<L.length) (hr:r<L.length) (hc:c<(rr L i).length) (hri:(rr L i).length≤1048576) (hrr:(rr L r).length≤1048576) (st:Bool) (hst:decide (Ve.at_ (rr L i) c=(0,1))=st) (w:World) (hlo:lo≤w.heap.size) (h:Zbi lo w q vR vB C L Bs) :
  Calls Tryz.prog 238 #[.pointer (some ⟨q,0,none⟩),.int .i64 i,.int .i64 r,.int .i64 c] w fun e w'=>e=.returned (.bool (st || Ve.scK (rr L i) (Ta.negR (Ve.at_ (rr L i) c)) (rr L r)))/\Below lo w w'/\
   ((st || Ve.scK (rr L i) (Ta.negR (Ve.at_ (rr L i) c)) (rr L r))=true->Zbi lo w' q vR vB C (if st then L else L.set i (Ve.scR (rr L i) (Ta.negR (Ve.at_ (rr L i) c)) (rr L r))) Bs):=by
 obtain⟨a,c1,rfl⟩:=h.rows.shape;obtain⟨g,u,rfl,hg1,hg2,hcell,_,ho,hgty⟩:=h.rows.spot hi;obtain⟨g2,u2,e2,_,_,hcell2,_,ho2,_⟩:=h.rows.spot hr;simp only[Option.some.injEq,Addr.mk.injEq] at e2;obtain⟨rfl,_⟩:=e2;obtain⟨ai,ci,rfl⟩:=Zbb ho;obtain⟨ar,cr,rfl⟩:=Zbb ho2;have hreadi:=(Zfs ho).2;have hreadr:=(Zfs ho2).2;obtain⟨b,o,rfl,hbl,p0,p1⟩:=hreadi.at c hc;obtain⟨x0,x1,x2,_⟩:=h.box.cells;have hq:=Zab h.box;have hgq:g≠q:=fun e=>(TyAt.ne hgty (e▸Zax h.box) (by decide)) rfl
 obtain⟨cs,hcs⟩:=hgty;obtain⟨el,hel⟩:∃el,Ve.at_ (rr L i) c=el:=⟨_,rfl⟩;rw[hel] at p0 p1 hst ⊢;have HN:=zH h;have Hreadi:=zH hreadi;have Hreadr:=zH hreadr;have hal:=(Below.refl w.heap.size w).alloc (Nat.le_refl _) (.cells #[.int .i64 el.1,.int .i64 el.2] 31);have hB0:=zH ((Below.refl lo w).alloc hlo (.cells #[.int .i64 el.1,.int .i64 el.2] 31));have hN0:=zH (h.below hal);have hY0:=zH (Zau.new w el);have hal2:=zH hal;have n1:(i:Int)<(L.length:Int):=by omega
 have n2:(c:Int)<((rr L i).length:Int):=by omega
 have n3:(r:Int)<(L.length:Int):=by omega
 have hneq:=Zpq;have heqg:=Zgj;clear hreadi hreadr ho ho2 hel h x1 x2 hal;cases st with
 | true=>
  have e:=of_decide_eq_true hst;subst e;clear hst
  go_enter Tryz.func238,Tryz.ntmps238
  go_wp2_with fail
  go_ret;exact⟨rfl,hB0.out,hN0.out⟩
 | false=>
  have hq0:(el.1 == 0 && el.2 == 1)=false:=by
   rw[Bool.eq_false_iff];intro h;simp only[Bool.and_eq_true,beq_iff_eq] at h;exact (of_decide_eq_false hst) (Prod.ext h.1 h.2)
  obtain⟨X,hX⟩:∃X,rr L i=X:=⟨_,rfl⟩;obtain⟨Y,hY⟩:∃Y,rr L r=Y:=⟨_,rfl⟩;rw[hX] at hc hri hcell n2 Hreadi ⊢;rw[hY] at hrr hcell2 Hreadr ⊢;clear hX hY hst
  go_enter Tryz.func238,Tryz.ntmps238
  go_upto_region 3 with fail
  obtain⟨W4,hW4⟩:∃W4,w.alloc (.cells #[.int .i64 el.1,.int .i64 el.2] 31)=W4:=⟨_,rfl⟩;rw[hW4] at hB0 hN0 hY0 hal2 ⊢;have hz4:=hY0.out.lt;obtain⟨y0,y1,_,_⟩:=hY0.out.four;have hcs4:Zac W4 g cs 26:=(hal2.out.block g hg2).trans hcs;have hc4:=hal2.out.cell (p:=⟨g,i,none⟩) hg2;have hd4:=hal2.out.cell (p:=⟨g,r,none⟩) hg2;have hx4:=hal2.out.cell (p:=⟨q,0,none⟩) hq;rw[hcell] at hc4;rw[hcell2] at hd4;rw[x0] at hx4;have hgn:∀p:Nat,g≠p->(some g:Option Nat)≠some p:=fun p h e=>h (Option.some.inj e)
  have Cell:=zH (fun w' (h:W4.grownBy w' (some g)) (h2:w'.cell? ⟨g,r,none⟩=some (.slice ar Y.length cr))=>(show w'.cell? ⟨q,0,none⟩=some (.slice (some ⟨g,0,none⟩) L.length c1)/\w'.cell? ⟨g,r,none⟩=some (.slice ar Y.length cr)/\w'.cell? ⟨w.heap.size,0,none⟩=some (.int .i64 el.1)/\w'.cell? ⟨w.heap.size,1,none⟩=some (.int .i64 el.2) from
   ⟨Zde (p:=⟨q,0,none⟩) h (show q<W4.heap.size by omega) (hgn _ hgq) hx4,h2,Zde (p:=⟨w.heap.size,0,none⟩) h hz4 (hgn w.heap.size (by omega)) y0,Zde (p:=⟨w.heap.size,1,none⟩) h hz4 (hgn w.heap.size (by omega)) y1⟩))
  have hg0:W4.grownBy W4.drew (some g):=Zny (World.grownBy.refl _ _);have hin0:=(Since.refl W4).drew;have Hri:=zH (fun w' (h:Since W4 w')=>Hreadi.out.below (hal2.out.trans (h.low.mono (by omega))));have Hrr:=zH (fun w' (h:Since W4 w')=>Hreadr.out.below (hal2.out.trans (h.low.mono (by omega))));have HSz:=zH (show w.heap.size≤W4.heap.size by omega);have hin0c:W4.drew.cell? ⟨g,i,none⟩=some (.slice (some ⟨b,o,none⟩) X.length ci):=hc4;have HD4:=zH hd4;have HC4:=zH hc4;have Hcs:=zH hcs4;have hg4:g<W4.heap.size:=by omega
  clear hW4 hcell hcell2 x0 hx4 p0 p1 y0 y1 hcs hcs4 hd4 hc4 Hreadi Hreadr;refine wp_region_held_drew (S:=fun w'=>w'.cell? ⟨q,0,none⟩=some (.slice (some ⟨g,0,none⟩) L.length c1)/\w'.cell? ⟨g,r,none⟩=some (.slice ar Y.length cr)/\w'.cell? ⟨w.heap.size,0,none⟩=some (.int .i64 el.1)/\w'.cell? ⟨w.heap.size,1,none⟩=some (.int .i64 el.2)) (by kernel_rfl) ?_ (fun hHeld=>?_)
  ·exact Cell.out _ hg0 HD4.out
  refine tk1 0 ⟨some 25,_,175,_,_,none⟩ ?_;refine tk1 1 ⟨some 26,_,0,_,_,none⟩ ?_;refine tk1 2 ⟨some 27,_,0,_,_,none⟩ ?_;refine tk1 3 ⟨some 28,_,37,_,_,none⟩ ?_;refine tk1 4 ⟨some 29,_,3,_,_,none⟩ ?_;refine tk1 5 ⟨some 30,_,175,_,_,none⟩ ?_;refine tk1 6 ⟨some 31,_,0,_,_,none⟩ ?_;refine tk1 7 ⟨some 32,_,0,_,_,none⟩ ?_;refine tk1 8 ⟨some 33,_,37,_,_,none⟩ ?_;refine tk1 9 ⟨some 34,_,3,_,_,none⟩ ?_;refine tk1 10 ⟨some 35,_,0,_,_,none⟩ ?_;refine tk1 12 ⟨some 37,_,31,_,_,none⟩ ?_;refine tk1 14 ⟨some 39,_,175,_,_,none⟩ ?_;refine tk1 15 ⟨some 40,_,0,_,_,none⟩ ?_;refine tk1 16 ⟨some 41,_,0,_,_,none⟩ ?_;refine tk1 17 ⟨some 42,_,37,_,_,none⟩ ?_;refine tk1 18 ⟨some 43,_,3,_,_,none⟩ ?_;refine tk1 19 ⟨some 44,_,0,_,_,none⟩ ?_;refine tk1 20 ⟨some 45,_,26,_,_,none⟩ ?_
  try simp only[Act.put,zA,zB,zC]
  refine wpAnyH_ready (rs:=[11,13]) (by kernel_rfl) (by simp) ?_;refine AllReadyH.cons (o:=⟨some 36,.load 26 (.tmp 35),26,"l06_tableau.go:107",#[⟨10,.data⟩],none⟩) (rs:=[13]) rfl (fun K hK=>?_) (AllReadyH.cons (o:=⟨some 38,.call { callee:=.value (.func 161),args:=#[.tmp 37],argTypes:=#[31] },31,"l06_tableau.go:107",#[⟨12,.data⟩],none⟩) (rs:=[]) rfl (fun K hK=>?_) AllReadyH.nil)
  ·go_simp
   skip
   refine hK.out _ _ ?_ (fun hHeld=>?_)
   ·exact Cell.out _ hg0 HD4.out
   clear hK K
   try simp only[Act.put,zA,zB,zC]
   refine rd1 13 ⟨some 38,_,31,_,_,none⟩ fun K hK=>?_
   go_simp
   (go_at_call 161;refine (Zb9 el _).mono ?_;rintro e w5 ⟨rfl,hb5⟩;have hg5:=Zel hg0 hb5;have hin5:=hin0.trans hb5)
   refine hK.out _ _ ?_ (fun hHeld=>?_)
   ·exact Cell.out _ hg5 (hin5.cell (p:=⟨g,r,none⟩) hg4 HD4.out)
   clear hK K
   try simp only[Act.put,zA,zB,zC]
   refine rd1 21 ⟨some 46,_,99,_,_,none⟩ fun K hK=>?_
   go_simp
   (go_at_call 210;refine (Zfh w5.heap.size _ _ _ _ X (Ta.negR el) Y hri hrr _ (Nat.le_refl _) ((Hri.out _ hin5).mono (Nat.le_trans HSz.out hin5.low.size)) ((Hrr.out _ hin5).mono (Nat.le_trans HSz.out hin5.low.size))).mono ?_;rintro e w6 ⟨v,rfl,hv,hb6⟩;obtain⟨av,cv,rfl⟩:=Zbb hv;have hg6:=Zel hg5 hb6;have hin6:=hin5.trans hb6)
   refine hK.out _ _ ?_ (fun hHeld=>?_)
   ·exact Cell.out _ hg6 (hin6.cell (p:=⟨g,r,none⟩) hg4 HD4.out)
   clear hK K
   try simp only[Act.put,zA,zB,zC]
   have hci6:=hin6.cell (p:=⟨g,i,none⟩) hg4 HC4.out;have hcs6:Zac w6 g cs 26:=(hin6.low.block g hg4).trans Hcs.out;have hfr6:=hcs6.free i;have HF:Hid (Zbi lo (w6.setCell ⟨g,i,none⟩ (.slice av (Ve.scR X (Ta.negR el) Y).length cv)) q (.slice (some ⟨g,0,none⟩) L.length c1) vB C (L.set i (Ve.scR X (Ta.negR el) Y)) Bs):=
    hN0.out.put rfl hin6.low (Nat.le_trans hlo HSz.out) (hv.raise hin5.low.size) ⟨cs,Hcs.out⟩
   have HB:Hid (Below lo w (w6.setCell ⟨g,i,none⟩ (.slice av (Ve.scR X (Ta.negR el) Y).length cv))):=(hB0.out.trans (hin6.low.mono (Nat.le_trans hlo HSz.out))).setCell (p:=⟨g,i,none⟩) hg1 _;have hg7:W4.grownBy (w6.setCell ⟨g,i,none⟩ (.slice av (Ve.scR X (Ta.negR el) Y).length cv)) (some g):=Zgl hg6 i _;have hr7:(w6.setCell ⟨g,i,none⟩ (.slice av (Ve.scR X (Ta.negR el) Y).length cv)).cell? ⟨g,r,none⟩=some (.slice ar Y.length cr):=by
    rw[Zkl hcs6 hir];exact hin6.cell (p:=⟨g,r,none⟩) hg4 HD4.out
   refine tk1 22 ⟨some 24,_,99,_,_,none⟩ ?_;refine tk1 23 ⟨some 47,_,26,_,_,none⟩ ?_;refine tk1 24 ⟨some 48,_,4,_,_,none⟩ ?_;refine tk1 25 ⟨some 49,_,0,_,_,none⟩ ?_
   try simp only[Act.put,zA,zB,zC]
   refine rd1 26 ⟨none,_,0,_,_,none⟩ fun K hK=>?_
   go_simp
   skip
   refine hK.out _ _ ?_ (fun hHeld=>?_)
   ·exact Cell.out _ hg7 hr7
   clear hK K;refine tk1 27 ⟨some 10,_,4,_,_,none⟩ ?_
   try simp only[Act.put,zA,zB,zC]
   refine wpAnyH_done (by kernel_rfl) ?_ _;clear Cell hg0 hg6 hg7 hr7 hcs6
   go_wp2_with fail
   go_ret;exact⟨rfl,HB.out,fun _=>HF.out⟩
  ·go_simp
   (go_at_call 161;refine (Zb9 el _).mono ?_;rintro e w5 ⟨rfl,hb5⟩;have hg5:=Zel hg0 hb5;have hin5:=hin0.trans hb5)
   refine hK.out _ _ ?_ (fun hHeld=>?_)
   ·exact Cell.out _ hg5 (hin5.cell (p:=⟨g,r,none⟩) hg4 HD4.out)
   clear hK K
   try simp only[Act.put,zA,zB,zC]
   have hin5c:=hin5.cell (p:=⟨g,i,none⟩) hg4 HC4.out;refine rd1 11 ⟨some 36,_,26,_,_,none⟩ fun K hK=>?_
   go_simp
   skip
   refine hK.out _ _ ?_ (fun hHeld=>?_)
   ·exact Cell.out _ hg5 (hin5.cell (p:=⟨g,r,none⟩) hg4 HD4.out)
   clear hK K
   try simp only[Act.put,zA,zB,zC]
   refine rd1 21 ⟨some 46,_,99,_,_,none⟩ fun K hK=>?_
   go_simp
   (go_at_call 210;refine (Zfh w5.heap.size _ _ _ _ X (Ta.negR el) Y hri hrr _ (Nat.le_refl _) ((Hri.out _ hin5).mono (Nat.le_trans HSz.out hin5.low.size)) ((Hrr.out _ hin5).mono (Nat.le_trans HSz.out hin5.low.size))).mono ?_;rintro e w6 ⟨v,rfl,hv,hb6⟩;obtain⟨av,cv,rfl⟩:=Zbb hv;have hg6:=Zel hg5 hb6;have hin6:=hin5.trans hb6)
   refine hK.out _ _ ?_ (fun hHeld=>?_)
   ·exact Cell.out _ hg6 (hin6.cell (p:=⟨g,r,none⟩) hg4 HD4.out)
   clear hK K
   try simp only[Act.put,zA,zB,zC]
   have hci6:=hin6.cell (p:=⟨g,i,none⟩) hg4 HC4.out;have hcs6:Zac w6 g cs 26:=(hin6.low.block g hg4).trans Hcs.out;have hfr6:=hcs6.free i;have HF:Hid (Zbi lo (w6.setCell ⟨g,i,none⟩ (.slice av (Ve.scR X (Ta.negR el) Y).length cv)) q (.slice (some ⟨g,0,none⟩) L.length c1) vB C (L.set i (Ve.scR X (Ta.negR el) Y)) Bs):=
    hN0.out.put rfl hin6.low (Nat.le_trans hlo HSz.out) (hv.raise hin5.low.size) ⟨cs,Hcs.out⟩
   have HB:Hid (Below lo w (w6.setCell ⟨g,i,none⟩ (.slice av (Ve.scR X (Ta.negR el) Y).length cv))):=(hB0.out.trans (hin6.low.mono (Nat.le_trans hlo HSz.out))).setCell (p:=⟨g,i,none⟩) hg1 _;have hg7:W4.grownBy (w6.setCell ⟨g,i,none⟩ (.slice av (Ve.scR X (Ta.negR el) Y).length cv)) (some g):=Zgl hg6 i _;have hr7:(w6.setCell ⟨g,i,none⟩ (.slice av (Ve.scR X (Ta.negR el) Y).length cv)).cell? ⟨g,r,none⟩=some (.slice ar Y.length cr):=by
    rw[Zkl hcs6 hir];exact hin6.cell (p:=⟨g,r,none⟩) hg4 HD4.out
   refine tk1 22 ⟨some 24,_,99,_,_,none⟩ ?_;refine tk1 23 ⟨some 47,_,26,_,_,none⟩ ?_;refine tk1 24 ⟨some 48,_,4,_,_,none⟩ ?_;refine tk1 25 ⟨some 49,_,0,_,_,none⟩ ?_
   try simp only[Act.put,zA,zB,zC]
   refine rd1 26 ⟨none,_,0,_,_,none⟩ fun K hK=>?_
   go_simp
   skip
   refine hK.out _ _ ?_ (fun hHeld=>?_)
   ·exact Cell.out _ hg7 hr7
   clear hK K;refine tk1 27 ⟨some 10,_,4,_,_,none⟩ ?_
   try simp only[Act.put,zA,zB,zC]
   refine wpAnyH_done (by kernel_rfl) ?_ _;clear Cell hg0 hg6 hg7 hr7 hcs6
   go_wp2_with fail
   go_ret;exact⟨rfl,HB.out,fun _=>HF.out⟩
theorem Zww {t:T} {r c k j:Nat} (hj:j<t.rows.length) (h1:j≠r) (h2:k≤j):rr (Ta.Zbc t r c k) j=Ta.row t j:=Zru (by rw[Ta.Zcy t r c k j hj,if_neg h1,if_neg (by omega)])
theorem Zmj {t:T} {r c k:Nat} (hr:r<t.rows.length):rr (Ta.Zbc t r c k) r=Ta.main t r c:=Zru (by rw[Ta.Zcy t r c k r hr,if_pos rfl])
theorem Zrs {t:T} {r c k:Nat} (hkr:k≠r) (st:Bool) (hst:decide (Ve.at_ (Ta.row t k) c=(0,1))=st) :
  Ta.Zbc t r c (k+1)=(if st then Ta.Zbc t r c k else (Ta.Zbc t r c k).set k (Ve.scR (Ta.row t k) (Ta.negR (Ve.at_ (Ta.row t k) c)) (Ta.main t r c)))/\Ta.nextK t r c k=(st || Ve.scK (Ta.row t k) (Ta.negR (Ve.at_ (Ta.row t k) c)) (Ta.main t r c)):=by
 have hs:Ta.still t r c k=st:=by unfold Ta.still;rw[decide_eq_false hkr,hst];rfl
 refine⟨?_,?_⟩
 ·cases st with
  | true=>rw[if_pos rfl];exact Ta.Zgv hs
  | false=>rw[if_neg (by decide)];exact Ta.Zlo hs
 ·unfold Ta.nextK;rw[hs]
theorem Zt2 (lo q:Nat) (vR vB:Value) (t:T) (r c:Nat) (hg:Ta.good t=true) (hn:Zca t) (hr:r<t.rows.length) (hc:(c:Int)≤t.cols+t.rows.length-1) (w:World) (hlo:lo≤w.heap.size) (h:Zbi lo w q vR vB t.cols t.rows t.basis) :
  Calls Tryz.prog 230 #[.pointer (some ⟨q,0,none⟩),.int .i64 r,.int .i64 c] w fun e w'=>e=.returned (.bool (Ta.Zgq t r c && Ta.Zbm t r c t.rows.length))/\Below lo w w'/\
   ((Ta.Zgq t r c && Ta.Zbm t r c t.rows.length)=true->Zbi lo w' q vR vB t.cols (Ta.Zbc t r c t.rows.length) (t.basis.set r c)):=by
 obtain⟨a,c1,rfl⟩:=h.rows.shape;obtain⟨g0,g1,g2,g3⟩:=Ta.Za2 hg;have hn1:=hn.rows;have HRow:=zH hn.row;have HG3:=zH g3;have G2:=zH g2;have hlen:∀k,k<t.rows.length->c<(rr t.rows k).length:=fun k hk=>by have:=(g3 k hk).1;have e:Ta.row t k=rr t.rows k:=rfl;rw[e] at this;omega
 have Hlen:=zH hlen;have HN:=zH h;obtain⟨K,hK⟩:∃K,(Ta.Zgq t r c && Ta.Zbm t r c t.rows.length)=K:=⟨_,rfl⟩;rw[hK];have HK:=zH hK;have HD:=zH (Zme lo q (.slice a t.rows.length c1) vB t.cols t.rows t.basis r c hr (hlen r hr) (hn.row r hr) w hlo h);have hmain:Hid (Ta.dvK (rr t.rows r) (Ve.at_ (rr t.rows r) c)=Ta.Zgq t r c/\t.rows.set r (Ta.dvR (rr t.rows r) (Ve.at_ (rr t.rows r) c))=Ta.Zbc t r c 0):=⟨rfl,(Ta.Zlp t r c).symm⟩;rw[hmain.out.1,hmain.out.2] at HD;clear g3 g2 hlen h hn hK hg hmain;have hml:Hid (Ta.Zgq t r c=true->(Ta.main t r c).length≤1048576):=fun hm=>by
  unfold Ta.main;rw[Ta.Zqz hm];exact HRow.out r hr
 generalize Ta.Zgq t r c=mk at *
 go_enter Tryz.func230,Tryz.ntmps230
 go_wp2_with fail
 refine HD.out.mono ?_;rintro e w1 ⟨rfl,hb1,hN1⟩;have HB1:=zH hb1;have HN1:=zH hN1;clear hb1 hN1 HD;cases mk with
 | false=>
  have Hr:Hid (false=K):=by show _=_;rw[<-HK.out];rfl
  go_wp2_with fail
  go_ret;exact⟨Zae Hr.out,HB1.out,fun h=>by rw[<-Hr.out] at h;cases h⟩
 | true=>
  have HN0:Hid (Zbi lo w1 q (.slice a t.rows.length c1) vB t.cols (Ta.Zbc t r c 0) t.basis):=HN1.out rfl;have Hml:Hid ((Ta.main t r c).length≤1048576):=hml.out rfl;have HK2:Hid (Ta.Zbm t r c t.rows.length=K):=by show _=_;rw[<-HK.out];rfl
  obtain⟨x0,x1,x2,_⟩:=HN0.out.box.cells;clear HN1 hml HK HN
  go_wp2_with fail
  go_loopw [7,18] (fun _ i wr=>∃k:Nat,k≤t.rows.length/\i=.int .i64 k/\Hid (Zbi lo wr q (.slice a t.rows.length c1) vB t.cols (Ta.Zbc t r c k) t.basis)/\Hid (Ta.Zbm t r c k=true)/\Hid (Below lo w wr)) (fun _ i _=>t.rows.length-(intOf i).toNat)
  case atStart=>exact⟨0,Nat.zero_le _,rfl,HN0,rfl,HB1⟩
  case round=>
   clear x0 x1 x2 HN0 HB1;obtain⟨k,hk,rfl,hN,hA,hB⟩:=hrel
   by_cases hlt:k<t.rows.length
   ·have n1:(k:Int)<(t.rows.length:Int):=by omega
    have hwlo:=hB.out.size
    by_cases hkr:k=r
    ·have hd:((k:Int) != (r:Int))=false:=by rw[hkr];simp
     have hst:Ta.still t r c k=true:=by unfold Ta.still;rw[decide_eq_true hkr];rfl
     have HN2:Hid (Zbi lo wr q (.slice a t.rows.length c1) vB t.cols (Ta.Zbc t r c (k+1)) t.basis):=by rw[Ta.Zgv hst];exact hN.out
     have HA2:Hid (Ta.Zbm t r c (k+1)=true):=Ta.Ze6 hA.out (Ta.Zlj hst);clear hst hkr
     go_wp2_with fail
     go_roundw
     case rel=>exact⟨k+1,by omega,by go_num,HN2,HA2,hB⟩
     case measure=>simp[intOf];omega
    ·have hd:((k:Int) != (r:Int))=true:=by rw[bne_iff_ne];omega
     obtain⟨st,hst⟩:∃st,decide (Ve.at_ (Ta.row t k) c=(0,1))=st:=⟨_,rfl⟩;obtain⟨e1,e2⟩:=Zrs (c:=c) hkr st hst;have E1:=zH e1;have E2:=zH e2;have hrk:rr (Ta.Zbc t r c k) k=Ta.row t k:=Zww hlt hkr (Nat.le_refl _);have hrm:rr (Ta.Zbc t r c k) r=Ta.main t r c:=Zmj hr;have HS:=zH (Zju lo q (.slice a t.rows.length c1) vB t.cols (Ta.Zbc t r c k) t.basis k r c hkr (by rw[Ta.Zbh];exact hlt) (by rw[Ta.Zbh];exact hr) (by rw[hrk];exact Hlen.out k hlt) (by rw[hrk];exact HRow.out k hlt) (by rw[hrm];exact Hml.out) st (by rw[hrk];exact hst) wr (Nat.le_trans hlo hwlo) hN.out);rw[hrk,hrm,<-e2,<-e1] at HS;clear e1 e2 E1 hrk hrm hst E2;generalize hnk:Ta.nextK t r c k=nk at *;have Hnk:=zH hnk;clear hnk hkr
     go_wp2_with fail
     refine HS.out.mono ?_;rintro e w2 ⟨rfl,hb2,hN2⟩;have HB2:=zH (hB.out.trans hb2);have HN2:=zH hN2;clear hb2 hN2 HS;cases nk with
     | false=>
      have Hr:Hid (false=K):=by show _=_;rw[<-HK2.out,Ta.Zi3 hlt Hnk.out]
      go_wp2_with fail
      go_ret;exact⟨Zae Hr.out,HB2.out,fun h=>by rw[<-Hr.out] at h;cases h⟩
     | true=>
      have HN3:Hid (Zbi lo w2 q (.slice a t.rows.length c1) vB t.cols (Ta.Zbc t r c (k+1)) t.basis):=HN2.out rfl;have HA2:Hid (Ta.Zbm t r c (k+1)=true):=Ta.Ze6 hA.out Hnk.out;clear HN2
      go_wp2_with fail
      go_roundw
      case rel=>exact⟨k+1,by omega,by go_num,HN3,HA2,HB2⟩
      case measure=>simp[intOf];omega
   ·have he:k=t.rows.length:=by omega
    have HN2:Hid (Zbi lo wr q (.slice a t.rows.length c1) vB t.cols (Ta.Zbc t r c t.rows.length) t.basis):=by have h:=hN.out;rw[he] at h;exact h
    have Hr:Hid (true=K):=by show _=_;have h:=hA.out;rw[he] at h;rw[<-HK2.out,h]
    have hrB:r<t.basis.length:=by have:=G2.out;omega
    obtain⟨ab,cb,rfl⟩:=Zam HN2.out.bas;obtain⟨gb,rfl,hgb1,hgb2,⟨v0,s0⟩,f0⟩:=Zik HN2.out.bas hrB;obtain⟨x0,x1,x2,_⟩:=HN2.out.box.cells;have n1:(r:Int)<(t.basis.length:Int):=by omega
    have hgty:TyAt wr gb 3:=Zav HN2.out.bas rfl;have hgq:gb≠q:=fun e=>(TyAt.ne hgty (e▸Zax HN2.out.box) (by decide)) rfl
    have HF:Hid (Zbi lo (wr.setCell ⟨gb,r,none⟩ (.int .i64 c)) q (.slice a t.rows.length c1) (.slice (some ⟨gb,0,none⟩) t.basis.length cb) t.cols (Ta.Zbc t r c t.rows.length) (t.basis.set r c)):=
     ⟨HN2.out.box.other (p:=⟨gb,r,none⟩) hgq _,HN2.out.rows.set hgty (by decide) (by decide),Zj7 HN2.out.bas rfl⟩
    have HB2:Hid (Below lo w (wr.setCell ⟨gb,r,none⟩ (.int .i64 c))):=hB.out.setCell (p:=⟨gb,r,none⟩) hgb1 _;clear he hgty hN hA hB HN2
    go_wp2_with fail
    go_ret;exact⟨Zae Hr.out,HB2.out,fun _=>HF.out⟩
theorem Ta.Zwj (t:T) (r c:Int):Ta.pivK t r c=(Ta.good t && (decide (0≤r/\r≤(t.rows.length:Int)-1) && (decide (0≤c/\c≤t.cols+t.rows.length-1) && (Ta.Zgq t r.toNat c.toNat && Ta.Zbm t r.toNat c.toNat t.rows.length)))):=by
 unfold Ta.pivK Ta.may
 rcases hg:Ta.good t with _|_
 ·rfl
 ·rcases hr:decide (0≤r/\r≤(t.rows.length:Int) - 1) with _|_
  ·rfl
  ·rcases hc:decide (0≤c/\c≤t.cols+t.rows.length - 1) with _|_
   ·rfl
   ·by_cases hz:(Ve.at_ (Ta.row t r.toNat) c.toNat).1=0
    ·have hr':=of_decide_eq_true hr
     obtain⟨_,_,_,g3⟩:=Ta.Za2 hg;have h3:=(g3 r.toNat (by omega)).1;have hm:Ta.Zgq t r.toNat c.toNat=false:=Ta.Zz7 (k:=0) (by omega) (Ta.Zu4 hz);rw[hm];simp[hz]
    ·simp[hz]
theorem Zbi.tab {lo q n1 n2 k1 k2:Nat} {w:World} {a b:Option Addr} {C:Int} {L:List (List R)} {Bs:List Int} (h:Zbi lo w q (.slice a n1 k1) (.slice b n2 k2) C L Bs):Zcd w.heap.size w q a b k1 k2 ⟨L,Bs,C⟩:=by
 obtain⟨a',c',e,hr,_⟩:=h.rows.rm.reads;injection e with e1 e2 e3
 subst e1 e2 e3;obtain⟨b',d',e,hb,pb,_⟩:=Zaw h.bas;injection e with e1 e2 e3
 subst e1 e2 e3;exact⟨h.box,hr,Zat.Zcb hb fun p hp=>(pb p hp).2⟩
def Zkg (t:T) (k:Bool) (w:World) (e:Ending) (w':World):Prop:=
 (∃vR vB:Value,e=.returned (.tuple #[.agg #[vR,vB,.int .i64 t.cols],.bool k])/\Zbn w.heap.size w' vR t.rows/\Zad w.heap.size w' vB t.basis)/\Below w.heap.size w w'
theorem Zpp {w w2:World} {vR vB z0 z1 z2:Value} {t:T} {k:Bool} {cols:Int} {L:List (List R)} {Bs:List Int} (h1:t.rows=L) (h2:t.basis=Bs) (h3:t.cols=cols) (hR:Zbn w.heap.size w2 vR L) (hI:Zad w.heap.size w2 vB Bs) (hB:Below w.heap.size w w2) (hx:Tri w2 (w.heap.size+1) z0 z1 z2 39) (x y z:Value) :
  Zkg t k w (.returned (.tuple #[.agg #[vR,vB,.int .i64 cols],.bool k])) (((w2.setCell ⟨w.heap.size+1,0,none⟩ x).setCell ⟨w.heap.size+1,1,none⟩ y).setCell ⟨w.heap.size+1,2,none⟩ z):=by
 subst h1 h2 h3;refine⟨⟨_,_,rfl,?_,Zey hI (Zdf hI hx (by decide))⟩,Zd7 hB (Nat.le_succ _) _ _ _⟩;have k1:=hR.set (q:=w.heap.size+1) (i:=0) (u:=x) (Zax hx) (by decide) (by decide);have k2:=k1.set (q:=w.heap.size+1) (i:=1) (u:=y) (Zax (hx.set0 _)) (by decide) (by decide);exact k2.set (q:=w.heap.size+1) (i:=2) (u:=z) (Zax ((hx.set0 _).set1 _)) (by decide) (by decide)
theorem Zi5 (B:Nat) (a b:Option Addr) (c1 c2:Nat) (t:T) (r c:Int) (hr0:(Lit.int .i64 r).wf=true) (hc0:(Lit.int .i64 c).wf=true) (hn:Zca t) (w:World) (hBw:B≤w.heap.size) (hz:Zc4 B w a b t) :
  Calls Tryz.prog 211 #[tabV a b c1 c2 t,.int .i64 r,.int .i64 c] w (Zkg (Ta.piv t r c) (Ta.pivK t r c) w):=by
 have hb:=((Below.refl w.heap.size w).alloc (Nat.le_refl _) (.cells #[.slice a t.rows.length c1,.slice b t.basis.length c2,.int .i64 t.cols] 39));have hb2:=hb.alloc hb.size (.cells #[.slice none 0 0,.slice none 0 0,.int .i64 0] 39);have hT:=(Tri.new w (.slice a t.rows.length c1) (.slice b t.basis.length c2) (.int .i64 t.cols) 39).more (.cells #[.slice none 0 0,.slice none 0 0,.int .i64 0] 39);have HT:Hid (Zcd w.heap.size ((w.alloc (.cells #[.slice a t.rows.length c1,.slice b t.basis.length c2,.int .i64 t.cols] 39)).alloc (.cells #[.slice none 0 0,.slice none 0 0,.int .i64 0] 39)) w.heap.size a b c1 c2 t):=⟨hT,(hz.mono hBw).below hb2⟩;have hr:=Tri.new (w.alloc (.cells #[.slice a t.rows.length c1,.slice b t.basis.length c2,.int .i64 t.cols] 39)) (.slice none 0 0) (.slice none 0 0) (.int .i64 0) 39;rw[Zar] at hr;have hs2:=Zjv w (.cells #[.slice a t.rows.length c1,.slice b t.basis.length c2,.int .i64 t.cols] 39) (.cells #[.slice none 0 0,.slice none 0 0,.int .i64 0] 39);have HR:=zH hr;have Hb:=zH hb2;have HS:=zH hs2;have HN:=zH hn;rw[show tabV a b c1 c2 t=.agg #[.slice a t.rows.length c1,.slice b t.basis.length c2,.int .i64 t.cols] from rfl];obtain⟨PV,hPV⟩:∃PV,Ta.piv t r c=PV:=⟨_,rfl⟩;obtain⟨KK,hKK⟩:∃KK,Ta.pivK t r c=KK:=⟨_,rfl⟩;have HPV:=zH hPV;have HKK:=zH hKK;have HCode:=zH (Ta.Zwj t r c);rw[hPV,hKK];obtain⟨hrA,hrB⟩:=Zjg hr0;obtain⟨hcA,hcB⟩:=Zjg hc0;have hn1:=hn.rows;clear hb hb2 hT hr hs2 hz hn hPV hKK hr0 hc0
 go_enter Tryz.func211,Tryz.ntmps211
 go_upto_region 1 with fail
 generalize hW:(w.alloc (.cells #[.slice a t.rows.length c1,.slice b t.basis.length c2,.int .i64 t.cols] 39)).alloc (.cells #[.slice none 0 0,.slice none 0 0,.int .i64 0] 39)=W at *;clear hW;have hWw:w.heap.size≤W.heap.size:=Hb.out.size
 go_wp2_with fail
 refine (Zla w.heap.size w.heap.size a b c1 c2 t HN.out W hWw HT.out).mono ?_;rintro e w1 ⟨⟨vR,vB,rfl,hvR,hvB⟩,hb1⟩;obtain⟨an,cn1,rfl⟩:=hvR.shape;obtain⟨bn,cn2,rfl⟩:=Zam hvB;have hal:=(Below.refl w1.heap.size w1).alloc (Nat.le_refl _) (.cells #[.slice an t.rows.length cn1,.slice bn t.basis.length cn2,.int .i64 t.cols] 39);have HNx:Hid (Zbi W.heap.size (w1.alloc (.cells #[.slice an t.rows.length cn1,.slice bn t.basis.length cn2,.int .i64 t.cols] 39)) w1.heap.size (.slice an t.rows.length cn1) (.slice bn t.basis.length cn2) t.cols t.rows t.basis):=⟨Tri.new w1 _ _ _ _,hvR.below hal,hvB.below hal⟩;have HT2:=zH ((HT.out.below hWw hb1).below (Nat.le_trans hWw hb1.size) hal);have HR2:=zH ((HR.out.below hb1).below hal);have HB2:=zH ((Hb.out.trans (hb1.mono hWw)).trans (hal.mono (Nat.le_trans hWw hb1.size)));have hsz2:W.heap.size≤(w1.alloc (.cells #[.slice an t.rows.length cn1,.slice bn t.basis.length cn2,.int .i64 t.cols] 39)).heap.size:=by rw[Zar];have:=hb1.size;omega
 have HS2:=zH hsz2;clear hvR hvB hb1 hal HT HR Hb hsz2
 go_upto_region 2 with fail
 generalize hW2:w1.alloc (.cells #[.slice an t.rows.length cn1,.slice bn t.basis.length cn2,.int .i64 t.cols] 39)=W2 at *;clear hW2;have HNT:=zH HNx.out.tab;obtain⟨g,hg⟩:∃g,Ta.good t=g:=⟨_,rfl⟩;have Hg:=zH hg;have HG:=zH (Zfb W2.heap.size w1.heap.size an bn cn1 cn2 t HN.out g hg W2 HNT.out);clear hg
 go_cut [27] (fun v wx=>v=.bool (!KK)/\Hid (Zcd w.heap.size wx w.heap.size a b c1 c2 t)/\Hid (Tri wx (w.heap.size+1) (.slice none 0 0) (.slice none 0 0) (.int .i64 0) 39)/\Hid (Below w.heap.size w wx)/\Hid (W.heap.size≤wx.heap.size)/\Hid (KK=true->Zbi W.heap.size wx w1.heap.size (.slice an t.rows.length cn1) (.slice bn t.basis.length cn2) PV.cols PV.rows PV.basis))
 case first=>
  go_wp2_with fail
  refine HG.out.mono ?_;rintro e w3 ⟨rfl,d,rfl⟩;have HTd:=zH (HT2.out.drewN d);have HRd:=zH (HR2.out.below (below_drewN (Below.refl _ _) d));have HBd:=zH (below_drewN HB2.out d);cases g with
  | false=>
   have hK:KK=false:=by rw[<-HKK.out,HCode.out,Hg.out];rfl
   have Hr:Hid (true=(!KK)):=by show _=_;rw[hK];rfl
   have HK0:=zH (show KK=true->Zbi W.heap.size (W2.drewN d) w1.heap.size (.slice an t.rows.length cn1) (.slice bn t.basis.length cn2) PV.cols PV.rows PV.basis from fun h=>by rw[hK] at h;cases h);clear hK
   go_wp2_with fail
   go_meet
   exact⟨(congrArg Value.bool Hr.out),HTd,HRd,HBd,HS2,HK0⟩
  | true=>
   obtain⟨g0,g1,g2,g3⟩:=Ta.Za2 Hg.out;clear g2 g3;obtain⟨p,hp⟩:∃p,decide (0≤r/\r≤(t.rows.length:Int)-1)=p:=⟨_,rfl⟩;have Hp:=zH hp;have HHr:=zH (Zrd W2.heap.size w1.heap.size an bn cn1 cn2 t r p hp (W2.drewN d) (HNT.out.drewN d));clear hp
   go_wp2_with fail
   refine HHr.out.mono ?_;rintro e w3 ⟨rfl,rfl⟩;cases p with
   | false=>
    have hK:KK=false:=by rw[<-HKK.out,HCode.out,Hg.out,Hp.out];rfl
    have Hr:Hid (true=(!KK)):=by show _=_;rw[hK];rfl
    have HK0:=zH (show KK=true->Zbi W.heap.size (W2.drewN d) w1.heap.size (.slice an t.rows.length cn1) (.slice bn t.basis.length cn2) PV.cols PV.rows PV.basis from fun h=>by rw[hK] at h;cases h);clear hK
    go_wp2_with fail
    go_meet
    exact⟨(congrArg Value.bool Hr.out),HTd,HRd,HBd,HS2,HK0⟩
   | true=>
    obtain⟨s,hs⟩:∃s,decide (0≤c/\c≤t.cols+(t.rows.length:Int)-1)=s:=⟨_,rfl⟩;have Hs:=zH hs;have HHc:=zH (Zd5 W2.heap.size w1.heap.size an bn cn1 cn2 t g0 g1 hn1 c s hs (W2.drewN d) (HNT.out.drewN d));clear hs
    go_wp2_with fail
    refine HHc.out.mono ?_;rintro e w3 ⟨rfl,d2,rfl⟩;have HTe:=zH (HTd.out.drewN d2);have HRe:=zH (HRd.out.below (below_drewN (Below.refl _ _) d2));have HBe:=zH (below_drewN HBd.out d2);rw[show (W2.drewN d).drewN d2=W2.drewN (d+d2) by simp] at HTe HRe HBe ⊢;cases s with
    | false=>
     have hK:KK=false:=by rw[<-HKK.out,HCode.out,Hg.out,Hp.out,Hs.out];rfl
     have Hr:Hid (true=(!KK)):=by show _=_;rw[hK];rfl
     have HK0:=zH (show KK=true->Zbi W.heap.size (W2.drewN (d+d2)) w1.heap.size (.slice an t.rows.length cn1) (.slice bn t.basis.length cn2) PV.cols PV.rows PV.basis from fun h=>by rw[hK] at h;cases h);clear hK
     go_wp2_with fail
     go_meet
     exact⟨(congrArg Value.bool Hr.out),HTe,HRe,HBe,HS2,HK0⟩
    | true=>
     have hrr:=of_decide_eq_true Hp.out;have hcc:=of_decide_eq_true Hs.out;obtain⟨rn,rfl⟩:∃n:Nat,r=n:=⟨r.toNat,by omega⟩;obtain⟨cc,rfl⟩:∃n:Nat,c=n:=⟨c.toNat,by omega⟩;have HNe:=zH (HNx.out.below (below_drewN (Below.refl _ _) (d+d2)));have HPi:=zH (Zt2 W.heap.size w1.heap.size (.slice an t.rows.length cn1) (.slice bn t.basis.length cn2) t rn cc Hg.out HN.out (by omega) (by omega) (W2.drewN (d+d2)) HS2.out HNe.out);have hK:(Ta.Zgq t rn cc && Ta.Zbm t rn cc t.rows.length)=KK:=by
      rw[<-HKK.out,HCode.out,Hg.out,Hp.out,Hs.out];simp
     rw[hK] at HPi;have HPV2:Hid (KK=true->PV=⟨Ta.Zbc t rn cc t.rows.length,t.basis.set rn cc,t.cols⟩):=fun h=>by
      rw[<-HPV.out,Ta.Zwl (by rw[HKK.out,h])];simp
     clear hK hrr hcc
     go_wp2_with fail
     refine HPi.out.mono ?_;rintro e w5 ⟨rfl,hb5,hn5⟩;have HT5:Hid (Zcd w.heap.size w5 w.heap.size a b c1 c2 t):=⟨(hb5.block w.heap.size (by have:=HS.out;omega)).trans HTe.out.box,HTe.out.tab.below (hb5.mono hWw)⟩;have HR5:Hid (Tri w5 (w.heap.size+1) (.slice none 0 0) (.slice none 0 0) (.int .i64 0) 39):=(hb5.block (w.heap.size+1) (by have:=HS.out;omega)).trans HRe.out;have HB5:=zH (HBe.out.trans (hb5.mono hWw));have HS5:Hid (W.heap.size≤w5.heap.size):=Nat.le_trans HS2.out hb5.size;have HK5:=zH (show KK=true->Zbi W.heap.size w5 w1.heap.size (.slice an t.rows.length cn1) (.slice bn t.basis.length cn2) PV.cols PV.rows PV.basis from fun h=>by rw[HPV2.out h];exact hn5 h);clear hb5 hn5 HPi
     go_wp2_with fail
     go_meet
     exact⟨rfl,HT5,HR5,HB5,HS5,HK5⟩
 case rest=>
  obtain⟨w6,rfl⟩:∃q:World,q=wc:=⟨_,rfl⟩;obtain⟨rfl,kT,kR,kB,kS,kN⟩:=hcut;clear HT2 HR2 HB2 HS2 HNx HNT HG;have hkb:=kB.out.size;cases KK with
  | false=>
   have HP:Hid (PV=t):=by show _=_;rw[<-HPV.out,Ta.Z0i HKK.out]
   have HCp:=zH (Zla w.heap.size w.heap.size a b c1 c2 t HN.out w6 hkb kT.out);clear kN
   go_wp2_with fail
   refine HCp.out.mono ?_;rintro e w7 ⟨⟨vR,vB,rfl,hvR,hvB⟩,hb7⟩;obtain⟨a7,c7,rfl⟩:=hvR.shape;obtain⟨b7,d7,rfl⟩:=Zam hvB;have HR7:=zH (kR.out.below hb7);have HB7:=zH (kB.out.trans (hb7.mono hkb));have HvR:=zH (hvR.raise hkb);have HvB:=zH (hvB.Zf9 hkb);obtain⟨z0,z1,z2,f0,f1,f2⟩:=HR7.out.cells;clear hvR hvB hb7 HCp
   go_wp2_with fail
   have hF:=HR7.out;refine bodyPost_ret (v:=.tuple #[.agg #[.slice a7 t.rows.length c7,.slice b7 t.basis.length d7,.int .i64 t.cols],.bool false]) (by
    obtain⟨z0,z1,z2,_⟩:=(Zck hF (.slice a7 t.rows.length c7) (.slice b7 t.basis.length d7) (.int .i64 t.cols)).cells;revert z0 z1 z2;generalize (World.setCell _ (⟨w.heap.size+1,2,none⟩:Addr) (.int .i64 t.cols))=W4;intro z0 z1 z2;simp[results,Tryz.results211,go_sem,z0,z1,z2]) rfl (Zpp (by rw[HP.out]) (by rw[HP.out]) (by rw[HP.out]) HvR.out HvB.out HB7.out hF _ _ _)
  | true=>
   have HN6:Hid (Zbi W.heap.size w6 w1.heap.size (.slice an t.rows.length cn1) (.slice bn t.basis.length cn2) PV.cols PV.rows PV.basis):=kN.out rfl;obtain⟨y0,y1,y2,_⟩:=HN6.out.box.cells;obtain⟨z0,z1,z2,f0,f1,f2⟩:=kR.out.cells;clear kN
   go_wp2_with fail
   have hF:=kR.out;refine bodyPost_ret (v:=.tuple #[.agg #[.slice an t.rows.length cn1,.slice bn t.basis.length cn2,.int .i64 PV.cols],.bool true]) (by
    obtain⟨z0,z1,z2,_⟩:=(Zck hF (.slice an t.rows.length cn1) (.slice bn t.basis.length cn2) (.int .i64 PV.cols)).cells;revert z0 z1 z2;generalize (World.setCell _ (⟨w.heap.size+1,2,none⟩:Addr) (.int .i64 PV.cols))=W4;intro z0 z1 z2;simp[results,Tryz.results211,go_sem,z0,z1,z2]) rfl (Zpp rfl rfl rfl (HN6.out.rows.raise hWw) (HN6.out.bas.Zf9 hWw) kB.out hF _ _ _)
end Go.Proofs.YtlohljkfphljgaaGreat
