/- The parts LkI, VeI, LkRow. -/
import Derived.Test.YtpjnjidbdpfdcaaGreatNumI
import Derived.Test.YtpjnjidbdpfdcaaGreatLkBase
import Derived.Test.YtpjnjidbdpfdcaaGreatGVa
import Derived.Test.YtpjnjidbdpfdcaaGreatGVb
import Derived.Test.YtpjnjidbdpfdcaaGreatHIntsLaw
namespace Go.Proofs.YtpjnjidbdpfdcaaGreat
open Go.RowKit
theorem Zab.same {B:Nat} {w w':World} {v:Value} {xs:List Int} (h:Zab B w v xs) (hs:∀g,v.ownBlock=some g->w'.heap[g]? = w.heap[g]?):Zab B w' v xs:=by
 obtain⟨h1,h2|⟨g,cap,cur,rfl,hg,hh,hr⟩⟩:=h
 ·exact⟨h1,.inl h2⟩
 ·exact⟨h1,.inr ⟨g,cap,cur,rfl,hg,(hs g rfl).trans hh,hr⟩⟩
theorem Zab.turned {lo hi B:Nat} {w w':World} {v:Value} {xs:List Int} (h:Zab B w v xs) (ht:Turned lo hi w w') (hB:∀g,v.ownBlock=some g->g<lo\/hi≤g):Zab B w' v xs:=
 h.same fun g hg=>ht.block g (World.ownsRow.lt h g hg).2 (hB g hg)
def Zbm (lo hi:Nat) (w:World) (u:Value) (xs:List Int):Prop:=∃(a:Option Addr) (c:Nat),u=.slice a xs.length c/\(xs.length≠0->Zab lo w u xs/\∀g,u.ownBlock=some g->g<hi)
def Blk (u:Value) (n b:Nat):Prop:=n≠0/\u.ownBlock=some b
theorem Zbm.Zh3 {lo hi:Nat} {w:World} {u:Value} {xs:List Int} (h:Zab lo w u xs) (hb:∀g,u.ownBlock=some g->g<hi):Zbm lo hi w u xs:=by
 obtain⟨a,c,rfl,_⟩:=Zbb h;exact⟨a,c,rfl,fun _=>⟨h,hb⟩⟩
theorem Zbm.blk {lo hi:Nat} {w:World} {u:Value} {xs:List Int} (h:Zbm lo hi w u xs) {b:Nat} (hb:Blk u xs.length b):lo≤b/\b<hi/\b<w.heap.size:=by
 obtain⟨a,c,rfl,h2⟩:=h;obtain⟨h3,h4⟩:=h2 hb.1;have:=World.ownsRow.lt h3 b hb.2;exact⟨this.1,h4 b hb.2,this.2⟩
theorem Zbm.same {lo hi:Nat} {w w':World} {u:Value} {xs:List Int} (h:Zbm lo hi w u xs) (hs:∀b,Blk u xs.length b->w'.heap[b]? = w.heap[b]?):Zbm lo hi w' u xs:=by
 obtain⟨a,c,rfl,h2⟩:=h;exact⟨a,c,rfl,fun hn=>⟨(h2 hn).1.same fun g hg=>hs g ⟨hn,hg⟩,(h2 hn).2⟩⟩
theorem Zbm.below {lo hi:Nat} {w w':World} {u:Value} {xs:List Int} (h:Zbm lo hi w u xs) (hb:Below w.heap.size w w'):Zbm lo hi w' u xs:=h.same fun b h1=>hb.block b (h.blk h1).2.2
theorem Zbm.reads {lo hi:Nat} {w:World} {u:Value} {xs:List Int} (h:Zbm lo hi w u xs):∃(a:Option Addr) (c:Nat),u=.slice a xs.length c/\Zal hi w a xs:=by
 obtain⟨a,c,rfl,h2⟩:=h;refine⟨a,c,rfl,fun j hj=>?_⟩;obtain⟨h3,h4⟩:=h2 (by omega);obtain⟨a',c',e,hr,hp,_⟩:=Zbb h3;obtain⟨rfl,rfl⟩:a=a'/\c=c':=by injection e with e1 _ e3;exact⟨e1,e3⟩
 exact Zal.Zdl (B:=hi) hr (fun p hp=>h4 p.block (by rw[hp];rfl)) j hj
theorem Zbm.turned {lo hi l2 h2:Nat} {w w':World} {u:Value} {xs:List Int} (h:Zbm lo hi w u xs) (ht:Turned l2 h2 w w') (ha:hi≤l2\/h2≤lo):Zbm lo hi w' u xs:=h.same fun b hb=>by
 have:=h.blk hb;exact ht.block b this.2.2 (by omega)
theorem Zab.Zou {B B':Nat} {w:World} {v:Value} {xs:List Int} (h:Zab B w v xs) (hB:B'≤B):Zab B' w v xs:=by
 obtain⟨h1,h2|⟨g,cap,cur,e,hg,rest⟩⟩:=h
 ·exact⟨h1,.inl h2⟩
 ·exact⟨h1,.inr ⟨g,cap,cur,e,by omega,rest⟩⟩
theorem Zbm.wider {lo hi lo' hi':Nat} {w:World} {u:Value} {xs:List Int} (h:Zbm lo hi w u xs) (h1:lo'≤lo) (h2:hi≤hi'):Zbm lo' hi' w u xs:=by
 obtain⟨a,c,rfl,k⟩:=h;exact⟨a,c,rfl,fun hn=>⟨(k hn).1.Zou h1,fun g hg=>Nat.lt_of_lt_of_le ((k hn).2 g hg) h2⟩⟩
def SzR (n:Nat) (left:Int) (w:World) (e:Ending) (w':World):Prop:=
 ∃r:Int,e=.returned (.int .i64 r)/\-1≤r/\r≤1048576/\(0≤r->(n:Int)+r=left)/\w=w'
theorem szI (a:Option Addr) (len cap:Nat) (left:Int) (hm:len≤9223372036854775807) (hl0:0≤left) (hl1:left≤1048576) (w:World) :
  Calls Tryz.prog 12 #[.slice a len cap,.int .i64 left] w (SzR len left w):=by
 rcases Int.lt_or_le left len with hl|hl
 ·have hb:decide (left-(len:Int)<0)=true:=by rw[decide_eq_true_iff];omega
  go_enter Tryz.func12,Tryz.ntmps12
  go_wp2_with fail
  go_ret;exact⟨-1,rfl,by omega,by omega,fun h=>by omega,rfl⟩
 ·have hb:decide (left-(len:Int)<0)=false:=by rw[decide_eq_false_iff_not];omega
  go_enter Tryz.func12,Tryz.ntmps12
  go_wp2_with fail
  go_ret;exact⟨left-len,rfl,by omega,by omega,fun h=>by omega,rfl⟩
open Ve (R)
theorem Zad.same {B:Nat} {w w':World} {v:Value} {xs:List R} (h:Zad B w v xs) (hs:∀g,v.ownBlock=some g->w'.heap[g]? = w.heap[g]?):Zad B w' v xs:=by
 obtain⟨h1,h2|⟨g,cap,cur,rfl,hg,hh,hr⟩⟩:=h
 ·exact⟨h1,.inl h2⟩
 ·exact⟨h1,.inr ⟨g,cap,cur,rfl,hg,(hs g rfl).trans hh,hr⟩⟩
theorem Zad.turned {lo hi B:Nat} {w w':World} {v:Value} {xs:List R} (h:Zad B w v xs) (ht:Turned lo hi w w') (hB:∀g,v.ownBlock=some g->g<lo\/hi≤g):Zad B w' v xs:=
 h.same fun g hg=>ht.block g (World.ownsRow.lt h g hg).2 (hB g hg)
theorem Zad.raise {B B':Nat} {w:World} {v:Value} {xs:List R} (h:Zad B w v xs) (hB:B'≤B):Zad B' w v xs:=by
 obtain⟨h1,h2|⟨g,cap,cur,e,hg,rest⟩⟩:=h
 ·exact⟨h1,.inl h2⟩
 ·exact⟨h1,.inr ⟨g,cap,cur,e,by omega,rest⟩⟩
/-! ### A row: of the call's own, in a block from lo to hi - 1, or empty -/
def Zcg (lo hi:Nat) (w:World) (u:Value) (xs:List R):Prop:=∃(a:Option Addr) (c:Nat),u=.slice a xs.length c/\(xs.length≠0->Zad lo w u xs/\∀g,u.ownBlock=some g->g<hi)
theorem Zcg.Zh3 {lo hi:Nat} {w:World} {u:Value} {xs:List R} (h:Zad lo w u xs) (hb:∀g,u.ownBlock=some g->g<hi):Zcg lo hi w u xs:=by
 obtain⟨a,c,rfl,_⟩:=Za1 h;exact⟨a,c,rfl,fun _=>⟨h,hb⟩⟩
theorem Zcg.blk {lo hi:Nat} {w:World} {u:Value} {xs:List R} (h:Zcg lo hi w u xs) {b:Nat} (hb:Blk u xs.length b):lo≤b/\b<hi/\b<w.heap.size:=by
 obtain⟨a,c,rfl,h2⟩:=h;obtain⟨h3,h4⟩:=h2 hb.1;have:=World.ownsRow.lt h3 b hb.2;exact⟨this.1,h4 b hb.2,this.2⟩
theorem Zcg.same {lo hi:Nat} {w w':World} {u:Value} {xs:List R} (h:Zcg lo hi w u xs) (hs:∀b,Blk u xs.length b->w'.heap[b]? = w.heap[b]?):Zcg lo hi w' u xs:=by
 obtain⟨a,c,rfl,h2⟩:=h;exact⟨a,c,rfl,fun hn=>⟨(h2 hn).1.same fun g hg=>hs g ⟨hn,hg⟩,(h2 hn).2⟩⟩
theorem Zcg.below {lo hi:Nat} {w w':World} {u:Value} {xs:List R} (h:Zcg lo hi w u xs) (hb:Below w.heap.size w w'):Zcg lo hi w' u xs:=h.same fun b h1=>hb.block b (h.blk h1).2.2
theorem Zcg.reads {lo hi:Nat} {w:World} {u:Value} {xs:List R} (h:Zcg lo hi w u xs):∃(a:Option Addr) (c:Nat),u=.slice a xs.length c/\Zah hi w a xs:=by
 obtain⟨a,c,rfl,h2⟩:=h;refine⟨a,c,rfl,fun j x hx=>?_⟩;have hn:xs.length≠0:=by have:=(List.getElem?_eq_some_iff.1 hx).1;omega
 obtain⟨h3,h4⟩:=h2 hn;obtain⟨a',c',e,hr,_⟩:=Za1 h3;obtain⟨rfl,rfl⟩:a=a'/\c=c':=by injection e with e1 _ e3;exact⟨e1,e3⟩
 exact (hr.narrow fun p hp=>h4 p.block (by rw[hp];rfl)) j x hx
theorem Zcg.wider {lo hi lo' hi':Nat} {w:World} {u:Value} {xs:List R} (h:Zcg lo hi w u xs) (h1:lo'≤lo) (h2:hi≤hi'):Zcg lo' hi' w u xs:=by
 obtain⟨a,c,rfl,k⟩:=h;exact⟨a,c,rfl,fun hn=>⟨(k hn).1.raise h1,fun g hg=>Nat.lt_of_lt_of_le ((k hn).2 g hg) h2⟩⟩
theorem Zcg.turned {lo hi l2 h2:Nat} {w w':World} {u:Value} {xs:List R} (h:Zcg lo hi w u xs) (ht:Turned l2 h2 w w') (ha:hi≤l2\/h2≤lo):Zcg lo hi w' u xs:=h.same fun b hb=>by
 have:=h.blk hb;exact ht.block b this.2.2 (by omega)
theorem szR (a:Option Addr) (len cap:Nat) (left:Int) (hm:len≤9223372036854775807) (hl0:0≤left) (hl1:left≤1048576) (w:World) :
  Calls Tryz.prog 13 #[.slice a len cap,.int .i64 left] w (SzR len left w):=by
 rcases Int.lt_or_le left len with hl|hl
 ·refine (Zrq a len cap left hl hm hl0 hl1 w).mono ?_
  rintro e w1 ⟨rfl,rfl⟩;exact⟨-1,rfl,by omega,by omega,fun h=>by omega,rfl⟩
 ·refine (Zrr a len cap left hl hl1 w).mono ?_
  rintro e w1 ⟨rfl,rfl⟩;exact⟨left-len,rfl,by omega,by omega,fun h=>by omega,rfl⟩
end Go.Proofs.YtpjnjidbdpfdcaaGreat
