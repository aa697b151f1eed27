/- The parts WiM, Base, WiA, Since, Pairs, Ints. -/
import Derived.Laws.BitsLemmas
import Derived.Test.YtpjnjidbdpfdcaaGreatChecked
import Derived.Handy
import Derived.Below
import Derived.LoopTactic
import Derived.Outline
import Derived.Lib.Hide
import Derived.WalkSpells
import Derived.WalkLawsBesides
import Derived.IntWalk
import Derived.Laws.StructEq
import Derived.Deep.QuietTactic
import Derived.OrdersHeld
import Derived.BigQuiet
import Derived.BigRegion
import Derived.RegionTactic
import Derived.Deep.RegionWith
import Derived.Deep.DeepCutAuto
import Derived.Deep.RegionHeld
import Derived.Deep.RegionHeld3
import Derived.Laws.AppendOwn
import Derived.Laws.OwnMore
namespace Go.Proofs.YtpjnjidbdpfdcaaGreat.Gm
def within (m:Int) (l:List Int):Bool:=l.all fun x=>decide (-m≤x/\x≤m)
theorem Zih {m:Int} {l:List Int} (h:within m l=true) {k:Nat} (hk:k<l.length):-m≤l.getD k 0/\l.getD k 0≤m:=by
 unfold within at h;rw[List.all_eq_true] at h;have:=of_decide_eq_true (h l[k] (List.getElem_mem hk));rw[List.getD_eq_getElem?_getD,List.getElem?_eq_getElem hk];exact this
theorem Zgq {m:Int} {l:List Int} (h:∀k,k<l.length->decide (-m≤l.getD k 0/\l.getD k 0≤m)=true):within m l=true:=by
 unfold within;rw[List.all_eq_true];intro x hx;obtain⟨k,hk,rfl⟩:=List.getElem_of_mem hx;have:=h k hk;rw[List.getD_eq_getElem?_getD,List.getElem?_eq_getElem hk] at this;exact this
theorem Zii {m:Int} {l:List Int} {k:Nat} (hk:k<l.length) (h:decide (-m≤l.getD k 0/\l.getD k 0≤m)=false):within m l=false:=by
 rw[Bool.eq_false_iff];intro h2;exact of_decide_eq_false h (Zih h2 hk)
end Go.Proofs.YtpjnjidbdpfdcaaGreat.Gm
namespace Go.Proofs.YtpjnjidbdpfdcaaGreat
open Go.RowKit
theorem zH {p:Prop} (h:p):Hid p:=h
theorem Zcd {k:IntKind} {a b:Int} (h:a=b):Ending.returned (.int k a)=.returned (.int k b):=by rw[h]
theorem Zac {a b:Bool} (h:a=b):Ending.returned (.bool a)=.returned (.bool b):=by rw[h]
theorem Zen {m n:Nat} (h:m≠n):((m:Int) == (n:Int))=false/\((m:Int) != (n:Int))=true:=by
 have h1:((m:Int) == (n:Int))=false:=by rw[beq_eq_false_iff_ne];omega
 exact⟨h1,by rw[bne,h1];rfl⟩
theorem Zob (b o i:Nat):(⟨b,o,none⟩:Addr).add i=⟨b,o+i,none⟩:=by
 unfold Addr.add
 split
 ·rename_i h
  have h4:i=0:=by simpa using h
  subst h4;rfl
 ·rfl
theorem Zqd {W w1:World} (hb:Below W.heap.size W w1):(∀b o,b<W.heap.size->w1.cell? ⟨b,o,none⟩=W.cell? ⟨b,o,none⟩)/\(∀b o,b<W.heap.size->w1.frozen? ⟨b,o,none⟩=W.frozen? ⟨b,o,none⟩):=
 ⟨fun b o h=>hb.cell (p:=⟨b,o,none⟩) h,fun b o h=>hb.frozen (p:=⟨b,o,none⟩) h⟩
theorem below_drewN {B:Nat} {a w:World} (h:Below B a w) (n:Nat):Below B a (w.drewN n):=⟨h.os,h.tape,h.output,h.size,h.block⟩
theorem Zbs {B:Nat} {W w1:World} (hb:Below B W w1) {p:Addr} {v:Value} (hp:p.block<B) (h:W.cell? p=some v):w1.cell? p=some v:=by rw[hb.cell hp];exact h
theorem Zae {w1:World} {p:Nat} {x y u v:Value} (h0:w1.cell? ⟨p,0,none⟩=some u) (h1:w1.cell? ⟨p,1,none⟩=some v) :
  ((w1.setCell ⟨p,0,none⟩ x).setCell ⟨p,1,none⟩ y).cell? ⟨p,0,none⟩=some x/\((w1.setCell ⟨p,0,none⟩ x).setCell ⟨p,1,none⟩ y).cell? ⟨p,1,none⟩=some y:=by
 constructor
 ·rw[World.cell?_setCell_other _ _ _ _ (by simp)]
  exact World.cell?_setCell_same _ _ _ h0
 ·have h2:(w1.setCell ⟨p,0,none⟩ x).cell? ⟨p,1,none⟩=some v:=by
   rw[World.cell?_setCell_other _ _ _ _ (by simp)];exact h1
  exact World.cell?_setCell_same _ _ _ h2
theorem Zap (x a b:Int) (r:Bool) (h:decide (a≤x/\x≤b)=r) (w:World):Calls Tryz.prog 46 #[.int .i64 x,.int .i64 a,.int .i64 b] w fun e w'=>e=.returned (.bool r)/\w=w':=by
 by_cases h1:a≤x
 ·have hb1:decide (a≤x)=true:=by rw[decide_eq_true_iff];exact h1
  have H:=zH (show decide (x≤b)=r by rw[<-h];simp[h1]);clear h
  go_enter Tryz.func46,Tryz.ntmps46
  go_wp2_with fail
  go_ret;exact⟨Zac H.out,rfl⟩
 ·have hb1:decide (a≤x)=false:=by rw[decide_eq_false_iff_not];exact h1
  have H:=zH (show false=r by rw[<-h];simp[h1]);clear h
  go_enter Tryz.func46,Tryz.ntmps46
  go_wp2_with fail
  go_ret;exact⟨Zac H.out,rfl⟩
theorem tkHu {P:Program} {ops:Array Oper} {Q:Exit->Act->World->Prop} {md:Region.Mode} {S:World->Prop} {i:Nat} {oi:Oper} {fuel:Nat} {listed:Array Bool} {a:Act} {w:World} (hi:ops[i]? = some oi)
  (hS:S w) (h:wpAnyH P md ops Q S fuel (listed.setIfInBounds i true) (a.put oi.dst undef) w)
  (hs:Region.noSelect ops=true:=by kernel_rfl) (hf:Region.free md ops listed i=true:=by kernel_rfl) (hr:(Region.ready md ops listed).contains i=true:=by kernel_rfl)
  (hQ:∀c a w,Q (.panic c) (a.put oi.dst undef) w->Q (.panic c) a w:=by exact fun _ _ _ h=>h) (hw:Region.wanted oi (yielded ops a.tmps)=false:=by rfl):wpAnyH P md ops Q S (fuel+1) listed a w:=
 wpAnyH_take hi hs hf hr hQ (Or.inr ⟨hw,rfl⟩) hS h
theorem zA {α:Type} {l:List α} {i:Nat} {a:α}:l.toArray.setIfInBounds i a=(l.set i a).toArray:=List.setIfInBounds_toArray l i a
theorem zB {α:Type} {a b:α} {l:List α}:(a::l).set 0 b=b::l:=List.set_cons_zero
theorem zC {α:Type} {a b:α} {l:List α} {n:Nat}:(a::l).set (n+1) b=a::l.set n b:=List.set_cons_succ
theorem tk1 {P:Program} {ops:Array Oper} {Q:Exit->Act->World->Prop} {md:Region.Mode} {S:World->Prop} {fuel:Nat} {listed:Array Bool} {a:Act} {w:World} (i:Nat) (oi:Oper) {v:Value}
  (h:wpAnyH P md ops Q S fuel (listed.setIfInBounds i true) (a.put oi.dst v) w) (hi:ops[i]? = some oi:=by rfl)
  (hy:∀w,S w->(execOp a.eval oi).run P w=.ok (.value v) w:=by intro w hSw;(try dsimp only at hSw);go_simp;try (with_reducible rfl)) (hS:S w:=by assumption)
  (hs:Region.noSelect ops=true:=by kernel_rfl) (hf:Region.free md ops listed i=true:=by kernel_rfl) (hr:(Region.ready md ops listed).contains i=true:=by kernel_rfl)
  (hQ:∀c a w,Q (.panic c) (a.put oi.dst v) w->Q (.panic c) a w:=by exact fun _ _ _ h=>h) (hw:Region.wanted oi (yielded ops a.tmps)=true:=by rfl):wpAnyH P md ops Q S (fuel+1) listed a w:=
 wpAnyH_take hi hs hf hr hQ (Or.inl ⟨hw,hy⟩) hS h
theorem rd1 {P:Program} {ops:Array Oper} {Q:Exit->Act->World->Prop} {md:Region.Mode} {S:World->Prop} {fuel:Nat} {listed:Array Bool} {a:Act} {w:World} (i:Nat) (o:Oper)
  (h:∀K:Act->World->Prop,Shut (∀a w,S w->(S w->wpAnyH P md ops Q S fuel (listed.setIfInBounds i true) a w)->K a w)->if Region.wanted o (yielded ops a.tmps)=true then Oper.wp P o a w K Q else K (a.put o.dst undef) w)
  (hr:Region.ready md ops listed = [i]:=by kernel_rfl) (ho:ops[i]? = some o:=by rfl):wpAnyH P md ops Q S (fuel+1) listed a w:=wpAnyH_ready hr (by simp) (AllReadyH.cons ho h AllReadyH.nil)
theorem Zao (n m:Int) (b:Bool) (h:decide (-m≤n/\n≤m)=b) (hm:0≤m) (hm':m≤1000000000000000000) (w:World) :
  Calls Tryz.prog 92 #[.int .i64 n,.int .i64 m] w fun e w'=>e=.returned (.bool b)/\w=w':=by
 by_cases h1:-m≤n
 ·have hb1:decide (-m≤n)=true:=by rw[decide_eq_true_iff];exact h1
  have H:=zH (show decide (n≤m)=b by rw[<-h];simp[h1]);clear h
  go_enter Tryz.func92,Tryz.ntmps92
  go_wp2_with fail
  go_ret;exact⟨Zac H.out,rfl⟩
 ·have hb1:decide (-m≤n)=false:=by rw[decide_eq_false_iff_not];exact h1
  have H:=zH (show false=b by rw[<-h];simp[h1]);clear h
  go_enter Tryz.func92,Tryz.ntmps92
  go_wp2_with fail
  go_ret;exact⟨Zac H.out,rfl⟩
theorem Zba {w:World} {p:Nat} {x y:Value} {t:TypeId} (h:w.heap[p]? = some (.cells #[x,y] t)) :
  w.cell? ⟨p,0,none⟩=some x/\w.cell? ⟨p,1,none⟩=some y/\w.frozen? ⟨p,0,none⟩=false/\w.frozen? ⟨p,1,none⟩=false:=by
 simp[World.cell?,World.frozen?,h]
theorem Zag {w:World} {p:Nat} {o:Obj} (h:w.heap[p]? = some o):p<w.heap.size:=by
 rcases Nat.lt_or_ge p w.heap.size with h1|h1
 ·exact h1
 ·rw[Array.getElem?_eq_none h1] at h;cases h
theorem Zib (w:World) (o1 o2:Obj):((w.alloc o1).alloc o2).heap.size=w.heap.size+2:=by show ((w.heap.push _).push _).size=_;simp
theorem Zar (w:World) (o1:Obj):(w.alloc o1).heap.size=w.heap.size+1:=by show (w.heap.push _).size=_;simp
structure Since (B wx:World):Prop where
 low:Below B.heap.size B wx
theorem Since.refl (B:World):Since B B:=⟨Below.refl _ _⟩
theorem Since.trans {B wx wy:World} (h:Since B wx) (hb:Below wx.heap.size wx wy):Since B wy:=⟨h.low.trans (hb.mono h.low.size)⟩
theorem Since.alloc {B wx:World} (h:Since B wx) (o:Obj):Since B (wx.alloc o):=⟨h.low.alloc h.low.size o⟩
theorem Since.drew {B wx:World} (h:Since B wx):Since B wx.drew:=⟨h.low.drew⟩
theorem Since.drewN {B wx:World} (h:Since B wx) (n:Nat):Since B (wx.drewN n):=⟨below_drewN h.low n⟩
theorem Since.setCell {B wx:World} (h:Since B wx) {p:Addr} (hp:B.heap.size≤p.block) (u:Value):Since B (wx.setCell p u):=⟨h.low.setCell hp u⟩
theorem Since.cell {B wx:World} (h:Since B wx) {p:Addr} {v:Value} (hp:p.block<B.heap.size) (hv:B.cell? p=some v):wx.cell? p=some v:=Zbs h.low hp hv
theorem Zbd {P:Program} {f:FuncId} {args:Array Value} {wx:World} {v:Value} (h:Calls P f args wx fun e w'=>e=.returned v/\Below wx.heap.size wx w') {B:World} (hB:Since B wx) :
  Calls P f args wx fun e w'=>(e=.returned v/\True)/\Since B w':=h.mono fun _ _ ⟨he,hb⟩=>⟨⟨he,trivial⟩,hB.trans hb⟩
structure Own2 (B:World) (x y:Value) (t:TypeId) (q:Nat) (wx:World):Prop where
 since:Since B wx
 at_:wx.heap[q]? = some (.cells #[x,y] t)
 hi:B.heap.size≤q
theorem Since.new {B wx:World} (h:Since B wx) (x y:Value) (t:TypeId):Own2 B x y t wx.heap.size (wx.alloc (.cells #[x,y] t)):=
 ⟨h.alloc _,by show (wx.heap.push _)[wx.heap.size]? = _;simp,h.low.size⟩
theorem Own2.trans {B:World} {x y:Value} {t:TypeId} {q:Nat} {wx wy:World} (h:Own2 B x y t q wx) (hb:Below wx.heap.size wx wy):Own2 B x y t q wy:=
 ⟨h.since.trans hb,by rw[hb.block q (Zag h.at_)];exact h.at_,h.hi⟩
theorem Own2.drew {B:World} {x y:Value} {t:TypeId} {q:Nat} {wx:World} (h:Own2 B x y t q wx):Own2 B x y t q wx.drew:=⟨h.since.drew,h.at_,h.hi⟩
theorem Own2.own {B:World} {x y:Value} {t:TypeId} {q:Nat} {wx:World} (h:Own2 B x y t q wx) :
  wx.cell? ⟨q,0,none⟩=some x/\wx.cell? ⟨q,1,none⟩=some y/\wx.frozen? ⟨q,0,none⟩=false/\wx.frozen? ⟨q,1,none⟩=false:=Zba h.at_
theorem Own2.set2 {B:World} {x y:Value} {t:TypeId} {q:Nat} {wx:World} (h:Own2 B x y t q wx) (u v:Value):Since B ((wx.setCell ⟨q,0,none⟩ u).setCell ⟨q,1,none⟩ v):=
 (h.since.setCell (p:=⟨q,0,none⟩) h.hi u).setCell (p:=⟨q,1,none⟩) h.hi v
def Got (B:World) (N D:Int) (k:Bool) (p b:Value) (wx:World):Prop:=
 ∃q:Nat,p=.pointer (some ⟨q,0,none⟩)/\b=.bool k/\wx.cell? ⟨q,0,none⟩=some (.int .i64 N)/\wx.cell? ⟨q,1,none⟩=some (.int .i64 D)/\q<wx.heap.size/\B.heap.size≤q/\Since B wx
theorem Got.last {B wx:World} (h:Since B wx) (N D:Int) (k:Bool) (t:TypeId):Got B N D k (.pointer (some ⟨wx.heap.size,0,none⟩)) (.bool k) (wx.alloc (.cells #[.int .i64 N,.int .i64 D] t)):=by
 have hn:=h.new (.int .i64 N) (.int .i64 D) t;exact⟨_,rfl,rfl,hn.own.1,hn.own.2.1,by rw[Zar];omega,hn.hi,hn.since⟩
theorem Got.set {B:World} {x y:Value} {t:TypeId} {q:Nat} {wx:World} (h:Own2 B x y t q wx) (N D:Int) (k:Bool) :
  Got B N D k (.pointer (some ⟨q,0,none⟩)) (.bool k) ((wx.setCell ⟨q,0,none⟩ (.int .i64 N)).setCell ⟨q,1,none⟩ (.int .i64 D)):=
 ⟨q,rfl,rfl,(Zae h.own.1 h.own.2.1).1,(Zae h.own.1 h.own.2.1).2,by have:=Zag h.at_;simpa [World.setCell] using this,h.hi,h.set2 _ _⟩
theorem Got.drew {B:World} {N D:Int} {k:Bool} {p b:Value} {wx:World} (h:Got B N D k p b wx):Got B N D k p b wx.drew:=by
 obtain⟨q,h1,h2,h3,h4,h5,h6,h7⟩:=h;exact⟨q,h1,h2,h3,h4,h5,h6,h7.drew⟩
theorem Zhd {w:World} {p:Nat} {o:Obj} (h:w.heap[p]? = some o) (o2:Obj):(w.alloc o2).heap[p]? = some o:=by
 rw[Below.heap_alloc _ _ _ (Zag h)];exact h
theorem Zot (w:World) (o:Obj):(w.alloc o).heap[w.heap.size]? = some o:=by show (w.heap.push o)[w.heap.size]? = some o;simp
def Zbj (t:TypeId) (w:World) (L:List (Nat×Int×Int)):Prop:=∀x,x∈L->w.heap[x.1]? = some (.cells #[.int .i64 x.2.1,.int .i64 x.2.2] t)
theorem Zbj.nil (t:TypeId) (w:World):Zbj t w []:=fun x h=>by cases h
theorem Zbj.below {t:TypeId} {w w':World} {L:List (Nat×Int×Int)} (h:Zbj t w L) (hb:Below w.heap.size w w'):Zbj t w' L:=
 fun x hx=>(hb.block x.1 (Zag (h x hx))).trans (h x hx)
theorem Zbj.add {t:TypeId} {w:World} {L:List (Nat×Int×Int)} (h:Zbj t w L) (n d:Int):Zbj t (w.alloc (.cells #[.int .i64 n,.int .i64 d] t)) ((w.heap.size,n,d)::L):=fun x hx=>by
 rcases List.mem_cons.1 hx with rfl|hx
 ·exact Zot w _
 ·exact Zhd (h x hx) _
theorem Zbj.more {t:TypeId} {w:World} {L:List (Nat×Int×Int)} (h:Zbj t w L) (o:Obj):Zbj t (w.alloc o) L:=fun x hx=>Zhd (h x hx) _
theorem Zbj.drew {t:TypeId} {w:World} {L:List (Nat×Int×Int)} (h:Zbj t w L):Zbj t w.drew L:=h
theorem Zbj.get {t:TypeId} {w:World} {L:List (Nat×Int×Int)} (h:Zbj t w L) {p:Nat} {n d:Int} (hm:(p,n,d)∈L) :
  w.cell? ⟨p,0,none⟩=some (.int .i64 n)/\w.cell? ⟨p,1,none⟩=some (.int .i64 d)/\p<w.heap.size:=by
 have h1:=h _ hm;exact⟨(Zba h1).1,(Zba h1).2.1,Zag h1⟩
theorem Zb9:(Tryz.prog.info? 3).map (fun i=>(i.zero,i.size,i.bytes))=some (some (.int .i64 0),1,8):=by kernel_rfl
def Zab (B:Nat) (w:World) (v:Value) (xs:List Int):Prop:=w.ownsRow B 3 1 v xs.length (xs.map (Value.int .i64))
def IntsIn (w:World) (a:Option Addr) (xs:List Int):Prop:=∀j x,xs[j]? = some x->∃b o:Nat,a=some ⟨b,o,none⟩/\w.cell? ⟨b,o+j,none⟩=some (.int .i64 x)
theorem IntsIn.nil (w:World) (a:Option Addr):IntsIn w a []:=fun j x h=>by simp at h
theorem IntsIn.at {w:World} {a:Option Addr} {xs:List Int} (h:IntsIn w a xs) (k:Nat) (hk:k<xs.length):∃b o:Nat,a=some ⟨b,o,none⟩/\w.cell? ⟨b,o+k,none⟩=some (.int .i64 xs[k]):=
 h k _ (List.getElem?_eq_getElem hk)
theorem IntsIn.drewN {w:World} {a:Option Addr} {xs:List Int} (h:IntsIn w a xs) (d:Nat):IntsIn (w.drewN d) a xs:=h
theorem Zbb {B:Nat} {w:World} {v:Value} {xs:List Int} (h:Zab B w v xs) :
  ∃a cap,v=.slice a xs.length cap/\IntsIn w a xs/\(∀p,a=some p->B≤p.block/\p.block<w.heap.size)/\(xs≠[]->∃g,a=some ⟨g,0,none⟩):=by
 have h':=h;obtain⟨h1,⟨hv,hn⟩ | ⟨g,cap,cur,rfl,hg,hh,hr⟩⟩:=h'
 ·have hx:xs = []:=List.eq_nil_of_length_eq_zero hn
  subst hx;exact⟨none,0,by rw[hv];rfl,IntsIn.nil _ _,(fun p hp=>by cases hp),fun h=>absurd rfl h⟩
 ·refine⟨some ⟨g,0,none⟩,cap,rfl,fun j x hx=>⟨g,0,rfl,?_⟩,fun p hp=>?_,fun _=>⟨g,rfl⟩⟩
  ·have hj:j<xs.length:=(List.getElem?_eq_some_iff.1 hx).1
   rw[Nat.zero_add,World.ownsRow.cellAt h j (by omega)];simp[hx]
  ·obtain rfl:=Option.some.inj hp
   exact⟨hg,lt_of_block hh⟩
theorem IntsIn.below {B:Nat} {w w':World} {a:Option Addr} {xs:List Int} (h:IntsIn w a xs) (ha:∀p,a=some p->p.block<B) (hb:Below B w w'):IntsIn w' a xs:=fun j x hx=>by
 obtain⟨b,o,h1,h2⟩:=h j x hx;exact⟨b,o,h1,by rw[hb.cell (p:=⟨b,o+j,none⟩) (show b<B from ha ⟨b,o,none⟩ h1)];exact h2⟩
theorem IntsIn.same {w w':World} {a:Option Addr} {xs:List Int} (h:IntsIn w a xs) (ha:∀p,a=some p->w'.heap[p.block]? = w.heap[p.block]?):IntsIn w' a xs:=fun j x hx=>by
 obtain⟨b,o,h1,h2⟩:=h j x hx;exact⟨b,o,h1,by rw[World.cell?_of_block (w:=w) (a:=⟨b,o+j,none⟩) (ha ⟨b,o,none⟩ h1)];exact h2⟩
theorem Zab.nil (B:Nat) (w:World):Zab B w (.slice none 0 0) []:=World.ownsRow_nil _ _ _ _
theorem Zab.more {B:Nat} {w':World} {v':Value} {xs:List Int} {x:Int} (h:w'.ownsRow B 3 1 v' (xs.length+1) (xs.map (Value.int .i64)++[.int .i64 x])):Zab B w' v' (xs++[x]):=by
 unfold Zab
 simpa using h
theorem Zab.below {B:Nat} {w w':World} {v:Value} {xs:List Int} (h:Zab B w v xs) (hb:Below w.heap.size w w'):Zab B w' v xs:=
 World.ownsRow.kept h (row:=none) ⟨hb.os,hb.tape,hb.output,hb.size,fun k hk _=>hb.block k hk⟩ (by cases v.ownBlock<;>simp)
theorem Zab.drewN {B:Nat} {w:World} {v:Value} {xs:List Int} (h:Zab B w v xs) (d:Nat):Zab B (w.drewN d) v xs:=h
theorem Zab.alloc {B:Nat} {w:World} {v:Value} {xs:List Int} (h:Zab B w v xs) (o:Obj):Zab B (w.alloc o) v xs:=World.ownsRow.alloc h o
def Ze7 (xs:List Int) (w:World) (e:Ending) (w':World):Prop:=∃v,e=.returned v/\Zab w.heap.size w' v xs/\Below w.heap.size w w'
end Go.Proofs.YtpjnjidbdpfdcaaGreat
