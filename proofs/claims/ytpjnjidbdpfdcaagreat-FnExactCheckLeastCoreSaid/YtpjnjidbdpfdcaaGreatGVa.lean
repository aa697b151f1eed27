/- The parts Vec, VeB, VeS, VeA, RatsIn. -/
import Derived.Test.YtpjnjidbdpfdcaaGreatGB
import Derived.Test.YtpjnjidbdpfdcaaGreatGM
import Derived.Test.YtpjnjidbdpfdcaaGreatGRa
import Derived.Laws.OwnMore
import Derived.Test.YtpjnjidbdpfdcaaGreatGrI
import Derived.Deep.SlicePairs
import Derived.ChangeArms
import Derived.OpenShut
set_option maxRecDepth 100000
set_option maxHeartbeats 1000000
namespace Go.Proofs.YtpjnjidbdpfdcaaGreat
open Go.RowKit
open Ve (R)
theorem Zc5:(Tryz.prog.info? 35).map (fun i=>(i.zero,i.size,i.bytes))=some (some (.agg #[.int .i64 0,.int .i64 0]),2,16):=by kernel_rfl
def Zau:List R->List Value
 | []=>[]
 | x::xs=>.int .i64 x.1 :: .int .i64 x.2::Zau xs
theorem Zb3:∀xs:List R,(Zau xs).length=xs.length*2
 | []=>rfl
 | _::xs=>by simp only[Zau,List.length_cons,Zb3 xs];omega
theorem Zfa:∀(xs:List R) (x:R),Zau (xs++[x])=Zau xs++[.int .i64 x.1,.int .i64 x.2]
 | [],x=>rfl
 | y::xs,x=>by simp only[Zau,List.cons_append,Zfa xs x]
theorem Zdv:∀(xs:List R) (k:Nat) (x:R),xs[k]? = some x->(Zau xs)[k*2]? = some (.int .i64 x.1)/\(Zau xs)[k*2+1]? = some (.int .i64 x.2)
 | [],k,x,h=>by simp at h
 | y::xs,0,x,h=>by
  obtain rfl:y=x:=by simpa using h
  exact⟨rfl,rfl⟩
 | y::xs,k+1,x,h=>by
  have:=Zdv xs k x (by simpa using h);rw[show (k+1)*2=k*2+1+1 by omega];simp only[Zau,List.getElem?_cons_succ];exact this
def Zad (B:Nat) (w:World) (v:Value) (xs:List R):Prop:=w.ownsRow B 35 2 v xs.length (Zau xs)
def Zah (B:Nat) (w:World) (a:Option Addr) (xs:List R):Prop:=∀j x,xs[j]? = some x->∃b o:Nat,a=some ⟨b,o,none⟩/\b<B/\w.cell? ⟨b,o+j*2,none⟩=some (.int .i64 x.1)/\w.cell? ⟨b,o+j*2+1,none⟩=some (.int .i64 x.2)
theorem Zah.nil (B:Nat) (w:World) (a:Option Addr):Zah B w a []:=fun j x h=>by simp at h
theorem Zah.at {B:Nat} {w:World} {a:Option Addr} {xs:List R} (h:Zah B w a xs) (k:Nat) (hk:k<xs.length) :
  ∃b o:Nat,a=some ⟨b,o,none⟩/\b<B/\w.cell? ⟨b,o+k*2,none⟩=some (.int .i64 (Ve.at_ xs k).1)/\w.cell? ⟨b,o+k*2+1,none⟩=some (.int .i64 (Ve.at_ xs k).2):=
 h k _ (Ve.Zli hk)
theorem Zah.drewN {B:Nat} {w:World} {a:Option Addr} {xs:List R} (h:Zah B w a xs) (d:Nat):Zah B (w.drewN d) a xs:=h
theorem Zah.drew {B:Nat} {w:World} {a:Option Addr} {xs:List R} (h:Zah B w a xs):Zah B w.drew a xs:=h
theorem Zah.below {B:Nat} {w w':World} {a:Option Addr} {xs:List R} (h:Zah B w a xs) (hb:Below B w w'):Zah B w' a xs:=fun j x hx=>by
 obtain⟨b,o,h1,h2,h3,h4⟩:=h j x hx;exact⟨b,o,h1,h2,by rw[hb.cell (p:=⟨b,o+j*2,none⟩) h2];exact h3,by rw[hb.cell (p:=⟨b,o+j*2+1,none⟩) h2];exact h4⟩
theorem Zah.mono {B B':Nat} {w:World} {a:Option Addr} {xs:List R} (h:Zah B w a xs) (hB:B≤B'):Zah B' w a xs:=fun j x hx=>by
 obtain⟨b,o,h1,h2,h3⟩:=h j x hx;exact⟨b,o,h1,by omega,h3⟩
theorem Zah.same {B:Nat} {w w':World} {a:Option Addr} {xs:List R} (h:Zah B w a xs) (ha:∀p,a=some p->p.block<B->w'.heap[p.block]? = w.heap[p.block]?):Zah B w' a xs:=fun j x hx=>by
 obtain⟨b,o,h1,h2,h3,h4⟩:=h j x hx;have e:=ha ⟨b,o,none⟩ h1 h2;exact⟨b,o,h1,h2,by rw[World.cell?_of_block (w:=w) (a:=⟨b,o+j*2,none⟩) e];exact h3,by rw[World.cell?_of_block (w:=w) (a:=⟨b,o+j*2+1,none⟩) e];exact h4⟩
theorem Za1 {B:Nat} {w:World} {v:Value} {xs:List R} (h:Zad B w v xs) :
  ∃a cap,v=.slice a xs.length cap/\Zah w.heap.size w a xs/\(∀p,a=some p->B≤p.block/\p.block<w.heap.size)/\(xs≠[]->∃g,a=some ⟨g,0,none⟩):=by
 have h':=h;obtain⟨h1,⟨hv,hn⟩ | ⟨g,cap,cur,rfl,hg,hh,hr⟩⟩:=h'
 ·have hx:xs = []:=List.eq_nil_of_length_eq_zero hn
  subst hx;exact⟨none,0,by rw[hv];rfl,Zah.nil _ _ _,(fun p hp=>by cases hp),fun h=>absurd rfl h⟩
 ·have hlt:g<w.heap.size:=Zag hh
  refine⟨some ⟨g,0,none⟩,cap,rfl,fun j x hx=>⟨g,0,rfl,hlt,?_⟩,fun p hp=>?_,fun _=>⟨g,rfl⟩⟩
  ·have hj:j<xs.length:=(List.getElem?_eq_some_iff.1 hx).1
   obtain⟨e1,e2⟩:=Zdv xs j x hx;rw[Nat.zero_add,World.ownsRow.cellAt h (j*2) (by omega),World.ownsRow.cellAt h (j*2+1) (by omega)];exact⟨e1,e2⟩
  ·obtain rfl:=Option.some.inj hp
   exact⟨hg,hlt⟩
theorem Zad.nil (B:Nat) (w:World):Zad B w (.slice none 0 0) []:=World.ownsRow_nil _ _ _ _
theorem Zad.more {B:Nat} {w':World} {v':Value} {xs:List R} {x:R} (h:w'.ownsRow B 35 2 v' (xs.length+1) (Zau xs++[.int .i64 x.1,.int .i64 x.2])):Zad B w' v' (xs++[x]):=by
 unfold Zad;rw[Zfa,List.length_append];exact h
theorem Zad.below {B:Nat} {w w':World} {v:Value} {xs:List R} (h:Zad B w v xs) (hb:Below w.heap.size w w'):Zad B w' v xs:=
 World.ownsRow.kept h (row:=none) ⟨hb.os,hb.tape,hb.output,hb.size,fun k hk _=>hb.block k hk⟩ (by cases v.ownBlock<;>simp)
theorem Zad.drewN {B:Nat} {w:World} {v:Value} {xs:List R} (h:Zad B w v xs) (d:Nat):Zad B (w.drewN d) v xs:=h
theorem Zad.alloc {B:Nat} {w:World} {v:Value} {xs:List R} (h:Zad B w v xs) (o:Obj):Zad B (w.alloc o) v xs:=World.ownsRow.alloc h o
theorem Zad.lower {B B':Nat} {w:World} {v:Value} {xs:List R} (h:Zad B' w v xs) (hB:B≤B'):Zad B w v xs:=by
 obtain⟨h1,h2|⟨g,cap,cur,e,hg,rest⟩⟩:=h
 ·exact⟨h1,.inl h2⟩
 ·exact⟨h1,.inr ⟨g,cap,cur,e,by omega,rest⟩⟩
def Zla (xs:List R) (w:World) (e:Ending) (w':World):Prop:=∃v,e=.returned v/\Zad w.heap.size w' v xs/\Below w.heap.size w w'
def Zcf (xs:List R) (k:Bool) (w:World) (e:Ending) (w':World):Prop:=∃v,e=.returned (.tuple #[v,.bool k])/\Zad w.heap.size w' v xs/\Below w.heap.size w w'
def Zdq (x:R) (k:Bool) (w:World) (e:Ending) (w':World):Prop:=e=.returned (.tuple #[.agg #[.int .i64 x.1,.int .i64 x.2],.bool k])/\Below w.heap.size w w'
theorem Zrr (a:Option Addr) (len cap:Nat) (left:Int) (hl:(len:Int)≤left) (hl1:left≤1048576) (w:World) :
  Calls Tryz.prog 13 #[.slice a len cap,.int .i64 left] w fun e w'=>e=.returned (.int .i64 (left-len))/\w=w':=by
 have hb:decide (left-(len:Int)<0)=false:=by rw[decide_eq_false_iff_not];omega
 go_enter Tryz.func13,Tryz.ntmps13
 go_wp2_with fail
 go_ret;exact⟨rfl,rfl⟩
theorem Zrq (a:Option Addr) (len cap:Nat) (left:Int) (hl:left<(len:Int)) (hm:len≤9223372036854775807) (hl0:0≤left) (hl1:left≤1048576) (w:World) :
  Calls Tryz.prog 13 #[.slice a len cap,.int .i64 left] w fun e w'=>e=.returned (.int .i64 (-1))/\w=w':=by
 have hb:decide (left-(len:Int)<0)=true:=by rw[decide_eq_true_iff];omega
 go_enter Tryz.func13,Tryz.ntmps13
 go_wp2_with fail
 go_ret;exact⟨rfl,rfl⟩
def Zd6 (B g n k:Nat) (wr:World) (xs:List R):Prop:=
 ∃L:List Value,wr.ownsRow B 35 2 (.slice (some ⟨g,0,none⟩) n n) n L/\∀j x,j<k->xs[j]? = some x->L[j*2]? = some (.int .i64 x.1)/\L[j*2+1]? = some (.int .i64 x.2)
theorem Zho {B g n k:Nat} {wr:World} {xs:List R} (h:Zd6 B g n k wr xs) (hk:k<n) (x:R) (hx:xs[k]? = some x) :
  Zd6 B g n (k+1) ((wr.setCell ⟨g,k*2,none⟩ (.int .i64 x.1)).setCell ⟨g,k*2+1,none⟩ (.int .i64 x.2)) xs:=by
 obtain⟨L,h1,h2⟩:=h;have hl:L.length=n*2:=h1.1;refine⟨(L.set (k*2) (.int .i64 x.1)).set (k*2+1) (.int .i64 x.2),((h1.stored (k*2) (.int .i64 x.1)).1.stored (k*2+1) (.int .i64 x.2)).1,fun j y hj hy=>?_⟩
 by_cases e:j=k
 ·subst e
  rw[hx] at hy;obtain rfl:=Option.some.inj hy
  constructor
  ·rw[List.getElem?_set_ne (by omega),List.getElem?_set_self (by omega)]
  ·rw[List.getElem?_set_self (by rw[List.length_set];omega)]
 ·rw[List.getElem?_set_ne (by omega),List.getElem?_set_ne (by omega),List.getElem?_set_ne (by omega),List.getElem?_set_ne (by omega)]
  exact h2 j y (by omega) hy
theorem Zne {L:List Value} {xs:List R} (hl:L.length=xs.length*2) (h:∀j x,xs[j]? = some x->L[j*2]? = some (.int .i64 x.1)/\L[j*2+1]? = some (.int .i64 x.2)):L=Zau xs:=by
 apply List.ext_getElem? fun i=>?_
 rcases Nat.lt_or_ge i L.length with h1|h1
 ·have hj:i / 2<xs.length:=by omega
  obtain⟨e1,e2⟩:=h (i / 2) _ (List.getElem?_eq_getElem hj);obtain⟨f1,f2⟩:=Zdv xs (i / 2) _ (List.getElem?_eq_getElem hj)
  rcases (show i=i / 2*2\/i=i / 2*2+1 by omega) with hi|hi
  ·rw[hi,e1,f1]
  ·rw[hi,e2,f2]
 ·rw[List.getElem?_eq_none h1,List.getElem?_eq_none (by rw[Zb3];omega)]
theorem Zek {B g n k:Nat} {wr:World} {xs:List R} (h:Zd6 B g n k wr xs) (j:Nat) (hj:j<n*2) :
  (∃v,wr.cell? ⟨g,j,none⟩=some v)/\wr.frozen? ⟨g,j,none⟩=false:=by
 obtain⟨L,h1,_⟩:=h;have hl2:=h1.1;exact⟨⟨L[j],by rw[h1.cellAt j hj,List.getElem?_eq_getElem (by omega)]⟩,h1.frozenAt j⟩
theorem Zi5 (B:Nat) (a:Option Addr) (cap:Nat) (xs:List R) (hl:xs.length≤1048576) (w:World) (hBw:B≤w.heap.size) (hz:Zah B w a xs) :
  Calls Tryz.prog 21 #[.slice a xs.length cap] w (Zla xs w):=by
 have Hz:=zH (hz.mono hBw);obtain⟨i0,hi,hz0,hz1,hz2⟩:=info_parts Zc5;have HI:=zH hi;have HZ0:=zH hz0;have HZ1:=zH hz1;have hby:i0.bytes*xs.length≤281474976710656:=by rw[hz2];omega
 have Hby:=zH hby;clear hz hi hz0 hz1 hz2 hby
 go_enter Tryz.func21,Tryz.ntmps21
 go_wp2_with (refine wpList_make_full _ rfl _ _ 36 rfl w.heap.size 35 i0 (.agg #[.int .i64 0,.int .i64 0]) 2 Tryz.underlying36 HI.out HZ0.out HZ1.out _ _ _ _ xs.length rfl rfl rfl rfl Hby.out ?c1 (Nat.le_refl _) ?_)
 case c1=>unfold maxLen;omega
 intro w1 hown hgrow;have Hown:Hid (Zd6 w.heap.size w.heap.size xs.length 0 w1 xs):=⟨_,hown,fun j x hj _=>absurd hj (by omega)⟩;have Hb1:=zH ((Below.refl w.heap.size w).grown hgrow (Nat.le_refl _) (fun k hk=>by cases hk));have hlt1:w.heap.size<w1.heap.size:=(hown.lt _ rfl).2;clear hown hgrow
 go_wp2_with fail
 go_loopw [4] (fun i wr=>∃k:Nat,k≤xs.length/\i=.int .i64 k/\w.heap.size<wr.heap.size/\Hid (Zd6 w.heap.size w.heap.size xs.length k wr xs)/\Hid (Below w.heap.size w wr)) (fun i _=>xs.length-(intOf i).toNat)
 case atStart=>exact⟨0,Nat.zero_le _,rfl,hlt1,Hown,Hb1⟩
 case round=>
  obtain⟨k,hk,rfl,hgl,hC,hB⟩:=hrel
  by_cases hlt:k<xs.length
  ·obtain⟨b,o,rfl,hbB,p0,p1⟩:=(Hz.out.below hB.out).at k hlt
   have hx:xs[k]? = some (Ve.at_ xs k):=Ve.Zli hlt;generalize Ve.at_ xs k=x at *;have Hx:=zH hx;clear hx
   go_wp2_with fail
   refine (Zgk _ _ _).mono ?_;rintro e w2 ⟨rfl,hb2⟩;have hC2:Zd6 w.heap.size w.heap.size xs.length k w2 xs:=by
    obtain⟨L,h1,h2⟩:=hC.out;exact⟨L,World.ownsRow.kept h1 (row:=none) ⟨hb2.os,hb2.tape,hb2.output,hb2.size,fun k hk _=>hb2.block k hk⟩ (by simp[Value.ownBlock]),h2⟩
   obtain⟨⟨v0,g0⟩,f0⟩:=Zek hC2 (k*2) (by omega);obtain⟨⟨v1,g1⟩,f1⟩:=Zek hC2 (k*2+1) (by omega);have HC2:=zH (Zho hC2 hlt _ Hx.out);have HB2:=zH (((hB.out.trans (hb2.mono hB.out.size)).setCell (p:=⟨w.heap.size,k*2,none⟩) (Nat.le_refl _) (.int .i64 x.1)).setCell (p:=⟨w.heap.size,k*2+1,none⟩) (Nat.le_refl _) (.int .i64 x.2));have hgl2:w.heap.size<w2.heap.size:=Nat.lt_of_lt_of_le hgl hb2.size;clear hb2 hC2 Hx hgl
   go_wp2_with fail
   go_roundw
   case rel=>exact⟨k+1,by omega,by go_num,by simp;omega,HC2,HB2⟩
   case measure=>simp[intOf];omega
  ·have he:k=xs.length:=by omega
   have Hc:Hid (Zad w.heap.size wr (.slice (some ⟨w.heap.size,0,none⟩) xs.length xs.length) xs):=by
    obtain⟨L,h1,h2⟩:=hC.out;have e:=Zne h1.1 fun j x hx=>h2 j x (by have:=(List.getElem?_eq_some_iff.1 hx).1;omega) hx
    subst e;exact h1
   clear he
   go_wp2_with fail
   go_ret;exact⟨_,rfl,Hc.out,hB.out⟩
def Quad (b1 k1 b2 k2:Nat) (x y:R) (B:World):Prop:=
 B.cell? ⟨b1,k1,none⟩=some (.int .i64 x.1)/\B.cell? ⟨b1,k1+1,none⟩=some (.int .i64 x.2)/\B.cell? ⟨b2,k2,none⟩=some (.int .i64 y.1)/\B.cell? ⟨b2,k2+1,none⟩=some (.int .i64 y.2)/\b1<B.heap.size/\b2<B.heap.size
theorem Quad.five {b1 k1 b2 k2:Nat} {x y:R} {B wx:World} (H:Hid (Quad b1 k1 b2 k2 x y B)) (h:Since B wx) :
  wx.cell? ⟨b1,k1,none⟩=some (.int .i64 x.1)/\wx.cell? ⟨b1,k1+1,none⟩=some (.int .i64 x.2)/\wx.cell? ⟨b2,k2,none⟩=some (.int .i64 y.1)/\wx.cell? ⟨b2,k2+1,none⟩=some (.int .i64 y.2)/\Since B wx:=
 ⟨h.cell (p:=⟨b1,k1,none⟩) H.out.2.2.2.2.1 H.out.1,h.cell (p:=⟨b1,k1+1,none⟩) H.out.2.2.2.2.1 H.out.2.1,h.cell (p:=⟨b2,k2,none⟩) H.out.2.2.2.2.2 H.out.2.2.1,h.cell (p:=⟨b2,k2+1,none⟩) H.out.2.2.2.2.2 H.out.2.2.2.1,h⟩
theorem Zi3 (B:Nat) (a1 a2:Option Addr) (c1 c2:Nat) (xs:List R) (hn:xs.length≤2097152) (w:World) (hBw:B≤w.heap.size) (h1:Zah B w a1 xs) (h2:Zah B w a2 xs) :
  Calls Tryz.prog 26 #[.slice a1 xs.length c1,.slice a2 xs.length c2] w fun e w'=>e=.returned (.bool true)/\Below w.heap.size w w':=by
 have H1:=zH (h1.mono hBw);have H2:=zH (h2.mono hBw);clear h1 h2
 go_enter Tryz.func26,Tryz.ntmps26
 go_wp2_with fail
 go_loopw [5] (fun i wr=>∃k:Nat,k≤xs.length/\i=.int .i64 k/\Hid (Below w.heap.size w wr)) (fun i _=>xs.length-(intOf i).toNat)
 case atStart=>exact⟨0,Nat.zero_le _,rfl,Below.refl _ _⟩
 case round=>
  obtain⟨k,hk,rfl,hB⟩:=hrel
  by_cases hlt:k<xs.length
  ·obtain⟨b1,o1,rfl,l1,p0,p1⟩:=(H1.out.below hB.out).at k hlt
   obtain⟨b2,o2,rfl,l2,q0,q1⟩:=(H2.out.below hB.out).at k hlt;generalize Ve.at_ xs k=x at *;have hsz:=hB.out.size;have HQ:Hid (Quad b1 (o1+k*2) b2 (o2+k*2) x x wr):=⟨p0,p1,q0,q1,by omega,by omega⟩;have hin:=Since.refl wr
   go_wp2_with fail
   go_region_held3 (fun w'=>w'.cell? ⟨b1,o1+k*2,none⟩=some (.int .i64 x.1)/\w'.cell? ⟨b1,o1+k*2+1,none⟩=some (.int .i64 x.2)/\w'.cell? ⟨b2,o2+k*2,none⟩=some (.int .i64 x.1)/\w'.cell? ⟨b2,o2+k*2+1,none⟩=some (.int .i64 x.2)/\Since wr w') (first|exact Quad.five HQ (by assumption) | exact Quad.five HQ (Since.drew (by assumption)))
    (first | (go_at_call 25;refine (Zbd (Zgj _ _ _) (B:=wr) (by first|assumption|exact Since.drew (by assumption))).mono ?_;rintro e w' ⟨⟨rfl,_⟩,hin2⟩))
   have Hb2:=zH (hB.out.trans ((Since.low (B:=wr) (wx:=w') (by assumption)).mono hsz));clear hin hin2 HQ
   go_wp2_with fail
   go_roundw
   case rel=>exact⟨k+1,by omega,by go_num,Hb2⟩
   case measure=>simp[intOf];omega
  ·go_wp2_with fail
   go_ret;exact⟨rfl,hB.out⟩
def Zj1 (k n:Nat):List R:=(List.range n).map fun j=>(((k+2*j:Nat):Int),((k+2*j+1:Nat):Int))
def Zp2 (B k:Nat) (v:Value) (n:Nat) (w:World) (e:Ending) (w':World):Prop:=
 e=.returned (.int .i64 ((k:Int)+2*n))/\Zad B w' v (Zj1 k n)/\w.grownBy w' v.ownBlock
def RowR (B g cap n:Nat) (w:World) (xs:List R):Prop:=w.ownsRow B 35 2 (.slice (some ⟨g,0,none⟩) n cap) n (Zau xs)
theorem RowR.cells {B g cap n:Nat} {w:World} {xs:List R} (h:RowR B g cap n w xs) (j:Nat) (hj:j<n*2):(∃v,w.cell? ⟨g,j,none⟩=some v)/\w.frozen? ⟨g,j,none⟩=false:=by
 have hl:=h.1;exact⟨⟨(Zau xs)[j],by rw[World.ownsRow.cellAt h j hj,List.getElem?_eq_getElem (by omega)]⟩,World.ownsRow.frozenAt h j⟩
def Zq8 (w:World) (lo hi:Nat) (a:Option Addr) (xs:List R):Prop:=(∀p,a=some p->lo≤p.block)/\Zah hi w a xs
def AllS (w:World) (L:List (Option Addr×List R×Nat×Nat)):Prop:=∀p,p∈L->Zq8 w p.2.2.1 p.2.2.2 p.1 p.2.1/\p.2.2.2≤w.heap.size
theorem AllS.start (w:World):AllS w []:=fun p hp=>by cases hp
theorem AllS.below {w w':World} {L:List (Option Addr×List R×Nat×Nat)} (h:AllS w L) (hb:Below w.heap.size w w'):AllS w' L:=fun p hp=>
 ⟨⟨(h p hp).1.1,(h p hp).1.2.below (hb.mono (h p hp).2)⟩,Nat.le_trans (h p hp).2 hb.size⟩
theorem AllS.drew {w:World} {L:List (Option Addr×List R×Nat×Nat)} (h:AllS w L):AllS w.drew L:=h
theorem AllS.add {w:World} {L:List (Option Addr×List R×Nat×Nat)} (h:AllS w L) {lo hi:Nat} {a:Option Addr} {xs:List R} (h2:Zah hi w a xs) (h3:∀p,a=some p->lo≤p.block) (h4:hi≤w.heap.size):AllS w ((a,xs,lo,hi)::L):=fun p hp=>by
 rcases List.mem_cons.1 hp with rfl|hp
 ·exact⟨⟨h3,h2⟩,h4⟩
 ·exact h p hp
theorem AllS.get {w:World} {L:List (Option Addr×List R×Nat×Nat)} (h:AllS w L) (a:Option Addr) (xs:List R) (lo hi:Nat) (hm:(a,xs,lo,hi)∈L):Zah w.heap.size w a xs:=(h _ hm).1.2.mono (h _ hm).2
theorem AllS.sub {w:World} {L L':List (Option Addr×List R×Nat×Nat)} (h:AllS w L) (hs:∀p,p∈L'->p∈L):AllS w L':=fun p hp=>h p (hs p hp)
theorem AllS.grown {w w':World} {row:Option Nat} {L:List (Option Addr×List R×Nat×Nat)} (h:AllS w L) (hg:w.grownBy w' row) (hne:∀p,p∈L->∀g,row=some g->g<p.2.2.1\/p.2.2.2≤g):AllS w' L:=fun p hp=>by
 obtain⟨⟨h1,h2⟩,h3⟩:=h p hp;refine⟨⟨h1,h2.same fun q hq hlt=>hg.block q.block (by omega) (fun e=>?_)⟩,Nat.le_trans h3 hg.size⟩;have a1:=hne p hp q.block e.symm;have a2:=h1 q hq;omega
theorem Zad.grown {lo:Nat} {w w':World} {v:Value} {xs:List R} {row:Option Nat} (h:Zad lo w v xs) (hg:w.grownBy w' row) (hne:∀g,v.ownBlock=some g->row≠some g):Zad lo w' v xs:=
 World.ownsRow.kept h hg (by
  cases hv:v.ownBlock with
  | none=>exact .inl rfl
  | some g=>exact .inr (fun e=>hne g hv e.symm))
theorem Zah.narrow {B B':Nat} {w:World} {a:Option Addr} {xs:List R} (h:Zah B w a xs) (ha:∀p,a=some p->p.block<B'):Zah B' w a xs:=fun j x hx=>by
 obtain⟨b,o,h1,h2,h3⟩:=h j x hx;exact⟨b,o,h1,ha ⟨b,o,none⟩ h1,h3⟩
theorem Zd2 (B:Nat) (a:Option Addr) (c:Nat) (xs:List R) (hn:xs.length≤1048576) (w:World) (hBw:B≤w.heap.size) (h1:Zah B w a xs) :
  Calls Tryz.prog 54 #[.slice a xs.length c] w fun e w'=>e=.returned (.bool (Ve.good xs))/\Below w.heap.size w w':=by
 obtain⟨g,hg⟩:∃g,Ve.good xs=g:=⟨_,rfl⟩;rw[hg];have Hg:=zH hg;have H1:=zH (h1.mono hBw);clear hg h1
 go_enter Tryz.func54,Tryz.ntmps54
 go_wp2_with fail
 go_loopw [3] (fun i wr=>∃k:Nat,k≤xs.length/\i=.int .i64 k/\Hid (∀j,j<k->Ve.vld (Ve.at_ xs j)=true)/\Hid (Below w.heap.size w wr)) (fun i _=>xs.length-(intOf i).toNat)
 case atStart=>exact⟨0,Nat.zero_le _,rfl,fun j hj=>absurd hj (by omega),Below.refl _ _⟩
 case round=>
  obtain⟨k,hk,rfl,hA,hB⟩:=hrel
  by_cases hlt:k<xs.length
  ·obtain⟨b,o,rfl,hb,c0,c1⟩:=(H1.out.below hB.out).at k hlt
   rcases hv:Ve.vld (Ve.at_ xs k) with _|_
   ·have Hr:=zH (show false=g from (Ve.Ziv hlt hv).symm.trans Hg.out)
    have Hv:=zH hv;clear hv
    go_wp2_with fail
    refine (Zaf _ _ false Hv.out _).mono ?_;rintro e w1 ⟨rfl,hb1⟩;have Hb:=zH (hB.out.trans (hb1.mono hB.out.size));clear hb1
    go_wp2_with fail
    go_ret;exact⟨Zac Hr.out,Hb.out⟩
   ·have HA2:Hid (∀j,j<k+1->Ve.vld (Ve.at_ xs j)=true):=fun j hj=>by
     by_cases e:j=k
     ·subst e;exact hv
     ·exact hA.out j (by omega)
    have Hv:=zH hv;clear hv
    go_wp2_with fail
    refine (Zaf _ _ true Hv.out _).mono ?_;rintro e w1 ⟨rfl,hb1⟩;have Hb:=zH (hB.out.trans (hb1.mono hB.out.size));clear hb1
    go_wp2_with fail
    go_roundw
    case rel=>exact⟨k+1,by omega,by go_num,HA2,Hb⟩
    case measure=>simp[intOf];omega
  ·have Hr:=zH (show true=g by rw[<-Hg.out];exact (Ve.Zjr fun j hj=>hA.out j (by omega)).symm)
   go_wp2_with fail
   go_ret;exact⟨Zac Hr.out,hB.out⟩
theorem Zcm (B:Nat) (a:Option Addr) (c:Nat) (xs:List R) (hn:xs.length≤1048576) (w:World) (hBw:B≤w.heap.size) (h1:Zah B w a xs) :
  Calls Tryz.prog 82 #[.slice a xs.length c] w fun e w'=>e=.returned (.bool (Ve.good xs))/\Below w.heap.size w w':=by
 obtain⟨g,hg⟩:∃g,Ve.good xs=g:=⟨_,rfl⟩;rw[hg];have Hg:=zH hg;have H1:=zH (h1.mono hBw);clear hg h1
 go_enter Tryz.func82,Tryz.ntmps82
 go_wp2_with fail
 go_loopw [7] (fun i wr=>∃k:Nat,k≤xs.length/\i=.int .i64 k/\Hid (∀j,j<k->Ve.vld (Ve.at_ xs j)=true)/\Hid (Below w.heap.size w wr)) (fun i _=>xs.length-(intOf i).toNat)
 case atStart=>exact⟨0,Nat.zero_le _,rfl,fun j hj=>absurd hj (by omega),Below.refl _ _⟩
 case round=>
  obtain⟨k,hk,rfl,hA,hB⟩:=hrel
  by_cases hlt:k<xs.length
  ·obtain⟨b,o,rfl,hb,c0,c1⟩:=(H1.out.below hB.out).at k hlt
   rcases hv:Ve.vld (Ve.at_ xs k) with _|_
   ·have Hr:=zH (show false=g from (Ve.Ziv hlt hv).symm.trans Hg.out)
    have Hv:=zH hv;clear hv
    go_wp2_with fail
    refine (Zbe _ _ false Hv.out _).mono ?_;rintro e w1 ⟨rfl,hb1⟩;have Hb:=zH ((hB.out.alloc hB.out.size (.cells #[.int .i64 (Ve.at_ xs k).1,.int .i64 (Ve.at_ xs k).2] 35)).trans (hb1.mono (by have:=hB.out.size;rw[Zar];omega)));clear hb1
    go_wp2_with fail
    go_ret;exact⟨Zac Hr.out,Hb.out⟩
   ·have HA2:Hid (∀j,j<k+1->Ve.vld (Ve.at_ xs j)=true):=fun j hj=>by
     by_cases e:j=k
     ·subst e;exact hv
     ·exact hA.out j (by omega)
    have Hv:=zH hv;clear hv
    go_wp2_with fail
    refine (Zbe _ _ true Hv.out _).mono ?_;rintro e w1 ⟨rfl,hb1⟩;have Hb:=zH ((hB.out.alloc hB.out.size (.cells #[.int .i64 (Ve.at_ xs k).1,.int .i64 (Ve.at_ xs k).2] 35)).trans (hb1.mono (by have:=hB.out.size;rw[Zar];omega)));clear hb1
    go_wp2_with fail
    go_roundw
    case rel=>exact⟨k+1,by omega,by go_num,HA2,Hb⟩
    case measure=>simp[intOf];omega
  ·have Hr:=zH (show true=g by rw[<-Hg.out];exact (Ve.Zjr fun j hj=>hA.out j (by omega)).symm)
   go_wp2_with fail
   go_ret;exact⟨Zac Hr.out,hB.out⟩
def eqV (xs ys:List R):Bool:=decide (xs=ys)
open Go.RowKit Go.Deep Go.ChangeShapes Go.WideShapes
theorem Zmn {H:Type} {enc:TypeId×Value->H} {W:World} {fuel:Nat} {a:Option Addr} {len cap:Nat} {x:DataW H×List MemPlace}
  (h:DataW.trod enc Tryz.prog W 0 (fun _=>true) true fuel 27 [.slice a len cap]=some x):∃zs:List R,zs.length=len/\len≤9223372036854775807/\Zah W.heap.size W a zs:=by
 rcases open_slice_pairs Tryz.underlying27 Tryz.underlying26 (by kernel_rfl) rfl rfl (by kernel_rfl) (by kernel_rfl) h with ⟨hcs,_⟩ | ⟨a',len',cap',m,n,V0,V1,D0,D1,P0,P1,hcs,_,hl,hm,hmm,_,hi⟩
 ·simp at hcs
  obtain⟨rfl,rfl,rfl⟩:=hcs;exact⟨[],rfl,by decide,Zah.nil _ _ _⟩
 ·simp at hcs
  obtain⟨rfl,rfl,rfl⟩:=hcs;have hlm:len≤m:=by rw[hmm];split<;>omega
  refine⟨(List.range len).map fun i=>(intOf (V0 i),intOf (V1 i)),by simp,by unfold maxLen at hm;omega,fun j y hy=>?_⟩;have hj:j<len:=by have:=(List.getElem?_eq_some_iff.1 hy).1;simpa using this
  obtain⟨c0,c1,t0,t1⟩:=hi j (by omega);obtain⟨n0,e0,_,_⟩:=DataW.trod_int Tryz.underlying3 t0;obtain⟨n1,e1,_,_⟩:=DataW.trod_int Tryz.underlying3 t1;simp only[List.cons.injEq,and_true] at e0 e1;obtain rfl:(intOf (V0 j),intOf (V1 j))=y:=by simpa [hj] using hy
  obtain⟨b,o,sp⟩:=a';have hsp:sp=none:=by
   obtain⟨d0,d1,_,_⟩:=hi 0 (by omega);have h2:=World.cell?_spot d0;unfold Addr.add at h2;rw[if_pos (by decide)] at h2;exact h2
  subst hsp;rw[Zob] at c0 c1;have hb:b<W.heap.size:=block_lt_of_cell (a:=⟨b,o+j*2,none⟩) c0;refine⟨b,o,rfl,hb,?_,?_⟩
  ·rw[c0,e0];rfl
  ·rw[show o+j*2+1=o+(j*2+1) by omega,c1,e1];rfl
end Go.Proofs.YtpjnjidbdpfdcaaGreat
