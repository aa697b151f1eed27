/- The parts Vec, VeB, VeS, VeA, RatsIn. -/
import Derived.Test.YtjfnleilddgjiaaGreatHHeldT
import Derived.Test.YtjfnleilddgjiaaGreatGM
import Derived.Test.YtjfnleilddgjiaaGreatGRa
import Derived.Laws.OwnMore
import Derived.Test.YtjfnleilddgjiaaGreatHGrI
import Derived.Deep.SlicePairs
import Derived.ChangeArms
import Derived.OpenShut
set_option maxHeartbeats 1000000
namespace Go.Proofs.YtjfnleilddgjiaaGreat
open Go.RowKit
open Ve (R)
theorem Zdf:(Tryz.prog.info? 59).map (fun i=>(i.zero,i.size,i.bytes))=some (some (.agg #[.int .i64 0,.int .i64 0]),2,16):=by kernel_rfl
def Zat:List R->List Value
 | []=>[]
 | x::xs=>.int .i64 x.1 :: .int .i64 x.2::Zat xs
theorem Zch:∀xs:List R,(Zat xs).length=xs.length*2
 | []=>rfl
 | _::xs=>by simp only[Zat,List.length_cons,Zch xs];omega
theorem Zk1:∀(xs:List R) (x:R),Zat (xs++[x])=Zat xs++[.int .i64 x.1,.int .i64 x.2]
 | [],x=>rfl
 | y::xs,x=>by simp only[Zat,List.cons_append,Zk1 xs x]
theorem Zkz:∀(xs:List R) (k:Nat) (x:R),xs[k]? = some x->(Zat xs)[k*2]? = some (.int .i64 x.1)/\(Zat xs)[k*2+1]? = some (.int .i64 x.2)
 | [],k,x,h=>by simp at h
 | y::xs,0,x,h=>by
  obtain rfl:y=x:=by simpa using h
  exact⟨rfl,rfl⟩
 | y::xs,k+1,x,h=>by
  have:=Zkz xs k x (by simpa using h);rw[show (k+1)*2=k*2+1+1 by omega];simp only[Zat,List.getElem?_cons_succ];exact this
def Zaa (B:Nat) (w:World) (v:Value) (xs:List R):Prop:=w.ownsRow B 59 2 v xs.length (Zat xs)
def Zaj (B:Nat) (w:World) (a:Option Addr) (xs:List R):Prop:=∀j x,xs[j]? = some x->∃b o:Nat,a=some ⟨b,o,none⟩/\b<B/\w.cell? ⟨b,o+j*2,none⟩=some (.int .i64 x.1)/\w.cell? ⟨b,o+j*2+1,none⟩=some (.int .i64 x.2)
theorem Zaj.nil (B:Nat) (w:World) (a:Option Addr):Zaj B w a []:=fun j x h=>by simp at h
theorem Zaj.at {B:Nat} {w:World} {a:Option Addr} {xs:List R} (h:Zaj B w a xs) (k:Nat) (hk:k<xs.length) :
  ∃b o:Nat,a=some ⟨b,o,none⟩/\b<B/\w.cell? ⟨b,o+k*2,none⟩=some (.int .i64 (Ve.at_ xs k).1)/\w.cell? ⟨b,o+k*2+1,none⟩=some (.int .i64 (Ve.at_ xs k).2):=
 h k _ (Ve.Z0h hk)
theorem Zaj.drewN {B:Nat} {w:World} {a:Option Addr} {xs:List R} (h:Zaj B w a xs) (d:Nat):Zaj B (w.drewN d) a xs:=h
theorem Zaj.drew {B:Nat} {w:World} {a:Option Addr} {xs:List R} (h:Zaj B w a xs):Zaj B w.drew a xs:=h
theorem Zaj.below {B:Nat} {w w':World} {a:Option Addr} {xs:List R} (h:Zaj B w a xs) (hb:Below B w w'):Zaj B w' a xs:=fun j x hx=>by
 obtain⟨b,o,h1,h2,h3,h4⟩:=h j x hx;exact⟨b,o,h1,h2,by rw[hb.cell (p:=⟨b,o+j*2,none⟩) h2];exact h3,by rw[hb.cell (p:=⟨b,o+j*2+1,none⟩) h2];exact h4⟩
theorem Zaj.mono {B B':Nat} {w:World} {a:Option Addr} {xs:List R} (h:Zaj B w a xs) (hB:B≤B'):Zaj B' w a xs:=fun j x hx=>by
 obtain⟨b,o,h1,h2,h3⟩:=h j x hx;exact⟨b,o,h1,by omega,h3⟩
theorem Zaj.same {B:Nat} {w w':World} {a:Option Addr} {xs:List R} (h:Zaj B w a xs) (ha:∀p,a=some p->p.block<B->w'.heap[p.block]? = w.heap[p.block]?):Zaj B w' a xs:=fun j x hx=>by
 obtain⟨b,o,h1,h2,h3,h4⟩:=h j x hx;have e:=ha ⟨b,o,none⟩ h1 h2;exact⟨b,o,h1,h2,by rw[World.cell?_of_block (w:=w) (a:=⟨b,o+j*2,none⟩) e];exact h3,by rw[World.cell?_of_block (w:=w) (a:=⟨b,o+j*2+1,none⟩) e];exact h4⟩
theorem Zai {B:Nat} {w:World} {v:Value} {xs:List R} (h:Zaa B w v xs) :
  ∃a cap,v=.slice a xs.length cap/\Zaj w.heap.size w a xs/\(∀p,a=some p->B≤p.block/\p.block<w.heap.size)/\(xs≠[]->∃g,a=some ⟨g,0,none⟩):=by
 have h':=h;obtain⟨h1,⟨hv,hn⟩ | ⟨g,cap,cur,rfl,hg,hh,hr⟩⟩:=h'
 ·have hx:xs = []:=List.eq_nil_of_length_eq_zero hn
  subst hx;exact⟨none,0,by rw[hv];rfl,Zaj.nil _ _ _,(fun p hp=>by cases hp),fun h=>absurd rfl h⟩
 ·have hlt:g<w.heap.size:=Zab hh
  refine⟨some ⟨g,0,none⟩,cap,rfl,fun j x hx=>⟨g,0,rfl,hlt,?_⟩,fun p hp=>?_,fun _=>⟨g,rfl⟩⟩
  ·have hj:j<xs.length:=(List.getElem?_eq_some_iff.1 hx).1
   obtain⟨e1,e2⟩:=Zkz xs j x hx;rw[Nat.zero_add,World.ownsRow.cellAt h (j*2) (by omega),World.ownsRow.cellAt h (j*2+1) (by omega)];exact⟨e1,e2⟩
  ·obtain rfl:=Option.some.inj hp
   exact⟨hg,hlt⟩
theorem Zaa.nil (B:Nat) (w:World):Zaa B w (.slice none 0 0) []:=World.ownsRow_nil _ _ _ _
theorem Zaa.more {B:Nat} {w':World} {v':Value} {xs:List R} {x:R} (h:w'.ownsRow B 59 2 v' (xs.length+1) (Zat xs++[.int .i64 x.1,.int .i64 x.2])):Zaa B w' v' (xs++[x]):=by
 unfold Zaa;rw[Zk1,List.length_append];exact h
theorem Zaa.below {B:Nat} {w w':World} {v:Value} {xs:List R} (h:Zaa B w v xs) (hb:Below w.heap.size w w'):Zaa B w' v xs:=
 World.ownsRow.kept h (row:=none) ⟨hb.os,hb.tape,hb.output,hb.size,fun k hk _=>hb.block k hk⟩ (by cases v.ownBlock<;>simp)
theorem Zaa.drewN {B:Nat} {w:World} {v:Value} {xs:List R} (h:Zaa B w v xs) (d:Nat):Zaa B (w.drewN d) v xs:=h
theorem Zaa.alloc {B:Nat} {w:World} {v:Value} {xs:List R} (h:Zaa B w v xs) (o:Obj):Zaa B (w.alloc o) v xs:=World.ownsRow.alloc h o
theorem Zaa.lower {B B':Nat} {w:World} {v:Value} {xs:List R} (h:Zaa B' w v xs) (hB:B≤B'):Zaa B w v xs:=by
 obtain⟨h1,h2|⟨g,cap,cur,e,hg,rest⟩⟩:=h
 ·exact⟨h1,.inl h2⟩
 ·exact⟨h1,.inr ⟨g,cap,cur,e,by omega,rest⟩⟩
def Zbe (xs:List R) (w:World) (e:Ending) (w':World):Prop:=∃v,e=.returned v/\Zaa w.heap.size w' v xs/\Below w.heap.size w w'
def Zb5 (xs:List R) (k:Bool) (w:World) (e:Ending) (w':World):Prop:=∃v,e=.returned (.tuple #[v,.bool k])/\Zaa w.heap.size w' v xs/\Below w.heap.size w w'
def Zjk (x:R) (k:Bool) (w:World) (e:Ending) (w':World):Prop:=e=.returned (.tuple #[.agg #[.int .i64 x.1,.int .i64 x.2],.bool k])/\Below w.heap.size w w'
def Z4a (B g n k:Nat) (wr:World) (xs:List R):Prop:=
 ∃L:List Value,wr.ownsRow B 59 2 (.slice (some ⟨g,0,none⟩) n n) n L/\∀j x,j<k->xs[j]? = some x->L[j*2]? = some (.int .i64 x.1)/\L[j*2+1]? = some (.int .i64 x.2)
def Quad (b1 k1 b2 k2:Nat) (x y:R) (B:World):Prop:=
 B.cell? ⟨b1,k1,none⟩=some (.int .i64 x.1)/\B.cell? ⟨b1,k1+1,none⟩=some (.int .i64 x.2)/\B.cell? ⟨b2,k2,none⟩=some (.int .i64 y.1)/\B.cell? ⟨b2,k2+1,none⟩=some (.int .i64 y.2)/\b1<B.heap.size/\b2<B.heap.size
theorem Quad.five {b1 k1 b2 k2:Nat} {x y:R} {B wx:World} (H:Hid (Quad b1 k1 b2 k2 x y B)) (h:Since B wx) :
  wx.cell? ⟨b1,k1,none⟩=some (.int .i64 x.1)/\wx.cell? ⟨b1,k1+1,none⟩=some (.int .i64 x.2)/\wx.cell? ⟨b2,k2,none⟩=some (.int .i64 y.1)/\wx.cell? ⟨b2,k2+1,none⟩=some (.int .i64 y.2)/\Since B wx:=
 ⟨h.cell (p:=⟨b1,k1,none⟩) H.out.2.2.2.2.1 H.out.1,h.cell (p:=⟨b1,k1+1,none⟩) H.out.2.2.2.2.1 H.out.2.1,h.cell (p:=⟨b2,k2,none⟩) H.out.2.2.2.2.2 H.out.2.2.1,h.cell (p:=⟨b2,k2+1,none⟩) H.out.2.2.2.2.2 H.out.2.2.2.1,h⟩
def Zp7 (k n:Nat):List R:=(List.range n).map fun j=>(((k+2*j:Nat):Int),((k+2*j+1:Nat):Int))
def Z2n (B k:Nat) (v:Value) (n:Nat) (w:World) (e:Ending) (w':World):Prop:=
 e=.returned (.int .i64 ((k:Int)+2*n))/\Zaa B w' v (Zp7 k n)/\w.grownBy w' v.ownBlock
def RowR (B g cap n:Nat) (w:World) (xs:List R):Prop:=w.ownsRow B 59 2 (.slice (some ⟨g,0,none⟩) n cap) n (Zat xs)
theorem RowR.pair {B g cap n:Nat} {w:World} {xs:List R} (h:RowR B g cap n w xs) (j:Nat) (x y:Value) :
  ((w.setCell ⟨g,j,none⟩ x).setCell ⟨g,j+1,none⟩ y).ownsRow B 59 2 (.slice (some ⟨g,0,none⟩) n cap) n (((Zat xs).set j x).set (j+1) y):=
 ((World.ownsRow.stored h j x).1.stored (j+1) y).1
theorem RowR.cells {B g cap n:Nat} {w:World} {xs:List R} (h:RowR B g cap n w xs) (j:Nat) (hj:j<n*2):(∃v,w.cell? ⟨g,j,none⟩=some v)/\w.frozen? ⟨g,j,none⟩=false:=by
 have hl:=h.1;exact⟨⟨(Zat xs)[j],by rw[World.ownsRow.cellAt h j hj,List.getElem?_eq_getElem (by omega)]⟩,World.ownsRow.frozenAt h j⟩
def Z4j (w:World) (lo hi:Nat) (a:Option Addr) (xs:List R):Prop:=(∀p,a=some p->lo≤p.block)/\Zaj hi w a xs
def AllS (w:World) (L:List (Option Addr×List R×Nat×Nat)):Prop:=∀p,p∈L->Z4j w p.2.2.1 p.2.2.2 p.1 p.2.1/\p.2.2.2≤w.heap.size
theorem AllS.start (w:World):AllS w []:=fun p hp=>by cases hp
theorem AllS.below {w w':World} {L:List (Option Addr×List R×Nat×Nat)} (h:AllS w L) (hb:Below w.heap.size w w'):AllS w' L:=fun p hp=>
 ⟨⟨(h p hp).1.1,(h p hp).1.2.below (hb.mono (h p hp).2)⟩,Nat.le_trans (h p hp).2 hb.size⟩
theorem AllS.drew {w:World} {L:List (Option Addr×List R×Nat×Nat)} (h:AllS w L):AllS w.drew L:=h
theorem AllS.add {w:World} {L:List (Option Addr×List R×Nat×Nat)} (h:AllS w L) {lo hi:Nat} {a:Option Addr} {xs:List R} (h2:Zaj hi w a xs) (h3:∀p,a=some p->lo≤p.block) (h4:hi≤w.heap.size):AllS w ((a,xs,lo,hi)::L):=fun p hp=>by
 rcases List.mem_cons.1 hp with rfl|hp
 ·exact⟨⟨h3,h2⟩,h4⟩
 ·exact h p hp
theorem AllS.get {w:World} {L:List (Option Addr×List R×Nat×Nat)} (h:AllS w L) (a:Option Addr) (xs:List R) (lo hi:Nat) (hm:(a,xs,lo,hi)∈L):Zaj w.heap.size w a xs:=(h _ hm).1.2.mono (h _ hm).2
theorem AllS.sub {w:World} {L L':List (Option Addr×List R×Nat×Nat)} (h:AllS w L) (hs:∀p,p∈L'->p∈L):AllS w L':=fun p hp=>h p (hs p hp)
theorem AllS.grown {w w':World} {row:Option Nat} {L:List (Option Addr×List R×Nat×Nat)} (h:AllS w L) (hg:w.grownBy w' row) (hne:∀p,p∈L->∀g,row=some g->g<p.2.2.1\/p.2.2.2≤g):AllS w' L:=fun p hp=>by
 obtain⟨⟨h1,h2⟩,h3⟩:=h p hp;refine⟨⟨h1,h2.same fun q hq hlt=>hg.block q.block (by omega) (fun e=>?_)⟩,Nat.le_trans h3 hg.size⟩;have a1:=hne p hp q.block e.symm;have a2:=h1 q hq;omega
theorem Zaa.grown {lo:Nat} {w w':World} {v:Value} {xs:List R} {row:Option Nat} (h:Zaa lo w v xs) (hg:w.grownBy w' row) (hne:∀g,v.ownBlock=some g->row≠some g):Zaa lo w' v xs:=
 World.ownsRow.kept h hg (by
  cases hv:v.ownBlock with
  | none=>exact .inl rfl
  | some g=>exact .inr (fun e=>hne g hv e.symm))
theorem Zaj.narrow {B B':Nat} {w:World} {a:Option Addr} {xs:List R} (h:Zaj B w a xs) (ha:∀p,a=some p->p.block<B'):Zaj B' w a xs:=fun j x hx=>by
 obtain⟨b,o,h1,h2,h3⟩:=h j x hx;exact⟨b,o,h1,ha ⟨b,o,none⟩ h1,h3⟩
theorem Zf8 (B:Nat) (a:Option Addr) (c:Nat) (xs:List R) (hn:xs.length≤1048576) (w:World) (hBw:B≤w.heap.size) (h1:Zaj B w a xs) :
  Calls Tryz.prog 139 #[.slice a xs.length c] w fun e w'=>e=.returned (.bool (Ve.good xs))/\Below w.heap.size w w':=by
 obtain⟨g,hg⟩:∃g,Ve.good xs=g:=⟨_,rfl⟩;rw[hg];have Hg:=zH hg;have H1:=zH (h1.mono hBw);clear hg h1
 go_enter Tryz.func139,Tryz.ntmps139
 go_wp2_with fail
 go_loopw [3] (fun i wr=>∃k:Nat,k≤xs.length/\i=.int .i64 k/\Hid (∀j,j<k->Ve.vld (Ve.at_ xs j)=true)/\Hid (Below w.heap.size w wr)) (fun i _=>xs.length-(intOf i).toNat)
 case atStart=>exact⟨0,Nat.zero_le _,rfl,fun j hj=>absurd hj (by omega),Below.refl _ _⟩
 case round=>
  obtain⟨k,hk,rfl,hA,hB⟩:=hrel
  by_cases hlt:k<xs.length
  ·obtain⟨b,o,rfl,hb,c0,c1⟩:=(H1.out.below hB.out).at k hlt
   rcases hv:Ve.vld (Ve.at_ xs k) with _|_
   ·have Hr:=zH (show false=g from (Ve.Zrm hlt hv).symm.trans Hg.out)
    have Hv:=zH hv;clear hv
    go_wp2_with fail
    refine (Zag _ _ false Hv.out _).mono ?_;rintro e w1 ⟨rfl,hb1⟩;have Hb:=zH (hB.out.trans (hb1.mono hB.out.size));clear hb1
    go_wp2_with fail
    go_ret;exact⟨Zac Hr.out,Hb.out⟩
   ·have HA2:Hid (∀j,j<k+1->Ve.vld (Ve.at_ xs j)=true):=fun j hj=>by
     by_cases e:j=k
     ·subst e;exact hv
     ·exact hA.out j (by omega)
    have Hv:=zH hv;clear hv
    go_wp2_with fail
    refine (Zag _ _ true Hv.out _).mono ?_;rintro e w1 ⟨rfl,hb1⟩;have Hb:=zH (hB.out.trans (hb1.mono hB.out.size));clear hb1
    go_wp2_with fail
    go_roundw
    case rel=>exact⟨k+1,by omega,by go_num,HA2,Hb⟩
    case measure=>simp[intOf];omega
  ·have Hr:=zH (show true=g by rw[<-Hg.out];exact (Ve.Zn6 fun j hj=>hA.out j (by omega)).symm)
   go_wp2_with fail
   go_ret;exact⟨Zac Hr.out,hB.out⟩
theorem Zer (B:Nat) (a:Option Addr) (c:Nat) (xs:List R) (hn:xs.length≤1048576) (w:World) (hBw:B≤w.heap.size) (h1:Zaj B w a xs) :
  Calls Tryz.prog 90 #[.slice a xs.length c] w fun e w'=>e=.returned (.bool (Ve.good xs))/\Below w.heap.size w w':=by
 obtain⟨g,hg⟩:∃g,Ve.good xs=g:=⟨_,rfl⟩;rw[hg];have Hg:=zH hg;have H1:=zH (h1.mono hBw);clear hg h1
 go_enter Tryz.func90,Tryz.ntmps90
 go_wp2_with fail
 go_loopw [7] (fun i wr=>∃k:Nat,k≤xs.length/\i=.int .i64 k/\Hid (∀j,j<k->Ve.vld (Ve.at_ xs j)=true)/\Hid (Below w.heap.size w wr)) (fun i _=>xs.length-(intOf i).toNat)
 case atStart=>exact⟨0,Nat.zero_le _,rfl,fun j hj=>absurd hj (by omega),Below.refl _ _⟩
 case round=>
  obtain⟨k,hk,rfl,hA,hB⟩:=hrel
  by_cases hlt:k<xs.length
  ·obtain⟨b,o,rfl,hb,c0,c1⟩:=(H1.out.below hB.out).at k hlt
   rcases hv:Ve.vld (Ve.at_ xs k) with _|_
   ·have Hr:=zH (show false=g from (Ve.Zrm hlt hv).symm.trans Hg.out)
    have Hv:=zH hv;clear hv
    go_wp2_with fail
    refine (Zcq _ _ false Hv.out _).mono ?_;rintro e w1 ⟨rfl,hb1⟩;have Hb:=zH ((hB.out.alloc hB.out.size (.cells #[.int .i64 (Ve.at_ xs k).1,.int .i64 (Ve.at_ xs k).2] 59)).trans (hb1.mono (by have:=hB.out.size;rw[Zao];omega)));clear hb1
    go_wp2_with fail
    go_ret;exact⟨Zac Hr.out,Hb.out⟩
   ·have HA2:Hid (∀j,j<k+1->Ve.vld (Ve.at_ xs j)=true):=fun j hj=>by
     by_cases e:j=k
     ·subst e;exact hv
     ·exact hA.out j (by omega)
    have Hv:=zH hv;clear hv
    go_wp2_with fail
    refine (Zcq _ _ true Hv.out _).mono ?_;rintro e w1 ⟨rfl,hb1⟩;have Hb:=zH ((hB.out.alloc hB.out.size (.cells #[.int .i64 (Ve.at_ xs k).1,.int .i64 (Ve.at_ xs k).2] 59)).trans (hb1.mono (by have:=hB.out.size;rw[Zao];omega)));clear hb1
    go_wp2_with fail
    go_roundw
    case rel=>exact⟨k+1,by omega,by go_num,HA2,Hb⟩
    case measure=>simp[intOf];omega
  ·have Hr:=zH (show true=g by rw[<-Hg.out];exact (Ve.Zn6 fun j hj=>hA.out j (by omega)).symm)
   go_wp2_with fail
   go_ret;exact⟨Zac Hr.out,hB.out⟩
def eqV (xs ys:List R):Bool:=decide (xs=ys)
open Go.RowKit Go.Deep Go.ChangeShapes Go.WideShapes
end Go.Proofs.YtjfnleilddgjiaaGreat
