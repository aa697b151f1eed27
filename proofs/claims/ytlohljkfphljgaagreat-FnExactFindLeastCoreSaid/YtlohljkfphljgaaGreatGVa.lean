/- The parts Vec, VeB, VeS, VeA, RatsIn. -/
import Derived.Test.YtlohljkfphljgaaGreatGB
import Derived.Test.YtlohljkfphljgaaGreatGM
import Derived.Test.YtlohljkfphljgaaGreatGRa
import Derived.Laws.OwnMore
import Derived.Test.YtlohljkfphljgaaGreatHGrI
import Derived.Deep.SlicePairs
import Derived.ChangeArms
import Derived.OpenShut
set_option maxRecDepth 100000
set_option maxHeartbeats 1000000
namespace Go.Proofs.YtlohljkfphljgaaGreat
open Go.RowKit
open Ve (R)
theorem Zeo:(Tryz.prog.info? 31).map (fun i=>(i.zero,i.size,i.bytes))=some (some (.agg #[.int .i64 0,.int .i64 0]),2,16):=by kernel_rfl
def Zaq:List R->List Value
 | []=>[]
 | x::xs=>.int .i64 x.1 :: .int .i64 x.2::Zaq xs
theorem Zb7:∀xs:List R,(Zaq xs).length=xs.length*2
 | []=>rfl
 | _::xs=>by simp only[Zaq,List.length_cons,Zb7 xs];omega
theorem Zkp:∀(xs:List R) (x:R),Zaq (xs++[x])=Zaq xs++[.int .i64 x.1,.int .i64 x.2]
 | [],x=>rfl
 | y::xs,x=>by simp only[Zaq,List.cons_append,Zkp xs x]
theorem Zkn:∀(xs:List R) (k:Nat) (x:R),xs[k]? = some x->(Zaq xs)[k*2]? = some (.int .i64 x.1)/\(Zaq xs)[k*2+1]? = some (.int .i64 x.2)
 | [],k,x,h=>by simp at h
 | y::xs,0,x,h=>by
  obtain rfl:y=x:=by simpa using h
  exact⟨rfl,rfl⟩
 | y::xs,k+1,x,h=>by
  have:=Zkn xs k x (by simpa using h);rw[show (k+1)*2=k*2+1+1 by omega];simp only[Zaq,List.getElem?_cons_succ];exact this
def Zaa (B:Nat) (w:World) (v:Value) (xs:List R):Prop:=w.ownsRow B 31 2 v xs.length (Zaq xs)
def Zah (B:Nat) (w:World) (a:Option Addr) (xs:List R):Prop:=∀j x,xs[j]? = some x->∃b o:Nat,a=some ⟨b,o,none⟩/\b<B/\w.cell? ⟨b,o+j*2,none⟩=some (.int .i64 x.1)/\w.cell? ⟨b,o+j*2+1,none⟩=some (.int .i64 x.2)
theorem Zah.nil (B:Nat) (w:World) (a:Option Addr):Zah B w a []:=fun j x h=>by simp at h
theorem Zah.at {B:Nat} {w:World} {a:Option Addr} {xs:List R} (h:Zah B w a xs) (k:Nat) (hk:k<xs.length) :
  ∃b o:Nat,a=some ⟨b,o,none⟩/\b<B/\w.cell? ⟨b,o+k*2,none⟩=some (.int .i64 (Ve.at_ xs k).1)/\w.cell? ⟨b,o+k*2+1,none⟩=some (.int .i64 (Ve.at_ xs k).2):=
 h k _ (Ve.Zzw hk)
theorem Zah.drewN {B:Nat} {w:World} {a:Option Addr} {xs:List R} (h:Zah B w a xs) (d:Nat):Zah B (w.drewN d) a xs:=h
theorem Zah.drew {B:Nat} {w:World} {a:Option Addr} {xs:List R} (h:Zah B w a xs):Zah B w.drew a xs:=h
theorem Zah.below {B:Nat} {w w':World} {a:Option Addr} {xs:List R} (h:Zah B w a xs) (hb:Below B w w'):Zah B w' a xs:=fun j x hx=>by
 obtain⟨b,o,h1,h2,h3,h4⟩:=h j x hx;exact⟨b,o,h1,h2,by rw[hb.cell (p:=⟨b,o+j*2,none⟩) h2];exact h3,by rw[hb.cell (p:=⟨b,o+j*2+1,none⟩) h2];exact h4⟩
theorem Zah.mono {B B':Nat} {w:World} {a:Option Addr} {xs:List R} (h:Zah B w a xs) (hB:B≤B'):Zah B' w a xs:=fun j x hx=>by
 obtain⟨b,o,h1,h2,h3⟩:=h j x hx;exact⟨b,o,h1,by omega,h3⟩
theorem Zah.same {B:Nat} {w w':World} {a:Option Addr} {xs:List R} (h:Zah B w a xs) (ha:∀p,a=some p->p.block<B->w'.heap[p.block]? = w.heap[p.block]?):Zah B w' a xs:=fun j x hx=>by
 obtain⟨b,o,h1,h2,h3,h4⟩:=h j x hx;have e:=ha ⟨b,o,none⟩ h1 h2;exact⟨b,o,h1,h2,by rw[World.cell?_of_block (w:=w) (a:=⟨b,o+j*2,none⟩) e];exact h3,by rw[World.cell?_of_block (w:=w) (a:=⟨b,o+j*2+1,none⟩) e];exact h4⟩
theorem Zai {B:Nat} {w:World} {v:Value} {xs:List R} (h:Zaa B w v xs) :
  ∃a cap,v=.slice a xs.length cap/\Zah w.heap.size w a xs/\(∀p,a=some p->B≤p.block/\p.block<w.heap.size)/\(xs≠[]->∃g,a=some ⟨g,0,none⟩):=by
 have h':=h;obtain⟨h1,⟨hv,hn⟩ | ⟨g,cap,cur,rfl,hg,hh,hr⟩⟩:=h'
 ·have hx:xs = []:=List.eq_nil_of_length_eq_zero hn
  subst hx;exact⟨none,0,by rw[hv];rfl,Zah.nil _ _ _,(fun p hp=>by cases hp),fun h=>absurd rfl h⟩
 ·have hlt:g<w.heap.size:=Zab hh
  refine⟨some ⟨g,0,none⟩,cap,rfl,fun j x hx=>⟨g,0,rfl,hlt,?_⟩,fun p hp=>?_,fun _=>⟨g,rfl⟩⟩
  ·have hj:j<xs.length:=(List.getElem?_eq_some_iff.1 hx).1
   obtain⟨e1,e2⟩:=Zkn xs j x hx;rw[Nat.zero_add,World.ownsRow.cellAt h (j*2) (by omega),World.ownsRow.cellAt h (j*2+1) (by omega)];exact⟨e1,e2⟩
  ·obtain rfl:=Option.some.inj hp
   exact⟨hg,hlt⟩
theorem Zaa.nil (B:Nat) (w:World):Zaa B w (.slice none 0 0) []:=World.ownsRow_nil _ _ _ _
theorem Zaa.more {B:Nat} {w':World} {v':Value} {xs:List R} {x:R} (h:w'.ownsRow B 31 2 v' (xs.length+1) (Zaq xs++[.int .i64 x.1,.int .i64 x.2])):Zaa B w' v' (xs++[x]):=by
 unfold Zaa;rw[Zkp,List.length_append];exact h
theorem Zaa.below {B:Nat} {w w':World} {v:Value} {xs:List R} (h:Zaa B w v xs) (hb:Below w.heap.size w w'):Zaa B w' v xs:=
 World.ownsRow.kept h (row:=none) ⟨hb.os,hb.tape,hb.output,hb.size,fun k hk _=>hb.block k hk⟩ (by cases v.ownBlock<;>simp)
theorem Zaa.drewN {B:Nat} {w:World} {v:Value} {xs:List R} (h:Zaa B w v xs) (d:Nat):Zaa B (w.drewN d) v xs:=h
theorem Zaa.alloc {B:Nat} {w:World} {v:Value} {xs:List R} (h:Zaa B w v xs) (o:Obj):Zaa B (w.alloc o) v xs:=World.ownsRow.alloc h o
theorem Zaa.lower {B B':Nat} {w:World} {v:Value} {xs:List R} (h:Zaa B' w v xs) (hB:B≤B'):Zaa B w v xs:=by
 obtain⟨h1,h2|⟨g,cap,cur,e,hg,rest⟩⟩:=h
 ·exact⟨h1,.inl h2⟩
 ·exact⟨h1,.inr ⟨g,cap,cur,e,by omega,rest⟩⟩
def Zbg (xs:List R) (w:World) (e:Ending) (w':World):Prop:=∃v,e=.returned v/\Zaa w.heap.size w' v xs/\Below w.heap.size w w'
def Zcw (xs:List R) (k:Bool) (w:World) (e:Ending) (w':World):Prop:=∃v,e=.returned (.tuple #[v,.bool k])/\Zaa w.heap.size w' v xs/\Below w.heap.size w w'
def Zmr (x:R) (k:Bool) (w:World) (e:Ending) (w':World):Prop:=e=.returned (.tuple #[.agg #[.int .i64 x.1,.int .i64 x.2],.bool k])/\Below w.heap.size w w'
def Z3f (B g n k:Nat) (wr:World) (xs:List R):Prop:=
 ∃L:List Value,wr.ownsRow B 31 2 (.slice (some ⟨g,0,none⟩) n n) n L/\∀j x,j<k->xs[j]? = some x->L[j*2]? = some (.int .i64 x.1)/\L[j*2+1]? = some (.int .i64 x.2)
def Quad (b1 k1 b2 k2:Nat) (x y:R) (B:World):Prop:=
 B.cell? ⟨b1,k1,none⟩=some (.int .i64 x.1)/\B.cell? ⟨b1,k1+1,none⟩=some (.int .i64 x.2)/\B.cell? ⟨b2,k2,none⟩=some (.int .i64 y.1)/\B.cell? ⟨b2,k2+1,none⟩=some (.int .i64 y.2)/\b1<B.heap.size/\b2<B.heap.size
theorem Quad.five {b1 k1 b2 k2:Nat} {x y:R} {B wx:World} (H:Hid (Quad b1 k1 b2 k2 x y B)) (h:Since B wx) :
  wx.cell? ⟨b1,k1,none⟩=some (.int .i64 x.1)/\wx.cell? ⟨b1,k1+1,none⟩=some (.int .i64 x.2)/\wx.cell? ⟨b2,k2,none⟩=some (.int .i64 y.1)/\wx.cell? ⟨b2,k2+1,none⟩=some (.int .i64 y.2)/\Since B wx:=
 ⟨h.cell (p:=⟨b1,k1,none⟩) H.out.2.2.2.2.1 H.out.1,h.cell (p:=⟨b1,k1+1,none⟩) H.out.2.2.2.2.1 H.out.2.1,h.cell (p:=⟨b2,k2,none⟩) H.out.2.2.2.2.2 H.out.2.2.1,h.cell (p:=⟨b2,k2+1,none⟩) H.out.2.2.2.2.2 H.out.2.2.2.1,h⟩
theorem Zrh (B:Nat) (a1 a2:Option Addr) (c1 c2:Nat) (xs:List R) (hn:xs.length≤2097152) (w:World) (hBw:B≤w.heap.size) (h1:Zah B w a1 xs) (h2:Zah B w a2 xs) :
  Calls Tryz.prog 122 #[.slice a1 xs.length c1,.slice a2 xs.length c2] w fun e w'=>e=.returned (.bool true)/\Below w.heap.size w w':=by
 have H1:=zH (h1.mono hBw);have H2:=zH (h2.mono hBw);clear h1 h2
 go_enter Tryz.func122,Tryz.ntmps122
 go_wp2_with fail
 go_loopw [5] (fun i wr=>∃k:Nat,k≤xs.length/\i=.int .i64 k/\Hid (Below w.heap.size w wr)) (fun i _=>xs.length-(intOf i).toNat)
 case atStart=>exact⟨0,Nat.zero_le _,rfl,Below.refl _ _⟩
 case round=>
  obtain⟨k,hk,rfl,hB⟩:=hrel
  by_cases hlt:k<xs.length
  ·obtain⟨b1,o1,rfl,l1,p0,p1⟩:=(H1.out.below hB.out).at k hlt
   obtain⟨b2,o2,rfl,l2,q0,q1⟩:=(H2.out.below hB.out).at k hlt;generalize Ve.at_ xs k=x at *;have hsz:=hB.out.size;have HQ:Hid (Quad b1 (o1+k*2) b2 (o2+k*2) x x wr):=⟨p0,p1,q0,q1,by omega,by omega⟩;have hin:=Since.refl wr
   go_wp2_with fail
   go_region_held3 (fun w'=>w'.cell? ⟨b1,o1+k*2,none⟩=some (.int .i64 x.1)/\w'.cell? ⟨b1,o1+k*2+1,none⟩=some (.int .i64 x.2)/\w'.cell? ⟨b2,o2+k*2,none⟩=some (.int .i64 x.1)/\w'.cell? ⟨b2,o2+k*2+1,none⟩=some (.int .i64 x.2)/\Since wr w') (first|exact Quad.five HQ (by assumption) | exact Quad.five HQ (Since.drew (by assumption)))
    (first | (go_at_call 121;refine (Za9 (Zm8 _ _ _) (B:=wr) (by first|assumption|exact Since.drew (by assumption))).mono ?_;rintro e w' ⟨⟨rfl,_⟩,hin2⟩))
   have Hb2:=zH (hB.out.trans ((Since.low (B:=wr) (wx:=w') (by assumption)).mono hsz));clear hin hin2 HQ
   go_wp2_with fail
   go_roundw
   case rel=>exact⟨k+1,by omega,by go_num,Hb2⟩
   case measure=>simp[intOf];omega
  ·go_wp2_with fail
   go_ret;exact⟨rfl,hB.out⟩
def Zbo (k n:Nat):List R:=(List.range n).map fun j=>(((k+2*j:Nat):Int),((k+2*j+1:Nat):Int))
theorem Zd0 (k n:Nat):(Zbo k n).length=n:=by simp[Zbo]
theorem Zv0 (k n j:Nat) (h:j<n):(Zbo k n)[j]? = some (((k+2*j:Nat):Int),((k+2*j+1:Nat):Int)):=by simp[Zbo,h]
theorem Zrk (k j:Nat):Zbo k (j+1)=Zbo k j++[(((k+2*j:Nat):Int),((k+2*j+1:Nat):Int))]:=by unfold Zbo;rw[List.range_succ,List.map_append];rfl
theorem Zi4:∀(xs ys:List R),Zaq (xs++ys)=Zaq xs++Zaq ys
 | [],ys=>rfl
 | x::xs,ys=>by simp only[Zaq,List.cons_append,Zi4 xs ys]
theorem Zt8 (k j:Nat) (xs:List R) (hj:j<xs.length) :
  ((Zaq (Zbo k j++xs.drop j)).set (j*2) (.int .i64 ((k+2*j:Nat):Int))).set (j*2+1) (.int .i64 ((k+2*j+1:Nat):Int))=Zaq (Zbo k (j+1)++xs.drop (j+1)):=by
 have hl:(Zaq (Zbo k j)).length=j*2:=by rw[Zb7,Zd0]
 rw[Zi4,List.drop_eq_getElem_cons hj,Zrk,List.append_assoc,Zi4];simp only[Zaq,List.cons_append,List.nil_append];rw[List.set_append_right _ _ (by omega),hl,Nat.sub_self,List.set_cons_zero,List.set_append_right _ _ (by omega),hl,show j*2+1-j*2=1 by omega];rfl
theorem Zt7 (k:Nat) (xs:List R):Zbo k xs.length++xs.drop xs.length=Zbo k xs.length:=by simp
def Ztq (B k:Nat) (v:Value) (n:Nat) (w:World) (e:Ending) (w':World):Prop:=
 e=.returned (.int .i64 ((k:Int)+2*n))/\Zaa B w' v (Zbo k n)/\w.grownBy w' v.ownBlock
theorem Zm4 {w a:World} {g:Nat} (h:w.grownBy a (some g)) (j:Nat) (u:Value):w.grownBy (a.setCell ⟨g,j,none⟩ u) (some g):=
 ⟨h.os,h.tape,h.output,by have:=h.size;simp;omega,fun k hk hne=>by
  rw[Below.heap_setCell _ _ _ _ (show k≠g from fun e=>hne (by rw[e]))];exact h.block k hk hne⟩
def RowR (B g cap n:Nat) (w:World) (xs:List R):Prop:=w.ownsRow B 31 2 (.slice (some ⟨g,0,none⟩) n cap) n (Zaq xs)
theorem RowR.pair {B g cap n:Nat} {w:World} {xs:List R} (h:RowR B g cap n w xs) (j:Nat) (x y:Value) :
  ((w.setCell ⟨g,j,none⟩ x).setCell ⟨g,j+1,none⟩ y).ownsRow B 31 2 (.slice (some ⟨g,0,none⟩) n cap) n (((Zaq xs).set j x).set (j+1) y):=
 ((World.ownsRow.stored h j x).1.stored (j+1) y).1
theorem RowR.cells {B g cap n:Nat} {w:World} {xs:List R} (h:RowR B g cap n w xs) (j:Nat) (hj:j<n*2):(∃v,w.cell? ⟨g,j,none⟩=some v)/\w.frozen? ⟨g,j,none⟩=false:=by
 have hl:=h.1;exact⟨⟨(Zaq xs)[j],by rw[World.ownsRow.cellAt h j hj,List.getElem?_eq_getElem (by omega)]⟩,World.ownsRow.frozenAt h j⟩
theorem Zob (B:Nat) (v:Value) (k:Nat) (xs:List R) (hn:xs.length≤2097152) (hk2:k≤8388608) (w:World) (h1:Zaa B w v xs) :
  Calls Tryz.prog 125 #[v,.int .i64 k] w (Ztq B k v xs.length w):=by
 by_cases h0:xs = []
 ·subst h0
  obtain⟨a,cap,rfl,_,_,_⟩:=Zai h1;have H1:=zH h1;clear h1
  go_enter Tryz.func125,Tryz.ntmps125
  go_wp2_with fail
  go_loop [1,5] (fun q i=>q=.int .i64 k/\i=.int .i64 0) (fun _ i=>5-(intOf i).toNat)
  case atStart=>exact⟨rfl,rfl⟩
  case round=>
   obtain⟨rfl,rfl⟩:=hrel
   go_wp2_with fail
   go_ret;exact⟨Za8 (by simp),H1.out,⟨rfl,rfl,rfl,Nat.le_refl _,fun _ _ _=>rfl⟩⟩
 ·obtain⟨a,cap,rfl,_,hab,hag⟩:=Zai h1
  obtain⟨g,rfl⟩:=hag h0;have hgl:=(hab _ rfl).2;obtain⟨n,hnx⟩:∃n,n=xs.length:=⟨_,rfl⟩;have H1:Hid (RowR B g cap n w xs):=by show w.ownsRow _ _ _ _ _ _;rw[hnx];exact h1
  rw[<-hnx] at hn ⊢;have HN:=zH hnx;clear h1 hab hag h0 hnx
  go_enter Tryz.func125,Tryz.ntmps125
  go_wp2_with fail
  go_loopw [1,5] (fun q i wr=>∃(j:Nat) (kk:Int),j≤n/\0≤kk/\kk≤16777216/\q=.int .i64 kk/\i=.int .i64 j/\Hid (kk=(k:Int)+2*j)/\Hid (RowR B g cap n wr (Zbo k j++xs.drop j))/\Hid (w.grownBy wr (some g))) (fun _ i _=>n-(intOf i).toNat)
  case atStart=>exact⟨0,k,Nat.zero_le _,by omega,by omega,rfl,rfl,(by show (k:Int)=k+2*(0:Nat);omega),H1.out,⟨rfl,rfl,rfl,Nat.le_refl _,fun _ _ _=>rfl⟩⟩
  case round=>
   obtain⟨j,kk,hj,hq0,hq1,rfl,rfl,hkk,hR,hG⟩:=hrel
   by_cases hlt:j<n
   ·have hbd:kk+2≤16777216:=by have:=hkk.out;omega
    obtain⟨⟨v0,g0⟩,f0⟩:=hR.out.cells (j*2) (by omega);obtain⟨⟨v1,g1⟩,f1⟩:=hR.out.cells (j*2+1) (by omega);have HR3:Hid (RowR B g cap n ((wr.setCell ⟨g,j*2,none⟩ (.int .i64 kk)).setCell ⟨g,j*2+1,none⟩ (.int .i64 (kk+1))) (Zbo k (j+1)++xs.drop (j+1))):=by
     have h3:=hR.out.pair (j*2) (.int .i64 kk) (.int .i64 (kk+1));rw[show kk=((k+2*j:Nat):Int) by have:=hkk.out;omega] at h3 ⊢;rw[show ((k+2*j:Nat):Int)+1=((k+2*j+1:Nat):Int) by omega] at h3 ⊢;rw[Zt8 k j xs (by rw[<-HN.out];exact hlt)] at h3;exact h3
    have HG3:=zH (Zm4 (Zm4 hG.out (j*2) (.int .i64 kk)) (j*2+1) (.int .i64 (kk+1)));have Hk2:Hid (kk+1+1=(k:Int)+2*((j+1:Nat):Int)):=by
     have:=hkk.out;show _=_;omega
    go_wp2_with fail
    go_roundw
    case rel=>exact⟨j+1,kk+1+1,by omega,by omega,by omega,rfl,by go_num,Hk2,HR3,HG3⟩
    case measure=>simp[intOf];omega
   ·have he:j=xs.length:=by have:=HN.out;omega
    have Hf:Hid (Zaa B wr (.slice (some ⟨g,0,none⟩) n cap) (Zbo k n)):=by
     have h3:=hR.out;rw[he,Zt7,<-HN.out] at h3;show wr.ownsRow _ _ _ _ _ _;rw[Zd0];exact h3
    have Hk2:Hid (kk=(k:Int)+2*n):=by rw[HN.out,<-he];exact hkk
    clear he
    go_wp2_with fail
    go_ret;exact⟨Za8 Hk2.out,Hf,hG⟩
theorem Zn9 (B:Nat) (a:Option Addr) (c k n:Nat) (hn:n≤2097152) (hk2:k≤8388608) (w:World) (h1:Zah B w a (Zbo k n)) :
  Calls Tryz.prog 126 #[.slice a n c,.int .i64 k] w fun e w'=>e=.returned (.int .i64 ((k:Int)+2*n))/\w=w':=by
 have H1:=zH h1;clear h1
 go_enter Tryz.func126,Tryz.ntmps126
 go_wp2_with fail
 go_loop [1,5] (fun q i=>∃(j:Nat) (kk:Int),j≤n/\0≤kk/\kk≤16777216/\q=.int .i64 kk/\i=.int .i64 j/\Hid (kk=(k:Int)+2*j)) (fun _ i=>n-(intOf i).toNat)
 case atStart=>exact⟨0,k,by omega,by omega,by omega,rfl,rfl,(by show (k:Int)=k+2*(0:Nat);omega)⟩
 case round=>
  obtain⟨j,kk,hj,hq0,hq1,rfl,rfl,hkk⟩:=hrel
  by_cases hlt:j<n
  ·have hbd:kk+2≤16777216:=by have:=hkk.out;omega
   obtain⟨b,o,rfl,_,hx,hy⟩:=H1.out j _ (Zv0 k n j hlt);simp only at hx hy;rw[show ((k+2*j:Nat):Int)=kk by have:=hkk.out;omega] at hx;rw[show ((k+2*j+1:Nat):Int)=kk+1 by have:=hkk.out;omega] at hy;have Hk2:Hid (kk+1+1=(k:Int)+2*((j+1:Nat):Int)):=by
    have:=hkk.out;show _=_;omega
   go_wp2_with fail
   go_round
   case rel=>exact⟨j+1,kk+1+1,by omega,by omega,by omega,rfl,by go_num,Hk2⟩
   case measure=>simp[intOf];omega
  ·have he:Hid (kk=(k:Int)+2*n):=by
    have:=hkk.out;show _=_;rw[this];omega
   go_wp2_with fail
   go_ret;exact⟨Za8 he.out,rfl⟩
def Z3l (w:World) (lo hi:Nat) (a:Option Addr) (xs:List R):Prop:=(∀p,a=some p->lo≤p.block)/\Zah hi w a xs
def AllS (w:World) (L:List (Option Addr×List R×Nat×Nat)):Prop:=∀p,p∈L->Z3l w p.2.2.1 p.2.2.2 p.1 p.2.1/\p.2.2.2≤w.heap.size
theorem AllS.start (w:World):AllS w []:=fun p hp=>by cases hp
theorem AllS.below {w w':World} {L:List (Option Addr×List R×Nat×Nat)} (h:AllS w L) (hb:Below w.heap.size w w'):AllS w' L:=fun p hp=>
 ⟨⟨(h p hp).1.1,(h p hp).1.2.below (hb.mono (h p hp).2)⟩,Nat.le_trans (h p hp).2 hb.size⟩
theorem AllS.drew {w:World} {L:List (Option Addr×List R×Nat×Nat)} (h:AllS w L):AllS w.drew L:=h
theorem AllS.add {w:World} {L:List (Option Addr×List R×Nat×Nat)} (h:AllS w L) {lo hi:Nat} {a:Option Addr} {xs:List R} (h2:Zah hi w a xs) (h3:∀p,a=some p->lo≤p.block) (h4:hi≤w.heap.size):AllS w ((a,xs,lo,hi)::L):=fun p hp=>by
 rcases List.mem_cons.1 hp with rfl|hp
 ·exact⟨⟨h3,h2⟩,h4⟩
 ·exact h p hp
theorem AllS.get {w:World} {L:List (Option Addr×List R×Nat×Nat)} (h:AllS w L) (a:Option Addr) (xs:List R) (lo hi:Nat) (hm:(a,xs,lo,hi)∈L):Zah w.heap.size w a xs:=(h _ hm).1.2.mono (h _ hm).2
theorem AllS.sub {w:World} {L L':List (Option Addr×List R×Nat×Nat)} (h:AllS w L) (hs:∀p,p∈L'->p∈L):AllS w L':=fun p hp=>h p (hs p hp)
theorem AllS.grown {w w':World} {row:Option Nat} {L:List (Option Addr×List R×Nat×Nat)} (h:AllS w L) (hg:w.grownBy w' row) (hne:∀p,p∈L->∀g,row=some g->g<p.2.2.1\/p.2.2.2≤g):AllS w' L:=fun p hp=>by
 obtain⟨⟨h1,h2⟩,h3⟩:=h p hp;refine⟨⟨h1,h2.same fun q hq hlt=>hg.block q.block (by omega) (fun e=>?_)⟩,Nat.le_trans h3 hg.size⟩;have a1:=hne p hp q.block e.symm;have a2:=h1 q hq;omega
theorem Zaa.grown {lo:Nat} {w w':World} {v:Value} {xs:List R} {row:Option Nat} (h:Zaa lo w v xs) (hg:w.grownBy w' row) (hne:∀g,v.ownBlock=some g->row≠some g):Zaa lo w' v xs:=
 World.ownsRow.kept h hg (by
  cases hv:v.ownBlock with
  | none=>exact .inl rfl
  | some g=>exact .inr (fun e=>hne g hv e.symm))
theorem Zah.narrow {B B':Nat} {w:World} {a:Option Addr} {xs:List R} (h:Zah B w a xs) (ha:∀p,a=some p->p.block<B'):Zah B' w a xs:=fun j x hx=>by
 obtain⟨b,o,h1,h2,h3⟩:=h j x hx;exact⟨b,o,h1,ha ⟨b,o,none⟩ h1,h3⟩
theorem Zoa (B:Nat) (v:Value) (kk:Int) (k:Nat) (hkk:kk=k) (xs:List R) (hn:xs.length≤2097152) (hk2:k≤8388608) (w:World) (h1:Zaa B w v xs) :
  Calls Tryz.prog 125 #[v,.int .i64 kk] w fun e w'=>e=.returned (.int .i64 (kk+2*xs.length))/\Zaa B w' v (Zbo k xs.length)/\w.grownBy w' v.ownBlock:=by
 subst hkk;exact Zob B v k xs hn hk2 w h1
theorem Zn8 (B:Nat) (a:Option Addr) (c:Nat) (kk:Int) (k n:Nat) (hkk:kk=k) (hn:n≤2097152) (hk2:k≤8388608) (w:World) (h1:Zah B w a (Zbo k n)) :
  Calls Tryz.prog 126 #[.slice a n c,.int .i64 kk] w fun e w'=>e=.returned (.int .i64 (kk+2*n))/\w=w':=by
 subst hkk;exact Zn9 B a c k n hn hk2 w h1
theorem Zit (B:Nat) (a:Option Addr) (c:Nat) (xs:List R) (hn:xs.length≤1048576) (w:World) (hBw:B≤w.heap.size) (h1:Zah B w a xs) :
  Calls Tryz.prog 138 #[.slice a xs.length c] w fun e w'=>e=.returned (.bool (Ve.good xs))/\Below w.heap.size w w':=by
 obtain⟨g,hg⟩:∃g,Ve.good xs=g:=⟨_,rfl⟩;rw[hg];have Hg:=zH hg;have H1:=zH (h1.mono hBw);clear hg h1
 go_enter Tryz.func138,Tryz.ntmps138
 go_wp2_with fail
 go_loopw [3] (fun i wr=>∃k:Nat,k≤xs.length/\i=.int .i64 k/\Hid (∀j,j<k->Ve.vld (Ve.at_ xs j)=true)/\Hid (Below w.heap.size w wr)) (fun i _=>xs.length-(intOf i).toNat)
 case atStart=>exact⟨0,Nat.zero_le _,rfl,fun j hj=>absurd hj (by omega),Below.refl _ _⟩
 case round=>
  obtain⟨k,hk,rfl,hA,hB⟩:=hrel
  by_cases hlt:k<xs.length
  ·obtain⟨b,o,rfl,hb,c0,c1⟩:=(H1.out.below hB.out).at k hlt
   rcases hv:Ve.vld (Ve.at_ xs k) with _|_
   ·have Hr:=zH (show false=g from (Ve.Zq4 hlt hv).symm.trans Hg.out)
    have Hv:=zH hv;clear hv
    go_wp2_with fail
    refine (Zag _ _ false Hv.out _).mono ?_;rintro e w1 ⟨rfl,hb1⟩;have Hb:=zH (hB.out.trans (hb1.mono hB.out.size));clear hb1
    go_wp2_with fail
    go_ret;exact⟨Zae Hr.out,Hb.out⟩
   ·have HA2:Hid (∀j,j<k+1->Ve.vld (Ve.at_ xs j)=true):=fun j hj=>by
     by_cases e:j=k
     ·subst e;exact hv
     ·exact hA.out j (by omega)
    have Hv:=zH hv;clear hv
    go_wp2_with fail
    refine (Zag _ _ true Hv.out _).mono ?_;rintro e w1 ⟨rfl,hb1⟩;have Hb:=zH (hB.out.trans (hb1.mono hB.out.size));clear hb1
    go_wp2_with fail
    go_roundw
    case rel=>exact⟨k+1,by omega,by go_num,HA2,Hb⟩
    case measure=>simp[intOf];omega
  ·have Hr:=zH (show true=g by rw[<-Hg.out];exact (Ve.Zj5 fun j hj=>hA.out j (by omega)).symm)
   go_wp2_with fail
   go_ret;exact⟨Zae Hr.out,hB.out⟩
theorem Zem (B:Nat) (a:Option Addr) (c:Nat) (xs:List R) (hn:xs.length≤1048576) (w:World) (hBw:B≤w.heap.size) (h1:Zah B w a xs) :
  Calls Tryz.prog 65 #[.slice a xs.length c] w fun e w'=>e=.returned (.bool (Ve.good xs))/\Below w.heap.size w w':=by
 obtain⟨g,hg⟩:∃g,Ve.good xs=g:=⟨_,rfl⟩;rw[hg];have Hg:=zH hg;have H1:=zH (h1.mono hBw);clear hg h1
 go_enter Tryz.func65,Tryz.ntmps65
 go_wp2_with fail
 go_loopw [7] (fun i wr=>∃k:Nat,k≤xs.length/\i=.int .i64 k/\Hid (∀j,j<k->Ve.vld (Ve.at_ xs j)=true)/\Hid (Below w.heap.size w wr)) (fun i _=>xs.length-(intOf i).toNat)
 case atStart=>exact⟨0,Nat.zero_le _,rfl,fun j hj=>absurd hj (by omega),Below.refl _ _⟩
 case round=>
  obtain⟨k,hk,rfl,hA,hB⟩:=hrel
  by_cases hlt:k<xs.length
  ·obtain⟨b,o,rfl,hb,c0,c1⟩:=(H1.out.below hB.out).at k hlt
   rcases hv:Ve.vld (Ve.at_ xs k) with _|_
   ·have Hr:=zH (show false=g from (Ve.Zq4 hlt hv).symm.trans Hg.out)
    have Hv:=zH hv;clear hv
    go_wp2_with fail
    refine (Zcp _ _ false Hv.out _).mono ?_;rintro e w1 ⟨rfl,hb1⟩;have Hb:=zH ((hB.out.alloc hB.out.size (.cells #[.int .i64 (Ve.at_ xs k).1,.int .i64 (Ve.at_ xs k).2] 31)).trans (hb1.mono (by have:=hB.out.size;rw[Zar];omega)));clear hb1
    go_wp2_with fail
    go_ret;exact⟨Zae Hr.out,Hb.out⟩
   ·have HA2:Hid (∀j,j<k+1->Ve.vld (Ve.at_ xs j)=true):=fun j hj=>by
     by_cases e:j=k
     ·subst e;exact hv
     ·exact hA.out j (by omega)
    have Hv:=zH hv;clear hv
    go_wp2_with fail
    refine (Zcp _ _ true Hv.out _).mono ?_;rintro e w1 ⟨rfl,hb1⟩;have Hb:=zH ((hB.out.alloc hB.out.size (.cells #[.int .i64 (Ve.at_ xs k).1,.int .i64 (Ve.at_ xs k).2] 31)).trans (hb1.mono (by have:=hB.out.size;rw[Zar];omega)));clear hb1
    go_wp2_with fail
    go_roundw
    case rel=>exact⟨k+1,by omega,by go_num,HA2,Hb⟩
    case measure=>simp[intOf];omega
  ·have Hr:=zH (show true=g by rw[<-Hg.out];exact (Ve.Zj5 fun j hj=>hA.out j (by omega)).symm)
   go_wp2_with fail
   go_ret;exact⟨Zae Hr.out,hB.out⟩
def eqV (xs ys:List R):Bool:=decide (xs=ys)
open Go.RowKit Go.Deep Go.ChangeShapes Go.WideShapes
end Go.Proofs.YtlohljkfphljgaaGreat
