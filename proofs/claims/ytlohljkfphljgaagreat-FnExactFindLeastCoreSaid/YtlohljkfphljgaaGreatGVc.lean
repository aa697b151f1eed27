/- The parts VeIt0, VeIt1, VeIt2, VeDot, VeVec, VeAS. -/
import Derived.Test.YtlohljkfphljgaaGreatGVb
import Derived.RangeFuncNested
import Derived.RangeFuncBound
import Derived.RangeFuncCalls
import Derived.RangeFuncLeaves
import Derived.Shelf.Abstract
import Derived.Shelf.RegionOpen
import Derived.WalkKit
import Derived.OwnWalkIn
import Derived.TacticsInMore
import Derived.LoopNIn
import Derived.LoopIn
import Derived.Maps.AppendAt
set_option maxRecDepth 100000
set_option maxHeartbeats 8000000
namespace Go.Proofs.YtlohljkfphljgaaGreat
open Go.RowKit Go.Shelf
open Ve (R)
attribute [local go_sem] Oper.semAt_some
def seqF {α:Type} (f:Nat->α) (k:Nat):List α:=(List.range k).map f
theorem Zgx {α:Type} (f:Nat->α) (k:Nat):seqF f (k+1)=seqF f k++[f k]:=by simp[seqF,List.range_succ]
theorem Zok {α:Type} (f:Nat->α) (k:Nat):(seqF f k).length=k:=by simp[seqF]
structure Zcv (n₀ lo hi:Nat) (W W':World):Prop where
 low:Below n₀ W W'
 mid:∀k,lo≤k->k<hi->W'.heap[k]? = W.heap[k]?
theorem Zcv.refl (n₀ lo hi:Nat) (W:World):Zcv n₀ lo hi W W:=⟨Below.refl _ _,fun _ _ _=>rfl⟩
theorem Zcv.trans {n₀ lo hi:Nat} {A B C:World} (h:Zcv n₀ lo hi A B) (k:Zcv n₀ lo hi B C):Zcv n₀ lo hi A C:=⟨h.low.trans k.low,fun i a b=>(k.mid i a b).trans (h.mid i a b)⟩
theorem Zcv.of_below {n₀ lo hi:Nat} {W W':World} (h:Below W.heap.size W W') (h1:n₀≤W.heap.size) (h2:hi≤W.heap.size):Zcv n₀ lo hi W W':=⟨h.mono h1,fun k _ b=>h.block k (by omega)⟩
theorem Zvq {n₀ lo hi:Nat} {w:World} (hn:n₀≤w.heap.size) (hh:hi≤w.heap.size) (W:World) (l:Nat) (o o':Obj) (hl:w.heap.size≤l) (h:W.heap[l]? = some o) (h1:o.isCells=false) (h2:o.isWalk=false):Zcv n₀ lo hi W (W.putObj l o'):=
 ⟨belowK_b hn W l o o' hl h h1 h2,fun k _ b=>(grownBy_putObj' W l o').block k (by have:=(Array.getElem?_eq_some_iff.1 h).1;omega) (fun e=>by cases e;omega)⟩
theorem Zmc {W W':World} (h:Below W.heap.size W W'):W.grownBy W' none:=⟨h.os,h.tape,h.output,h.size,fun k hk _=>h.block k hk⟩
theorem Ze4 {β:Type} {B:Nat} {J:β->World->Prop} (hJ:AbidesFrom B J) {s:β} {W W':World} (hs:J s W) (h:Below W.heap.size W W'):J s W':=
 hJ s W W' none hs (Zmc h) (fun r e=>by cases e)
def encP (x:R×Bool):Array Value:=#[.agg #[.int .i64 x.1.1,.int .i64 x.1.2],.bool x.2]
def encR (x:R):Array Value:=#[.agg #[.int .i64 x.1,.int .i64 x.2]]
theorem Zvo (n:Nat) (hn:1≤n) (l Bs n₀ lo hi:Nat) (a:Option Addr) (cap:Nat) (zs:List Int) (hz:zs.length≤1048576) (B0:Nat) (J Jx:List (R×Bool)->World->Prop) (hJ:AbidesFrom B0 J)
  (hY:∀pre x W,J pre W->pre.length<zs.length->YieldAt Fence.wide (n-1) Tryz.prog l (encP x) W fun e W'=>
   (e=.returned (.bool true)/\J (pre++[x]) W'/\Zcv n₀ lo hi W W')\/(e=.returned (.bool false)/\Jx (pre++[x]) W'))
  (W:World) (hn₀:n₀≤W.heap.size) (hhi:hi≤W.heap.size) (hBs:W.cell? ⟨Bs,0,none⟩=some (.slice a zs.length cap)) (hI:Zat n₀ W a zs) (h0:J [] W) :
  CallsIn Fence.wide n Tryz.prog 226 #[.func (.yield l) #[] #[],.pointer (some ⟨Bs,0,none⟩)] W fun e W'=>(∃v,e=.returned v)/\
   ((∃ys,ys=seqF (Ve.ofI zs) zs.length/\J ys W')\/(∃pre,(∃k,k≤zs.length/\pre=seqF (Ve.ofI zs) k)/\Jx pre W')):=by
 have HI:=zH hI;have HY:=zH hY;have H0:=zH h0;have HJ:=zH hJ;clear hI hY h0 hJ;refine callsIn_of_wp Tryz.func226 rfl trivial ?_ rfl;simp only[Tryz.ntmps226,List.size_toArray,List.length_cons,List.length_nil,Nat.reduceAdd,Nat.reduceSub,Array.replicate_succ,Array.replicate_zero,List.push_toArray,List.append_toArray,List.nil_append,List.cons_append]
 gi_wp2
 gi_loopw [7] (fun i wr=>∃k:Nat,k≤zs.length/\i=.int .i64 k/\Hid (J (seqF (Ve.ofI zs) k) wr)/\Hid (Zcv n₀ lo hi W wr))
  (fun i _=>zs.length-(intOf i).toNat)
 case atStart=>exact⟨0,Nat.zero_le _,rfl,H0,Zcv.refl _ _ _ _⟩
 case round=>
  obtain⟨k,hk,rfl,hJs,hnx⟩:=hrel
  by_cases hlt:k<zs.length
  ·obtain⟨b,o,rfl,l1,p0⟩:=(HI.out.below hnx.out.low) k hlt
   have HS:=zH (Zgx (Ve.ofI zs) k);have HF:=zH (show Ve.ofI zs k=((Ra.rn (zs.getD k 0) 1,Ra.rd (zs.getD k 0) 1),Ra.fits (zs.getD k 0) 1) from rfl);generalize zs.getD k 0=z at *
   gi_wp2_with fail
   refine⟨trivial,(callsIn_wide.2 (Zer z 1 _)).mono ?_⟩;rintro e w1 ⟨rfl,hb1⟩;have hk1:=hnx.out.trans (Zcv.of_below hb1 (Nat.le_trans hn₀ hnx.out.low.size) (Nat.le_trans hhi hnx.out.low.size));obtain⟨fn,tmps,assign,body,hy,hR⟩:=HY.out _ (Ve.ofI zs k) w1 (Ze4 HJ.out hJs.out hb1) (by rw[Zok];exact hlt);rw[HF.out] at hy;dsimp only[encP] at hy;have HR:=zH hR;have HK1:=zH hk1;clear hR hk1 hb1
   gi_wp2_with fail
   refine HR.out.mono ?_;rintro e W3 (⟨rfl,hJ3,hk3⟩ | ⟨rfl,hJx3⟩)
   ·have HJ3:=zH hJ3
    have HK3:=zH (HK1.out.trans hk3);clear hJ3 hk3
    gi_wp2
    go_roundw
    case rel=>exact⟨k+1,by omega,by go_num,by rw[HS.out];exact HJ3,HK3⟩
    case measure=>simp[intOf];omega
   ·have HJ3:=zH hJx3
    clear hJx3
    gi_wp2
    refine bodyPost_ret (results_none rfl _ _ _) rfl ?_;exact⟨⟨_,rfl⟩,.inr ⟨_,⟨k+1,by omega,HS.out.symm⟩,HJ3.out⟩⟩
  ·obtain rfl:k=zs.length:=by omega
   gi_wp2
   go_end0
   exact⟨⟨_,rfl⟩,.inl ⟨_,rfl,hJs.out⟩⟩
attribute [local go_sem] Oper.semAt_some
theorem Zj6 (x y:R) (w:World):Calls Tryz.prog 224 #[.agg #[.int .i64 x.1,.int .i64 x.2],.agg #[.int .i64 y.1,.int .i64 y.2]] w fun e w'=>e=.returned (.tuple #[.agg #[.int .i64 (Ve.mulR x y).1,.int .i64 (Ve.mulR x y).2],.bool (Ve.mulK x y)])/\Below w.heap.size w w':=Zra x.1 x.2 y.1 y.2 w
theorem Zsn (x y:R) (w:World):Calls Tryz.prog 163 #[.agg #[.int .i64 x.1,.int .i64 x.2],.agg #[.int .i64 y.1,.int .i64 y.2]] w fun e w'=>e=.returned (.tuple #[.agg #[.int .i64 (Ve.addR x y).1,.int .i64 (Ve.addR x y).2],.bool (Ve.addK x y)])/\Below w.heap.size w w':=Zq8 x.1 x.2 y.1 y.2 w
def Six (p q:Nat) (u v:Value) (b1 k1 b2 k2:Nat) (x y:R) (B:World):Prop:=
 (B.cell? ⟨p,0,none⟩=some u/\B.cell? ⟨q,0,none⟩=some v/\p<B.heap.size/\q<B.heap.size)/\Quad b1 k1 b2 k2 x y B
theorem Six.seven {p q:Nat} {u v:Value} {b1 k1 b2 k2:Nat} {x y:R} {B wx:World} (H:Hid (Six p q u v b1 k1 b2 k2 x y B)) (h:Since B wx) :
  wx.cell? ⟨p,0,none⟩=some u/\wx.cell? ⟨q,0,none⟩=some v/\wx.cell? ⟨b1,k1,none⟩=some (.int .i64 x.1)/\wx.cell? ⟨b1,k1+1,none⟩=some (.int .i64 x.2)/\wx.cell? ⟨b2,k2,none⟩=some (.int .i64 y.1)/\wx.cell? ⟨b2,k2+1,none⟩=some (.int .i64 y.2)/\Since B wx:=
 ⟨h.cell (p:=⟨p,0,none⟩) H.out.1.2.2.1 H.out.1.1,h.cell (p:=⟨q,0,none⟩) H.out.1.2.2.2 H.out.1.2.1,Quad.five H.out.2 h⟩
def pr (xs ys:List R) (j:Nat):R:=Ve.mulR (Ve.at_ xs j) (Ve.at_ ys j)
theorem Zwm (n:Nat) (hn:1≤n) (l Ba Bb n₀ lo hi:Nat) (a1 a2:Option Addr) (c1 c2:Nat) (xs ys:List R) (hxy:xs.length≤ys.length) (hz:ys.length≤1048576) (B0:Nat) (J Jx:List R->World->Prop) (hJ:AbidesFrom B0 J)
  (hY:∀pre x W,J pre W->pre.length<xs.length->YieldAt Fence.wide (n-1) Tryz.prog l (encR x) W fun e W'=>
   (e=.returned (.bool true)/\J (pre++[x]) W'/\Zcv n₀ lo hi W W')\/(e=.returned (.bool false)/\Jx (pre++[x]) W'))
  (W:World) (hn₀:n₀≤W.heap.size) (hhi:hi≤W.heap.size) (ha:lo≤Ba) (ha':Ba<hi) (hb:lo≤Bb) (hb':Bb<hi)
  (hBa:W.cell? ⟨Ba,0,none⟩=some (.slice a1 xs.length c1)) (hBb:W.cell? ⟨Bb,0,none⟩=some (.slice a2 ys.length c2)) (h1:Zah n₀ W a1 xs) (h2:Zah n₀ W a2 ys) (h0:J [] W) :
  CallsIn Fence.wide n Tryz.prog 223 #[.func (.yield l) #[] #[],.pointer (some ⟨Ba,0,none⟩),.pointer (some ⟨Bb,0,none⟩)] W fun e W'=>(∃v,e=.returned v)/\
   ((∃zs,zs=seqF (pr xs ys) xs.length/\J zs W')\/(∃pre,(∃k,k≤xs.length/\pre=seqF (pr xs ys) k)/\Jx pre W')):=by
 have H1:=zH h1;have H2:=zH h2;have HY:=zH hY;have H0:=zH h0;have HJ:=zH hJ;have HA:=zH hBa;have HB:=zH hBb;clear h1 h2 hY h0 hJ hBb;refine callsIn_of_wp Tryz.func223 rfl trivial ?_ rfl;simp only[Tryz.ntmps223,List.size_toArray,List.length_cons,List.length_nil,Nat.reduceAdd,Nat.reduceSub,Array.replicate_succ,Array.replicate_zero,List.push_toArray,List.append_toArray,List.nil_append,List.cons_append]
 gi_wp2
 clear hBa
 gi_loopw [9] (fun i wr=>∃k:Nat,k≤xs.length/\i=.int .i64 k/\Hid (J (seqF (pr xs ys) k) wr)/\Hid (Zcv n₀ lo hi W wr))
  (fun i _=>xs.length-(intOf i).toNat)
 case atStart=>exact⟨0,Nat.zero_le _,rfl,H0,Zcv.refl _ _ _ _⟩
 case round=>
  obtain⟨k,hk,rfl,hJs,hnx⟩:=hrel;have hsz:=hnx.out.low.size
  by_cases hlt:k<xs.length
  ·have hlt2:k<ys.length:=by omega
   obtain⟨b1,o1,rfl,l1,p0,p1⟩:=(H1.out.below hnx.out.low).at k hlt;obtain⟨b2,o2,rfl,l2,q0,q1⟩:=(H2.out.below hnx.out.low).at k hlt2;have e0:wr.cell? ⟨Ba,0,none⟩=some (.slice (some ⟨b1,o1,none⟩) xs.length c1):=by
    rw[World.cell?_of_block (w:=W) (a:=⟨Ba,0,none⟩) (hnx.out.mid Ba ha ha')];exact HA.out
   have e1:wr.cell? ⟨Bb,0,none⟩=some (.slice (some ⟨b2,o2,none⟩) ys.length c2):=by
    rw[World.cell?_of_block (w:=W) (a:=⟨Bb,0,none⟩) (hnx.out.mid Bb hb hb')];exact HB.out
   have HS:=zH (Zgx (pr xs ys) k);have HF:=zH (show pr xs ys k=Ve.mulR (Ve.at_ xs k) (Ve.at_ ys k) from rfl);generalize Ve.at_ xs k=x at *;generalize Ve.at_ ys k=y at *;have HQ:Hid (Six Ba Bb (.slice (some ⟨b1,o1,none⟩) xs.length c1) (.slice (some ⟨b2,o2,none⟩) ys.length c2) b1 (o1+k*2) b2 (o2+k*2) x y wr):=⟨⟨e0,e1,by omega,by omega⟩,p0,p1,q0,q1,by omega,by omega⟩;have hin:=Since.refl wr
   gi_wp2_with fail
   refine wpIn_wide.2 ?_
   go_cut [5,6] (fun p b wx=>Got wr (Ve.mulR x y).1 (Ve.mulR x y).2 (Ve.mulK x y) p b wx)
   case first=>
    go_region_held3 (fun w'=>w'.cell? ⟨Ba,0,none⟩=some (.slice (some ⟨b1,o1,none⟩) xs.length c1)/\w'.cell? ⟨Bb,0,none⟩=some (.slice (some ⟨b2,o2,none⟩) ys.length c2)/\w'.cell? ⟨b1,o1+k*2,none⟩=some (.int .i64 x.1)/\w'.cell? ⟨b1,o1+k*2+1,none⟩=some (.int .i64 x.2)/\w'.cell? ⟨b2,o2+k*2,none⟩=some (.int .i64 y.1)/\w'.cell? ⟨b2,o2+k*2+1,none⟩=some (.int .i64 y.2)/\Since wr w') (first|exact Six.seven HQ (by assumption) | exact Six.seven HQ (Since.drew (by assumption)) | exact Six.seven HQ (Own2.since (by assumption)) | exact Six.seven HQ (Since.drew (Own2.since (by assumption))) | exact Six.seven HQ (Since.alloc (by assumption) _) | exact Six.seven HQ (Since.drew (Since.alloc (by assumption) _)) | exact Six.seven HQ (Own2.set2 (by assumption) _ _) | exact Six.seven HQ (Since.drew (Own2.set2 (by assumption) _ _)))
     (first | (go_at_call 224;refine (Zcn (Zj6 x y _) (B:=wr) (x:=.int .i64 0) (y:=.int .i64 0) (t:=31) (by first|assumption|exact Own2.drew (by assumption) | exact Since.new (by assumption) _ _ _|exact Own2.drew (Since.new (by assumption) _ _ _))).mono ?_;rintro e w' ⟨⟨rfl,_⟩,hin3⟩;obtain⟨z0,z1,f0,f1⟩:=Own2.own hin3) | (go_at_call 224;refine (Za9 (Zj6 x y _) (B:=wr) (by first|assumption|exact Since.drew (by assumption))).mono ?_;rintro e w' ⟨⟨rfl,_⟩,hin2⟩))
    all_goals
     go_wp2_with fail
     go_meet
     first
     | exact Got.last (by assumption) _ _ _ _
     | exact Got.set (by assumption) _ _ _
     | exact Got.drew (Got.last (by assumption) _ _ _ _)
     | exact Got.drew (Got.set (by assumption) _ _ _)
   case rest=>
    obtain⟨q,rfl,rfl,m0,m1,hq,hqh,hs1⟩:=hcut;have hk1:=hnx.out.trans (Zcv.of_below hs1.low (by omega) (by omega));have hj1:=Ze4 HJ.out hJs.out hs1.low;obtain⟨fn,tmps,assign,body,hy,hR⟩:=HY.out _ (pr xs ys k) wc hj1 (by rw[Zok];exact hlt);rw[HF.out] at hy;dsimp only[encR] at hy;have HR:=zH hR;have HK1:=zH hk1;clear hR hk1 hs1 hj1 HQ hin
    gi_wp2_with fail
    refine HR.out.mono ?_;rintro e W3 (⟨rfl,hJ3,hk3⟩ | ⟨rfl,hJx3⟩)
    ·have HJ3:=zH hJ3
     have HK3:=zH (HK1.out.trans hk3);clear hJ3 hk3
     gi_wp2
     go_roundw
     case rel=>exact⟨k+1,by omega,by go_num,by rw[HS.out];exact HJ3,HK3⟩
     case measure=>simp[intOf];omega
    ·have HJ3:=zH hJx3
     clear hJx3
     gi_wp2
     refine bodyPost_ret (results_none rfl _ _ _) rfl ?_;exact⟨⟨_,rfl⟩,.inr ⟨_,⟨k+1,by omega,HS.out.symm⟩,HJ3.out⟩⟩
  ·obtain rfl:k=xs.length:=by omega
   gi_wp2
   go_end0
   exact⟨⟨_,rfl⟩,.inl ⟨_,rfl,hJs.out⟩⟩
attribute [local go_sem] Oper.semAt_some
def Five (p q:Nat) (u:R) (v:Value) (b2 k2:Nat) (y:R) (B:World):Prop:=
 (B.cell? ⟨p,0,none⟩=some (.int .i64 u.1)/\B.cell? ⟨p,1,none⟩=some (.int .i64 u.2)/\B.cell? ⟨q,0,none⟩=some v)/\(B.cell? ⟨b2,k2,none⟩=some (.int .i64 y.1)/\B.cell? ⟨b2,k2+1,none⟩=some (.int .i64 y.2))/\p<B.heap.size/\q<B.heap.size/\b2<B.heap.size
theorem Five.six {p q:Nat} {u:R} {v:Value} {b2 k2:Nat} {y:R} {B wx:World} (H:Hid (Five p q u v b2 k2 y B)) (h:Since B wx) :
  wx.cell? ⟨p,0,none⟩=some (.int .i64 u.1)/\wx.cell? ⟨p,1,none⟩=some (.int .i64 u.2)/\wx.cell? ⟨q,0,none⟩=some v/\wx.cell? ⟨b2,k2,none⟩=some (.int .i64 y.1)/\wx.cell? ⟨b2,k2+1,none⟩=some (.int .i64 y.2)/\Since B wx:=
 ⟨h.cell (p:=⟨p,0,none⟩) H.out.2.2.1 H.out.1.1,h.cell (p:=⟨p,1,none⟩) H.out.2.2.1 H.out.1.2.1,h.cell (p:=⟨q,0,none⟩) H.out.2.2.2.1 H.out.1.2.2,h.cell (p:=⟨b2,k2,none⟩) H.out.2.2.2.2 H.out.2.1.1,h.cell (p:=⟨b2,k2+1,none⟩) H.out.2.2.2.2 H.out.2.1.2,h⟩
def Went {α:Type} (n₀ lo hi:Nat) (J Jx:List α->World->Prop) (ys:List α) (W:World) (b:Bool) (W':World):Prop:=(b=true/\J ys W'/\Zcv n₀ lo hi W W')\/(b=false/\Jx ys W')
theorem Zrx (n:Nat) (hn:1≤n) (l Ba Bk Bb n₀ lo hi:Nat) (a1 a2:Option Addr) (c1 c2:Nat) (xs:List R) (u:R) (ys:List R) (hxy:xs.length≤ys.length) (hz:ys.length≤1048576) (B0:Nat) (J Jx:List (R×Bool)->World->Prop) (hJ:AbidesFrom B0 J)
  (hY:∀pre x W,J pre W->pre.length<xs.length->YieldAt Fence.wide (n-1) Tryz.prog l (encP x) W fun e W'=>
   (e=.returned (.bool true)/\J (pre++[x]) W'/\Zcv n₀ lo hi W W')\/(e=.returned (.bool false)/\Jx (pre++[x]) W'))
  (W:World) (hn₀:n₀≤W.heap.size) (hhi:hi≤W.heap.size) (ha:lo≤Ba) (ha':Ba<hi) (hk:lo≤Bk) (hk':Bk<hi) (hb:lo≤Bb) (hb':Bb<hi)
  (hBa:W.cell? ⟨Ba,0,none⟩=some (.slice a1 xs.length c1)) (hBk:Zau W Bk u) (hBb:W.cell? ⟨Bb,0,none⟩=some (.slice a2 ys.length c2)) (h1:Zah n₀ W a1 xs) (h2:Zah n₀ W a2 ys) (h0:J [] W) :
  CallsIn Fence.wide n Tryz.prog 233 #[.func (.yield l) #[] #[],.pointer (some ⟨Ba,0,none⟩),.pointer (some ⟨Bk,0,none⟩),.pointer (some ⟨Bb,0,none⟩)] W fun e W'=>(∃v,e=.returned v)/\
   ((∃zs,zs=seqF (Ve.sc xs u ys) xs.length/\J zs W')\/(∃pre,(∃k,k≤xs.length/\pre=seqF (Ve.sc xs u ys) k)/\Jx pre W')):=by
 have H1:=zH h1;have H2:=zH h2;have HY:=zH hY;have H0:=zH h0;have HJ:=zH hJ;have HA:=zH hBa;have HB:=zH hBb;have HK:=zH hBk;have hmix:Tryz.prog.follows .mixedOrders=true:=by kernel_rfl
 clear h1 h2 hY h0 hJ hBb hBk;refine callsIn_of_wp Tryz.func233 rfl trivial ?_ rfl;simp only[Tryz.ntmps233,List.size_toArray,List.length_cons,List.length_nil,Nat.reduceAdd,Nat.reduceSub,Array.replicate_succ,Array.replicate_zero,List.push_toArray,List.append_toArray,List.nil_append,List.cons_append]
 gi_wp2
 clear hBa
 gi_loopw [10] (fun i wr=>∃k:Nat,k≤xs.length/\i=.int .i64 k/\Hid (J (seqF (Ve.sc xs u ys) k) wr)/\Hid (Zcv n₀ lo hi W wr))
  (fun i _=>xs.length-(intOf i).toNat)
 case atStart=>exact⟨0,Nat.zero_le _,rfl,H0,Zcv.refl _ _ _ _⟩
 case round=>
  obtain⟨k,hkx,rfl,hJs,hnx⟩:=hrel;have hsz:=hnx.out.low.size
  by_cases hlt:k<xs.length
  ·have hlt2:k<ys.length:=by omega
   obtain⟨b1,o1,rfl,l1,p0,p1⟩:=(H1.out.below hnx.out.low).at k hlt;obtain⟨b2,o2,rfl,l2,q0,q1⟩:=(H2.out.below hnx.out.low).at k hlt2;have e0:wr.cell? ⟨Ba,0,none⟩=some (.slice (some ⟨b1,o1,none⟩) xs.length c1):=by
    rw[World.cell?_of_block (w:=W) (a:=⟨Ba,0,none⟩) (hnx.out.mid Ba ha ha')];exact HA.out
   have e1:wr.cell? ⟨Bb,0,none⟩=some (.slice (some ⟨b2,o2,none⟩) ys.length c2):=by
    rw[World.cell?_of_block (w:=W) (a:=⟨Bb,0,none⟩) (hnx.out.mid Bb hb hb')];exact HB.out
   have e2:Zau wr Bk u:=(hnx.out.mid Bk hk hk').trans HK.out;obtain⟨u0,u1,-,-⟩:=e2.four;have HS:=zH (Zgx (Ve.sc xs u ys) k);have HF:=zH (show Ve.sc xs u ys k=(Ve.addR (Ve.at_ xs k) (Ve.mulR u (Ve.at_ ys k)),Ve.addK (Ve.at_ xs k) (Ve.mulR u (Ve.at_ ys k))) from rfl);generalize Ve.at_ xs k=x at *;generalize Ve.at_ ys k=y at *;have HQ:Hid (Five Bk Bb u (.slice (some ⟨b2,o2,none⟩) ys.length c2) b2 (o2+k*2) y wr):=⟨⟨u0,u1,e1⟩,⟨q0,q1⟩,by omega,by omega,by omega⟩;have HP:Hid (wr.cell? ⟨Ba,0,none⟩=some (.slice (some ⟨b1,o1,none⟩) xs.length c1)/\(wr.cell? ⟨b1,o1+k*2,none⟩=some (.int .i64 x.1)/\wr.cell? ⟨b1,o1+k*2+1,none⟩=some (.int .i64 x.2))/\Ba<wr.heap.size/\b1<wr.heap.size):=⟨e0,⟨p0,p1⟩,by omega,by omega⟩;have hin:=Since.refl wr;clear e2
   gi_wp2_with fail
   refine wpIn_wide.2 ?_
   go_cut [6,7] (fun p b wx=>Got wr (Ve.mulR u y).1 (Ve.mulR u y).2 (Ve.mulK u y) p b wx)
   case first=>
    go_region_held3 (fun w'=>w'.cell? ⟨Bk,0,none⟩=some (.int .i64 u.1)/\w'.cell? ⟨Bk,1,none⟩=some (.int .i64 u.2)/\w'.cell? ⟨Bb,0,none⟩=some (.slice (some ⟨b2,o2,none⟩) ys.length c2)/\w'.cell? ⟨b2,o2+k*2,none⟩=some (.int .i64 y.1)/\w'.cell? ⟨b2,o2+k*2+1,none⟩=some (.int .i64 y.2)/\Since wr w') (first|exact Five.six HQ (by assumption) | exact Five.six HQ (Since.drew (by assumption)) | exact Five.six HQ (Own2.since (by assumption)) | exact Five.six HQ (Since.drew (Own2.since (by assumption))) | exact Five.six HQ (Since.alloc (by assumption) _) | exact Five.six HQ (Since.drew (Since.alloc (by assumption) _)) | exact Five.six HQ (Own2.set2 (by assumption) _ _) | exact Five.six HQ (Since.drew (Own2.set2 (by assumption) _ _)))
     (first | (go_at_call 224;refine (Zcn (Zj6 u y _) (B:=wr) (x:=.int .i64 0) (y:=.int .i64 0) (t:=31) (by first|assumption|exact Own2.drew (by assumption) | exact Since.new (by assumption) _ _ _|exact Own2.drew (Since.new (by assumption) _ _ _))).mono ?_;rintro e w' ⟨⟨rfl,_⟩,hin3⟩;obtain⟨z0,z1,f0,f1⟩:=Own2.own hin3) | (go_at_call 224;refine (Za9 (Zj6 u y _) (B:=wr) (by first|assumption|exact Since.drew (by assumption))).mono ?_;rintro e w' ⟨⟨rfl,_⟩,hin2⟩))
    all_goals
     go_wp2_with fail
     go_meet
     first
     | exact Got.last (by assumption) _ _ _ _
     | exact Got.set (by assumption) _ _ _
     | exact Got.drew (Got.last (by assumption) _ _ _ _)
     | exact Got.drew (Got.set (by assumption) _ _ _)
   case rest=>
    obtain⟨wd,rfl⟩:∃wd:World,wd=wc:=⟨_,rfl⟩;obtain⟨q,rfl,rfl,m0,m1,hq,hqh,hs1⟩:=hcut;have hk1:=hnx.out.trans (Zcv.of_below hs1.low (by omega) (by omega));have hj1:=Ze4 HJ.out hJs.out hs1.low;have d0:=hs1.cell (p:=⟨Ba,0,none⟩) HP.out.2.2.1 HP.out.1;have d1:=hs1.cell (p:=⟨b1,o1+k*2,none⟩) HP.out.2.2.2 HP.out.2.1.1;have d2:=hs1.cell (p:=⟨b1,o1+k*2+1,none⟩) HP.out.2.2.2 HP.out.2.1.2;generalize Ve.mulR u y=m at *;generalize Ve.mulK u y=mk at *;have HY2:Hid (∀w',Below wd.drew.heap.size wd.drew w'->YieldAt Fence.wide (n-1) Tryz.prog l #[.agg #[.int .i64 (Ve.addR x m).1,.int .i64 (Ve.addR x m).2],.bool (Ve.addK x m)] w' fun e W'=>∃b:Bool,e=.returned (.bool b)/\Went n₀ lo hi J Jx (seqF (Ve.sc xs u ys) (k+1)) wr b W'):=by
     intro w' hb2';have hb2:Below wd.heap.size wd w':=((Below.refl wd.heap.size wd).drew).trans hb2';have h:=HY.out _ (Ve.sc xs u ys k) w' (Ze4 HJ.out hj1 hb2) (by rw[Zok];exact hlt);rw[HF.out] at h;refine h.mono ?_;rintro e W' (⟨rfl,h3,h4⟩ | ⟨rfl,h3⟩)
     ·exact⟨true,rfl,.inl ⟨rfl,by rw[HS.out,HF.out];exact h3,(Zcv.of_below (hs1.low.trans (hb2.mono hs1.low.size)) (by omega) (by omega)).trans h4⟩⟩
     ·exact⟨false,rfl,.inr ⟨rfl,by rw[HS.out,HF.out];exact h3⟩⟩
    clear hk1 hs1 hj1 HQ hin HP e0 e1 p0 p1 q0 q1 u0 u1
    gi_wp2_with fail
    gi_region_with_o (first
     | (refine⟨trivial,?_⟩;gi_at_call 163;refine (callsIn_wide.2 (Zsn x m _)).mono ?_;rintro e w' ⟨rfl,hb2⟩;obtain⟨fn,tmps,assign,body,hy,hR⟩:=HY2.out w' hb2;have HR:=zH hR;clear hR hb2)
     | (refine HR.out.mono ?_;rintro e W3 ⟨bb,rfl,hW⟩;have HW:=zH hW;clear hW))
    all_goals
     rcases HW.out with ⟨rfl,hJ3,hk3⟩ | ⟨rfl,hJx3⟩
     ·have HJ3:=zH hJ3
      have HK3:=zH (hnx.out.trans hk3);clear hJ3 hk3 HW
      gi_wp2_with fail
      go_roundw
      case rel=>exact⟨k+1,by omega,by go_num,HJ3,HK3⟩
      case measure=>simp[intOf];omega
     ·have HJ3:=zH hJx3
      clear hJx3 HW
      gi_wp2_with fail
      refine bodyPost_ret (results_none rfl _ _ _) rfl ?_;exact⟨⟨_,rfl⟩,.inr ⟨_,⟨k+1,by omega,rfl⟩,HJ3.out⟩⟩
  ·obtain rfl:k=xs.length:=by omega
   gi_wp2
   go_end0
   exact⟨⟨_,rfl⟩,.inl ⟨_,rfl,hJs.out⟩⟩
attribute [local go_sem] Oper.semAt_some
theorem Zn3 (a1 a2:Option Addr) (n1 n2 c1 c2:Nat) (w:World):Calls Tryz.prog 201 #[.slice a1 n1 c1,.slice a2 n2 c2] w fun e w'=>
  e=.returned (.func (.func 223) #[] #[.pointer (some ⟨w.heap.size,0,none⟩),.pointer (some ⟨w.heap.size+1,0,none⟩)])/\(w.alloc (.cells #[.slice a1 n1 c1] 26)).alloc (.cells #[.slice a2 n2 c2] 26)=w':=by
 go_enter Tryz.func201,Tryz.ntmps201
 go_wp2_with fail
 go_ret;exact⟨rfl,rfl⟩
def accP (l:List R):R×Bool:=l.foldl (fun s p=>(Ve.addR s.1 p,Ve.addK s.1 p)) ((0,1),true)
theorem Zow (l:List R) (x:R):accP (l++[x])=(Ve.addR (accP l).1 x,Ve.addK (accP l).1 x):=by unfold accP;rw[List.foldl_append];rfl
theorem Znl (xs ys:List R):∀k,accP (seqF (pr xs ys) k)=Ve.acc xs ys k
 | 0=>rfl
 | k+1=>by rw[Zgx,Zow,Znl xs ys k,Ve.Ze5];rfl
theorem Zhl {W W':World} {row:Option Nat} {B p:Nat} {ob:Obj} (h:W.heap[p]? = some ob) (hp:p<B) (hg:W.grownBy W' row) (hr:∀r,row=some r->B≤r/\∃o:Obj,W.heap[r]? = some o/\o.isCells=false):W'.heap[p]? = some ob:=
 (hg.block p (Zab h) (fun e=>by have:=(hr p e.symm).1;omega)).trans h
theorem Zm1 {W W':World} {row:Option Nat} {B p:Nat} {cs:Array Value} {t:TypeId} {f:Nat×Nat} (h:W.heap[p]? = some (.cells cs t f)) (hg:W.grownBy W' row) (hr:∀r,row=some r->B≤r/\∃o:Obj,W.heap[r]? = some o/\o.isCells=false):W'.heap[p]? = some (.cells cs t f):=
 (hg.block p (Zab h) (fun e=>by obtain⟨_,o,ho,hc⟩:=hr p e.symm;rw[h] at ho;cases ho;cases hc)).trans h
theorem Zrf {W W':World} (h:Below W.heap.size W W'):KeepsOthers W W':=⟨h.size,fun k _ hk _=>(h.block k (Zab hk)).trans hk⟩
theorem Zjk {W:World} {p D:Nat} {o o1 o2:Obj} (h:W.heap[p]? = some o) (hK:W.heap[D]? = some o1) (hne:o1≠o):(W.putObj D o2).heap[p]? = some o:=
 ((grownBy_putObj' W D o2).block p (Zab h) (fun e=>by cases e;rw[h] at hK;exact hne (Option.some.inj hK).symm)).trans h
theorem Zcv.setCell {n₀ lo hi:Nat} {W W1:World} (h:Zcv n₀ lo hi W W1) (b i:Nat) (u:Value) (h1:n₀≤b) (h2:b<lo\/hi≤b):Zcv n₀ lo hi W (W1.setCell ⟨b,i,none⟩ u):=
 ⟨h.low.setCell (p:=⟨b,i,none⟩) h1 u,fun k a c=>by rw[Below.heap_setCell _ _ _ _ (show k≠b by omega)];exact h.mid k a c⟩
structure DotW (w:World) (s:R) (k:Bool) (W:World):Prop where
 sum:Zau W (w.heap.size+1+1) s
 fits:Boxed W (w.heap.size+1+1+1) 4 (.bool k)
 res:Zau W w.heap.size (0,0)
 ok:Boxed W (w.heap.size+1) 4 (.bool false)
 low:Below w.heap.size w W
 big:w.heap.size+6≤W.heap.size
theorem DotW.grown {w:World} {s:R} {k:Bool} {W W':World} {row:Option Nat} {B:Nat} (h:DotW w s k W) (hB:w.heap.size+4≤B) (hg:W.grownBy W' row) (hr:∀r,row=some r->B≤r/\∃o:Obj,W.heap[r]? = some o/\o.isCells=false):DotW w s k W':=
 ⟨Zhl h.sum (by omega) hg hr,Zhl h.fits (by omega) hg hr,Zhl h.res (by omega) hg hr,Zhl h.ok (by omega) hg hr,h.low.grown hg h.low.size (fun r e=>by have:=(hr r e).1;omega),Nat.le_trans h.big hg.size⟩
theorem DotW.below {w:World} {s:R} {k:Bool} {W W':World} (h:DotW w s k W) (hb:Below W.heap.size W W'):DotW w s k W':=
 ⟨h.sum.below hb,(hb.block _ h.fits.lt).trans h.fits,h.res.below hb,(hb.block _ h.ok.lt).trans h.ok,h.low.trans (hb.mono h.low.size),Nat.le_trans h.big hb.size⟩
theorem DotW.set {w:World} {s:R} {k:Bool} {W:World} (h:DotW w s k W) (s':R) (k':Bool) :
  DotW w s' k' (((W.setCell ⟨w.heap.size+1+1,0,none⟩ (.int .i64 s'.1)).setCell ⟨w.heap.size+1+1,1,none⟩ (.int .i64 s'.2)).setCell ⟨w.heap.size+1+1+1,0,none⟩ (.bool k')):=by
 refine⟨?_,?_,?_,?_,?_,?_⟩
 ·unfold Zau
  rw[Below.heap_setCell _ _ _ _ (show w.heap.size+1+1≠w.heap.size+1+1+1 by omega)];exact h.sum.set s'
 ·refine Boxed.set _ (v:=.bool k) ?_
  unfold Boxed;rw[Below.heap_setCell _ _ _ _ (show w.heap.size+1+1+1≠w.heap.size+1+1 by omega),Below.heap_setCell _ _ _ _ (show w.heap.size+1+1+1≠w.heap.size+1+1 by omega)];exact h.fits
 ·unfold Zau
  rw[Below.heap_setCell _ _ _ _ (show w.heap.size≠w.heap.size+1+1+1 by omega),Below.heap_setCell _ _ _ _ (show w.heap.size≠w.heap.size+1+1 by omega),Below.heap_setCell _ _ _ _ (show w.heap.size≠w.heap.size+1+1 by omega)];exact h.res
 ·unfold Boxed
  rw[Below.heap_setCell _ _ _ _ (show w.heap.size+1≠w.heap.size+1+1+1 by omega),Below.heap_setCell _ _ _ _ (show w.heap.size+1≠w.heap.size+1+1 by omega),Below.heap_setCell _ _ _ _ (show w.heap.size+1≠w.heap.size+1+1 by omega)];exact h.ok
 ·exact ((h.low.setCell (p:=⟨w.heap.size+1+1,0,none⟩) (by show w.heap.size≤w.heap.size+1+1;omega) _).setCell (p:=⟨w.heap.size+1+1,1,none⟩) (by show w.heap.size≤w.heap.size+1+1;omega) _).setCell (p:=⟨w.heap.size+1+1+1,0,none⟩) (by show w.heap.size≤w.heap.size+1+1+1;omega) _
 ·simpa [World.setCell] using h.big
theorem DotW.zero {w:World} {s:R} {k:Bool} {W:World} (h:DotW w s k W) :
  DotW w s k (((W.setCell ⟨w.heap.size,0,none⟩ (.int .i64 0)).setCell ⟨w.heap.size,1,none⟩ (.int .i64 0)).setCell ⟨w.heap.size+1,0,none⟩ (.bool false)):=by
 refine⟨?_,?_,?_,?_,?_,?_⟩
 ·unfold Zau
  rw[Below.heap_setCell _ _ _ _ (show w.heap.size+1+1≠w.heap.size+1 by omega),Below.heap_setCell _ _ _ _ (show w.heap.size+1+1≠w.heap.size by omega),Below.heap_setCell _ _ _ _ (show w.heap.size+1+1≠w.heap.size by omega)];exact h.sum
 ·unfold Boxed
  rw[Below.heap_setCell _ _ _ _ (show w.heap.size+1+1+1≠w.heap.size+1 by omega),Below.heap_setCell _ _ _ _ (show w.heap.size+1+1+1≠w.heap.size by omega),Below.heap_setCell _ _ _ _ (show w.heap.size+1+1+1≠w.heap.size by omega)];exact h.fits
 ·unfold Zau
  rw[Below.heap_setCell _ _ _ _ (show w.heap.size≠w.heap.size+1 by omega)];exact h.res.set (0,0)
 ·refine Boxed.set _ (v:=.bool false) ?_
  unfold Boxed;rw[Below.heap_setCell _ _ _ _ (show w.heap.size+1≠w.heap.size by omega),Below.heap_setCell _ _ _ _ (show w.heap.size+1≠w.heap.size by omega)];exact h.ok
 ·exact ((h.low.setCell (p:=⟨w.heap.size,0,none⟩) (Nat.le_refl _) _).setCell (p:=⟨w.heap.size,1,none⟩) (Nat.le_refl _) _).setCell (p:=⟨w.heap.size+1,0,none⟩) (by show w.heap.size≤w.heap.size+1;omega) _
 ·simpa [World.setCell] using h.big
theorem Zjr (B:Nat) (a1 a2:Option Addr) (c1 c2:Nat) (xs ys:List R) (hl:xs.length=ys.length) (hn:xs.length≤1048576) (w:World) (hBw:B≤w.heap.size) (h1:Zah B w a1 xs) (h2:Zah B w a2 ys) :
  CallsIn Fence.wide 3 Tryz.prog 172 #[.slice a1 xs.length c1,.slice a2 ys.length c2] w (Zmr (Ve.dotR xs ys) (Ve.dotK xs ys) w):=by
 have H1:=zH (h1.mono hBw);have H2:=zH (h2.mono hBw);have HL:=zH hl;clear h1 h2;have b0:=(((((Zau.new w (0,0)).alloc (.cells #[.bool false] 4)).alloc (.cells #[.int .i64 0,.int .i64 1] 31)).alloc (.cells #[.bool true] 4)).alloc (.cells #[.slice a1 xs.length c1] 26)).alloc (.cells #[.slice a2 xs.length c2] 26);have b1:=((((Boxed.new (w.alloc (.cells #[.int .i64 0,.int .i64 0] 31)) 4 (.bool false)).alloc (.cells #[.int .i64 0,.int .i64 1] 31)).alloc (.cells #[.bool true] 4)).alloc (.cells #[.slice a1 xs.length c1] 26)).alloc (.cells #[.slice a2 xs.length c2] 26);have b2:=(((Zau.new ((w.alloc (.cells #[.int .i64 0,.int .i64 0] 31)).alloc (.cells #[.bool false] 4)) (0,1)).alloc (.cells #[.bool true] 4)).alloc (.cells #[.slice a1 xs.length c1] 26)).alloc (.cells #[.slice a2 xs.length c2] 26);have b3:=((Boxed.new (((w.alloc (.cells #[.int .i64 0,.int .i64 0] 31)).alloc (.cells #[.bool false] 4)).alloc (.cells #[.int .i64 0,.int .i64 1] 31)) 4 (.bool true)).alloc (.cells #[.slice a1 xs.length c1] 26)).alloc (.cells #[.slice a2 xs.length c2] 26);have b4:=(Boxed.new ((((w.alloc (.cells #[.int .i64 0,.int .i64 0] 31)).alloc (.cells #[.bool false] 4)).alloc (.cells #[.int .i64 0,.int .i64 1] 31)).alloc (.cells #[.bool true] 4)) 26 (.slice a1 xs.length c1)).alloc (.cells #[.slice a2 xs.length c2] 26);have b5:=Boxed.new (((((w.alloc (.cells #[.int .i64 0,.int .i64 0] 31)).alloc (.cells #[.bool false] 4)).alloc (.cells #[.int .i64 0,.int .i64 1] 31)).alloc (.cells #[.bool true] 4)).alloc (.cells #[.slice a1 xs.length c1] 26)) 26 (.slice a2 xs.length c2);have hB0:Below w.heap.size w ((((((w.alloc (.cells #[.int .i64 0,.int .i64 0] 31)).alloc (.cells #[.bool false] 4)).alloc (.cells #[.int .i64 0,.int .i64 1] 31)).alloc (.cells #[.bool true] 4)).alloc (.cells #[.slice a1 xs.length c1] 26)).alloc (.cells #[.slice a2 xs.length c2] 26)):=by (repeat' (first|exact Below.refl _ _|exact Nat.le_refl _|refine Below.setCell ?_ ?_ _|refine Below.alloc ?_ ?_ _|refine below_drewN ?_ _|refine Below.drew ?_ | (simp;done) | (simp;omega)))
 have hsz:((((((w.alloc (.cells #[.int .i64 0,.int .i64 0] 31)).alloc (.cells #[.bool false] 4)).alloc (.cells #[.int .i64 0,.int .i64 1] 31)).alloc (.cells #[.bool true] 4)).alloc (.cells #[.slice a1 xs.length c1] 26)).alloc (.cells #[.slice a2 xs.length c2] 26)).heap.size=w.heap.size+6:=by simp only[World.size_alloc]
 simp only[World.size_alloc] at b0 b1 b2 b3 b4 b5;rw[<-hl];refine callsIn_of_wp_marks Tryz.func172 rfl trivial ?_ rfl;simp only[Tryz.ntmps172,List.size_toArray,List.length_cons,List.length_nil,Nat.reduceAdd,Nat.reduceSub,Array.replicate_succ,Array.replicate_zero,List.push_toArray,List.append_toArray,List.nil_append,List.cons_append];have HB:=zH (And.intro b0 (And.intro b1 (And.intro b2 (And.intro b3 (And.intro b4 (And.intro b5 (And.intro hB0 hsz)))))));clear b0 b1 b2 b3 b4 b5 hB0 hsz hl
 gi_wp2_with fail
 refine⟨trivial,(callsIn_wide.2 (Zn3 _ _ _ _ _ _ _)).mono ?_⟩;rintro e w1 ⟨rfl,rfl⟩
 gi_wp2_with fail
 obtain⟨W0,hW0⟩:∃W0,((((((w.alloc (.cells #[.int .i64 0,.int .i64 0] 31)).alloc (.cells #[.bool false] 4)).alloc (.cells #[.int .i64 0,.int .i64 1] 31)).alloc (.cells #[.bool true] 4)).alloc (.cells #[.slice a1 xs.length c1] 26)).alloc (.cells #[.slice a2 xs.length c2] 26))=W0:=⟨_,rfl⟩;rw[hW0] at HB ⊢;clear hW0;obtain⟨b0,b1,b2,b3,b4,b5,hB0,hsz⟩:=HB.out;clear HB;have hDW:DotW w (0,1) true W0:=⟨b2,b3,b0,b1,hB0,by omega⟩;refine wpIn_rangeFunc_ownH (F:=Fence.wide) rfl (by omega) (gf:=223) (lb:=#[.pointer (some ⟨w.heap.size+1+1+1+1,0,none⟩),.pointer (some ⟨w.heap.size+1+1+1+1+1,0,none⟩)]) rfl trivial (enters_of Tryz.func223 (by kernel_rfl) rfl)
  (encs:=encR) (Kp:=Zcv w.heap.size (w.heap.size+4) (w.heap.size+6)) (S:=fun zs=>zs=seqF (pr xs ys) xs.length) (Sp:=fun pre=>∃k,k≤xs.length/\pre=seqF (pr xs ys) k) (N:=xs.length) (w0:=W0)
  (fun l J Jx W hW hJ hJx hY h0=>Zwm 2 (by omega) l (w.heap.size+1+1+1+1) (w.heap.size+1+1+1+1+1) w.heap.size (w.heap.size+4) (w.heap.size+6) a1 a2 c1 c2 xs ys (by have:=HL.out;omega) (by have:=HL.out;omega) W.heap.size J Jx hJ hY W
   (by have:=hW.size;omega) (by have:=hW.size;omega) (by omega) (by omega) (by omega) (by omega) ((hW.cell (p:=⟨_,0,none⟩) b4.lt).trans b4.cell) (by have:=(hW.cell (p:=⟨_,0,none⟩) b5.lt).trans b5.cell;rw[HL.out] at this;exact this)
   (H1.out.below (hB0.trans (hW.mono (by omega)))) (H2.out.below (hB0.trans (hW.mono (by omega)))) h0)
  Zcv.trans (Zvq (by omega) (by omega)) (Below.refl _ _) (fun _=>rfl)
  (fun pre W=>DotW w (accP pre).1 true W/\(accP pre).2=true)
  (fun c pre W=>c=.ret/\(∃s,DotW w s false W)/\(accP pre).2=false)
  (fun pre W W' row hs hg hr=>⟨hs.1.grown (by omega) hg hr,hs.2⟩)
  (fun c pre W W' row hs hg hr=>⟨hs.1,hs.2.1.imp (fun s h=>h.grown (by omega) hg hr),hs.2.2⟩)
  ⟨hDW,rfl⟩
  (fun x a' W=>∃Bx,w.heap.size+6≤Bx/\Zau W Bx x/\a' = { tmps:=#[.slice a1 xs.length c1,.slice a2 xs.length c2,undef,undef,.pointer (some ⟨w.heap.size,0,none⟩),.pointer (some ⟨w.heap.size+1,0,none⟩),.pointer (some ⟨w.heap.size+1+1,0,none⟩),.pointer (some ⟨w.heap.size+1+1+1,0,none⟩),.pointer (some ⟨Bx,0,none⟩),.slice a1 xs.length c1,.int .i64 xs.length,.slice a2 xs.length c2,.int .i64 xs.length,.bool false,undef,.agg #[.int .i64 0,.int .i64 1],.slice a1 xs.length c1,.slice a2 xs.length c2,.func (.func 223) #[] #[.pointer (some ⟨w.heap.size+1+1+1+1,0,none⟩),.pointer (some ⟨w.heap.size+1+1+1+1+1,0,none⟩)],.agg #[.int .i64 x.1,.int .i64 x.2],undef,undef,undef,undef,undef,undef,undef,undef,undef,undef],defers:=[] })
  (fun x a' _ X Y row hs hg hr=>by obtain⟨Bx,h1,h2,h3⟩:=hs;exact⟨Bx,h1,Zm1 h2 hg hr,h3⟩)
  ?assign ?body ?done ?stop
 case assign=>
  rintro l pre x W K ⟨hD,hA⟩ hK;have hws:=hD.low.size;have hfl:=hD.fits.lt;have hbg:=hD.big;dsimp only[encR]
  gi_wp2
  exact hK _ _ ((KeepsOthers.alloc _ _).from _) (Zcv.of_below ((Below.refl _ _).alloc (Nat.le_refl _) _) hws hbg) ⟨hD.below ((Below.refl _ _).alloc (Nat.le_refl _) _),hA⟩ ⟨W.heap.size,hbg,Zau.new W x,rfl⟩
 case body=>
  rintro l pre x a' W hl _ ⟨hD,hA⟩ ⟨Bx,hBx,bX,rfl⟩ hlt;have hA2:=zH hA;have hws:=hD.low.size;have hbg:=hD.big;have HD:=zH hD;have HX:=zH bX;have HS:=zH (Zow pre x);obtain⟨s0,s1,sf0,sf1⟩:=hD.sum.four;obtain⟨x0,x1,-,-⟩:=bX.four;generalize (accP pre).1=s at *;clear hA hD bX
  gi_wp2_with fail
  refine⟨trivial,(CallsIn.inRound l (callsIn_wide.2 (Zsn s x _))).mono ?_⟩;rintro e w2 ⟨rfl,hb2⟩;have HK2:=zH (Zrf hb2);have HR2:=zH (Zcv.of_below (lo:=w.heap.size+4) (hi:=w.heap.size+6) hb2 hws hbg);have HD2:=zH (HD.out.below hb2);obtain⟨s0,s1,sf0,sf1⟩:=HD2.out.sum.four;have g0:=HD2.out.fits.cell;have g1:=HD2.out.fits.frozen;have r0:=HD2.out.res.four.1;have r1:=HD2.out.res.four.2.1;have rf0:=HD2.out.res.four.2.2.1;have rf1:=HD2.out.res.four.2.2.2;have k0:=HD2.out.ok.cell;have k1:=HD2.out.ok.frozen;clear hb2;generalize Ve.addR s x=A at *;generalize Ve.addK s x=ak at *;cases ak with
  | true=>
   gi_wp2_with fail
   exact⟨(((HK2.out.trans (KeepsOthers.setCell _ _ _)).trans (KeepsOthers.setCell _ _ _)).trans (KeepsOthers.setCell _ _ _)).from _,
    ((HR2.out.setCell _ _ _ (by omega) (by omega)).setCell _ _ _ (by omega) (by omega)).setCell _ _ _ (by omega) (by omega),by show DotW w (accP (pre++[x])).1 true _/\(accP (pre++[x])).2=true;rw[HS.out];exact⟨HD2.out.set A true,rfl⟩⟩
  | false=>
   gi_wp2_with fail
   exact⟨((((((HK2.out.trans (KeepsOthers.setCell _ _ _)).trans (KeepsOthers.setCell _ _ _)).trans (KeepsOthers.setCell _ _ _)).trans (KeepsOthers.setCell _ _ _)).trans (KeepsOthers.setCell _ _ _)).trans (KeepsOthers.setCell _ _ _)).from _,
    rfl,⟨A,(HD2.out.set A false).zero⟩,by show (accP (pre++[x])).2=false;rw[HS.out]⟩
 case done=>
  rintro D zs W hDl rfl ⟨hD,hA⟩ hK;rw[Znl] at hD hA;have hE:=Ve.Zd4 HL.out;rw[hA] at hE;have HE1:=zH hE.1;have HE2:=zH hE.2;generalize (Ve.acc xs ys xs.length).1=s at *;have HD:=zH hD;have HK:=zH hK;obtain⟨s0,s1,-,-⟩:=hD.sum.four;obtain⟨r0,r1,rf0,rf1⟩:=hD.res.four;have k0:=hD.ok.cell;have k1:=hD.ok.frozen;clear hD hA hE hK
  gi_wp2_with fail
  obtain⟨W2,hW2⟩:∃W2,(((W.setCell ⟨w.heap.size,0,none⟩ (.int .i64 s.1)).setCell ⟨w.heap.size,1,none⟩ (.int .i64 s.2)).setCell ⟨w.heap.size+1,0,none⟩ (.bool true))=W2:=⟨_,rfl⟩;have q0:Zau W2 w.heap.size s:=by
   rw[<-hW2];unfold Zau;rw[Below.heap_setCell _ _ _ _ (show w.heap.size≠w.heap.size+1 by omega)];exact HD.out.res.set s
  have q1:Boxed W2 (w.heap.size+1) 4 (.bool true):=by
   rw[<-hW2];refine Boxed.set _ (v:=.bool false) ?_;unfold Boxed;rw[Below.heap_setCell _ _ _ _ (show w.heap.size+1≠w.heap.size by omega),Below.heap_setCell _ _ _ _ (show w.heap.size+1≠w.heap.size by omega)];exact HD.out.ok
  have hK2:W2.heap[D]? = some (.deferred (some [])):=by
   rw[<-hW2];exact (((KeepsOthers.setCell _ _ _).trans (KeepsOthers.setCell _ _ _)).trans (KeepsOthers.setCell _ _ _)).same D _ HK.out rfl
  have hB2:Below w.heap.size w W2:=by
   rw[<-hW2];exact ((HD.out.low.setCell (p:=⟨w.heap.size,0,none⟩) (Nat.le_refl _) _).setCell (p:=⟨w.heap.size,1,none⟩) (Nat.le_refl _) _).setCell (p:=⟨w.heap.size+1,0,none⟩) (by show w.heap.size≤w.heap.size+1;omega) _
  rw[hW2];have z0:=Zce (Zjk (o2:=.deferred none) q0 hK2 (by simp));have z1:=Boxed.cell (Zjk (o2:=.deferred none) q1 hK2 (by simp));refine⟨by simp,.inl ⟨_,_,rfl,run_takeDeferred hK2,?_⟩⟩;exact⟨.tuple #[.agg #[.int .i64 s.1,.int .i64 s.2],.bool true],by simp[results,Tryz.results172,go_sem,z0.1,z0.2.1,z1],by rw[HE1.out,HE2.out];exact⟨rfl,hB2.trans (belowK_b (w:=w) (Nat.le_refl _) W2 D _ _ (by omega) hK2 rfl rfl)⟩⟩
 case stop=>
  rintro D c pre W hDl ⟨k,hk,rfl⟩ ⟨rfl,⟨s,hD⟩,hA⟩ hK;rw[Znl] at hA;have hE:=Ve.Zqw HL.out hk hA;have HE1:=zH hE.1;have HE2:=zH hE.2;have HD:=zH hD;have HK:=zH hK;clear hD hA hE hK
  gi_wp2_with fail
  have z0:=Zce (Zjk (o2:=.deferred none) HD.out.res HK.out (by simp));have z1:=Boxed.cell (Zjk (o2:=.deferred none) HD.out.ok HK.out (by simp));refine⟨by simp,.inl ⟨_,_,rfl,run_takeDeferred HK.out,?_⟩⟩;exact⟨.tuple #[.agg #[.int .i64 0,.int .i64 0],.bool false],by simp[results,Tryz.results172,go_sem,z0.1,z0.2.1,z1],by rw[HE1.out,HE2.out];exact⟨rfl,HD.out.low.trans (belowK_b (w:=w) (Nat.le_refl _) W D _ _ (by omega) HK.out rfl rfl)⟩⟩
theorem Zhm (B:Nat) (a1 a2:Option Addr) (c1 c2:Nat) (xs ys:List R) (hn:xs.length≤1048576) (_hn2:ys.length≤1048576) (w:World) (hBw:B≤w.heap.size) (h1:Zah B w a1 xs) (h2:Zah B w a2 ys) :
  Calls Tryz.prog 172 #[.slice a1 xs.length c1,.slice a2 ys.length c2] w (Zmr (Ve.dotR xs ys) (Ve.dotK xs ys) w):=by
 by_cases hl:xs.length=ys.length
 ·exact callsIn_wide.1 (Zjr B a1 a2 c1 c2 xs ys hl hn w hBw h1 h2)
 ·obtain⟨e1,e2⟩:=Ve.Zqx hl
  rw[e1,e2];have hlb:((xs.length:Int) == (ys.length:Int))=false/\((xs.length:Int) != (ys.length:Int))=true:=by
   have h1:((xs.length:Int) == (ys.length:Int))=false:=by rw[beq_eq_false_iff_ne];omega
   exact⟨h1,by rw[bne,h1];rfl⟩
  obtain⟨l1,l2⟩:=hlb;clear e1 e2 h1 h2
  go_enter Tryz.func172,Tryz.ntmps172
  go_wp2_with fail
  exact bodyPost_ret (v:=.tuple #[.agg #[.int .i64 0,.int .i64 0],.bool false]) (by simp[results,Tryz.results172,go_sem]) rfl ⟨rfl,by (repeat' (first|exact Below.refl _ _|exact Nat.le_refl _|refine Below.setCell ?_ ?_ _|refine Below.alloc ?_ ?_ _|refine below_drewN ?_ _|refine Below.drew ?_ | (simp;done) | (simp;omega)))⟩
attribute [local go_sem] Oper.semAt_some
def Gives (w:World) (gf:Nat) (lb:Array Value) (f:Nat->R×Bool) (n:Nat):Prop:=
 ∀W0,Below w.heap.size w W0->SeqStopsK Fence.wide 2 Tryz.prog gf lb encP (Zcv w.heap.size 0 w.heap.size) (fun ys=>ys=seqF f n) (fun pre=>∃k,k≤n/\pre=seqF f k) n W0
structure VecW (w:World) (v:Value) (l:List R) (W:World):Prop where
 vec:Boxed W (w.heap.size+1+1) 26 v
 own:Zaa w.heap.size W v l
 res:Boxed W w.heap.size 26 (.slice none 0 0)
 ok:Boxed W (w.heap.size+1) 4 (.bool false)
 low:Below w.heap.size w W
 big:w.heap.size+3≤W.heap.size
theorem VecW.grown {w:World} {v:Value} {l:List R} {W W':World} {row:Option Nat} {B:Nat} (h:VecW w v l W) (hB:w.heap.size+3≤B) (hg:W.grownBy W' row) (hr:∀r,row=some r->B≤r/\∃o:Obj,W.heap[r]? = some o/\o.isCells=false):VecW w v l W':=by
 refine⟨Zhl h.vec (by omega) hg hr,h.own.kept hg ?_,Zhl h.res (by omega) hg hr,Zhl h.ok (by omega) hg hr,h.low.grown hg h.low.size (fun r e=>by have:=(hr r e).1;omega),Nat.le_trans h.big hg.size⟩
 rcases h.own.2 with ⟨rfl,_⟩ | ⟨g,cap,cur,rfl,_,hgb,_⟩
 ·exact .inl rfl
 ·refine .inr fun e'=>?_
  obtain⟨_,o,ho,hc⟩:=hr g e'.symm;rw[hgb] at ho;cases ho;cases hc
theorem VecW.below {w:World} {v:Value} {l:List R} {W W':World} (h:VecW w v l W) (hb:Below W.heap.size W W'):VecW w v l W':=
 ⟨(hb.block _ h.vec.lt).trans h.vec,h.own.below hb,(hb.block _ h.res.lt).trans h.res,(hb.block _ h.ok.lt).trans h.ok,h.low.trans (hb.mono h.low.size),Nat.le_trans h.big hb.size⟩
theorem VecW.nil {w:World} {v:Value} {l:List R} {W:World} (h:VecW w v l W):VecW w v l ((W.setCell ⟨w.heap.size,0,none⟩ (.slice none 0 0)).setCell ⟨w.heap.size+1,0,none⟩ (.bool false)):=by
 have e:∀k,k≠w.heap.size->k≠w.heap.size+1->((W.setCell ⟨w.heap.size,0,none⟩ (.slice none 0 0)).setCell ⟨w.heap.size+1,0,none⟩ (.bool false)).heap[k]? = W.heap[k]?:=fun k h1 h2=>by
  rw[Below.heap_setCell _ _ _ _ (show k≠w.heap.size+1 from h2),Below.heap_setCell _ _ _ _ (show k≠w.heap.size from h1)]
 refine⟨(e _ (by omega) (by omega)).trans h.vec,?_,?_,?_,?_,by simpa [World.setCell] using h.big⟩
 ·have o1:=World.ownsRow.kept h.own (grownBy_setCell' W w.heap.size (.slice none 0 0)) (.inr (h.res.not_row (by decide) h.own).symm)
  exact o1.kept (grownBy_setCell' _ (w.heap.size+1) (.bool false)) (.inr (h.ok.not_row (by decide) h.own).symm)
 ·unfold Boxed
  rw[Below.heap_setCell _ _ _ _ (show w.heap.size≠w.heap.size+1 by omega)];exact h.res.set _
 ·refine Boxed.set _ (v:=.bool false) ?_
  unfold Boxed;rw[Below.heap_setCell _ _ _ _ (show w.heap.size+1≠w.heap.size by omega)];exact h.ok
 ·exact (h.low.setCell (p:=⟨w.heap.size,0,none⟩) (Nat.le_refl _) _).setCell (p:=⟨w.heap.size+1,0,none⟩) (by show w.heap.size≤w.heap.size+1;omega) _
theorem VecW.appended {w:World} {v v':Value} {l:List R} {x:R} {W w1:World} {tmp:Obj} (h:VecW w v l W) (hown':w1.ownsRow w.heap.size 31 2 v' (l.length+1) (Zaq l++[.int .i64 x.1,.int .i64 x.2])) (hgrow:(W.alloc tmp).grownBy w1 v.ownBlock) :
  Boxed w1 (w.heap.size+1+1) 26 v/\VecW w v' (l++[x]) (w1.setCell ⟨w.heap.size+1+1,0,none⟩ v')/\KeepsOthers W (w1.setCell ⟨w.heap.size+1+1,0,none⟩ v')/\Below w.heap.size W (w1.setCell ⟨w.heap.size+1+1,0,none⟩ v'):=by
 obtain⟨hv1,hv2,hr2,hk2,hb2⟩:=h.vec.appended (by decide) h.own h.low.size (by omega) hown' hgrow;have g0:Boxed w1 w.heap.size 26 (.slice none 0 0):=(h.res.alloc tmp).kept hgrow (h.res.not_row (by decide) h.own);have g1:Boxed w1 (w.heap.size+1) 4 (.bool false):=(h.ok.alloc tmp).kept hgrow (h.ok.not_row (by decide) h.own);exact⟨hv1,⟨hv2,Zaa.more hr2,g0.other (by omega) _,g1.other (by omega) _,h.low.trans hb2,Nat.le_trans h.big hk2.size⟩,hk2,hb2⟩
theorem cell_two_new (W:World) (x y:Value) (t:TypeId):∀(j:Nat) (u:Value),[x,y][j]? = some u->(W.alloc (.cells #[x,y] t)).cell? ((⟨W.heap.size,0,none⟩:Addr).add j)=some u:=by
 intro j u hj
 match j,hj with
 | 0,hj=>simp at hj;subst hj;simp[Addr.add]
 | 1,hj=>simp at hj;subst hj;simp[Addr.add]
def VecI (w:World) (pre:List (R×Bool)) (W:World):Prop:=(∃v,VecW w v (pre.map (·.1)) W)/\∀x,x∈pre->x.2=true
def Z1w (pre:List (R×Bool)):Prop:=∃(pre':List (R×Bool)) (x:R×Bool),pre=pre'++[x]/\x.2=false
def VecX (w:World) (c:Code) (pre:List (R×Bool)) (W:World):Prop:=c=.ret/\(∃v l,VecW w v l W)/\Z1w pre
theorem Zf8 (gf:Nat) (lb:Array Value) (eg:∀args w,(callFunc gf args).run Tryz.prog w=.ok (.enter gf args) w) (f:Nat->R×Bool) (n:Nat) (hn:n≤1048576) (w:World) (hseq:Gives w gf lb f n) :
  CallsIn Fence.wide 3 Tryz.prog 207 #[.func (.func gf) #[] lb] w (Zcw (Ve.outR f n) (Ve.allK f n) w):=by
 obtain⟨i0,hi,hz0,hz1,hz2⟩:=info_parts Zeo;have HI:=zH hi;have HZ0:=zH hz0;have HZ1:=zH hz1;have HZ2:=zH hz2;have b0:=((Boxed.new w 26 (.slice none 0 0)).alloc (.cells #[.bool false] 4)).alloc (.cells #[.slice none 0 0] 26);have b1:=(Boxed.new (w.alloc (.cells #[.slice none 0 0] 26)) 4 (.bool false)).alloc (.cells #[.slice none 0 0] 26);have b2:=Boxed.new ((w.alloc (.cells #[.slice none 0 0] 26)).alloc (.cells #[.bool false] 4)) 26 (.slice none 0 0);have hB0:Below w.heap.size w (((w.alloc (.cells #[.slice none 0 0] 26)).alloc (.cells #[.bool false] 4)).alloc (.cells #[.slice none 0 0] 26)):=by (repeat' (first|exact Below.refl _ _|exact Nat.le_refl _|refine Below.setCell ?_ ?_ _|refine Below.alloc ?_ ?_ _|refine below_drewN ?_ _|refine Below.drew ?_ | (simp;done) | (simp;omega)))
 have hsz:(((w.alloc (.cells #[.slice none 0 0] 26)).alloc (.cells #[.bool false] 4)).alloc (.cells #[.slice none 0 0] 26)).heap.size=w.heap.size+3:=by simp only[World.size_alloc]
 simp only[World.size_alloc] at b0 b1 b2;have HB:=zH (And.intro b0 (And.intro b1 (And.intro b2 (And.intro hB0 hsz))));have HS:=zH hseq;have HE:=zH eg;clear b0 b1 b2 hB0 hsz hi hz0 hz1 hz2 hseq eg;refine callsIn_of_wp_marks Tryz.func207 rfl trivial ?_ rfl;simp only[Tryz.ntmps207,List.size_toArray,List.length_cons,List.length_nil,Nat.reduceAdd,Nat.reduceSub,Array.replicate_succ,Array.replicate_zero,List.push_toArray,List.append_toArray,List.nil_append,List.cons_append]
 gi_wp2_with fail
 obtain⟨W0,hW0⟩:∃W0,(((w.alloc (.cells #[.slice none 0 0] 26)).alloc (.cells #[.bool false] 4)).alloc (.cells #[.slice none 0 0] 26))=W0:=⟨_,rfl⟩;rw[hW0] at HB ⊢;clear hW0;obtain⟨b0,b1,b2,hB0,hsz⟩:=HB.out;clear HB;have hVW:VecW w (.slice none 0 0) [] W0:=⟨b2,Zaa.nil _ _,b0,b1,hB0,by omega⟩;refine wpIn_rangeFunc_ownH (F:=Fence.wide) rfl (by omega) (gf:=gf) (lb:=lb) rfl trivial HE.out
  (encs:=encP) (Kp:=Zcv w.heap.size 0 w.heap.size) (S:=fun ys=>ys=seqF f n) (Sp:=fun pre=>∃k,k≤n/\pre=seqF f k) (N:=n) (w0:=W0) (HS.out W0 hB0)
  Zcv.trans (Zvq (by omega) (by omega)) (Below.refl _ _) (fun _=>rfl)
  (VecI w)
  (VecX w)
  (fun pre W W' row hs hg hr=>⟨hs.1.imp (fun v h=>h.grown (by omega) hg hr),hs.2⟩)
  (fun c pre W W' row hs hg hr=>⟨hs.1,hs.2.1.imp (fun v h=>h.imp fun l h=>h.grown (by omega) hg hr),hs.2.2⟩)
  ⟨⟨_,hVW⟩,fun x hx=>by cases hx⟩
  (fun x a' W=>∃Bx,w.heap.size+3≤Bx/\Zau W Bx x.1/\a' = { tmps:=#[.func (.func gf) #[] lb,undef,.pointer (some ⟨w.heap.size,0,none⟩),.pointer (some ⟨w.heap.size+1,0,none⟩),.pointer (some ⟨w.heap.size+1+1,0,none⟩),.pointer (some ⟨Bx,0,none⟩),.bool x.2,.func (.func gf) #[] lb,.agg #[.int .i64 x.1.1,.int .i64 x.1.2],.bool x.2,undef,undef,undef,undef,undef,undef,undef],defers:=[] })
  (fun x a' _ X Y row hs hg hr=>by obtain⟨Bx,h1,h2,h3⟩:=hs;exact⟨Bx,h1,Zm1 h2 hg hr,h3⟩)
  ?assign ?body ?done ?stop
 case assign=>
  rintro l pre x W K ⟨⟨v,hV⟩,hA⟩ hK;have hws:=hV.low.size;have hbg:=hV.big;dsimp only[encP]
  gi_wp2
  exact hK _ _ ((KeepsOthers.alloc _ _).from _) (Zcv.of_below ((Below.refl _ _).alloc (Nat.le_refl _) _) hws hws) ⟨⟨v,hV.below ((Below.refl _ _).alloc (Nat.le_refl _) _)⟩,hA⟩ ⟨W.heap.size,hbg,Zau.new W x.1,rfl⟩
 case body=>
  rintro l pre ⟨x,xk⟩ a' W hl _ ⟨⟨v,hV⟩,hA⟩ ⟨Bx,hBx,bX,rfl⟩ hlt;have HA:=zH hA;have hws:=hV.low.size;have hbg:=hV.big;have HV:=zH hV;obtain⟨x0,x1,-,-⟩:=bX.four;have v0:=hV.vec.cell;have r0:=hV.res.cell;have r1:=hV.res.frozen;have k0:=hV.ok.cell;have k1:=hV.ok.frozen;clear hA hV bX;cases xk with
  | false=>
   gi_wp2_with fail
   exact⟨((KeepsOthers.setCell _ _ _).trans (KeepsOthers.setCell _ _ _)).from _,rfl,⟨v,_,HV.out.nil⟩,pre,_,rfl,rfl⟩
  | true=>
   have hlen:(pre.map (·.1)).length≤pre.length:=by simp
   obtain⟨ls,hls⟩:∃ls,pre.map (·.1)=ls:=⟨_,rfl⟩;rw[hls] at hlen HV;have HLS:=zH hls;clear hls;have Hown:=zH (World.ownsRow.alloc HV.out.own (.cells #[.int .i64 x.1,.int .i64 x.2] 31));have C1:=cell_two_new W (.int .i64 x.1) (.int .i64 x.2) 31;have C2:∀u∈[Value.int .i64 x.1,.int .i64 x.2],u.oneCell'=true:=fun u hu=>by simp at hu;rcases hu with rfl|rfl<;>rfl
   have C3:ls.length+1≤maxLen:=by unfold maxLen;omega
   have C4:(ls.length+1)*16≤140737488355328:=by omega
   have C5:w.heap.size≤(W.alloc (.cells #[.int .i64 x.1,.int .i64 x.2] 31)).heap.size:=by rw[Zar];omega
   have HC:=zH (And.intro C1 (And.intro C2 (And.intro C3 (And.intro C4 C5))));clear C1 C2 C3 C4 C5
   gi_wp2_with (gi_at_builtin;refine wpListIn_append_own _ rfl _ _ 26 rfl w.heap.size 31 i0 (.agg #[.int .i64 0,.int .i64 0]) 2 16 Tryz.underlying26 HI.out HZ0.out HZ1.out HZ2.out rfl (by decide) _ _ _ rfl Hown.out ⟨W.heap.size,0,none⟩ 1 1 [.int .i64 x.1,.int .i64 x.2] rfl rfl HC.out.1 HC.out.2.1 HC.out.2.2.1 HC.out.2.2.2.1 HC.out.2.2.2.2 ?_;intro v' w1 hown' hgrow _;obtain⟨hv1,hv2,hk2,hb2⟩:=HV.out.appended hown' hgrow;obtain⟨g',cap',rfl⟩:=ownsRow_succ hown';have hc1:=hv1.cell;have hf1:=hv1.frozen;have HV2:=zH hv2;have HK2:=zH hk2;have HB2:=zH hb2;clear hv2 hk2 hb2 hown' hgrow hv1)
   refine⟨HK2.out.from _,⟨HB2.out,fun k _ hk=>HB2.out.block k hk⟩,⟨_,by rw[List.map_append,HLS.out];exact HV2.out⟩,fun y hy=>?_⟩
   rcases List.mem_append.1 hy with h|h
   ·exact HA.out y h
   ·simp at h;rw[h]
 case done=>
  rintro D zs W hDl rfl ⟨⟨v,hV⟩,hA⟩ hK;have hE:Ve.allK f n=true:=by
   unfold Ve.allK;rw[List.all_eq_true];exact fun j hj=>hA (f j) (List.mem_map.2 ⟨j,hj,rfl⟩)
  have hE1:Ve.outR f n=(seqF f n).map (·.1):=by rw[Ve.Zds hE];unfold Ve.upto seqF;rw[List.map_map];rfl
  have HE1:=zH hE1;have HE2:=zH hE;have HV:=zH hV;have HK:=zH hK;have v0:=hV.vec.cell;have r0:=hV.res.cell;have r1:=hV.res.frozen;have k0:=hV.ok.cell;have k1:=hV.ok.frozen;generalize (seqF f n).map (·.1)=ls at *;obtain⟨va,vc,hvv,-,-,-⟩:=Zai hV.own;subst hvv;clear hV hA hE hE1 hK
  gi_wp2_with fail
  obtain⟨W2,hW2⟩:∃W2,((W.setCell ⟨w.heap.size,0,none⟩ (.slice va ls.length vc)).setCell ⟨w.heap.size+1,0,none⟩ (.bool true))=W2:=⟨_,rfl⟩;have q0:Boxed W2 w.heap.size 26 (.slice va ls.length vc):=by
   rw[<-hW2];unfold Boxed;rw[Below.heap_setCell _ _ _ _ (show w.heap.size≠w.heap.size+1 by omega)];exact HV.out.res.set _
  have q1:Boxed W2 (w.heap.size+1) 4 (.bool true):=by
   rw[<-hW2];refine Boxed.set _ (v:=.bool false) ?_;unfold Boxed;rw[Below.heap_setCell _ _ _ _ (show w.heap.size+1≠w.heap.size by omega)];exact HV.out.ok
  have hK2:W2.heap[D]? = some (.deferred (some [])):=by
   rw[<-hW2];exact ((KeepsOthers.setCell _ _ _).trans (KeepsOthers.setCell _ _ _)).same D _ HK.out rfl
  have hB2:Below w.heap.size w W2:=by
   rw[<-hW2];exact (HV.out.low.setCell (p:=⟨w.heap.size,0,none⟩) (Nat.le_refl _) _).setCell (p:=⟨w.heap.size+1,0,none⟩) (by show w.heap.size≤w.heap.size+1;omega) _
  have hO2:Zaa w.heap.size W2 (.slice va ls.length vc) ls:=by
   have o1:=World.ownsRow.kept HV.out.own (grownBy_setCell' W w.heap.size (.slice va ls.length vc)) (.inr (HV.out.res.not_row (by decide) HV.out.own).symm);have o2:=o1.kept (grownBy_setCell' _ (w.heap.size+1) (.bool true)) (.inr (HV.out.ok.not_row (by decide) HV.out.own).symm);rw[<-hW2];exact o2
  rw[hW2];have z0:=Boxed.cell (Zjk (o2:=.deferred none) q0 hK2 (by simp));have z1:=Boxed.cell (Zjk (o2:=.deferred none) q1 hK2 (by simp));refine⟨by simp,.inl ⟨_,_,rfl,run_takeDeferred hK2,?_⟩⟩;refine⟨.tuple #[.slice va ls.length vc,.bool true],by simp[results,Tryz.results207,go_sem,z0,z1],?_⟩;rw[HE1.out,HE2.out];exact⟨_,rfl,ownsRow_putObj hO2 _ hK2 rfl,hB2.trans (belowK_b (w:=w) (Nat.le_refl _) W2 D _ _ (by omega) hK2 rfl rfl)⟩
 case stop=>
  rintro D c pre W hDl ⟨k,hk,rfl⟩ ⟨rfl,⟨v,l,hV⟩,pre',x,hp,hx⟩ hK;have hE:Ve.allK f n=false:=by
   have hk0:k≠0:=by rintro rfl;simp[seqF] at hp
   obtain⟨k',rfl⟩:∃k',k=k'+1:=⟨k-1,by omega⟩;rw[Zgx] at hp;have hx2:f k'=x:=by have:=congrArg List.getLast? hp;simpa using this
   exact Ve.Zkk (k:=k') (by omega) (by rw[hx2];exact hx)
  have HE1:=zH (Ve.Zs1 hE);have HE2:=zH hE;have HV:=zH hV;have HK:=zH hK;clear hV hE hK hp
  gi_wp2_with fail
  have z0:=Boxed.cell (Zjk (o2:=.deferred none) HV.out.res HK.out (by simp));have z1:=Boxed.cell (Zjk (o2:=.deferred none) HV.out.ok HK.out (by simp));refine⟨by simp,.inl ⟨_,_,rfl,run_takeDeferred HK.out,?_⟩⟩;refine⟨.tuple #[.slice none 0 0,.bool false],by simp[results,Tryz.results207,go_sem,z0,z1],?_⟩;rw[HE1.out,HE2.out];exact⟨_,rfl,Zaa.nil _ _,HV.out.low.trans (belowK_b (w:=w) (Nat.le_refl _) W D _ _ (by omega) HK.out rfl rfl)⟩
theorem Z2l {m n:Nat} (h:m≠n):((m:Int) == (n:Int))=false/\((m:Int) != (n:Int))=true:=by
 have h1:((m:Int) == (n:Int))=false:=by rw[beq_eq_false_iff_ne];omega
 exact⟨h1,by rw[bne,h1];rfl⟩
theorem Zlc (a1 a2:Option Addr) (n1 n2 c1 c2:Nat) (u:R) (w:World):Calls Tryz.prog 227 #[.slice a1 n1 c1,.agg #[.int .i64 u.1,.int .i64 u.2],.slice a2 n2 c2] w fun e w'=>
  e=.returned (.func (.func 233) #[] #[.pointer (some ⟨w.heap.size,0,none⟩),.pointer (some ⟨w.heap.size+1,0,none⟩),.pointer (some ⟨w.heap.size+1+1,0,none⟩)])/\((w.alloc (.cells #[.slice a1 n1 c1] 26)).alloc (.cells #[.int .i64 u.1,.int .i64 u.2] 31)).alloc (.cells #[.slice a2 n2 c2] 26)=w':=by
 go_enter Tryz.func227,Tryz.ntmps227
 go_wp2_with fail
 go_ret;exact⟨rfl,rfl⟩
theorem Zp1 {Ba Bk Bb:Nat} (w:World) (a1 a2:Option Addr) (c1 c2:Nat) (xs:List R) (u:R) (ys:List R) (hl:xs.length=ys.length) (hn:ys.length≤1048576) (h1:Zah w.heap.size w a1 xs) (h2:Zah w.heap.size w a2 ys)
  (b4:Boxed w Ba 26 (.slice a1 xs.length c1)) (b5:Zau w Bk u) (b6:Boxed w Bb 26 (.slice a2 ys.length c2)) :
  Gives w 233 #[.pointer (some ⟨Ba,0,none⟩),.pointer (some ⟨Bk,0,none⟩),.pointer (some ⟨Bb,0,none⟩)] (Ve.sc xs u ys) xs.length:=by
 intro W0 hB0 l J Jx W hW hJ hJx hY h0;have hb:=hB0.trans (hW.mono hB0.size);have l1:=b4.lt;have l2:=b5.lt;have l3:=b6.lt;have hs:=hb.size;exact Zrx 2 (by omega) l Ba Bk Bb w.heap.size 0 w.heap.size a1 a2 c1 c2 xs u ys (by omega) hn W.heap.size J Jx hJ hY W hs hs (by omega) (by omega) (by omega) (by omega) (by omega) (by omega)
  ((hb.cell (p:=⟨Ba,0,none⟩) l1).trans b4.cell) (b5.below hb) ((hb.cell (p:=⟨Bb,0,none⟩) l3).trans b6.cell) (h1.below hb) (h2.below hb) h0
theorem Zfh (B:Nat) (a1 a2:Option Addr) (c1 c2:Nat) (xs:List R) (u:R) (ys:List R) (_hn:xs.length≤1048576) (hn2:ys.length≤1048576) (w:World) (hBw:B≤w.heap.size) (h1:Zah B w a1 xs) (h2:Zah B w a2 ys) :
  Calls Tryz.prog 210 #[.slice a1 xs.length c1,.agg #[.int .i64 u.1,.int .i64 u.2],.slice a2 ys.length c2] w (Zcw (Ve.scR xs u ys) (Ve.scK xs u ys) w):=by
 by_cases hl:xs.length=ys.length
 ·obtain⟨e1,e2⟩:=Ve.Zlr (k:=u) hl
  rw[e1,e2];have hb0:Below w.heap.size w ((((w.alloc (.cells #[.int .i64 u.1,.int .i64 u.2] 31)).alloc (.cells #[.slice a1 xs.length c1] 26)).alloc (.cells #[.int .i64 u.1,.int .i64 u.2] 31)).alloc (.cells #[.slice a2 ys.length c2] 26)):=by (repeat' (first|exact Below.refl _ _|exact Nat.le_refl _|refine Below.setCell ?_ ?_ _|refine Below.alloc ?_ ?_ _|refine below_drewN ?_ _|refine Below.drew ?_ | (simp;done) | (simp;omega)))
  have b4:=((Boxed.new (w.alloc (.cells #[.int .i64 u.1,.int .i64 u.2] 31)) 26 (.slice a1 xs.length c1)).alloc (.cells #[.int .i64 u.1,.int .i64 u.2] 31)).alloc (.cells #[.slice a2 ys.length c2] 26);have b5:=(Zau.new ((w.alloc (.cells #[.int .i64 u.1,.int .i64 u.2] 31)).alloc (.cells #[.slice a1 xs.length c1] 26)) u).alloc (.cells #[.slice a2 ys.length c2] 26);have b6:=Boxed.new (((w.alloc (.cells #[.int .i64 u.1,.int .i64 u.2] 31)).alloc (.cells #[.slice a1 xs.length c1] 26)).alloc (.cells #[.int .i64 u.1,.int .i64 u.2] 31)) 26 (.slice a2 ys.length c2);simp only[World.size_alloc] at b4 b5 b6;have hG:=Zp1 _ a1 a2 c1 c2 xs u ys hl hn2 (((h1.mono hBw).below hb0).mono hb0.size) (((h2.mono hBw).below hb0).mono hb0.size) b4 b5 b6;have HV:=zH (callsIn_wide.1 (Zf8 _ _ (enters_of Tryz.func233 (by kernel_rfl) rfl) (Ve.sc xs u ys) xs.length (by omega) _ hG));have HB0:=zH hb0;have hlb:((xs.length:Int) == (ys.length:Int))=true/\((xs.length:Int) != (ys.length:Int))=false:=by rw[hl];simp
  obtain⟨l1,l2⟩:=hlb;clear e1 e2 h1 h2 hl hG b4 b5 b6 hb0
  go_enter Tryz.func210,Tryz.ntmps210
  go_wp2_with fail
  refine (Zlc _ _ _ _ _ _ u _).mono ?_;rintro e w1 ⟨rfl,rfl⟩
  go_wp2_with fail
  refine HV.out.mono ?_;rintro e w2 ⟨v,rfl,ho,hb2⟩;have HO:=zH (ho.lower HB0.out.size);have HB2:=zH (HB0.out.trans (hb2.mono HB0.out.size));clear ho hb2
  go_wp2_with fail
  go_ret2
  exact⟨_,rfl,HO.out,HB2.out⟩
 ·obtain⟨e1,e2⟩:=Ve.Z0l (k:=u) hl
  rw[e1,e2];obtain⟨l1,l2⟩:=Z2l hl;clear e1 e2 h1 h2
  go_enter Tryz.func210,Tryz.ntmps210
  go_wp2_with fail
  go_ret2
  exact⟨_,rfl,Zaa.nil _ _,by (repeat' (first|exact Below.refl _ _|exact Nat.le_refl _|refine Below.setCell ?_ ?_ _|refine Below.alloc ?_ ?_ _|refine below_drewN ?_ _|refine Below.drew ?_ | (simp;done) | (simp;omega)))⟩
theorem Zn2 (a:Option Addr) (n c:Nat) (w:World):Calls Tryz.prog 208 #[.slice a n c] w fun e w'=>
  e=.returned (.func (.func 226) #[] #[.pointer (some ⟨w.heap.size,0,none⟩)])/\w.alloc (.cells #[.slice a n c] 25)=w':=by
 go_enter Tryz.func208,Tryz.ntmps208
 go_wp2_with fail
 go_ret;exact⟨rfl,rfl⟩
theorem Zmh {Ba:Nat} (w:World) (a:Option Addr) (c:Nat) (zs:List Int) (hn:zs.length≤1048576) (h1:Zat w.heap.size w a zs) (b4:Boxed w Ba 25 (.slice a zs.length c)) :
  Gives w 226 #[.pointer (some ⟨Ba,0,none⟩)] (Ve.ofI zs) zs.length:=by
 intro W0 hB0 l J Jx W hW hJ hJx hY h0;have hb:=hB0.trans (hW.mono hB0.size);have l1:=b4.lt;have hs:=hb.size;exact Zvo 2 (by omega) l Ba w.heap.size 0 w.heap.size a c zs hn W.heap.size J Jx hJ hY W hs hs ((hb.cell (p:=⟨Ba,0,none⟩) l1).trans b4.cell) (h1.below hb) h0
theorem Zgn (B:Nat) (a:Option Addr) (c:Nat) (zs:List Int) (hn:zs.length≤1048576) (w:World) (hBw:B≤w.heap.size) (h1:Zat B w a zs) :
  Calls Tryz.prog 179 #[.slice a zs.length c] w (Zcw (Ve.outR (Ve.ofI zs) zs.length) (Ve.allK (Ve.ofI zs) zs.length) w):=by
 have hb0:Below w.heap.size w (w.alloc (.cells #[.slice a zs.length c] 25)):=by (repeat' (first|exact Below.refl _ _|exact Nat.le_refl _|refine Below.setCell ?_ ?_ _|refine Below.alloc ?_ ?_ _|refine below_drewN ?_ _|refine Below.drew ?_ | (simp;done) | (simp;omega)))
 have b4:=Boxed.new w 25 (.slice a zs.length c);have hG:=Zmh _ a c zs hn (((h1.mono hBw).below hb0).mono hb0.size) b4;have HV:=zH (callsIn_wide.1 (Zf8 _ _ (enters_of Tryz.func226 (by kernel_rfl) rfl) (Ve.ofI zs) zs.length hn _ hG));have HB0:=zH hb0;clear h1 hG b4 hb0
 go_enter Tryz.func179,Tryz.ntmps179
 go_wp2_with fail
 refine (Zn2 _ _ _ _).mono ?_;rintro e w1 ⟨rfl,rfl⟩
 go_wp2_with fail
 refine HV.out.mono ?_;rintro e w2 ⟨v,rfl,ho,hb2⟩;have HO:=zH (ho.lower HB0.out.size);have HB2:=zH (HB0.out.trans (hb2.mono HB0.out.size));clear ho hb2
 go_wp2_with fail
 go_ret2
 exact⟨_,rfl,HO.out,HB2.out⟩
end Go.Proofs.YtlohljkfphljgaaGreat
