/- The parts VeIt0, VeIt1, VeIt2, VeDot, VeVec, VeAS. -/
import Derived.Test.YtpjnjidbdpfdcaaGreatGVb
import Derived.RangeFuncNested
import Derived.RangeFuncBound
import Derived.RangeFuncCalls
import Derived.RangeFuncLeaves
import Derived.Shelf.Abstract
import Derived.Shelf.RegionOpen
import Derived.WalkKit
import Derived.OwnWalkIn
import Derived.TacticsInMore
import Derived.LoopNIn
import Derived.LoopIn
import Derived.Maps.AppendAt
set_option maxRecDepth 100000
set_option maxHeartbeats 8000000
namespace Go.Proofs.YtpjnjidbdpfdcaaGreat
open Go.RowKit Go.Shelf
open Ve (R)
attribute [local go_sem] Oper.semAt_some
def seqF {α:Type} (f:Nat->α) (k:Nat):List α:=(List.range k).map f
theorem Zd0 {α:Type} (f:Nat->α) (k:Nat):seqF f (k+1)=seqF f k++[f k]:=by simp[seqF,List.range_succ]
theorem Zkf {α:Type} (f:Nat->α) (k:Nat):(seqF f k).length=k:=by simp[seqF]
structure Zbq (n₀ lo hi:Nat) (W W':World):Prop where
 low:Below n₀ W W'
 mid:∀k,lo≤k->k<hi->W'.heap[k]? = W.heap[k]?
theorem Zbq.refl (n₀ lo hi:Nat) (W:World):Zbq n₀ lo hi W W:=⟨Below.refl _ _,fun _ _ _=>rfl⟩
theorem Zbq.trans {n₀ lo hi:Nat} {A B C:World} (h:Zbq n₀ lo hi A B) (k:Zbq n₀ lo hi B C):Zbq n₀ lo hi A C:=⟨h.low.trans k.low,fun i a b=>(k.mid i a b).trans (h.mid i a b)⟩
theorem Zbq.of_below {n₀ lo hi:Nat} {W W':World} (h:Below W.heap.size W W') (h1:n₀≤W.heap.size) (h2:hi≤W.heap.size):Zbq n₀ lo hi W W':=⟨h.mono h1,fun k _ b=>h.block k (by omega)⟩
theorem Zl7 {n₀ lo hi:Nat} {w:World} (hn:n₀≤w.heap.size) (hh:hi≤w.heap.size) (W:World) (l:Nat) (o o':Obj) (hl:w.heap.size≤l) (h:W.heap[l]? = some o) (h1:o.isCells=false) (h2:o.isWalk=false):Zbq n₀ lo hi W (W.putObj l o'):=
 ⟨belowK_b hn W l o o' hl h h1 h2,fun k _ b=>(grownBy_putObj' W l o').block k (by have:=(Array.getElem?_eq_some_iff.1 h).1;omega) (fun e=>by cases e;omega)⟩
theorem Zf3 {W W':World} (h:Below W.heap.size W W'):W.grownBy W' none:=⟨h.os,h.tape,h.output,h.size,fun k hk _=>h.block k hk⟩
theorem Zei {β:Type} {B:Nat} {J:β->World->Prop} (hJ:AbidesFrom B J) {s:β} {W W':World} (hs:J s W) (h:Below W.heap.size W W'):J s W':=
 hJ s W W' none hs (Zf3 h) (fun r e=>by cases e)
def encP (x:R×Bool):Array Value:=#[.agg #[.int .i64 x.1.1,.int .i64 x.1.2],.bool x.2]
def encR (x:R):Array Value:=#[.agg #[.int .i64 x.1,.int .i64 x.2]]
theorem Zl5 (n:Nat) (hn:1≤n) (l Bs n₀ lo hi:Nat) (a:Option Addr) (cap:Nat) (zs:List Int) (hz:zs.length≤1048576) (B0:Nat) (J Jx:List (R×Bool)->World->Prop) (hJ:AbidesFrom B0 J)
  (hY:∀pre x W,J pre W->pre.length<zs.length->YieldAt Fence.wide (n-1) Tryz.prog l (encP x) W fun e W'=>
   (e=.returned (.bool true)/\J (pre++[x]) W'/\Zbq n₀ lo hi W W')\/(e=.returned (.bool false)/\Jx (pre++[x]) W'))
  (W:World) (hn₀:n₀≤W.heap.size) (hhi:hi≤W.heap.size) (hBs:W.cell? ⟨Bs,0,none⟩=some (.slice a zs.length cap)) (hI:Zal n₀ W a zs) (h0:J [] W) :
  CallsIn Fence.wide n Tryz.prog 105 #[.func (.yield l) #[] #[],.pointer (some ⟨Bs,0,none⟩)] W fun e W'=>(∃v,e=.returned v)/\
   ((∃ys,ys=seqF (Ve.ofI zs) zs.length/\J ys W')\/(∃pre,(∃k,k≤zs.length/\pre=seqF (Ve.ofI zs) k)/\Jx pre W')):=by
 have HI:=zH hI;have HY:=zH hY;have H0:=zH h0;have HJ:=zH hJ;clear hI hY h0 hJ;refine callsIn_of_wp Tryz.func105 rfl trivial ?_ rfl;simp only[Tryz.ntmps105,List.size_toArray,List.length_cons,List.length_nil,Nat.reduceAdd,Nat.reduceSub,Array.replicate_succ,Array.replicate_zero,List.push_toArray,List.append_toArray,List.nil_append,List.cons_append]
 gi_wp2
 gi_loopw [7] (fun i wr=>∃k:Nat,k≤zs.length/\i=.int .i64 k/\Hid (J (seqF (Ve.ofI zs) k) wr)/\Hid (Zbq n₀ lo hi W wr))
  (fun i _=>zs.length-(intOf i).toNat)
 case atStart=>exact⟨0,Nat.zero_le _,rfl,H0,Zbq.refl _ _ _ _⟩
 case round=>
  obtain⟨k,hk,rfl,hJs,hnx⟩:=hrel
  by_cases hlt:k<zs.length
  ·obtain⟨b,o,rfl,l1,p0⟩:=(HI.out.below hnx.out.low) k hlt
   have HS:=zH (Zd0 (Ve.ofI zs) k);have HF:=zH (show Ve.ofI zs k=((Ra.rn (zs.getD k 0) 1,Ra.rd (zs.getD k 0) 1),Ra.fits (zs.getD k 0) 1) from rfl);generalize zs.getD k 0=z at *
   gi_wp2_with fail
   refine⟨trivial,(callsIn_wide.2 (Zch z 1 _)).mono ?_⟩;rintro e w1 ⟨rfl,hb1⟩;have hk1:=hnx.out.trans (Zbq.of_below hb1 (Nat.le_trans hn₀ hnx.out.low.size) (Nat.le_trans hhi hnx.out.low.size));obtain⟨fn,tmps,assign,body,hy,hR⟩:=HY.out _ (Ve.ofI zs k) w1 (Zei HJ.out hJs.out hb1) (by rw[Zkf];exact hlt);rw[HF.out] at hy;dsimp only[encP] at hy;have HR:=zH hR;have HK1:=zH hk1;clear hR hk1 hb1
   gi_wp2_with fail
   refine HR.out.mono ?_;rintro e W3 (⟨rfl,hJ3,hk3⟩ | ⟨rfl,hJx3⟩)
   ·have HJ3:=zH hJ3
    have HK3:=zH (HK1.out.trans hk3);clear hJ3 hk3
    gi_wp2
    go_roundw
    case rel=>exact⟨k+1,by omega,by go_num,by rw[HS.out];exact HJ3,HK3⟩
    case measure=>simp[intOf];omega
   ·have HJ3:=zH hJx3
    clear hJx3
    gi_wp2
    refine bodyPost_ret (results_none rfl _ _ _) rfl ?_;exact⟨⟨_,rfl⟩,.inr ⟨_,⟨k+1,by omega,HS.out.symm⟩,HJ3.out⟩⟩
  ·obtain rfl:k=zs.length:=by omega
   gi_wp2
   go_end0
   exact⟨⟨_,rfl⟩,.inl ⟨_,rfl,hJs.out⟩⟩
attribute [local go_sem] Oper.semAt_some
theorem Zjx (x y:R) (w:World):Calls Tryz.prog 79 #[.agg #[.int .i64 x.1,.int .i64 x.2],.agg #[.int .i64 y.1,.int .i64 y.2]] w fun e w'=>e=.returned (.tuple #[.agg #[.int .i64 (Ve.mulR x y).1,.int .i64 (Ve.mulR x y).2],.bool (Ve.mulK x y)])/\Below w.heap.size w w':=Ziy x.1 x.2 y.1 y.2 w
theorem Zjw (x y:R) (w:World):Calls Tryz.prog 64 #[.agg #[.int .i64 x.1,.int .i64 x.2],.agg #[.int .i64 y.1,.int .i64 y.2]] w fun e w'=>e=.returned (.tuple #[.agg #[.int .i64 (Ve.addR x y).1,.int .i64 (Ve.addR x y).2],.bool (Ve.addK x y)])/\Below w.heap.size w w':=Zix x.1 x.2 y.1 y.2 w
def Six (p q:Nat) (u v:Value) (b1 k1 b2 k2:Nat) (x y:R) (B:World):Prop:=
 (B.cell? ⟨p,0,none⟩=some u/\B.cell? ⟨q,0,none⟩=some v/\p<B.heap.size/\q<B.heap.size)/\Quad b1 k1 b2 k2 x y B
theorem Six.seven {p q:Nat} {u v:Value} {b1 k1 b2 k2:Nat} {x y:R} {B wx:World} (H:Hid (Six p q u v b1 k1 b2 k2 x y B)) (h:Since B wx) :
  wx.cell? ⟨p,0,none⟩=some u/\wx.cell? ⟨q,0,none⟩=some v/\wx.cell? ⟨b1,k1,none⟩=some (.int .i64 x.1)/\wx.cell? ⟨b1,k1+1,none⟩=some (.int .i64 x.2)/\wx.cell? ⟨b2,k2,none⟩=some (.int .i64 y.1)/\wx.cell? ⟨b2,k2+1,none⟩=some (.int .i64 y.2)/\Since B wx:=
 ⟨h.cell (p:=⟨p,0,none⟩) H.out.1.2.2.1 H.out.1.1,h.cell (p:=⟨q,0,none⟩) H.out.1.2.2.2 H.out.1.2.1,Quad.five H.out.2 h⟩
def pr (xs ys:List R) (j:Nat):R:=Ve.mulR (Ve.at_ xs j) (Ve.at_ ys j)
theorem Zml (n:Nat) (hn:1≤n) (l Ba Bb n₀ lo hi:Nat) (a1 a2:Option Addr) (c1 c2:Nat) (xs ys:List R) (hxy:xs.length≤ys.length) (hz:ys.length≤1048576) (B0:Nat) (J Jx:List R->World->Prop) (hJ:AbidesFrom B0 J)
  (hY:∀pre x W,J pre W->pre.length<xs.length->YieldAt Fence.wide (n-1) Tryz.prog l (encR x) W fun e W'=>
   (e=.returned (.bool true)/\J (pre++[x]) W'/\Zbq n₀ lo hi W W')\/(e=.returned (.bool false)/\Jx (pre++[x]) W'))
  (W:World) (hn₀:n₀≤W.heap.size) (hhi:hi≤W.heap.size) (ha:lo≤Ba) (ha':Ba<hi) (hb:lo≤Bb) (hb':Bb<hi)
  (hBa:W.cell? ⟨Ba,0,none⟩=some (.slice a1 xs.length c1)) (hBb:W.cell? ⟨Bb,0,none⟩=some (.slice a2 ys.length c2)) (h1:Zah n₀ W a1 xs) (h2:Zah n₀ W a2 ys) (h0:J [] W) :
  CallsIn Fence.wide n Tryz.prog 78 #[.func (.yield l) #[] #[],.pointer (some ⟨Ba,0,none⟩),.pointer (some ⟨Bb,0,none⟩)] W fun e W'=>(∃v,e=.returned v)/\
   ((∃zs,zs=seqF (pr xs ys) xs.length/\J zs W')\/(∃pre,(∃k,k≤xs.length/\pre=seqF (pr xs ys) k)/\Jx pre W')):=by
 have H1:=zH h1;have H2:=zH h2;have HY:=zH hY;have H0:=zH h0;have HJ:=zH hJ;have HA:=zH hBa;have HB:=zH hBb;clear h1 h2 hY h0 hJ hBb;refine callsIn_of_wp Tryz.func78 rfl trivial ?_ rfl;simp only[Tryz.ntmps78,List.size_toArray,List.length_cons,List.length_nil,Nat.reduceAdd,Nat.reduceSub,Array.replicate_succ,Array.replicate_zero,List.push_toArray,List.append_toArray,List.nil_append,List.cons_append]
 gi_wp2
 clear hBa
 gi_loopw [9] (fun i wr=>∃k:Nat,k≤xs.length/\i=.int .i64 k/\Hid (J (seqF (pr xs ys) k) wr)/\Hid (Zbq n₀ lo hi W wr))
  (fun i _=>xs.length-(intOf i).toNat)
 case atStart=>exact⟨0,Nat.zero_le _,rfl,H0,Zbq.refl _ _ _ _⟩
 case round=>
  obtain⟨k,hk,rfl,hJs,hnx⟩:=hrel;have hsz:=hnx.out.low.size
  by_cases hlt:k<xs.length
  ·have hlt2:k<ys.length:=by omega
   obtain⟨b1,o1,rfl,l1,p0,p1⟩:=(H1.out.below hnx.out.low).at k hlt;obtain⟨b2,o2,rfl,l2,q0,q1⟩:=(H2.out.below hnx.out.low).at k hlt2;have e0:wr.cell? ⟨Ba,0,none⟩=some (.slice (some ⟨b1,o1,none⟩) xs.length c1):=by
    rw[World.cell?_of_block (w:=W) (a:=⟨Ba,0,none⟩) (hnx.out.mid Ba ha ha')];exact HA.out
   have e1:wr.cell? ⟨Bb,0,none⟩=some (.slice (some ⟨b2,o2,none⟩) ys.length c2):=by
    rw[World.cell?_of_block (w:=W) (a:=⟨Bb,0,none⟩) (hnx.out.mid Bb hb hb')];exact HB.out
   have HS:=zH (Zd0 (pr xs ys) k);have HF:=zH (show pr xs ys k=Ve.mulR (Ve.at_ xs k) (Ve.at_ ys k) from rfl);generalize Ve.at_ xs k=x at *;generalize Ve.at_ ys k=y at *;have HQ:Hid (Six Ba Bb (.slice (some ⟨b1,o1,none⟩) xs.length c1) (.slice (some ⟨b2,o2,none⟩) ys.length c2) b1 (o1+k*2) b2 (o2+k*2) x y wr):=⟨⟨e0,e1,by omega,by omega⟩,p0,p1,q0,q1,by omega,by omega⟩;have hin:=Since.refl wr
   gi_wp2_with fail
   refine wpIn_wide.2 ?_
   go_cut [5,6] (fun p b wx=>Got wr (Ve.mulR x y).1 (Ve.mulR x y).2 (Ve.mulK x y) p b wx)
   case first=>
    go_region_held3 (fun w'=>w'.cell? ⟨Ba,0,none⟩=some (.slice (some ⟨b1,o1,none⟩) xs.length c1)/\w'.cell? ⟨Bb,0,none⟩=some (.slice (some ⟨b2,o2,none⟩) ys.length c2)/\w'.cell? ⟨b1,o1+k*2,none⟩=some (.int .i64 x.1)/\w'.cell? ⟨b1,o1+k*2+1,none⟩=some (.int .i64 x.2)/\w'.cell? ⟨b2,o2+k*2,none⟩=some (.int .i64 y.1)/\w'.cell? ⟨b2,o2+k*2+1,none⟩=some (.int .i64 y.2)/\Since wr w') (first|exact Six.seven HQ (by assumption) | exact Six.seven HQ (Since.drew (by assumption)) | exact Six.seven HQ (Own2.since (by assumption)) | exact Six.seven HQ (Since.drew (Own2.since (by assumption))) | exact Six.seven HQ (Since.alloc (by assumption) _) | exact Six.seven HQ (Since.drew (Since.alloc (by assumption) _)) | exact Six.seven HQ (Own2.set2 (by assumption) _ _) | exact Six.seven HQ (Since.drew (Own2.set2 (by assumption) _ _)))
     (first | (go_at_call 79;refine (Zb4 (Zjx x y _) (B:=wr) (x:=.int .i64 0) (y:=.int .i64 0) (t:=35) (by first|assumption|exact Own2.drew (by assumption) | exact Since.new (by assumption) _ _ _|exact Own2.drew (Since.new (by assumption) _ _ _))).mono ?_;rintro e w' ⟨⟨rfl,_⟩,hin3⟩;obtain⟨z0,z1,f0,f1⟩:=Own2.own hin3) | (go_at_call 79;refine (Zbd (Zjx x y _) (B:=wr) (by first|assumption|exact Since.drew (by assumption))).mono ?_;rintro e w' ⟨⟨rfl,_⟩,hin2⟩))
    all_goals
     go_wp2_with fail
     go_meet
     first
     | exact Got.last (by assumption) _ _ _ _
     | exact Got.set (by assumption) _ _ _
     | exact Got.drew (Got.last (by assumption) _ _ _ _)
     | exact Got.drew (Got.set (by assumption) _ _ _)
   case rest=>
    obtain⟨q,rfl,rfl,m0,m1,hq,hqh,hs1⟩:=hcut;have hk1:=hnx.out.trans (Zbq.of_below hs1.low (by omega) (by omega));have hj1:=Zei HJ.out hJs.out hs1.low;obtain⟨fn,tmps,assign,body,hy,hR⟩:=HY.out _ (pr xs ys k) wc hj1 (by rw[Zkf];exact hlt);rw[HF.out] at hy;dsimp only[encR] at hy;have HR:=zH hR;have HK1:=zH hk1;clear hR hk1 hs1 hj1 HQ hin
    gi_wp2_with fail
    refine HR.out.mono ?_;rintro e W3 (⟨rfl,hJ3,hk3⟩ | ⟨rfl,hJx3⟩)
    ·have HJ3:=zH hJ3
     have HK3:=zH (HK1.out.trans hk3);clear hJ3 hk3
     gi_wp2
     go_roundw
     case rel=>exact⟨k+1,by omega,by go_num,by rw[HS.out];exact HJ3,HK3⟩
     case measure=>simp[intOf];omega
    ·have HJ3:=zH hJx3
     clear hJx3
     gi_wp2
     refine bodyPost_ret (results_none rfl _ _ _) rfl ?_;exact⟨⟨_,rfl⟩,.inr ⟨_,⟨k+1,by omega,HS.out.symm⟩,HJ3.out⟩⟩
  ·obtain rfl:k=xs.length:=by omega
   gi_wp2
   go_end0
   exact⟨⟨_,rfl⟩,.inl ⟨_,rfl,hJs.out⟩⟩
attribute [local go_sem] Oper.semAt_some
def Five (p q:Nat) (u:R) (v:Value) (b2 k2:Nat) (y:R) (B:World):Prop:=
 (B.cell? ⟨p,0,none⟩=some (.int .i64 u.1)/\B.cell? ⟨p,1,none⟩=some (.int .i64 u.2)/\B.cell? ⟨q,0,none⟩=some v)/\(B.cell? ⟨b2,k2,none⟩=some (.int .i64 y.1)/\B.cell? ⟨b2,k2+1,none⟩=some (.int .i64 y.2))/\p<B.heap.size/\q<B.heap.size/\b2<B.heap.size
attribute [local go_sem] Oper.semAt_some
theorem Zg7 (a1 a2:Option Addr) (n1 n2 c1 c2:Nat) (w:World):Calls Tryz.prog 63 #[.slice a1 n1 c1,.slice a2 n2 c2] w fun e w'=>
  e=.returned (.func (.func 78) #[] #[.pointer (some ⟨w.heap.size,0,none⟩),.pointer (some ⟨w.heap.size+1,0,none⟩)])/\(w.alloc (.cells #[.slice a1 n1 c1] 36)).alloc (.cells #[.slice a2 n2 c2] 36)=w':=by
 go_enter Tryz.func63,Tryz.ntmps63
 go_wp2_with fail
 go_ret;exact⟨rfl,rfl⟩
def accP (l:List R):R×Bool:=l.foldl (fun s p=>(Ve.addR s.1 p,Ve.addK s.1 p)) ((0,1),true)
theorem Zhl (l:List R) (x:R):accP (l++[x])=(Ve.addR (accP l).1 x,Ve.addK (accP l).1 x):=by unfold accP;rw[List.foldl_append];rfl
theorem Zgv (xs ys:List R):∀k,accP (seqF (pr xs ys) k)=Ve.acc xs ys k
 | 0=>rfl
 | k+1=>by rw[Zd0,Zhl,Zgv xs ys k,Ve.Zc3];rfl
theorem Zdh {W W':World} {row:Option Nat} {B p:Nat} {ob:Obj} (h:W.heap[p]? = some ob) (hp:p<B) (hg:W.grownBy W' row) (hr:∀r,row=some r->B≤r/\∃o:Obj,W.heap[r]? = some o/\o.isCells=false):W'.heap[p]? = some ob:=
 (hg.block p (Zag h) (fun e=>by have:=(hr p e.symm).1;omega)).trans h
theorem Zgg {W W':World} {row:Option Nat} {B p:Nat} {cs:Array Value} {t:TypeId} {f:Nat×Nat} (h:W.heap[p]? = some (.cells cs t f)) (hg:W.grownBy W' row) (hr:∀r,row=some r->B≤r/\∃o:Obj,W.heap[r]? = some o/\o.isCells=false):W'.heap[p]? = some (.cells cs t f):=
 (hg.block p (Zag h) (fun e=>by obtain⟨_,o,ho,hc⟩:=hr p e.symm;rw[h] at ho;cases ho;cases hc)).trans h
theorem Zi1 {W W':World} (h:Below W.heap.size W W'):KeepsOthers W W':=⟨h.size,fun k _ hk _=>(h.block k (Zag hk)).trans hk⟩
theorem Zep {W:World} {p D:Nat} {o o1 o2:Obj} (h:W.heap[p]? = some o) (hK:W.heap[D]? = some o1) (hne:o1≠o):(W.putObj D o2).heap[p]? = some o:=
 ((grownBy_putObj' W D o2).block p (Zag h) (fun e=>by cases e;rw[h] at hK;exact hne (Option.some.inj hK).symm)).trans h
theorem Zbq.setCell {n₀ lo hi:Nat} {W W1:World} (h:Zbq n₀ lo hi W W1) (b i:Nat) (u:Value) (h1:n₀≤b) (h2:b<lo\/hi≤b):Zbq n₀ lo hi W (W1.setCell ⟨b,i,none⟩ u):=
 ⟨h.low.setCell (p:=⟨b,i,none⟩) h1 u,fun k a c=>by rw[Below.heap_setCell _ _ _ _ (show k≠b by omega)];exact h.mid k a c⟩
structure DotW (w:World) (s:R) (k:Bool) (W:World):Prop where
 sum:Zaj W (w.heap.size+1+1) s
 fits:Boxed W (w.heap.size+1+1+1) 4 (.bool k)
 res:Zaj W w.heap.size (0,0)
 ok:Boxed W (w.heap.size+1) 4 (.bool false)
 low:Below w.heap.size w W
 big:w.heap.size+6≤W.heap.size
theorem DotW.grown {w:World} {s:R} {k:Bool} {W W':World} {row:Option Nat} {B:Nat} (h:DotW w s k W) (hB:w.heap.size+4≤B) (hg:W.grownBy W' row) (hr:∀r,row=some r->B≤r/\∃o:Obj,W.heap[r]? = some o/\o.isCells=false):DotW w s k W':=
 ⟨Zdh h.sum (by omega) hg hr,Zdh h.fits (by omega) hg hr,Zdh h.res (by omega) hg hr,Zdh h.ok (by omega) hg hr,h.low.grown hg h.low.size (fun r e=>by have:=(hr r e).1;omega),Nat.le_trans h.big hg.size⟩
theorem DotW.below {w:World} {s:R} {k:Bool} {W W':World} (h:DotW w s k W) (hb:Below W.heap.size W W'):DotW w s k W':=
 ⟨h.sum.below hb,(hb.block _ h.fits.lt).trans h.fits,h.res.below hb,(hb.block _ h.ok.lt).trans h.ok,h.low.trans (hb.mono h.low.size),Nat.le_trans h.big hb.size⟩
theorem DotW.set {w:World} {s:R} {k:Bool} {W:World} (h:DotW w s k W) (s':R) (k':Bool) :
  DotW w s' k' (((W.setCell ⟨w.heap.size+1+1,0,none⟩ (.int .i64 s'.1)).setCell ⟨w.heap.size+1+1,1,none⟩ (.int .i64 s'.2)).setCell ⟨w.heap.size+1+1+1,0,none⟩ (.bool k')):=by
 refine⟨?_,?_,?_,?_,?_,?_⟩
 ·unfold Zaj
  rw[Below.heap_setCell _ _ _ _ (show w.heap.size+1+1≠w.heap.size+1+1+1 by omega)];exact h.sum.set s'
 ·refine Boxed.set _ (v:=.bool k) ?_
  unfold Boxed;rw[Below.heap_setCell _ _ _ _ (show w.heap.size+1+1+1≠w.heap.size+1+1 by omega),Below.heap_setCell _ _ _ _ (show w.heap.size+1+1+1≠w.heap.size+1+1 by omega)];exact h.fits
 ·unfold Zaj
  rw[Below.heap_setCell _ _ _ _ (show w.heap.size≠w.heap.size+1+1+1 by omega),Below.heap_setCell _ _ _ _ (show w.heap.size≠w.heap.size+1+1 by omega),Below.heap_setCell _ _ _ _ (show w.heap.size≠w.heap.size+1+1 by omega)];exact h.res
 ·unfold Boxed
  rw[Below.heap_setCell _ _ _ _ (show w.heap.size+1≠w.heap.size+1+1+1 by omega),Below.heap_setCell _ _ _ _ (show w.heap.size+1≠w.heap.size+1+1 by omega),Below.heap_setCell _ _ _ _ (show w.heap.size+1≠w.heap.size+1+1 by omega)];exact h.ok
 ·exact ((h.low.setCell (p:=⟨w.heap.size+1+1,0,none⟩) (by show w.heap.size≤w.heap.size+1+1;omega) _).setCell (p:=⟨w.heap.size+1+1,1,none⟩) (by show w.heap.size≤w.heap.size+1+1;omega) _).setCell (p:=⟨w.heap.size+1+1+1,0,none⟩) (by show w.heap.size≤w.heap.size+1+1+1;omega) _
 ·simpa [World.setCell] using h.big
theorem DotW.zero {w:World} {s:R} {k:Bool} {W:World} (h:DotW w s k W) :
  DotW w s k (((W.setCell ⟨w.heap.size,0,none⟩ (.int .i64 0)).setCell ⟨w.heap.size,1,none⟩ (.int .i64 0)).setCell ⟨w.heap.size+1,0,none⟩ (.bool false)):=by
 refine⟨?_,?_,?_,?_,?_,?_⟩
 ·unfold Zaj
  rw[Below.heap_setCell _ _ _ _ (show w.heap.size+1+1≠w.heap.size+1 by omega),Below.heap_setCell _ _ _ _ (show w.heap.size+1+1≠w.heap.size by omega),Below.heap_setCell _ _ _ _ (show w.heap.size+1+1≠w.heap.size by omega)];exact h.sum
 ·unfold Boxed
  rw[Below.heap_setCell _ _ _ _ (show w.heap.size+1+1+1≠w.heap.size+1 by omega),Below.heap_setCell _ _ _ _ (show w.heap.size+1+1+1≠w.heap.size by omega),Below.heap_setCell _ _ _ _ (show w.heap.size+1+1+1≠w.heap.size by omega)];exact h.fits
 ·unfold Zaj
  rw[Below.heap_setCell _ _ _ _ (show w.heap.size≠w.heap.size+1 by omega)];exact h.res.set (0,0)
 ·refine Boxed.set _ (v:=.bool false) ?_
  unfold Boxed;rw[Below.heap_setCell _ _ _ _ (show w.heap.size+1≠w.heap.size by omega),Below.heap_setCell _ _ _ _ (show w.heap.size+1≠w.heap.size by omega)];exact h.ok
 ·exact ((h.low.setCell (p:=⟨w.heap.size,0,none⟩) (Nat.le_refl _) _).setCell (p:=⟨w.heap.size,1,none⟩) (Nat.le_refl _) _).setCell (p:=⟨w.heap.size+1,0,none⟩) (by show w.heap.size≤w.heap.size+1;omega) _
 ·simpa [World.setCell] using h.big
theorem Zeu (B:Nat) (a1 a2:Option Addr) (c1 c2:Nat) (xs ys:List R) (hl:xs.length=ys.length) (hn:xs.length≤1048576) (w:World) (hBw:B≤w.heap.size) (h1:Zah B w a1 xs) (h2:Zah B w a2 ys) :
  CallsIn Fence.wide 3 Tryz.prog 43 #[.slice a1 xs.length c1,.slice a2 ys.length c2] w (Zdq (Ve.dotR xs ys) (Ve.dotK xs ys) w):=by
 have H1:=zH (h1.mono hBw);have H2:=zH (h2.mono hBw);have HL:=zH hl;clear h1 h2;have b0:=(((((Zaj.new w (0,0)).alloc (.cells #[.bool false] 4)).alloc (.cells #[.int .i64 0,.int .i64 1] 35)).alloc (.cells #[.bool true] 4)).alloc (.cells #[.slice a1 xs.length c1] 36)).alloc (.cells #[.slice a2 xs.length c2] 36);have b1:=((((Boxed.new (w.alloc (.cells #[.int .i64 0,.int .i64 0] 35)) 4 (.bool false)).alloc (.cells #[.int .i64 0,.int .i64 1] 35)).alloc (.cells #[.bool true] 4)).alloc (.cells #[.slice a1 xs.length c1] 36)).alloc (.cells #[.slice a2 xs.length c2] 36);have b2:=(((Zaj.new ((w.alloc (.cells #[.int .i64 0,.int .i64 0] 35)).alloc (.cells #[.bool false] 4)) (0,1)).alloc (.cells #[.bool true] 4)).alloc (.cells #[.slice a1 xs.length c1] 36)).alloc (.cells #[.slice a2 xs.length c2] 36);have b3:=((Boxed.new (((w.alloc (.cells #[.int .i64 0,.int .i64 0] 35)).alloc (.cells #[.bool false] 4)).alloc (.cells #[.int .i64 0,.int .i64 1] 35)) 4 (.bool true)).alloc (.cells #[.slice a1 xs.length c1] 36)).alloc (.cells #[.slice a2 xs.length c2] 36);have b4:=(Boxed.new ((((w.alloc (.cells #[.int .i64 0,.int .i64 0] 35)).alloc (.cells #[.bool false] 4)).alloc (.cells #[.int .i64 0,.int .i64 1] 35)).alloc (.cells #[.bool true] 4)) 36 (.slice a1 xs.length c1)).alloc (.cells #[.slice a2 xs.length c2] 36);have b5:=Boxed.new (((((w.alloc (.cells #[.int .i64 0,.int .i64 0] 35)).alloc (.cells #[.bool false] 4)).alloc (.cells #[.int .i64 0,.int .i64 1] 35)).alloc (.cells #[.bool true] 4)).alloc (.cells #[.slice a1 xs.length c1] 36)) 36 (.slice a2 xs.length c2);have hB0:Below w.heap.size w ((((((w.alloc (.cells #[.int .i64 0,.int .i64 0] 35)).alloc (.cells #[.bool false] 4)).alloc (.cells #[.int .i64 0,.int .i64 1] 35)).alloc (.cells #[.bool true] 4)).alloc (.cells #[.slice a1 xs.length c1] 36)).alloc (.cells #[.slice a2 xs.length c2] 36)):=by (repeat' (first|exact Below.refl _ _|exact Nat.le_refl _|refine Below.setCell ?_ ?_ _|refine Below.alloc ?_ ?_ _|refine below_drewN ?_ _|refine Below.drew ?_ | (simp;done) | (simp;omega)))
 have hsz:((((((w.alloc (.cells #[.int .i64 0,.int .i64 0] 35)).alloc (.cells #[.bool false] 4)).alloc (.cells #[.int .i64 0,.int .i64 1] 35)).alloc (.cells #[.bool true] 4)).alloc (.cells #[.slice a1 xs.length c1] 36)).alloc (.cells #[.slice a2 xs.length c2] 36)).heap.size=w.heap.size+6:=by simp only[World.size_alloc]
 simp only[World.size_alloc] at b0 b1 b2 b3 b4 b5;rw[<-hl];refine callsIn_of_wp_marks Tryz.func43 rfl trivial ?_ rfl;simp only[Tryz.ntmps43,List.size_toArray,List.length_cons,List.length_nil,Nat.reduceAdd,Nat.reduceSub,Array.replicate_succ,Array.replicate_zero,List.push_toArray,List.append_toArray,List.nil_append,List.cons_append];have HB:=zH (And.intro b0 (And.intro b1 (And.intro b2 (And.intro b3 (And.intro b4 (And.intro b5 (And.intro hB0 hsz)))))));clear b0 b1 b2 b3 b4 b5 hB0 hsz hl
 gi_wp2_with fail
 refine⟨trivial,(callsIn_wide.2 (Zg7 _ _ _ _ _ _ _)).mono ?_⟩;rintro e w1 ⟨rfl,rfl⟩
 gi_wp2_with fail
 obtain⟨W0,hW0⟩:∃W0,((((((w.alloc (.cells #[.int .i64 0,.int .i64 0] 35)).alloc (.cells #[.bool false] 4)).alloc (.cells #[.int .i64 0,.int .i64 1] 35)).alloc (.cells #[.bool true] 4)).alloc (.cells #[.slice a1 xs.length c1] 36)).alloc (.cells #[.slice a2 xs.length c2] 36))=W0:=⟨_,rfl⟩;rw[hW0] at HB ⊢;clear hW0;obtain⟨b0,b1,b2,b3,b4,b5,hB0,hsz⟩:=HB.out;clear HB;have hDW:DotW w (0,1) true W0:=⟨b2,b3,b0,b1,hB0,by omega⟩;refine wpIn_rangeFunc_ownH (F:=Fence.wide) rfl (by omega) (gf:=78) (lb:=#[.pointer (some ⟨w.heap.size+1+1+1+1,0,none⟩),.pointer (some ⟨w.heap.size+1+1+1+1+1,0,none⟩)]) rfl trivial (enters_of Tryz.func78 (by kernel_rfl) rfl)
  (encs:=encR) (Kp:=Zbq w.heap.size (w.heap.size+4) (w.heap.size+6)) (S:=fun zs=>zs=seqF (pr xs ys) xs.length) (Sp:=fun pre=>∃k,k≤xs.length/\pre=seqF (pr xs ys) k) (N:=xs.length) (w0:=W0)
  (fun l J Jx W hW hJ hJx hY h0=>Zml 2 (by omega) l (w.heap.size+1+1+1+1) (w.heap.size+1+1+1+1+1) w.heap.size (w.heap.size+4) (w.heap.size+6) a1 a2 c1 c2 xs ys (by have:=HL.out;omega) (by have:=HL.out;omega) W.heap.size J Jx hJ hY W
   (by have:=hW.size;omega) (by have:=hW.size;omega) (by omega) (by omega) (by omega) (by omega) ((hW.cell (p:=⟨_,0,none⟩) b4.lt).trans b4.cell) (by have:=(hW.cell (p:=⟨_,0,none⟩) b5.lt).trans b5.cell;rw[HL.out] at this;exact this)
   (H1.out.below (hB0.trans (hW.mono (by omega)))) (H2.out.below (hB0.trans (hW.mono (by omega)))) h0)
  Zbq.trans (Zl7 (by omega) (by omega)) (Below.refl _ _) (fun _=>rfl)
  (fun pre W=>DotW w (accP pre).1 true W/\(accP pre).2=true)
  (fun c pre W=>c=.ret/\(∃s,DotW w s false W)/\(accP pre).2=false)
  (fun pre W W' row hs hg hr=>⟨hs.1.grown (by omega) hg hr,hs.2⟩)
  (fun c pre W W' row hs hg hr=>⟨hs.1,hs.2.1.imp (fun s h=>h.grown (by omega) hg hr),hs.2.2⟩)
  ⟨hDW,rfl⟩
  (fun x a' W=>∃Bx,w.heap.size+6≤Bx/\Zaj W Bx x/\a' = { tmps:=#[.slice a1 xs.length c1,.slice a2 xs.length c2,undef,undef,.pointer (some ⟨w.heap.size,0,none⟩),.pointer (some ⟨w.heap.size+1,0,none⟩),.pointer (some ⟨w.heap.size+1+1,0,none⟩),.pointer (some ⟨w.heap.size+1+1+1,0,none⟩),.pointer (some ⟨Bx,0,none⟩),.slice a1 xs.length c1,.int .i64 xs.length,.slice a2 xs.length c2,.int .i64 xs.length,.bool false,undef,.agg #[.int .i64 0,.int .i64 1],.slice a1 xs.length c1,.slice a2 xs.length c2,.func (.func 78) #[] #[.pointer (some ⟨w.heap.size+1+1+1+1,0,none⟩),.pointer (some ⟨w.heap.size+1+1+1+1+1,0,none⟩)],.agg #[.int .i64 x.1,.int .i64 x.2],undef,undef,undef,undef,undef,undef,undef,undef,undef,undef],defers:=[] })
  (fun x a' _ X Y row hs hg hr=>by obtain⟨Bx,h1,h2,h3⟩:=hs;exact⟨Bx,h1,Zgg h2 hg hr,h3⟩)
  ?assign ?body ?done ?stop
 case assign=>
  rintro l pre x W K ⟨hD,hA⟩ hK;have hws:=hD.low.size;have hfl:=hD.fits.lt;have hbg:=hD.big;dsimp only[encR]
  gi_wp2
  exact hK _ _ ((KeepsOthers.alloc _ _).from _) (Zbq.of_below ((Below.refl _ _).alloc (Nat.le_refl _) _) hws hbg) ⟨hD.below ((Below.refl _ _).alloc (Nat.le_refl _) _),hA⟩ ⟨W.heap.size,hbg,Zaj.new W x,rfl⟩
 case body=>
  rintro l pre x a' W hl _ ⟨hD,hA⟩ ⟨Bx,hBx,bX,rfl⟩ hlt;have hA2:=zH hA;have hws:=hD.low.size;have hbg:=hD.big;have HD:=zH hD;have HX:=zH bX;have HS:=zH (Zhl pre x);obtain⟨s0,s1,sf0,sf1⟩:=hD.sum.four;obtain⟨x0,x1,-,-⟩:=bX.four;generalize (accP pre).1=s at *;clear hA hD bX
  gi_wp2_with fail
  refine⟨trivial,(CallsIn.inRound l (callsIn_wide.2 (Zjw s x _))).mono ?_⟩;rintro e w2 ⟨rfl,hb2⟩;have HK2:=zH (Zi1 hb2);have HR2:=zH (Zbq.of_below (lo:=w.heap.size+4) (hi:=w.heap.size+6) hb2 hws hbg);have HD2:=zH (HD.out.below hb2);obtain⟨s0,s1,sf0,sf1⟩:=HD2.out.sum.four;have g0:=HD2.out.fits.cell;have g1:=HD2.out.fits.frozen;have r0:=HD2.out.res.four.1;have r1:=HD2.out.res.four.2.1;have rf0:=HD2.out.res.four.2.2.1;have rf1:=HD2.out.res.four.2.2.2;have k0:=HD2.out.ok.cell;have k1:=HD2.out.ok.frozen;clear hb2;generalize Ve.addR s x=A at *;generalize Ve.addK s x=ak at *;cases ak with
  | true=>
   gi_wp2_with fail
   exact⟨(((HK2.out.trans (KeepsOthers.setCell _ _ _)).trans (KeepsOthers.setCell _ _ _)).trans (KeepsOthers.setCell _ _ _)).from _,
    ((HR2.out.setCell _ _ _ (by omega) (by omega)).setCell _ _ _ (by omega) (by omega)).setCell _ _ _ (by omega) (by omega),by show DotW w (accP (pre++[x])).1 true _/\(accP (pre++[x])).2=true;rw[HS.out];exact⟨HD2.out.set A true,rfl⟩⟩
  | false=>
   gi_wp2_with fail
   exact⟨((((((HK2.out.trans (KeepsOthers.setCell _ _ _)).trans (KeepsOthers.setCell _ _ _)).trans (KeepsOthers.setCell _ _ _)).trans (KeepsOthers.setCell _ _ _)).trans (KeepsOthers.setCell _ _ _)).trans (KeepsOthers.setCell _ _ _)).from _,
    rfl,⟨A,(HD2.out.set A false).zero⟩,by show (accP (pre++[x])).2=false;rw[HS.out]⟩
 case done=>
  rintro D zs W hDl rfl ⟨hD,hA⟩ hK;rw[Zgv] at hD hA;have hE:=Ve.Zb1 HL.out;rw[hA] at hE;have HE1:=zH hE.1;have HE2:=zH hE.2;generalize (Ve.acc xs ys xs.length).1=s at *;have HD:=zH hD;have HK:=zH hK;obtain⟨s0,s1,-,-⟩:=hD.sum.four;obtain⟨r0,r1,rf0,rf1⟩:=hD.res.four;have k0:=hD.ok.cell;have k1:=hD.ok.frozen;clear hD hA hE hK
  gi_wp2_with fail
  obtain⟨W2,hW2⟩:∃W2,(((W.setCell ⟨w.heap.size,0,none⟩ (.int .i64 s.1)).setCell ⟨w.heap.size,1,none⟩ (.int .i64 s.2)).setCell ⟨w.heap.size+1,0,none⟩ (.bool true))=W2:=⟨_,rfl⟩;have q0:Zaj W2 w.heap.size s:=by
   rw[<-hW2];unfold Zaj;rw[Below.heap_setCell _ _ _ _ (show w.heap.size≠w.heap.size+1 by omega)];exact HD.out.res.set s
  have q1:Boxed W2 (w.heap.size+1) 4 (.bool true):=by
   rw[<-hW2];refine Boxed.set _ (v:=.bool false) ?_;unfold Boxed;rw[Below.heap_setCell _ _ _ _ (show w.heap.size+1≠w.heap.size by omega),Below.heap_setCell _ _ _ _ (show w.heap.size+1≠w.heap.size by omega)];exact HD.out.ok
  have hK2:W2.heap[D]? = some (.deferred (some [])):=by
   rw[<-hW2];exact (((KeepsOthers.setCell _ _ _).trans (KeepsOthers.setCell _ _ _)).trans (KeepsOthers.setCell _ _ _)).same D _ HK.out rfl
  have hB2:Below w.heap.size w W2:=by
   rw[<-hW2];exact ((HD.out.low.setCell (p:=⟨w.heap.size,0,none⟩) (Nat.le_refl _) _).setCell (p:=⟨w.heap.size,1,none⟩) (Nat.le_refl _) _).setCell (p:=⟨w.heap.size+1,0,none⟩) (by show w.heap.size≤w.heap.size+1;omega) _
  rw[hW2];have z0:=Zba (Zep (o2:=.deferred none) q0 hK2 (by simp));have z1:=Boxed.cell (Zep (o2:=.deferred none) q1 hK2 (by simp));refine⟨by simp,.inl ⟨_,_,rfl,run_takeDeferred hK2,?_⟩⟩;exact⟨.tuple #[.agg #[.int .i64 s.1,.int .i64 s.2],.bool true],by simp[results,Tryz.results43,go_sem,z0.1,z0.2.1,z1],by rw[HE1.out,HE2.out];exact⟨rfl,hB2.trans (belowK_b (w:=w) (Nat.le_refl _) W2 D _ _ (by omega) hK2 rfl rfl)⟩⟩
 case stop=>
  rintro D c pre W hDl ⟨k,hk,rfl⟩ ⟨rfl,⟨s,hD⟩,hA⟩ hK;rw[Zgv] at hA;have hE:=Ve.Ziq HL.out hk hA;have HE1:=zH hE.1;have HE2:=zH hE.2;have HD:=zH hD;have HK:=zH hK;clear hD hA hE hK
  gi_wp2_with fail
  have z0:=Zba (Zep (o2:=.deferred none) HD.out.res HK.out (by simp));have z1:=Boxed.cell (Zep (o2:=.deferred none) HD.out.ok HK.out (by simp));refine⟨by simp,.inl ⟨_,_,rfl,run_takeDeferred HK.out,?_⟩⟩;exact⟨.tuple #[.agg #[.int .i64 0,.int .i64 0],.bool false],by simp[results,Tryz.results43,go_sem,z0.1,z0.2.1,z1],by rw[HE1.out,HE2.out];exact⟨rfl,HD.out.low.trans (belowK_b (w:=w) (Nat.le_refl _) W D _ _ (by omega) HK.out rfl rfl)⟩⟩
theorem Zfi (B:Nat) (a1 a2:Option Addr) (c1 c2:Nat) (xs ys:List R) (hn:xs.length≤1048576) (_hn2:ys.length≤1048576) (w:World) (hBw:B≤w.heap.size) (h1:Zah B w a1 xs) (h2:Zah B w a2 ys) :
  Calls Tryz.prog 43 #[.slice a1 xs.length c1,.slice a2 ys.length c2] w (Zdq (Ve.dotR xs ys) (Ve.dotK xs ys) w):=by
 by_cases hl:xs.length=ys.length
 ·exact callsIn_wide.1 (Zeu B a1 a2 c1 c2 xs ys hl hn w hBw h1 h2)
 ·obtain⟨e1,e2⟩:=Ve.Zir hl
  rw[e1,e2];have hlb:((xs.length:Int) == (ys.length:Int))=false/\((xs.length:Int) != (ys.length:Int))=true:=by
   have h1:((xs.length:Int) == (ys.length:Int))=false:=by rw[beq_eq_false_iff_ne];omega
   exact⟨h1,by rw[bne,h1];rfl⟩
  obtain⟨l1,l2⟩:=hlb;clear e1 e2 h1 h2
  go_enter Tryz.func43,Tryz.ntmps43
  go_wp2_with fail
  exact bodyPost_ret (v:=.tuple #[.agg #[.int .i64 0,.int .i64 0],.bool false]) (by simp[results,Tryz.results43,go_sem]) rfl ⟨rfl,by (repeat' (first|exact Below.refl _ _|exact Nat.le_refl _|refine Below.setCell ?_ ?_ _|refine Below.alloc ?_ ?_ _|refine below_drewN ?_ _|refine Below.drew ?_ | (simp;done) | (simp;omega)))⟩
attribute [local go_sem] Oper.semAt_some
def Gives (w:World) (gf:Nat) (lb:Array Value) (f:Nat->R×Bool) (n:Nat):Prop:=
 ∀W0,Below w.heap.size w W0->SeqStopsK Fence.wide 2 Tryz.prog gf lb encP (Zbq w.heap.size 0 w.heap.size) (fun ys=>ys=seqF f n) (fun pre=>∃k,k≤n/\pre=seqF f k) n W0
structure VecW (w:World) (v:Value) (l:List R) (W:World):Prop where
 vec:Boxed W (w.heap.size+1+1) 36 v
 own:Zad w.heap.size W v l
 res:Boxed W w.heap.size 36 (.slice none 0 0)
 ok:Boxed W (w.heap.size+1) 4 (.bool false)
 low:Below w.heap.size w W
 big:w.heap.size+3≤W.heap.size
theorem VecW.grown {w:World} {v:Value} {l:List R} {W W':World} {row:Option Nat} {B:Nat} (h:VecW w v l W) (hB:w.heap.size+3≤B) (hg:W.grownBy W' row) (hr:∀r,row=some r->B≤r/\∃o:Obj,W.heap[r]? = some o/\o.isCells=false):VecW w v l W':=by
 refine⟨Zdh h.vec (by omega) hg hr,h.own.kept hg ?_,Zdh h.res (by omega) hg hr,Zdh h.ok (by omega) hg hr,h.low.grown hg h.low.size (fun r e=>by have:=(hr r e).1;omega),Nat.le_trans h.big hg.size⟩
 rcases h.own.2 with ⟨rfl,_⟩ | ⟨g,cap,cur,rfl,_,hgb,_⟩
 ·exact .inl rfl
 ·refine .inr fun e'=>?_
  obtain⟨_,o,ho,hc⟩:=hr g e'.symm;rw[hgb] at ho;cases ho;cases hc
theorem VecW.below {w:World} {v:Value} {l:List R} {W W':World} (h:VecW w v l W) (hb:Below W.heap.size W W'):VecW w v l W':=
 ⟨(hb.block _ h.vec.lt).trans h.vec,h.own.below hb,(hb.block _ h.res.lt).trans h.res,(hb.block _ h.ok.lt).trans h.ok,h.low.trans (hb.mono h.low.size),Nat.le_trans h.big hb.size⟩
theorem VecW.nil {w:World} {v:Value} {l:List R} {W:World} (h:VecW w v l W):VecW w v l ((W.setCell ⟨w.heap.size,0,none⟩ (.slice none 0 0)).setCell ⟨w.heap.size+1,0,none⟩ (.bool false)):=by
 have e:∀k,k≠w.heap.size->k≠w.heap.size+1->((W.setCell ⟨w.heap.size,0,none⟩ (.slice none 0 0)).setCell ⟨w.heap.size+1,0,none⟩ (.bool false)).heap[k]? = W.heap[k]?:=fun k h1 h2=>by
  rw[Below.heap_setCell _ _ _ _ (show k≠w.heap.size+1 from h2),Below.heap_setCell _ _ _ _ (show k≠w.heap.size from h1)]
 refine⟨(e _ (by omega) (by omega)).trans h.vec,?_,?_,?_,?_,by simpa [World.setCell] using h.big⟩
 ·have o1:=World.ownsRow.kept h.own (grownBy_setCell' W w.heap.size (.slice none 0 0)) (.inr (h.res.not_row (by decide) h.own).symm)
  exact o1.kept (grownBy_setCell' _ (w.heap.size+1) (.bool false)) (.inr (h.ok.not_row (by decide) h.own).symm)
 ·unfold Boxed
  rw[Below.heap_setCell _ _ _ _ (show w.heap.size≠w.heap.size+1 by omega)];exact h.res.set _
 ·refine Boxed.set _ (v:=.bool false) ?_
  unfold Boxed;rw[Below.heap_setCell _ _ _ _ (show w.heap.size+1≠w.heap.size by omega)];exact h.ok
 ·exact (h.low.setCell (p:=⟨w.heap.size,0,none⟩) (Nat.le_refl _) _).setCell (p:=⟨w.heap.size+1,0,none⟩) (by show w.heap.size≤w.heap.size+1;omega) _
theorem VecW.appended {w:World} {v v':Value} {l:List R} {x:R} {W w1:World} {tmp:Obj} (h:VecW w v l W) (hown':w1.ownsRow w.heap.size 35 2 v' (l.length+1) (Zau l++[.int .i64 x.1,.int .i64 x.2])) (hgrow:(W.alloc tmp).grownBy w1 v.ownBlock) :
  Boxed w1 (w.heap.size+1+1) 36 v/\VecW w v' (l++[x]) (w1.setCell ⟨w.heap.size+1+1,0,none⟩ v')/\KeepsOthers W (w1.setCell ⟨w.heap.size+1+1,0,none⟩ v')/\Below w.heap.size W (w1.setCell ⟨w.heap.size+1+1,0,none⟩ v'):=by
 obtain⟨hv1,hv2,hr2,hk2,hb2⟩:=h.vec.appended (by decide) h.own h.low.size (by omega) hown' hgrow;have g0:Boxed w1 w.heap.size 36 (.slice none 0 0):=(h.res.alloc tmp).kept hgrow (h.res.not_row (by decide) h.own);have g1:Boxed w1 (w.heap.size+1) 4 (.bool false):=(h.ok.alloc tmp).kept hgrow (h.ok.not_row (by decide) h.own);exact⟨hv1,⟨hv2,Zad.more hr2,g0.other (by omega) _,g1.other (by omega) _,h.low.trans hb2,Nat.le_trans h.big hk2.size⟩,hk2,hb2⟩
theorem cell_two_new (W:World) (x y:Value) (t:TypeId):∀(j:Nat) (u:Value),[x,y][j]? = some u->(W.alloc (.cells #[x,y] t)).cell? ((⟨W.heap.size,0,none⟩:Addr).add j)=some u:=by
 intro j u hj
 match j,hj with
 | 0,hj=>simp at hj;subst hj;simp[Addr.add]
 | 1,hj=>simp at hj;subst hj;simp[Addr.add]
def VecI (w:World) (pre:List (R×Bool)) (W:World):Prop:=(∃v,VecW w v (pre.map (·.1)) W)/\∀x,x∈pre->x.2=true
def Zp4 (pre:List (R×Bool)):Prop:=∃(pre':List (R×Bool)) (x:R×Bool),pre=pre'++[x]/\x.2=false
def VecX (w:World) (c:Code) (pre:List (R×Bool)) (W:World):Prop:=c=.ret/\(∃v l,VecW w v l W)/\Zp4 pre
theorem Zex (gf:Nat) (lb:Array Value) (eg:∀args w,(callFunc gf args).run Tryz.prog w=.ok (.enter gf args) w) (f:Nat->R×Bool) (n:Nat) (hn:n≤1048576) (w:World) (hseq:Gives w gf lb f n) :
  CallsIn Fence.wide 3 Tryz.prog 101 #[.func (.func gf) #[] lb] w (Zcf (Ve.outR f n) (Ve.allK f n) w):=by
 obtain⟨i0,hi,hz0,hz1,hz2⟩:=info_parts Zc5;have HI:=zH hi;have HZ0:=zH hz0;have HZ1:=zH hz1;have HZ2:=zH hz2;have b0:=((Boxed.new w 36 (.slice none 0 0)).alloc (.cells #[.bool false] 4)).alloc (.cells #[.slice none 0 0] 36);have b1:=(Boxed.new (w.alloc (.cells #[.slice none 0 0] 36)) 4 (.bool false)).alloc (.cells #[.slice none 0 0] 36);have b2:=Boxed.new ((w.alloc (.cells #[.slice none 0 0] 36)).alloc (.cells #[.bool false] 4)) 36 (.slice none 0 0);have hB0:Below w.heap.size w (((w.alloc (.cells #[.slice none 0 0] 36)).alloc (.cells #[.bool false] 4)).alloc (.cells #[.slice none 0 0] 36)):=by (repeat' (first|exact Below.refl _ _|exact Nat.le_refl _|refine Below.setCell ?_ ?_ _|refine Below.alloc ?_ ?_ _|refine below_drewN ?_ _|refine Below.drew ?_ | (simp;done) | (simp;omega)))
 have hsz:(((w.alloc (.cells #[.slice none 0 0] 36)).alloc (.cells #[.bool false] 4)).alloc (.cells #[.slice none 0 0] 36)).heap.size=w.heap.size+3:=by simp only[World.size_alloc]
 simp only[World.size_alloc] at b0 b1 b2;have HB:=zH (And.intro b0 (And.intro b1 (And.intro b2 (And.intro hB0 hsz))));have HS:=zH hseq;have HE:=zH eg;clear b0 b1 b2 hB0 hsz hi hz0 hz1 hz2 hseq eg;refine callsIn_of_wp_marks Tryz.func101 rfl trivial ?_ rfl;simp only[Tryz.ntmps101,List.size_toArray,List.length_cons,List.length_nil,Nat.reduceAdd,Nat.reduceSub,Array.replicate_succ,Array.replicate_zero,List.push_toArray,List.append_toArray,List.nil_append,List.cons_append]
 gi_wp2_with fail
 obtain⟨W0,hW0⟩:∃W0,(((w.alloc (.cells #[.slice none 0 0] 36)).alloc (.cells #[.bool false] 4)).alloc (.cells #[.slice none 0 0] 36))=W0:=⟨_,rfl⟩;rw[hW0] at HB ⊢;clear hW0;obtain⟨b0,b1,b2,hB0,hsz⟩:=HB.out;clear HB;have hVW:VecW w (.slice none 0 0) [] W0:=⟨b2,Zad.nil _ _,b0,b1,hB0,by omega⟩;refine wpIn_rangeFunc_ownH (F:=Fence.wide) rfl (by omega) (gf:=gf) (lb:=lb) rfl trivial HE.out
  (encs:=encP) (Kp:=Zbq w.heap.size 0 w.heap.size) (S:=fun ys=>ys=seqF f n) (Sp:=fun pre=>∃k,k≤n/\pre=seqF f k) (N:=n) (w0:=W0) (HS.out W0 hB0)
  Zbq.trans (Zl7 (by omega) (by omega)) (Below.refl _ _) (fun _=>rfl)
  (VecI w)
  (VecX w)
  (fun pre W W' row hs hg hr=>⟨hs.1.imp (fun v h=>h.grown (by omega) hg hr),hs.2⟩)
  (fun c pre W W' row hs hg hr=>⟨hs.1,hs.2.1.imp (fun v h=>h.imp fun l h=>h.grown (by omega) hg hr),hs.2.2⟩)
  ⟨⟨_,hVW⟩,fun x hx=>by cases hx⟩
  (fun x a' W=>∃Bx,w.heap.size+3≤Bx/\Zaj W Bx x.1/\a' = { tmps:=#[.func (.func gf) #[] lb,undef,.pointer (some ⟨w.heap.size,0,none⟩),.pointer (some ⟨w.heap.size+1,0,none⟩),.pointer (some ⟨w.heap.size+1+1,0,none⟩),.pointer (some ⟨Bx,0,none⟩),.bool x.2,.func (.func gf) #[] lb,.agg #[.int .i64 x.1.1,.int .i64 x.1.2],.bool x.2,undef,undef,undef,undef,undef,undef,undef],defers:=[] })
  (fun x a' _ X Y row hs hg hr=>by obtain⟨Bx,h1,h2,h3⟩:=hs;exact⟨Bx,h1,Zgg h2 hg hr,h3⟩)
  ?assign ?body ?done ?stop
 case assign=>
  rintro l pre x W K ⟨⟨v,hV⟩,hA⟩ hK;have hws:=hV.low.size;have hbg:=hV.big;dsimp only[encP]
  gi_wp2
  exact hK _ _ ((KeepsOthers.alloc _ _).from _) (Zbq.of_below ((Below.refl _ _).alloc (Nat.le_refl _) _) hws hws) ⟨⟨v,hV.below ((Below.refl _ _).alloc (Nat.le_refl _) _)⟩,hA⟩ ⟨W.heap.size,hbg,Zaj.new W x.1,rfl⟩
 case body=>
  rintro l pre ⟨x,xk⟩ a' W hl _ ⟨⟨v,hV⟩,hA⟩ ⟨Bx,hBx,bX,rfl⟩ hlt;have HA:=zH hA;have hws:=hV.low.size;have hbg:=hV.big;have HV:=zH hV;obtain⟨x0,x1,-,-⟩:=bX.four;have v0:=hV.vec.cell;have r0:=hV.res.cell;have r1:=hV.res.frozen;have k0:=hV.ok.cell;have k1:=hV.ok.frozen;clear hA hV bX;cases xk with
  | false=>
   gi_wp2_with fail
   exact⟨((KeepsOthers.setCell _ _ _).trans (KeepsOthers.setCell _ _ _)).from _,rfl,⟨v,_,HV.out.nil⟩,pre,_,rfl,rfl⟩
  | true=>
   have hlen:(pre.map (·.1)).length≤pre.length:=by simp
   obtain⟨ls,hls⟩:∃ls,pre.map (·.1)=ls:=⟨_,rfl⟩;rw[hls] at hlen HV;have HLS:=zH hls;clear hls;have Hown:=zH (World.ownsRow.alloc HV.out.own (.cells #[.int .i64 x.1,.int .i64 x.2] 35));have C1:=cell_two_new W (.int .i64 x.1) (.int .i64 x.2) 35;have C2:∀u∈[Value.int .i64 x.1,.int .i64 x.2],u.oneCell'=true:=fun u hu=>by simp at hu;rcases hu with rfl|rfl<;>rfl
   have C3:ls.length+1≤maxLen:=by unfold maxLen;omega
   have C4:(ls.length+1)*16≤140737488355328:=by omega
   have C5:w.heap.size≤(W.alloc (.cells #[.int .i64 x.1,.int .i64 x.2] 35)).heap.size:=by rw[Zar];omega
   have HC:=zH (And.intro C1 (And.intro C2 (And.intro C3 (And.intro C4 C5))));clear C1 C2 C3 C4 C5
   gi_wp2_with (gi_at_builtin;refine wpListIn_append_own _ rfl _ _ 36 rfl w.heap.size 35 i0 (.agg #[.int .i64 0,.int .i64 0]) 2 16 Tryz.underlying36 HI.out HZ0.out HZ1.out HZ2.out rfl (by decide) _ _ _ rfl Hown.out ⟨W.heap.size,0,none⟩ 1 1 [.int .i64 x.1,.int .i64 x.2] rfl rfl HC.out.1 HC.out.2.1 HC.out.2.2.1 HC.out.2.2.2.1 HC.out.2.2.2.2 ?_;intro v' w1 hown' hgrow _;obtain⟨hv1,hv2,hk2,hb2⟩:=HV.out.appended hown' hgrow;obtain⟨g',cap',rfl⟩:=ownsRow_succ hown';have hc1:=hv1.cell;have hf1:=hv1.frozen;have HV2:=zH hv2;have HK2:=zH hk2;have HB2:=zH hb2;clear hv2 hk2 hb2 hown' hgrow hv1)
   refine⟨HK2.out.from _,⟨HB2.out,fun k _ hk=>HB2.out.block k hk⟩,⟨_,by rw[List.map_append,HLS.out];exact HV2.out⟩,fun y hy=>?_⟩
   rcases List.mem_append.1 hy with h|h
   ·exact HA.out y h
   ·simp at h;rw[h]
 case done=>
  rintro D zs W hDl rfl ⟨⟨v,hV⟩,hA⟩ hK;have hE:Ve.allK f n=true:=by
   unfold Ve.allK;rw[List.all_eq_true];exact fun j hj=>hA (f j) (List.mem_map.2 ⟨j,hj,rfl⟩)
  have hE1:Ve.outR f n=(seqF f n).map (·.1):=by rw[Ve.Zed hE];unfold Ve.upto seqF;rw[List.map_map];rfl
  have HE1:=zH hE1;have HE2:=zH hE;have HV:=zH hV;have HK:=zH hK;have v0:=hV.vec.cell;have r0:=hV.res.cell;have r1:=hV.res.frozen;have k0:=hV.ok.cell;have k1:=hV.ok.frozen;generalize (seqF f n).map (·.1)=ls at *;obtain⟨va,vc,hvv,-,-,-⟩:=Za1 hV.own;subst hvv;clear hV hA hE hE1 hK
  gi_wp2_with fail
  obtain⟨W2,hW2⟩:∃W2,((W.setCell ⟨w.heap.size,0,none⟩ (.slice va ls.length vc)).setCell ⟨w.heap.size+1,0,none⟩ (.bool true))=W2:=⟨_,rfl⟩;have q0:Boxed W2 w.heap.size 36 (.slice va ls.length vc):=by
   rw[<-hW2];unfold Boxed;rw[Below.heap_setCell _ _ _ _ (show w.heap.size≠w.heap.size+1 by omega)];exact HV.out.res.set _
  have q1:Boxed W2 (w.heap.size+1) 4 (.bool true):=by
   rw[<-hW2];refine Boxed.set _ (v:=.bool false) ?_;unfold Boxed;rw[Below.heap_setCell _ _ _ _ (show w.heap.size+1≠w.heap.size by omega)];exact HV.out.ok
  have hK2:W2.heap[D]? = some (.deferred (some [])):=by
   rw[<-hW2];exact ((KeepsOthers.setCell _ _ _).trans (KeepsOthers.setCell _ _ _)).same D _ HK.out rfl
  have hB2:Below w.heap.size w W2:=by
   rw[<-hW2];exact (HV.out.low.setCell (p:=⟨w.heap.size,0,none⟩) (Nat.le_refl _) _).setCell (p:=⟨w.heap.size+1,0,none⟩) (by show w.heap.size≤w.heap.size+1;omega) _
  have hO2:Zad w.heap.size W2 (.slice va ls.length vc) ls:=by
   have o1:=World.ownsRow.kept HV.out.own (grownBy_setCell' W w.heap.size (.slice va ls.length vc)) (.inr (HV.out.res.not_row (by decide) HV.out.own).symm);have o2:=o1.kept (grownBy_setCell' _ (w.heap.size+1) (.bool true)) (.inr (HV.out.ok.not_row (by decide) HV.out.own).symm);rw[<-hW2];exact o2
  rw[hW2];have z0:=Boxed.cell (Zep (o2:=.deferred none) q0 hK2 (by simp));have z1:=Boxed.cell (Zep (o2:=.deferred none) q1 hK2 (by simp));refine⟨by simp,.inl ⟨_,_,rfl,run_takeDeferred hK2,?_⟩⟩;refine⟨.tuple #[.slice va ls.length vc,.bool true],by simp[results,Tryz.results101,go_sem,z0,z1],?_⟩;rw[HE1.out,HE2.out];exact⟨_,rfl,ownsRow_putObj hO2 _ hK2 rfl,hB2.trans (belowK_b (w:=w) (Nat.le_refl _) W2 D _ _ (by omega) hK2 rfl rfl)⟩
 case stop=>
  rintro D c pre W hDl ⟨k,hk,rfl⟩ ⟨rfl,⟨v,l,hV⟩,pre',x,hp,hx⟩ hK;have hE:Ve.allK f n=false:=by
   have hk0:k≠0:=by rintro rfl;simp[seqF] at hp
   obtain⟨k',rfl⟩:∃k',k=k'+1:=⟨k-1,by omega⟩;rw[Zd0] at hp;have hx2:f k'=x:=by have:=congrArg List.getLast? hp;simpa using this
   exact Ve.Zlh (k:=k') (by omega) (by rw[hx2];exact hx)
  have HE1:=zH (Ve.Zos hE);have HE2:=zH hE;have HV:=zH hV;have HK:=zH hK;clear hV hE hK hp
  gi_wp2_with fail
  have z0:=Boxed.cell (Zep (o2:=.deferred none) HV.out.res HK.out (by simp));have z1:=Boxed.cell (Zep (o2:=.deferred none) HV.out.ok HK.out (by simp));refine⟨by simp,.inl ⟨_,_,rfl,run_takeDeferred HK.out,?_⟩⟩;refine⟨.tuple #[.slice none 0 0,.bool false],by simp[results,Tryz.results101,go_sem,z0,z1],?_⟩;rw[HE1.out,HE2.out];exact⟨_,rfl,Zad.nil _ _,HV.out.low.trans (belowK_b (w:=w) (Nat.le_refl _) W D _ _ (by omega) HK.out rfl rfl)⟩
theorem Zg6 (a:Option Addr) (n c:Nat) (w:World):Calls Tryz.prog 102 #[.slice a n c] w fun e w'=>
  e=.returned (.func (.func 105) #[] #[.pointer (some ⟨w.heap.size,0,none⟩)])/\w.alloc (.cells #[.slice a n c] 22)=w':=by
 go_enter Tryz.func102,Tryz.ntmps102
 go_wp2_with fail
 go_ret;exact⟨rfl,rfl⟩
theorem Zf7 {Ba:Nat} (w:World) (a:Option Addr) (c:Nat) (zs:List Int) (hn:zs.length≤1048576) (h1:Zal w.heap.size w a zs) (b4:Boxed w Ba 22 (.slice a zs.length c)) :
  Gives w 105 #[.pointer (some ⟨Ba,0,none⟩)] (Ve.ofI zs) zs.length:=by
 intro W0 hB0 l J Jx W hW hJ hJx hY h0;have hb:=hB0.trans (hW.mono hB0.size);have l1:=b4.lt;have hs:=hb.size;exact Zl5 2 (by omega) l Ba w.heap.size 0 w.heap.size a c zs hn W.heap.size J Jx hJ hY W hs hs ((hb.cell (p:=⟨Ba,0,none⟩) l1).trans b4.cell) (h1.below hb) h0
theorem Zfj (B:Nat) (a:Option Addr) (c:Nat) (zs:List Int) (hn:zs.length≤1048576) (w:World) (hBw:B≤w.heap.size) (h1:Zal B w a zs) :
  Calls Tryz.prog 96 #[.slice a zs.length c] w (Zcf (Ve.outR (Ve.ofI zs) zs.length) (Ve.allK (Ve.ofI zs) zs.length) w):=by
 have hb0:Below w.heap.size w (w.alloc (.cells #[.slice a zs.length c] 22)):=by (repeat' (first|exact Below.refl _ _|exact Nat.le_refl _|refine Below.setCell ?_ ?_ _|refine Below.alloc ?_ ?_ _|refine below_drewN ?_ _|refine Below.drew ?_ | (simp;done) | (simp;omega)))
 have b4:=Boxed.new w 22 (.slice a zs.length c);have hG:=Zf7 _ a c zs hn (((h1.mono hBw).below hb0).mono hb0.size) b4;have HV:=zH (callsIn_wide.1 (Zex _ _ (enters_of Tryz.func105 (by kernel_rfl) rfl) (Ve.ofI zs) zs.length hn _ hG));have HB0:=zH hb0;clear h1 hG b4 hb0
 go_enter Tryz.func96,Tryz.ntmps96
 go_wp2_with fail
 refine (Zg6 _ _ _ _).mono ?_;rintro e w1 ⟨rfl,rfl⟩
 go_wp2_with fail
 refine HV.out.mono ?_;rintro e w2 ⟨v,rfl,ho,hb2⟩;have HO:=zH (ho.lower HB0.out.size);have HB2:=zH (HB0.out.trans (hb2.mono HB0.out.size));clear ho hb2
 go_wp2_with fail
 go_ret2
 exact⟨_,rfl,HO.out,HB2.out⟩
end Go.Proofs.YtpjnjidbdpfdcaaGreat
