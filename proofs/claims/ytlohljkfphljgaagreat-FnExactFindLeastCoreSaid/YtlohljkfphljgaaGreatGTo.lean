/- The parts Gr, TaO, TaP0. -/
import Derived.Test.YtlohljkfphljgaaGreatHGrI
import Derived.Test.YtlohljkfphljgaaGreatGTa
import Derived.Test.YtlohljkfphljgaaGreatGIx
import Derived.Test.YtlohljkfphljgaaGreatHApR
namespace Go.Proofs.YtlohljkfphljgaaGreat
open Go.RowKit
open Ve (R)
theorem Ze7 {P:Program} {f:FuncId} {args:Array Value} {W wx:World} {xs:List R} (h:Calls P f args wx (Zbg xs wx)) (hs:Since W wx) :
  Calls P f args wx fun e w'=>(∃v,e=.returned v/\Zaa W.heap.size w' v xs)/\Since W w'/\Below wx.heap.size wx w':=h.mono fun _ _ ⟨v,he,ho,hb⟩=>⟨⟨v,he,ho.lower hs.low.size⟩,hs.trans hb,hb⟩
theorem Zdf {w:World} {B s n q:Nat} {T t:TypeId} {v x y z:Value} {xs:List Value} (h:w.ownsRow B T s v n xs) (hx:Tri w q x y z t) (hT:T≠t):v.ownBlock≠some q:=fun hq=>(TyAt.ne (Zav h hq) (Zax hx) hT) rfl
theorem Zeq {w:World} {B q:Nat} {t:TypeId} {v x y z:Value} {L:List (List R)} (h:Zbt B w v L) (hx:Tri w q x y z t) (hT:26≠t):v.ownBlock≠some q:=by
 obtain⟨vs,h1,_⟩:=h;exact Zdf h1 hx hT
theorem Zd8 {w:World} {B q i:Nat} {v u:Value} {L:List (List R)} (h:Zbt B w v L) (hq:v.ownBlock≠some q) (hr:¬TyAt w q 31):Zbt B (w.setCell ⟨q,i,none⟩ u) v L:=by
 obtain⟨vs,h1,h2⟩:=h;refine⟨vs,Zao h1 hq,fun j hj=>?_⟩;obtain⟨u',e,ho⟩:=h2 j hj;exact⟨u',e,Zao ho fun hb=>hr (Zav ho hb)⟩
theorem Zbb {B:Nat} {w:World} {v:Value} {xs:List R} (h:Zaa B w v xs):∃(a:Option Addr) (c:Nat),v=.slice a xs.length c:=by
 obtain⟨a,c,e,_⟩:=Zai h;exact⟨a,c,e⟩
theorem Zd1 {B:Nat} {w:World} {v:Value} {L:List (List R)} (h:Zbt B w v L):∃(a:Option Addr) (c:Nat),v=.slice a L.length c:=by
 obtain⟨a,c,e,_⟩:=h.reads;exact⟨a,c,e⟩
theorem Zfs {B:Nat} {w:World} {a:Option Addr} {n c:Nat} {xs:List R} (h:Zaa B w (.slice a n c) xs):n=xs.length/\Zah w.heap.size w a xs:=by
 obtain⟨a',c',he,hr,_,_⟩:=Zai h;injection he with h1 h2 h3
 subst h1;exact⟨h2,hr⟩
open Ta (T)
theorem Zey {w:World} {B q:Nat} {v x y z:Value} {xs:List Int} (h:Zad B w v xs) (hq:v.ownBlock≠some q):Zad B (((w.setCell ⟨q,0,none⟩ x).setCell ⟨q,1,none⟩ y).setCell ⟨q,2,none⟩ z) v xs:=
 Zao (Zao (Zao h hq) hq) hq
theorem Zd7 {B q:Nat} {a w:World} (h:Below B a w) (hq:B≤q) (x y z:Value):Below B a (((w.setCell ⟨q,0,none⟩ x).setCell ⟨q,1,none⟩ y).setCell ⟨q,2,none⟩ z):=
 ((h.setCell (p:=⟨q,0,none⟩) hq x).setCell (p:=⟨q,1,none⟩) hq y).setCell (p:=⟨q,2,none⟩) hq z
theorem Zck {q:Nat} {w:World} {a b c:Value} {t:TypeId} (h:Tri w q a b c t) (x y z:Value):Tri (((w.setCell ⟨q,0,none⟩ x).setCell ⟨q,1,none⟩ y).setCell ⟨q,2,none⟩ z) q x y z t:=((h.set0 x).set1 y).set2 z
set_option maxRecDepth 100000 in
set_option maxHeartbeats 4000000 in
theorem Zr5 (B:Nat) (a b:Option Addr) (c1 c2:Nat) (t:T) (hn:Zca t) (w:World) (hBw:B≤w.heap.size) (hz:Zc4 B w a b t):Calls Tryz.prog 191 #[tabV a b c1 c2 t] w (Zj0 t w):=by
 have HN:=zH hn;have hb:=((Below.refl w.heap.size w).alloc (Nat.le_refl _) (.cells #[.slice a t.rows.length c1,.slice b t.basis.length c2,.int .i64 t.cols] 39));have hb2:=hb.alloc hb.size (.cells #[.slice none 0 0,.slice none 0 0,.int .i64 0] 39);have HZ:=zH ((hz.mono hBw).below hb2);have hx:=(Tri.new w (.slice a t.rows.length c1) (.slice b t.basis.length c2) (.int .i64 t.cols) 39).more (.cells #[.slice none 0 0,.slice none 0 0,.int .i64 0] 39);have hr:=Tri.new (w.alloc (.cells #[.slice a t.rows.length c1,.slice b t.basis.length c2,.int .i64 t.cols] 39)) (.slice none 0 0) (.slice none 0 0) (.int .i64 0) 39;rw[Zar] at hr;have hs2:=Zjv w (.cells #[.slice a t.rows.length c1,.slice b t.basis.length c2,.int .i64 t.cols] 39) (.cells #[.slice none 0 0,.slice none 0 0,.int .i64 0] 39);have Hb:=zH hb2;have Hx:=zH hx;have Hr:=zH hr;have HS2:=zH hs2;rw[show tabV a b c1 c2 t=.agg #[.slice a t.rows.length c1,.slice b t.basis.length c2,.int .i64 t.cols] from rfl];have hn1:=hn.rows;have hn2:=hn.basis;have HR:=zH hn.row;clear hz hb hb2 hx hr hs2 hn
 go_enter Tryz.func191,Tryz.ntmps191
 go_upto_region 1 with fail
 generalize hW:(w.alloc (.cells #[.slice a t.rows.length c1,.slice b t.basis.length c2,.int .i64 t.cols] 39)).alloc (.cells #[.slice none 0 0,.slice none 0 0,.int .i64 0] 39)=W at *;obtain⟨x0,x1,x2,_⟩:=Hx.out.cells;have hin:=(Since.refl W).drew;have Cell:=zH (fun w' (h:Since W w')=>(show w'.cell? ⟨w.heap.size,0,none⟩=some (.slice a t.rows.length c1)/\w'.cell? ⟨w.heap.size,1,none⟩=some (.slice b t.basis.length c2)/\w'.cell? ⟨w.heap.size,2,none⟩=some (.int .i64 t.cols)/\Since W w' from
  ⟨h.cell (p:=⟨w.heap.size,0,none⟩) (Zab Hx.out) x0,h.cell (p:=⟨w.heap.size,1,none⟩) (Zab Hx.out) x1,h.cell (p:=⟨w.heap.size,2,none⟩) (Zab Hx.out) x2,h⟩))
 go_cut [3] (fun p wx=>∃(q:Nat) (vB:Value),p=.pointer (some ⟨q,0,none⟩)/\Hid (Tri wx q (.slice none 0 0) vB (.int .i64 t.cols) 39)/\Hid (Zad W.heap.size wx vB t.basis)/\Hid (Below W.heap.size W wx)/\Hid (W.heap.size≤q))
 case first=>
  have HZ1:Hid (∀w',Since W w'->Zat w.heap.size w' b t.basis):=fun w' h=>HZ.out.mB.below (h.low.mono (by have:=HS2.out;omega))
  have own1:Hid (Zad W.heap.size (W.drew.alloc (.cells #[] 3)) (.slice (some ⟨W.heap.size,0,none⟩) 0 0) []):=Zdk W.drew;have own2:Hid (Zad W.heap.size ((W.drew.alloc (.cells #[] 3)).alloc (.cells #[.slice none 0 0,.slice none 0 0,.int .i64 0] 39)) (.slice (some ⟨W.heap.size,0,none⟩) 0 0) []):=(Zdk W.drew).below ((Below.refl _ _).alloc (Nat.le_refl _) _);have own3:Hid (Zad W.heap.size ((W.drew.alloc (.cells #[.slice none 0 0,.slice none 0 0,.int .i64 0] 39)).alloc (.cells #[] 3)) (.slice (some ⟨W.heap.size+1,0,none⟩) 0 0) []):=by
   have h:=Zdk (W.drew.alloc (.cells #[.slice none 0 0,.slice none 0 0,.int .i64 0] 39));rw[Zar] at h;exact h.Zf9 (Nat.le_succ _)
  have hA1:Since W (W.drew.alloc (.cells #[] 3)):=Since.alloc hin _;have hA2:Since W ((W.drew.alloc (.cells #[] 3)).alloc (.cells #[.slice none 0 0,.slice none 0 0,.int .i64 0] 39)):=Since.alloc (Since.alloc hin _) _;have hA3:Since W (W.drew.alloc (.cells #[.slice none 0 0,.slice none 0 0,.int .i64 0] 39)):=Since.alloc hin _;have hA4:Since W ((W.drew.alloc (.cells #[.slice none 0 0,.slice none 0 0,.int .i64 0] 39)).alloc (.cells #[] 3)):=Since.alloc (Since.alloc hin _) _;have tri2:Hid (Tri ((W.drew.alloc (.cells #[] 3)).alloc (.cells #[.slice none 0 0,.slice none 0 0,.int .i64 0] 39)) (W.heap.size+1) (.slice none 0 0) (.slice none 0 0) (.int .i64 0) 39):=by
   have h:=Tri.new (W.drew.alloc (.cells #[] 3)) (.slice none 0 0) (.slice none 0 0) (.int .i64 0) 39;rw[Zar] at h;exact h
  have tri3:Hid (Tri ((W.drew.alloc (.cells #[.slice none 0 0,.slice none 0 0,.int .i64 0] 39)).alloc (.cells #[] 3)) W.heap.size (.slice none 0 0) (.slice none 0 0) (.int .i64 0) 39):=(Tri.new W.drew (.slice none 0 0) (.slice none 0 0) (.int .i64 0) 39).more _;refine Zaf (S:=(fun w'=>w'.cell? ⟨w.heap.size,0,none⟩=some (.slice a t.rows.length c1)/\w'.cell? ⟨w.heap.size,1,none⟩=some (.slice b t.basis.length c2)/\w'.cell? ⟨w.heap.size,2,none⟩=some (.int .i64 t.cols)/\Since W w')) 8 (by kernel_rfl) ?_ (fun hHeld=>?_)
  ·exact Cell.out _ hin
  refine tk2 1 ⟨some 6,_,0,_,_,none⟩ ?_;refine tk2 2 ⟨some 7,_,25,_,_,none⟩ ?_;refine tk2 4 ⟨some 9,_,0,_,_,none⟩ ?_;refine tk2 5 ⟨some 10,_,3,_,_,none⟩ ?_
  try simp only[Act.put,zA,zB,zC]
  refine Zct (rs:=[0,7]) (by kernel_rfl) (by simp) ?_;refine (Zay.cons (o:=⟨some 5,.buildSlice 25 0 #[],25,"l06_tableau.go:42",#[],none⟩) (rs:=[7]) rfl (fun K hK=>?_) (Zay.cons (o:=⟨some 3,.alloc 39,0,"l06_tableau.go:42",#[],none⟩) (rs:=[]) rfl (fun K hK=>?_) Zay.nil))
  ·go_simp
   refine hK.out _ _ ?_ (fun hHeld=>?_)
   ·exact Cell.out _ hA1
   clear hK K
   try simp only[Act.put,zA,zB,zC]
   refine Zct (rs:=[3,7]) (by kernel_rfl) (by simp) ?_;refine (Zay.cons (o:=⟨some 8,.call { callee:=.builtin Builtin.append,args:=#[.tmp 5,.tmp 7],argTypes:=#[25,25] },25,"l06_tableau.go:42",#[⟨0,.data⟩,⟨2,.data⟩],none⟩) (rs:=[7]) rfl (fun K hK=>?_) (Zay.cons (o:=⟨some 3,.alloc 39,0,"l06_tableau.go:42",#[],none⟩) (rs:=[]) rfl (fun K hK=>?_) Zay.nil))
   ·(refine Zee rfl _ _ rfl W.heap.size (.slice (some ⟨W.heap.size,0,none⟩) 0 0) [] rfl own1.out b t.basis _ _ rfl rfl w.heap.size (HZ1.out _ hA1) (by simp;omega) (by simp) ?_;intro v' w' hown hgrow;simp only[List.nil_append] at hown;obtain⟨ai,ci,rfl,_,_,_⟩:=Zaw hown;have hin2:=Since.grown hA1 hgrow (fun g hg=>by simp[Value.ownBlock] at hg;omega))
    refine hK.out _ _ ?_ (fun hHeld=>?_)
    ·exact Cell.out _ hin2
    clear hK K;refine tk2 6 ⟨some 11,_,39,_,_,none⟩ ?_
    try simp only[Act.put,zA,zB,zC]
    refine rd2 7 ⟨some 3,_,0,_,_,none⟩ fun K hK=>?_
    go_simp
    refine hK.out _ _ ?_ (fun hHeld=>?_)
    ·exact Cell.out _ (Since.alloc hin2 _)
    clear hK K
    try simp only[Act.put,zA,zB,zC]
    refine rd3 8 ⟨none,_,0,_,_,none⟩ fun K hK=>?_
    go_simp
    refine hK.out _ _ ?_;clear hK K;refine Zal (by kernel_rfl) ?_ _
    go_wp2_with fail
    go_meet
    exact⟨_,_,rfl,Tri.new w' _ _ _ _,hown.below ((Below.refl _ _).alloc (Nat.le_refl _) _),(Since.alloc hin2 _).low,hin2.low.size⟩
   ·go_simp
    refine hK.out _ _ ?_ (fun hHeld=>?_)
    ·exact Cell.out _ hA2
    clear hK K
    try simp only[Act.put,zA,zB,zC]
    refine rd2 3 ⟨some 8,_,25,_,_,none⟩ fun K hK=>?_
    (refine Zee rfl _ _ rfl W.heap.size (.slice (some ⟨W.heap.size,0,none⟩) 0 0) [] rfl own2.out b t.basis _ _ rfl rfl w.heap.size (HZ1.out _ hA2) (by simp;omega) (by simp;omega) ?_;intro v' w' hown hgrow;simp only[List.nil_append] at hown;obtain⟨ai,ci,rfl,_,_,_⟩:=Zaw hown;have hin2:=Since.grown hA2 hgrow (fun g hg=>by simp[Value.ownBlock] at hg;omega);have hbx:Tri w' (W.heap.size+1) _ _ _ _:=(hgrow.block (W.heap.size+1) (by simp) (by simp[Value.ownBlock])).trans tri2.out;obtain⟨d0,d1,d2,e0,e1,e2⟩:=Tri.cells hbx)
    refine hK.out _ _ ?_ (fun hHeld=>?_)
    ·exact Cell.out _ hin2
    clear hK K;refine tk2 6 ⟨some 11,_,39,_,_,none⟩ ?_
    try simp only[Act.put,zA,zB,zC]
    refine rd3 8 ⟨none,_,0,_,_,none⟩ fun K hK=>?_
    go_simp
    refine hK.out _ _ ?_;clear hK K;refine Zal (by kernel_rfl) ?_ _
    go_wp2_with fail
    go_meet
    exact⟨_,_,rfl,Zck hbx _ _ _,Zey hown (Zdf hown hbx (by decide)),Zd7 hin2.low (Nat.le_succ _) _ _ _,Nat.le_succ _⟩
  ·go_simp
   refine hK.out _ _ ?_ (fun hHeld=>?_)
   ·exact Cell.out _ hA3
   clear hK K
   try simp only[Act.put,zA,zB,zC]
   refine rd2 0 ⟨some 5,_,25,_,_,none⟩ fun K hK=>?_
   go_simp
   refine hK.out _ _ ?_ (fun hHeld=>?_)
   ·exact Cell.out _ hA4
   clear hK K
   try simp only[Act.put,zA,zB,zC]
   refine rd2 3 ⟨some 8,_,25,_,_,none⟩ fun K hK=>?_
   (refine Zee rfl _ _ rfl W.heap.size (.slice (some ⟨W.heap.size+1,0,none⟩) 0 0) [] rfl own3.out b t.basis _ _ rfl rfl w.heap.size (HZ1.out _ hA4) (by simp;omega) (by simp;omega) ?_;intro v' w' hown hgrow;simp only[List.nil_append] at hown;obtain⟨ai,ci,rfl,_,_,_⟩:=Zaw hown;have hin2:=Since.grown hA4 hgrow (fun g hg=>by simp[Value.ownBlock] at hg;omega);have hbx:Tri w' W.heap.size _ _ _ _:=(hgrow.block W.heap.size (by simp;omega) (by simp[Value.ownBlock])).trans tri3.out;obtain⟨d0,d1,d2,e0,e1,e2⟩:=Tri.cells hbx)
   refine hK.out _ _ ?_ (fun hHeld=>?_)
   ·exact Cell.out _ hin2
   clear hK K;refine tk2 6 ⟨some 11,_,39,_,_,none⟩ ?_
   try simp only[Act.put,zA,zB,zC]
   refine rd3 8 ⟨none,_,0,_,_,none⟩ fun K hK=>?_
   go_simp
   refine hK.out _ _ ?_;clear hK K;refine Zal (by kernel_rfl) ?_ _
   go_wp2_with fail
   go_meet
   exact⟨_,_,rfl,Zck hbx _ _ _,Zey hown (Zdf hown hbx (by decide)),Zd7 hin2.low (Nat.le_refl _) _ _ _,Nat.le_refl _⟩
 case rest=>
  obtain⟨w1,rfl⟩:∃q:World,q=wc:=⟨_,rfl⟩;obtain⟨q,vB,rfl,hT,hI,hB,hq⟩:=hcut;have HB0:=zH Hb.out;clear Cell hin x0 x1 x2 Hb;have hlq:=Zab hT.out;have HO0:Hid (Zbt W.heap.size w1 (.slice none 0 0) (t.rows.take 0)):=Zbt.nil _ _;obtain⟨x0,x1,x2,_⟩:=(Hx.out.below hB.out).cells;obtain⟨L,B1,C⟩:=t;simp only at hn1 hn2 x0 x1 x2
  go_wp2_with fail
  go_loopw [4] (fun i wr=>∃(k:Nat) (vR:Value),k≤L.length/\i=.int .i64 k/\Hid (Tri wr q vR vB (.int .i64 C) 39)/\Hid (Zbt W.heap.size wr vR (L.take k))/\Hid (Zad W.heap.size wr vB B1)/\Hid (Below W.heap.size W wr)) (fun i _=>L.length-(intOf i).toNat)
  case atStart=>exact⟨0,_,Nat.zero_le _,rfl,hT,HO0,hI,hB⟩
  case round=>
   clear x0 x1 x2 hT HO0 hI hB;obtain⟨k,vR,hk,rfl,hTr,hO,hIr,hBr⟩:=hrel;obtain⟨x0,x1,x2,_⟩:=(Hx.out.below hBr.out).cells
   by_cases hlt:k<L.length
   ·have hTw:=HZ.out.below (hBr.out.mono (show w.heap.size≤W.heap.size by have:=HS2.out;omega))
    obtain⟨b1,o1,a1,k1,rfl,hl1,hrow,hRr⟩:=hTw.mR k hlt;simp only at hrow hRr;have hszW:=hBr.out.size;have hs2:=HS2.out;have hne1:=Zeq hO.out hTr.out (by decide);have hne2:∀g,g<W.heap.size->vR.ownBlock≠some g:=fun g hg e=>by have:=(hO.out.apart g e).1;omega
    obtain⟨y0,y1,y2,f0,f1,f2⟩:=hTr.out.cells;have HRl:Hid ((rr L k).length≤1048576):=HR.out k hlt;have HCp:=zH (fun w' (h:Since wr w')=>Ze7 (Zhw wr.heap.size a1 k1 (rr L k) (Nat.le_trans HRl.out (by omega)) w' h.low.size ((hRr.below (h.low.mono (show w.heap.size≤wr.heap.size by omega))).mono (show w.heap.size≤wr.heap.size by omega))) h);have Cell:=zH (fun w' (h:wr.grownBy w' vR.ownBlock)=>(show w'.cell? ⟨q,0,none⟩=some vR/\w'.cell? ⟨w.heap.size,0,none⟩=some (.slice (some ⟨b1,o1,none⟩) L.length c1)/\w'.cell? ⟨b1,o1+k,none⟩=some (.slice a1 (rr L k).length k1)/\wr.grownBy w' vR.ownBlock from
     ⟨Zde (p:=⟨q,0,none⟩) h (Zab hTr.out) hne1 y0,Zde (p:=⟨w.heap.size,0,none⟩) h (show w.heap.size<wr.heap.size by omega) (hne2 _ (show w.heap.size<W.heap.size by omega)) x0,Zde (p:=⟨b1,o1+k,none⟩) h (show b1<wr.heap.size by omega) (hne2 _ (show b1<W.heap.size by omega)) hrow,h⟩))
    have hn1k:(k:Int)<(L.length:Int):=by omega
    have hg0:wr.grownBy wr.drew vR.ownBlock:=Zny (World.grownBy.refl _ _);have hsn:=(Since.refl wr).drew;have hkey:L.take (k+1)=L.take k++[rr L k]:=by rw[List.take_add_one,Zta hlt];rfl
    have Hkey:=zH hkey;have hlk:(L.take k).length≤1048576:=by rw[List.length_take];omega
    clear hrow hRr hTw hkey x1 x2 y1 y2;generalize hrw:rr L k=row at *;generalize hLk:L.take k=Lk at *
    go_upto_region 5 with fail
    refine Zaf (S:=(fun w'=>w'.cell? ⟨q,0,none⟩=some vR/\w'.cell? ⟨w.heap.size,0,none⟩=some (.slice (some ⟨b1,o1,none⟩) L.length c1)/\w'.cell? ⟨b1,o1+k,none⟩=some (.slice a1 row.length k1)/\wr.grownBy w' vR.ownBlock)) 11 (by kernel_rfl) ?_ (fun hHeld=>?_)
    ·exact Cell.out _ hg0
    refine tk2 0 ⟨some 19,_,0,_,_,none⟩ ?_;refine tk2 1 ⟨some 20,_,37,_,_,none⟩ ?_;refine tk2 2 ⟨some 21,_,0,_,_,none⟩ ?_;refine tk2 3 ⟨some 22,_,37,_,_,none⟩ ?_;refine tk2 4 ⟨some 23,_,3,_,_,none⟩ ?_;refine tk2 5 ⟨some 24,_,0,_,_,none⟩ ?_;refine tk2 6 ⟨some 25,_,26,_,_,none⟩ ?_
    try simp only[Act.put,zA,zB,zC]
    refine rd2 7 ⟨some 26,_,26,_,_,none⟩ fun K hK=>?_
    go_simp
    (go_at_call 63;refine (HCp.out _ hsn).mono ?_;rintro e w2 ⟨⟨u,rfl,hu⟩,hs2',hb2⟩;obtain⟨au,cu,rfl,_⟩:=Zai hu;have hg2:=Zel hg0 hb2)
    refine hK.out _ _ ?_ (fun hHeld=>?_)
    ·exact Cell.out _ hg2
    clear hK K
    try simp only[Act.put,zA,zB,zC]
    have hs3:=Since.alloc hs2' (.cells #[.slice au row.length cu] 26);have hg3:=Znx hg2 (.cells #[.slice au row.length cu] 26);have hO3:=hO.out.below hs3.low;have hu3:=Zaa.alloc (hu.raise hszW) (.cells #[.slice au row.length cu] 26);have hcu:=(Zac.new w2 #[.slice au row.length cu] 26).cell 0;refine rd2 8 ⟨some 27,_,37,_,_,none⟩ fun K hK=>?_
    go_simp
    refine hK.out _ _ ?_ (fun hHeld=>?_)
    ·exact Cell.out _ hg3
    clear hK K
    try simp only[Act.put,zA,zB,zC]
    refine rd2 9 ⟨some 28,_,37,_,_,none⟩ fun K hK=>?_
    (refine Zg1 rfl _ _ rfl W.heap.size vR Lk rfl hO3 w2.heap.size (.slice au row.length cu) row rfl hcu hu3 (by omega) (by have:=hs3.low.size;omega) ?_;intro v' w' hown hgrow;obtain⟨av,cv,rfl,_⟩:=hown.reads;generalize hm5:(Lk++[row]).length=m5 at *;have hg4:=Zsk hg3 hgrow)
    refine hK.out _ _ ?_ (fun hHeld=>?_)
    ·exact Cell.out _ hg4
    clear hK K;refine tk2 10 ⟨some 29,_,0,_,_,none⟩ ?_
    try simp only[Act.put,zA,zB,zC]
    have hT4:Tri w' q vR vB (.int .i64 C) 39:=(hg4.block q (Zab hTr.out) (fun e=>hne1 e.symm)).trans hTr.out;obtain⟨y0',_,_,f0',_,_⟩:=hT4.cells;refine rd3 11 ⟨none,_,0,_,_,none⟩ fun K hK=>?_
    go_simp
    refine hK.out _ _ ?_;clear hK K;refine Zal (by kernel_rfl) ?_ _;have hb4:=Zg5 (B:=W.heap.size) hBr.out hg4 hszW (fun g hg=>(hO.out.apart g hg).1);have hI4:Zad W.heap.size w' vB B1:=by
     obtain⟨vs,ho1,_⟩:=hO.out;exact World.ownsRow.kept hIr.out hg4 (by
      cases hv:vB.ownBlock with
      | none=>exact .inl rfl
      | some g=>exact .inr fun e=>Zb0 hIr.out ho1 (fun e=>Zcx e.symm) g hv e.symm)
    have HT5:=zH (hT4.set0 (.slice av m5 cv));have HO5:=zH (Zd8 (i:=0) (u:=.slice av m5 cv) hown (Zeq hown hT4 (by decide)) (Zim (Zax hT4) (by decide)));have HI5:Hid (Zad W.heap.size (w'.setCell ⟨q,0,none⟩ (.slice av m5 cv)) vB B1):=(Zao (i:=0) (u:=.slice av m5 cv) hI4 (Zdf hI4 hT4 (by decide)));have HB5:=zH (hb4.setCell (p:=⟨q,0,none⟩) hq.out (.slice av m5 cv));rw[<-Hkey.out] at HO5;clear y0' f0' hown hgrow hg4 hg3 hs3 hO3 hu3 hcu hs2' hb2 hu hg2 Cell hg0 hsn y0 f0 f1 f2 x0 HCp hb4 hT4 hI4
    go_wp2_with fail
    go_roundw
    case rel=>exact⟨k+1,_,by omega,by go_num,HT5,HO5,HI5,HB5⟩
    case measure=>simp[intOf];omega
   ·have he:k=L.length:=by omega
    have HO6:Hid (Zbt W.heap.size wr vR L):=by rw[show L=L.take k by rw[he,List.take_length]];exact hO.out
    obtain⟨av,cv,rfl,_⟩:=HO6.out.reads;obtain⟨ai,ci,rfl,_⟩:=Zaw hIr.out;obtain⟨y0,y1,y2,f0,f1,f2⟩:=hTr.out.cells;obtain⟨z0,z1,z2,e0,e1,e2⟩:=(Hr.out.below hBr.out).cells;have hR2:=zH (Hr.out.below hBr.out);clear he
    go_wp2_with fail
    have hq2:w.heap.size+1<W.heap.size:=by have:=HS2.out;omega
    have hI7:=(hIr.out.Zf9 (show w.heap.size≤W.heap.size by omega));have hO7:=(HO6.out.raise (show w.heap.size≤W.heap.size by omega));have hnr:(Value.slice av L.length cv).ownBlock≠some (w.heap.size+1):=fun e=>by have:=(HO6.out.apart _ e).1;omega
    have hni:(Value.slice ai B1.length ci).ownBlock≠some (w.heap.size+1):=fun e=>by have:=(World.ownsRow.lt hIr.out _ e).1;omega
    have hlow:=hBr.out.mono (show w.heap.size≤W.heap.size by omega);refine bodyPost_ret (v:=.agg #[.slice av L.length cv,.slice ai B1.length ci,.int .i64 C]) (by
     obtain⟨z0,z1,z2,_⟩:=(Zck hR2.out (.slice av L.length cv) (.slice ai B1.length ci) (.int .i64 C)).cells;revert z0 z1 z2;generalize (World.setCell _ (⟨w.heap.size+1,2,none⟩:Addr) (.int .i64 C))=W4;intro z0 z1 z2;simp[results,Tryz.results191,go_sem,z0,z1,z2]) rfl ⟨_,rfl,⟨_,_,rfl,?_,Zey hI7 hni⟩,?_⟩
    ·have h1:=Zd8 (i:=0) (u:=.slice av L.length cv) hO7 hnr (Zim (Zax hR2.out) (by decide))
     have h2:=Zd8 (i:=1) (u:=.slice ai B1.length ci) h1 hnr (Zim (Zax (hR2.out.set0 _)) (by decide));exact Zd8 (i:=2) (u:=.int .i64 C) h2 hnr (Zim (Zax ((hR2.out.set0 _).set1 _)) (by decide))
    ·exact Zd7 (Below.trans (HB0.out) hlow) (Nat.le_succ _) _ _ _
theorem Zbt.high {B:Nat} {w w':World} {v:Value} {L:List (List R)} (h:Zbt B w v L) (hk:∀k,B≤k->k<w.heap.size->w'.heap[k]? = w.heap[k]?):Zbt B w' v L:=by
 obtain⟨vs,h1,h2⟩:=h;refine⟨vs,Zak h1 fun g hg=>by have:=World.ownsRow.lt h1 g hg;exact hk g this.1 this.2,fun j hj=>?_⟩;obtain⟨u,e,ho⟩:=h2 j hj;exact⟨u,e,Zak ho fun g hg=>by have:=World.ownsRow.lt ho g hg;exact hk g this.1 this.2⟩
theorem Zad.high {B:Nat} {w w':World} {v:Value} {xs:List Int} (h:Zad B w v xs) (hk:∀k,B≤k->k<w.heap.size->w'.heap[k]? = w.heap[k]?):Zad B w' v xs:=
 Zak h fun g hg=>by have:=World.ownsRow.lt h g hg;exact hk g this.1 this.2
theorem Zvi {B q:Nat} {w:World} (hq:q<B) (x y z:Value):∀k,B≤k->k<w.heap.size->(((w.setCell ⟨q,0,none⟩ x).setCell ⟨q,1,none⟩ y).setCell ⟨q,2,none⟩ z).heap[k]? = w.heap[k]?:=fun k h1 _=>by
 rw[Below.heap_setCell _ _ _ _ (show k≠q by omega),Below.heap_setCell _ _ _ _ (show k≠q by omega),Below.heap_setCell _ _ _ _ (show k≠q by omega)]
theorem Zh6 {w W wx w2:World} {vR vB:Value} {t PV:T} {k KK:Bool} (hP:t=PV) (hK:k=KK) {cols:Int} (hc:t.cols=cols) (hW:W.heap.size≤wx.heap.size) (hR:Zbt wx.heap.size w2 vR t.rows) (hB:Zad wx.heap.size w2 vB t.basis) (hb0:Below w.heap.size w W)
  (hb:Below W.heap.size W w2) (hs:W.heap.size=w.heap.size+2) (x y z:Value):Zkf PV KK w (.returned (.tuple #[.agg #[vR,vB,.int .i64 cols],.bool k])) (((w2.setCell ⟨w.heap.size+1,0,none⟩ x).setCell ⟨w.heap.size+1,1,none⟩ y).setCell ⟨w.heap.size+1,2,none⟩ z):=by
 subst hP hK hc;have hh:=Zvi (w:=w2) (show w.heap.size+1<wx.heap.size by omega) x y z;exact⟨vR,vB,rfl,⟨vR,vB,rfl,(hR.high hh).raise (by omega),(hB.high hh).Zf9 (by omega)⟩,Zd7 (hb0.trans (hb.mono (by omega))) (Nat.le_succ _) _ _ _⟩
theorem Zs9 {B g c n j:Nat} {w:World} {u:Value} {x:List R} {L:List (List R)} (h:Zbt B w (.slice (some ⟨g,0,none⟩) n c) L) (hn:n=L.length) (hj:j<L.length) (hu:Zaa B w u x):Zbt B (w.setCell ⟨g,j,none⟩ u) (.slice (some ⟨g,0,none⟩) n c) (L.set j x):=by
 subst hn;obtain⟨vs,h1,h2⟩:=h;have keep:∀(u':Value) (xs:List R),Zaa B w u' xs->Zaa B (w.setCell ⟨g,j,none⟩ u) u' xs:=fun u' xs ho=>
  Zao ho (fun e=>Zb0 ho h1 Zcf g e rfl)
 have hs:=World.ownsRow.stored h1 j u;refine⟨vs.set j u,by simpa using hs.1,fun i hi=>?_⟩;rw[List.length_set] at hi;have hl:vs.length=L.length:=by have:=h1.1;omega
 by_cases e:i=j
 ·subst e
  refine⟨u,by simp[hl,hi],?_⟩;have:rr (L.set i x) i=x:=Zru (by simp[hi]);rw[this];exact keep u x hu
 ·obtain⟨u',e1,ho⟩:=h2 i hi
  refine⟨u',by rw[List.getElem?_set_ne (fun e2=>e e2.symm)];exact e1,?_⟩;have:rr (L.set j x) i=rr L i:=by
   unfold rr;rw[List.getD_eq_getElem?_getD,List.getD_eq_getElem?_getD,List.getElem?_set_ne (fun e2=>e e2.symm)]
  rw[this];exact keep u' _ ho
theorem Zpw {B n c j:Nat} {w:World} {a:Option Addr} {L:List (List R)} (h:Zbt B w (.slice a n c) L) (hj:j<L.length):∃g,a=some ⟨g,0,none⟩/\B≤g/\g<w.heap.size/\(∃v,w.cell? ⟨g,j,none⟩=some v)/\w.frozen? ⟨g,j,none⟩=false:=by
 obtain⟨vs,h1,_⟩:=h;have h1':=h1;obtain⟨e1,⟨e,h0⟩ | ⟨g,cap,cur,e,hg,hh,hr⟩⟩:=h1'
 ·omega
 ·injection e with e2 e3 e4
  subst e2 e3 e4;have hl:vs.length=L.length:=by omega
  exact⟨g,rfl,hg,Zab hh,⟨vs[j],by rw[World.ownsRow.cellAt h1 j (by omega),List.getElem?_eq_getElem (by omega)]⟩,World.ownsRow.frozenAt h1 _⟩
theorem Zik {B n c j:Nat} {w:World} {a:Option Addr} {L:List Int} (h:Zad B w (.slice a n c) L) (hj:j<L.length):∃g,a=some ⟨g,0,none⟩/\B≤g/\g<w.heap.size/\(∃v,w.cell? ⟨g,j,none⟩=some v)/\w.frozen? ⟨g,j,none⟩=false:=by
 have h1:=h;have h1':=h1;obtain⟨e1,⟨e,h0⟩ | ⟨g,cap,cur,e,hg,hh,hr⟩⟩:=h1'
 ·omega
 ·injection e with e2 e3 e4
  subst e2 e3 e4;exact⟨g,rfl,hg,Zab hh,⟨(L.map (Value.int .i64))[j]'(by simpa using hj),by rw[World.ownsRow.cellAt h1 j (by simpa using hj),List.getElem?_eq_getElem (by simpa using hj)]⟩,World.ownsRow.frozenAt h1 _⟩
theorem Zj7 {B g c n j:Nat} {w:World} {x:Int} {L:List Int} (h:Zad B w (.slice (some ⟨g,0,none⟩) n c) L) (hn:n=L.length):Zad B (w.setCell ⟨g,j,none⟩ (.int .i64 x)) (.slice (some ⟨g,0,none⟩) n c) (L.set j x):=by
 subst hn;have h1:=(World.ownsRow.stored h j (.int .i64 x)).1;show World.ownsRow _ _ _ _ _ _ _;rw[List.length_set,List.map_set];exact h1
end Go.Proofs.YtlohljkfphljgaaGreat
