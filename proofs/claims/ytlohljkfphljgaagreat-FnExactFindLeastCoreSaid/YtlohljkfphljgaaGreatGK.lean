/- The parts LkI, VeI, LkRow. -/
import Derived.Test.YtlohljkfphljgaaGreatHNumI
import Derived.Test.YtlohljkfphljgaaGreatHGrI
import Derived.Test.YtlohljkfphljgaaGreatGVa
import Derived.Test.YtlohljkfphljgaaGreatGVb
namespace Go.Proofs.YtlohljkfphljgaaGreat
open Go.RowKit
theorem Zad.same {B:Nat} {w w':World} {v:Value} {xs:List Int} (h:Zad B w v xs) (hs:∀g,v.ownBlock=some g->w'.heap[g]? = w.heap[g]?):Zad B w' v xs:=by
 obtain⟨h1,h2|⟨g,cap,cur,rfl,hg,hh,hr⟩⟩:=h
 ·exact⟨h1,.inl h2⟩
 ·exact⟨h1,.inr ⟨g,cap,cur,rfl,hg,(hs g rfl).trans hh,hr⟩⟩
theorem Zad.turned {lo hi B:Nat} {w w':World} {v:Value} {xs:List Int} (h:Zad B w v xs) (ht:Turned lo hi w w') (hB:∀g,v.ownBlock=some g->g<lo\/hi≤g):Zad B w' v xs:=
 h.same fun g hg=>ht.block g (World.ownsRow.lt h g hg).2 (hB g hg)
set_option maxRecDepth 100000 in
set_option maxHeartbeats 400000 in
theorem Zmi (B:Nat) (v:Value) (k:Nat) (xs:List Int) (hn:xs.length≤2097152) (hk2:k≤8388608) (w:World) (h1:Zad B w v xs) :
  Calls Tryz.prog 124 #[v,.int .i64 k] w (Zup B k v xs.length w):=by
 by_cases h0:xs = []
 ·subst h0
  obtain⟨a,cap,rfl,_,_,_⟩:=Zaw h1;have H1:=zH h1;clear h1
  go_enter Tryz.func124,Tryz.ntmps124
  go_wp2_with fail
  go_loop [1,5] (fun q i=>q=.int .i64 k/\i=.int .i64 0) (fun _ i=>5-(intOf i).toNat)
  case atStart=>exact⟨rfl,rfl⟩
  case round=>
   obtain⟨rfl,rfl⟩:=hrel
   go_wp2_with fail
   go_ret;exact⟨Za8 (by simp),H1.out,⟨rfl,rfl,rfl,Nat.le_refl _,fun _ _ _=>rfl⟩⟩
 ·obtain⟨a,cap,rfl,_,hab,hag⟩:=Zaw h1
  obtain⟨g,rfl⟩:=hag h0;have hgl:=(hab _ rfl).2;have H1:=zH h1;clear h1 hab hag h0
  go_enter Tryz.func124,Tryz.ntmps124
  go_wp2_with fail
  go_loopw [1,5] (fun q i wr=>∃(j:Nat) (kk:Int),j≤xs.length/\0≤kk/\kk≤16777216/\q=.int .i64 kk/\i=.int .i64 j/\Hid (kk=(k:Int)+j)/\Hid (Zad B wr (.slice (some ⟨g,0,none⟩) (Zc2 k j++xs.drop j).length cap) (Zc2 k j++xs.drop j))/\Hid (w.grownBy wr (some g))) (fun _ i _=>xs.length-(intOf i).toNat)
  case atStart=>exact⟨0,k,Nat.zero_le _,by omega,by omega,rfl,rfl,(by show (k:Int)=k+(0:Nat);omega),H1.out,⟨rfl,rfl,rfl,Nat.le_refl _,fun _ _ _=>rfl⟩⟩
  case round=>
   obtain⟨j,kk,hj,hq0,hq1,rfl,rfl,hkk,hR,hG⟩:=hrel
   by_cases hlt:j<xs.length
   ·have hbd:kk+1≤16777216:=by have:=hkk.out;omega
    have hle:(Zc2 k j++xs.drop j).length=xs.length:=by rw[List.length_append,Zes,List.length_drop];omega
    have c1:∃x,wr.cell? ⟨g,j,none⟩=some (.int .i64 x):=by
     have hj':j<(Zc2 k j++xs.drop j).length:=by omega
     rw[World.ownsRow.cellAt hR.out j (by omega),List.getElem?_map,List.getElem?_eq_getElem hj'];exact⟨_,rfl⟩
    have f1:wr.frozen? ⟨g,j,none⟩=false:=World.ownsRow.frozenAt hR.out j;obtain⟨x,c1⟩:=c1;have HR3:Hid (Zad B (wr.setCell ⟨g,j,none⟩ (.int .i64 kk)) (.slice (some ⟨g,0,none⟩) (Zc2 k (j+1)++xs.drop (j+1)).length cap) (Zc2 k (j+1)++xs.drop (j+1))):=by
     have h3:=Zwf hR.out j kk;rw[show kk=((k+j:Nat):Int) by have:=hkk.out;omega] at h3 ⊢;rw[Zt6 k j xs hlt] at h3;exact h3
    have HG3:=zH (Zgl hG.out j (.int .i64 kk));have Hk2:Hid (kk+1=(k:Int)+((j+1:Nat):Int)):=by
     have:=hkk.out;show _=_;omega
    clear hle
    go_wp2_with fail
    go_roundw
    case rel=>exact⟨j+1,kk+1,by omega,by omega,hbd,rfl,by go_num,Hk2,HR3,HG3⟩
    case measure=>simp[intOf];omega
   ·have he:j=xs.length:=by omega
    have Hf:Hid (Zad B wr (.slice (some ⟨g,0,none⟩) xs.length cap) (Zc2 k xs.length)):=by
     have h3:=hR.out;rw[he,Zt5,Zes] at h3;exact h3
    have Hk2:Hid (kk=(k:Int)+xs.length):=by rw[<-he];exact hkk
    clear he
    go_wp2_with fail
    go_ret;exact⟨Za8 Hk2.out,Hf,hG⟩
def Zby (lo hi:Nat) (w:World) (u:Value) (xs:List Int):Prop:=∃(a:Option Addr) (c:Nat),u=.slice a xs.length c/\(xs.length≠0->Zad lo w u xs/\∀g,u.ownBlock=some g->g<hi)
def Blk (u:Value) (n b:Nat):Prop:=n≠0/\u.ownBlock=some b
theorem Zby.Zhg {lo hi:Nat} {w:World} {u:Value} {xs:List Int} (h:Zad lo w u xs) (hb:∀g,u.ownBlock=some g->g<hi):Zby lo hi w u xs:=by
 obtain⟨a,c,rfl,_⟩:=Zaw h;exact⟨a,c,rfl,fun _=>⟨h,hb⟩⟩
theorem Zby.blk {lo hi:Nat} {w:World} {u:Value} {xs:List Int} (h:Zby lo hi w u xs) {b:Nat} (hb:Blk u xs.length b):lo≤b/\b<hi/\b<w.heap.size:=by
 obtain⟨a,c,rfl,h2⟩:=h;obtain⟨h3,h4⟩:=h2 hb.1;have:=World.ownsRow.lt h3 b hb.2;exact⟨this.1,h4 b hb.2,this.2⟩
theorem Zby.same {lo hi:Nat} {w w':World} {u:Value} {xs:List Int} (h:Zby lo hi w u xs) (hs:∀b,Blk u xs.length b->w'.heap[b]? = w.heap[b]?):Zby lo hi w' u xs:=by
 obtain⟨a,c,rfl,h2⟩:=h;exact⟨a,c,rfl,fun hn=>⟨(h2 hn).1.same fun g hg=>hs g ⟨hn,hg⟩,(h2 hn).2⟩⟩
theorem Zby.below {lo hi:Nat} {w w':World} {u:Value} {xs:List Int} (h:Zby lo hi w u xs) (hb:Below w.heap.size w w'):Zby lo hi w' u xs:=h.same fun b h1=>hb.block b (h.blk h1).2.2
theorem Zby.reads {lo hi:Nat} {w:World} {u:Value} {xs:List Int} (h:Zby lo hi w u xs):∃(a:Option Addr) (c:Nat),u=.slice a xs.length c/\Zat hi w a xs:=by
 obtain⟨a,c,rfl,h2⟩:=h;refine⟨a,c,rfl,fun j hj=>?_⟩;obtain⟨h3,h4⟩:=h2 (by omega);obtain⟨a',c',e,hr,hp,_⟩:=Zaw h3;obtain⟨rfl,rfl⟩:a=a'/\c=c':=by injection e with e1 _ e3;exact⟨e1,e3⟩
 exact Zat.Zcb (B:=hi) hr (fun p hp=>h4 p.block (by rw[hp];rfl)) j hj
theorem Zvz (lo hi:Nat) (u:Value) (kk:Int) (k:Nat) (hkk:kk=k) (xs:List Int) (hn:xs.length≤2097152) (hk2:k≤8388608) (w:World) (h:Zby lo hi w u xs) :
  Calls Tryz.prog 124 #[u,.int .i64 kk] w fun e w'=>e=.returned (.int .i64 (kk+xs.length))/\Zby lo hi w' u (Zc2 k xs.length)/\∃row,w.grownBy w' row/\∀b,row=some b->Blk u xs.length b:=by
 obtain⟨a,c,rfl,h2⟩:=h;subst hkk
 by_cases h0:xs.length=0
 ·have hx:xs = []:=List.eq_nil_of_length_eq_zero h0
  subst hx;clear h2
  go_enter Tryz.func124,Tryz.ntmps124
  go_wp2_with fail
  go_loop [1,5] (fun q i=>q=.int .i64 k/\i=.int .i64 0) (fun _ i=>5-(intOf i).toNat)
  case atStart=>exact⟨rfl,rfl⟩
  case round=>
   obtain⟨rfl,rfl⟩:=hrel
   go_wp2_with fail
   go_ret;exact⟨Za8 (by simp),⟨a,c,by simp[Zes],fun hz=>absurd (Zes k 0) hz⟩,none,⟨rfl,rfl,rfl,Nat.le_refl _,fun _ _ _=>rfl⟩,fun b hb=>by cases hb⟩
 ·obtain⟨ho,hb⟩:=h2 h0
  refine (Zmi lo _ k xs hn hk2 w ho).mono ?_;rintro e w' ⟨rfl,h3,h4⟩;exact⟨rfl,⟨a,c,by rw[Zes],fun _=>⟨h3,hb⟩⟩,_,h4,fun b e=>⟨h0,e⟩⟩
theorem Zby.turned {lo hi l2 h2:Nat} {w w':World} {u:Value} {xs:List Int} (h:Zby lo hi w u xs) (ht:Turned l2 h2 w w') (ha:hi≤l2\/h2≤lo):Zby lo hi w' u xs:=h.same fun b hb=>by
 have:=h.blk hb;exact ht.block b this.2.2 (by omega)
theorem Zad.Zf9 {B B':Nat} {w:World} {v:Value} {xs:List Int} (h:Zad B w v xs) (hB:B'≤B):Zad B' w v xs:=by
 obtain⟨h1,h2|⟨g,cap,cur,e,hg,rest⟩⟩:=h
 ·exact⟨h1,.inl h2⟩
 ·exact⟨h1,.inr ⟨g,cap,cur,e,by omega,rest⟩⟩
theorem Zby.wider {lo hi lo' hi':Nat} {w:World} {u:Value} {xs:List Int} (h:Zby lo hi w u xs) (h1:lo'≤lo) (h2:hi≤hi'):Zby lo' hi' w u xs:=by
 obtain⟨a,c,rfl,k⟩:=h;exact⟨a,c,rfl,fun hn=>⟨(k hn).1.Zf9 h1,fun g hg=>Nat.lt_of_lt_of_le ((k hn).2 g hg) h2⟩⟩
def SzR (n:Nat) (left:Int) (w:World) (e:Ending) (w':World):Prop:=
 ∃r:Int,e=.returned (.int .i64 r)/\-1≤r/\r≤1048576/\(0≤r->(n:Int)+r=left)/\w=w'
theorem szI (a:Option Addr) (len cap:Nat) (left:Int) (hm:len≤9223372036854775807) (hl0:0≤left) (hl1:left≤1048576) (w:World) :
  Calls Tryz.prog 119 #[.slice a len cap,.int .i64 left] w (SzR len left w):=by
 rcases Int.lt_or_le left len with hl|hl
 ·have hb:decide (left-(len:Int)<0)=true:=by rw[decide_eq_true_iff];omega
  go_enter Tryz.func119,Tryz.ntmps119
  go_wp2_with fail
  go_ret;exact⟨-1,rfl,by omega,by omega,fun h=>by omega,rfl⟩
 ·have hb:decide (left-(len:Int)<0)=false:=by rw[decide_eq_false_iff_not];omega
  go_enter Tryz.func119,Tryz.ntmps119
  go_wp2_with fail
  go_ret;exact⟨left-len,rfl,by omega,by omega,fun h=>by omega,rfl⟩
open Ve (R)
theorem Zaa.same {B:Nat} {w w':World} {v:Value} {xs:List R} (h:Zaa B w v xs) (hs:∀g,v.ownBlock=some g->w'.heap[g]? = w.heap[g]?):Zaa B w' v xs:=by
 obtain⟨h1,h2|⟨g,cap,cur,rfl,hg,hh,hr⟩⟩:=h
 ·exact⟨h1,.inl h2⟩
 ·exact⟨h1,.inr ⟨g,cap,cur,rfl,hg,(hs g rfl).trans hh,hr⟩⟩
theorem Zaa.turned {lo hi B:Nat} {w w':World} {v:Value} {xs:List R} (h:Zaa B w v xs) (ht:Turned lo hi w w') (hB:∀g,v.ownBlock=some g->g<lo\/hi≤g):Zaa B w' v xs:=
 h.same fun g hg=>ht.block g (World.ownsRow.lt h g hg).2 (hB g hg)
theorem Zaa.raise {B B':Nat} {w:World} {v:Value} {xs:List R} (h:Zaa B w v xs) (hB:B'≤B):Zaa B' w v xs:=by
 obtain⟨h1,h2|⟨g,cap,cur,e,hg,rest⟩⟩:=h
 ·exact⟨h1,.inl h2⟩
 ·exact⟨h1,.inr ⟨g,cap,cur,e,by omega,rest⟩⟩
/-! ### A row: of the call's own, in a block from lo to hi - 1, or empty -/
def Zdw (lo hi:Nat) (w:World) (u:Value) (xs:List R):Prop:=∃(a:Option Addr) (c:Nat),u=.slice a xs.length c/\(xs.length≠0->Zaa lo w u xs/\∀g,u.ownBlock=some g->g<hi)
theorem Zdw.Zhg {lo hi:Nat} {w:World} {u:Value} {xs:List R} (h:Zaa lo w u xs) (hb:∀g,u.ownBlock=some g->g<hi):Zdw lo hi w u xs:=by
 obtain⟨a,c,rfl,_⟩:=Zai h;exact⟨a,c,rfl,fun _=>⟨h,hb⟩⟩
theorem Zdw.blk {lo hi:Nat} {w:World} {u:Value} {xs:List R} (h:Zdw lo hi w u xs) {b:Nat} (hb:Blk u xs.length b):lo≤b/\b<hi/\b<w.heap.size:=by
 obtain⟨a,c,rfl,h2⟩:=h;obtain⟨h3,h4⟩:=h2 hb.1;have:=World.ownsRow.lt h3 b hb.2;exact⟨this.1,h4 b hb.2,this.2⟩
theorem Zdw.same {lo hi:Nat} {w w':World} {u:Value} {xs:List R} (h:Zdw lo hi w u xs) (hs:∀b,Blk u xs.length b->w'.heap[b]? = w.heap[b]?):Zdw lo hi w' u xs:=by
 obtain⟨a,c,rfl,h2⟩:=h;exact⟨a,c,rfl,fun hn=>⟨(h2 hn).1.same fun g hg=>hs g ⟨hn,hg⟩,(h2 hn).2⟩⟩
theorem Zdw.below {lo hi:Nat} {w w':World} {u:Value} {xs:List R} (h:Zdw lo hi w u xs) (hb:Below w.heap.size w w'):Zdw lo hi w' u xs:=h.same fun b h1=>hb.block b (h.blk h1).2.2
theorem Zdw.reads {lo hi:Nat} {w:World} {u:Value} {xs:List R} (h:Zdw lo hi w u xs):∃(a:Option Addr) (c:Nat),u=.slice a xs.length c/\Zah hi w a xs:=by
 obtain⟨a,c,rfl,h2⟩:=h;refine⟨a,c,rfl,fun j x hx=>?_⟩;have hn:xs.length≠0:=by have:=(List.getElem?_eq_some_iff.1 hx).1;omega
 obtain⟨h3,h4⟩:=h2 hn;obtain⟨a',c',e,hr,_⟩:=Zai h3;obtain⟨rfl,rfl⟩:a=a'/\c=c':=by injection e with e1 _ e3;exact⟨e1,e3⟩
 exact (hr.narrow fun p hp=>h4 p.block (by rw[hp];rfl)) j x hx
theorem Zyk (lo hi:Nat) (u:Value) (kk:Int) (k:Nat) (hkk:kk=k) (xs:List R) (hn:xs.length≤2097152) (hk2:k≤8388608) (w:World) (h:Zdw lo hi w u xs) :
  Calls Tryz.prog 125 #[u,.int .i64 kk] w fun e w'=>e=.returned (.int .i64 (kk+2*xs.length))/\Zdw lo hi w' u (Zbo k xs.length)/\∃row,w.grownBy w' row/\∀b,row=some b->Blk u xs.length b:=by
 obtain⟨a,c,rfl,h2⟩:=h
 by_cases h0:xs.length=0
 ·have hx:xs = []:=List.eq_nil_of_length_eq_zero h0
  subst hx;subst hkk;clear h2
  go_enter Tryz.func125,Tryz.ntmps125
  go_wp2_with fail
  go_loop [1,5] (fun q i=>q=.int .i64 k/\i=.int .i64 0) (fun _ i=>5-(intOf i).toNat)
  case atStart=>exact⟨rfl,rfl⟩
  case round=>
   obtain⟨rfl,rfl⟩:=hrel
   go_wp2_with fail
   go_ret;exact⟨Za8 (by simp),⟨a,c,by simp[Zd0],fun hz=>absurd (Zd0 k 0) hz⟩,none,⟨rfl,rfl,rfl,Nat.le_refl _,fun _ _ _=>rfl⟩,fun b hb=>by cases hb⟩
 ·obtain⟨ho,hb⟩:=h2 h0
  refine (Zoa lo _ kk k hkk xs hn hk2 w ho).mono ?_;rintro e w' ⟨rfl,h3,h4⟩;exact⟨rfl,⟨a,c,by rw[Zd0],fun _=>⟨h3,hb⟩⟩,_,h4,fun b e=>⟨h0,e⟩⟩
theorem Zdw.wider {lo hi lo' hi':Nat} {w:World} {u:Value} {xs:List R} (h:Zdw lo hi w u xs) (h1:lo'≤lo) (h2:hi≤hi'):Zdw lo' hi' w u xs:=by
 obtain⟨a,c,rfl,k⟩:=h;exact⟨a,c,rfl,fun hn=>⟨(k hn).1.raise h1,fun g hg=>Nat.lt_of_lt_of_le ((k hn).2 g hg) h2⟩⟩
theorem Zdw.turned {lo hi l2 h2:Nat} {w w':World} {u:Value} {xs:List R} (h:Zdw lo hi w u xs) (ht:Turned l2 h2 w w') (ha:hi≤l2\/h2≤lo):Zdw lo hi w' u xs:=h.same fun b hb=>by
 have:=h.blk hb;exact ht.block b this.2.2 (by omega)
end Go.Proofs.YtlohljkfphljgaaGreat
