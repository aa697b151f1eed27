/- The parts IntsLaw, Row, Onl, NumI. -/
import Derived.Test.YtjfnleilddgjiaaGreatGB
import Derived.Test.YtjfnleilddgjiaaGreatHCoB
import Derived.Test.YtjfnleilddgjiaaGreatRows
import Derived.ProofKit
import Derived.OpenShut
import Derived.Test.YtjfnleilddgjiaaGreatChecked
import Derived.Handy
import Derived.Below
import Derived.OwnWalk
import Derived.Deep.QuietTactic
import Derived.BigQuiet
import Derived.Laws.AppendOwn
set_option maxRecDepth 100000
set_option maxHeartbeats 1000000
namespace Go.Proofs.YtjfnleilddgjiaaGreat
open Go.RowKit
def DrawnT (w:World) (e:Ending) (w':World):Prop:=e=.returned (.bool true)∧∃d,w'=w.drewN d
theorem laws_eqIntS (a1 a2:Option Addr) (c1 c2:Nat) (xs:List Int) (hn:xs.length≤1099511627776) (w:World) (h1:IntsIn w a1 xs) (h2:IntsIn w a2 xs) :
  Calls Tryz.prog 53 #[.slice a1 xs.length c1,.slice a2 xs.length c2] w (DrawnT w):=by
 have H1:=zH h1
 have H2:=zH h2
 clear h1 h2
 go_enter Tryz.func53,Tryz.ntmps53
 go_wp2_with fail
 go_loopw [5] (fun i wr=>∃k:Nat,k≤xs.length∧i=.int .i64 k∧Hid (∃d,wr=w.drewN d)) (fun i _=>xs.length-(intOf i).toNat)
 case atStart=>exact⟨0,Nat.zero_le _,rfl,⟨0,rfl⟩⟩
 case round=>
  obtain⟨k,hk,rfl,hD⟩:=hrel
  by_cases hlt:k<xs.length
  ·have g1:IntsIn wr a1 xs:=by obtain⟨d,rfl⟩:=hD.out;exact H1.out
   have g2:IntsIn wr a2 xs:=by obtain⟨d,rfl⟩:=hD.out;exact H2.out
   obtain⟨b1,o1,rfl,g1⟩:=g1.at k hlt
   obtain⟨b2,o2,rfl,g2⟩:=g2.at k hlt
   go_wp2_with fail
   go_quiet (fail)
   go_wp2_with fail
   go_roundw
   case rel=>exact⟨k+1,by omega,by go_num,by obtain⟨d,rfl⟩:=hD.out;exact⟨d+nq,by simp[Nat.add_comm]⟩⟩
   case measure=>simp[intOf];omega
  ·go_wp2_with fail
   go_ret
   exact⟨rfl,hD⟩
def marksI (k n:Nat):List Int:=(List.range n).map fun j=>((k+j:Nat):Int)
theorem marksI_len (k n:Nat):(marksI k n).length=n:=by simp[marksI]
theorem marksI_set (k j:Nat) (xs:List Int) (hj:j<xs.length):(marksI k j++xs.drop j).set j ((k+j:Nat):Int)=marksI k (j+1)++xs.drop (j+1):=by
 have hl:=marksI_len k j
 rw[List.set_append_right _ _ (by omega),hl,Nat.sub_self,List.drop_eq_getElem_cons hj]
 have e:marksI k (j+1)=marksI k j++[((k+j:Nat):Int)]:=by unfold marksI;rw[List.range_succ,List.map_append];rfl
 rw[e]
 simp only[List.set_cons_zero,List.append_assoc,List.cons_append,List.nil_append]
theorem marksI_all (k:Nat) (xs:List Int):marksI k xs.length++xs.drop xs.length=marksI k xs.length:=by simp
def MarksPost (B k:Nat) (v:Value) (n:Nat) (w:World) (e:Ending) (w':World):Prop:=
 e=.returned (.int .i64 ((k:Int)+n))∧OwnInts B w' v (marksI k n)∧w.grownBy w' v.ownBlock
theorem own_set {B g cap:Nat} {w:World} {xs:List Int} (h:OwnInts B w (.slice (some ⟨g,0,none⟩) xs.length cap) xs) (j:Nat) (x:Int):OwnInts B (w.setCell ⟨g,j,none⟩ (.int .i64 x)) (.slice (some ⟨g,0,none⟩) (xs.set j x).length cap) (xs.set j x):=by
 have:=World.ownsRow.stored h j (.int .i64 x)
 unfold OwnInts
 rw[List.length_set,List.map_set]
 exact this.1
theorem grown_set {w a:World} {g:Nat} (h:w.grownBy a (some g)) (j:Nat) (u:Value):w.grownBy (a.setCell ⟨g,j,none⟩ u) (some g):=
 ⟨h.os,h.tape,h.output,by have:=h.size;simp;omega,fun k hk hne=>by
  rw[Below.heap_setCell _ _ _ _ (show k≠g from fun e=>hne (by rw[e]))];exact h.block k hk hne⟩
end Go.Proofs.YtjfnleilddgjiaaGreat
namespace Go.Proofs.YtjfnleilddgjiaaGreat
open Go.RowKit
def IntsAt (k:IntKind) (B:Nat) (w:World) (a:Option Addr) (len:Nat) (zs:List Int):Prop:=
 len≤9223372036854775807∧zs.length=len∧∀i,i<len→∃b o:Nat,a=some ⟨b,o,none⟩∧b<B∧w.cell? ⟨b,o+i,none⟩=some (.int k (zs.getD i 0))∧(Lit.int k (zs.getD i 0)).wf=true
end Go.Proofs.YtjfnleilddgjiaaGreat
namespace Go.Proofs.YtjfnleilddgjiaaGreat
open Go.RowKit
structure Only (p:Nat) (w w':World):Prop where
 low:Below p w w'
 high:∀k,p<k→k<w.heap.size→w'.heap[k]? = w.heap[k]?
theorem Only.refl (p:Nat) (w:World):Only p w w:=⟨Below.refl _ _,fun _ _ _=>rfl⟩
theorem Only.trans {p:Nat} {a b c:World} (h:Only p a b) (k:Only p b c):Only p a c:=
 ⟨h.low.trans k.low,fun j h1 h2=>by rw[k.high j h1 (Nat.lt_of_lt_of_le h2 h.low.size),h.high j h1 h2]⟩
theorem Only.setCell {p:Nat} {a w:World} (h:Only p a w) (o:Nat) (u:Value):Only p a (w.setCell ⟨p,o,none⟩ u):=
 ⟨h.low.setCell (p:=⟨p,o,none⟩) (Nat.le_refl _) u,fun j h1 h2=>by rw[Below.heap_setCell _ _ _ _ (show j≠p by omega)];exact h.high j h1 h2⟩
theorem Only.drew {p:Nat} {a w:World} (h:Only p a w):Only p a w.drew:=⟨h.low.drew,fun j h1 h2=>h.high j h1 h2⟩
theorem Only.drewN {p:Nat} {a w:World} (h:Only p a w) (n:Nat):Only p a (w.drewN n):=
 ⟨⟨h.low.os,h.low.tape,h.low.output,h.low.size,h.low.block⟩,fun j h1 h2=>h.high j h1 h2⟩
theorem Only.below {p B:Nat} {w w':World} (h:Only p w w') (hB:B≤p):Below B w w':=h.low.mono hB
theorem Only.block {p k:Nat} {w w':World} (h:Only p w w') (hk:k≠p) (hl:k<w.heap.size):w'.heap[k]? = w.heap[k]?:=by
 rcases Nat.lt_or_ge k p with h1|h1
 ·exact h.low.block k h1
 ·exact h.high k (by omega) hl
theorem Only.alloc {p:Nat} {a w:World} (h:Only p a w) (hp:p≤a.heap.size) (o:Obj):Only p a (w.alloc o):=
 ⟨h.low.alloc (Nat.le_trans hp h.low.size) o,fun j h1 h2=>by rw[Below.heap_alloc _ _ _ (Nat.lt_of_lt_of_le h2 h.low.size)];exact h.high j h1 h2⟩
theorem Only.setOwn {p k:Nat} {a w:World} (h:Only p a w) (hp:p≤a.heap.size) (hk:a.heap.size≤k) (o:Nat) (u:Value):Only p a (w.setCell ⟨k,o,none⟩ u):=
 ⟨h.low.setCell (p:=⟨k,o,none⟩) (Nat.le_trans hp hk) u,fun j h1 h2=>by rw[Below.heap_setCell _ _ _ _ (show j≠k by omega)];exact h.high j h1 h2⟩
theorem Only.grown {p:Nat} {a w w':World} {row:Option Nat} (h:Only p a w) (hp:p≤a.heap.size) (hg:w.grownBy w' row) (hr:∀g,row=some g→a.heap.size≤g):Only p a w':=
 ⟨h.low.grown hg (Nat.le_trans hp h.low.size) (fun g e=>Nat.le_trans hp (hr g e)),fun j h1 h2=>by
  rw[hg.block j (Nat.lt_of_lt_of_le h2 h.low.size) (fun e=>by have:=hr j e.symm;omega)];exact h.high j h1 h2⟩
end Go.Proofs.YtjfnleilddgjiaaGreat
namespace Go.Proofs.YtjfnleilddgjiaaGreat
open Go.RowKit
def NumsIn (B:Nat) (w:World) (a:Option Addr) (zs:List Int):Prop:=∀j,j<zs.length→∃b o:Nat,a=some ⟨b,o,none⟩∧b<B∧w.cell? ⟨b,o+j,none⟩=some (.int .i64 (zs.getD j 0))
theorem NumsIn.below {B:Nat} {w w':World} {a:Option Addr} {zs:List Int} (h:NumsIn B w a zs) (hb:Below B w w'):NumsIn B w' a zs:=fun j hj=>by
 obtain⟨b,o,h1,h2,h3⟩:=h j hj
 exact⟨b,o,h1,h2,by rw[hb.cell (p:=⟨b,o+j,none⟩) h2];exact h3⟩
theorem NumsIn.mono {B B':Nat} {w:World} {a:Option Addr} {zs:List Int} (h:NumsIn B w a zs) (hB:B≤B'):NumsIn B' w a zs:=fun j hj=>by
 obtain⟨b,o,h1,h2,h3⟩:=h j hj
 exact⟨b,o,h1,by omega,h3⟩
theorem NumsIn.of_ints {B:Nat} {w:World} {a:Option Addr} {zs:List Int} (h:IntsIn w a zs) (ha:∀p,a=some p→p.block<B):NumsIn B w a zs:=fun j hj=>by
 obtain⟨b,o,h1,h2⟩:=h j _ (List.getElem?_eq_getElem hj)
 refine⟨b,o,h1,ha ⟨b,o,none⟩ h1,?_⟩
 rw[List.getD_eq_getElem?_getD,List.getElem?_eq_getElem hj]
 exact h2
theorem NumsIn.grown {B:Nat} {w w':World} {row:Option Nat} {a:Option Addr} {zs:List Int} (h:NumsIn B w a zs) (hg:w.grownBy w' row) (hB:B≤w.heap.size) (hr:∀g,row=some g→B≤g):NumsIn B w' a zs:=fun j hj=>by
 obtain⟨b,o,h1,h2,h3⟩:=h j hj
 exact⟨b,o,h1,h2,by rw[World.cell?_of_block (w:=w) (a:=⟨b,o+j,none⟩) (hg.block b (by omega) (fun e=>by have:=hr b e.symm;omega))];exact h3⟩
theorem NumsIn.ints {B:Nat} {w:World} {a:Option Addr} {zs:List Int} (h:NumsIn B w a zs):IntsIn w a zs:=fun j x hx=>by
 have hj:j<zs.length:=(List.getElem?_eq_some_iff.1 hx).1
 obtain⟨b,o,h1,_,h3⟩:=h j hj
 refine⟨b,o,h1,?_⟩
 rw[h3,List.getD_eq_getElem?_getD,hx];rfl
theorem OwnInts.grown {lo:Nat} {w w':World} {v:Value} {xs:List Int} {row:Option Nat} (h:OwnInts lo w v xs) (hg:w.grownBy w' row) (hne:∀g,v.ownBlock=some g→row≠some g):OwnInts lo w' v xs:=
 World.ownsRow.kept h hg (by
  cases hv:v.ownBlock with
  | none=>exact .inl rfl
  | some g=>exact .inr (fun e=>hne g hv e.symm))
theorem NumsIn.same {n:Nat} {w w':World} {a:Option Addr} {L:List Int} (h:NumsIn n w a L) (hk:∀k,k<n→w'.heap[k]? = w.heap[k]?):NumsIn n w' a L:=fun j hj=>by
 obtain⟨b,o,e1,h2,h3⟩:=h j hj
 exact⟨b,o,e1,h2,by rw[World.cell?_of_block (w:=w) (a:=⟨b,o+j,none⟩) (hk b h2)];exact h3⟩
theorem NumsIn.drewN {B:Nat} {w:World} {a:Option Addr} {zs:List Int} (h:NumsIn B w a zs) (d:Nat):NumsIn B (w.drewN d) a zs:=h
def CopiedI (B g n k:Nat) (wr:World) (xs:List Int):Prop:=
 ∃L:List Value,wr.ownsRow B 3 1 (.slice (some ⟨g,0,none⟩) n n) n L∧∀j,j<k→L[j]? = some (.int .i64 (xs.getD j 0))
theorem copiedI_next {B g n k:Nat} {wr:World} {xs:List Int} (h:CopiedI B g n k wr xs) (hk:k<n):CopiedI B g n (k+1) (wr.setCell ⟨g,k,none⟩ (.int .i64 (xs.getD k 0))) xs:=by
 obtain⟨L,h1,h2⟩:=h
 have hl:L.length=n:=by have:=h1.1;omega
 refine⟨L.set k (.int .i64 (xs.getD k 0)),(h1.stored k _).1,fun j hj=>?_⟩
 by_cases e:j=k
 ·subst e
  rw[List.getElem?_set_self (by omega)]
 ·rw[List.getElem?_set_ne (fun h=>e h.symm)]
  exact h2 j (by omega)
theorem laws_toIntS (B:Nat) (a:Option Addr) (cap:Nat) (xs:List Int) (hl:xs.length≤1048576) (w:World) (hBw:B≤w.heap.size) (hz:NumsIn B w a xs) :
  Calls Tryz.prog 50 #[.slice a xs.length cap] w (MakesInts xs w):=by
 have Hz:=zH (hz.mono hBw)
 obtain⟨i0,hi,hz0,hz1,hz2⟩:=info_parts info_int
 have HI:=zH hi
 have HZ0:=zH hz0
 have HZ1:=zH hz1
 have hby:i0.bytes*xs.length≤281474976710656:=by rw[hz2];omega
 have Hby:=zH hby
 clear hz hi hz0 hz1 hz2 hby
 go_enter Tryz.func50,Tryz.ntmps50
 go_wp2_with (refine wpList_make_full _ rfl _ _ 22 rfl w.heap.size 3 i0 (.int .i64 0) 1 Tryz.underlying22 HI.out HZ0.out HZ1.out _ _ _ _ xs.length rfl rfl rfl rfl Hby.out ?c1 (Nat.le_refl _) ?_)
 case c1=>unfold maxLen;omega
 intro w1 hown hgrow
 have Hown:Hid (CopiedI w.heap.size w.heap.size xs.length 0 w1 xs):=⟨_,hown,fun j hj=>absurd hj (by omega)⟩
 have Hb1:=zH ((Below.refl w.heap.size w).grown hgrow (Nat.le_refl _) (fun k hk=>by cases hk))
 have hlt1:w.heap.size<w1.heap.size:=(hown.lt _ rfl).2
 clear hown hgrow
 go_wp2_with fail
 go_loopw [4] (fun i wr=>∃k:Nat,k≤xs.length∧i=.int .i64 k∧w.heap.size<wr.heap.size∧Hid (CopiedI w.heap.size w.heap.size xs.length k wr xs)∧Hid (Below w.heap.size w wr)) (fun i _=>xs.length-(intOf i).toNat)
 case atStart=>exact⟨0,Nat.zero_le _,rfl,hlt1,Hown,Hb1⟩
 case round=>
  obtain⟨k,hk,rfl,hgl,hC,hB⟩:=hrel
  by_cases hlt:k<xs.length
  ·obtain⟨b,o,rfl,hbB,hcell⟩:=(Hz.out.below hB.out) k hlt
   have HC2:=zH (copiedI_next hC.out hlt)
   have hgc:∃v,wr.cell? ⟨w.heap.size,k,none⟩=some v:=by
    obtain⟨L,h1,_⟩:=hC.out
    have hl2:=h1.1
    exact⟨L[k],by rw[h1.cellAt k (by omega),List.getElem?_eq_getElem (by omega)]⟩
   obtain⟨v,hv⟩:=hgc
   have hf:wr.frozen? ⟨w.heap.size,k,none⟩=false:=by
    obtain⟨L,h1,_⟩:=hC.out
    exact h1.frozenAt k
   have HB2:=zH (hB.out.setCell (p:=⟨w.heap.size,k,none⟩) (Nat.le_refl _) (.int .i64 (xs.getD k 0)))
   generalize xs.getD k 0=x at *
   go_wp2_with fail
   go_roundw
   case rel=>exact⟨k+1,by omega,by go_num,by simp;omega,HC2,HB2⟩
   case measure=>simp[intOf];omega
  ·have he:k=xs.length:=by omega
   have Hc:Hid (OwnInts w.heap.size wr (.slice (some ⟨w.heap.size,0,none⟩) xs.length xs.length) xs):=by
    obtain⟨L,h1,h2⟩:=hC.out
    have hll:=h1.1
    have e:L=xs.map (Value.int .i64):=by
     apply List.ext_getElem? fun j=>?_
     rcases Nat.lt_or_ge j xs.length with hj|hj
     ·rw[h2 j (by omega),List.getElem?_map,List.getElem?_eq_getElem hj,List.getD_eq_getElem?_getD,List.getElem?_eq_getElem hj];rfl
     ·rw[List.getElem?_eq_none (by omega),List.getElem?_eq_none (by simpa using hj)]
    subst e
    exact h1
   clear he
   go_wp2_with fail
   go_ret
   exact⟨_,rfl,Hc.out,hB.out⟩
end Go.Proofs.YtjfnleilddgjiaaGreat
