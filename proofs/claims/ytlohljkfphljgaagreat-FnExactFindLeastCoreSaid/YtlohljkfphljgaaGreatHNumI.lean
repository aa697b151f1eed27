/- The parts IntsLaw, Row, CoM2, NumI. -/
import Derived.Test.YtlohljkfphljgaaGreatGB
import Derived.Test.YtlohljkfphljgaaGreatCoA
import Derived.Test.YtlohljkfphljgaaGreatRows
import Derived.ProofKit
import Derived.OpenShut
import Derived.Test.YtlohljkfphljgaaGreatGM
import Derived.Laws.AppendOwn
set_option maxRecDepth 100000
set_option maxHeartbeats 1000000
namespace Go.Proofs.YtlohljkfphljgaaGreat
open Go.RowKit
def Z1v (w:World) (e:Ending) (w':World):Prop:=e=.returned (.bool true)/\∃d,w'=w.drewN d
theorem Zrg (a1 a2:Option Addr) (c1 c2:Nat) (xs:List Int) (hn:xs.length≤1099511627776) (w:World) (h1:IntsIn w a1 xs) (h2:IntsIn w a2 xs) :
  Calls Tryz.prog 123 #[.slice a1 xs.length c1,.slice a2 xs.length c2] w (Z1v w):=by
 have H1:=zH h1;have H2:=zH h2;clear h1 h2
 go_enter Tryz.func123,Tryz.ntmps123
 go_wp2_with fail
 go_loopw [5] (fun i wr=>∃k:Nat,k≤xs.length/\i=.int .i64 k/\Hid (∃d,wr=w.drewN d)) (fun i _=>xs.length-(intOf i).toNat)
 case atStart=>exact⟨0,Nat.zero_le _,rfl,⟨0,rfl⟩⟩
 case round=>
  obtain⟨k,hk,rfl,hD⟩:=hrel
  by_cases hlt:k<xs.length
  ·have g1:IntsIn wr a1 xs:=by obtain⟨d,rfl⟩:=hD.out;exact H1.out
   have g2:IntsIn wr a2 xs:=by obtain⟨d,rfl⟩:=hD.out;exact H2.out
   obtain⟨b1,o1,rfl,g1⟩:=g1.at k hlt;obtain⟨b2,o2,rfl,g2⟩:=g2.at k hlt
   go_wp2_with fail
   go_quiet (fail)
   go_wp2_with fail
   go_roundw
   case rel=>exact⟨k+1,by omega,by go_num,by obtain⟨d,rfl⟩:=hD.out;exact⟨d+nq,by simp[Nat.add_comm]⟩⟩
   case measure=>simp[intOf];omega
  ·go_wp2_with fail
   go_ret;exact⟨rfl,hD⟩
def Zc2 (k n:Nat):List Int:=(List.range n).map fun j=>((k+j:Nat):Int)
theorem Zes (k n:Nat):(Zc2 k n).length=n:=by simp[Zc2]
theorem Zt6 (k j:Nat) (xs:List Int) (hj:j<xs.length):(Zc2 k j++xs.drop j).set j ((k+j:Nat):Int)=Zc2 k (j+1)++xs.drop (j+1):=by
 have hl:=Zes k j;rw[List.set_append_right _ _ (by omega),hl,Nat.sub_self,List.drop_eq_getElem_cons hj];have e:Zc2 k (j+1)=Zc2 k j++[((k+j:Nat):Int)]:=by unfold Zc2;rw[List.range_succ,List.map_append];rfl
 rw[e];simp only[List.set_cons_zero,List.append_assoc,List.cons_append,List.nil_append]
theorem Zt5 (k:Nat) (xs:List Int):Zc2 k xs.length++xs.drop xs.length=Zc2 k xs.length:=by simp
def Zup (B k:Nat) (v:Value) (n:Nat) (w:World) (e:Ending) (w':World):Prop:=
 e=.returned (.int .i64 ((k:Int)+n))/\Zad B w' v (Zc2 k n)/\w.grownBy w' v.ownBlock
theorem Zwf {B g cap:Nat} {w:World} {xs:List Int} (h:Zad B w (.slice (some ⟨g,0,none⟩) xs.length cap) xs) (j:Nat) (x:Int):Zad B (w.setCell ⟨g,j,none⟩ (.int .i64 x)) (.slice (some ⟨g,0,none⟩) (xs.set j x).length cap) (xs.set j x):=by
 have:=World.ownsRow.stored h j (.int .i64 x);unfold Zad;rw[List.length_set,List.map_set];exact this.1
theorem Zgl {w a:World} {g:Nat} (h:w.grownBy a (some g)) (j:Nat) (u:Value):w.grownBy (a.setCell ⟨g,j,none⟩ u) (some g):=
 ⟨h.os,h.tape,h.output,by have:=h.size;simp;omega,fun k hk hne=>by
  rw[Below.heap_setCell _ _ _ _ (show k≠g from fun e=>hne (by rw[e]))];exact h.block k hk hne⟩
def Z36 (k:IntKind) (B:Nat) (w:World) (a:Option Addr) (len:Nat) (zs:List Int):Prop:=
 len≤9223372036854775807/\zs.length=len/\∀i,i<len->∃b o:Nat,a=some ⟨b,o,none⟩/\b<B/\w.cell? ⟨b,o+i,none⟩=some (.int k (zs.getD i 0))/\(Lit.int k (zs.getD i 0)).wf=true
end Go.Proofs.YtlohljkfphljgaaGreat
namespace Go.Proofs.YtlohljkfphljgaaGreat.Co
def mem (s:Int):Nat->List Int
 | 0=>[]
 | k+1=>if has s k then mem s k++[(k:Int)] else mem s k
def Z3o:List Int->Prop
 | []=>True
 | [_]=>True
 | x::y::r=>x<y/\Z3o (y::r)
def letter (k:Int):UInt8:=UInt8.ofNat (97+k.toNat)
def lets (s:Int) (k:Nat):List UInt8:=(mem s k).map letter
def text (s:Int):ByteArray:=if good s then (if s=0 then ⟨#[45]⟩ else ⟨(lets s 5).toArray⟩) else ⟨#[]⟩
def find (t:ByteArray):Nat->Option Nat
 | 0=>none
 | n+1=>match find t n with
  | some m=>some m
  | none=>if text (n:Int)=t then some n else none
end Go.Proofs.YtlohljkfphljgaaGreat.Co
namespace Go.Proofs.YtlohljkfphljgaaGreat
open Go.RowKit
def Zat (B:Nat) (w:World) (a:Option Addr) (zs:List Int):Prop:=∀j,j<zs.length->∃b o:Nat,a=some ⟨b,o,none⟩/\b<B/\w.cell? ⟨b,o+j,none⟩=some (.int .i64 (zs.getD j 0))
theorem Zat.below {B:Nat} {w w':World} {a:Option Addr} {zs:List Int} (h:Zat B w a zs) (hb:Below B w w'):Zat B w' a zs:=fun j hj=>by
 obtain⟨b,o,h1,h2,h3⟩:=h j hj;exact⟨b,o,h1,h2,by rw[hb.cell (p:=⟨b,o+j,none⟩) h2];exact h3⟩
theorem Zat.mono {B B':Nat} {w:World} {a:Option Addr} {zs:List Int} (h:Zat B w a zs) (hB:B≤B'):Zat B' w a zs:=fun j hj=>by
 obtain⟨b,o,h1,h2,h3⟩:=h j hj;exact⟨b,o,h1,by omega,h3⟩
theorem Zat.Zcb {B:Nat} {w:World} {a:Option Addr} {zs:List Int} (h:IntsIn w a zs) (ha:∀p,a=some p->p.block<B):Zat B w a zs:=fun j hj=>by
 obtain⟨b,o,h1,h2⟩:=h j _ (List.getElem?_eq_getElem hj);refine⟨b,o,h1,ha ⟨b,o,none⟩ h1,?_⟩;rw[List.getD_eq_getElem?_getD,List.getElem?_eq_getElem hj];exact h2
theorem Zat.grown {B:Nat} {w w':World} {row:Option Nat} {a:Option Addr} {zs:List Int} (h:Zat B w a zs) (hg:w.grownBy w' row) (hB:B≤w.heap.size) (hr:∀g,row=some g->B≤g):Zat B w' a zs:=fun j hj=>by
 obtain⟨b,o,h1,h2,h3⟩:=h j hj;exact⟨b,o,h1,h2,by rw[World.cell?_of_block (w:=w) (a:=⟨b,o+j,none⟩) (hg.block b (by omega) (fun e=>by have:=hr b e.symm;omega))];exact h3⟩
theorem Zat.ints {B:Nat} {w:World} {a:Option Addr} {zs:List Int} (h:Zat B w a zs):IntsIn w a zs:=fun j x hx=>by
 have hj:j<zs.length:=(List.getElem?_eq_some_iff.1 hx).1;obtain⟨b,o,h1,_,h3⟩:=h j hj;refine⟨b,o,h1,?_⟩;rw[h3,List.getD_eq_getElem?_getD,hx];rfl
theorem Zad.grown {lo:Nat} {w w':World} {v:Value} {xs:List Int} {row:Option Nat} (h:Zad lo w v xs) (hg:w.grownBy w' row) (hne:∀g,v.ownBlock=some g->row≠some g):Zad lo w' v xs:=
 World.ownsRow.kept h hg (by
  cases hv:v.ownBlock with
  | none=>exact .inl rfl
  | some g=>exact .inr (fun e=>hne g hv e.symm))
theorem Zat.same {n:Nat} {w w':World} {a:Option Addr} {L:List Int} (h:Zat n w a L) (hk:∀k,k<n->w'.heap[k]? = w.heap[k]?):Zat n w' a L:=fun j hj=>by
 obtain⟨b,o,e1,h2,h3⟩:=h j hj;exact⟨b,o,e1,h2,by rw[World.cell?_of_block (w:=w) (a:=⟨b,o+j,none⟩) (hk b h2)];exact h3⟩
theorem Zat.drewN {B:Nat} {w:World} {a:Option Addr} {zs:List Int} (h:Zat B w a zs) (d:Nat):Zat B (w.drewN d) a zs:=h
def Znj (B g n k:Nat) (wr:World) (xs:List Int):Prop:=
 ∃L:List Value,wr.ownsRow B 3 1 (.slice (some ⟨g,0,none⟩) n n) n L/\∀j,j<k->L[j]? = some (.int .i64 (xs.getD j 0))
theorem Zo5 {B g n k:Nat} {wr:World} {xs:List Int} (h:Znj B g n k wr xs) (hk:k<n):Znj B g n (k+1) (wr.setCell ⟨g,k,none⟩ (.int .i64 (xs.getD k 0))) xs:=by
 obtain⟨L,h1,h2⟩:=h;have hl:L.length=n:=by have:=h1.1;omega
 refine⟨L.set k (.int .i64 (xs.getD k 0)),(h1.stored k _).1,fun j hj=>?_⟩
 by_cases e:j=k
 ·subst e
  rw[List.getElem?_set_self (by omega)]
 ·rw[List.getElem?_set_ne (fun h=>e h.symm)]
  exact h2 j (by omega)
theorem Zri (B:Nat) (a:Option Addr) (cap:Nat) (xs:List Int) (hl:xs.length≤1048576) (w:World) (hBw:B≤w.heap.size) (hz:Zat B w a xs) :
  Calls Tryz.prog 120 #[.slice a xs.length cap] w (Zke xs w):=by
 have Hz:=zH (hz.mono hBw);obtain⟨i0,hi,hz0,hz1,hz2⟩:=info_parts Zdc;have HI:=zH hi;have HZ0:=zH hz0;have HZ1:=zH hz1;have hby:i0.bytes*xs.length≤281474976710656:=by rw[hz2];omega
 have Hby:=zH hby;clear hz hi hz0 hz1 hz2 hby
 go_enter Tryz.func120,Tryz.ntmps120
 go_wp2_with (refine wpList_make_full _ rfl _ _ 25 rfl w.heap.size 3 i0 (.int .i64 0) 1 Tryz.underlying25 HI.out HZ0.out HZ1.out _ _ _ _ xs.length rfl rfl rfl rfl Hby.out ?c1 (Nat.le_refl _) ?_)
 case c1=>unfold maxLen;omega
 intro w1 hown hgrow;have Hown:Hid (Znj w.heap.size w.heap.size xs.length 0 w1 xs):=⟨_,hown,fun j hj=>absurd hj (by omega)⟩;have Hb1:=zH ((Below.refl w.heap.size w).grown hgrow (Nat.le_refl _) (fun k hk=>by cases hk));have hlt1:w.heap.size<w1.heap.size:=(hown.lt _ rfl).2;clear hown hgrow
 go_wp2_with fail
 go_loopw [4] (fun i wr=>∃k:Nat,k≤xs.length/\i=.int .i64 k/\w.heap.size<wr.heap.size/\Hid (Znj w.heap.size w.heap.size xs.length k wr xs)/\Hid (Below w.heap.size w wr)) (fun i _=>xs.length-(intOf i).toNat)
 case atStart=>exact⟨0,Nat.zero_le _,rfl,hlt1,Hown,Hb1⟩
 case round=>
  obtain⟨k,hk,rfl,hgl,hC,hB⟩:=hrel
  by_cases hlt:k<xs.length
  ·obtain⟨b,o,rfl,hbB,hcell⟩:=(Hz.out.below hB.out) k hlt
   have HC2:=zH (Zo5 hC.out hlt);have hgc:∃v,wr.cell? ⟨w.heap.size,k,none⟩=some v:=by
    obtain⟨L,h1,_⟩:=hC.out;have hl2:=h1.1;exact⟨L[k],by rw[h1.cellAt k (by omega),List.getElem?_eq_getElem (by omega)]⟩
   obtain⟨v,hv⟩:=hgc;have hf:wr.frozen? ⟨w.heap.size,k,none⟩=false:=by
    obtain⟨L,h1,_⟩:=hC.out;exact h1.frozenAt k
   have HB2:=zH (hB.out.setCell (p:=⟨w.heap.size,k,none⟩) (Nat.le_refl _) (.int .i64 (xs.getD k 0)));generalize xs.getD k 0=x at *
   go_wp2_with fail
   go_roundw
   case rel=>exact⟨k+1,by omega,by go_num,by simp;omega,HC2,HB2⟩
   case measure=>simp[intOf];omega
  ·have he:k=xs.length:=by omega
   have Hc:Hid (Zad w.heap.size wr (.slice (some ⟨w.heap.size,0,none⟩) xs.length xs.length) xs):=by
    obtain⟨L,h1,h2⟩:=hC.out;have hll:=h1.1;have e:L=xs.map (Value.int .i64):=by
     apply List.ext_getElem? fun j=>?_
     rcases Nat.lt_or_ge j xs.length with hj|hj
     ·rw[h2 j (by omega),List.getElem?_map,List.getElem?_eq_getElem hj,List.getD_eq_getElem?_getD,List.getElem?_eq_getElem hj];rfl
     ·rw[List.getElem?_eq_none (by omega),List.getElem?_eq_none (by simpa using hj)]
    subst e;exact h1
   clear he
   go_wp2_with fail
   go_ret;exact⟨_,rfl,Hc.out,hB.out⟩
end Go.Proofs.YtlohljkfphljgaaGreat
