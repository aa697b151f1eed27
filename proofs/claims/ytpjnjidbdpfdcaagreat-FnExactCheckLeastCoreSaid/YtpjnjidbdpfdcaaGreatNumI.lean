/- Slices of ints that are read; laws.toIntS: a list of ints copied. -/
import Derived.Test.YtpjnjidbdpfdcaaGreatGB
import Derived.Test.YtpjnjidbdpfdcaaGreatHIntsLaw
import Derived.Test.YtpjnjidbdpfdcaaGreatHIntsLaw
import Derived.Laws.AppendOwn
namespace Go.Proofs.YtpjnjidbdpfdcaaGreat
open Go.RowKit
def Zal (B:Nat) (w:World) (a:Option Addr) (zs:List Int):Prop:=∀j,j<zs.length->∃b o:Nat,a=some ⟨b,o,none⟩/\b<B/\w.cell? ⟨b,o+j,none⟩=some (.int .i64 (zs.getD j 0))
theorem Zal.below {B:Nat} {w w':World} {a:Option Addr} {zs:List Int} (h:Zal B w a zs) (hb:Below B w w'):Zal B w' a zs:=fun j hj=>by
 obtain⟨b,o,h1,h2,h3⟩:=h j hj;exact⟨b,o,h1,h2,by rw[hb.cell (p:=⟨b,o+j,none⟩) h2];exact h3⟩
theorem Zal.mono {B B':Nat} {w:World} {a:Option Addr} {zs:List Int} (h:Zal B w a zs) (hB:B≤B'):Zal B' w a zs:=fun j hj=>by
 obtain⟨b,o,h1,h2,h3⟩:=h j hj;exact⟨b,o,h1,by omega,h3⟩
theorem Zal.Zdl {B:Nat} {w:World} {a:Option Addr} {zs:List Int} (h:IntsIn w a zs) (ha:∀p,a=some p->p.block<B):Zal B w a zs:=fun j hj=>by
 obtain⟨b,o,h1,h2⟩:=h j _ (List.getElem?_eq_getElem hj);refine⟨b,o,h1,ha ⟨b,o,none⟩ h1,?_⟩;rw[List.getD_eq_getElem?_getD,List.getElem?_eq_getElem hj];exact h2
theorem Zal.grown {B:Nat} {w w':World} {row:Option Nat} {a:Option Addr} {zs:List Int} (h:Zal B w a zs) (hg:w.grownBy w' row) (hB:B≤w.heap.size) (hr:∀g,row=some g->B≤g):Zal B w' a zs:=fun j hj=>by
 obtain⟨b,o,h1,h2,h3⟩:=h j hj;exact⟨b,o,h1,h2,by rw[World.cell?_of_block (w:=w) (a:=⟨b,o+j,none⟩) (hg.block b (by omega) (fun e=>by have:=hr b e.symm;omega))];exact h3⟩
theorem Zal.ints {B:Nat} {w:World} {a:Option Addr} {zs:List Int} (h:Zal B w a zs):IntsIn w a zs:=fun j x hx=>by
 have hj:j<zs.length:=(List.getElem?_eq_some_iff.1 hx).1;obtain⟨b,o,h1,_,h3⟩:=h j hj;refine⟨b,o,h1,?_⟩;rw[h3,List.getD_eq_getElem?_getD,hx];rfl
theorem Zab.grown {lo:Nat} {w w':World} {v:Value} {xs:List Int} {row:Option Nat} (h:Zab lo w v xs) (hg:w.grownBy w' row) (hne:∀g,v.ownBlock=some g->row≠some g):Zab lo w' v xs:=
 World.ownsRow.kept h hg (by
  cases hv:v.ownBlock with
  | none=>exact .inl rfl
  | some g=>exact .inr (fun e=>hne g hv e.symm))
theorem Zal.same {n:Nat} {w w':World} {a:Option Addr} {L:List Int} (h:Zal n w a L) (hk:∀k,k<n->w'.heap[k]? = w.heap[k]?):Zal n w' a L:=fun j hj=>by
 obtain⟨b,o,e1,h2,h3⟩:=h j hj;exact⟨b,o,e1,h2,by rw[World.cell?_of_block (w:=w) (a:=⟨b,o+j,none⟩) (hk b h2)];exact h3⟩
theorem Zal.drewN {B:Nat} {w:World} {a:Option Addr} {zs:List Int} (h:Zal B w a zs) (d:Nat):Zal B (w.drewN d) a zs:=h
def Zgs (B g n k:Nat) (wr:World) (xs:List Int):Prop:=
 ∃L:List Value,wr.ownsRow B 3 1 (.slice (some ⟨g,0,none⟩) n n) n L/\∀j,j<k->L[j]? = some (.int .i64 (xs.getD j 0))
theorem Zhn {B g n k:Nat} {wr:World} {xs:List Int} (h:Zgs B g n k wr xs) (hk:k<n):Zgs B g n (k+1) (wr.setCell ⟨g,k,none⟩ (.int .i64 (xs.getD k 0))) xs:=by
 obtain⟨L,h1,h2⟩:=h;have hl:L.length=n:=by have:=h1.1;omega
 refine⟨L.set k (.int .i64 (xs.getD k 0)),(h1.stored k _).1,fun j hj=>?_⟩
 by_cases e:j=k
 ·subst e
  rw[List.getElem?_set_self (by omega)]
 ·rw[List.getElem?_set_ne (fun h=>e h.symm)]
  exact h2 j (by omega)
set_option maxRecDepth 100000 in
set_option maxHeartbeats 1000000 in
theorem Zi4 (B:Nat) (a:Option Addr) (cap:Nat) (xs:List Int) (hl:xs.length≤1048576) (w:World) (hBw:B≤w.heap.size) (hz:Zal B w a xs) :
  Calls Tryz.prog 19 #[.slice a xs.length cap] w (Ze7 xs w):=by
 have Hz:=zH (hz.mono hBw);obtain⟨i0,hi,hz0,hz1,hz2⟩:=info_parts Zb9;have HI:=zH hi;have HZ0:=zH hz0;have HZ1:=zH hz1;have hby:i0.bytes*xs.length≤281474976710656:=by rw[hz2];omega
 have Hby:=zH hby;clear hz hi hz0 hz1 hz2 hby
 go_enter Tryz.func19,Tryz.ntmps19
 go_wp2_with (refine wpList_make_full _ rfl _ _ 22 rfl w.heap.size 3 i0 (.int .i64 0) 1 Tryz.underlying22 HI.out HZ0.out HZ1.out _ _ _ _ xs.length rfl rfl rfl rfl Hby.out ?c1 (Nat.le_refl _) ?_)
 case c1=>unfold maxLen;omega
 intro w1 hown hgrow;have Hown:Hid (Zgs w.heap.size w.heap.size xs.length 0 w1 xs):=⟨_,hown,fun j hj=>absurd hj (by omega)⟩;have Hb1:=zH ((Below.refl w.heap.size w).grown hgrow (Nat.le_refl _) (fun k hk=>by cases hk));have hlt1:w.heap.size<w1.heap.size:=(hown.lt _ rfl).2;clear hown hgrow
 go_wp2_with fail
 go_loopw [4] (fun i wr=>∃k:Nat,k≤xs.length/\i=.int .i64 k/\w.heap.size<wr.heap.size/\Hid (Zgs w.heap.size w.heap.size xs.length k wr xs)/\Hid (Below w.heap.size w wr)) (fun i _=>xs.length-(intOf i).toNat)
 case atStart=>exact⟨0,Nat.zero_le _,rfl,hlt1,Hown,Hb1⟩
 case round=>
  obtain⟨k,hk,rfl,hgl,hC,hB⟩:=hrel
  by_cases hlt:k<xs.length
  ·obtain⟨b,o,rfl,hbB,hcell⟩:=(Hz.out.below hB.out) k hlt
   have HC2:=zH (Zhn hC.out hlt);have hgc:∃v,wr.cell? ⟨w.heap.size,k,none⟩=some v:=by
    obtain⟨L,h1,_⟩:=hC.out;have hl2:=h1.1;exact⟨L[k],by rw[h1.cellAt k (by omega),List.getElem?_eq_getElem (by omega)]⟩
   obtain⟨v,hv⟩:=hgc;have hf:wr.frozen? ⟨w.heap.size,k,none⟩=false:=by
    obtain⟨L,h1,_⟩:=hC.out;exact h1.frozenAt k
   have HB2:=zH (hB.out.setCell (p:=⟨w.heap.size,k,none⟩) (Nat.le_refl _) (.int .i64 (xs.getD k 0)));generalize xs.getD k 0=x at *
   go_wp2_with fail
   go_roundw
   case rel=>exact⟨k+1,by omega,by go_num,by simp;omega,HC2,HB2⟩
   case measure=>simp[intOf];omega
  ·have he:k=xs.length:=by omega
   have Hc:Hid (Zab w.heap.size wr (.slice (some ⟨w.heap.size,0,none⟩) xs.length xs.length) xs):=by
    obtain⟨L,h1,h2⟩:=hC.out;have hll:=h1.1;have e:L=xs.map (Value.int .i64):=by
     apply List.ext_getElem? fun j=>?_
     rcases Nat.lt_or_ge j xs.length with hj|hj
     ·rw[h2 j (by omega),List.getElem?_map,List.getElem?_eq_getElem hj,List.getD_eq_getElem?_getD,List.getElem?_eq_getElem hj];rfl
     ·rw[List.getElem?_eq_none (by omega),List.getElem?_eq_none (by simpa using hj)]
    subst e;exact h1
   clear he
   go_wp2_with fail
   go_ret;exact⟨_,rfl,Hc.out,hB.out⟩
end Go.Proofs.YtpjnjidbdpfdcaaGreat
