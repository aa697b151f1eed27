/- The parts TaG, TaKm, TaJ, TaQ, TaH. -/
import Derived.Test.YtlohljkfphljgaaGreatGTa
import Derived.Test.YtlohljkfphljgaaGreatGB
import Derived.Laws.BitsLemmas
import Derived.Lib.AppendZeros
import Derived.Test.YtlohljkfphljgaaGreatGTo
import Derived.Lib.SliceRun
import Derived.Test.YtlohljkfphljgaaGreatGVb
import Derived.Test.YtlohljkfphljgaaGreatGLb
import Derived.StillTailTactics
set_option maxRecDepth 100000
set_option maxHeartbeats 4000000
namespace Go.Proofs.YtlohljkfphljgaaGreat
open Go.RowKit
open Ve (R)
open Ta (T)
structure Zcd (B:Nat) (w:World) (q:Nat) (a b:Option Addr) (c1 c2:Nat) (t:T):Prop where
 box:Tri w q (.slice a t.rows.length c1) (.slice b t.basis.length c2) (.int .i64 t.cols) 39
 tab:Zc4 B w a b t
theorem Zcd.drewN {B q c1 c2:Nat} {w:World} {a b:Option Addr} {t:T} (h:Zcd B w q a b c1 c2 t) (d:Nat):Zcd B (w.drewN d) q a b c1 c2 t:=⟨h.box,h.tab.drewN d⟩
theorem Zcd.below {B q c1 c2:Nat} {w w':World} {a b:Option Addr} {t:T} (h:Zcd B w q a b c1 c2 t) (hB:B≤w.heap.size) (hb:Below w.heap.size w w'):Zcd B w' q a b c1 c2 t:=⟨h.box.below hb,h.tab.below (hb.mono hB)⟩
theorem Zcq (B q:Nat) (a b:Option Addr) (c1 c2:Nat) (t:T) (h0:0≤t.cols) (h1:t.cols≤1000) (hn:t.rows.length≤1048576) (w:World) (h:Zcd B w q a b c1 c2 t) :
  Calls Tryz.prog 151 #[.pointer (some ⟨q,0,none⟩)] w fun e w'=>e=.returned (.int .i64 (t.cols+t.rows.length))/\∃d,w'=w.drewN d:=by
 obtain⟨x0,x1,x2,_⟩:=h.box.cells;clear h;have hs:IntKind.i64.wrap (t.cols+(t.rows.length:Int))=t.cols+(t.rows.length:Int):=IntWalk.i64_in _ (by omega)
 go_enter Tryz.func151,Tryz.ntmps151
 go_wp2_with fail
 go_quiet (fail)
 go_wp2_with fail
 go_ret;exact⟨rfl,_,rfl⟩
theorem Zd5 (B q:Nat) (a b:Option Addr) (c1 c2:Nat) (t:T) (h0:0≤t.cols) (h1:t.cols≤1000) (hn:t.rows.length≤1048576) (j:Int) (g:Bool) (hg:decide (0≤j/\j≤t.cols+t.rows.length-1)=g) (w:World) (h:Zcd B w q a b c1 c2 t) :
  Calls Tryz.prog 73 #[.pointer (some ⟨q,0,none⟩),.int .i64 j] w fun e w'=>e=.returned (.bool g)/\∃d,w'=w.drewN d:=by
 have H:=zH h;clear h
 by_cases hj:j≥0
 ·have hd:decide (j≥0)=true:=by rw[decide_eq_true_iff];exact hj
  have hd2:decide (j<t.cols+(t.rows.length:Int))=g:=by
   rw[<-hg]
   by_cases h:j<t.cols+(t.rows.length:Int)
   ·rw[decide_eq_true h,decide_eq_true (by omega)]
   ·rw[decide_eq_false h,decide_eq_false (by omega)]
  clear hg
  go_enter Tryz.func73,Tryz.ntmps73
  go_wp2_with fail
  refine (Zcq B q a b c1 c2 t h0 h1 hn _ H.out).mono ?_;rintro e w1 ⟨rfl,d,rfl⟩
  go_wp2_with fail
  go_ret;exact⟨rfl,d,rfl⟩
 ·have hd:decide (j≥0)=false:=by rw[decide_eq_false_iff_not];exact hj
  have Hr:=zH (show false=g by rw[<-hg];symm;rw[decide_eq_false_iff_not];omega);clear hg
  go_enter Tryz.func73,Tryz.ntmps73
  go_wp2_with fail
  go_ret;exact⟨Zae Hr.out,0,rfl⟩
theorem Zfb (B q:Nat) (a b:Option Addr) (c1 c2:Nat) (t:T) (hn:Zca t) (g:Bool) (hg:Ta.good t=g) (w:World) (h:Zcd B w q a b c1 c2 t) :
  Calls Tryz.prog 72 #[.pointer (some ⟨q,0,none⟩)] w fun e w'=>e=.returned (.bool g)/\∃d,w'=w.drewN d:=by
 obtain⟨nr,nw,nb,_⟩:=hn;have H:=zH h;have Hg:=zH hg;have HW:=zH nw;obtain⟨x0,x1,x2,_⟩:=h.box.cells;obtain⟨L,B1,C⟩:=t;simp only at nr nb x0 x1 x2;clear h hg nw
 by_cases q0:C<0
 ·have Hr:=zH (show false=g by rw[<-Hg.out];unfold Ta.good;simp only;rw[decide_eq_false (by omega:¬0≤C)];rfl)
  have hd:decide (C<0)=true:=by rw[decide_eq_true_iff];exact q0
  go_enter Tryz.func72,Tryz.ntmps72
  go_wp2_with fail
  go_quiet (fail)
  go_wp2_with fail
  go_ret;exact⟨Zae Hr.out,_,rfl⟩
 ·have hd:decide (C<0)=false:=by rw[decide_eq_false_iff_not];exact q0
  by_cases q1:C≤1000
  ·have hd1:decide (C>1000)=false:=by rw[decide_eq_false_iff_not];omega
   by_cases q2:B1.length=L.length
   ·have hd2:((B1.length:Int) != (L.length:Int))=false:=by rw[q2];simp
    have Hq2:=zH q2;clear q2
    go_enter Tryz.func72,Tryz.ntmps72
    go_wp2_with fail
    go_quiet (fail)
    go_wp2_with fail
    go_loopw [35] (fun i wr=>∃k:Nat,k≤L.length/\i=.int .i64 k/\Hid (∀j,j<k->Ta.rowOk ⟨L,B1,C⟩ j=true)/\Hid (∃d,wr=w.drewN d)) (fun i _=>L.length-(intOf i).toNat)
    case atStart=>exact⟨0,Nat.zero_le _,rfl,fun j hj=>absurd hj (by omega),_,rfl⟩
    case round=>
     clear x0 x1 x2;obtain⟨k,hk,rfl,hOk,hD⟩:=hrel;have HTr:Hid (Zcd B wr q a b c1 c2 ⟨L,B1,C⟩):=by obtain⟨d,rfl⟩:=hD.out;exact H.out.drewN d
     by_cases hlt:k<L.length
     ·obtain⟨x0,x1,x2,_⟩:=HTr.out.box.cells
      obtain⟨b1,o1,a',c',rfl,_,hcell,_⟩:=HTr.out.tab.mR k hlt;obtain⟨b2,o2,rfl,_,hbas⟩:=HTr.out.tab.mB k (by have:=Hq2.out;simp only;omega);have hkb:(k:Int)<(B1.length:Int):=by have:=Hq2.out;omega
      have hkb2:(k:Int)<(L.length:Int):=by omega
      have hrl:=HW.out k hlt;simp only at hcell hbas hrl x0 x1 x2;have Hdef:=zH (show Ta.rowOk ⟨L,B1,C⟩ k=(decide (((rr L k).length:Int)=C+L.length+1) && decide (0≤B1.getD k 0/\B1.getD k 0≤C+L.length-1)) from rfl);have Hbad:=zH (fun (h:Ta.rowOk ⟨L,B1,C⟩ k=false)=>(show false=g from (Ta.Zq5 (t:=⟨L,B1,C⟩) hlt h).symm.trans Hg.out));have Hgood:=zH (fun (h:Ta.rowOk ⟨L,B1,C⟩ k=true)=>(fun j (hj:j<k+1)=>(show Ta.rowOk ⟨L,B1,C⟩ j=true from by
       by_cases e:j=k
       ·subst e;exact h
       ·exact hOk.out j (by omega))))
      generalize B1.getD k 0=z at *;generalize (rr L k).length=m at *
      by_cases hl:(m:Int)=C+L.length+1
      ·have hne:((m:Int) != C+(L.length:Int)+1)=false:=by rw[hl];simp
       clear hl
       rcases hq:decide (0≤z/\z≤C+(L.length:Int) - 1) with _|_
       ·have Hr:=zH (Hbad.out (by rw[Hdef.out,hq];simp))
        have Hq:=zH hq;clear hq Hbad Hgood Hdef
        go_wp2_with fail
        refine (Zcq B q _ _ c1 c2 ⟨L,B1,C⟩ (by simp only;omega) q1 nr _ HTr.out).mono ?_;rintro e w1 ⟨rfl,d,rfl⟩
        go_wp2_with fail
        refine (Zd5 B q _ _ c1 c2 ⟨L,B1,C⟩ (by simp only;omega) q1 nr z false Hq.out _ (HTr.out.drewN d)).mono ?_;rintro e w1 ⟨rfl,d2,rfl⟩
        go_wp2_with fail
        go_ret;exact⟨Zae Hr.out,by obtain⟨d3,rfl⟩:=hD.out;exact⟨d3+(d+d2),by simp⟩⟩
       ·have HOk2:=zH (Hgood.out (by rw[Hdef.out,hq];simp;exact of_decide_eq_true (by revert hne;simp)))
        have Hq:=zH hq;clear hq Hbad Hgood Hdef
        go_wp2_with fail
        refine (Zcq B q _ _ c1 c2 ⟨L,B1,C⟩ (by simp only;omega) q1 nr _ HTr.out).mono ?_;rintro e w1 ⟨rfl,d,rfl⟩
        go_wp2_with fail
        refine (Zd5 B q _ _ c1 c2 ⟨L,B1,C⟩ (by simp only;omega) q1 nr z true Hq.out _ (HTr.out.drewN d)).mono ?_;rintro e w1 ⟨rfl,d2,rfl⟩
        go_wp2_with fail
        go_roundw
        case rel=>exact⟨k+1,by omega,by go_num,HOk2,by obtain⟨d3,rfl⟩:=hD.out;exact⟨d3+(d+d2),by simp⟩⟩
        case measure=>simp[intOf];omega
      ·have hne:((m:Int) != C+(L.length:Int)+1)=true:=by rw[bne,beq_eq_false_iff_ne.2 hl];rfl
       have Hr:=zH (Hbad.out (by rw[Hdef.out];simp[hl]));clear Hbad Hgood Hdef hl
       go_wp2_with fail
       refine (Zcq B q _ _ c1 c2 ⟨L,B1,C⟩ (by simp only;omega) q1 nr _ HTr.out).mono ?_;rintro e w1 ⟨rfl,d,rfl⟩
       go_wp2_with fail
       go_ret;exact⟨Zae Hr.out,by obtain⟨d3,rfl⟩:=hD.out;exact⟨d3+d,by simp[Nat.add_comm]⟩⟩
     ·have Hr:=zH (show true=g by rw[<-Hg.out];exact (Ta.Znw (t:=⟨L,B1,C⟩) (by show 0≤C;omega) q1 Hq2.out fun j hj=>hOk.out j (by simp only at hj;omega)).symm)
      go_wp2_with fail
      go_ret;exact⟨Zae Hr.out,hD.out⟩
   ·have Hr:=zH (show false=g by rw[<-Hg.out];unfold Ta.good;simp[q2])
    obtain⟨l1,l2⟩:=Zfq q2
    go_enter Tryz.func72,Tryz.ntmps72
    go_wp2_with fail
    go_quiet (fail)
    go_wp2_with fail
    go_ret;exact⟨Zae Hr.out,_,rfl⟩
  ·have hd1:decide (C>1000)=true:=by rw[decide_eq_true_iff];omega
   have Hr:=zH (show false=g by rw[<-Hg.out];unfold Ta.good;simp only;rw[decide_eq_false q1];simp)
   go_enter Tryz.func72,Tryz.ntmps72
   go_wp2_with fail
   go_quiet (fail)
   go_wp2_with fail
   go_ret;exact⟨Zae Hr.out,_,rfl⟩
theorem Zi0 (x:Int):IntKind.i64.wrap x=Ta.w64 x:=IntKind.wrap_i64 x
theorem Ta.Zku {t:T} {cost:List R} (h:Ta.Zco t cost=false):Ta.Zdm t cost = []:=by unfold Ta.Zdm;rw[h];rfl
theorem Ta.Zo7 {t:T} {cost:List R} (h:Ta.good t=false):Ta.Zco t cost=false:=by unfold Ta.Zco;rw[h];rfl
theorem Ta.Zks {t:T} {cost:List R} (h:(cost.length:Int)≠t.cols+t.rows.length):Ta.Zco t cost=false:=by unfold Ta.Zco;simp[h]
theorem Ta.Zj2 {t:T} {cost:List R} (h:Ta.good t=true) (h2:(cost.length:Int)=t.cols+t.rows.length):Ta.Zco t cost=(Ta.cr t cost t.rows.length).2:=by unfold Ta.Zco;rw[h];simp[h2]
theorem Ta.Zsa {t:T} {cost:List R} (h:Ta.Zco t cost=true):Ta.Zdm t cost=(Ta.cr t cost t.rows.length).1:=by unfold Ta.Zdm;rw[if_pos h]
theorem Zg6 {P:Program} {f:FuncId} {args:Array Value} {W wx:World} {xs:List R} {k:Bool} (hs:Since W wx) (h:Calls P f args wx (Zcw xs k wx)) :
  Calls P f args wx fun e w'=>(∃v,e=.returned (.tuple #[v,.bool k])/\Zaa W.heap.size w' v xs)/\Since W w':=h.mono fun _ _ ⟨v,he,ho,hb⟩=>⟨⟨v,he,ho.lower hs.low.size⟩,hs.trans hb⟩
theorem Zb9 (x:R) (w:World):Calls Tryz.prog 161 #[.agg #[.int .i64 x.1,.int .i64 x.2]] w fun e w'=>e=.returned (.agg #[.int .i64 (Ta.negR x).1,.int .i64 (Ta.negR x).2])/\Below w.heap.size w w':=by
 rw[show (Ta.negR x).1=Ta.w64 (-x.1) from rfl,show (Ta.negR x).2=x.2 from rfl,<-Zi0];obtain⟨y,hy⟩:∃y,IntKind.i64.wrap (-x.1)=y:=⟨_,rfl⟩;have Hy:=zH hy;rw[hy]
 go_enter Tryz.func161,Tryz.ntmps161
 go_wp2_with fail
 exact bodyPost_ret (v:=.agg #[.int .i64 y,.int .i64 x.2]) (by simp[results,Tryz.results161,go_sem]) rfl ⟨rfl,by (repeat' (first|exact Below.refl _ _|exact Nat.le_refl _|refine Below.setCell ?_ ?_ _|refine Below.alloc ?_ ?_ _|refine below_drewN ?_ _|refine Below.drew ?_ | (simp;done) | (simp;omega)))⟩
theorem Zrz (n:Nat) (hn:n≤4000000) (w:World):Calls Tryz.prog 209 #[.slice none 0 0,.int .i64 n] w fun e w'=>∃v,e=.returned v/\Zaa w.heap.size w' v []/\Below w.heap.size w w':=by
 obtain⟨i0,hi,hz0,hz1,hz2⟩:=info_parts Zeo;have hneg:decide ((n:Int)<0)=false:=by rw[decide_eq_false_iff_not];omega
 by_cases h0:n=0
 ·subst h0
  go_enter Tryz.func209,Tryz.ntmps209
  go_wp2_with fail
  go_ret;exact⟨_,rfl,Zaa.nil _ _,Below.refl _ _⟩
 ·have hpos:decide ((n:Int)>0)=true:=by rw[decide_eq_true_iff];omega
  have hrun:=fun ty=>Lib.run_append_nil_zeros (P:=Tryz.prog) w 26 3 ty 31 i0 (.agg #[.int .i64 0,.int .i64 0]) .i64 .i64 Tryz.underlying26 Tryz.underlying3 hi hz0 n (by omega) (by rw[hz1];decide) (by omega) (by rw[hz2];omega)
  have hcap:=grownCap_ge w n 0 31;have hmax:=grownCap_le_maxLen w n 0 31 (by unfold maxLen;omega);have Hown:Hid (Zaa w.heap.size (w.drew.alloc (.cells (Builtin.zeroCells (Value.agg #[.int .i64 0,.int .i64 0]).cells n++Builtin.zeroCells (Value.agg #[.int .i64 0,.int .i64 0]).cells (grownCap w n 0 31-n)) 31)) (.slice (some ⟨w.heap.size,0,none⟩) 0 (grownCap w n 0 31)) []):=by
   refine World.ownsRow_made w.drew _ _ (Nat.le_refl _) hmax ?_;rw[Array.size_append,size_zeroCells,size_zeroCells,<-Nat.add_mul,Nat.add_sub_cancel' hcap];rfl
  have Hb:=zH ((Below.refl w.heap.size w).drew.alloc (Nat.le_refl _) (.cells (Builtin.zeroCells (Value.agg #[.int .i64 0,.int .i64 0]).cells n++Builtin.zeroCells (Value.agg #[.int .i64 0,.int .i64 0]).cells (grownCap w n 0 31-n)) 31));have hRun:=zH hrun;have hcap0:(0:Int)≤(grownCap w n 0 31:Int):=by omega
  generalize grownCap w n 0 31=cap at *;clear hrun hi hz0 hz1 hz2
  go_enter Tryz.func209,Tryz.ntmps209
  go_wp2_with (at_builtin;refine Lib.wpList_append_run _ rfl (.tmp 20) (.tmp 21) 26 3 rfl _ _ rfl rfl _ _ (hRun.out _) ?_)
  go_ret;exact⟨_,rfl,Hown.out,Hb.out⟩
theorem Zk2:∀L:List (List R),L.flatten.length=Zb4 L
 | []=>rfl
 | r::L=>by simp[Zb4,Zk2 L]
theorem Zpb (L:List (List R)) (k:Nat) (h:k<L.length):(L.take (k+1)).flatten=(L.take k).flatten++rr L k:=by
 rw[List.take_add_one,Zta h];simp
theorem Zio (B:Nat) (a:Option Addr) (c:Nat) (L:List (List R)) (hl:L.length≤1048576) (hn:Zb4 L≤2000000) (w:World) (hBw:B≤w.heap.size) (h:Zdo B w a L) :
  Calls Tryz.prog 180 #[.slice a L.length c] w (Zbg L.flatten w):=by
 have H:=zH (h.mono hBw);have HL:=zH (fun k (hk:k<L.length)=>Ztt L k hk);obtain⟨X,hX⟩:∃X,L.flatten=X:=⟨_,rfl⟩;have HX:=zH hX;rw[hX];clear h hX
 go_enter Tryz.func180,Tryz.ntmps180
 go_wp2_with fail
 go_loop [3,11] (fun q i=>∃(k m:Nat),k≤L.length/\m≤2000000/\q=.int .i64 m/\i=.int .i64 k/\Hid (m=Zb4 (L.take k))) (fun _ i=>L.length-(intOf i).toNat)
 case atStart=>exact⟨0,0,Nat.zero_le _,Nat.zero_le _,rfl,rfl,(by show 0=_;simp[Zb4])⟩
 case round=>
  obtain⟨k,m,hk,hm,rfl,rfl,hq⟩:=hrel
  by_cases hlt:k<L.length
  ·obtain⟨b,o,a',c',rfl,_,hcell,_⟩:=H.out k hlt
   have ht:=Zqq L k hlt;have hle:Zb4 (L.take (k+1))≤Zb4 L:=Zoz L (k+1);have hq2:=hq.out;have hb:m+(rr L k).length≤2000000:=by omega
   have Hq3:Hid (m+(rr L k).length=Zb4 (L.take (k+1))):=by show _=_;omega
   have hneg:decide ((m:Int)+((rr L k).length:Int)<0)=false:=by rw[decide_eq_false_iff_not];omega
   have hs1:IntKind.i64.wrap ((m:Int)+((rr L k).length:Int))=(m:Int)+((rr L k).length:Int):=IntWalk.i64_in _ (by omega);clear ht hle hq2;generalize (rr L k).length=n at *
   go_wp2_with fail
   go_round
   case rel=>exact⟨k+1,m+n,by omega,hb,by go_num,by go_num,Hq3⟩
   case measure=>simp[intOf];omega
  ·have he:k=L.length:=by omega
   have Hm:Hid (m=Zb4 L):=by
    have:=hq.out;rw[he,List.take_of_length_le (Nat.le_refl _)] at this;exact this
   have HG:=zH (fun W=>Zrz m (by omega) W)
   go_wp2_with fail
   refine (HG.out _).mono ?_;rintro e w1 ⟨v,rfl,ho,hb⟩;have HO:=zH ho;have HB:=zH hb;clear ho hb HG hlt he hq
   go_wp2_with fail
   go_loopw [6,27] (fun v i wr=>∃(k:Nat) (u:Value),u=v/\k≤L.length/\i=.int .i64 k/\Hid (Zaa w.heap.size wr u (L.take k).flatten)/\Hid (Below w.heap.size w wr)) (fun _ i _=>L.length-(intOf i).toNat)
   case atStart=>exact⟨0,_,rfl,Nat.zero_le _,rfl,HO,HB⟩
   case round=>
    clear hk HO HB;obtain⟨k,u,rfl,hk,rfl,hO,hB⟩:=hrel
    by_cases hlt:k<L.length
    ·obtain⟨b,o,a',c',rfl,_,hcell,hrow⟩:=(H.out.below hB.out) k hlt
     have hlen:(L.take k).flatten.length+(rr L k).length≤4000000:=by
      rw[Zk2];have h1:Zb4 (L.take k)≤Zb4 L:=Zoz L k;have h2:=HL.out k hlt;omega
     have HR:=zH hrow;have He:=zH (Zpb L k hlt);have hsz:=hB.out.size;clear hrow;generalize (L.take k).flatten=xs at *
     go_wp2_with (at_builtin;refine Zaj rfl _ _ rfl w.heap.size _ xs rfl hO.out a' (rr L k) _ c' rfl rfl _ HR.out hlen hsz ?_)
     intro v' w3 hown hgrow;have Ho:=zH hown;have Hb:=zH (hB.out.grown hgrow hsz (fun g hg=>(World.ownsRow.lt hO.out g hg).1));rw[<-He.out] at Ho;clear hown hgrow
     go_wp2_with fail
     go_roundw
     case rel=>exact⟨k+1,_,rfl,by omega,by go_num,Ho,Hb⟩
     case measure=>simp[intOf];omega
    ·have he:k=L.length:=by omega
     have HF:Hid (Zaa w.heap.size wr u X):=by
      have:=hO.out;rw[he,List.take_of_length_le (Nat.le_refl _),HX.out] at this;exact this
     go_wp2_with fail
     go_ret;exact⟨_,rfl,HF.out,hB.out⟩
theorem Zcl {w:World} {ops:Array Oper} {rest:List Oper} {o:Oper} {a:Act} {Q:Exit->Act->World->Prop} (hg:o.guard=none) (s x:Operand)
  (hop:o.op=Op.call { callee:=Callee.builtin Builtin.append,args:=#[s,x],argTypes:=#[25,25] }) (B:Nat) (v:Value) (xs:List Int) (hs:a.eval s=v) (hown:Zad B w v xs) (ad:Option Addr) (ys:List Int) (n c:Nat) (hn:n=ys.length) (hx:a.eval x=.slice ad n c)
  (n0:Nat) (hr:Zat n0 w ad ys) (hlen:xs.length+ys.length≤4000000) (hB:B≤w.heap.size) (hK:∀v' w',Zad B w' v' (xs++ys)->w.grownBy w' v.ownBlock->wpList Tryz.prog ops Q rest (a.put o.dst v') w'):wpList Tryz.prog ops Q (o::rest) a w:=by
 subst hn;obtain⟨i0,hi,hz0,hz1,hz2⟩:=info_parts Zdc;cases ad with
 | none=>
  have h0:ys = []:=by
   cases ys with
   | nil=>rfl
   | cons y ys=>obtain⟨b,o,e,_⟩:=hr 0 (by simp);cases e
  subst h0;refine wpList_plain hg fun K hK'=>?_
  have hrun:=Zdt (P:=Tryz.prog) (w:=w) B 25 o.type 3 i0 1 Tryz.underlying25 hi v xs.length _ c hown;unfold Oper.wp;simp only[List.length_nil] at hx;simp[execOp,hop,resolve,invoke,builtin,hs,hx,hrun,Result.andThen];exact hK' _ _ (hK v w (by simpa using hown) (World.grownBy.refl _ _))
 | some q=>
  obtain⟨b,o1,sp⟩:=q;refine wpList_append_own _ hg s x 25 hop B 3 i0 (.int .i64 0) 1 8 Tryz.underlying25 hi hz0 hz1 hz2 rfl (by decide) v xs.length (xs.map (Value.int .i64)) hs hown ⟨b,o1,sp⟩ ys.length c (ys.map (Value.int .i64)) hx (by simp) ?_ (fun u hu=>ints_oneCell .i64 ys u hu) (by unfold maxLen;omega) (by omega) hB ?_
  ·intro j u hj
   have hlt:j<ys.length:=by have:=(List.getElem?_eq_some_iff.1 hj).1;simpa using this
   obtain⟨b',o',e,_⟩:=hr j hlt;have e2:sp=none:=by
    simp only[Option.some.injEq,Addr.mk.injEq] at e;exact e.2.2
   subst e2;exact Zjj hr j u hj
  ·intro v' w' h1 h2 _
   refine hK v' w' ?_ h2;unfold Zad;rw[List.length_append,List.map_append];exact h1
def Zqo (w:World) (a:Option Addr) (us:List Value):Prop:=∀j u,us[j]? = some u->∃b o:Nat,a=some ⟨b,o,none⟩/\w.cell? ⟨b,o+j,none⟩=some u/\u.oneCell'=true
theorem Ziz {w:World} {ops:Array Oper} {rest:List Oper} {o:Oper} {a:Act} {Q:Exit->Act->World->Prop} (hg:o.guard=none) (s x:Operand)
  (hop:o.op=Op.call { callee:=Callee.builtin Builtin.append,args:=#[s,x],argTypes:=#[37,37] }) (B:Nat) (v:Value) (hs:a.eval s=v) (hown:w.ownsRow B 26 1 v 0 []) (ad:Option Addr) (us:List Value) (n c:Nat) (hn:n=us.length) (hx:a.eval x=.slice ad n c)
  (hr:Zqo w ad us) (hlen:us.length≤4000000) (hB:B≤w.heap.size) (hK:∀v' w',w'.ownsRow B 26 1 v' us.length us->w.grownBy w' v.ownBlock->wpList Tryz.prog ops Q rest (a.put o.dst v') w'):wpList Tryz.prog ops Q (o::rest) a w:=by
 subst hn;obtain⟨i0,hi,hz0,hz1,hz2⟩:=info_parts Zle;cases ad with
 | none=>
  have h0:us = []:=by
   cases us with
   | nil=>rfl
   | cons y ys=>obtain⟨b,o,e,_⟩:=hr 0 y rfl;cases e
  subst h0;refine wpList_plain hg fun K hK'=>?_
  have hrun:=Zdt (P:=Tryz.prog) (w:=w) B 37 o.type 26 i0 1 Tryz.underlying37 hi v 0 _ c hown;unfold Oper.wp;simp only[List.length_nil] at hx;simp[execOp,hop,resolve,invoke,builtin,hs,hx,hrun,Result.andThen];exact hK' _ _ (hK v w (by simpa using hown) (World.grownBy.refl _ _))
 | some q=>
  obtain⟨b,o1,sp⟩:=q;refine wpList_append_own _ hg s x 37 hop B 26 i0 (.slice none 0 0) 1 24 Tryz.underlying37 hi hz0 hz1 hz2 rfl (by decide) v 0 [] hs hown ⟨b,o1,sp⟩ us.length c us hx (by simp) ?_ ?_ (by unfold maxLen;omega) (by omega) hB ?_
  ·intro j u hj
   obtain⟨b',o',e,e3,_⟩:=hr j u hj;simp only[Option.some.injEq,Addr.mk.injEq] at e;obtain⟨rfl,rfl,rfl⟩:=e;rw[Addr.add_lit];exact e3
  ·intro u hu
   obtain⟨j,hj⟩:=List.getElem?_of_mem hu;obtain⟨_,_,_,_,h⟩:=hr j u hj;exact h
  ·intro v' w' h1 h2 _
   refine hK v' w' ?_ h2
   simpa using h1
theorem Ztu (B:Nat) (a:Option Addr) (c:Nat) (xs:List Int) (hn:xs.length≤2000000) (w:World) (hBw:B≤w.heap.size) (h1:Zat B w a xs) :
  Calls Tryz.prog 236 #[.slice a xs.length c] w fun e w'=>(∃v,e=.returned v/\Zad w.heap.size w' v xs)/\Below w.heap.size w w':=by
 have qT:∀(w:World) (a:Option Addr) (n c n' c':Nat),(binOp .eql 25 (.slice a n c) (.slice none n' c')).run Tryz.prog w=.ok (.bool a.isNone) w:=fun w a n c n' c'=>Lib.run_eql_slice_nil w _ _ a n c n' c' Tryz.underlying25
 cases a with
 | none=>
  have h0:xs = []:=by
   cases xs with
   | nil=>rfl
   | cons y ys=>obtain⟨b,o,e,_⟩:=h1 0 (by simp);cases e
  subst h0;clear h1
  go_enter Tryz.func236,Tryz.ntmps236
  go_wp2_with fail
  go_ret;exact⟨⟨_,rfl,World.ownsRow_nil _ _ _ _⟩,Below.refl _ _⟩
 | some q=>
  have hb:=(Below.refl w.heap.size w).alloc (Nat.le_refl _) (.cells #[] 3);have HO1:Hid (Zad w.heap.size (w.alloc (.cells #[] 3)) (.slice (some ⟨w.heap.size,0,none⟩) 0 0) []):=Zdk w;have H1:=zH ((h1.mono hBw).below hb);have Hb:=zH hb;clear h1 hb
  go_enter Tryz.func236,Tryz.ntmps236
  go_wp2_with (at_builtin;refine Zcl rfl _ _ rfl w.heap.size _ [] rfl HO1.out _ xs _ c rfl rfl _ H1.out (by simp;omega) Hb.out.size ?_)
  intro v' w3 hown hgrow;have HO:=zH hown;have HB:=zH (Hb.out.grown hgrow Hb.out.size (fun g hg=>(World.ownsRow.lt HO1.out g hg).1));clear hown hgrow
  go_wp2_with fail
  go_ret;exact⟨⟨_,rfl,HO.out⟩,HB.out⟩
theorem Ztv (B:Nat) (a:Option Addr) (c:Nat) (xs:List R) (hn:xs.length≤2000000) (w:World) (hBw:B≤w.heap.size) (h1:Zah B w a xs) :
  Calls Tryz.prog 235 #[.slice a xs.length c] w fun e w'=>(∃v,e=.returned v/\Zaa w.heap.size w' v xs)/\Below w.heap.size w w':=by
 have qT:∀(w:World) (a:Option Addr) (n c n' c':Nat),(binOp .eql 26 (.slice a n c) (.slice none n' c')).run Tryz.prog w=.ok (.bool a.isNone) w:=fun w a n c n' c'=>Lib.run_eql_slice_nil w _ _ a n c n' c' Tryz.underlying26
 cases a with
 | none=>
  have h0:xs = []:=by
   cases xs with
   | nil=>rfl
   | cons y ys=>obtain⟨b,o,e,_⟩:=h1 0 y rfl;cases e
  subst h0;clear h1
  go_enter Tryz.func235,Tryz.ntmps235
  go_wp2_with fail
  go_ret;exact⟨⟨_,rfl,Zaa.nil _ _⟩,Below.refl _ _⟩
 | some q=>
  have hb:=(Below.refl w.heap.size w).alloc (Nat.le_refl _) (.cells #[] 31);have HO1:Hid (Zaa w.heap.size (w.alloc (.cells #[] 31)) (.slice (some ⟨w.heap.size,0,none⟩) 0 0) []):=World.ownsRow_made w #[] 0 (Nat.le_refl _) (Nat.zero_le _) rfl;have H1:=zH ((h1.mono hBw).below hb);have Hb:=zH hb;clear h1 hb
  go_enter Tryz.func235,Tryz.ntmps235
  go_wp2_with (at_builtin;refine Zaj rfl _ _ rfl w.heap.size _ [] rfl HO1.out _ xs _ c rfl rfl _ H1.out (by simp;omega) Hb.out.size ?_)
  intro v' w3 hown hgrow;have HO:=zH hown;have HB:=zH (Hb.out.grown hgrow Hb.out.size (fun g hg=>(World.ownsRow.lt HO1.out g hg).1));clear hown hgrow
  go_wp2_with fail
  go_ret;exact⟨⟨_,rfl,HO.out⟩,HB.out⟩
theorem Ztw (a:Option Addr) (c n:Nat) (us:List Value) (hul:us.length=n) (hn:n≤2000000) (w:World) (h1:∀w',Below w.heap.size w w'->Zqo w' a us) :
  Calls Tryz.prog 234 #[.slice a n c] w fun e w'=>(∃v,e=.returned v/\w'.ownsRow w.heap.size 26 1 v n us)/\Below w.heap.size w w':=by
 subst hul;have qT:∀(w:World) (a:Option Addr) (n c n' c':Nat),(binOp .eql 37 (.slice a n c) (.slice none n' c')).run Tryz.prog w=.ok (.bool a.isNone) w:=fun w a n c n' c'=>Lib.run_eql_slice_nil w _ _ a n c n' c' Tryz.underlying37
 cases a with
 | none=>
  have h0:us = []:=by
   cases us with
   | nil=>rfl
   | cons y ys=>obtain⟨b,o,e,_⟩:=h1 w (Below.refl _ _) 0 y rfl;cases e
  subst h0;clear h1
  go_enter Tryz.func234,Tryz.ntmps234
  go_wp2_with fail
  go_ret;exact⟨⟨_,rfl,World.ownsRow_nil _ _ _ _⟩,Below.refl _ _⟩
 | some q=>
  have hb:=(Below.refl w.heap.size w).alloc (Nat.le_refl _) (.cells #[] 26);have HO1:Hid ((w.alloc (.cells #[] 26)).ownsRow w.heap.size 26 1 (.slice (some ⟨w.heap.size,0,none⟩) 0 0) 0 []):=World.ownsRow_made w #[] 0 (Nat.le_refl _) (Nat.zero_le _) rfl;have H1:=zH (h1 _ hb);have Hb:=zH hb;clear h1 hb
  go_enter Tryz.func234,Tryz.ntmps234
  go_wp2_with (at_builtin;refine Ziz rfl _ _ rfl w.heap.size _ rfl HO1.out _ us _ c rfl rfl H1.out (by omega) Hb.out.size ?_)
  intro v' w3 hown hgrow;have HO:=zH hown;have HB:=zH (Hb.out.grown hgrow Hb.out.size (fun g hg=>(World.ownsRow.lt HO1.out g hg).1));clear hown hgrow
  go_wp2_with fail
  go_ret;exact⟨⟨_,rfl,HO.out⟩,HB.out⟩
theorem Zmw:∀(xs:List R) (k:Nat) (x:R),k<xs.length->((Zaq xs).set (k*2) (.int .i64 x.1)).set (k*2+1) (.int .i64 x.2)=Zaq (xs.set k x)
 | [],k,x,h=>by simp at h
 | y::xs,0,x,_=>rfl
 | y::xs,k+1,x,h=>by
  have:=Zmw xs k x (by simpa using h);rw[show (k+1)*2=k*2+1+1 by omega];simp only[Zaq,List.set_cons_succ];rw[this]
theorem Zaa.put {B g c:Nat} {w:World} {xs:List R} (h:Zaa B w (.slice (some ⟨g,0,none⟩) xs.length c) xs) (k:Nat) (x:R) (hk:k<xs.length) :
  Zaa B ((w.setCell ⟨g,k*2,none⟩ (.int .i64 x.1)).setCell ⟨g,k*2+1,none⟩ (.int .i64 x.2)) (.slice (some ⟨g,0,none⟩) xs.length c) (xs.set k x):=by
 have h3:=((World.ownsRow.stored h (k*2) (.int .i64 x.1)).1.stored (k*2+1) (.int .i64 x.2)).1;rw[Zmw xs k x hk] at h3;show World.ownsRow _ _ _ _ _ _ _;rw[List.length_set];exact h3
theorem Zaa.spots {B g c:Nat} {w:World} {xs:List R} (h:Zaa B w (.slice (some ⟨g,0,none⟩) xs.length c) xs) (k:Nat) (hk:k<xs.length) :
  (∃v,w.cell? ⟨g,k*2,none⟩=some v)/\w.frozen? ⟨g,k*2,none⟩=false/\(∃v,w.cell? ⟨g,k*2+1,none⟩=some v)/\w.frozen? ⟨g,k*2+1,none⟩=false:=by
 have hl:(Zaq xs).length=xs.length*2:=Zb7 xs;exact⟨⟨(Zaq xs)[k*2],by rw[World.ownsRow.cellAt h (k*2) (by omega),List.getElem?_eq_getElem (by omega)]⟩,World.ownsRow.frozenAt h _,
  ⟨(Zaq xs)[k*2+1],by rw[World.ownsRow.cellAt h (k*2+1) (by omega),List.getElem?_eq_getElem (by omega)]⟩,World.ownsRow.frozenAt h _⟩
theorem Zaa.block {B n c:Nat} {w:World} {a:Option Addr} {xs:List R} (h:Zaa B w (.slice a n c) xs) (hx:xs.length≠0):∃g,a=some ⟨g,0,none⟩/\n=xs.length/\B≤g/\g<w.heap.size:=by
 obtain⟨a',c',e,_,hb,hg⟩:=Zai h;injection e with e1 e2 e3
 obtain⟨g,hg⟩:=hg (fun e=>hx (by rw[e];rfl));have:=hb _ hg;exact⟨g,e1.trans hg,e2,this.1,this.2⟩
theorem Zfj {B g:Nat} {w w':World} (h:Below B w w') (hg:B≤g) (i j:Nat) (u v:Value):Below B w ((w'.setCell ⟨g,i,none⟩ u).setCell ⟨g,j,none⟩ v):=
 (h.setCell (p:=⟨g,i,none⟩) hg u).setCell (p:=⟨g,j,none⟩) hg v
theorem Ta.Zp3 (t:T) (k:Nat):Ta.sol t (k+1)=(Ta.sol t k).set (Ta.bas t k).toNat (Ve.at_ (Ta.row t k) (t.cols+t.rows.length).toNat):=rfl
theorem Zl2 (B:Nat) (a b:Option Addr) (c1 c2:Nat) (t:T) (hn:Zca t) (w:World) (hBw:B≤w.heap.size) (hz:Zc4 B w a b t) :
  Calls Tryz.prog 143 #[tabV a b c1 c2 t] w (Zbg (Ta.solR t) w):=by
 have HN:=zH hn;have hz0:=hz;have hb:=((Below.refl w.heap.size w).alloc (Nat.le_refl _) (.cells #[.slice a t.rows.length c1,.slice b t.basis.length c2,.int .i64 t.cols] 39)).alloc (by rw[Zar];omega) (.cells #[] 31);have hx:=(Tri.new w (.slice a t.rows.length c1) (.slice b t.basis.length c2) (.int .i64 t.cols) 39).more (.cells #[] 31);have HO1:Hid (Zaa (w.heap.size+1) ((w.alloc (.cells #[.slice a t.rows.length c1,.slice b t.basis.length c2,.int .i64 t.cols] 39)).alloc (.cells #[] 31)) (.slice (some ⟨w.heap.size+1,0,none⟩) 0 0) []):=by
  have h:=World.ownsRow_made (base:=w.heap.size+1) (e:=31) (size:=2) (w.alloc (.cells #[.slice a t.rows.length c1,.slice b t.basis.length c2,.int .i64 t.cols] 39)) #[] 0 (by rw[Zar];omega) (Nat.zero_le _) rfl;rw[Zar] at h;exact h
 have Hz:=zH ((hz.mono hBw).below hb);have Hb:=zH hb;have Hx:=zH hx;rw[show tabV a b c1 c2 t=.agg #[.slice a t.rows.length c1,.slice b t.basis.length c2,.int .i64 t.cols] from rfl];obtain⟨g,hg⟩:∃g,Ta.good t=g:=⟨_,rfl⟩;have HG:=zH (fun W (hB:w.heap.size≤W.heap.size) h=>Zf3 w.heap.size a b c1 c2 t hn g hg W hB h);rw[show tabV a b c1 c2 t=.agg #[.slice a t.rows.length c1,.slice b t.basis.length c2,.int .i64 t.cols] from rfl] at HG;obtain⟨x0,x1,x2,_⟩:=hx.cells;have Hg:=zH hg;have hn1:=hn.rows;clear hz hb hx hn hg
 go_enter Tryz.func143,Tryz.ntmps143
 go_wp2_with fail
 refine (HG.out _ Hb.out.size Hz.out).mono ?_;rintro e w1 ⟨rfl,hb1⟩;have HO2:=zH (HO1.out.below hb1);have HB2:=zH (Hb.out.trans (hb1.mono Hb.out.size));have Hx2:=zH (Hx.out.below hb1);clear x0 x1 x2 HG hb1;cases g with
 | false=>
  have He:=zH (show []=Ta.solR t by unfold Ta.solR;rw[Hg.out];rfl)
  go_wp2_with fail
  go_ret;exact⟨_,rfl,(He.out▸HO2.out).lower (Nat.le_succ _),HB2.out⟩
 | true=>
  obtain⟨g0,g1,g2,g3⟩:=Ta.Za2 Hg.out;have G3:=zH g3;have He:=zH (show Ta.sol t t.rows.length=Ta.solR t by unfold Ta.solR;rw[Hg.out];rfl);generalize Ta.solR t=out at *;clear g3;have HZ:=zH (hz0.mono hBw);have HNr:=HN.out.row;have HR:=zH HNr;clear hz0 HNr HN Hz Hb Hx HO1;obtain⟨L,B1,C⟩:=t;simp only at g0 g1 g2 hn1;obtain⟨n,hcn⟩:∃n:Nat,C+(L.length:Int)=n:=⟨(C+(L.length:Int)).toNat,by omega⟩;have hnb:n≤1100000:=by omega
  have hnL:L.length≤n:=by omega
  have Hcn:=zH hcn;have G2:=zH g2;clear g2
  go_wp2_with fail
  go_loopw [3,4] (fun v i wr=>∃(k:Nat) (u:Value),u=v/\k≤n/\i=.int .i64 k/\Hid (Zaa (w.heap.size+1) wr u (Lp.Za1 k))/\Hid (Tri wr w.heap.size (.slice a L.length c1) (.slice b B1.length c2) (.int .i64 C) 39)/\Hid (Below w.heap.size w wr)) (fun _ i _=>n-(intOf i).toNat)
  case atStart=>exact⟨0,_,rfl,Nat.zero_le _,rfl,HO2,Hx2,HB2⟩
  case round=>
   obtain⟨k,u,rfl,hk,rfl,hO,hX,hB⟩:=hrel;obtain⟨x0,x1,x2,_⟩:=hX.out.cells
   by_cases hlt:k<n
   ·have hsz:=hB.out.size
    have He2:=zH (Zni k);have hlen:=Nat.le_of_eq (Zcu k);have hxl:=Zab hX.out;generalize Lp.Za1 k=ls at *;have htest:decide ((k:Int)<C+(L.length:Int))=true:=by rw[decide_eq_true_iff];omega
    clear hcn
    go_wp2_with fail
    refine (Za4 0 _).mono ?_;rintro e w2 ⟨rfl,hb2⟩;have HB3:=zH (hB.out.trans (hb2.mono hsz));have hsz2:=HB3.out.size;have Hown:Hid (Zaa (w.heap.size+1) (w2.alloc (.cells #[.int .i64 0,.int .i64 1] 31)) _ _):=Zaa.alloc (hO.out.below hb2) (.cells #[.int .i64 0,.int .i64 1] 31);have HX2:=zH ((hX.out.below hb2).more (.cells #[.int .i64 0,.int .i64 1] 31));have Hone:=zH (Zb2 w2 (0,1));have hs2:=hb2.size;clear hb2
    go_wp2_with (at_builtin;refine Zaj rfl _ _ rfl (w.heap.size+1) _ ls rfl Hown.out _ [(0,1)] 1 1 rfl rfl _ Hone.out (by simp;omega) (by rw[Zar];omega) ?_)
    intro v' w3 hown' hgrow;have hne:=World.ownsRow.lt Hown.out;have Ho1:=zH hown';have Hb1:=zH ((HB3.out.alloc hsz2 (.cells #[.int .i64 0,.int .i64 1] 31)).grown hgrow (by simp;omega) (fun g hg=>by have:=(hne g hg).1;omega));have Hx1:Hid (Tri w3 w.heap.size (.slice a L.length c1) (.slice b B1.length c2) (.int .i64 C) 39):=(hgrow.block w.heap.size (Zab HX2.out) (fun e=>by have:=(hne w.heap.size e.symm).1;omega)).trans HX2.out;rw[<-He2.out] at Ho1;clear hown' hgrow hne
    go_wp2_with fail
    go_roundw
    case rel=>exact⟨k+1,_,rfl,by omega,by go_num,Ho1,Hx1,Hb1⟩
    case measure=>simp[intOf];omega
   ·have he:k=n:=by omega
    subst he;have htest:decide ((k:Int)<C+(L.length:Int))=false:=by rw[decide_eq_false_iff_not];omega
    have HOz:Hid (Zaa (w.heap.size+1) wr u (Ta.sol ⟨L,B1,C⟩ 0)):=by
     show Zaa _ _ _ (Lp.Za1 (C+(L.length:Int)).toNat);rw[Hcn.out];exact hO.out
    obtain⟨av,cv,rfl,_⟩:=Zai hO.out;have hzl:=Zcu k;rw[hzl];rw[hzl] at HOz;clear hO hcn
    go_wp2_with fail
    go_loopw [5] (fun i wr=>∃j:Nat,j≤L.length/\i=.int .i64 j/\Hid (Zaa (w.heap.size+1) wr (.slice av k cv) (Ta.sol ⟨L,B1,C⟩ j))/\Hid (Tri wr w.heap.size (.slice a L.length c1) (.slice b B1.length c2) (.int .i64 C) 39)/\Hid (Below w.heap.size w wr)) (fun i _=>L.length-(intOf i).toNat)
    case atStart=>exact⟨0,Nat.zero_le _,rfl,HOz,hX,hB⟩
    case round=>
     clear x0 x1 x2 hlt htest hk HOz hX hB;obtain⟨j,hj,rfl,hO,hX,hB⟩:=hrel;obtain⟨x0,x1,x2,_⟩:=hX.out.cells
     by_cases hlt:j<L.length
     ·have hkn:k≠0:=by omega
      obtain⟨gv,rfl,hq9,hg1,hg2⟩:=Zaa.block hO.out (by rw[Ta.Zhr];show (C+(L.length:Int)).toNat≠0;rw[Hcn.out];simpa using hkn);clear hq9;have hTw:=HZ.out.below hB.out;obtain⟨b1,o1,a1,k1,rfl,hl1,hrow,hRr⟩:=hTw.mR j hlt;obtain⟨b2,o2,rfl,_,hbas⟩:=hTw.mB j (by have:=G2.out;simp only;omega);obtain⟨g31,g32,g33⟩:=G3.out j hlt;simp only at hrow hbas hRr;have g31':((rr L j).length:Int)=C+(L.length:Int)+1:=g31;obtain⟨m,hm⟩:∃m:Nat,B1.getD j 0=m:=⟨(B1.getD j 0).toNat,by have:0≤B1.getD j 0:=g32;omega⟩;have hmk:m<k:=by have h1:B1.getD j 0≤C+(L.length:Int)-1:=g33;have:=Hcn.out;omega
      have hrl:(rr L j).length=k+1:=by have:=Hcn.out;omega
      obtain⟨b3,o3,rfl,hl3,p0,p1⟩:=hRr.at k (by omega);rw[hm] at hbas;rw[hrl] at hrow;have hlS:(Ta.sol ⟨L,B1,C⟩ j).length=k:=by rw[Ta.Zhr];show (C+(L.length:Int)).toNat=k;rw[Hcn.out];simp
      have hO':Zaa (w.heap.size+1) wr (.slice (some ⟨gv,0,none⟩) (Ta.sol ⟨L,B1,C⟩ j).length cv) (Ta.sol ⟨L,B1,C⟩ j):=by rw[hlS];exact hO.out
      obtain⟨⟨v0,s0⟩,f0,⟨v1,s1⟩,f1⟩:=hO'.spots m (by omega);have HOn:Hid (Zaa (w.heap.size+1) ((wr.setCell ⟨gv,m*2,none⟩ (.int .i64 (Ve.at_ (rr L j) k).1)).setCell ⟨gv,m*2+1,none⟩ (.int .i64 (Ve.at_ (rr L j) k).2)) (.slice (some ⟨gv,0,none⟩) k cv) (Ta.sol ⟨L,B1,C⟩ (j+1))):=by
       have h:=hO'.put m (Ve.at_ (rr L j) k) (by omega);rw[hlS] at h;have e:Ta.sol ⟨L,B1,C⟩ (j+1)=(Ta.sol ⟨L,B1,C⟩ j).set m (Ve.at_ (rr L j) k):=by
        rw[Ta.Zp3];show List.set _ (B1.getD j 0).toNat (Ve.at_ (rr L j) (C+(L.length:Int)).toNat)=_;rw[hm,Hcn.out];simp
       show Zaa _ _ _ _;rw[e];exact h
      have HXn:Hid (Tri ((wr.setCell ⟨gv,m*2,none⟩ (.int .i64 (Ve.at_ (rr L j) k).1)).setCell ⟨gv,m*2+1,none⟩ (.int .i64 (Ve.at_ (rr L j) k).2)) w.heap.size (.slice (some ⟨b1,o1,none⟩) L.length c1) (.slice (some ⟨b2,o2,none⟩) B1.length c2) (.int .i64 C) 39):=
       (hX.out.other (p:=⟨gv,m*2,none⟩) (show gv≠w.heap.size by omega) _).other (p:=⟨gv,m*2+1,none⟩) (show gv≠w.heap.size by omega) _
      have HBn:=zH (Zfj hB.out (show w.heap.size≤gv by omega) (m*2) (m*2+1) (.int .i64 (Ve.at_ (rr L j) k).1) (.int .i64 (Ve.at_ (rr L j) k).2));generalize Ve.at_ (rr L j) k=x at *;have hs1:IntKind.i64.wrap (C+(L.length:Int))=(k:Int):=by rw[Hcn.out];exact IntWalk.i64_in _ (by omega)
      have n1:(j:Int)<(L.length:Int):=by omega
      have n2:(j:Int)<(B1.length:Int):=by have:=G2.out;omega
      have n3:(m:Int)<(k:Int):=by omega
      have n4:(k:Int)<((k+1:Nat):Int):=by omega
      have n5:(k:Int)<(k:Int)+1:=by omega
      clear hO' hlS g31 g31' g32 g33 hRr hTw
      go_wp2_with fail
      go_still_tail 20,(by kernel_rfl)
      change wpList _ _ _ _ _ wr.drew
      go_wp2_with fail
      go_roundw
      case rel=>exact⟨j+1,by omega,by go_num,HOn,HXn,HBn.out.drew⟩
      case measure=>simp[intOf];omega
     ·have hje:j=L.length:=by omega
      have HF:Hid (Zaa (w.heap.size+1) wr (.slice av k cv) out):=by rw[hje] at hO;exact He.out▸hO.out
      go_wp2_with fail
      go_ret;exact⟨_,rfl,HF.out.lower (Nat.le_succ _),hB.out⟩
end Go.Proofs.YtlohljkfphljgaaGreat
