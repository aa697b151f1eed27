/- The parts PyA, WiB, TaZs, PyC2, EqI, LpI1. -/
import Derived.Test.YtjfnleilddgjiaaGreatPyM
import Derived.Test.YtjfnleilddgjiaaGreatGVb
import Derived.Test.YtjfnleilddgjiaaGreatHCoMem
import Derived.Test.YtjfnleilddgjiaaGreatHLkCo
import Derived.Test.YtjfnleilddgjiaaGreatGLr
import Derived.Test.YtjfnleilddgjiaaGreatHNumI
import Derived.Test.YtjfnleilddgjiaaGreatGB
import Derived.Test.YtjfnleilddgjiaaGreatGTo
import Derived.Test.YtjfnleilddgjiaaGreatGTa
import Derived.Test.YtjfnleilddgjiaaGreatGRa
import Derived.Test.YtjfnleilddgjiaaGreatGLb
set_option maxRecDepth 100000
set_option maxHeartbeats 1000000
namespace Go.Proofs.YtjfnleilddgjiaaGreat
open Go.RowKit
open Ve (R)
theorem NumsIn.other {q:Nat} {w:World} {a:Option Addr} {zs:List Int} (h:NumsIn w.heap.size w a zs) (hp:∀p,a=some p→p.block≠q) (i j:Nat) (u v:Value):NumsIn ((w.setCell ⟨q,i,none⟩ u).setCell ⟨q,j,none⟩ v).heap.size ((w.setCell ⟨q,i,none⟩ u).setCell ⟨q,j,none⟩ v) a zs:=fun k hk=>by
 obtain⟨b,o,h1,h2,h3⟩:=h k hk
 have hne:b≠q:=hp _ h1
 refine⟨b,o,h1,by simpa [World.setCell] using h2,?_⟩
 rw[World.cell?_of_block (w:=w) (a:=⟨b,o+k,none⟩) (by rw[Below.heap_setCell _ _ _ _ hne,Below.heap_setCell _ _ _ _ hne])]
 exact h3
def PySix (p b1 k1 b2 k2:Nat) (s:R) (m:Int) (x:R) (B:World):Prop:=
 B.cell? ⟨p,0,none⟩=some (.int .i64 s.1)∧B.cell? ⟨p,1,none⟩=some (.int .i64 s.2)∧B.cell? ⟨b1,k1,none⟩=some (.int .i64 m)∧B.cell? ⟨b2,k2,none⟩=some (.int .i64 x.1)∧B.cell? ⟨b2,k2+1,none⟩=some (.int .i64 x.2)∧p<B.heap.size∧b1<B.heap.size∧b2<B.heap.size
theorem PySix.all {p b1 k1 b2 k2:Nat} {s:R} {m:Int} {x:R} {B wx:World} (H:Hid (PySix p b1 k1 b2 k2 s m x B)) (h:Since B wx) :
  wx.cell? ⟨p,0,none⟩=some (.int .i64 s.1)∧wx.cell? ⟨p,1,none⟩=some (.int .i64 s.2)∧wx.cell? ⟨b1,k1,none⟩=some (.int .i64 m)∧wx.cell? ⟨b2,k2,none⟩=some (.int .i64 x.1)∧wx.cell? ⟨b2,k2+1,none⟩=some (.int .i64 x.2)∧Since B wx:=
 have k:=H.out
 ⟨h.cell (p:=⟨p,0,none⟩) k.2.2.2.2.2.1 k.1,h.cell (p:=⟨p,1,none⟩) k.2.2.2.2.2.1 k.2.1,h.cell (p:=⟨b1,k1,none⟩) k.2.2.2.2.2.2.1 k.2.2.1,h.cell (p:=⟨b2,k2,none⟩) k.2.2.2.2.2.2.2 k.2.2.2.1,h.cell (p:=⟨b2,k2+1,none⟩) k.2.2.2.2.2.2.2 k.2.2.2.2.1,h⟩
end Go.Proofs.YtjfnleilddgjiaaGreat
namespace Go.Proofs.YtjfnleilddgjiaaGreat
open Go.RowKit
theorem impl_areWithin (B:Nat) (a:Option Addr) (c:Nat) (l:List Int) (m:Int) (hm:0≤m) (hm':m≤1000000000000000000) (hn:l.length≤1048576) (g:Bool) (hg:Gm.within m l=g) (w:World) (h1:NumsIn B w a l) :
  Calls Tryz.prog 89 #[.slice a l.length c,.int .i64 m] w fun e w'=>e=.returned (.bool g)∧w=w':=by
 have H1:=zH h1
 have Hg:=zH hg
 clear h1 hg
 go_enter Tryz.func89,Tryz.ntmps89
 go_wp2_with fail
 go_loop [9] (fun i=>∃k:Nat,k≤l.length∧i=.int .i64 k∧Hid (∀j,j<k→decide (-m≤l.getD j 0∧l.getD j 0≤m)=true)) (fun i=>l.length-(intOf i).toNat)
 case atStart=>exact⟨0,Nat.zero_le _,rfl,fun j hj=>absurd hj (by omega)⟩
 case round=>
  obtain⟨k,hk,rfl,hA⟩:=hrel
  by_cases hlt:k<l.length
  ·obtain⟨b,o,rfl,_,hc⟩:=H1.out k hlt
   rcases hv:decide (-m≤l.getD k 0∧l.getD k 0≤m) with _|_
   ·have Hr:=zH (show false=g from (Gm.within_no hlt hv).symm.trans Hg.out)
    generalize l.getD k 0=x at *
    have Hv:=zH hv
    clear hv
    go_wp2_with fail
    refine (impl_isWithin x m false Hv.out hm hm' _).mono ?_
    rintro e w1 ⟨rfl,rfl⟩
    go_wp2_with fail
    go_ret
    exact⟨ret_bool Hr.out,rfl⟩
   ·have HA2:Hid (∀j,j<k+1→decide (-m≤l.getD j 0∧l.getD j 0≤m)=true):=fun j hj=>by
     by_cases e:j=k
     ·subst e;exact hv
     ·exact hA.out j (by omega)
    generalize l.getD k 0=x at *
    have Hv:=zH hv
    clear hv
    go_wp2_with fail
    refine (impl_isWithin x m true Hv.out hm hm' _).mono ?_
    rintro e w1 ⟨rfl,rfl⟩
    go_wp2_with fail
    go_round
    case rel=>exact⟨k+1,by omega,by go_num,HA2⟩
    case measure=>simp[intOf];omega
  ·have Hr:=zH (show true=g by rw[←Hg.out];exact (Gm.within_all fun j hj=>hA.out j (by omega)).symm)
   go_wp2_with fail
   go_ret
   exact⟨ret_bool Hr.out,rfl⟩
theorem impl_areWithin_q (B:Nat) (a:Option Addr) (c:Nat) (l:List Int) (m:Int) (hm:0≤m) (hm':m≤1000000000000000000) (hn:l.length≤1048576) (g:Bool) (hg:Gm.within m l=g) (w:World) (h1:NumsIn B w a l) :
  Calls Tryz.prog 89 #[.slice a l.length c,.int .i64 m] w fun e w'=>e=.returned (.bool g)∧w'=w:=(impl_areWithin B a c l m hm hm' hn g hg w h1).mono fun _ _ ⟨h1,h2⟩=>⟨h1,h2.symm⟩
end Go.Proofs.YtjfnleilddgjiaaGreat
namespace Go.Proofs.YtjfnleilddgjiaaGreat
open Go.RowKit
open Ve (R)
open Ta (T)
def SpTab (lo hi:Nat) (w:World) (v:Value) (t:T):Prop:=hi≤w.heap.size∧∃w0:World,w0.heap.size=hi∧OwnTab lo w0 v t∧∀k,lo≤k→k<hi→w.heap[k]? = w0.heap[k]?
theorem SpTab.rg {lo hi:Nat} {w:World} {v:Value} {t:T} (h:SpTab lo hi w v t):Rg (fun w'=>SpTab lo hi w' v t) lo hi w:=by
 obtain⟨h1,w0,e,ho,hk⟩:=h
 exact⟨⟨h1,w0,e,ho,hk⟩,h1,fun w' hs hk2=>⟨Nat.le_trans h1 hs,w0,e,ho,fun k a b=>(hk2 k a b).trans (hk k a b)⟩⟩
theorem SpTab.new {lo:Nat} {w:World} {v:Value} {t:T} (h:OwnTab lo w v t):SpTab lo w.heap.size w v t:=⟨Nat.le_refl _,w,rfl,h,fun _ _ _=>rfl⟩
theorem SpTab.reads_c {lo hi:Nat} {w:World} {x y z:Value} {t:T} (h:SpTab lo hi w (.agg #[x,y,z]) t):TabC w x y z t:=by
 obtain⟨h1,w0,rfl,⟨vR,vB,e,hR,hB⟩,hk⟩:=h
 injection e with e
 have e1:x=vR:=by have:=congrArg (fun q=>q[0]?) e;simpa using this
 have e2:y=vB:=by have:=congrArg (fun q=>q[1]?) e;simpa using this
 have e3:z=.int .i64 t.cols:=by have:=congrArg (fun q=>q[2]?) e;simpa using this
 subst e1 e2 e3
 obtain⟨a,c1,e1,hr,_⟩:=(hR.high hk).reads
 obtain⟨b,c2,e2,hb,pb,_⟩:=own_reads (hB.high hk)
 exact⟨a,b,c1,c2,e1,e2,rfl,hr,NumsIn.of_ints hb fun p hp=>(pb p hp).2⟩
end Go.Proofs.YtjfnleilddgjiaaGreat
namespace Go.Proofs.YtjfnleilddgjiaaGreat
open Go.RowKit
open Ve (R)
open Gm (G)
theorem impl_cmpX (x y:R) (w:World):Calls Tryz.prog 95 #[.agg #[.int .i64 x.1,.int .i64 x.2],.agg #[.int .i64 y.1,.int .i64 y.2]] w fun e w'=>e=.returned (.int .i64 (Py.cmp x y))∧Below w.heap.size w w':=impl_CompareRat x.1 x.2 y.1 y.2 w
end Go.Proofs.YtjfnleilddgjiaaGreat
namespace Go.Proofs.YtjfnleilddgjiaaGreat
open Go.RowKit
end Go.Proofs.YtjfnleilddgjiaaGreat
namespace Go.Proofs.YtjfnleilddgjiaaGreat
open Go.RowKit
open Ve (R)
open Lp (P)
theorem impl_lpNumbers (B:Nat) (a:Option Addr) (c:Nat) (l:List Int) (hn:l.length≤1048576) (g:Bool) (hg:Lp.small l=g) (w:World) (h1:NumsIn B w a l) :
  Calls Tryz.prog 89 #[.slice a l.length c,.int .i64 5000] w fun e w'=>e=.returned (.bool g)∧w=w':=
 impl_areWithin B a c l 5000 (by decide) (by decide) hn g hg w h1
theorem vld_sizes {p:P} (h:¬(p.C.length≤70∧p.A.length≤8∧p.B.length=p.A.length)):Lp.vldP p=false:=by
 rw[Bool.eq_false_iff]
 intro h2
 have:=Lp.vld_parts h2
 exact h ⟨this.2.1,this.2.2.1,this.2.2.2.1⟩
theorem vld_rest {p:P} (h:p.C.length≤70∧p.A.length≤8∧p.B.length=p.A.length) (hr:Lp.rows p=true):Lp.vldP p=(Lp.small p.B && Ve.good p.C):=by
 unfold Lp.vldP
 rw[hr]
 simp[h.1,h.2.1,h.2.2]
theorem impl_IsValidLP (B:Nat) (a b c:Option Addr) (c1 c2 c3:Nat) (p:P) (hn:LpFits p) (w:World) (hBw:B≤w.heap.size) (hz:LpIn B w a b c p) :
  Calls Tryz.prog 36 #[.agg #[.slice a p.A.length c1,.slice b p.B.length c2,.slice c p.C.length c3]] w fun e w'=>e=.returned (.bool (Lp.vldP p))∧Below w.heap.size w w':=by
 obtain⟨g,hg⟩:∃g,Lp.vldP p=g:=⟨_,rfl⟩
 rw[hg]
 have HN:=zH hn
 have hb:=(Below.refl w.heap.size w).alloc (Nat.le_refl _) (.cells #[.slice a p.A.length c1,.slice b p.B.length c2,.slice c p.C.length c3] 45)
 have hx:=Tri.new w (.slice a p.A.length c1) (.slice b p.B.length c2) (.slice c p.C.length c3) 45
 have Hz:=zH ((hz.mono hBw).below hb)
 have Hb:=zH hb
 have Hx:=zH hx
 have Hg:=zH hg
 have hA:=hn.A
 have hB:=hn.B
 have hC:=hn.C
 clear hz hn hb hx hg
 by_cases q1:p.C.length≤70
 ·have hq1:decide ((p.C.length:Int)>70)=false:=by rw[decide_eq_false_iff_not];omega
  by_cases q2:p.A.length≤8
  ·have hq2:decide ((p.A.length:Int)>8)=false:=by rw[decide_eq_false_iff_not];omega
   by_cases q3:p.B.length=p.A.length
   ·have Hsz:=zH (And.intro q1 (And.intro q2 q3))
    have hq3:((p.B.length:Int) != (p.A.length:Int))=false:=by rw[q3];simp
    clear q3
    go_enter Tryz.func36,Tryz.ntmps36
    go_wp2_with fail
    go_loop [27] (fun i=>∃k:Nat,k≤p.A.length∧i=.int .i64 k∧Hid (∀j,j<k→rowOk p j=true)) (fun i=>p.A.length-(intOf i).toNat)
    case atStart=>exact⟨0,Nat.zero_le _,rfl,fun j hj=>absurd hj (by omega)⟩
    case round=>
     obtain⟨k,hk,rfl,hOk⟩:=hrel
     by_cases hlt:k<p.A.length
     ·obtain⟨b1,o1,a',c',rfl,hb1,hcell,hN⟩:=Hz.out.mA k hlt
      have HNr:=zH hN
      have hrl:=HN.out.row k hlt
      clear hN
      by_cases hl:(rw_ p.A k).length=p.C.length
      ·have hnl:(((rw_ p.A k).length:Int) != (p.C.length:Int))=false:=by rw[hl];simp
       rcases hs:Lp.small (rw_ p.A k) with _|_
       ·have Hr:=zH (show false=g from (rows_bad hlt (by unfold rowOk;rw[hs];simp)).symm.trans Hg.out)
        have Hs:=zH hs
        clear hs hl
        go_wp2_with fail
        refine (impl_lpNumbers w.heap.size a' c' (rw_ p.A k) hrl false Hs.out _ HNr.out).mono ?_
        rintro e w1 ⟨rfl,rfl⟩
        go_wp2_with fail
        go_ret
        exact⟨ret_bool Hr.out,Hb.out⟩
       ·have HOk2:Hid (∀j,j<k+1→rowOk p j=true):=fun j hj=>by
         by_cases e:j=k
         ·subst e;unfold rowOk;rw[hs];simp[hl]
         ·exact hOk.out j (by omega)
        have Hs:=zH hs
        clear hs hl
        go_wp2_with fail
        refine (impl_lpNumbers w.heap.size a' c' (rw_ p.A k) hrl true Hs.out _ HNr.out).mono ?_
        rintro e w1 ⟨rfl,rfl⟩
        go_wp2_with fail
        go_round
        case rel=>exact⟨k+1,by omega,by go_num,HOk2⟩
        case measure=>simp[intOf];omega
      ·obtain⟨l1,l2⟩:=len_no hl
       have Hr:=zH (show false=g from (rows_bad hlt (by unfold rowOk;simp[hl])).symm.trans Hg.out)
       go_wp2_with fail
       go_ret
       exact⟨ret_bool Hr.out,Hb.out⟩
     ·have Hrest:=zH ((vld_rest Hsz.out (rows_good fun j hj=>hOk.out j (by omega))).symm.trans Hg.out)
      rcases q4:Lp.small p.B with _|_
      ·have Hr:Hid (false=g):=by show _=_;rw[←Hrest.out,q4];rfl
       have Q4:=zH q4
       clear q4
       go_wp2_with fail
       refine (impl_lpNumbers w.heap.size b c2 p.B hB false Q4.out _ Hz.out.mB).mono ?_
       rintro e w1 ⟨rfl,rfl⟩
       go_wp2_with fail
       go_ret
       exact⟨ret_bool Hr.out,Hb.out⟩
      ·have Hr:Hid (Ve.good p.C=g):=by show _=_;rw[←Hrest.out,q4];rfl
       have Q4:=zH q4
       clear q4
       go_wp2_with fail
       refine (impl_lpNumbers w.heap.size b c2 p.B hB true Q4.out _ Hz.out.mB).mono ?_
       rintro e w1 ⟨rfl,rfl⟩
       go_wp2_with fail
       refine (impl_AllValid w.heap.size c c3 p.C hC _ Hb.out.size Hz.out.mC).mono ?_
       rintro e w1 ⟨rfl,hb1⟩
       have Hb1:=zH (Hb.out.trans (hb1.mono Hb.out.size))
       rw[Hr.out]
       clear hb1
       go_wp2_with fail
       go_ret
       exact⟨rfl,Hb1.out⟩
   ·have Hr:Hid (false=g):=(vld_sizes fun h=>q3 h.2.2).symm.trans Hg.out
    obtain⟨l1,l2⟩:=len_no q3
    go_enter Tryz.func36,Tryz.ntmps36
    go_wp2_with fail
    go_ret
    exact⟨ret_bool Hr.out,Hb.out⟩
  ·have Hr:Hid (false=g):=(vld_sizes fun h=>q2 h.2.1).symm.trans Hg.out
   have hq2:decide ((p.A.length:Int)>8)=true:=by rw[decide_eq_true_iff];omega
   go_enter Tryz.func36,Tryz.ntmps36
   go_wp2_with fail
   go_ret
   exact⟨ret_bool Hr.out,Hb.out⟩
 ·have Hr:Hid (false=g):=(vld_sizes fun h=>q1 h.1).symm.trans Hg.out
  have hq1:decide ((p.C.length:Int)>70)=true:=by rw[decide_eq_true_iff];omega
  go_enter Tryz.func36,Tryz.ntmps36
  go_wp2_with fail
  go_ret
  exact⟨ret_bool Hr.out,Hb.out⟩
end Go.Proofs.YtjfnleilddgjiaaGreat
