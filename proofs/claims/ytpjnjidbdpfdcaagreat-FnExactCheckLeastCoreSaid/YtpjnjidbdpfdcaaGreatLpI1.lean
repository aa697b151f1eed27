/- impl.IsValidLP. -/
import Derived.Test.YtpjnjidbdpfdcaaGreatGLb
import Derived.Test.YtpjnjidbdpfdcaaGreatGRa
import Derived.Test.YtpjnjidbdpfdcaaGreatHNumOpen
namespace Go.Proofs.YtpjnjidbdpfdcaaGreat
open Go.RowKit
open Ve (R)
open Lp (P)
theorem Zbv (B:Nat) (a:Option Addr) (c:Nat) (l:List Int) (hn:l.length≤1048576) (g:Bool) (hg:Lp.small l=g) (w:World) (h1:Zal B w a l) :
  Calls Tryz.prog 81 #[.slice a l.length c,.int .i64 5000] w fun e w'=>e=.returned (.bool g)/\w=w':=
 Zdb B a c l 5000 (by decide) (by decide) hn g hg w h1
theorem Zfz {p:P} (h:¬(p.C.length≤70/\p.A.length≤8/\p.B.length=p.A.length)):Lp.vldP p=false:=by
 rw[Bool.eq_false_iff];intro h2;have:=Lp.Zbk h2;exact h ⟨this.2.1,this.2.2.1,this.2.2.2.1⟩
theorem Zn9 {p:P} (h:p.C.length≤70/\p.A.length≤8/\p.B.length=p.A.length) (hr:Lp.rows p=true):Lp.vldP p=(Lp.small p.B && Ve.good p.C):=by
 unfold Lp.vldP;rw[hr];simp[h.1,h.2.1,h.2.2]
set_option maxRecDepth 100000 in
set_option maxHeartbeats 1000000 in
theorem Zda (B:Nat) (a b c:Option Addr) (c1 c2 c3:Nat) (p:P) (hn:Zct p) (w:World) (hBw:B≤w.heap.size) (hz:LpIn B w a b c p) :
  Calls Tryz.prog 65 #[.agg #[.slice a p.A.length c1,.slice b p.B.length c2,.slice c p.C.length c3]] w fun e w'=>e=.returned (.bool (Lp.vldP p))/\Below w.heap.size w w':=by
 obtain⟨g,hg⟩:∃g,Lp.vldP p=g:=⟨_,rfl⟩;rw[hg];have HN:=zH hn;have hb:=(Below.refl w.heap.size w).alloc (Nat.le_refl _) (.cells #[.slice a p.A.length c1,.slice b p.B.length c2,.slice c p.C.length c3] 47);have hx:=Tri.new w (.slice a p.A.length c1) (.slice b p.B.length c2) (.slice c p.C.length c3) 47;have Hz:=zH ((hz.mono hBw).below hb);have Hb:=zH hb;have Hx:=zH hx;have Hg:=zH hg;have hA:=hn.A;have hB:=hn.B;have hC:=hn.C;clear hz hn hb hx hg
 by_cases q1:p.C.length≤70
 ·have hq1:decide ((p.C.length:Int)>70)=false:=by rw[decide_eq_false_iff_not];omega
  by_cases q2:p.A.length≤8
  ·have hq2:decide ((p.A.length:Int)>8)=false:=by rw[decide_eq_false_iff_not];omega
   by_cases q3:p.B.length=p.A.length
   ·have Hsz:=zH (And.intro q1 (And.intro q2 q3))
    have hq3:((p.B.length:Int) != (p.A.length:Int))=false:=by rw[q3];simp
    clear q3
    go_enter Tryz.func65,Tryz.ntmps65
    go_wp2_with fail
    go_loop [27] (fun i=>∃k:Nat,k≤p.A.length/\i=.int .i64 k/\Hid (∀j,j<k->rowOk p j=true)) (fun i=>p.A.length-(intOf i).toNat)
    case atStart=>exact⟨0,Nat.zero_le _,rfl,fun j hj=>absurd hj (by omega)⟩
    case round=>
     obtain⟨k,hk,rfl,hOk⟩:=hrel
     by_cases hlt:k<p.A.length
     ·obtain⟨b1,o1,a',c',rfl,hb1,hcell,hN⟩:=Hz.out.mA k hlt
      have HNr:=zH hN;have hrl:=HN.out.row k hlt;clear hN
      by_cases hl:(rw_ p.A k).length=p.C.length
      ·have hnl:(((rw_ p.A k).length:Int) != (p.C.length:Int))=false:=by rw[hl];simp
       rcases hs:Lp.small (rw_ p.A k) with _|_
       ·have Hr:=zH (show false=g from (Ze3 hlt (by unfold rowOk;rw[hs];simp)).symm.trans Hg.out)
        have Hs:=zH hs;clear hs hl
        go_wp2_with fail
        refine (Zbv w.heap.size a' c' (rw_ p.A k) hrl false Hs.out _ HNr.out).mono ?_;rintro e w1 ⟨rfl,rfl⟩
        go_wp2_with fail
        go_ret;exact⟨Zac Hr.out,Hb.out⟩
       ·have HOk2:Hid (∀j,j<k+1->rowOk p j=true):=fun j hj=>by
         by_cases e:j=k
         ·subst e;unfold rowOk;rw[hs];simp[hl]
         ·exact hOk.out j (by omega)
        have Hs:=zH hs;clear hs hl
        go_wp2_with fail
        refine (Zbv w.heap.size a' c' (rw_ p.A k) hrl true Hs.out _ HNr.out).mono ?_;rintro e w1 ⟨rfl,rfl⟩
        go_wp2_with fail
        go_round
        case rel=>exact⟨k+1,by omega,by go_num,HOk2⟩
        case measure=>simp[intOf];omega
      ·obtain⟨l1,l2⟩:=Zen hl
       have Hr:=zH (show false=g from (Ze3 hlt (by unfold rowOk;simp[hl])).symm.trans Hg.out)
       go_wp2_with fail
       go_ret;exact⟨Zac Hr.out,Hb.out⟩
     ·have Hrest:=zH ((Zn9 Hsz.out (Zh9 fun j hj=>hOk.out j (by omega))).symm.trans Hg.out)
      rcases q4:Lp.small p.B with _|_
      ·have Hr:Hid (false=g):=by show _=_;rw[<-Hrest.out,q4];rfl
       have Q4:=zH q4;clear q4
       go_wp2_with fail
       refine (Zbv w.heap.size b c2 p.B hB false Q4.out _ Hz.out.mB).mono ?_;rintro e w1 ⟨rfl,rfl⟩
       go_wp2_with fail
       go_ret;exact⟨Zac Hr.out,Hb.out⟩
      ·have Hr:Hid (Ve.good p.C=g):=by show _=_;rw[<-Hrest.out,q4];rfl
       have Q4:=zH q4;clear q4
       go_wp2_with fail
       refine (Zbv w.heap.size b c2 p.B hB true Q4.out _ Hz.out.mB).mono ?_;rintro e w1 ⟨rfl,rfl⟩
       go_wp2_with fail
       refine (Zcm w.heap.size c c3 p.C hC _ Hb.out.size Hz.out.mC).mono ?_;rintro e w1 ⟨rfl,hb1⟩;have Hb1:=zH (Hb.out.trans (hb1.mono Hb.out.size));rw[Hr.out];clear hb1
       go_wp2_with fail
       go_ret;exact⟨rfl,Hb1.out⟩
   ·have Hr:Hid (false=g):=(Zfz fun h=>q3 h.2.2).symm.trans Hg.out
    obtain⟨l1,l2⟩:=Zen q3
    go_enter Tryz.func65,Tryz.ntmps65
    go_wp2_with fail
    go_ret;exact⟨Zac Hr.out,Hb.out⟩
  ·have Hr:Hid (false=g):=(Zfz fun h=>q2 h.2.1).symm.trans Hg.out
   have hq2:decide ((p.A.length:Int)>8)=true:=by rw[decide_eq_true_iff];omega
   go_enter Tryz.func65,Tryz.ntmps65
   go_wp2_with fail
   go_ret;exact⟨Zac Hr.out,Hb.out⟩
 ·have Hr:Hid (false=g):=(Zfz fun h=>q1 h.1).symm.trans Hg.out
  have hq1:decide ((p.C.length:Int)>70)=true:=by rw[decide_eq_true_iff];omega
  go_enter Tryz.func65,Tryz.ntmps65
  go_wp2_with fail
  go_ret;exact⟨Zac Hr.out,Hb.out⟩
end Go.Proofs.YtpjnjidbdpfdcaaGreat
