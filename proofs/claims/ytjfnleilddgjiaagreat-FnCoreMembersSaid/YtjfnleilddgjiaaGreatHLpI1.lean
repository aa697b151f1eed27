/- The parts WiB, DrI, GmI, LpI1. -/
import Derived.Test.YtjfnleilddgjiaaGreatHGrI
import Derived.Test.YtjfnleilddgjiaaGreatHHeldT
import Derived.Test.YtjfnleilddgjiaaGreatHDrawA
import Derived.Test.YtjfnleilddgjiaaGreatHGmA
import Derived.Test.YtjfnleilddgjiaaGreatHGmB
import Derived.Test.YtjfnleilddgjiaaGreatGLb
import Derived.Test.YtjfnleilddgjiaaGreatGRa
set_option maxRecDepth 100000
set_option maxHeartbeats 1000000
namespace Go.Proofs.YtjfnleilddgjiaaGreat
open Go.RowKit
theorem Zhf (B:Nat) (a:Option Addr) (c:Nat) (l:List Int) (m:Int) (hm:0≤m) (hm':m≤1000000000000000000) (hn:l.length≤1048576) (g:Bool) (hg:Gm.within m l=g) (w:World) (h1:Zas B w a l) :
  Calls Tryz.prog 89 #[.slice a l.length c,.int .i64 m] w fun e w'=>e=.returned (.bool g)/\w=w':=by
 have H1:=zH h1;have Hg:=zH hg;clear h1 hg
 go_enter Tryz.func89,Tryz.ntmps89
 go_wp2_with fail
 go_loop [9] (fun i=>∃k:Nat,k≤l.length/\i=.int .i64 k/\Hid (∀j,j<k->decide (-m≤l.getD j 0/\l.getD j 0≤m)=true)) (fun i=>l.length-(intOf i).toNat)
 case atStart=>exact⟨0,Nat.zero_le _,rfl,fun j hj=>absurd hj (by omega)⟩
 case round=>
  obtain⟨k,hk,rfl,hA⟩:=hrel
  by_cases hlt:k<l.length
  ·obtain⟨b,o,rfl,_,hc⟩:=H1.out k hlt
   rcases hv:decide (-m≤l.getD k 0/\l.getD k 0≤m) with _|_
   ·have Hr:=zH (show false=g from (Gm.Zq7 hlt hv).symm.trans Hg.out)
    generalize l.getD k 0=x at *;have Hv:=zH hv;clear hv
    go_wp2_with fail
    refine (Za6 x m false Hv.out hm hm' _).mono ?_;rintro e w1 ⟨rfl,rfl⟩
    go_wp2_with fail
    go_ret;exact⟨Zac Hr.out,rfl⟩
   ·have HA2:Hid (∀j,j<k+1->decide (-m≤l.getD j 0/\l.getD j 0≤m)=true):=fun j hj=>by
     by_cases e:j=k
     ·subst e;exact hv
     ·exact hA.out j (by omega)
    generalize l.getD k 0=x at *;have Hv:=zH hv;clear hv
    go_wp2_with fail
    refine (Za6 x m true Hv.out hm hm' _).mono ?_;rintro e w1 ⟨rfl,rfl⟩
    go_wp2_with fail
    go_round
    case rel=>exact⟨k+1,by omega,by go_num,HA2⟩
    case measure=>simp[intOf];omega
  ·have Hr:=zH (show true=g by rw[<-Hg.out];exact (Gm.Zno fun j hj=>hA.out j (by omega)).symm)
   go_wp2_with fail
   go_ret;exact⟨Zac Hr.out,rfl⟩
theorem Zgc (B:Nat) (a:Option Addr) (c:Nat) (l:List Int) (m:Int) (hm:0≤m) (hm':m≤1000000000000000000) (hn:l.length≤1048576) (g:Bool) (hg:Gm.within m l=g) (w:World) (h1:Zas B w a l) :
  Calls Tryz.prog 89 #[.slice a l.length c,.int .i64 m] w fun e w'=>e=.returned (.bool g)/\w'=w:=(Zhf B a c l m hm hm' hn g hg w h1).mono fun _ _ ⟨h1,h2⟩=>⟨h1,h2.symm⟩
theorem Cur.grown {w w':World} {p:Nat} {a:Option Addr} {len cap:Nat} {row:Option Nat} (h:Cur w p a len cap) (hg:w.grownBy w' row) (hr:row≠some p):Cur w' p a len cap:=by
 obtain⟨i,x,h1,h2,hk⟩:=h;exact⟨i,x,h1,h2,(hg.block p (lt_of_block hk) (fun e=>hr e.symm)).trans hk⟩
theorem Zae.only {B p:Nat} {w w':World} {v:Value} {xs:List Int} (h:Zae B w v xs) (ho:Only p w w') (hp:p<B):Zae B w' v xs:=by
 obtain⟨h1,h2|⟨g,cap,cur,e,hg,hh,rest⟩⟩:=h
 ·exact⟨h1,.inl h2⟩
 ·exact⟨h1,.inr ⟨g,cap,cur,e,hg,(ho.block (by omega) (Zab hh)).trans hh,rest⟩⟩
def Zyf (ss:List Int) (p:Nat) (a:Option Addr) (len cap:Nat) (w:World) (e:Ending) (w':World):Prop:=
 ∃x:Int,e=.returned (.int .i64 x)/\x∈ss/\Cur w' p a len cap/\Only p w w'
theorem Zoq (B p:Nat) (a:Option Addr) (len cap c2:Nat) (ss:List Int) (cs:Array Value) (hcs:(ss.map (Value.int .i64)).toArray=cs) (m:Nat) (hm:ss.length=m) (hs1:1≤ss.length) (hs2:ss.length≤1000000) (w:World) (hB:B≤p)
  (hcur:Cur w p a len cap) (hcode:Zc6 B w a len) (q:Nat) (hq:q=w.heap.size) :
  Calls Tryz.prog 93 #[.pointer (some ⟨p,0,none⟩),.slice (some ⟨q,0,none⟩) m c2] (w.alloc (.cells cs 3)) (Zyf ss p a len cap w):=by
 subst hcs hm hq;have hp:=hcur.lt;refine (Zhi B p w.heap.size a len cap c2 ss hs1 hs2 _ hB (by omega) (by rw[Zao];omega) (Zjj.new w _ _) (hcur.alloc _) (hcode.below ((Below.refl _ _).alloc (by omega) _))).mono ?_;rintro e w' ⟨v,rfl,hv,hc,ho⟩;obtain⟨x,hx,rfl⟩:=List.mem_map.1 hv;exact⟨x,rfl,hx,hc,((Only.refl p w).alloc (by omega) _).trans ho⟩
theorem Only.cell {p:Nat} {w w':World} (h:Only p w w') {a:Addr} {v:Value} (hne:a.block≠p) (hv:w.cell? a=some v):w'.cell? a=some v:=by
 rw[World.cell?_of_block (w:=w) (a:=a) (h.block hne (block_lt_of_cell hv))];exact hv
theorem Zad.only {w w':World} {p q:Nat} {cs:Array Value} {t:TypeId} (h:Zad w q cs t) (ho:Only p w w') (hne:q≠p):Zad w' q cs t:=(ho.block hne (Zab h)).trans h
theorem Only.turned {p:Nat} {w w':World} (h:Only p w w'):Turned p (p+1) w w':=⟨h.low.os,h.low.tape,h.low.output,h.low.size,fun k hk hr=>h.block (by omega) hk⟩
open Gm (G)
theorem Zpw (n:Nat) (hn:n≤5) (w:World):Calls Tryz.prog 75 #[.int .i64 n] w fun e w'=>e=.returned (.int .i64 ((2 ^ n:Nat):Int))/\w'=w:=(Zem n hn w).mono fun _ _ ⟨h1,h2⟩=>⟨h1,h2.symm⟩
theorem Zdd {w:World} {x y:Value} {g:G} (b:Bool) (hb:Gm.vld g=b) (h:GmC w x y g) (hf:GmOk g) :
  Calls Tryz.prog 61 #[.agg #[x,y]] w fun e w'=>e=.returned (.bool b)/\Below w.heap.size w w':=by
 obtain⟨gn,gv⟩:=g;obtain⟨a,c,rfl,rfl,hi⟩:=h;have hl:gv.length≤1048576:=hf.1;dsimp only at hi ⊢;have HBl:=zH ((Below.refl w.heap.size w).alloc (Nat.le_refl _) (.cells #[.int .i64 gn,.slice a gv.length c] 30));have HI:=zH (hi.below HBl.out);have HV:=zH hb;clear hi hb hf
 by_cases h1:1≤gn
 ·have d1:decide (1≤gn)=true:=decide_eq_true h1
  by_cases h2:gn≤5
  ·have d2:decide (gn≤5)=true:=decide_eq_true h2
   obtain⟨m,hm⟩:∃m:Nat,gn=m:=⟨gn.toNat,by omega⟩;subst hm;have HS:=zH (Ztp (g:=⟨(m:Int),gv⟩) rfl (by omega) (by omega));have hm5:m≤5:=by omega
   have hpw:2 ^ m≤32:=Nat.pow_le_pow_right (by omega) hm5;have hp1:1≤2 ^ m:=Nat.one_le_two_pow;have HC:=zH (fun W=>Zpw m hm5 W)
   by_cases hlen:gv.length=2 ^ m
   ·have HS2:=zH (HS.out.trans (decide_eq_true hlen))
    have hpos:0<gv.length:=by omega
    have heq:((gv.length:Int) == ((2 ^ m:Nat):Int))=true:=by rw[hlen];simp
    obtain⟨bb,o,rfl,_,hc⟩:=HI.out 0 hpos;rw[Nat.add_zero] at hc
    rcases hw:Gm.within 500 gv with _|_
    ·have Hr:=zH ((Gm.Znn (g:=⟨(m:Int),gv⟩) hw).symm.trans HV.out)
     have HW:=zH hw;clear hlen HS HS2 HV hw;generalize 2 ^ m=q at *
     go_enter Tryz.func61,Tryz.ntmps61
     go_wp2_with fail
     go_quiet (first | (go_at_call 75;exact Calls.quiet_of_same (HC.out _)) | (go_at_call 89;exact Calls.quiet_of_same (Zgc w.heap.size _ c gv 500 (by decide) (by decide) hl false HW.out _ (HI.out.drewN _))))
     go_wp2_with fail
     go_ret;exact⟨Zac Hr.out,below_drewN HBl.out nq⟩
    ·have Hr:=zH ((Gm.Zt1 (g:=⟨(m:Int),gv⟩) HS2.out hw).symm.trans HV.out)
     have HW:=zH hw;have Hz:Hid ((gv.getD 0 0 == 0)=b):=by
      have:=Hr.out;unfold Gm.Zyb at this;show _=_;rw[<-this,Bool.eq_iff_iff];simp
     clear hlen HS HS2 HV hw Hr;generalize 2 ^ m=q at *;generalize gv.getD 0 0=z at *
     go_enter Tryz.func61,Tryz.ntmps61
     go_wp2_with fail
     go_quiet (first | (go_at_call 75;exact Calls.quiet_of_same (HC.out _)) | (go_at_call 89;exact Calls.quiet_of_same (Zgc w.heap.size _ c gv 500 (by decide) (by decide) hl true HW.out _ (HI.out.drewN _))))
     go_wp2_with fail
     go_ret;exact⟨Zac Hz.out,below_drewN HBl.out nq⟩
   ·have Hr:=zH ((Gm.Zg2 (g:=⟨(m:Int),gv⟩) (HS.out.trans (decide_eq_false hlen))).symm.trans HV.out)
    have heq:((gv.length:Int) == ((2 ^ m:Nat):Int))=false:=(Zfx hlen).1;clear hlen HS HV;generalize 2 ^ m=q at *
    go_enter Tryz.func61,Tryz.ntmps61
    go_wp2_with fail
    go_quiet (first | (go_at_call 75;exact Calls.quiet_of_same (HC.out _)))
    go_wp2_with fail
    go_ret;exact⟨Zac Hr.out,below_drewN HBl.out nq⟩
  ·have d2:decide (gn≤5)=false:=decide_eq_false h2
   have Hr:=zH ((Gm.Zg2 (g:=⟨gn,gv⟩) (Zox (by dsimp only;omega))).symm.trans HV.out);clear HV
   go_enter Tryz.func61,Tryz.ntmps61
   go_wp2_with fail
   go_quiet (fail)
   go_wp2_with fail
   go_ret;exact⟨Zac Hr.out,below_drewN HBl.out nq⟩
 ·have d1:decide (1≤gn)=false:=decide_eq_false h1
  have Hr:=zH ((Gm.Zg2 (g:=⟨gn,gv⟩) (Zox (by dsimp only;omega))).symm.trans HV.out);clear HV
  go_enter Tryz.func61,Tryz.ntmps61
  go_wp2_with fail
  go_quiet (fail)
  go_wp2_with fail
  go_ret;exact⟨Zac Hr.out,below_drewN HBl.out nq⟩
theorem Zlk {w:World} {x y:Value} {g:G} (h:GmC w x y g) (hf:GmOk g) :
  Calls Tryz.prog 111 #[.agg #[x,y]] w fun e w'=>e=.returned (.int .i64 (Gm.Zbt g))/\Below w.heap.size w w':=by
 rcases hv:Gm.vld g with _|_
 ·have Hg:=zH (Gm.Zoc hv)
  have HV:=zH hv;have Hb:=Zng h 30;have HX:=zH Hb.1;have HB:=zH Hb.2;rw[Hg.out];clear hv Hb h
  go_enter Tryz.func111,Tryz.ntmps111
  go_wp2_with fail
  refine (Zdd false HV.out HX.out hf).mono ?_;rintro e w1 ⟨rfl,k⟩;have HB1:=zH (HB.out.trans (k.mono HB.out.size));clear k
  go_wp2_with fail
  go_ret;exact⟨rfl,HB1.out⟩
 ·obtain⟨m,hm,z,hz⟩:∃m,g.v.length=m+1/\∃z,g.v.getD m 0=z:=⟨g.v.length-1,by have:=Gm.Zcu hv;omega,_,rfl⟩
  have Hg:=zH (show Gm.Zbt g=z by rw[Gm.Zgn hv,hm,<-hz];rfl);have HV:=zH hv;have hi0:=h;obtain⟨a,c,rfl,e1,hi⟩:=hi0;obtain⟨bb,o,rfl,_,hc⟩:=hi m (by omega);rw[hm] at e1;subst e1;rw[hz] at hc;have HX:=zH (Zng h 30).1;have HB:=zH (Zng h 30).2;have HC:=zH (Zad.new w #[.int .i64 g.n,.slice (some ⟨bb,o,none⟩) (m+1) c] 30);have hm2:m≤1048576:=by have:=hf.1;omega
  have HK:=zH (show bb<w.heap.size/\w.cell? ⟨bb,o+m,none⟩=some (.int .i64 z) from ⟨by assumption,hc⟩);rw[Hg.out];clear hv h hi hc hm hz
  go_enter Tryz.func111,Tryz.ntmps111
  go_wp2_with fail
  refine (Zdd true HV.out HX.out hf).mono ?_;rintro e w1 ⟨rfl,k⟩;have HB1:=zH (HB.out.trans (k.mono HB.out.size));obtain⟨m0,m1⟩:=two (HC.out.below k);have hc1:w1.cell? ⟨bb,o+m,none⟩=some (.int .i64 z):=(HB1.out.cell (p:=⟨bb,o+m,none⟩) HK.out.1).trans HK.out.2;clear k
  go_wp2_with fail
  go_ret;exact⟨rfl,HB1.out⟩
open Ve (R)
open Lp (P)
theorem Zea (B:Nat) (a:Option Addr) (c:Nat) (l:List Int) (hn:l.length≤1048576) (g:Bool) (hg:Lp.small l=g) (w:World) (h1:Zas B w a l) :
  Calls Tryz.prog 89 #[.slice a l.length c,.int .i64 5000] w fun e w'=>e=.returned (.bool g)/\w=w':=
 Zhf B a c l 5000 (by decide) (by decide) hn g hg w h1
theorem Zmp {p:P} (h:¬(p.C.length≤70/\p.A.length≤8/\p.B.length=p.A.length)):Lp.vldP p=false:=by
 rw[Bool.eq_false_iff];intro h2;have:=Lp.Zar h2;exact h ⟨this.2.1,this.2.2.1,this.2.2.2.1⟩
theorem Z0d {p:P} (h:p.C.length≤70/\p.A.length≤8/\p.B.length=p.A.length) (hr:Lp.rows p=true):Lp.vldP p=(Lp.small p.B && Ve.good p.C):=by
 unfold Lp.vldP;rw[hr];simp[h.1,h.2.1,h.2.2]
theorem Zfr (B:Nat) (a b c:Option Addr) (c1 c2 c3:Nat) (p:P) (hn:Zcd p) (w:World) (hBw:B≤w.heap.size) (hz:LpIn B w a b c p) :
  Calls Tryz.prog 36 #[.agg #[.slice a p.A.length c1,.slice b p.B.length c2,.slice c p.C.length c3]] w fun e w'=>e=.returned (.bool (Lp.vldP p))/\Below w.heap.size w w':=by
 obtain⟨g,hg⟩:∃g,Lp.vldP p=g:=⟨_,rfl⟩;rw[hg];have HN:=zH hn;have hb:=(Below.refl w.heap.size w).alloc (Nat.le_refl _) (.cells #[.slice a p.A.length c1,.slice b p.B.length c2,.slice c p.C.length c3] 45);have hx:=Tri.new w (.slice a p.A.length c1) (.slice b p.B.length c2) (.slice c p.C.length c3) 45;have Hz:=zH ((hz.mono hBw).below hb);have Hb:=zH hb;have Hx:=zH hx;have Hg:=zH hg;have hA:=hn.A;have hB:=hn.B;have hC:=hn.C;clear hz hn hb hx hg
 by_cases q1:p.C.length≤70
 ·have hq1:decide ((p.C.length:Int)>70)=false:=by rw[decide_eq_false_iff_not];omega
  by_cases q2:p.A.length≤8
  ·have hq2:decide ((p.A.length:Int)>8)=false:=by rw[decide_eq_false_iff_not];omega
   by_cases q3:p.B.length=p.A.length
   ·have Hsz:=zH (And.intro q1 (And.intro q2 q3))
    have hq3:((p.B.length:Int) != (p.A.length:Int))=false:=by rw[q3];simp
    clear q3
    go_enter Tryz.func36,Tryz.ntmps36
    go_wp2_with fail
    go_loop [27] (fun i=>∃k:Nat,k≤p.A.length/\i=.int .i64 k/\Hid (∀j,j<k->rowOk p j=true)) (fun i=>p.A.length-(intOf i).toNat)
    case atStart=>exact⟨0,Nat.zero_le _,rfl,fun j hj=>absurd hj (by omega)⟩
    case round=>
     obtain⟨k,hk,rfl,hOk⟩:=hrel
     by_cases hlt:k<p.A.length
     ·obtain⟨b1,o1,a',c',rfl,hb1,hcell,hN⟩:=Hz.out.mA k hlt
      have HNr:=zH hN;have hrl:=HN.out.row k hlt;clear hN
      by_cases hl:(rw_ p.A k).length=p.C.length
      ·have hnl:(((rw_ p.A k).length:Int) != (p.C.length:Int))=false:=by rw[hl];simp
       rcases hs:Lp.small (rw_ p.A k) with _|_
       ·have Hr:=zH (show false=g from (Zkg hlt (by unfold rowOk;rw[hs];simp)).symm.trans Hg.out)
        have Hs:=zH hs;clear hs hl
        go_wp2_with fail
        refine (Zea w.heap.size a' c' (rw_ p.A k) hrl false Hs.out _ HNr.out).mono ?_;rintro e w1 ⟨rfl,rfl⟩
        go_wp2_with fail
        go_ret;exact⟨Zac Hr.out,Hb.out⟩
       ·have HOk2:Hid (∀j,j<k+1->rowOk p j=true):=fun j hj=>by
         by_cases e:j=k
         ·subst e;unfold rowOk;rw[hs];simp[hl]
         ·exact hOk.out j (by omega)
        have Hs:=zH hs;clear hs hl
        go_wp2_with fail
        refine (Zea w.heap.size a' c' (rw_ p.A k) hrl true Hs.out _ HNr.out).mono ?_;rintro e w1 ⟨rfl,rfl⟩
        go_wp2_with fail
        go_round
        case rel=>exact⟨k+1,by omega,by go_num,HOk2⟩
        case measure=>simp[intOf];omega
      ·obtain⟨l1,l2⟩:=Zfx hl
       have Hr:=zH (show false=g from (Zkg hlt (by unfold rowOk;simp[hl])).symm.trans Hg.out)
       go_wp2_with fail
       go_ret;exact⟨Zac Hr.out,Hb.out⟩
     ·have Hrest:=zH ((Z0d Hsz.out (Zqd fun j hj=>hOk.out j (by omega))).symm.trans Hg.out)
      rcases q4:Lp.small p.B with _|_
      ·have Hr:Hid (false=g):=by show _=_;rw[<-Hrest.out,q4];rfl
       have Q4:=zH q4;clear q4
       go_wp2_with fail
       refine (Zea w.heap.size b c2 p.B hB false Q4.out _ Hz.out.mB).mono ?_;rintro e w1 ⟨rfl,rfl⟩
       go_wp2_with fail
       go_ret;exact⟨Zac Hr.out,Hb.out⟩
      ·have Hr:Hid (Ve.good p.C=g):=by show _=_;rw[<-Hrest.out,q4];rfl
       have Q4:=zH q4;clear q4
       go_wp2_with fail
       refine (Zea w.heap.size b c2 p.B hB true Q4.out _ Hz.out.mB).mono ?_;rintro e w1 ⟨rfl,rfl⟩
       go_wp2_with fail
       refine (Zer w.heap.size c c3 p.C hC _ Hb.out.size Hz.out.mC).mono ?_;rintro e w1 ⟨rfl,hb1⟩;have Hb1:=zH (Hb.out.trans (hb1.mono Hb.out.size));rw[Hr.out];clear hb1
       go_wp2_with fail
       go_ret;exact⟨rfl,Hb1.out⟩
   ·have Hr:Hid (false=g):=(Zmp fun h=>q3 h.2.2).symm.trans Hg.out
    obtain⟨l1,l2⟩:=Zfx q3
    go_enter Tryz.func36,Tryz.ntmps36
    go_wp2_with fail
    go_ret;exact⟨Zac Hr.out,Hb.out⟩
  ·have Hr:Hid (false=g):=(Zmp fun h=>q2 h.2.1).symm.trans Hg.out
   have hq2:decide ((p.A.length:Int)>8)=true:=by rw[decide_eq_true_iff];omega
   go_enter Tryz.func36,Tryz.ntmps36
   go_wp2_with fail
   go_ret;exact⟨Zac Hr.out,Hb.out⟩
 ·have Hr:Hid (false=g):=(Zmp fun h=>q1 h.1).symm.trans Hg.out
  have hq1:decide ((p.C.length:Int)>70)=true:=by rw[decide_eq_true_iff];omega
  go_enter Tryz.func36,Tryz.ntmps36
  go_wp2_with fail
  go_ret;exact⟨Zac Hr.out,Hb.out⟩
end Go.Proofs.YtjfnleilddgjiaaGreat
