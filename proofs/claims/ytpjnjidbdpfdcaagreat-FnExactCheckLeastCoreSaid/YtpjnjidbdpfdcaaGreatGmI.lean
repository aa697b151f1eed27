/- impl's IsValidGame, ValueOf, GrandValue, EqualGame. -/
import Derived.Test.YtpjnjidbdpfdcaaGreatGmB
import Derived.Test.YtpjnjidbdpfdcaaGreatHNumOpen
set_option maxRecDepth 100000
set_option maxHeartbeats 1000000
namespace Go.Proofs.YtpjnjidbdpfdcaaGreat
open Go.RowKit
open Gm (G)
theorem Zel (n:Nat) (hn:n≤5) (w:World):Calls Tryz.prog 73 #[.int .i64 n] w fun e w'=>e=.returned (.int .i64 ((2 ^ n:Nat):Int))/\w'=w:=(Zby n hn w).mono fun _ _ ⟨h1,h2⟩=>⟨h1,h2.symm⟩
theorem Zam {w:World} {x y:Value} {g:G} (b:Bool) (hb:Gm.vld g=b) (h:GmC w x y g) (hf:GmOk g) :
  Calls Tryz.prog 71 #[.agg #[x,y]] w fun e w'=>e=.returned (.bool b)/\Below w.heap.size w w':=by
 obtain⟨gn,gv⟩:=g;obtain⟨a,c,rfl,rfl,hi⟩:=h;have hl:gv.length≤1048576:=hf.1;dsimp only at hi ⊢;have HBl:=zH ((Below.refl w.heap.size w).alloc (Nat.le_refl _) (.cells #[.int .i64 gn,.slice a gv.length c] 33));have HI:=zH (hi.below HBl.out);have HV:=zH hb;clear hi hb hf
 by_cases h1:1≤gn
 ·have d1:decide (1≤gn)=true:=decide_eq_true h1
  by_cases h2:gn≤5
  ·have d2:decide (gn≤5)=true:=decide_eq_true h2
   obtain⟨m,hm⟩:∃m:Nat,gn=m:=⟨gn.toNat,by omega⟩;subst hm;have HS:=zH (Zkg (g:=⟨(m:Int),gv⟩) rfl (by omega) (by omega));have hm5:m≤5:=by omega
   have hpw:2 ^ m≤32:=Nat.pow_le_pow_right (by omega) hm5;have hp1:1≤2 ^ m:=Nat.one_le_two_pow;have HC:=zH (fun W=>Zel m hm5 W)
   by_cases hlen:gv.length=2 ^ m
   ·have HS2:=zH (HS.out.trans (decide_eq_true hlen))
    have hpos:0<gv.length:=by omega
    have heq:((gv.length:Int) == ((2 ^ m:Nat):Int))=true:=by rw[hlen];simp
    obtain⟨bb,o,rfl,_,hc⟩:=HI.out 0 hpos;rw[Nat.add_zero] at hc
    rcases hw:Gm.within 500 gv with _|_
    ·have Hr:=zH ((Gm.Zgp (g:=⟨(m:Int),gv⟩) hw).symm.trans HV.out)
     have HW:=zH hw;clear hlen HS HS2 HV hw;generalize 2 ^ m=q at *
     go_enter Tryz.func71,Tryz.ntmps71
     go_wp2_with fail
     go_quiet (first | (go_at_call 73;exact Calls.quiet_of_same (HC.out _)) | (go_at_call 81;exact Calls.quiet_of_same (Zcq w.heap.size _ c gv 500 (by decide) (by decide) hl false HW.out _ (HI.out.drewN _))))
     go_wp2_with fail
     go_ret;exact⟨Zac Hr.out,below_drewN HBl.out nq⟩
    ·have Hr:=zH ((Gm.Zkp (g:=⟨(m:Int),gv⟩) HS2.out hw).symm.trans HV.out)
     have HW:=zH hw;have Hz:Hid ((gv.getD 0 0 == 0)=b):=by
      have:=Hr.out;unfold Gm.Zna at this;show _=_;rw[<-this,Bool.eq_iff_iff];simp
     clear hlen HS HS2 HV hw Hr;generalize 2 ^ m=q at *;generalize gv.getD 0 0=z at *
     go_enter Tryz.func71,Tryz.ntmps71
     go_wp2_with fail
     go_quiet (first | (go_at_call 73;exact Calls.quiet_of_same (HC.out _)) | (go_at_call 81;exact Calls.quiet_of_same (Zcq w.heap.size _ c gv 500 (by decide) (by decide) hl true HW.out _ (HI.out.drewN _))))
     go_wp2_with fail
     go_ret;exact⟨Zac Hz.out,below_drewN HBl.out nq⟩
   ·have Hr:=zH ((Gm.Zc2 (g:=⟨(m:Int),gv⟩) (HS.out.trans (decide_eq_false hlen))).symm.trans HV.out)
    have heq:((gv.length:Int) == ((2 ^ m:Nat):Int))=false:=(Zen hlen).1;clear hlen HS HV;generalize 2 ^ m=q at *
    go_enter Tryz.func71,Tryz.ntmps71
    go_wp2_with fail
    go_quiet (first | (go_at_call 73;exact Calls.quiet_of_same (HC.out _)))
    go_wp2_with fail
    go_ret;exact⟨Zac Hr.out,below_drewN HBl.out nq⟩
  ·have d2:decide (gn≤5)=false:=decide_eq_false h2
   have Hr:=zH ((Gm.Zc2 (g:=⟨gn,gv⟩) (Zji (by dsimp only;omega))).symm.trans HV.out);clear HV
   go_enter Tryz.func71,Tryz.ntmps71
   go_wp2_with fail
   go_quiet (fail)
   go_wp2_with fail
   go_ret;exact⟨Zac Hr.out,below_drewN HBl.out nq⟩
 ·have d1:decide (1≤gn)=false:=decide_eq_false h1
  have Hr:=zH ((Gm.Zc2 (g:=⟨gn,gv⟩) (Zji (by dsimp only;omega))).symm.trans HV.out);clear HV
  go_enter Tryz.func71,Tryz.ntmps71
  go_wp2_with fail
  go_quiet (fail)
  go_wp2_with fail
  go_ret;exact⟨Zac Hr.out,below_drewN HBl.out nq⟩
theorem Zcv {w:World} {x y:Value} {g:G} (h:GmC w x y g) (hf:GmOk g) :
  Calls Tryz.prog 62 #[.agg #[x,y]] w fun e w'=>e=.returned (.int .i64 (Gm.Zcs g))/\Below w.heap.size w w':=by
 rcases hv:Gm.vld g with _|_
 ·have Hg:=zH (Gm.Zjt hv)
  have HV:=zH hv;have Hb:=Zgh h 33;have HX:=zH Hb.1;have HB:=zH Hb.2;rw[Hg.out];clear hv Hb h
  go_enter Tryz.func62,Tryz.ntmps62
  go_wp2_with fail
  refine (Zam false HV.out HX.out hf).mono ?_;rintro e w1 ⟨rfl,k⟩;have HB1:=zH (HB.out.trans (k.mono HB.out.size));clear k
  go_wp2_with fail
  go_ret;exact⟨rfl,HB1.out⟩
 ·obtain⟨m,hm,z,hz⟩:∃m,g.v.length=m+1/\∃z,g.v.getD m 0=z:=⟨g.v.length-1,by have:=Gm.Zbp hv;omega,_,rfl⟩
  have Hg:=zH (show Gm.Zcs g=z by rw[Gm.Zfe hv,hm,<-hz];rfl);have HV:=zH hv;have hi0:=h;obtain⟨a,c,rfl,e1,hi⟩:=hi0;obtain⟨bb,o,rfl,_,hc⟩:=hi m (by omega);rw[hm] at e1;subst e1;rw[hz] at hc;have HX:=zH (Zgh h 33).1;have HB:=zH (Zgh h 33).2;have HC:=zH (Zaa.new w #[.int .i64 g.n,.slice (some ⟨bb,o,none⟩) (m+1) c] 33);have hm2:m≤1048576:=by have:=hf.1;omega
  have HK:=zH (show bb<w.heap.size/\w.cell? ⟨bb,o+m,none⟩=some (.int .i64 z) from ⟨by assumption,hc⟩);rw[Hg.out];clear hv h hi hc hm hz
  go_enter Tryz.func62,Tryz.ntmps62
  go_wp2_with fail
  refine (Zam true HV.out HX.out hf).mono ?_;rintro e w1 ⟨rfl,k⟩;have HB1:=zH (HB.out.trans (k.mono HB.out.size));obtain⟨m0,m1⟩:=two (HC.out.below k);have hc1:w1.cell? ⟨bb,o+m,none⟩=some (.int .i64 z):=(HB1.out.cell (p:=⟨bb,o+m,none⟩) HK.out.1).trans HK.out.2;clear k
  go_wp2_with fail
  go_ret;exact⟨rfl,HB1.out⟩
end Go.Proofs.YtpjnjidbdpfdcaaGreat
