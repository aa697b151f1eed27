/- The specification's IsValidGame, ValueOf, GrandValue, EqualGame. -/
import Derived.Test.YtpjnjidbdpfdcaaGreatGmA
import Derived.Test.YtpjnjidbdpfdcaaGreatHLeN
set_option maxRecDepth 100000
set_option maxHeartbeats 1000000
namespace Go.Proofs.YtpjnjidbdpfdcaaGreat
open Go.RowKit
open Gm (G)
theorem Zgh {w:World} {x y:Value} {g:G} (h:GmC w x y g) (t:TypeId):GmC (w.alloc (.cells #[x,y] t)) x y g/\Below w.heap.size w (w.alloc (.cells #[x,y] t)):=
 ⟨h.up ((Below.refl _ _).alloc (Nat.le_refl _) _),(Below.refl _ _).alloc (Nat.le_refl _) _⟩
theorem Zb8 (x a b:Int) (r:Bool) (h:decide (a≤x/\x≤b)=r) (w:World):Calls Tryz.prog 46 #[.int .i64 x,.int .i64 a,.int .i64 b] w fun e w'=>e=.returned (.bool r)/\w'=w:=(Zap x a b r h w).mono fun _ _ ⟨h1,h2⟩=>⟨h1,h2.symm⟩
theorem Zic (n:Nat) (hn:n≤5) (w:World):Calls Tryz.prog 47 #[.int .i64 n] w fun e w'=>e=.returned (.int .i64 ((2 ^ n:Nat):Int))/\w'=w:=(Zbz n hn w).mono fun _ _ ⟨h1,h2⟩=>⟨h1,h2.symm⟩
theorem Zji {g:G} (h:¬(1≤g.n/\g.n≤5)):Gm.shape g=false:=by unfold Gm.shape;simp only[h,decide_false,Bool.false_and]
theorem Zkg {g:G} {m:Nat} (h:g.n=m) (h1:1≤m) (h2:m≤5):Gm.shape g=decide (g.v.length=2 ^ m):=by
 have h3:(1≤g.n/\g.n≤5):=by omega
 have h4:g.n.toNat=m:=by omega
 unfold Gm.shape;rw[h4,decide_eq_true h3];rfl
theorem Zaq {w:World} {x y:Value} {g:G} (b:Bool) (hb:Gm.vld g=b) (h:GmC w x y g) (hf:GmOk g) :
  Calls Tryz.prog 27 #[.agg #[x,y]] w fun e w'=>e=.returned (.bool b)/\Below w.heap.size w w':=by
 obtain⟨gn,gv⟩:=g;obtain⟨a,c,rfl,rfl,hi⟩:=h;have hl:gv.length≤1048576:=hf.1;dsimp only at hi ⊢;have HBl:=zH ((Below.refl w.heap.size w).alloc (Nat.le_refl _) (.cells #[.int .i64 gn,.slice a gv.length c] 33));have HI:=zH (hi.below HBl.out);have HV:=zH hb;clear hi hb hf
 go_enter Tryz.func27,Tryz.ntmps27
 go_wp2_with fail
 go_loop [3] (fun i=>∃k:Nat,k≤gv.length/\i=.int .i64 k/\Hid (∀j,j<k->decide (-500≤gv.getD j 0/\gv.getD j 0≤500)=true)) (fun i=>gv.length-(intOf i).toNat)
 case atStart=>exact⟨0,Nat.zero_le _,rfl,fun j hj=>absurd hj (by omega)⟩
 case round=>
  obtain⟨k,hk,rfl,hA⟩:=hrel
  by_cases hlt:k<gv.length
  ·obtain⟨bb,o,rfl,_,hc⟩:=HI.out k hlt
   rcases hv:decide (-500≤gv.getD k 0/\gv.getD k 0≤500) with _|_
   ·have Hr:=zH (show false=b from (Gm.Zgp (g:=⟨gn,gv⟩) (Gm.Zii hlt hv)).symm.trans HV.out)
    generalize gv.getD k 0=x at *;have Hv:=zH hv;clear hv
    go_wp2_with fail
    refine (Zap x (-500) 500 false Hv.out _).mono ?_;rintro e w1 ⟨rfl,rfl⟩
    go_wp2_with fail
    go_ret;exact⟨Zac Hr.out,HBl.out⟩
   ·have HA2:Hid (∀j,j<k+1->decide (-500≤gv.getD j 0/\gv.getD j 0≤500)=true):=fun j hj=>by
     by_cases e:j=k
     ·subst e;exact hv
     ·exact hA.out j (by omega)
    generalize gv.getD k 0=x at *;have Hv:=zH hv;clear hv
    go_wp2_with fail
    refine (Zap x (-500) 500 true Hv.out _).mono ?_;rintro e w1 ⟨rfl,rfl⟩
    go_wp2_with fail
    go_round
    case rel=>exact⟨k+1,by omega,by go_num,HA2⟩
    case measure=>simp[intOf];omega
  ·have HW:=zH (Gm.Zgq fun j hj=>hA.out j (by omega))
   clear hA
   by_cases hn:1≤gn/\gn≤5
   ·obtain⟨m,hm⟩:∃m:Nat,gn=m:=⟨gn.toNat,by omega⟩
    subst hm;have HS:=zH (Zkg (g:=⟨(m:Int),gv⟩) rfl (by omega) (by omega));have Hd:=zH (show decide (1≤(m:Int)/\(m:Int)≤5)=true by rw[decide_eq_true_iff];omega);have hm5:m≤5:=by omega
    have hpw:2 ^ m≤32:=Nat.pow_le_pow_right (by omega) hm5;have hp1:1≤2 ^ m:=Nat.one_le_two_pow;have HC:=zH (fun W=>Zic m hm5 W);clear hn
    by_cases hlen:gv.length=2 ^ m
    ·have HS2:=zH (HS.out.trans (decide_eq_true hlen))
     have Hr:=zH ((Gm.Zkp (g:=⟨(m:Int),gv⟩) HS2.out HW.out).symm.trans HV.out);have hpos:0<gv.length:=by omega
     have heq:((gv.length:Int) == ((2 ^ m:Nat):Int))=true:=by rw[hlen];simp
     obtain⟨bb,o,rfl,_,hc⟩:=HI.out 0 hpos;rw[Nat.add_zero] at hc;have Hz:Hid ((gv.getD 0 0 == 0)=b):=by
      have:=Hr.out;unfold Gm.Zna at this;show _=_;rw[<-this,Bool.eq_iff_iff];simp
     clear hlen HS HS2 Hr HV HW;generalize 2 ^ m=q at *;generalize gv.getD 0 0=z at *
     go_wp2_with fail
     go_quiet (first | (go_at_call 46;exact Calls.quiet_of_same (Zb8 m 1 5 true Hd.out _)) | (go_at_call 47;exact Calls.quiet_of_same (HC.out _)))
     go_wp2_with fail
     go_ret;exact⟨Zac Hz.out,below_drewN HBl.out nq⟩
    ·have Hr:=zH ((Gm.Zc2 (g:=⟨(m:Int),gv⟩) (HS.out.trans (decide_eq_false hlen))).symm.trans HV.out)
     have heq:((gv.length:Int) == ((2 ^ m:Nat):Int))=false:=(Zen hlen).1;clear hlen HS HV HW;generalize 2 ^ m=q at *
     go_wp2_with fail
     go_quiet (first | (go_at_call 46;exact Calls.quiet_of_same (Zb8 m 1 5 true Hd.out _)) | (go_at_call 47;exact Calls.quiet_of_same (HC.out _)))
     go_wp2_with fail
     go_ret;exact⟨Zac Hr.out,below_drewN HBl.out nq⟩
   ·have Hr:=zH ((Gm.Zc2 (g:=⟨gn,gv⟩) (Zji hn)).symm.trans HV.out)
    have Hd:=zH (show decide (1≤gn/\gn≤5)=false by rw[decide_eq_false_iff_not];exact hn);clear hn HV HW
    go_wp2_with fail
    go_quiet (first | (go_at_call 46;exact Calls.quiet_of_same (Zb8 gn 1 5 false Hd.out _)))
    go_wp2_with fail
    go_ret;exact⟨Zac Hr.out,below_drewN HBl.out nq⟩
theorem Zc0 {w:World} {x y:Value} {g:G} (h:GmC w x y g) (hf:GmOk g) :
  Calls Tryz.prog 29 #[.agg #[x,y]] w fun e w'=>e=.returned (.int .i64 (Gm.Zcs g))/\Below w.heap.size w w':=by
 rcases hv:Gm.vld g with _|_
 ·have Hg:=zH (Gm.Zjt hv)
  have HV:=zH hv;have Hb:=Zgh h 33;have HX:=zH Hb.1;have HB:=zH Hb.2;rw[Hg.out];clear hv Hb h
  go_enter Tryz.func29,Tryz.ntmps29
  go_wp2_with fail
  refine (Zaq false HV.out HX.out hf).mono ?_;rintro e w1 ⟨rfl,k⟩;have HB1:=zH (HB.out.trans (k.mono HB.out.size));clear k
  go_wp2_with fail
  go_ret;exact⟨rfl,HB1.out⟩
 ·obtain⟨m,hm,z,hz⟩:∃m,g.v.length=m+1/\∃z,g.v.getD m 0=z:=⟨g.v.length-1,by have:=Gm.Zbp hv;omega,_,rfl⟩
  have Hg:=zH (show Gm.Zcs g=z by rw[Gm.Zfe hv,hm,<-hz];rfl);have HV:=zH hv;have hi0:=h;obtain⟨a,c,rfl,e1,hi⟩:=hi0;obtain⟨bb,o,rfl,_,hc⟩:=hi m (by omega);rw[hm] at e1;subst e1;rw[hz] at hc;have HX:=zH (Zgh h 33).1;have HB:=zH (Zgh h 33).2;have HC:=zH (Zaa.new w #[.int .i64 g.n,.slice (some ⟨bb,o,none⟩) (m+1) c] 33);have hm2:m≤1048576:=by have:=hf.1;omega
  have HK:=zH (show bb<w.heap.size/\w.cell? ⟨bb,o+m,none⟩=some (.int .i64 z) from ⟨by assumption,hc⟩);rw[Hg.out];clear hv h hi hc hm hz
  go_enter Tryz.func29,Tryz.ntmps29
  go_wp2_with fail
  refine (Zaq true HV.out HX.out hf).mono ?_;rintro e w1 ⟨rfl,k⟩;have HB1:=zH (HB.out.trans (k.mono HB.out.size));obtain⟨m0,m1⟩:=two (HC.out.below k);have hc1:w1.cell? ⟨bb,o+m,none⟩=some (.int .i64 z):=(HB1.out.cell (p:=⟨bb,o+m,none⟩) HK.out.1).trans HK.out.2;clear k
  go_wp2_with fail
  go_ret;exact⟨rfl,HB1.out⟩
end Go.Proofs.YtpjnjidbdpfdcaaGreat
