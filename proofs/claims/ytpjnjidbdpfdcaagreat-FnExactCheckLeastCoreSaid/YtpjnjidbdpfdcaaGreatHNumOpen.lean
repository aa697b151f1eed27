/- The parts WiB, NumOpen. -/
import Derived.Test.YtpjnjidbdpfdcaaGreatNumI
import Derived.Test.YtpjnjidbdpfdcaaGreatGB
import Derived.Deep.Matrix
import Derived.Lib.SmallJoins
namespace Go.Proofs.YtpjnjidbdpfdcaaGreat
open Go.RowKit
set_option maxRecDepth 100000 in
set_option maxHeartbeats 1000000 in
theorem Zdb (B:Nat) (a:Option Addr) (c:Nat) (l:List Int) (m:Int) (hm:0≤m) (hm':m≤1000000000000000000) (hn:l.length≤1048576) (g:Bool) (hg:Gm.within m l=g) (w:World) (h1:Zal B w a l) :
  Calls Tryz.prog 81 #[.slice a l.length c,.int .i64 m] w fun e w'=>e=.returned (.bool g)/\w=w':=by
 have H1:=zH h1;have Hg:=zH hg;clear h1 hg
 go_enter Tryz.func81,Tryz.ntmps81
 go_wp2_with fail
 go_loop [9] (fun i=>∃k:Nat,k≤l.length/\i=.int .i64 k/\Hid (∀j,j<k->decide (-m≤l.getD j 0/\l.getD j 0≤m)=true)) (fun i=>l.length-(intOf i).toNat)
 case atStart=>exact⟨0,Nat.zero_le _,rfl,fun j hj=>absurd hj (by omega)⟩
 case round=>
  obtain⟨k,hk,rfl,hA⟩:=hrel
  by_cases hlt:k<l.length
  ·obtain⟨b,o,rfl,_,hc⟩:=H1.out k hlt
   rcases hv:decide (-m≤l.getD k 0/\l.getD k 0≤m) with _|_
   ·have Hr:=zH (show false=g from (Gm.Zii hlt hv).symm.trans Hg.out)
    generalize l.getD k 0=x at *;have Hv:=zH hv;clear hv
    go_wp2_with fail
    refine (Zao x m false Hv.out hm hm' _).mono ?_;rintro e w1 ⟨rfl,rfl⟩
    go_wp2_with fail
    go_ret;exact⟨Zac Hr.out,rfl⟩
   ·have HA2:Hid (∀j,j<k+1->decide (-m≤l.getD j 0/\l.getD j 0≤m)=true):=fun j hj=>by
     by_cases e:j=k
     ·subst e;exact hv
     ·exact hA.out j (by omega)
    generalize l.getD k 0=x at *;have Hv:=zH hv;clear hv
    go_wp2_with fail
    refine (Zao x m true Hv.out hm hm' _).mono ?_;rintro e w1 ⟨rfl,rfl⟩
    go_wp2_with fail
    go_round
    case rel=>exact⟨k+1,by omega,by go_num,HA2⟩
    case measure=>simp[intOf];omega
  ·have Hr:=zH (show true=g by rw[<-Hg.out];exact (Gm.Zgq fun j hj=>hA.out j (by omega)).symm)
   go_wp2_with fail
   go_ret;exact⟨Zac Hr.out,rfl⟩
theorem Zcq (B:Nat) (a:Option Addr) (c:Nat) (l:List Int) (m:Int) (hm:0≤m) (hm':m≤1000000000000000000) (hn:l.length≤1048576) (g:Bool) (hg:Gm.within m l=g) (w:World) (h1:Zal B w a l) :
  Calls Tryz.prog 81 #[.slice a l.length c,.int .i64 m] w fun e w'=>e=.returned (.bool g)/\w'=w:=(Zdb B a c l m hm hm' hn g hg w h1).mono fun _ _ ⟨h1,h2⟩=>⟨h1,h2.symm⟩
open Go.RowKit Go.Deep Go.ChangeShapes Go.WideShapes
theorem Zny {W:World} {a:Addr} {v:Value} (h:W.cell? (a.add 0)=some v):∃b o,a=⟨b,o,none⟩:=by
 obtain⟨b,o,sp⟩:=a;have h2:=World.cell?_spot h;unfold Addr.add at h2;rw[if_pos (by decide)] at h2;have hs:sp=none:=h2;subst hs;exact⟨b,o,rfl⟩
theorem Zpi {W:World} {A:Option Addr} {l:Nat} {zs:List Int} (hl:l≤zs.length) (hn:A=none->l=0) (hc:∀a',A=some a'->∀c,c<zs.length->W.cell? (a'.add c)=some (.int .i64 (zs.getD c 0))):Zal W.heap.size W A (zs.take l):=fun j hj=>by
 have hj2:j<l:=by simp at hj;omega
 cases hA:A with
 | none=>have:=hn hA;omega
 | some a=>
  have h0:=hc a hA 0 (by omega);obtain⟨b,o,rfl⟩:=Zny h0;have h1:=hc _ hA j (by omega);rw[Zob] at h1;refine⟨b,o,rfl,block_lt_of_cell (a:=⟨b,o+j,none⟩) h1,?_⟩;rw[h1];simp[List.getD_eq_getElem?_getD,hj2]
theorem Zl6 {H:Type} {enc:TypeId×Value->H} {W:World} {fuel:Nat} {v:Value} {x:DataW H×List MemPlace}
  (h:DataW.trod enc Tryz.prog W 0 (fun _=>true) true fuel 22 [v]=some x):∃(a:Option Addr) (c:Nat) (l:List Int),v=.slice a l.length c/\l.length≤9223372036854775807/\Zal W.heap.size W a l:=by
 rcases open_ints Tryz.underlying22 Tryz.underlying3 (by kernel_rfl) h with ⟨hcs,_⟩ | ⟨a,len,cap,zs,hcs,_,hl,hm,hz,_,hcell,hwz⟩
 ·simp at hcs
  subst hcs;exact⟨none,0,[],rfl,by decide,fun j hj=>by simp at hj⟩
 ·simp at hcs
  subst hcs;simp only[if_true] at hz;unfold maxLen at hm;refine⟨some a,cap,zs.take len,?_,?_,Zpi (by omega) (fun e=>by cases e) fun a' e c hc=>?_⟩
  ·rw[List.length_take];congr 1;omega
  ·rw[List.length_take];omega
  ·cases e;exact hcell c hc
end Go.Proofs.YtpjnjidbdpfdcaaGreat
