/- The parts PyF, PyG. -/
import Derived.Test.YtjfnleilddgjiaaGreatPyD
import Derived.Test.YtjfnleilddgjiaaGreatGVb
import Derived.Test.YtjfnleilddgjiaaGreatHPyP
namespace Go.Proofs.YtjfnleilddgjiaaGreat
open Go.RowKit
open Ve (R)
open Gm (G)
set_option maxRecDepth 100000 in
set_option maxHeartbeats 4000000 in
theorem Zsd {w:World} {x y v:Value} {g:G} {xs:List R} (r:Bool) (hrr:Py.inC g xs=r) (h:GmC w x y g) (hv:Zcc w v xs) (hf:GmOk g) (hx:xs.length≤1048576) :
  Calls Tryz.prog 31 #[.agg #[x,y],v] w fun e w'=>e=.returned (.bool r)/\Below w.heap.size w w':=by
 obtain⟨gn,gv⟩:=g;obtain⟨a,c,rfl,rfl,hi⟩:=h;obtain⟨W,hW⟩:∃W,W=w.alloc (.cells #[.int .i64 gn,.slice a gv.length c] 30):=⟨_,rfl⟩;have hb:=(Below.refl w.heap.size w).alloc (Nat.le_refl _) (.cells #[.int .i64 gn,.slice a gv.length c] 30);rw[<-hW] at hb;have HX:=zH (show GmC W (.int .i64 gn) (.slice a gv.length c) ⟨gn,gv⟩ from GmC.up ⟨a,c,rfl,rfl,hi⟩ hb);have HV:=zH (hv.up hb);have hlv:gv.length≤1048576:=hf.1;have HW:=zH hW;have HB:=zH hb;have HF:=zH hf;have hlo:=hb.size;have hll:=Py.Z1x ⟨gn,gv⟩ xs;clear hW hb hv hi hf;obtain⟨K,hK⟩:∃K,Py.okE ⟨gn,gv⟩ xs=K:=⟨_,rfl⟩;have HK:=zH hK;have HR:=zH hrr;clear hK hrr
 go_enter Tryz.func31,Tryz.ntmps31
 go_wp2_with fail
 ·rw[<-HW.out]
  refine (Zsf HX.out HV.out HF.out hx).mono ?_;rw[HK.out];rintro e w1 ⟨u,rfl,ho,hb1⟩;obtain⟨l,hl⟩:∃l,Py.lst ⟨gn,gv⟩ xs=l:=⟨_,rfl⟩;rw[hl] at ho hll;have HL:=zH hl;obtain⟨al,cl,rfl,hal,hpl,hnl⟩:=Zai ho;have HA:=zH hal;have HP:=zH hpl;have HB1:=zH (HB.out.trans (hb1.mono hlo));clear hl ho hb1 hal hpl hnl;have hrl:Hid ((K && Py.low l l.length)=r):=by show _=_;rw[<-HR.out,<-HK.out,<-HL.out];rfl
  clear HR HK HL
  go_wp2_with fail
  go_loop [7] (fun i=>∃k:Nat,k≤l.length/\i=.int .i64 k/\Hid (Py.low l k=true)) (fun i=>l.length-(intOf i).toNat)
  case atStart=>exact⟨0,Nat.zero_le _,rfl,rfl⟩
  case round=>
   obtain⟨k,hk,rfl,hA⟩:=hrel
   by_cases hlt:k<l.length
   ·obtain⟨b,o,rfl,hbl,p0,p1⟩:=HA.out.at k hlt
    have Hno:=zH (fun h=>Py.Z0v (l:=l) (k:=k) h hlt);have Hyes:=zH (fun h=>Py.Z1w (l:=l) (k:=k) hA.out h);generalize Ve.at_ l k=x at *
    by_cases hz:0<x.1
    ·have d:decide (0<x.1)=true:=by rw[decide_eq_true_iff];exact hz
     have HR2:Hid (false=r):=by show _=_;rw[<-hrl.out,Hno.out hz];simp
     clear Hno Hyes hrl
     go_wp2_with fail
     go_ret;exact⟨Zac HR2.out,HB1.out⟩
    ·have d:decide (0<x.1)=false:=by rw[decide_eq_false_iff_not];exact hz
     have HA2:=zH (Hyes.out hz);clear Hno Hyes
     go_wp2_with fail
     go_round
     case rel=>exact⟨k+1,by omega,by go_num,HA2⟩
     case measure=>simp[intOf];omega
   ·have he:k=l.length:=by omega
    have HR2:Hid (K=r):=by show _=_;rw[<-hrl.out,<-he,hA.out];simp
    clear he hrl
    go_wp2_with fail
    go_ret;exact⟨Zac HR2.out,HB1.out⟩
end Go.Proofs.YtjfnleilddgjiaaGreat
