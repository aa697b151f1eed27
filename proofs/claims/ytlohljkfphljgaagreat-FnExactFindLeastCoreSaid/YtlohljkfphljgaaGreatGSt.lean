/- The parts StJ, StB, StC, StL1, StL2. -/
import Derived.Test.YtlohljkfphljgaaGreatGTd
import Derived.Test.YtlohljkfphljgaaGreatGLa
import Derived.Lib.AppendZeros
import Derived.Test.YtlohljkfphljgaaGreatGMt
import Derived.Test.YtlohljkfphljgaaGreatGTo
import Derived.Test.YtlohljkfphljgaaGreatGLp
import Derived.Test.YtlohljkfphljgaaGreatGVc
import Derived.Test.YtlohljkfphljgaaGreatHGrI
import Derived.Test.YtlohljkfphljgaaGreatGTi
import Derived.Test.YtlohljkfphljgaaGreatStA
import Derived.Test.YtlohljkfphljgaaGreatHLpI1
import Derived.Test.YtlohljkfphljgaaGreatGLk
set_option maxRecDepth 100000
set_option maxHeartbeats 4000000
namespace Go.Proofs.YtlohljkfphljgaaGreat
open Go.RowKit
open Ve (R)
theorem Zve (n:Nat) (hn:n≤4000000) (w:World):Calls Tryz.prog 206 #[.slice none 0 0,.int .i64 n] w fun e w'=>∃v,e=.returned v/\Zad w.heap.size w' v []/\Below w.heap.size w w':=by
 obtain⟨i0,hi,hz0,hz1,hz2⟩:=info_parts Zdc;have hneg:decide ((n:Int)<0)=false:=by rw[decide_eq_false_iff_not];omega
 by_cases h0:n=0
 ·subst h0
  go_enter Tryz.func206,Tryz.ntmps206
  go_wp2_with fail
  go_ret;exact⟨_,rfl,World.ownsRow_nil _ _ _ _,Below.refl _ _⟩
 ·have hpos:decide ((n:Int)>0)=true:=by rw[decide_eq_true_iff];omega
  have hrun:=fun ty=>Lib.run_append_nil_zeros (P:=Tryz.prog) w 25 3 ty 3 i0 (.int .i64 0) .i64 .i64 Tryz.underlying25 Tryz.underlying3 hi hz0 n (by omega) (by rw[hz1];decide) (by omega) (by rw[hz2];omega)
  have hcap:=grownCap_ge w n 0 3;have hmax:=grownCap_le_maxLen w n 0 3 (by unfold maxLen;omega);have Hown:Hid (Zad w.heap.size (w.drew.alloc (.cells (Builtin.zeroCells (Value.int .i64 0).cells n++Builtin.zeroCells (Value.int .i64 0).cells (grownCap w n 0 3-n)) 3)) (.slice (some ⟨w.heap.size,0,none⟩) 0 (grownCap w n 0 3)) []):=by
   refine World.ownsRow_made w.drew _ _ (Nat.le_refl _) hmax ?_;rw[Array.size_append,size_zeroCells,size_zeroCells,<-Nat.add_mul,Nat.add_sub_cancel' hcap];rfl
  have Hb:=zH ((Below.refl w.heap.size w).drew.alloc (Nat.le_refl _) (.cells (Builtin.zeroCells (Value.int .i64 0).cells n++Builtin.zeroCells (Value.int .i64 0).cells (grownCap w n 0 3-n)) 3));have hRun:=zH hrun;have hcap0:(0:Int)≤(grownCap w n 0 3:Int):=by omega
  generalize grownCap w n 0 3=cap at *;clear hrun hi hz0 hz1 hz2
  go_enter Tryz.func206,Tryz.ntmps206
  go_wp2_with (at_builtin;refine Lib.wpList_append_run _ rfl (.tmp 20) (.tmp 21) 25 3 rfl _ _ rfl rfl _ _ (hRun.out _) ?_)
  go_ret;exact⟨_,rfl,Hown.out,Hb.out⟩
theorem Zpa:∀L:List (List Int),L.flatten.length=cellsOf L
 | []=>rfl
 | r::L=>by simp[cellsOf,Zpa L]
theorem Zt0 (L:List (List Int)) (k:Nat) (h:k<L.length):(L.take (k+1)).flatten=(L.take k).flatten++rw_ L k:=by
 rw[List.take_add_one,Z2w h];simp
theorem Zqt (B:Nat) (a:Option Addr) (c:Nat) (L:List (List Int)) (hl:L.length≤1048576) (hn:cellsOf L≤2000000) (w:World) (hBw:B≤w.heap.size) (h:Zgc B w a L) :
  Calls Tryz.prog 178 #[.slice a L.length c] w (fun e w'=>∃v,e=.returned v/\Zad w.heap.size w' v L.flatten/\Below w.heap.size w w'):=by
 have H:=zH (h.mono hBw);have HL:=zH (fun k (hk:k<L.length)=>Zkm L k hk);obtain⟨X,hX⟩:∃X,L.flatten=X:=⟨_,rfl⟩;have HX:=zH hX;rw[hX];clear h hX
 go_enter Tryz.func178,Tryz.ntmps178
 go_wp2_with fail
 go_loop [3,11] (fun q i=>∃(k m:Nat),k≤L.length/\m≤2000000/\q=.int .i64 m/\i=.int .i64 k/\Hid (m=cellsOf (L.take k))) (fun _ i=>L.length-(intOf i).toNat)
 case atStart=>exact⟨0,0,Nat.zero_le _,Nat.zero_le _,rfl,rfl,(by show 0=_;simp[cellsOf])⟩
 case round=>
  obtain⟨k,m,hk,hm,rfl,rfl,hq⟩:=hrel
  by_cases hlt:k<L.length
  ·obtain⟨b,o,a',c',rfl,_,hcell,_⟩:=H.out k hlt
   have ht:=Zo0 L k hlt;have hle:cellsOf (L.take (k+1))≤cellsOf L:=Zmu L (k+1);have hq2:=hq.out;have hb:m+(rw_ L k).length≤2000000:=by omega
   have Hq3:Hid (m+(rw_ L k).length=cellsOf (L.take (k+1))):=by show _=_;omega
   have hneg:decide ((m:Int)+((rw_ L k).length:Int)<0)=false:=by rw[decide_eq_false_iff_not];omega
   have hs1:IntKind.i64.wrap ((m:Int)+((rw_ L k).length:Int))=(m:Int)+((rw_ L k).length:Int):=IntWalk.i64_in _ (by omega);clear ht hle hq2;generalize (rw_ L k).length=n at *
   go_wp2_with fail
   go_round
   case rel=>exact⟨k+1,m+n,by omega,hb,by go_num,by go_num,Hq3⟩
   case measure=>simp[intOf];omega
  ·have he:k=L.length:=by omega
   have Hm:Hid (m=cellsOf L):=by
    have:=hq.out;rw[he,List.take_of_length_le (Nat.le_refl _)] at this;exact this
   have HG:=zH (fun W=>Zve m (by omega) W)
   go_wp2_with fail
   refine (HG.out _).mono ?_;rintro e w1 ⟨v,rfl,ho,hb⟩;have HO:=zH ho;have HB:=zH hb;clear ho hb HG hlt he hq
   go_wp2_with fail
   go_loopw [6,27] (fun v i wr=>∃(k:Nat) (u:Value),u=v/\k≤L.length/\i=.int .i64 k/\Hid (Zad w.heap.size wr u (L.take k).flatten)/\Hid (Below w.heap.size w wr)) (fun _ i _=>L.length-(intOf i).toNat)
   case atStart=>exact⟨0,_,rfl,Nat.zero_le _,rfl,HO,HB⟩
   case round=>
    clear hk HO HB;obtain⟨k,u,rfl,hk,rfl,hO,hB⟩:=hrel
    by_cases hlt:k<L.length
    ·obtain⟨b,o,a',c',rfl,_,hcell,hrow⟩:=(H.out.below hB.out) k hlt
     have hlen:(L.take k).flatten.length+(rw_ L k).length≤4000000:=by
      rw[Zpa];have h1:cellsOf (L.take k)≤cellsOf L:=Zmu L k;have h2:=HL.out k hlt;omega
     have HR:=zH hrow;have He:=zH (Zt0 L k hlt);have hsz:=hB.out.size;clear hrow;generalize (L.take k).flatten=xs at *
     go_wp2_with (at_builtin;refine Zcl rfl _ _ rfl w.heap.size _ xs rfl hO.out a' (rw_ L k) _ c' rfl rfl _ HR.out hlen hsz ?_)
     intro v' w3 hown hgrow;have Ho:=zH hown;have Hb:=zH (hB.out.grown hgrow hsz (fun g hg=>(World.ownsRow.lt hO.out g hg).1));rw[<-He.out] at Ho;clear hown hgrow
     go_wp2_with fail
     go_roundw
     case rel=>exact⟨k+1,_,rfl,by omega,by go_num,Ho,Hb⟩
     case measure=>simp[intOf];omega
    ·have he:k=L.length:=by omega
     have HF:Hid (Zad w.heap.size wr u X):=by
      have:=hO.out;rw[he,List.take_of_length_le (Nat.le_refl _),HX.out] at this;exact this
     go_wp2_with fail
     go_ret;exact⟨_,rfl,HF.out,hB.out⟩
open Ta (T)
open Lp (P)
def Zil (l:List Int) (j:Nat):List Int:=(l.take j).map (fun x=>-x)++l.drop j
theorem Zua (l:List Int):Zil l 0=l:=by simp[Zil]
theorem Zv8 {l:List Int} {j:Nat} (h:j≤l.length):(Zil l j).length=l.length:=by simp[Zil];omega
theorem Zyp {l:List Int} {j:Nat} (h:j<l.length):(Zil l j).getD j 0=l.getD j 0:=by
 unfold Zil;have hl:((l.take j).map (fun x=>-x)).length=j:=by rw[List.length_map,List.length_take];omega
 rw[List.getD_eq_getElem?_getD,List.getD_eq_getElem?_getD,List.getElem?_append_right (by omega),hl,List.getElem?_drop];simp
theorem Zt9 {l:List Int} {j:Nat} (h:j<l.length):(Zil l j).set j (-(l.getD j 0))=Zil l (j+1):=by
 unfold Zil;have hl:((l.take j).map (fun x=>-x)).length=j:=by rw[List.length_map,List.length_take];omega
 rw[List.set_append_right _ _ (by omega),hl,Nat.sub_self,List.drop_eq_getElem_cons h,List.set_cons_zero,List.take_add_one,List.map_append,List.getD_eq_getElem?_getD,List.getElem?_eq_getElem h,List.append_assoc];rfl
theorem Zv7 (l:List Int):Zil l l.length=l.map (fun x=>-x):=by simp[Zil]
def num0 (p:P) (k:Nat):List Int:=Lp.row p k++(Lp.Zbr p.A.length++[p.B.getD k 0])
def num1 (p:P) (k:Nat):List Int:=(Lp.row p k).map (fun x=>Ta.sg p k*x)++(Lp.Zbr p.A.length++[Ta.sg p k*p.B.getD k 0])
theorem Z08 {p:P} {k:Nat} (h:¬p.B.getD k 0<0):num0 p k=num1 p k:=by
 have e:Ta.sg p k=1:=by unfold Ta.sg;rw[if_neg h]
 unfold num0 num1;rw[e];simp
theorem Z07 {p:P} {k:Nat} (h:p.B.getD k 0<0):(num0 p k).map (fun x=>-x)=num1 p k:=by
 have e:Ta.sg p k=-1:=by unfold Ta.sg;rw[if_pos h]
 unfold num0 num1;rw[e];simp[Lp.Zbr]
theorem Z09 {p:P} {k:Nat} (h:(Lp.row p k).length=p.C.length) (hk:k<p.A.length):(num1 p k).set (p.C.length+k) 1=Ta.nums p k:=by
 unfold num1 Ta.nums;have hl:((Lp.row p k).map (fun x=>Ta.sg p k*x)).length=p.C.length:=by rw[List.length_map,h]
 rw[List.set_append_right _ _ (by omega),hl,Nat.add_sub_cancel_left,List.set_append_left _ _ (by simp[Lp.Zbr];exact hk)]
 congr 2
 refine List.ext_getElem? fun j=>?_
 by_cases hj:j<p.A.length
 ·by_cases e:j=k
  ·subst e
   rw[List.getElem?_set_self (by simp[Lp.Zbr];exact hk)];simp[Ta.Zjf,hj]
  ·rw[List.getElem?_set_ne (fun e2=>e e2.symm)]
   simp[Ta.Zjf,Lp.Zbr,hj,e]
 ·rw[List.getElem?_eq_none (by simp[Lp.Zbr];omega),List.getElem?_eq_none (by simp[Ta.Zjf];omega)]
theorem Zud {p:P} (h:Lp.vldP p=true) {k:Nat} (hk:k<p.A.length):∀z∈num0 p k,-5000≤z/\z≤5000:=by
 obtain⟨h1,_,_,_,h5,_⟩:=Lp.Zas h;have h2:=(Lp.Zed h1 hk).2;intro z hz;unfold num0 at hz;rw[List.mem_append,List.mem_append] at hz
 rcases hz with hz|hz|hz
 ·exact Ta.Zp2 h2 hz
 ·unfold Lp.Zbr at hz
  obtain⟨i,_,rfl⟩:=List.mem_map.1 hz;omega
 ·have:z=p.B.getD k 0:=by simpa using hz
  subst this;exact Ta.Zir h5 k
theorem Zsz {p:P} {k:Nat} (h:(Lp.row p k).length=p.C.length):(num0 p k).length=p.C.length+p.A.length+1:=by simp[num0,Lp.Zbr,h];omega
theorem Zyu {p:P} {k:Nat} (h:(Lp.row p k).length=p.C.length):(num1 p k).length=p.C.length+p.A.length+1:=by simp[num1,Lp.Zbr,h];omega
theorem Zn5 (B:Nat) (a b c:Option Addr) (c1 c2 c3:Nat) (p:P) (hv:Lp.vldP p=true) (hcap:p.B.length≤c2) (k:Nat) (hk:k<p.A.length) (w:World) (hBw:B≤w.heap.size) (hz:LpIn B w a b c p) :
  Calls Tryz.prog 128 #[.agg #[.slice a p.A.length c1,.slice b p.B.length c2,.slice c p.C.length c3],.int .i64 k] w (Zbg (Ta.Zcj p k) w):=by
 have hb:=((Below.refl w.heap.size w).alloc (Nat.le_refl _) (.cells #[.slice a p.A.length c1,.slice b p.B.length c2,.slice c p.C.length c3] 28));have HZ:=zH ((hz.mono hBw).below hb);have hx:=Tri.new w (.slice a p.A.length c1) (.slice b p.B.length c2) (.slice c p.C.length c3) 28;obtain⟨v1,v2,v3,v4,v5,v6⟩:=Lp.Zas hv;have hrl:=(Lp.Zed v1 hk).1;have hsz:=Zar w (.cells #[.slice a p.A.length c1,.slice b p.B.length c2,.slice c p.C.length c3] 28);obtain⟨b1,o1,a1,k1,rfl,hl1,hrow,hnums⟩:=HZ.out.mA k hk;obtain⟨b2,o2,rfl,hl2,hbk⟩:=HZ.out.mB k (by omega);have hrw:rw_ p.A k=Lp.row p k:=rfl;rw[hrw] at hrow hnums;rw[hrl] at hrow;obtain⟨x0,x1,x2,_⟩:=hx.cells;have Hb:=zH hb;have Hx:=zH hx;have HNu:=zH hnums;have Hrl:=zH hrl;have HS0:=zH (Zud hv hk);have HIr:=zH (Ta.Zr7 hv hk);have n1:(k:Int)<(p.A.length:Int):=by omega
 have n2:(k:Int)<(p.B.length:Int):=by omega
 have n3:(k:Int)+1≤(c2:Int):=by omega
 have n4:(k:Int)≤(k:Int)+1:=by omega
 have V4:=zH v4;have Hrow:=zH hrow;have Hbk:=zH hbk;obtain⟨i0,hi,hz0,hz1,hz2⟩:=info_parts Zdc;have HI:=zH hi;have HZ0:=zH hz0;have HZ1:=zH hz1;have HZ2:=zH hz2;clear hz hb hx hrl hnums hrw v1 v4 v5 v6 hv hi hz0 hz1 hz2
 go_enter Tryz.func128,Tryz.ntmps128
 go_upto_region 1 with fail
 generalize w.alloc (.cells #[.slice (some ⟨b1,o1,none⟩) p.A.length c1,.slice (some ⟨b2,o2,none⟩) p.B.length c2,.slice c p.C.length c3] 28)=W at *;have hxl:=Zab Hx.out;have Cell:=zH (fun w' (h:Since W w')=>(show w'.cell? ⟨w.heap.size,0,none⟩=some (.slice (some ⟨b1,o1,none⟩) p.A.length c1)/\w'.cell? ⟨w.heap.size,1,none⟩=some (.slice (some ⟨b2,o2,none⟩) p.B.length c2)/\w'.cell? ⟨b1,o1+k,none⟩=some (.slice a1 p.C.length k1)/\Since W w' from
  ⟨h.cell (p:=⟨w.heap.size,0,none⟩) hxl x0,h.cell (p:=⟨w.heap.size,1,none⟩) hxl x1,h.cell (p:=⟨b1,o1+k,none⟩) (show b1<W.heap.size by omega) hrow,h⟩))
 have hin0:=(Since.refl W).drew;clear x0 x1 x2 hrow hbk
 go_cut [5] (fun v wx=>∃(av:Option Addr) (cv:Nat),v=.slice av (p.C.length+p.A.length+1) cv/\Hid (Zad W.heap.size wx v (num0 p k))/\Hid (Since W wx))
 case first=>
  have hck:(c2=k)=False:=eq_false (by omega);have hw:IntKind.i64.wrap ((k:Int)+1)=(k:Int)+1:=IntWalk.i64_in _ (by omega);refine wp_region_held_drew (S:=fun w'=>w'.cell? ⟨w.heap.size,0,none⟩=some (.slice (some ⟨b1,o1,none⟩) p.A.length c1)/\w'.cell? ⟨w.heap.size,1,none⟩=some (.slice (some ⟨b2,o2,none⟩) p.B.length c2)/\w'.cell? ⟨b1,o1+k,none⟩=some (.slice a1 p.C.length k1)/\Since W w') (by kernel_rfl) ?_ (fun hHeld=>?_)
  ·exact Cell.out _ hin0
  refine tk1 0 ⟨some 10,_,0,_,_,none⟩ ?_;refine tk1 1 ⟨some 11,_,24,_,_,none⟩ ?_;refine tk1 2 ⟨some 12,_,3,_,_,none⟩ ?_;refine tk1 3 ⟨some 13,_,0,_,_,none⟩ ?_;refine tk1 4 ⟨some 14,_,25,_,_,none⟩ ?_;refine tk1 5 ⟨some 15,_,0,_,_,none⟩ ?_;refine tk1 6 ⟨some 16,_,24,_,_,none⟩ ?_;refine tk1 7 ⟨some 17,_,3,_,_,none⟩ ?_;refine tk1 9 ⟨some 19,_,0,_,_,none⟩ ?_;refine tk1 10 ⟨some 20,_,25,_,_,none⟩ ?_;refine tk1 11 ⟨some 21,_,3,_,_,none⟩ ?_;refine tk1 12 ⟨some 22,_,3,_,_,none⟩ ?_;refine tk1 13 ⟨some 23,_,3,_,_,none⟩ ?_;refine tk1 14 ⟨some 24,_,25,_,_,none⟩ ?_
  try simp only[Act.put,zA,zB,zC]
  refine rd1 8 ⟨some 18,_,25,_,_,none⟩ fun K hK=>?_
  (refine Zb3 (by kernel_rfl) (.tmp 17) (.tmp 17) 25 rfl _ 3 i0 (.int .i64 0) 1 Tryz.underlying25 HI.out HZ0.out HZ1.out rfl .i64 .i64 _ _ p.A.length rfl rfl rfl rfl (by rw[HZ2.out];omega) (by unfold maxLen;omega) (Nat.le_refl _) ?_;intro w9 hown hgrow;have hin9:=hin0.trans (Zdx hgrow);have ho9:=Ze2 hown;obtain⟨zb,zc,hzv,hzr,hza,_⟩:=Zaw ho9;obtain⟨rfl,rfl⟩:=slice_inj hzv;have hzn:=Zat.Zcb (B:=w9.heap.size) hzr fun q hq=>(hza q hq).2;clear hown hgrow ho9 hzr hza hzv)
  refine hK.out _ _ ?_ (fun hHeld=>?_)
  ·exact Cell.out _ hin9
  clear hK K
  try simp only[Act.put,zA,zB,zC]
  have hzn2:Zat w9.heap.size w9 (some ⟨w.heap.size+1,0,none⟩) (Lp.Zbr p.A.length):=by rw[<-hsz];exact hzn
  have hal:=(Below.refl w9.heap.size w9).alloc (Nat.le_refl _) (.cells #[.slice a1 p.C.length k1,.slice (some ⟨w.heap.size+1,0,none⟩) p.A.length p.A.length,.slice (some ⟨b2,o2+k,none⟩) 1 (c2-k)] 25);have hin10:=hin9.alloc (.cells #[.slice a1 p.C.length k1,.slice (some ⟨w.heap.size+1,0,none⟩) p.A.length p.A.length,.slice (some ⟨b2,o2+k,none⟩) 1 (c2-k)] 25);have hnc:=Zac.new w9 #[.slice a1 p.C.length k1,.slice (some ⟨w.heap.size+1,0,none⟩) p.A.length p.A.length,.slice (some ⟨b2,o2+k,none⟩) 1 (c2-k)] 25;have hl10:=Zab hnc;have hWs:W.heap.size≤w9.heap.size:=hin9.low.size;have hwW:w.heap.size<W.heap.size:=hxl;have hr10:=(HNu.out.below (hin10.low.mono (by omega))).mono (show w.heap.size≤(w9.alloc (.cells #[.slice a1 p.C.length k1,.slice (some ⟨w.heap.size+1,0,none⟩) p.A.length p.A.length,.slice (some ⟨b2,o2+k,none⟩) 1 (c2-k)] 25)).heap.size by omega);have hz10:=(hzn2.below hal).mono (show w9.heap.size≤(w9.alloc (.cells #[.slice a1 p.C.length k1,.slice (some ⟨w.heap.size+1,0,none⟩) p.A.length p.A.length,.slice (some ⟨b2,o2+k,none⟩) 1 (c2-k)] 25)).heap.size by omega);have hb10:=hin10.cell (p:=⟨b2,o2+k,none⟩) (show b2<W.heap.size by omega) Hbk.out;have hM:Zgc (w9.alloc (.cells #[.slice a1 p.C.length k1,.slice (some ⟨w.heap.size+1,0,none⟩) p.A.length p.A.length,.slice (some ⟨b2,o2+k,none⟩) 1 (c2-k)] 25)).heap.size (w9.alloc (.cells #[.slice a1 p.C.length k1,.slice (some ⟨w.heap.size+1,0,none⟩) p.A.length p.A.length,.slice (some ⟨b2,o2+k,none⟩) 1 (c2-k)] 25)) (some ⟨w9.heap.size,0,none⟩) [Lp.row p k,Lp.Zbr p.A.length,[p.B.getD k 0]]:=fun j hj=>by
   match j,hj with
   | 0,_=>exact⟨w9.heap.size,0,a1,k1,rfl,hl10,by rw[show (rw_ [Lp.row p k,Lp.Zbr p.A.length,[p.B.getD k 0]] 0).length=p.C.length from Hrl.out];exact hnc.cell 0,hr10⟩
   | 1,_=>exact⟨w9.heap.size,0,_,p.A.length,rfl,hl10,by rw[show (rw_ [Lp.row p k,Lp.Zbr p.A.length,[p.B.getD k 0]] 1).length=p.A.length from Zc0 p.A.length];exact hnc.cell 1,hz10⟩
   | 2,_=>exact⟨w9.heap.size,0,_,c2-k,rfl,hl10,hnc.cell 2,fun i hi=>by
     match i,hi with
     | 0,_=>exact⟨b2,o2+k,rfl,by omega,hb10⟩⟩
  have hCc:=Zqt _ _ 3 [Lp.row p k,Lp.Zbr p.A.length,[p.B.getD k 0]] (by simp) (by simp only[cellsOf,Hrl.out,Zc0,List.length_cons,List.length_nil];omega) _ (Nat.le_refl _) hM;rw[show [Lp.row p k,Lp.Zbr p.A.length,[p.B.getD k 0]].flatten=num0 p k by simp[num0]] at hCc;refine rd1 15 ⟨some 25,_,24,_,_,none⟩ fun K hK=>?_
  go_simp
  skip
  refine hK.out _ _ ?_ (fun hHeld=>?_)
  ·exact Cell.out _ hin10
  clear hK K
  try simp only[Act.put,zA,zB,zC]
  refine rd1 16 ⟨some 26,_,25,_,_,none⟩ fun K hK=>?_
  go_simp
  (go_at_call 178;refine hCc.mono ?_;rintro e w11 ⟨v,rfl,hv,hb11⟩;have hin11:=hin10.trans hb11)
  refine hK.out _ _ ?_ (fun hHeld=>?_)
  ·exact Cell.out _ hin11
  clear hK K;refine tk1 17 ⟨some 5,_,25,_,_,none⟩ ?_
  try simp only[Act.put,zA,zB,zC]
  refine wpAnyH_done (by kernel_rfl) ?_ _;obtain⟨av,cv,rfl⟩:=Zam hv;rw[Zsz Hrl.out] at hv ⊢
  go_wp2_with fail
  go_meet
  exact⟨av,cv,rfl,hv.Zf9 (by omega),hin11⟩
 case rest=>
  obtain⟨wf,rfl⟩:∃q:World,q=wc:=⟨_,rfl⟩;obtain⟨av,cv,rfl,hN,hS⟩:=hcut;obtain⟨x0,x1,x2,_⟩:=(Hx.out.below hS.out.low).cells;have hbz:=hS.out.cell (p:=⟨b2,o2+k,none⟩) (show b2<W.heap.size by omega) Hbk.out;clear Cell hin0;have HZz:Hid (∀h:p.B.getD k 0<0,(num0 p k).map (fun x=>-x)=num1 p k):=fun h=>Z07 h
  have HZp:Hid (∀h:¬p.B.getD k 0<0,num0 p k=num1 p k):=fun h=>Z08 h
  have hbd:=HS0.out (p.B.getD k 0) (by unfold num0;simp);generalize p.B.getD k 0=z at *;have HLen:=zH (Zsz Hrl.out);have HGet:Hid (∀j,-5000≤(num0 p k).getD j 0/\(num0 p k).getD j 0≤5000):=fun j=>by
   rcases Nat.lt_or_ge j (num0 p k).length with hj|hj
   ·have h:=HS0.out _ (List.getElem_mem hj)
    rw[List.getD_eq_getElem?_getD,List.getElem?_eq_getElem hj];exact h
   ·rw[List.getD_eq_getElem?_getD,List.getElem?_eq_none hj];simp
  have HSf:=zH hS.out;obtain⟨N,hNN⟩:∃N:Nat,p.C.length+p.A.length+1=N:=⟨_,rfl⟩;have hNb:N≤79:=by omega
  rw[hNN] at hN HLen ⊢;have HNN:=zH hNN;clear hNN
  go_upto_if 32 with fail
  go_cut [5] (fun v wx=>v=.slice av N cv/\Hid (Zad W.heap.size wx (.slice av N cv) (num1 p k))/\Hid (Since W wx))
  case first=>
   by_cases hneg:z<0
   ·have hd:decide (z<0)=true:=by rw[decide_eq_true_iff];exact hneg
    have Hn1:=zH (HZz.out hneg);have hN0:Hid (Zad W.heap.size wf (.slice av N cv) (Zil (num0 p k) 0)):=by rw[Zua];exact hN
    clear HZz HZp hN
    go_wp2_with fail
    go_loopw [6,7,35] (fun _ _ i wr=>∃j:Nat,j≤N/\i=.int .i64 j/\Hid (Zad W.heap.size wr (.slice av N cv) (Zil (num0 p k) j))/\Hid (Since W wr)) (fun _ _ i _=>N-(intOf i).toNat)
    case atStart=>exact⟨0,Nat.zero_le _,rfl,hN0,HSf⟩
    case round=>
     clear hN0 x0 x1 x2 hbz;obtain⟨j,hj,rfl,hO,hSr⟩:=hrel
     by_cases hjt:j<N
     ·have hjl:j<(num0 p k).length:=by have:=HLen.out;omega
      have hll:=Zv8 (l:=num0 p k) (j:=j) (by omega);obtain⟨g,rfl,hg1,hg2,_,f0⟩:=Zik hO.out (j:=j) (by omega);obtain⟨a',c',e,hrd,hpa,_⟩:=Zaw hO.out;injection e with e1 e2 e3
      subst e1;obtain⟨b',o',e4,_,hcell⟩:=(Zat.Zcb (B:=wr.heap.size) hrd fun q hq=>(hpa q hq).2) j (by omega);simp only[Option.some.injEq,Addr.mk.injEq] at e4;obtain⟨rfl,rfl,_⟩:=e4;rw[Zyp hjl,Nat.zero_add] at hcell;have hgb:=HGet.out j;have hput:Hid (Zad W.heap.size (wr.setCell ⟨g,j,none⟩ (.int .i64 (-((num0 p k).getD j 0)))) (.slice (some ⟨g,0,none⟩) N cv) (Zil (num0 p k) (j+1))):=by
       have h:=Zj7 (j:=j) (x:=-((num0 p k).getD j 0)) hO.out e2;rw[Zt9 hjl] at h;exact h
      have hS2:Hid (Since W (wr.setCell ⟨g,j,none⟩ (.int .i64 (-((num0 p k).getD j 0))))):=hSr.out.setCell (p:=⟨g,j,none⟩) hg1 _;generalize (num0 p k).getD j 0=x at *;have hwn:IntKind.i64.wrap (-x)=-x:=IntWalk.i64_in _ (by omega);have n9:(j:Int)<(N:Int):=by omega
      clear e2 e3 hll hrd hpa hjl hO hSr
      go_wp2_with fail
      go_roundw
      case rel=>exact⟨j+1,by omega,by go_num,hput,hS2⟩
      case measure=>simp[intOf];omega
     ·have hje:j=(num0 p k).length:=by have:=HLen.out;omega
      have hfin:Hid (Zad W.heap.size wr (.slice av N cv) (num1 p k)):=by
       have h:=hO.out;rw[hje,Zv7,Hn1.out] at h;exact h
      clear hje
      go_wp2_with fail
      go_meet
      exact⟨rfl,hfin,hSr⟩
   ·have hd:decide (z<0)=false:=by rw[decide_eq_false_iff_not];exact hneg
    have hfin:Hid (Zad W.heap.size wf (.slice av N cv) (num1 p k)):=by rw[<-HZp.out hneg];exact hN.out
    clear HZz HZp
    go_wp2_with fail
    go_meet
    exact⟨rfl,hfin,HSf⟩
  case rest=>
   obtain⟨wg,rfl⟩:∃q:World,q=wc:=⟨_,rfl⟩;obtain⟨rfl,hN1,hS1⟩:=hcut;clear x0 x1 x2 hbz hN HZz HZp hS HSf;obtain⟨x0,x1,x2,_⟩:=(Hx.out.below hS1.out.low).cells;have hlen1:(num1 p k).length=N:=by rw[Zyu Hrl.out];exact HNN.out
   have hidx:p.C.length+k<N:=by have:=HNN.out;omega
   obtain⟨g,rfl,hg1,hg2,⟨v0,s0⟩,f0⟩:=Zik hN1.out (j:=p.C.length+k) (by omega);have hputs:Hid (Zad W.heap.size (wg.setCell ⟨g,p.C.length+k,none⟩ (.int .i64 1)) (.slice (some ⟨g,0,none⟩) N cv) (Ta.nums p k)):=by
    have h:=Zj7 (j:=p.C.length+k) (x:=1) hN1.out hlen1.symm;rw[Z09 Hrl.out hk] at h;exact h
   have hS2:=zH (hS1.out.setCell (p:=⟨g,p.C.length+k,none⟩) hg1 (.int .i64 1));have n10:(p.C.length:Int)+(k:Int)<(N:Int):=by omega
   have hlen2:N=(Ta.nums p k).length:=by
    obtain⟨_,_,e,_⟩:=Zaw hputs.out;injection e
   have hrd2:Zat (wg.setCell ⟨g,p.C.length+k,none⟩ (.int .i64 1)).heap.size (wg.setCell ⟨g,p.C.length+k,none⟩ (.int .i64 1)) (some ⟨g,0,none⟩) (Ta.nums p k):=by
    obtain⟨a',c',e,hrd,hpa,_⟩:=Zaw hputs.out;injection e with e1 e2 e3
    subst e1;exact Zat.Zcb hrd fun q hq=>(hpa q hq).2
   have HIt:=zH (Zgn _ (some ⟨g,0,none⟩) cv (Ta.nums p k) (by omega) (wg.setCell ⟨g,p.C.length+k,none⟩ (.int .i64 1)) (Nat.le_refl _) hrd2);rw[<-hlen2] at HIt;have Hl2:=zH hlen2;clear hlen1 hlen2 hrd2 hputs hN1
   go_wp2_with fail
   refine HIt.out.mono ?_;rintro e w12 ⟨v,rfl,hv,hb12⟩;have hF:Hid (Zaa w.heap.size w12 v (Ta.Zcj p k)):=by
    have h:=hv;rw[Hl2.out,show Ve.outR (Ve.ofI (Ta.nums p k)) (Ta.nums p k).length=Lp.ir (Ta.nums p k) from rfl,HIr.out.2] at h;exact h.raise (by have:=hS2.out.low.size;omega)
   have hB:=zH (Hb.out.trans ((hS2.out.trans hb12).low.mono (by omega)));clear hv hb12
   go_wp2_with fail
   go_ret;exact⟨_,rfl,hF.out,hB.out⟩
theorem Zbn.snoc {B:Nat} {w0 w w':World} {v v' u:Value} {vs:List Value} {L:List (List R)} {x:List R} (k1:w0.ownsRow B 26 1 v L.length vs) (k2:Z0p B w0 vs L) (hb:Below w0.heap.size w0 w) (hl:B≤w0.heap.size) (hu:Zaa w0.heap.size w u x)
  (hown:w'.ownsRow B 26 1 v' (L.length+1) (vs++[u])) (hg:w.grownBy w' v.ownBlock):Zbn B w' v' (L++[x]):=by
 have hlv:vs.length=L.length:=by have:=k1.1;omega
 have h1:w.ownsRow B 26 1 v L.length vs:=Zak k1 fun g hg=>hb.block g (World.ownsRow.lt k1 g hg).2
 have keep:∀(B':Nat) (u':Value) (xs:List R),Zaa B' w u' xs->Zaa B' w' u' xs:=fun B' u' xs ho=>
  World.ownsRow.kept ho hg (by
   cases hv:u'.ownBlock with
   | none=>exact .inl rfl
   | some g=>exact .inr fun e=>Zb0 ho h1 Zcf g hv e.symm)
 have old:∀(i:Nat) (v:Value),i<L.length->vs[i]? = some v->∀b,v.ownBlock=some b->b<w0.heap.size:=fun i v hi e b hb=>by
  obtain⟨u',e1,ho⟩:=k2.own i hi;rw[e1] at e;obtain rfl:=Option.some.inj e;exact (World.ownsRow.lt ho b hb).2
 have new:∀b,u.ownBlock=some b->w0.heap.size≤b:=fun b hb=>(World.ownsRow.lt hu b hb).1
 refine⟨vs++[u],by simpa using hown,fun j hj=>?_,fun i j u1 u2 hi hj hij e1 e2 b hb1 hb2=>?_⟩
 ·by_cases e:j=L.length
  ·subst e
   refine⟨u,by rw[List.getElem?_append_right (by omega),hlv];simp,?_⟩;rw[Zru (show (L++[x])[L.length]? = some x by simp)];exact (keep _ u x hu).raise hl
  ·have hj':j<L.length:=by simp at hj;omega
   obtain⟨u',e1,ho⟩:=k2.own j hj';refine⟨u',by rw[List.getElem?_append_left (by omega)];exact e1,?_⟩;rw[Zru (show (L++[x])[j]? = some (rr L j) by rw[List.getElem?_append_left hj'];exact Zta hj')];exact keep _ u' _ (ho.below hb)
 ·simp only[List.length_append,List.length_cons,List.length_nil] at hi hj
  have gl:∀(i:Nat) (u1:Value),i<L.length->(vs++[u])[i]? = some u1->vs[i]? = some u1:=fun i u1 hi e=>by rwa [List.getElem?_append_left (by omega)] at e
  have gr:∀(i:Nat) (u1:Value),i=L.length->(vs++[u])[i]? = some u1->u=u1:=fun i u1 hi e=>by
   rw[List.getElem?_append_right (by omega),hi,hlv] at e
   simpa using e
  by_cases ei:i=L.length
  ·obtain rfl:=gr i u1 ei e1
   have:=old j u2 (by omega) (gl j u2 (by omega) e2) b hb2;have:=new b hb1;omega
  ·have e1':=gl i u1 (by omega) e1
   by_cases ej:j=L.length
   ·obtain rfl:=gr j u2 ej e2
    have:=old i u1 (by omega) e1' b hb1;have:=new b hb2;omega
   ·exact k2.apart i j u1 u2 (by omega) (by omega) hij e1' (gl j u2 (by omega) e2) b hb1 hb2
theorem Zjz {w0 w:World} {ops:Array Oper} {o:Oper} {a:Act} {K:Act->World->Prop} {Q:Exit->Act->World->Prop} {E:Prop} (hgd:o.guard=none) (s x:Operand)
  (hop:o.op=Op.call { callee:=Callee.builtin Builtin.append,args:=#[s,x],argTypes:=#[37,37] }) (B:Nat) (v:Value) (L:List (List R)) (hs:a.eval s=v) (hown:Zbn B w0 v L) (hb:Below w0.heap.size w0 w) (hl:B≤w0.heap.size) (q:Nat) (u:Value) (r:List R) (hx:a.eval x=.slice (some ⟨q,0,none⟩) 1 1)
  (hq:w.cell? ⟨q,0,none⟩=some u) (hu:Zaa w0.heap.size w u r) (hlen:L.length≤4000000) (hK:∀v' w',Zbn B w' v' (L++[r])->w.grownBy w' v.ownBlock->K (a.put o.dst v') w'):if Region.wanted o (yielded ops a.tmps)=true then Oper.wp Tryz.prog o a w K Q else E:=by
 have hw:Region.wanted o (yielded ops a.tmps)=true:=by simp[Region.wanted,hgd]
 rw[if_pos hw];obtain⟨i0,hi,hz0,hz1,hz2⟩:=info_parts Zle;obtain⟨vs,k1,k2⟩:=hown;have h1:w.ownsRow B 26 1 v L.length vs:=Zak k1 fun g hg=>hb.block g (World.ownsRow.lt k1 g hg).2
 refine wp_append_own w s x 37 hop B 26 i0 (.slice none 0 0) 1 24 Tryz.underlying37 hi hz0 hz1 hz2 rfl (by decide) v L.length vs hs h1 ⟨q,0,none⟩ 1 1 [u] hx rfl ?_ ?_ (by unfold maxLen;omega) (by omega) (Nat.le_trans hl hb.size) ?_
 ·intro j u' hj
  match j with
  | 0=>simp at hj;subst hj;simpa [Addr.add] using hq
  | j+1=>simp at hj
 ·intro u' hu'
  simp at hu';subst hu';obtain⟨a',c',rfl,_⟩:=Zai hu;rfl
 ·intro v' w' h3 h4 _
  exact hK v' w' (Zbn.snoc k1 k2 hb hl hu h3 h4) h4
theorem Zbn.grown {B:Nat} {w w':World} {v:Value} {row:Option Nat} {L:List (List R)} (h:Zbn B w v L) (hg:w.grownBy w' row) (hr:∀g,row=some g->TyAt w g 3):Zbn B w' v L:=
 h.kept fun b hb=>hg.block b (by rcases hb with hb|hb<;>exact hb.lt) (fun e=>by
  rcases hb with hb|hb
  ·exact (TyAt.ne hb (hr b e.symm) Zha) rfl
  ·exact (TyAt.ne hb (hr b e.symm) Zcx) rfl)
theorem Zi6 (B:Nat) (a b c:Option Addr) (c1 c2 c3:Nat) (p:P) (hn:Zbs p) (hcap:p.B.length≤c2) (w:World) (hBw:B≤w.heap.size) (hz:LpIn B w a b c p) :
  Calls Tryz.prog 57 #[.agg #[.slice a p.A.length c1,.slice b p.B.length c2,.slice c p.C.length c3]] w fun e w'=>(∃vR vB:Value,e=.returned (.agg #[vR,vB,.int .i64 (Ta.start p).cols])/\Zbn w.heap.size w' vR (Ta.start p).rows/\Zad w.heap.size w' vB (Ta.start p).basis)/\Below w.heap.size w w':=by
 have hb:=((Below.refl w.heap.size w).alloc (Nat.le_refl _) (.cells #[.slice a p.A.length c1,.slice b p.B.length c2,.slice c p.C.length c3] 28));have hb2:=hb.alloc hb.size (.cells #[.slice none 0 0,.slice none 0 0,.int .i64 0] 39);have HZ:=zH ((hz.mono hBw).below hb2);have hx:=(Tri.new w (.slice a p.A.length c1) (.slice b p.B.length c2) (.slice c p.C.length c3) 28).more (.cells #[.slice none 0 0,.slice none 0 0,.int .i64 0] 39);have hr:=Tri.new (w.alloc (.cells #[.slice a p.A.length c1,.slice b p.B.length c2,.slice c p.C.length c3] 28)) (.slice none 0 0) (.slice none 0 0) (.int .i64 0) 39;rw[Zar] at hr;have hs2:=Zjv w (.cells #[.slice a p.A.length c1,.slice b p.B.length c2,.slice c p.C.length c3] 28) (.cells #[.slice none 0 0,.slice none 0 0,.int .i64 0] 39);have Hb:=zH hb2;have Hx:=zH hx;have Hr:=zH hr;have HS2:=zH hs2;have hnA:=hn.A;have hnB:=hn.B;have hnC:=hn.C;obtain⟨ST,hST⟩:∃ST,Ta.start p=ST:=⟨_,rfl⟩;have HST:=zH hST;rw[hST];have HN:=zH hn;clear hz hb hb2 hx hr hs2 hn hST
 go_enter Tryz.func57,Tryz.ntmps57
 go_upto_region 1 with fail
 generalize hW:(w.alloc (.cells #[.slice a p.A.length c1,.slice b p.B.length c2,.slice c p.C.length c3] 28)).alloc (.cells #[.slice none 0 0,.slice none 0 0,.int .i64 0] 39)=W at *;clear hW;obtain⟨x0,x1,x2,_⟩:=Hx.out.cells;obtain⟨g,hg⟩:∃g,Lp.vldP p=g:=⟨_,rfl⟩;have Hg:=zH hg;have HV:=zH (Zfi w.heap.size a b c c1 c2 c3 p HN.out W Hb.out.size HZ.out);rw[hg] at HV;clear hg
 go_wp2_with fail
 refine HV.out.mono ?_;rintro e w1 ⟨rfl,hb1⟩;have hWw:w.heap.size≤W.heap.size:=Hb.out.size;have HB1:=zH (Hb.out.trans (hb1.mono hWw));have HX1:=zH (Hx.out.below hb1);have HR1:=zH (Hr.out.below hb1);have HZ1:=zH (HZ.out.below (hb1.mono hWw));have hsz1:=hb1.size;clear x0 x1 x2 HV hb1 Hb Hx Hr HZ;cases g with
 | false=>
  have hE:Hid ((⟨[],[],0⟩:T)=ST):=by show _=_;rw[<-HST.out,Ta.Zth Hg.out]
  obtain⟨z0,z1,z2,f0,f1,f2⟩:=HR1.out.cells;have hF:=HR1.out
  go_wp2_with fail
  refine bodyPost_ret (v:=.agg #[.slice none 0 0,.slice none 0 0,.int .i64 0]) (by
   obtain⟨z0,z1,z2,_⟩:=(Zck hF (.slice none 0 0) (.slice none 0 0) (.int .i64 0)).cells;revert z0 z1 z2;generalize (World.setCell _ (⟨w.heap.size+1,2,none⟩:Addr) (.int .i64 0))=W4;intro z0 z1 z2;simp[results,Tryz.results57,go_sem,z0,z1,z2]) rfl ?_
  rw[<-hE.out];exact⟨⟨_,_,rfl,⟨[],World.ownsRow_nil _ _ _ _,fun j hj=>absurd hj (by simp),fun i j u v hi=>absurd hi (by simp)⟩,World.ownsRow_nil _ _ _ _⟩,Zd7 HB1.out (Nat.le_succ _) _ _ _⟩
 | true=>
  obtain⟨v1,v2,v3,v4,v5,v6⟩:=Lp.Zas Hg.out;have hE:Hid (Ta.Zap p p.A.length=ST):=by show _=_;rw[<-HST.out,Ta.Ze1 Hg.out]
  obtain⟨x0,x1,x2,_⟩:=HX1.out.cells;have HO:=zH (Tri.new w1 (.slice none 0 0) (.slice none 0 0) (.int .i64 p.C.length) 39);have HBo:=zH ((Below.refl w1.heap.size w1).alloc (Nat.le_refl _) (.cells #[.slice none 0 0,.slice none 0 0,.int .i64 p.C.length] 39));have HRo:Hid (Zbn w1.heap.size (w1.alloc (.cells #[.slice none 0 0,.slice none 0 0,.int .i64 p.C.length] 39)) (.slice none 0 0) (Ta.Zap p 0).rows):=⟨[],World.ownsRow_nil _ _ _ _,fun j hj=>absurd hj (by simp[Ta.Zap]),fun i j u v hi=>absurd hi (by simp[Ta.Zap])⟩;have HIo:Hid (Zad w1.heap.size (w1.alloc (.cells #[.slice none 0 0,.slice none 0 0,.int .i64 p.C.length] 39)) (.slice none 0 0) (Ta.Zap p 0).basis):=World.ownsRow_nil _ _ _ _;clear v1 v4 v5 v6;have hlX:=Zab HX1.out;have y0:=HO.out.cells.1;have x0':=(HX1.out.more (.cells #[.slice none 0 0,.slice none 0 0,.int .i64 p.C.length] 39)).cells.1
  go_wp2_with fail
  go_loopw [4,16] (fun _ i wr=>∃(k:Nat) (vR vB:Value),k≤p.A.length/\i=.int .i64 k/\Hid (Tri wr w1.heap.size vR vB (.int .i64 p.C.length) 39)/\Hid (Zbn w1.heap.size wr vR (Ta.Zap p k).rows)/\Hid (Zad w1.heap.size wr vB (Ta.Zap p k).basis)/\Hid (Below w1.heap.size w1 wr)) (fun _ i _=>p.A.length-(intOf i).toNat)
  case atStart=>exact⟨0,_,_,Nat.zero_le _,rfl,HO,HRo,HIo,HBo⟩
  case round=>
   clear x0 x1 x2 y0 x0' HO HBo HRo HIo;obtain⟨k,vR,vB,hk,rfl,hO,hR,hI,hB⟩:=hrel;have HXr:=zH (HX1.out.below hB.out);have hszr:=hB.out.size
   by_cases hlt:k<p.A.length
   ·have hZr:=zH (HZ1.out.below (hB.out.mono (Nat.le_trans hWw hsz1)))
    obtain⟨x0,x1,x2,_⟩:=HXr.out.cells;obtain⟨y0,y1,y2,_⟩:=hO.out.cells;have hqr:=Zab hO.out;have hxr:=Zab HXr.out;have n1:(k:Int)<(p.A.length:Int):=by omega
    have Cell:=zH (fun w' (h:Since wr w')=>(show w'.cell? ⟨w1.heap.size,0,none⟩=some vR/\w'.cell? ⟨w.heap.size,0,none⟩=some (.slice a p.A.length c1)/\w'.cell? ⟨w.heap.size,1,none⟩=some (.slice b p.B.length c2)/\w'.cell? ⟨w.heap.size,2,none⟩=some (.slice c p.C.length c3)/\Since wr w' from
     ⟨h.cell (p:=⟨w1.heap.size,0,none⟩) hqr y0,h.cell (p:=⟨w.heap.size,0,none⟩) hxr x0,h.cell (p:=⟨w.heap.size,1,none⟩) hxr x1,h.cell (p:=⟨w.heap.size,2,none⟩) hxr x2,h⟩))
    have hin0:=(Since.refl wr).drew;have HSr:=zH (fun w' (h:Since wr w')=>Ze7 (Zn5 w.heap.size a b c c1 c2 c3 p Hg.out hcap k hlt w' (Nat.le_trans (Nat.le_trans (Nat.le_trans hWw hsz1) hszr) h.low.size) (hZr.out.below (h.low.mono (by omega)))) h);have hrk:(Ta.Zap p k).rows.length=k:=by simp[Ta.Zap]
    have hbk2:(Ta.Zap p k).basis.length=k:=by simp[Ta.Zap]
    have Hrk:=zH hrk;have Hbk2:=zH hbk2;clear x0 x1 x2 y0 y1 y2 hrk hbk2
    go_upto_region 7 with fail
    refine Zaf (S:=(fun w'=>w'.cell? ⟨w1.heap.size,0,none⟩=some vR/\w'.cell? ⟨w.heap.size,0,none⟩=some (.slice a p.A.length c1)/\w'.cell? ⟨w.heap.size,1,none⟩=some (.slice b p.B.length c2)/\w'.cell? ⟨w.heap.size,2,none⟩=some (.slice c p.C.length c3)/\Since wr w')) 6 (by kernel_rfl) ?_ (fun hHeld=>?_)
    ·exact Cell.out _ hin0
    refine tk2 0 ⟨some 19,_,0,_,_,none⟩ ?_;refine tk2 1 ⟨some 20,_,37,_,_,none⟩ ?_;refine tk2 2 ⟨some 21,_,28,_,_,none⟩ ?_;refine tk2 3 ⟨some 22,_,3,_,_,none⟩ ?_
    try simp only[Act.put,zA,zB,zC]
    refine rd2 4 ⟨some 23,_,26,_,_,none⟩ fun K hK=>?_
    go_simp
    (go_at_call 128;refine (HSr.out _ hin0).mono ?_;rintro e w4 ⟨⟨v4',rfl,hv4⟩,hin4,hb4⟩;obtain⟨av,cv,rfl⟩:=Zbb hv4;generalize hrowk:Ta.Zcj p k=row at *)
    refine hK.out _ _ ?_ (fun hHeld=>?_)
    ·exact Cell.out _ hin4
    clear hK K
    try simp only[Act.put,zA,zB,zC]
    have hin5:=hin4.alloc (.cells #[.slice av row.length cv] 26);have hcu:=(Zac.new w4 #[.slice av row.length cv] 26).cell 0;have hu5:=Zaa.alloc hv4 (.cells #[.slice av row.length cv] 26);have hT5:=hO.out.below hin5.low;have hI5:=hI.out.below hin5.low;have hX5:=HXr.out.below hin5.low;have hB5:=hB.out.trans (hin5.low.mono hszr);have hR5:=hR.out.below hin5.low;have hs4:=hB5.size;refine rd2 5 ⟨some 24,_,37,_,_,none⟩ fun K hK=>?_
    go_simp
    refine hK.out _ _ ?_ (fun hHeld=>?_)
    ·exact Cell.out _ hin5
    clear hK K
    try simp only[Act.put,zA,zB,zC]
    refine rd3 6 ⟨some 25,_,37,_,_,none⟩ fun K hK=>?_
    (refine Zjz rfl _ _ rfl w1.heap.size vR (Ta.Zap p k).rows rfl hR.out hin5.low hszr w4.heap.size (.slice av row.length cv) row rfl hcu hu5 (by have:=Hrk.out;omega) ?_;intro v6 w6 hown6 hgrow6;rw[show (Ta.Zap p k).rows++[row]=(Ta.Zap p (k+1)).rows by rw[<-hrowk,Ta.Zpx]] at hown6;obtain⟨a6,c6,rfl⟩:=hown6.shape)
    refine hK.out _ _ ?_;clear hK K
    try simp only[Act.put,zA,zB,zC]
    have hT6:Tri w6 w1.heap.size vR vB (.int .i64 p.C.length) 39:=(hgrow6.block w1.heap.size (Zab hT5) (fun e=>Zeq hR5.rm hT5 (by decide) e.symm)).trans hT5;have hX6:Tri w6 w.heap.size (.slice a p.A.length c1) (.slice b p.B.length c2) (.slice c p.C.length c3) 28:=(hgrow6.block w.heap.size (Zab hX5) (fun e=>by have:=(hR5.rm.apart _ e.symm).1;omega)).trans hX5;have hI6:Zad w1.heap.size w6 vB (Ta.Zap p k).basis:=by
     obtain⟨vs,ho1,_⟩:=hR5;exact World.ownsRow.kept hI5 hgrow6 (by
      cases hv:vB.ownBlock with
      | none=>exact .inl rfl
      | some g=>exact .inr fun e=>Zb0 hI5 ho1 (fun e=>Zcx e.symm) g hv e.symm)
    have hB6:=Zg5 (B:=w1.heap.size) hB5 hgrow6 hs4 (fun g hg=>(hR5.rm.apart g hg).1);obtain⟨y0,_,_,f0,_,_⟩:=hT6.cells;generalize hm6:(Ta.Zap p (k+1)).rows.length=m6 at *;refine rd3 7 ⟨some 26,_,0,_,_,none⟩ fun K hK=>?_
    go_simp
    refine hK.out _ _ ?_;clear hK K
    try simp only[Act.put,zA,zB,zC]
    refine rd3 8 ⟨none,_,0,_,_,none⟩ fun K hK=>?_
    go_simp
    refine hK.out _ _ ?_;clear hK K;refine Zal (by kernel_rfl) ?_ _;have HT7:=zH (hT6.set0 (.slice a6 m6 c6));have HR7:=zH (hown6.set (i:=0) (u:=.slice a6 m6 c6) (Zax hT6) (by decide) (by decide));have HI7:Hid (Zad w1.heap.size (w6.setCell ⟨w1.heap.size,0,none⟩ (.slice a6 m6 c6)) vB (Ta.Zap p k).basis):=Zao hI6 (Zdf hI6 hT6 (by decide));have HB7:=zH (hB6.setCell (p:=⟨w1.heap.size,0,none⟩) (Nat.le_refl _) (.slice a6 m6 c6));clear hB6 hI6 hX6 hT6 y0 f0 hown6 hgrow6 hR5 hI5 hT5 hX5 hB5 hu5 hcu hs4 hin5 hin4 hb4 hv4 Cell hin0 HSr hR hI hB hO;generalize w6.setCell ⟨w1.heap.size,0,none⟩ (.slice a6 m6 c6)=w7 at *;obtain⟨y0,y1,y2,f0,f1,f2⟩:=HT7.out.cells;have hs7:=HB7.out.size;have HIa:Hid (Zad w1.heap.size (w7.alloc (.cells #[.int .i64 ((p.C.length:Int)+(k:Int))] 3)) vB (Ta.Zap p k).basis):=HI7.out.below ((Below.refl _ _).alloc (Nat.le_refl _) _);have HRa:Hid (Zbn w1.heap.size (w7.alloc (.cells #[.int .i64 ((p.C.length:Int)+(k:Int))] 3)) (.slice a6 m6 c6) (Ta.Zap p (k+1)).rows):=HR7.out.below ((Below.refl _ _).alloc (Nat.le_refl _) _);have HTa:=zH (HT7.out.more (.cells #[.int .i64 ((p.C.length:Int)+(k:Int))] 3));have HBa:=zH (HB7.out.alloc hs7 (.cells #[.int .i64 ((p.C.length:Int)+(k:Int))] 3));have Hone:=zH (one_num w7 ((p.C.length:Int)+(k:Int)));have hbl:=Hbk2.out
    go_wp2_with (at_builtin;refine Zcl rfl _ _ rfl w1.heap.size _ (Ta.Zap p k).basis rfl HIa.out _ [(p.C.length:Int)+(k:Int)] 1 1 rfl rfl _ Hone.out (by simp;omega) (by rw[Zar];omega) ?_)
    intro v8 w8 hown8 hgrow8;rw[show (Ta.Zap p k).basis++[(p.C.length:Int)+(k:Int)]=(Ta.Zap p (k+1)).basis from (Ta.Zmt p k).symm] at hown8;obtain⟨a8,c8,rfl⟩:=Zam hown8;have hty8:∀g,vB.ownBlock=some g->TyAt (w7.alloc (.cells #[.int .i64 ((p.C.length:Int)+(k:Int))] 3)) g 3:=fun g hg=>Zav HIa.out hg
    have hT8:Tri w8 w1.heap.size (.slice a6 m6 c6) vB (.int .i64 p.C.length) 39:=(hgrow8.block w1.heap.size (Zab HTa.out) (fun e=>Zdf HIa.out HTa.out (by decide) e.symm)).trans HTa.out;have hR8:=HRa.out.grown hgrow8 hty8;have hB8:=Zg5 (B:=w1.heap.size) HBa.out hgrow8 (by rw[Zar];omega) (fun g hg=>(World.ownsRow.lt HIa.out g hg).1);generalize hm8:(Ta.Zap p (k+1)).basis.length=m8 at *;obtain⟨y0,y1,y2,f0,f1,f2⟩:=hT8.cells;have HT9:=zH (hT8.set1 (.slice a8 m8 c8));have HR9:=zH (hR8.set (i:=1) (u:=.slice a8 m8 c8) (Zax hT8) (by decide) (by decide));have HI9:Hid (Zad w1.heap.size (w8.setCell ⟨w1.heap.size,1,none⟩ (.slice a8 m8 c8)) (.slice a8 m8 c8) (Ta.Zap p (k+1)).basis):=Zao hown8 (Zdf hown8 hT8 (by decide));have HB9:=zH (hB8.setCell (p:=⟨w1.heap.size,1,none⟩) (Nat.le_refl _) (.slice a8 m8 c8));clear hT8 hR8 hB8 hown8 hgrow8 hty8 hm8 hm6 hrowk hbl
    go_wp2_with fail
    go_roundw
    case rel=>exact⟨k+1,_,_,by omega,by go_num,HT9,HR9,HI9,HB9⟩
    case measure=>simp[intOf];omega
   ·have he:k=p.A.length:=by omega
    have hO6:Zbn w1.heap.size wr vR ST.rows:=by have h:=hR.out;rw[he,hE.out] at h;exact h
    have hI6:Zad w1.heap.size wr vB ST.basis:=by have h:=hI.out;rw[he,hE.out] at h;exact h
    have hcols:ST.cols=(p.C.length:Int):=by rw[<-hE.out];rfl
    obtain⟨av,cv,rfl⟩:=hO6.shape;obtain⟨ai,ci,rfl⟩:=Zam hI6;obtain⟨y0,y1,y2,_⟩:=hO.out.cells;have hF:=HR1.out.below (hB.out.mono (Nat.le_refl _));obtain⟨z0,z1,z2,f0,f1,f2⟩:=hF.cells;have HF:=zH hF;have HO6:=zH (hO6.raise (show w.heap.size≤w1.heap.size by omega));have HI6:=zH (hI6.Zf9 (show w.heap.size≤w1.heap.size by omega));have Hcols:=zH hcols;have HBf:=zH (HB1.out.trans (hB.out.mono (show w.heap.size≤w1.heap.size by omega)));clear he hO6 hI6 hcols hF hO hR hI hB
    go_wp2_with fail
    refine bodyPost_ret (v:=.agg #[.slice av ST.rows.length cv,.slice ai ST.basis.length ci,.int .i64 p.C.length]) (by
     obtain⟨z0,z1,z2,_⟩:=(Zck HF.out (.slice av ST.rows.length cv) (.slice ai ST.basis.length ci) (.int .i64 p.C.length)).cells;revert z0 z1 z2;generalize (World.setCell _ (⟨w.heap.size+1,2,none⟩:Addr) (.int .i64 p.C.length))=W4;intro z0 z1 z2;simp[results,Tryz.results57,go_sem,z0,z1,z2]) rfl ⟨⟨_,_,by rw[Hcols.out],?_,?_⟩,Zd7 HBf.out (Nat.le_succ _) _ _ _⟩
    ·have h1:=HO6.out.set (i:=0) (u:=.slice av ST.rows.length cv) (Zax HF.out) (by decide) (by decide)
     have h2:=h1.set (i:=1) (u:=.slice ai ST.basis.length ci) (Zax (HF.out.set0 _)) (by decide) (by decide);exact h2.set (i:=2) (u:=.int .i64 p.C.length) (Zax ((HF.out.set0 _).set1 _)) (by decide) (by decide)
    ·exact Zey HI6.out (Zdf HI6.out HF.out (by decide))
open Lp (P Res)
end Go.Proofs.YtlohljkfphljgaaGreat
