/- The parts LpK2, LpK3. -/
import Derived.Test.YtlohljkfphljgaaGreatGLp
set_option maxRecDepth 100000
set_option maxHeartbeats 8000000
namespace Go.Proofs.YtlohljkfphljgaaGreat
open Go.RowKit
open Ve (R)
open Lp (P Res)
theorem Zjx (B:Nat) (a b c ra rb rc:Option Addr) (c1 c2 c3 d1 d2 d3:Nat) (p:P) (X Y Z:List R) (nu de pv:Int) (hn:Zbs p) (hf:Zdp ⟨3,X,Y,Z,(nu,de),pv⟩) (hvl:Lp.vldP p=true) (g:Bool) (hg:Lp.unb p ⟨3,X,Y,Z,(nu,de),pv⟩=g) (w:World) (hBw:B≤w.heap.size) (hz:LpIn B w a b c p) (hr:Zej B w ra rb rc ⟨3,X,Y,Z,(nu,de),pv⟩) :
  Calls Tryz.prog 20 #[.agg #[.slice a p.A.length c1,.slice b p.B.length c2,.slice c p.C.length c3],.agg #[.int .i64 3,.slice ra X.length d1,.slice rb Y.length d2,.slice rc Z.length d3,.int .i64 nu,.int .i64 de,.int .i64 pv]] w fun e w'=>e=.returned (.bool g)/\Below w.heap.size w w':=by
 obtain⟨n1,n2,n3,_⟩:=hf;have hg':(Lp.feas p X && (decide (Z.length=p.C.length) && (Lp.nonneg Z && (Lp.gives p Z (Lp.Zbr p.B.length) && (Ve.dotK p.C Z && decide ((Ve.dotR p.C Z).1<0))))))=g:=hg;simp only at n1 n2 n3;have HX:=zH (Zc7.start w a b c ra rb rc c1 c2 c3 d1 d2 d3 p ⟨3,X,Y,Z,(nu,de),pv⟩ 28 33 hBw hz hr);have HV:=zH (fun W (hB:w.heap.size≤W.heap.size) h=>hvl▸Zbq w.heap.size a b c c1 c2 c3 p hn W hB h);have HN:=zH hn;have HVL:=zH hvl;have hC:=hn.C;have hBl:=hn.B;have hAB:=Zuw hvl;obtain⟨i0,hi,hz0,hz1,hz2⟩:=info_parts Zdc;have HI:=zH hi;have HZ0:=zH hz0;have HZ1:=zH hz1;have HZ2:=zH hz2;clear hz hr hg hvl hi hz0 hz1 hz2
 go_enter Tryz.func20,Tryz.ntmps20
 go_wp2_with fail
 refine (HV.out _ HX.out.1.size HX.out.2.1).mono ?_;rintro e w1 ⟨rfl,k1⟩;have HX1:=zH (HX.out.up k1);obtain⟨x0,x1,x2,_⟩:=HX1.out.2.2.2.1.cells;obtain⟨⟨r0,r1,r2,r3,r4,r5,r6⟩,_⟩:=seven HX1.out.2.2.2.2;clear k1
 go_wp2_with fail
 refine (Zhs w.heap.size c rc c3 d3 p.C Z hC n3 _ HX1.out.1.size HX1.out.2.1.mC HX1.out.2.2.1.mR).mono ?_;rintro e w2 ⟨rfl,k2⟩;have hk2:=HX1.out.up k2;obtain⟨L,hs,hk,hk0⟩:=Zn7 (Zfx w a b c ra rb rc c1 c2 c3 d1 d2 d3 p ⟨3,X,Y,Z,(nu,de),pv⟩ 28 33) #[.int .i64 (Ve.dotR p.C Z).1,.int .i64 (Ve.dotR p.C Z).2] 31 (fun _=>True) (fun _ _ _ h=>h) hk2 trivial;obtain⟨fe,hfe⟩:∃fe,Lp.feas p X=fe:=⟨_,rfl⟩;obtain⟨nn,hnn⟩:∃nn,Lp.nonneg Z=nn:=⟨_,rfl⟩;obtain⟨gi,hgi⟩:∃gi,Lp.gives p Z (Lp.Zbr p.B.length)=gi:=⟨_,rfl⟩;have Hfe:=zH (fun W (hL:L W)=>Zgz w.heap.size a b c ra c1 c2 c3 d1 p X HN.out n1 fe hfe W (hk W hL).1.1.size (hk W hL).1.2.1 (hk W hL).1.2.2.1.mX);have Hnn:=zH (fun W (hL:L W)=>Zdv w.heap.size rc d3 Z n3 nn hnn W (hk W hL).1.1.size (hk W hL).1.2.2.1.mR);have Hgi:=zH (fun W (hL:L W) (A:Option Addr) (C:Nat) (h0:Zat W.heap.size W A (Lp.Zbr p.B.length))=>Zc0 p.B.length▸Zjm W.heap.size a b c rc A c1 c2 c3 d3 C p Z (Lp.Zbr p.B.length) HN.out n3 (by rw[Zc0];exact hAB) (by rw[Zc0];exact hBl) gi hgi W (Nat.le_refl _) ((hk W hL).1.2.1.mono (hk W hL).1.1.size) ((hk W hL).1.2.2.1.mR.mono (hk W hL).1.1.size) h0);have Hg2:=zH (show (fe && (decide (Z.length=p.C.length) && (nn && (gi && (Ve.dotK p.C Z && decide ((Ve.dotR p.C Z).1<0))))))=g from hfe▸hnn▸hgi▸hg');generalize Ve.dotR p.C Z=D at *;generalize Ve.dotK p.C Z=K at *;have LS:=zH hs;have LK:=zH hk;have HL0:=zH hk0;have Cell:=zH (fun w' (h:L w')=>(show w'.cell? ⟨w.heap.size,0,none⟩=some (.slice a p.A.length c1)/\w'.cell? ⟨w.heap.size,1,none⟩=some (.slice b p.B.length c2)/\w'.cell? ⟨w.heap.size,2,none⟩=some (.slice c p.C.length c3)/\w'.cell? ⟨w.heap.size+1,1,none⟩=some (.slice ra X.length d1)/\w'.cell? ⟨w.heap.size+1,3,none⟩=some (.slice rc Z.length d3)/\w'.cell? ⟨w2.heap.size,0,none⟩=some (.int .i64 D.1)/\L w' from
  ⟨(hk w' h).1.2.2.2.1.cells.1,(hk w' h).1.2.2.2.1.cells.2.1,(hk w' h).1.2.2.2.1.cells.2.2.1,(seven (hk w' h).1.2.2.2.2).1.2.1,(seven (hk w' h).1.2.2.2.2).1.2.2.2.1,(hk w' h).2.1.cell 0,h⟩))
 clear hg' hfe hnn hgi hs hk hk0 hk2 k2 x0 x1 x2 r0 r1 r2 r3 r4 r5 r6 HX HX1 HV HVL;obtain⟨x0,x1,x2,r1,r3,q0,_⟩:=Cell.out _ HL0.out;have hin:=LS.out.drew HL0.out
 go_upto_region 11 with fail
 generalize hW3:w2.alloc (.cells #[.int .i64 D.1,.int .i64 D.2] 31)=W3 at *;cases fe with
 | false=>
  have Hr:=zH (show false=g by rw[<-Hg2.out];rfl);refine wp_region_held_drew (S:=(fun w'=>w'.cell? ⟨w.heap.size,0,none⟩=some (.slice a p.A.length c1)/\w'.cell? ⟨w.heap.size,1,none⟩=some (.slice b p.B.length c2)/\w'.cell? ⟨w.heap.size,2,none⟩=some (.slice c p.C.length c3)/\w'.cell? ⟨w.heap.size+1,1,none⟩=some (.slice ra X.length d1)/\w'.cell? ⟨w.heap.size+1,3,none⟩=some (.slice rc Z.length d3)/\w'.cell? ⟨w2.heap.size,0,none⟩=some (.int .i64 D.1)/\L w')) (by kernel_rfl) ?_ (fun hHeld=>?_)
  ·exact Cell.out _ hin
  refine tk1 0 ⟨some 64,_,28,_,_,none⟩ ?_;refine tk1 1 ⟨some 65,_,0,_,_,none⟩ ?_;refine tk1 2 ⟨some 66,_,26,_,_,none⟩ ?_
  try simp only[Act.put,zA,zB,zC]
  refine rd1 3 ⟨some 67,_,4,_,_,none⟩ fun K hK=>?_
  go_simp
  (go_at_call 85;refine (Za5 LS.out (Hfe.out _ (by assumption)) (by assumption)).mono ?_;rintro e w' ⟨rfl,hk5,hin5⟩)
  refine hK.out _ _ ?_ (fun hHeld=>?_)
  ·exact Cell.out _ (by assumption)
  clear hK K;refine tk1 4 ⟨some 68,_,4,_,_,none⟩ ?_
  try simp only[Act.put,zA,zB,zC]
  refine tkHu (i:=5) (oi:=⟨some 69,.fieldAddr 33 (.tmp 3) 3,0,"l05_lp.go:109",#[⟨4,.guard⟩],some (4,true)⟩) rfl (by assumption) ?_
  try simp only[Act.put,zA,zB,zC]
  refine tkHu (i:=6) (oi:=⟨some 70,.load 26 (.tmp 69),26,"l05_lp.go:109",#[⟨5,.data⟩,⟨4,.guard⟩],some (4,true)⟩) rfl (by assumption) ?_
  try simp only[Act.put,zA,zB,zC]
  refine tkHu (i:=7) (oi:=⟨some 71,.call { callee:=.builtin Builtin.len,args:=#[.tmp 70],argTypes:=#[26] },3,"l05_lp.go:109",#[⟨6,.data⟩,⟨4,.guard⟩],some (4,true)⟩) rfl (by assumption) ?_
  try simp only[Act.put,zA,zB,zC]
  refine tkHu (i:=8) (oi:=⟨some 72,.fieldAddr 28 (.tmp 2) 2,0,"l05_lp.go:109",#[⟨4,.guard⟩],some (4,true)⟩) rfl (by assumption) ?_
  try simp only[Act.put,zA,zB,zC]
  refine tkHu (i:=9) (oi:=⟨some 73,.load 26 (.tmp 72),26,"l05_lp.go:109",#[⟨8,.data⟩,⟨4,.guard⟩],some (4,true)⟩) rfl (by assumption) ?_
  try simp only[Act.put,zA,zB,zC]
  refine tkHu (i:=10) (oi:=⟨some 74,.call { callee:=.builtin Builtin.len,args:=#[.tmp 73],argTypes:=#[26] },3,"l05_lp.go:109",#[⟨9,.data⟩,⟨4,.guard⟩],some (4,true)⟩) rfl (by assumption) ?_
  try simp only[Act.put,zA,zB,zC]
  refine tkHu (i:=11) (oi:=⟨some 75,.binOp .eql 3 (.tmp 71) (.tmp 74) 3,4,"l05_lp.go:109",#[⟨7,.data⟩,⟨10,.data⟩,⟨4,.guard⟩],some (4,true)⟩) rfl (by assumption) ?_
  refine tk1 12 ⟨some 76,_,4,_,_,none⟩ ?_;refine tk1 13 ⟨some 77,_,4,_,_,none⟩ ?_
  try simp only[Act.put,zA,zB,zC]
  refine tkHu (i:=14) (oi:=⟨some 78,.fieldAddr 33 (.tmp 3) 3,0,"l05_lp.go:109",#[⟨13,.guard⟩],some (13,true)⟩) rfl (by assumption) ?_
  try simp only[Act.put,zA,zB,zC]
  refine tkHu (i:=15) (oi:=⟨some 79,.load 26 (.tmp 78),26,"l05_lp.go:109",#[⟨14,.data⟩,⟨13,.guard⟩],some (13,true)⟩) rfl (by assumption) ?_
  try simp only[Act.put,zA,zB,zC]
  refine tkHu (i:=16) (oi:=⟨some 80,.call { callee:=.value (.func 86),args:=#[.tmp 79],argTypes:=#[26] },4,"l05_lp.go:109",#[⟨15,.data⟩,⟨13,.chain⟩,⟨13,.guard⟩],some (13,true)⟩) rfl (by assumption) ?_
  refine tk1 17 ⟨some 81,_,4,_,_,none⟩ ?_;refine tk1 18 ⟨some 82,_,4,_,_,none⟩ ?_
  try simp only[Act.put,zA,zB,zC]
  refine tkHu (i:=19) (oi:=⟨some 83,.load 28 (.tmp 2),28,"l05_lp.go:109",#[⟨18,.guard⟩],some (18,true)⟩) rfl (by assumption) ?_
  try simp only[Act.put,zA,zB,zC]
  refine tkHu (i:=20) (oi:=⟨some 84,.fieldAddr 33 (.tmp 3) 3,0,"l05_lp.go:109",#[⟨18,.guard⟩],some (18,true)⟩) rfl (by assumption) ?_
  try simp only[Act.put,zA,zB,zC]
  refine tkHu (i:=21) (oi:=⟨some 85,.load 26 (.tmp 84),26,"l05_lp.go:109",#[⟨20,.data⟩,⟨18,.guard⟩],some (18,true)⟩) rfl (by assumption) ?_
  try simp only[Act.put,zA,zB,zC]
  refine tkHu (i:=22) (oi:=⟨some 86,.fieldAddr 28 (.tmp 2) 1,0,"l05_lp.go:109",#[⟨18,.guard⟩],some (18,true)⟩) rfl (by assumption) ?_
  try simp only[Act.put,zA,zB,zC]
  refine tkHu (i:=23) (oi:=⟨some 87,.load 25 (.tmp 86),25,"l05_lp.go:109",#[⟨22,.data⟩,⟨18,.guard⟩],some (18,true)⟩) rfl (by assumption) ?_
  try simp only[Act.put,zA,zB,zC]
  refine tkHu (i:=24) (oi:=⟨some 88,.call { callee:=.builtin Builtin.len,args:=#[.tmp 87],argTypes:=#[25] },3,"l05_lp.go:109",#[⟨23,.data⟩,⟨18,.guard⟩],some (18,true)⟩) rfl (by assumption) ?_
  try simp only[Act.put,zA,zB,zC]
  refine tkHu (i:=25) (oi:=⟨some 89,.makeSlice 25 (.tmp 88) (.tmp 88),25,"l05_lp.go:109",#[⟨24,.data⟩,⟨24,.data⟩,⟨18,.guard⟩],some (18,true)⟩) rfl (by assumption) ?_
  try simp only[Act.put,zA,zB,zC]
  refine tkHu (i:=26) (oi:=⟨some 90,.call { callee:=.value (.func 87),args:=#[.tmp 83,.tmp 85,.tmp 89],argTypes:=#[28,26,25] },4,"l05_lp.go:109",#[⟨19,.data⟩,⟨21,.data⟩,⟨25,.data⟩,⟨18,.chain⟩,⟨18,.guard⟩],some (18,true)⟩) rfl (by assumption) ?_
  refine tk1 27 ⟨some 91,_,4,_,_,none⟩ ?_;refine tk1 28 ⟨some 92,_,4,_,_,none⟩ ?_
  try simp only[Act.put,zA,zB,zC]
  refine tkHu (i:=29) (oi:=⟨some 93,.move (.tmp 8),4,"l05_lp.go:109",#[⟨28,.guard⟩],some (28,true)⟩) rfl (by assumption) ?_
  refine tk1 30 ⟨some 94,_,4,_,_,none⟩ ?_;refine tk1 31 ⟨some 95,_,4,_,_,none⟩ ?_
  try simp only[Act.put,zA,zB,zC]
  refine tkHu (i:=32) (oi:=⟨some 96,.fieldAddr 31 (.tmp 7) 0,0,"l05_lp.go:109",#[⟨31,.guard⟩],some (31,true)⟩) rfl (by assumption) ?_
  try simp only[Act.put,zA,zB,zC]
  refine tkHu (i:=33) (oi:=⟨some 97,.load 3 (.tmp 96),3,"l05_lp.go:109",#[⟨32,.data⟩,⟨31,.guard⟩],some (31,true)⟩) rfl (by assumption) ?_
  try simp only[Act.put,zA,zB,zC]
  refine tkHu (i:=34) (oi:=⟨some 98,.binOp .lss 3 (.tmp 97) (.const (Value.int IntKind.i64 0)) 3,4,"l05_lp.go:109",#[⟨33,.data⟩,⟨31,.guard⟩],some (31,true)⟩) rfl (by assumption) ?_
  refine tk1 35 ⟨some 99,_,4,_,_,none⟩ ?_;refine tk1 36 ⟨some 4,_,4,_,_,none⟩ ?_
  try simp only[Act.put,zA,zB,zC]
  refine wpAnyH_done (by kernel_rfl) ?_ _
  go_wp2_with fail
  go_ret;exact⟨Zae Hr.out,(LK.out _ (by assumption)).1.1⟩
 | true=>
  by_cases hl:Z.length=p.C.length
  ·have hq:((Z.length:Int) == (p.C.length:Int))=true:=by rw[hl];simp
   have Hg3:=zH (show (nn && (gi && (K && decide (D.1<0))))=g by rw[<-Hg2.out];simp[hl]);clear Hg2 hl;cases nn with
   | false=>
    have Hr:=zH (show false=g by rw[<-Hg3.out];rfl);refine wp_region_held_drew (S:=(fun w'=>w'.cell? ⟨w.heap.size,0,none⟩=some (.slice a p.A.length c1)/\w'.cell? ⟨w.heap.size,1,none⟩=some (.slice b p.B.length c2)/\w'.cell? ⟨w.heap.size,2,none⟩=some (.slice c p.C.length c3)/\w'.cell? ⟨w.heap.size+1,1,none⟩=some (.slice ra X.length d1)/\w'.cell? ⟨w.heap.size+1,3,none⟩=some (.slice rc Z.length d3)/\w'.cell? ⟨w2.heap.size,0,none⟩=some (.int .i64 D.1)/\L w')) (by kernel_rfl) ?_ (fun hHeld=>?_)
    ·exact Cell.out _ hin
    refine tk1 0 ⟨some 64,_,28,_,_,none⟩ ?_;refine tk1 1 ⟨some 65,_,0,_,_,none⟩ ?_;refine tk1 2 ⟨some 66,_,26,_,_,none⟩ ?_
    try simp only[Act.put,zA,zB,zC]
    refine rd1 3 ⟨some 67,_,4,_,_,none⟩ fun K hK=>?_
    go_simp
    (go_at_call 85;refine (Za5 LS.out (Hfe.out _ (by assumption)) (by assumption)).mono ?_;rintro e w' ⟨rfl,hk5,hin5⟩)
    refine hK.out _ _ ?_ (fun hHeld=>?_)
    ·exact Cell.out _ (by assumption)
    clear hK K;refine tk1 4 ⟨some 68,_,4,_,_,none⟩ ?_
    try simp only[Act.put,zA,zB,zC]
    refine tk1 5 ⟨some 69,_,0,_,_,some (4,true)⟩ ?_
    try simp only[Act.put,zA,zB,zC]
    refine tk1 6 ⟨some 70,_,26,_,_,some (4,true)⟩ ?_
    try simp only[Act.put,zA,zB,zC]
    refine tk1 7 ⟨some 71,_,3,_,_,some (4,true)⟩ ?_
    try simp only[Act.put,zA,zB,zC]
    refine tk1 8 ⟨some 72,_,0,_,_,some (4,true)⟩ ?_
    try simp only[Act.put,zA,zB,zC]
    refine tk1 9 ⟨some 73,_,26,_,_,some (4,true)⟩ ?_
    try simp only[Act.put,zA,zB,zC]
    refine tk1 10 ⟨some 74,_,3,_,_,some (4,true)⟩ ?_
    try simp only[Act.put,zA,zB,zC]
    refine tk1 11 ⟨some 75,_,4,_,_,some (4,true)⟩ ?_;refine tk1 12 ⟨some 76,_,4,_,_,none⟩ ?_;refine tk1 13 ⟨some 77,_,4,_,_,none⟩ ?_
    try simp only[Act.put,zA,zB,zC]
    refine tk1 14 ⟨some 78,_,0,_,_,some (13,true)⟩ ?_
    try simp only[Act.put,zA,zB,zC]
    refine tk1 15 ⟨some 79,_,26,_,_,some (13,true)⟩ ?_
    try simp only[Act.put,zA,zB,zC]
    refine rd1 16 ⟨some 80,_,4,_,_,some (13,true)⟩ fun K hK=>?_
    go_simp
    (go_at_call 86;refine (Za5 LS.out (Hnn.out _ (by assumption)) (by assumption)).mono ?_;rintro e w' ⟨rfl,hk6,hin6⟩)
    refine hK.out _ _ ?_ (fun hHeld=>?_)
    ·exact Cell.out _ (by assumption)
    clear hK K;refine tk1 17 ⟨some 81,_,4,_,_,none⟩ ?_;refine tk1 18 ⟨some 82,_,4,_,_,none⟩ ?_
    try simp only[Act.put,zA,zB,zC]
    refine tkHu (i:=19) (oi:=⟨some 83,.load 28 (.tmp 2),28,"l05_lp.go:109",#[⟨18,.guard⟩],some (18,true)⟩) rfl (by assumption) ?_
    try simp only[Act.put,zA,zB,zC]
    refine tkHu (i:=20) (oi:=⟨some 84,.fieldAddr 33 (.tmp 3) 3,0,"l05_lp.go:109",#[⟨18,.guard⟩],some (18,true)⟩) rfl (by assumption) ?_
    try simp only[Act.put,zA,zB,zC]
    refine tkHu (i:=21) (oi:=⟨some 85,.load 26 (.tmp 84),26,"l05_lp.go:109",#[⟨20,.data⟩,⟨18,.guard⟩],some (18,true)⟩) rfl (by assumption) ?_
    try simp only[Act.put,zA,zB,zC]
    refine tkHu (i:=22) (oi:=⟨some 86,.fieldAddr 28 (.tmp 2) 1,0,"l05_lp.go:109",#[⟨18,.guard⟩],some (18,true)⟩) rfl (by assumption) ?_
    try simp only[Act.put,zA,zB,zC]
    refine tkHu (i:=23) (oi:=⟨some 87,.load 25 (.tmp 86),25,"l05_lp.go:109",#[⟨22,.data⟩,⟨18,.guard⟩],some (18,true)⟩) rfl (by assumption) ?_
    try simp only[Act.put,zA,zB,zC]
    refine tkHu (i:=24) (oi:=⟨some 88,.call { callee:=.builtin Builtin.len,args:=#[.tmp 87],argTypes:=#[25] },3,"l05_lp.go:109",#[⟨23,.data⟩,⟨18,.guard⟩],some (18,true)⟩) rfl (by assumption) ?_
    try simp only[Act.put,zA,zB,zC]
    refine tkHu (i:=25) (oi:=⟨some 89,.makeSlice 25 (.tmp 88) (.tmp 88),25,"l05_lp.go:109",#[⟨24,.data⟩,⟨24,.data⟩,⟨18,.guard⟩],some (18,true)⟩) rfl (by assumption) ?_
    try simp only[Act.put,zA,zB,zC]
    refine tkHu (i:=26) (oi:=⟨some 90,.call { callee:=.value (.func 87),args:=#[.tmp 83,.tmp 85,.tmp 89],argTypes:=#[28,26,25] },4,"l05_lp.go:109",#[⟨19,.data⟩,⟨21,.data⟩,⟨25,.data⟩,⟨18,.chain⟩,⟨18,.guard⟩],some (18,true)⟩) rfl (by assumption) ?_
    refine tk1 27 ⟨some 91,_,4,_,_,none⟩ ?_;refine tk1 28 ⟨some 92,_,4,_,_,none⟩ ?_
    try simp only[Act.put,zA,zB,zC]
    refine tkHu (i:=29) (oi:=⟨some 93,.move (.tmp 8),4,"l05_lp.go:109",#[⟨28,.guard⟩],some (28,true)⟩) rfl (by assumption) ?_
    refine tk1 30 ⟨some 94,_,4,_,_,none⟩ ?_;refine tk1 31 ⟨some 95,_,4,_,_,none⟩ ?_
    try simp only[Act.put,zA,zB,zC]
    refine tkHu (i:=32) (oi:=⟨some 96,.fieldAddr 31 (.tmp 7) 0,0,"l05_lp.go:109",#[⟨31,.guard⟩],some (31,true)⟩) rfl (by assumption) ?_
    try simp only[Act.put,zA,zB,zC]
    refine tkHu (i:=33) (oi:=⟨some 97,.load 3 (.tmp 96),3,"l05_lp.go:109",#[⟨32,.data⟩,⟨31,.guard⟩],some (31,true)⟩) rfl (by assumption) ?_
    try simp only[Act.put,zA,zB,zC]
    refine tkHu (i:=34) (oi:=⟨some 98,.binOp .lss 3 (.tmp 97) (.const (Value.int IntKind.i64 0)) 3,4,"l05_lp.go:109",#[⟨33,.data⟩,⟨31,.guard⟩],some (31,true)⟩) rfl (by assumption) ?_
    refine tk1 35 ⟨some 99,_,4,_,_,none⟩ ?_;refine tk1 36 ⟨some 4,_,4,_,_,none⟩ ?_
    try simp only[Act.put,zA,zB,zC]
    refine wpAnyH_done (by kernel_rfl) ?_ _
    go_wp2_with fail
    go_ret;exact⟨Zae Hr.out,(LK.out _ (by assumption)).1.1⟩
   | true=>
    cases gi with
    | false=>
     have Hr:=zH (show false=g by rw[<-Hg3.out];rfl);refine wp_region_held_drew (S:=(fun w'=>w'.cell? ⟨w.heap.size,0,none⟩=some (.slice a p.A.length c1)/\w'.cell? ⟨w.heap.size,1,none⟩=some (.slice b p.B.length c2)/\w'.cell? ⟨w.heap.size,2,none⟩=some (.slice c p.C.length c3)/\w'.cell? ⟨w.heap.size+1,1,none⟩=some (.slice ra X.length d1)/\w'.cell? ⟨w.heap.size+1,3,none⟩=some (.slice rc Z.length d3)/\w'.cell? ⟨w2.heap.size,0,none⟩=some (.int .i64 D.1)/\L w')) (by kernel_rfl) ?_ (fun hHeld=>?_)
     ·exact Cell.out _ hin
     refine tk1 0 ⟨some 64,_,28,_,_,none⟩ ?_;refine tk1 1 ⟨some 65,_,0,_,_,none⟩ ?_;refine tk1 2 ⟨some 66,_,26,_,_,none⟩ ?_
     try simp only[Act.put,zA,zB,zC]
     refine rd1 3 ⟨some 67,_,4,_,_,none⟩ fun K hK=>?_
     go_simp
     (go_at_call 85;refine (Za5 LS.out (Hfe.out _ (by assumption)) (by assumption)).mono ?_;rintro e w' ⟨rfl,hk5,hin5⟩)
     refine hK.out _ _ ?_ (fun hHeld=>?_)
     ·exact Cell.out _ (by assumption)
     clear hK K;refine tk1 4 ⟨some 68,_,4,_,_,none⟩ ?_
     try simp only[Act.put,zA,zB,zC]
     refine tk1 5 ⟨some 69,_,0,_,_,some (4,true)⟩ ?_
     try simp only[Act.put,zA,zB,zC]
     refine tk1 6 ⟨some 70,_,26,_,_,some (4,true)⟩ ?_
     try simp only[Act.put,zA,zB,zC]
     refine tk1 7 ⟨some 71,_,3,_,_,some (4,true)⟩ ?_
     try simp only[Act.put,zA,zB,zC]
     refine tk1 8 ⟨some 72,_,0,_,_,some (4,true)⟩ ?_
     try simp only[Act.put,zA,zB,zC]
     refine tk1 9 ⟨some 73,_,26,_,_,some (4,true)⟩ ?_
     try simp only[Act.put,zA,zB,zC]
     refine tk1 10 ⟨some 74,_,3,_,_,some (4,true)⟩ ?_
     try simp only[Act.put,zA,zB,zC]
     refine tk1 11 ⟨some 75,_,4,_,_,some (4,true)⟩ ?_;refine tk1 12 ⟨some 76,_,4,_,_,none⟩ ?_;refine tk1 13 ⟨some 77,_,4,_,_,none⟩ ?_
     try simp only[Act.put,zA,zB,zC]
     refine tk1 14 ⟨some 78,_,0,_,_,some (13,true)⟩ ?_
     try simp only[Act.put,zA,zB,zC]
     refine tk1 15 ⟨some 79,_,26,_,_,some (13,true)⟩ ?_
     try simp only[Act.put,zA,zB,zC]
     refine rd1 16 ⟨some 80,_,4,_,_,some (13,true)⟩ fun K hK=>?_
     go_simp
     (go_at_call 86;refine (Za5 LS.out (Hnn.out _ (by assumption)) (by assumption)).mono ?_;rintro e w' ⟨rfl,hk6,hin6⟩)
     refine hK.out _ _ ?_ (fun hHeld=>?_)
     ·exact Cell.out _ (by assumption)
     clear hK K;refine tk1 17 ⟨some 81,_,4,_,_,none⟩ ?_;refine tk1 18 ⟨some 82,_,4,_,_,none⟩ ?_
     try simp only[Act.put,zA,zB,zC]
     refine tk1 19 ⟨some 83,_,28,_,_,some (18,true)⟩ ?_
     try simp only[Act.put,zA,zB,zC]
     refine tk1 20 ⟨some 84,_,0,_,_,some (18,true)⟩ ?_
     try simp only[Act.put,zA,zB,zC]
     refine tk1 21 ⟨some 85,_,26,_,_,some (18,true)⟩ ?_
     try simp only[Act.put,zA,zB,zC]
     refine tk1 22 ⟨some 86,_,0,_,_,some (18,true)⟩ ?_
     try simp only[Act.put,zA,zB,zC]
     refine tk1 23 ⟨some 87,_,25,_,_,some (18,true)⟩ ?_
     try simp only[Act.put,zA,zB,zC]
     refine tk1 24 ⟨some 88,_,3,_,_,some (18,true)⟩ ?_
     try simp only[Act.put,zA,zB,zC]
     refine rd1 25 ⟨some 89,_,25,_,_,some (18,true)⟩ fun K hK=>?_
     (refine Zb3 (by kernel_rfl) (.tmp 88) (.tmp 88) 25 rfl _ 3 i0 (.int .i64 0) 1 Tryz.underlying25 HI.out HZ0.out HZ1.out rfl .i64 .i64 _ _ p.B.length rfl rfl rfl rfl (by rw[HZ2.out];omega) (by unfold maxLen;omega) (Nat.le_refl _) ?_;intro w9 hown hgrow;have hin9:=LS.out _ _ (Zdx hgrow) (by assumption:L _);have ho9:=Ze2 hown;obtain⟨zb,zc,hzv,hzr,hza,_⟩:=Zaw ho9;obtain⟨rfl,rfl⟩:=slice_inj hzv;have hzn:=Zat.Zcb (B:=w9.heap.size) hzr fun q hq=>(hza q hq).2;clear hown hgrow ho9 hzr hza hzv)
     refine hK.out _ _ ?_ (fun hHeld=>?_)
     ·exact Cell.out _ (by assumption)
     clear hK K
     try simp only[Act.put,zA,zB,zC]
     refine rd1 26 ⟨some 90,_,4,_,_,some (18,true)⟩ fun K hK=>?_
     go_simp
     (go_at_call 87;refine (Za5 LS.out (Hgi.out _ (by assumption) _ _ (by assumption)) (by assumption)).mono ?_;rintro e w' ⟨rfl,hk7,hin7⟩)
     refine hK.out _ _ ?_ (fun hHeld=>?_)
     ·exact Cell.out _ (by assumption)
     clear hK K;refine tk1 27 ⟨some 91,_,4,_,_,none⟩ ?_;refine tk1 28 ⟨some 92,_,4,_,_,none⟩ ?_
     try simp only[Act.put,zA,zB,zC]
     refine tkHu (i:=29) (oi:=⟨some 93,.move (.tmp 8),4,"l05_lp.go:109",#[⟨28,.guard⟩],some (28,true)⟩) rfl (by assumption) ?_
     refine tk1 30 ⟨some 94,_,4,_,_,none⟩ ?_;refine tk1 31 ⟨some 95,_,4,_,_,none⟩ ?_
     try simp only[Act.put,zA,zB,zC]
     refine tkHu (i:=32) (oi:=⟨some 96,.fieldAddr 31 (.tmp 7) 0,0,"l05_lp.go:109",#[⟨31,.guard⟩],some (31,true)⟩) rfl (by assumption) ?_
     try simp only[Act.put,zA,zB,zC]
     refine tkHu (i:=33) (oi:=⟨some 97,.load 3 (.tmp 96),3,"l05_lp.go:109",#[⟨32,.data⟩,⟨31,.guard⟩],some (31,true)⟩) rfl (by assumption) ?_
     try simp only[Act.put,zA,zB,zC]
     refine tkHu (i:=34) (oi:=⟨some 98,.binOp .lss 3 (.tmp 97) (.const (Value.int IntKind.i64 0)) 3,4,"l05_lp.go:109",#[⟨33,.data⟩,⟨31,.guard⟩],some (31,true)⟩) rfl (by assumption) ?_
     refine tk1 35 ⟨some 99,_,4,_,_,none⟩ ?_;refine tk1 36 ⟨some 4,_,4,_,_,none⟩ ?_
     try simp only[Act.put,zA,zB,zC]
     refine wpAnyH_done (by kernel_rfl) ?_ _
     go_wp2_with fail
     go_ret;exact⟨Zae Hr.out,(LK.out _ (by assumption)).1.1⟩
    | true=>
     cases K with
     | false=>
      have Hr:=zH (show false=g by rw[<-Hg3.out];rfl);refine wp_region_held_drew (S:=(fun w'=>w'.cell? ⟨w.heap.size,0,none⟩=some (.slice a p.A.length c1)/\w'.cell? ⟨w.heap.size,1,none⟩=some (.slice b p.B.length c2)/\w'.cell? ⟨w.heap.size,2,none⟩=some (.slice c p.C.length c3)/\w'.cell? ⟨w.heap.size+1,1,none⟩=some (.slice ra X.length d1)/\w'.cell? ⟨w.heap.size+1,3,none⟩=some (.slice rc Z.length d3)/\w'.cell? ⟨w2.heap.size,0,none⟩=some (.int .i64 D.1)/\L w')) (by kernel_rfl) ?_ (fun hHeld=>?_)
      ·exact Cell.out _ hin
      refine tk1 0 ⟨some 64,_,28,_,_,none⟩ ?_;refine tk1 1 ⟨some 65,_,0,_,_,none⟩ ?_;refine tk1 2 ⟨some 66,_,26,_,_,none⟩ ?_
      try simp only[Act.put,zA,zB,zC]
      refine rd1 3 ⟨some 67,_,4,_,_,none⟩ fun K hK=>?_
      go_simp
      (go_at_call 85;refine (Za5 LS.out (Hfe.out _ (by assumption)) (by assumption)).mono ?_;rintro e w' ⟨rfl,hk5,hin5⟩)
      refine hK.out _ _ ?_ (fun hHeld=>?_)
      ·exact Cell.out _ (by assumption)
      clear hK K;refine tk1 4 ⟨some 68,_,4,_,_,none⟩ ?_
      try simp only[Act.put,zA,zB,zC]
      refine tk1 5 ⟨some 69,_,0,_,_,some (4,true)⟩ ?_
      try simp only[Act.put,zA,zB,zC]
      refine tk1 6 ⟨some 70,_,26,_,_,some (4,true)⟩ ?_
      try simp only[Act.put,zA,zB,zC]
      refine tk1 7 ⟨some 71,_,3,_,_,some (4,true)⟩ ?_
      try simp only[Act.put,zA,zB,zC]
      refine tk1 8 ⟨some 72,_,0,_,_,some (4,true)⟩ ?_
      try simp only[Act.put,zA,zB,zC]
      refine tk1 9 ⟨some 73,_,26,_,_,some (4,true)⟩ ?_
      try simp only[Act.put,zA,zB,zC]
      refine tk1 10 ⟨some 74,_,3,_,_,some (4,true)⟩ ?_
      try simp only[Act.put,zA,zB,zC]
      refine tk1 11 ⟨some 75,_,4,_,_,some (4,true)⟩ ?_;refine tk1 12 ⟨some 76,_,4,_,_,none⟩ ?_;refine tk1 13 ⟨some 77,_,4,_,_,none⟩ ?_
      try simp only[Act.put,zA,zB,zC]
      refine tk1 14 ⟨some 78,_,0,_,_,some (13,true)⟩ ?_
      try simp only[Act.put,zA,zB,zC]
      refine tk1 15 ⟨some 79,_,26,_,_,some (13,true)⟩ ?_
      try simp only[Act.put,zA,zB,zC]
      refine rd1 16 ⟨some 80,_,4,_,_,some (13,true)⟩ fun K hK=>?_
      go_simp
      (go_at_call 86;refine (Za5 LS.out (Hnn.out _ (by assumption)) (by assumption)).mono ?_;rintro e w' ⟨rfl,hk6,hin6⟩)
      refine hK.out _ _ ?_ (fun hHeld=>?_)
      ·exact Cell.out _ (by assumption)
      clear hK K;refine tk1 17 ⟨some 81,_,4,_,_,none⟩ ?_;refine tk1 18 ⟨some 82,_,4,_,_,none⟩ ?_
      try simp only[Act.put,zA,zB,zC]
      refine tk1 19 ⟨some 83,_,28,_,_,some (18,true)⟩ ?_
      try simp only[Act.put,zA,zB,zC]
      refine tk1 20 ⟨some 84,_,0,_,_,some (18,true)⟩ ?_
      try simp only[Act.put,zA,zB,zC]
      refine tk1 21 ⟨some 85,_,26,_,_,some (18,true)⟩ ?_
      try simp only[Act.put,zA,zB,zC]
      refine tk1 22 ⟨some 86,_,0,_,_,some (18,true)⟩ ?_
      try simp only[Act.put,zA,zB,zC]
      refine tk1 23 ⟨some 87,_,25,_,_,some (18,true)⟩ ?_
      try simp only[Act.put,zA,zB,zC]
      refine tk1 24 ⟨some 88,_,3,_,_,some (18,true)⟩ ?_
      try simp only[Act.put,zA,zB,zC]
      refine rd1 25 ⟨some 89,_,25,_,_,some (18,true)⟩ fun K hK=>?_
      (refine Zb3 (by kernel_rfl) (.tmp 88) (.tmp 88) 25 rfl _ 3 i0 (.int .i64 0) 1 Tryz.underlying25 HI.out HZ0.out HZ1.out rfl .i64 .i64 _ _ p.B.length rfl rfl rfl rfl (by rw[HZ2.out];omega) (by unfold maxLen;omega) (Nat.le_refl _) ?_;intro w9 hown hgrow;have hin9:=LS.out _ _ (Zdx hgrow) (by assumption:L _);have ho9:=Ze2 hown;obtain⟨zb,zc,hzv,hzr,hza,_⟩:=Zaw ho9;obtain⟨rfl,rfl⟩:=slice_inj hzv;have hzn:=Zat.Zcb (B:=w9.heap.size) hzr fun q hq=>(hza q hq).2;clear hown hgrow ho9 hzr hza hzv)
      refine hK.out _ _ ?_ (fun hHeld=>?_)
      ·exact Cell.out _ (by assumption)
      clear hK K
      try simp only[Act.put,zA,zB,zC]
      refine rd1 26 ⟨some 90,_,4,_,_,some (18,true)⟩ fun K hK=>?_
      go_simp
      (go_at_call 87;refine (Za5 LS.out (Hgi.out _ (by assumption) _ _ (by assumption)) (by assumption)).mono ?_;rintro e w' ⟨rfl,hk7,hin7⟩)
      refine hK.out _ _ ?_ (fun hHeld=>?_)
      ·exact Cell.out _ (by assumption)
      clear hK K;refine tk1 27 ⟨some 91,_,4,_,_,none⟩ ?_;refine tk1 28 ⟨some 92,_,4,_,_,none⟩ ?_
      try simp only[Act.put,zA,zB,zC]
      refine tk1 29 ⟨some 93,_,4,_,_,some (28,true)⟩ ?_;refine tk1 30 ⟨some 94,_,4,_,_,none⟩ ?_;refine tk1 31 ⟨some 95,_,4,_,_,none⟩ ?_
      try simp only[Act.put,zA,zB,zC]
      refine tkHu (i:=32) (oi:=⟨some 96,.fieldAddr 31 (.tmp 7) 0,0,"l05_lp.go:109",#[⟨31,.guard⟩],some (31,true)⟩) rfl (by assumption) ?_
      try simp only[Act.put,zA,zB,zC]
      refine tkHu (i:=33) (oi:=⟨some 97,.load 3 (.tmp 96),3,"l05_lp.go:109",#[⟨32,.data⟩,⟨31,.guard⟩],some (31,true)⟩) rfl (by assumption) ?_
      try simp only[Act.put,zA,zB,zC]
      refine tkHu (i:=34) (oi:=⟨some 98,.binOp .lss 3 (.tmp 97) (.const (Value.int IntKind.i64 0)) 3,4,"l05_lp.go:109",#[⟨33,.data⟩,⟨31,.guard⟩],some (31,true)⟩) rfl (by assumption) ?_
      refine tk1 35 ⟨some 99,_,4,_,_,none⟩ ?_;refine tk1 36 ⟨some 4,_,4,_,_,none⟩ ?_
      try simp only[Act.put,zA,zB,zC]
      refine wpAnyH_done (by kernel_rfl) ?_ _
      go_wp2_with fail
      go_ret;exact⟨Zae Hr.out,(LK.out _ (by assumption)).1.1⟩
     | true=>
      rcases hd:decide (D.1<0) with _|_
      ·have Hr:=zH (show false=g by rw[<-Hg3.out,hd];rfl)
       refine wp_region_held_drew (S:=(fun w'=>w'.cell? ⟨w.heap.size,0,none⟩=some (.slice a p.A.length c1)/\w'.cell? ⟨w.heap.size,1,none⟩=some (.slice b p.B.length c2)/\w'.cell? ⟨w.heap.size,2,none⟩=some (.slice c p.C.length c3)/\w'.cell? ⟨w.heap.size+1,1,none⟩=some (.slice ra X.length d1)/\w'.cell? ⟨w.heap.size+1,3,none⟩=some (.slice rc Z.length d3)/\w'.cell? ⟨w2.heap.size,0,none⟩=some (.int .i64 D.1)/\L w')) (by kernel_rfl) ?_ (fun hHeld=>?_)
       ·exact Cell.out _ hin
       refine tk1 0 ⟨some 64,_,28,_,_,none⟩ ?_;refine tk1 1 ⟨some 65,_,0,_,_,none⟩ ?_;refine tk1 2 ⟨some 66,_,26,_,_,none⟩ ?_
       try simp only[Act.put,zA,zB,zC]
       refine rd1 3 ⟨some 67,_,4,_,_,none⟩ fun K hK=>?_
       go_simp
       (go_at_call 85;refine (Za5 LS.out (Hfe.out _ (by assumption)) (by assumption)).mono ?_;rintro e w' ⟨rfl,hk5,hin5⟩)
       refine hK.out _ _ ?_ (fun hHeld=>?_)
       ·exact Cell.out _ (by assumption)
       clear hK K;refine tk1 4 ⟨some 68,_,4,_,_,none⟩ ?_
       try simp only[Act.put,zA,zB,zC]
       refine tk1 5 ⟨some 69,_,0,_,_,some (4,true)⟩ ?_
       try simp only[Act.put,zA,zB,zC]
       refine tk1 6 ⟨some 70,_,26,_,_,some (4,true)⟩ ?_
       try simp only[Act.put,zA,zB,zC]
       refine tk1 7 ⟨some 71,_,3,_,_,some (4,true)⟩ ?_
       try simp only[Act.put,zA,zB,zC]
       refine tk1 8 ⟨some 72,_,0,_,_,some (4,true)⟩ ?_
       try simp only[Act.put,zA,zB,zC]
       refine tk1 9 ⟨some 73,_,26,_,_,some (4,true)⟩ ?_
       try simp only[Act.put,zA,zB,zC]
       refine tk1 10 ⟨some 74,_,3,_,_,some (4,true)⟩ ?_
       try simp only[Act.put,zA,zB,zC]
       refine tk1 11 ⟨some 75,_,4,_,_,some (4,true)⟩ ?_;refine tk1 12 ⟨some 76,_,4,_,_,none⟩ ?_;refine tk1 13 ⟨some 77,_,4,_,_,none⟩ ?_
       try simp only[Act.put,zA,zB,zC]
       refine tk1 14 ⟨some 78,_,0,_,_,some (13,true)⟩ ?_
       try simp only[Act.put,zA,zB,zC]
       refine tk1 15 ⟨some 79,_,26,_,_,some (13,true)⟩ ?_
       try simp only[Act.put,zA,zB,zC]
       refine rd1 16 ⟨some 80,_,4,_,_,some (13,true)⟩ fun K hK=>?_
       go_simp
       (go_at_call 86;refine (Za5 LS.out (Hnn.out _ (by assumption)) (by assumption)).mono ?_;rintro e w' ⟨rfl,hk6,hin6⟩)
       refine hK.out _ _ ?_ (fun hHeld=>?_)
       ·exact Cell.out _ (by assumption)
       clear hK K;refine tk1 17 ⟨some 81,_,4,_,_,none⟩ ?_;refine tk1 18 ⟨some 82,_,4,_,_,none⟩ ?_
       try simp only[Act.put,zA,zB,zC]
       refine tk1 19 ⟨some 83,_,28,_,_,some (18,true)⟩ ?_
       try simp only[Act.put,zA,zB,zC]
       refine tk1 20 ⟨some 84,_,0,_,_,some (18,true)⟩ ?_
       try simp only[Act.put,zA,zB,zC]
       refine tk1 21 ⟨some 85,_,26,_,_,some (18,true)⟩ ?_
       try simp only[Act.put,zA,zB,zC]
       refine tk1 22 ⟨some 86,_,0,_,_,some (18,true)⟩ ?_
       try simp only[Act.put,zA,zB,zC]
       refine tk1 23 ⟨some 87,_,25,_,_,some (18,true)⟩ ?_
       try simp only[Act.put,zA,zB,zC]
       refine tk1 24 ⟨some 88,_,3,_,_,some (18,true)⟩ ?_
       try simp only[Act.put,zA,zB,zC]
       refine rd1 25 ⟨some 89,_,25,_,_,some (18,true)⟩ fun K hK=>?_
       (refine Zb3 (by kernel_rfl) (.tmp 88) (.tmp 88) 25 rfl _ 3 i0 (.int .i64 0) 1 Tryz.underlying25 HI.out HZ0.out HZ1.out rfl .i64 .i64 _ _ p.B.length rfl rfl rfl rfl (by rw[HZ2.out];omega) (by unfold maxLen;omega) (Nat.le_refl _) ?_;intro w9 hown hgrow;have hin9:=LS.out _ _ (Zdx hgrow) (by assumption:L _);have ho9:=Ze2 hown;obtain⟨zb,zc,hzv,hzr,hza,_⟩:=Zaw ho9;obtain⟨rfl,rfl⟩:=slice_inj hzv;have hzn:=Zat.Zcb (B:=w9.heap.size) hzr fun q hq=>(hza q hq).2;clear hown hgrow ho9 hzr hza hzv)
       refine hK.out _ _ ?_ (fun hHeld=>?_)
       ·exact Cell.out _ (by assumption)
       clear hK K
       try simp only[Act.put,zA,zB,zC]
       refine rd1 26 ⟨some 90,_,4,_,_,some (18,true)⟩ fun K hK=>?_
       go_simp
       (go_at_call 87;refine (Za5 LS.out (Hgi.out _ (by assumption) _ _ (by assumption)) (by assumption)).mono ?_;rintro e w' ⟨rfl,hk7,hin7⟩)
       refine hK.out _ _ ?_ (fun hHeld=>?_)
       ·exact Cell.out _ (by assumption)
       clear hK K;refine tk1 27 ⟨some 91,_,4,_,_,none⟩ ?_;refine tk1 28 ⟨some 92,_,4,_,_,none⟩ ?_
       try simp only[Act.put,zA,zB,zC]
       refine tk1 29 ⟨some 93,_,4,_,_,some (28,true)⟩ ?_;refine tk1 30 ⟨some 94,_,4,_,_,none⟩ ?_;refine tk1 31 ⟨some 95,_,4,_,_,none⟩ ?_
       try simp only[Act.put,zA,zB,zC]
       refine tk1 32 ⟨some 96,_,0,_,_,some (31,true)⟩ ?_
       try simp only[Act.put,zA,zB,zC]
       refine tk1 33 ⟨some 97,_,3,_,_,some (31,true)⟩ ?_
       try simp only[Act.put,zA,zB,zC]
       refine tk1 34 ⟨some 98,_,4,_,_,some (31,true)⟩ ?_;refine tk1 35 ⟨some 99,_,4,_,_,none⟩ ?_;refine tk1 36 ⟨some 4,_,4,_,_,none⟩ ?_
       try simp only[Act.put,zA,zB,zC]
       refine wpAnyH_done (by kernel_rfl) ?_ _
       go_wp2_with fail
       go_ret;exact⟨Zae Hr.out,(LK.out _ (by assumption)).1.1⟩
      ·have Hr:=zH (show true=g by rw[<-Hg3.out,hd];rfl)
       refine wp_region_held_drew (S:=(fun w'=>w'.cell? ⟨w.heap.size,0,none⟩=some (.slice a p.A.length c1)/\w'.cell? ⟨w.heap.size,1,none⟩=some (.slice b p.B.length c2)/\w'.cell? ⟨w.heap.size,2,none⟩=some (.slice c p.C.length c3)/\w'.cell? ⟨w.heap.size+1,1,none⟩=some (.slice ra X.length d1)/\w'.cell? ⟨w.heap.size+1,3,none⟩=some (.slice rc Z.length d3)/\w'.cell? ⟨w2.heap.size,0,none⟩=some (.int .i64 D.1)/\L w')) (by kernel_rfl) ?_ (fun hHeld=>?_)
       ·exact Cell.out _ hin
       refine tk1 0 ⟨some 64,_,28,_,_,none⟩ ?_;refine tk1 1 ⟨some 65,_,0,_,_,none⟩ ?_;refine tk1 2 ⟨some 66,_,26,_,_,none⟩ ?_
       try simp only[Act.put,zA,zB,zC]
       refine rd1 3 ⟨some 67,_,4,_,_,none⟩ fun K hK=>?_
       go_simp
       (go_at_call 85;refine (Za5 LS.out (Hfe.out _ (by assumption)) (by assumption)).mono ?_;rintro e w' ⟨rfl,hk5,hin5⟩)
       refine hK.out _ _ ?_ (fun hHeld=>?_)
       ·exact Cell.out _ (by assumption)
       clear hK K;refine tk1 4 ⟨some 68,_,4,_,_,none⟩ ?_
       try simp only[Act.put,zA,zB,zC]
       refine tk1 5 ⟨some 69,_,0,_,_,some (4,true)⟩ ?_
       try simp only[Act.put,zA,zB,zC]
       refine tk1 6 ⟨some 70,_,26,_,_,some (4,true)⟩ ?_
       try simp only[Act.put,zA,zB,zC]
       refine tk1 7 ⟨some 71,_,3,_,_,some (4,true)⟩ ?_
       try simp only[Act.put,zA,zB,zC]
       refine tk1 8 ⟨some 72,_,0,_,_,some (4,true)⟩ ?_
       try simp only[Act.put,zA,zB,zC]
       refine tk1 9 ⟨some 73,_,26,_,_,some (4,true)⟩ ?_
       try simp only[Act.put,zA,zB,zC]
       refine tk1 10 ⟨some 74,_,3,_,_,some (4,true)⟩ ?_
       try simp only[Act.put,zA,zB,zC]
       refine tk1 11 ⟨some 75,_,4,_,_,some (4,true)⟩ ?_;refine tk1 12 ⟨some 76,_,4,_,_,none⟩ ?_;refine tk1 13 ⟨some 77,_,4,_,_,none⟩ ?_
       try simp only[Act.put,zA,zB,zC]
       refine tk1 14 ⟨some 78,_,0,_,_,some (13,true)⟩ ?_
       try simp only[Act.put,zA,zB,zC]
       refine tk1 15 ⟨some 79,_,26,_,_,some (13,true)⟩ ?_
       try simp only[Act.put,zA,zB,zC]
       refine rd1 16 ⟨some 80,_,4,_,_,some (13,true)⟩ fun K hK=>?_
       go_simp
       (go_at_call 86;refine (Za5 LS.out (Hnn.out _ (by assumption)) (by assumption)).mono ?_;rintro e w' ⟨rfl,hk6,hin6⟩)
       refine hK.out _ _ ?_ (fun hHeld=>?_)
       ·exact Cell.out _ (by assumption)
       clear hK K;refine tk1 17 ⟨some 81,_,4,_,_,none⟩ ?_;refine tk1 18 ⟨some 82,_,4,_,_,none⟩ ?_
       try simp only[Act.put,zA,zB,zC]
       refine tk1 19 ⟨some 83,_,28,_,_,some (18,true)⟩ ?_
       try simp only[Act.put,zA,zB,zC]
       refine tk1 20 ⟨some 84,_,0,_,_,some (18,true)⟩ ?_
       try simp only[Act.put,zA,zB,zC]
       refine tk1 21 ⟨some 85,_,26,_,_,some (18,true)⟩ ?_
       try simp only[Act.put,zA,zB,zC]
       refine tk1 22 ⟨some 86,_,0,_,_,some (18,true)⟩ ?_
       try simp only[Act.put,zA,zB,zC]
       refine tk1 23 ⟨some 87,_,25,_,_,some (18,true)⟩ ?_
       try simp only[Act.put,zA,zB,zC]
       refine tk1 24 ⟨some 88,_,3,_,_,some (18,true)⟩ ?_
       try simp only[Act.put,zA,zB,zC]
       refine rd1 25 ⟨some 89,_,25,_,_,some (18,true)⟩ fun K hK=>?_
       (refine Zb3 (by kernel_rfl) (.tmp 88) (.tmp 88) 25 rfl _ 3 i0 (.int .i64 0) 1 Tryz.underlying25 HI.out HZ0.out HZ1.out rfl .i64 .i64 _ _ p.B.length rfl rfl rfl rfl (by rw[HZ2.out];omega) (by unfold maxLen;omega) (Nat.le_refl _) ?_;intro w9 hown hgrow;have hin9:=LS.out _ _ (Zdx hgrow) (by assumption:L _);have ho9:=Ze2 hown;obtain⟨zb,zc,hzv,hzr,hza,_⟩:=Zaw ho9;obtain⟨rfl,rfl⟩:=slice_inj hzv;have hzn:=Zat.Zcb (B:=w9.heap.size) hzr fun q hq=>(hza q hq).2;clear hown hgrow ho9 hzr hza hzv)
       refine hK.out _ _ ?_ (fun hHeld=>?_)
       ·exact Cell.out _ (by assumption)
       clear hK K
       try simp only[Act.put,zA,zB,zC]
       refine rd1 26 ⟨some 90,_,4,_,_,some (18,true)⟩ fun K hK=>?_
       go_simp
       (go_at_call 87;refine (Za5 LS.out (Hgi.out _ (by assumption) _ _ (by assumption)) (by assumption)).mono ?_;rintro e w' ⟨rfl,hk7,hin7⟩)
       refine hK.out _ _ ?_ (fun hHeld=>?_)
       ·exact Cell.out _ (by assumption)
       clear hK K;refine tk1 27 ⟨some 91,_,4,_,_,none⟩ ?_;refine tk1 28 ⟨some 92,_,4,_,_,none⟩ ?_
       try simp only[Act.put,zA,zB,zC]
       refine tk1 29 ⟨some 93,_,4,_,_,some (28,true)⟩ ?_;refine tk1 30 ⟨some 94,_,4,_,_,none⟩ ?_;refine tk1 31 ⟨some 95,_,4,_,_,none⟩ ?_
       try simp only[Act.put,zA,zB,zC]
       refine tk1 32 ⟨some 96,_,0,_,_,some (31,true)⟩ ?_
       try simp only[Act.put,zA,zB,zC]
       refine tk1 33 ⟨some 97,_,3,_,_,some (31,true)⟩ ?_
       try simp only[Act.put,zA,zB,zC]
       refine tk1 34 ⟨some 98,_,4,_,_,some (31,true)⟩ ?_;refine tk1 35 ⟨some 99,_,4,_,_,none⟩ ?_;refine tk1 36 ⟨some 4,_,4,_,_,none⟩ ?_
       try simp only[Act.put,zA,zB,zC]
       refine wpAnyH_done (by kernel_rfl) ?_ _
       go_wp2_with fail
       go_ret;exact⟨Zae Hr.out,(LK.out _ (by assumption)).1.1⟩
  ·obtain⟨l1,l2⟩:=Zfq hl
   have Hr:=zH (show false=g by rw[<-Hg2.out];simp[hl]);refine wp_region_held_drew (S:=(fun w'=>w'.cell? ⟨w.heap.size,0,none⟩=some (.slice a p.A.length c1)/\w'.cell? ⟨w.heap.size,1,none⟩=some (.slice b p.B.length c2)/\w'.cell? ⟨w.heap.size,2,none⟩=some (.slice c p.C.length c3)/\w'.cell? ⟨w.heap.size+1,1,none⟩=some (.slice ra X.length d1)/\w'.cell? ⟨w.heap.size+1,3,none⟩=some (.slice rc Z.length d3)/\w'.cell? ⟨w2.heap.size,0,none⟩=some (.int .i64 D.1)/\L w')) (by kernel_rfl) ?_ (fun hHeld=>?_)
   ·exact Cell.out _ hin
   refine tk1 0 ⟨some 64,_,28,_,_,none⟩ ?_;refine tk1 1 ⟨some 65,_,0,_,_,none⟩ ?_;refine tk1 2 ⟨some 66,_,26,_,_,none⟩ ?_
   try simp only[Act.put,zA,zB,zC]
   refine rd1 3 ⟨some 67,_,4,_,_,none⟩ fun K hK=>?_
   go_simp
   (go_at_call 85;refine (Za5 LS.out (Hfe.out _ (by assumption)) (by assumption)).mono ?_;rintro e w' ⟨rfl,hk5,hin5⟩)
   refine hK.out _ _ ?_ (fun hHeld=>?_)
   ·exact Cell.out _ (by assumption)
   clear hK K;refine tk1 4 ⟨some 68,_,4,_,_,none⟩ ?_
   try simp only[Act.put,zA,zB,zC]
   refine tk1 5 ⟨some 69,_,0,_,_,some (4,true)⟩ ?_
   try simp only[Act.put,zA,zB,zC]
   refine tk1 6 ⟨some 70,_,26,_,_,some (4,true)⟩ ?_
   try simp only[Act.put,zA,zB,zC]
   refine tk1 7 ⟨some 71,_,3,_,_,some (4,true)⟩ ?_
   try simp only[Act.put,zA,zB,zC]
   refine tk1 8 ⟨some 72,_,0,_,_,some (4,true)⟩ ?_
   try simp only[Act.put,zA,zB,zC]
   refine tk1 9 ⟨some 73,_,26,_,_,some (4,true)⟩ ?_
   try simp only[Act.put,zA,zB,zC]
   refine tk1 10 ⟨some 74,_,3,_,_,some (4,true)⟩ ?_
   try simp only[Act.put,zA,zB,zC]
   refine tk1 11 ⟨some 75,_,4,_,_,some (4,true)⟩ ?_;refine tk1 12 ⟨some 76,_,4,_,_,none⟩ ?_;refine tk1 13 ⟨some 77,_,4,_,_,none⟩ ?_
   try simp only[Act.put,zA,zB,zC]
   refine tkHu (i:=14) (oi:=⟨some 78,.fieldAddr 33 (.tmp 3) 3,0,"l05_lp.go:109",#[⟨13,.guard⟩],some (13,true)⟩) rfl (by assumption) ?_
   try simp only[Act.put,zA,zB,zC]
   refine tkHu (i:=15) (oi:=⟨some 79,.load 26 (.tmp 78),26,"l05_lp.go:109",#[⟨14,.data⟩,⟨13,.guard⟩],some (13,true)⟩) rfl (by assumption) ?_
   try simp only[Act.put,zA,zB,zC]
   refine tkHu (i:=16) (oi:=⟨some 80,.call { callee:=.value (.func 86),args:=#[.tmp 79],argTypes:=#[26] },4,"l05_lp.go:109",#[⟨15,.data⟩,⟨13,.chain⟩,⟨13,.guard⟩],some (13,true)⟩) rfl (by assumption) ?_
   refine tk1 17 ⟨some 81,_,4,_,_,none⟩ ?_;refine tk1 18 ⟨some 82,_,4,_,_,none⟩ ?_
   try simp only[Act.put,zA,zB,zC]
   refine tkHu (i:=19) (oi:=⟨some 83,.load 28 (.tmp 2),28,"l05_lp.go:109",#[⟨18,.guard⟩],some (18,true)⟩) rfl (by assumption) ?_
   try simp only[Act.put,zA,zB,zC]
   refine tkHu (i:=20) (oi:=⟨some 84,.fieldAddr 33 (.tmp 3) 3,0,"l05_lp.go:109",#[⟨18,.guard⟩],some (18,true)⟩) rfl (by assumption) ?_
   try simp only[Act.put,zA,zB,zC]
   refine tkHu (i:=21) (oi:=⟨some 85,.load 26 (.tmp 84),26,"l05_lp.go:109",#[⟨20,.data⟩,⟨18,.guard⟩],some (18,true)⟩) rfl (by assumption) ?_
   try simp only[Act.put,zA,zB,zC]
   refine tkHu (i:=22) (oi:=⟨some 86,.fieldAddr 28 (.tmp 2) 1,0,"l05_lp.go:109",#[⟨18,.guard⟩],some (18,true)⟩) rfl (by assumption) ?_
   try simp only[Act.put,zA,zB,zC]
   refine tkHu (i:=23) (oi:=⟨some 87,.load 25 (.tmp 86),25,"l05_lp.go:109",#[⟨22,.data⟩,⟨18,.guard⟩],some (18,true)⟩) rfl (by assumption) ?_
   try simp only[Act.put,zA,zB,zC]
   refine tkHu (i:=24) (oi:=⟨some 88,.call { callee:=.builtin Builtin.len,args:=#[.tmp 87],argTypes:=#[25] },3,"l05_lp.go:109",#[⟨23,.data⟩,⟨18,.guard⟩],some (18,true)⟩) rfl (by assumption) ?_
   try simp only[Act.put,zA,zB,zC]
   refine tkHu (i:=25) (oi:=⟨some 89,.makeSlice 25 (.tmp 88) (.tmp 88),25,"l05_lp.go:109",#[⟨24,.data⟩,⟨24,.data⟩,⟨18,.guard⟩],some (18,true)⟩) rfl (by assumption) ?_
   try simp only[Act.put,zA,zB,zC]
   refine tkHu (i:=26) (oi:=⟨some 90,.call { callee:=.value (.func 87),args:=#[.tmp 83,.tmp 85,.tmp 89],argTypes:=#[28,26,25] },4,"l05_lp.go:109",#[⟨19,.data⟩,⟨21,.data⟩,⟨25,.data⟩,⟨18,.chain⟩,⟨18,.guard⟩],some (18,true)⟩) rfl (by assumption) ?_
   refine tk1 27 ⟨some 91,_,4,_,_,none⟩ ?_;refine tk1 28 ⟨some 92,_,4,_,_,none⟩ ?_
   try simp only[Act.put,zA,zB,zC]
   refine tkHu (i:=29) (oi:=⟨some 93,.move (.tmp 8),4,"l05_lp.go:109",#[⟨28,.guard⟩],some (28,true)⟩) rfl (by assumption) ?_
   refine tk1 30 ⟨some 94,_,4,_,_,none⟩ ?_;refine tk1 31 ⟨some 95,_,4,_,_,none⟩ ?_
   try simp only[Act.put,zA,zB,zC]
   refine tkHu (i:=32) (oi:=⟨some 96,.fieldAddr 31 (.tmp 7) 0,0,"l05_lp.go:109",#[⟨31,.guard⟩],some (31,true)⟩) rfl (by assumption) ?_
   try simp only[Act.put,zA,zB,zC]
   refine tkHu (i:=33) (oi:=⟨some 97,.load 3 (.tmp 96),3,"l05_lp.go:109",#[⟨32,.data⟩,⟨31,.guard⟩],some (31,true)⟩) rfl (by assumption) ?_
   try simp only[Act.put,zA,zB,zC]
   refine tkHu (i:=34) (oi:=⟨some 98,.binOp .lss 3 (.tmp 97) (.const (Value.int IntKind.i64 0)) 3,4,"l05_lp.go:109",#[⟨33,.data⟩,⟨31,.guard⟩],some (31,true)⟩) rfl (by assumption) ?_
   refine tk1 35 ⟨some 99,_,4,_,_,none⟩ ?_;refine tk1 36 ⟨some 4,_,4,_,_,none⟩ ?_
   try simp only[Act.put,zA,zB,zC]
   refine wpAnyH_done (by kernel_rfl) ?_ _
   go_wp2_with fail
   go_ret;exact⟨Zae Hr.out,(LK.out _ (by assumption)).1.1⟩
theorem Zvn {a b:Int} (h:a≠b):(a == b)=false/\(b == a)=false:=⟨by rw[beq_eq_false_iff_ne];exact h,by rw[beq_eq_false_iff_ne];exact fun e=>h e.symm⟩
theorem Zp4 (B:Nat) (a b c ra rb rc:Option Addr) (c1 c2 c3 d1 d2 d3:Nat) (p:P) (r:Res) (hn:Zbs p) (hf:Zdp r) (g:Bool) (hg:Lp.chk p r=g) (w:World) (hBw:B≤w.heap.size) (hz:LpIn B w a b c p) (hr:Zej B w ra rb rc r) :
  Calls Tryz.prog 20 #[.agg #[.slice a p.A.length c1,.slice b p.B.length c2,.slice c p.C.length c3],resV ra rb rc d1 d2 d3 r] w fun e w'=>e=.returned (.bool g)/\Below w.heap.size w w':=by
 obtain⟨st,X,Y,Z,⟨nu,de⟩,pv⟩:=r;rw[show resV ra rb rc d1 d2 d3 ⟨st,X,Y,Z,(nu,de),pv⟩=.agg #[.int .i64 st,.slice ra X.length d1,.slice rb Y.length d2,.slice rc Z.length d3,.int .i64 nu,.int .i64 de,.int .i64 pv] from rfl]
 rcases hvl:Lp.vldP p with _|_
 ·have Hr:=zH (show false=g by rw[<-hg];unfold Lp.chk;rw[hvl];rfl)
  have HX:=zH (Zc7.start w a b c ra rb rc c1 c2 c3 d1 d2 d3 p ⟨st,X,Y,Z,(nu,de),pv⟩ 28 33 hBw hz hr);have HV:=zH (fun W (hB:w.heap.size≤W.heap.size) h=>hvl▸Zbq w.heap.size a b c c1 c2 c3 p hn W hB h);clear hz hr hg hvl hn hf
  go_enter Tryz.func20,Tryz.ntmps20
  go_wp2_with fail
  refine (HV.out _ HX.out.1.size HX.out.2.1).mono ?_;rintro e w1 ⟨rfl,k1⟩;have HX1:=zH (HX.out.up k1);clear k1
  go_wp2_with fail
  go_ret;exact⟨Zae Hr.out,HX1.out.1⟩
 ·by_cases h2:st=2
  ·subst h2
   exact Zjw B a b c ra rb rc c1 c2 c3 d1 d2 d3 p X Y Z nu de pv hn hf hvl g (by rw[<-hg];unfold Lp.chk;rw[hvl];rfl) w hBw hz hr
  ·by_cases h3:st=3
   ·subst h3
    exact Zjx B a b c ra rb rc c1 c2 c3 d1 d2 d3 p X Y Z nu de pv hn hf hvl g (by rw[<-hg];unfold Lp.chk;rw[hvl];rfl) w hBw hz hr
   ·have HX:=zH (Zc7.start w a b c ra rb rc c1 c2 c3 d1 d2 d3 p ⟨st,X,Y,Z,(nu,de),pv⟩ 28 33 hBw hz hr)
    have HV:=zH (fun W (hB:w.heap.size≤W.heap.size) h=>hvl▸Zbq w.heap.size a b c c1 c2 c3 p hn W hB h)
    by_cases h1:st=1
    ·subst h1
     have Hop:=zH (fun W (hB:w.heap.size≤W.heap.size) h h'=>Zmp w.heap.size a b c ra rb rc c1 c2 c3 d1 d2 d3 p ⟨1,X,Y,Z,(nu,de),pv⟩ hn hf hvl g (by rw[<-hg];unfold Lp.chk;rw[hvl];rfl) W hB h h');clear hz hr hg hvl hn hf h2 h3
     go_enter Tryz.func20,Tryz.ntmps20
     go_wp2_with fail
     refine (HV.out _ HX.out.1.size HX.out.2.1).mono ?_;rintro e w1 ⟨rfl,k1⟩;have HX1:=zH (HX.out.up k1);obtain⟨x0,x1,x2,_⟩:=HX1.out.2.2.2.1.cells;obtain⟨⟨r0,r1,r2,r3,r4,r5,r6⟩,_⟩:=seven HX1.out.2.2.2.2;clear k1
     go_wp2_with fail
     refine (Hop.out _ HX1.out.1.size HX1.out.2.1 HX1.out.2.2.1).mono ?_;rintro e w2 ⟨rfl,k2⟩;have HX2:=zH (HX1.out.up k2);clear k2
     go_wp2_with fail
     go_ret;exact⟨rfl,HX2.out.1⟩
    ·have Hr:=zH (show false=g by rw[<-hg];unfold Lp.chk;rw[hvl];simp[h1,h2,h3])
     obtain⟨a1,a2⟩:=Zvn h1;obtain⟨b1,b2⟩:=Zvn h2;obtain⟨e1,e2⟩:=Zvn h3;clear hz hr hg hvl hn hf h1 h2 h3
     go_enter Tryz.func20,Tryz.ntmps20
     go_wp2_with fail
     refine (HV.out _ HX.out.1.size HX.out.2.1).mono ?_;rintro e w1 ⟨rfl,k1⟩;have HX1:=zH (HX.out.up k1);obtain⟨x0,x1,x2,_⟩:=HX1.out.2.2.2.1.cells;obtain⟨⟨r0,r1,r2,r3,r4,r5,r6⟩,_⟩:=seven HX1.out.2.2.2.2;clear k1
     go_wp2_with fail
     go_ret;exact⟨Zae Hr.out,HX1.out.1⟩
end Go.Proofs.YtlohljkfphljgaaGreat
