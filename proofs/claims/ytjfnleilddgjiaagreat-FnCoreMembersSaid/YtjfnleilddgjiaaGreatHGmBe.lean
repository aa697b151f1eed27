/- The parts GmDr, GmBe. -/
import Derived.Test.YtjfnleilddgjiaaGreatHLpI1
import Derived.Test.YtjfnleilddgjiaaGreatHCoB
set_option maxRecDepth 100000
set_option maxHeartbeats 4000000
namespace Go.Proofs.YtjfnleilddgjiaaGreat
open Go.RowKit
open Gm (G)
theorem Zwo (n:Nat):(madeCells #[Value.int .i64 0] n).toList=(List.replicate n (0:Int)).map (Value.int .i64):=by
 apply List.ext_getElem
 ·simp[madeCells]
 ·intro i h1 h2
  simp[madeCells,Nat.mod_one]
def RowI (B:Nat) (w:World) (v:Value) (N:Nat):Prop:=∃xs:List Int,xs.length=N/\Zae B w v xs
theorem RowI.only {B p N:Nat} {w w':World} {v:Value} (h:RowI B w v N) (ho:Only p w w') (hp:p<B):RowI B w' v N:=by
 obtain⟨xs,hl,hr⟩:=h;exact⟨xs,hl,hr.only ho hp⟩
theorem RowI.set {B b k N c:Nat} {w:World} (h:RowI B w (.slice (some ⟨b,0,none⟩) N c) N) (y:Int):RowI B (w.setCell ⟨b,k,none⟩ (.int .i64 y)) (.slice (some ⟨b,0,none⟩) N c) N:=by
 obtain⟨xs,hl,hr⟩:=h;subst hl;refine⟨xs.set k y,by simp,?_⟩;have:=Zw0 hr k y
 simpa using this
theorem RowI.spot {B b k N c:Nat} {w:World} (h:RowI B w (.slice (some ⟨b,0,none⟩) N c) N) (hk:k<N):(∃x,w.cell? ⟨b,k,none⟩=some (.int .i64 x))/\w.frozen? ⟨b,k,none⟩=false/\B≤b/\b<w.heap.size:=by
 obtain⟨xs,hl,hr⟩:=h;subst hl;have:=World.ownsRow.lt hr b rfl;refine⟨?_,World.ownsRow.frozenAt hr k,this.1,this.2⟩;rw[World.ownsRow.cellAt hr k (by omega),List.getElem?_map,List.getElem?_eq_getElem hk];exact⟨_,rfl⟩
def Z2p (p:Nat) (a:Option Addr) (len cap:Nat) (w:World) (e:Ending) (w':World):Prop:=
 ∃(g:G) (v:Value),e=.returned (.agg #[.int .i64 g.n,v])/\Zae w.heap.size w' v g.v/\1≤g.n/\g.n≤5/\g.v.length=2 ^ g.n.toNat/\Cur w' p a len cap/\Only p w w'
theorem Z5e (b:Bool) (w:World):Calls Tryz.prog 65 #[.bool b] w fun e w'=>(∃x:Int,e=.returned (.int .i64 x)/\0≤x/\x≤1)/\w'=w:=by
 cases b
 ·go_enter Tryz.func65,Tryz.ntmps65
  go_wp2_with fail
  go_ret;exact⟨⟨0,rfl,by omega,by omega⟩,rfl⟩
 ·go_enter Tryz.func65,Tryz.ntmps65
  go_wp2_with fail
  go_ret;exact⟨⟨1,rfl,by omega,by omega⟩,rfl⟩
theorem Zuy (x y:Int) (w:World):Calls Tryz.prog 122 #[.int .i64 x,.int .i64 y] w fun e w'=>(∃z:Int,e=.returned (.int .i64 z)/\x≤z/\y≤z/\(z=x\/z=y))/\w'=w:=by
 by_cases h:x>y
 ·have hb:decide (x>y)=true:=decide_eq_true h
  go_enter Tryz.func122,Tryz.ntmps122
  go_wp2_with fail
  go_ret;exact⟨⟨x,rfl,by omega,by omega,.inl rfl⟩,rfl⟩
 ·have hb:decide (x>y)=false:=decide_eq_false h
  go_enter Tryz.func122,Tryz.ntmps122
  go_wp2_with fail
  go_ret;exact⟨⟨y,rfl,by omega,by omega,.inr rfl⟩,rfl⟩
theorem Cur.Zvm {w:World} {p:Nat} {a:Option Addr} {len cap:Nat} (h:Cur w p a len cap):Cur w.drew p a len cap:=h
theorem Cur.other {w:World} {p q k:Nat} {a:Option Addr} {len cap:Nat} (h:Cur w p a len cap) (hq:q≠p) (u:Value):Cur (w.setCell ⟨q,k,none⟩ u) p a len cap:=by
 obtain⟨i,x,h1,h2,hb⟩:=h;exact⟨i,x,h1,h2,by rw[Below.heap_setCell _ _ _ _ (fun e=>hq e.symm)];exact hb⟩
theorem Zmn (B p:Nat) (a:Option Addr) (len cap:Nat) (most:Int) (hm1:1≤most) (hm5:most≤5) (w:World) (hB:B≤p) (hcur:Cur w p a len cap) (hcode:Zc6 B w a len) :
  Calls Tryz.prog 73 #[.pointer (some ⟨p,0,none⟩),.int .i64 most] w (Z2p p a len cap w):=by
 have hp:=hcur.lt;obtain⟨i0,hi,hz0,hz1,hz2⟩:=info_parts Zde;have HI:=zH hi;have HZ0:=zH hz0;have HZ1:=zH hz1;have Hz2:=zH hz2;have Hc:=zH hcode;have HU0:=zH (hcur.alloc (.cells #[.int .i64 0,.slice none 0 0] 30));have HN0:=zH (Zad.new w #[.int .i64 0,.slice none 0 0] 30);have HO0:=zH ((Only.refl p w).alloc (by omega) (.cells #[.int .i64 0,.slice none 0 0] 30));clear hi hz0 hz1 hz2 hcur hcode
 go_enter Tryz.func73,Tryz.ntmps73
 go_wp2_with fail
 refine (Zb8 B p a len cap most hm1 (by omega) _ hB HU0.out (Hc.out.below (HO0.out.below hB))).mono ?_;rintro e w1 ⟨x,rfl,hx0,hx1,hc1,ho1⟩;obtain⟨m,hm⟩:∃m:Nat,1+x=m:=⟨(1+x).toNat,by omega⟩;have hmm1:1≤m:=by omega
 have hmm5:m≤5:=by omega
 have hx:x=(m:Int)-1:=by omega
 subst hx;have HU1:=zH hc1;have HO1:=zH (HO0.out.trans ho1);have HN1:=zH (HN0.out.only ho1 (by omega));have Hadd:Hid ((1:Int)+((m:Int)-1)=m):=by show _=_;omega
 have hsz1:w.heap.size+1≤w1.heap.size:=by have:=ho1.low.size;rw[Zao] at this;omega
 clear hc1 ho1 hm hx0 hx1 HU0 HO0 HN0
 go_wp2_with fail
 rw[Hadd.out];refine (Zc4 m hmm5 w1).mono ?_;rintro e w9 ⟨rfl,rfl⟩;have hp2:2≤2 ^ m:=by
  have h9:2 ^ 1≤2 ^ m:=Nat.pow_le_pow_right (by omega) hmm1;omega
 have hp32:2 ^ m≤32:=Nat.pow_le_pow_right (by omega) hmm5;obtain⟨N,hN⟩:∃N,2 ^ m=N:=⟨_,rfl⟩;rw[hN] at hp2 hp32 ⊢;have HNN:=zH hN;have Hby:Hid (i0.bytes*N≤281474976710656):=by show _≤_;rw[Hz2.out];omega
 clear hN Hadd
 go_wp2_with (refine wpList_make_full _ rfl _ _ 22 rfl w.heap.size 3 i0 (.int .i64 0) 1 Tryz.underlying22 HI.out HZ0.out HZ1.out _ _ _ _ N rfl rfl rfl rfl Hby.out ?c1 (by omega) ?_)
 case c1=>unfold maxLen;omega
 intro w2 hown hgrow;rw[Zwo] at hown;have hrow:RowI w.heap.size w2 (.slice (some ⟨w1.heap.size,0,none⟩) N N) N:=⟨List.replicate N 0,by simp,by unfold Zae;rw[List.length_replicate];exact hown⟩;have hO2:Only p w1 w2:=(Only.refl p w1).grown (by have:=HO1.out.low.size;omega) hgrow (fun g hg=>by cases hg);have hbw:w1.heap.size<w2.heap.size:=(hown.lt _ rfl).2;have HU2:=zH (HU1.out.grown hgrow (by simp));have HO2:=zH (HO1.out.trans hO2);have HN2:=zH (HN1.out.only hO2 (by omega));have HR2:=zH hrow;clear hown hgrow hrow hO2 HU1 HO1 HN1;generalize w1.heap.size=b at *;obtain⟨q,hq⟩:∃q,w2.heap.size=q:=⟨_,rfl⟩;have HQ3:=zH (Zad.new w2 #[.int .i64 m,.slice (some ⟨b,0,none⟩) N N] 30);have HU3:=zH (HU2.out.alloc (.cells #[.int .i64 m,.slice (some ⟨b,0,none⟩) N N] 30));have HO3:=zH (HO2.out.alloc (by omega) (.cells #[.int .i64 m,.slice (some ⟨b,0,none⟩) N N] 30));have HN3:=zH (HN2.out.more (.cells #[.int .i64 m,.slice (some ⟨b,0,none⟩) N N] 30));have HR3:Hid (RowI w.heap.size (w2.alloc (.cells #[.int .i64 m,.slice (some ⟨b,0,none⟩) N N] 30)) (.slice (some ⟨b,0,none⟩) N N) N):=by
  obtain⟨xs,h1,h2⟩:=HR2.out;exact⟨xs,h1,h2.alloc _⟩
 clear HU2 HO2 HN2 HR2
 go_wp2_with fail
 refine (Zb8 B p a len cap 4 (by decide) (by decide) _ hB HU3.out (Hc.out.below (HO3.out.below hB))).mono ?_;rintro e w4 ⟨x,rfl,hx0,hx1,hc1,ho1⟩;have HU4:=zH hc1;have HO4:=zH (HO3.out.trans ho1);have hqp:q≠p:=by have:=HO3.out.low.size;omega
 have HQ4:Hid (Zad w4 q #[.int .i64 m,.slice (some ⟨b,0,none⟩) N N] 30):=by rw[<-hq];exact HQ3.out.only ho1 (by omega)
 have HN4:=zH (HN3.out.only ho1 (by omega));have HR4:=zH (HR3.out.only ho1 hp);have hbq:b≠q:=by omega
 clear hc1 ho1 HU3 HO3 HQ3 HN3 HR3 hq hbw
 go_wp2_with fail
 go_loopw [8] (fun i wr=>∃k:Nat,1≤k/\k≤N/\i=.int .i64 k/\Hid (Zad wr q #[.int .i64 m,.slice (some ⟨b,0,none⟩) N N] 30)/\Hid (Zad wr w.heap.size #[.int .i64 0,.slice none 0 0] 30)/\Hid (RowI w.heap.size wr (.slice (some ⟨b,0,none⟩) N N) N)/\Hid (Cur wr p a len cap)/\Hid (Only p w wr)) (fun i _=>N-(intOf i).toNat)
 case atStart=>exact⟨1,by omega,by omega,rfl,HQ4,HN4,HR4,HU4,HO4⟩
 case round=>
  obtain⟨k,hk1,hk,rfl,hQ,hZ,hR,hC,hOn⟩:=hrel;obtain⟨y0,y1⟩:=two hQ.out
  by_cases hlt:k<N
  ·have Cell:=zH (fun w' (h:Only p wr w')=>(show w'.cell? ⟨q,1,none⟩=some (.slice (some ⟨b,0,none⟩) N N)/\Only p wr w' from ⟨h.cell (a:=⟨q,1,none⟩) hqp y1,h⟩))
   have ho0:Only p wr wr.drew:=(Only.refl p wr).drew;have hwz:=hOn.out.low.size
   by_cases e0:x=0
   ·have d0:(x == 0)=true:=by rw[e0];rfl
    clear e0
    go_upto_region 10 with fail
    refine Zaf (S:=(fun w'=>w'.cell? ⟨q,1,none⟩=some (.slice (some ⟨b,0,none⟩) N N)/\Only p wr w')) 12 (by kernel_rfl) ?_ (fun hHeld=>?_)
    ·exact Cell.out _ ho0
    refine tk2 0 ⟨some 45,_,0,_,_,none⟩ ?_;refine tk2 1 ⟨some 46,_,22,_,_,none⟩ ?_;refine tk2 2 ⟨some 47,_,3,_,_,none⟩ ?_;refine tk2 3 ⟨some 48,_,3,_,_,none⟩ ?_;refine tk2 5 ⟨some 50,_,3,_,_,none⟩ ?_;refine tk2 8 ⟨some 53,_,90,_,_,none⟩ ?_
    try simp only[Act.put,zA,zB,zC]
    refine rd2 4 ⟨some 49,_,3,_,_,none⟩ fun K hK=>?_
    go_simp
    (go_at_call 121;refine (Ze8 k (by omega) _).mono ?_;rintro e w9 ⟨rfl,rfl⟩)
    refine hK.out _ _ ?_ (fun hHeld=>?_)
    ·exact Cell.out _ ho0
    clear hK K
    try simp only[Act.put,zA,zB,zC]
    refine rd2 6 ⟨some 51,_,3,_,_,none⟩ fun K hK=>?_
    go_simp
    (go_at_call 121;refine (Ze8 k (by omega) _).mono ?_;rintro e w9 ⟨rfl,rfl⟩)
    refine hK.out _ _ ?_ (fun hHeld=>?_)
    ·exact Cell.out _ ho0
    clear hK K;refine tk2 7 ⟨some 52,_,3,_,_,none⟩ ?_
    try simp only[Act.put,zA,zB,zC]
    refine rd2 9 ⟨some 54,_,3,_,_,none⟩ fun K hK=>?_
    go_simp
    (go_at_call 67;refine (Zb8 B p a len cap 2 (by decide) (by decide) wr.drew hB hC.out.Zvm (Hc.out.below (hOn.out.drew.below hB))).mono ?_;rintro e w2 ⟨xb,rfl,_,_,hc2,ho2⟩;have ho3:=ho0.trans ho2)
    refine hK.out _ _ ?_ (fun hHeld=>?_)
    ·exact Cell.out _ ho3
    clear hK K;refine tk2 10 ⟨some 55,_,3,_,_,none⟩ ?_;refine tk2 11 ⟨some 56,_,0,_,_,none⟩ ?_
    try simp only[Act.put,zA,zB,zC]
    have hR2:=hR.out.only ho3 hp;obtain⟨⟨xc,c3⟩,f3,hbB,hbl⟩:=hR2.spot hlt;refine rd3 12 ⟨none,_,0,_,_,none⟩ fun K hK=>?_
    go_simp
    refine hK.out _ _ ?_;clear hK K;refine Zam (by kernel_rfl) ?_ _;have HRn:=zH (fun Y:Int=>hR2.set (k:=k) Y);have HQn:=zH (fun Y:Int=>(hQ.out.only ho3 hqp).other (p:=⟨b,k,none⟩) hbq (.int .i64 Y));have HZn:=zH (fun Y:Int=>(hZ.out.only ho3 (by omega)).other (p:=⟨b,k,none⟩) (show b≠w.heap.size by omega) (.int .i64 Y));have HCn:=zH (fun Y:Int=>hc2.other (q:=b) (k:=k) (by omega) (.int .i64 Y));have HOn:=zH (fun Y:Int=>(hOn.out.trans ho3).Zbi (by omega) (show w.heap.size≤b by omega) k (.int .i64 Y));clear c3 f3 hR2 ho3 ho0 Cell hc2 ho2
    go_wp2_with fail
    go_roundw
    case rel=>exact⟨k+1,by omega,by omega,by go_num,HQn.out _,HZn.out _,HRn.out _,HCn.out _,HOn.out _⟩
    case measure=>simp[intOf];omega
   ·have d0:(x == 0)=false:=by simpa using e0
    by_cases e1:x=1
    ·have d1:(x == 1)=true:=by rw[e1];rfl
     clear e0 e1
     go_upto_region 12 with fail
     refine Zaf (S:=(fun w'=>w'.cell? ⟨q,1,none⟩=some (.slice (some ⟨b,0,none⟩) N N)/\Only p wr w')) 7 (by kernel_rfl) ?_ (fun hHeld=>?_)
     ·exact Cell.out _ ho0
     refine tk2 0 ⟨some 59,_,0,_,_,none⟩ ?_;refine tk2 1 ⟨some 60,_,22,_,_,none⟩ ?_;refine tk2 2 ⟨some 61,_,3,_,_,none⟩ ?_;refine tk2 3 ⟨some 62,_,90,_,_,none⟩ ?_
     try simp only[Act.put,zA,zB,zC]
     refine rd2 4 ⟨some 63,_,22,_,_,none⟩ fun K hK=>?_
     go_simp
     refine hK.out _ _ ?_ (fun hHeld=>?_)
     ·exact Cell.out _ (ho0.alloc (by omega) _)
     clear hK K
     try simp only[Act.put,zA,zB,zC]
     refine rd2 5 ⟨some 64,_,3,_,_,none⟩ fun K hK=>?_
     go_simp
     (go_at_call 93;refine (Zoq B p a len cap 8 [0,1,2,3,5,8,(-2),4] #[.int .i64 0,.int .i64 1,.int .i64 2,.int .i64 3,.int .i64 5,.int .i64 8,.int .i64 (-2),.int .i64 4] rfl 8 rfl (by decide) (by decide) wr.drew hB hC.out.Zvm (Hc.out.below (hOn.out.drew.below hB)) _ rfl).mono ?_;rintro e w2 ⟨xb,rfl,_,hc2,ho2⟩;have ho3:=ho0.trans ho2)
     refine hK.out _ _ ?_ (fun hHeld=>?_)
     ·exact Cell.out _ ho3
     clear hK K;refine tk2 6 ⟨some 65,_,0,_,_,none⟩ ?_
     try simp only[Act.put,zA,zB,zC]
     have hR2:=hR.out.only ho3 hp;obtain⟨⟨xc,c3⟩,f3,hbB,hbl⟩:=hR2.spot hlt;refine rd3 7 ⟨none,_,0,_,_,none⟩ fun K hK=>?_
     go_simp
     refine hK.out _ _ ?_;clear hK K;refine Zam (by kernel_rfl) ?_ _;have HRn:=zH (fun Y:Int=>hR2.set (k:=k) Y);have HQn:=zH (fun Y:Int=>(hQ.out.only ho3 hqp).other (p:=⟨b,k,none⟩) hbq (.int .i64 Y));have HZn:=zH (fun Y:Int=>(hZ.out.only ho3 (by omega)).other (p:=⟨b,k,none⟩) (show b≠w.heap.size by omega) (.int .i64 Y));have HCn:=zH (fun Y:Int=>hc2.other (q:=b) (k:=k) (by omega) (.int .i64 Y));have HOn:=zH (fun Y:Int=>(hOn.out.trans ho3).Zbi (by omega) (show w.heap.size≤b by omega) k (.int .i64 Y));clear c3 f3 hR2 ho3 ho0 Cell hc2 ho2
     go_wp2_with fail
     go_roundw
     case rel=>exact⟨k+1,by omega,by omega,by go_num,HQn.out _,HZn.out _,HRn.out _,HCn.out _,HOn.out _⟩
     case measure=>simp[intOf];omega
    ·have d1:(x == 1)=false:=by simpa using e1
     by_cases e2:x=2
     ·have d2:(x == 2)=true:=by rw[e2];rfl
      clear e0 e1 e2
      go_upto_region 14 with fail
      refine Zaf (S:=(fun w'=>w'.cell? ⟨q,1,none⟩=some (.slice (some ⟨b,0,none⟩) N N)/\Only p wr w')) 12 (by kernel_rfl) ?_ (fun hHeld=>?_)
      ·exact Cell.out _ ho0
      refine tk2 0 ⟨some 68,_,0,_,_,none⟩ ?_;refine tk2 1 ⟨some 69,_,22,_,_,none⟩ ?_;refine tk2 2 ⟨some 70,_,3,_,_,none⟩ ?_;refine tk2 3 ⟨some 71,_,3,_,_,none⟩ ?_;refine tk2 7 ⟨some 75,_,90,_,_,none⟩ ?_
      try simp only[Act.put,zA,zB,zC]
      refine rd2 4 ⟨some 72,_,3,_,_,none⟩ fun K hK=>?_
      go_simp
      (go_at_call 121;refine (Ze8 k (by omega) _).mono ?_;rintro e w9 ⟨rfl,rfl⟩)
      refine hK.out _ _ ?_ (fun hHeld=>?_)
      ·exact Cell.out _ ho0
      clear hK K;refine tk2 5 ⟨some 73,_,3,_,_,none⟩ ?_;refine tk2 6 ⟨some 74,_,3,_,_,none⟩ ?_
      try simp only[Act.put,zA,zB,zC]
      refine rd2 8 ⟨some 76,_,3,_,_,none⟩ fun K hK=>?_
      go_simp
      (go_at_call 67;refine (Zb8 B p a len cap 2 (by decide) (by decide) wr.drew hB hC.out.Zvm (Hc.out.below (hOn.out.drew.below hB))).mono ?_;rintro e w2 ⟨xb,rfl,_,_,hc2,ho2⟩;have ho3:=ho0.trans ho2)
      refine hK.out _ _ ?_ (fun hHeld=>?_)
      ·exact Cell.out _ ho3
      clear hK K;refine tk2 9 ⟨some 77,_,3,_,_,none⟩ ?_
      try simp only[Act.put,zA,zB,zC]
      refine rd2 10 ⟨some 78,_,3,_,_,none⟩ fun K hK=>?_
      go_simp
      (go_at_call 122;refine (Zuy _ _ _).mono ?_;rintro e w9 ⟨⟨xm,rfl,_⟩,rfl⟩)
      refine hK.out _ _ ?_ (fun hHeld=>?_)
      ·exact Cell.out _ ho3
      clear hK K;refine tk2 11 ⟨some 79,_,0,_,_,none⟩ ?_
      try simp only[Act.put,zA,zB,zC]
      have hR2:=hR.out.only ho3 hp;obtain⟨⟨xc,c3⟩,f3,hbB,hbl⟩:=hR2.spot hlt;refine rd3 12 ⟨none,_,0,_,_,none⟩ fun K hK=>?_
      go_simp
      refine hK.out _ _ ?_;clear hK K;refine Zam (by kernel_rfl) ?_ _;have HRn:=zH (fun Y:Int=>hR2.set (k:=k) Y);have HQn:=zH (fun Y:Int=>(hQ.out.only ho3 hqp).other (p:=⟨b,k,none⟩) hbq (.int .i64 Y));have HZn:=zH (fun Y:Int=>(hZ.out.only ho3 (by omega)).other (p:=⟨b,k,none⟩) (show b≠w.heap.size by omega) (.int .i64 Y));have HCn:=zH (fun Y:Int=>hc2.other (q:=b) (k:=k) (by omega) (.int .i64 Y));have HOn:=zH (fun Y:Int=>(hOn.out.trans ho3).Zbi (by omega) (show w.heap.size≤b by omega) k (.int .i64 Y));clear c3 f3 hR2 ho3 ho0 Cell hc2 ho2
      go_wp2_with fail
      go_roundw
      case rel=>exact⟨k+1,by omega,by omega,by go_num,HQn.out _,HZn.out _,HRn.out _,HCn.out _,HOn.out _⟩
      case measure=>simp[intOf];omega
     ·have d2:(x == 2)=false:=by simpa using e2
      clear e0 e1 e2
      go_upto_region 8 with fail
      refine Zaf (S:=(fun w'=>w'.cell? ⟨q,1,none⟩=some (.slice (some ⟨b,0,none⟩) N N)/\Only p wr w')) 15 (by kernel_rfl) ?_ (fun hHeld=>?_)
      ·exact Cell.out _ ho0
      refine tk2 0 ⟨some 28,_,0,_,_,none⟩ ?_;refine tk2 1 ⟨some 29,_,22,_,_,none⟩ ?_;refine tk2 2 ⟨some 30,_,3,_,_,none⟩ ?_;refine tk2 3 ⟨some 31,_,3,_,_,none⟩ ?_;refine tk2 6 ⟨some 34,_,3,_,_,none⟩ ?_;refine tk2 9 ⟨some 37,_,90,_,_,none⟩ ?_
      try simp only[Act.put,zA,zB,zC]
      refine rd2 4 ⟨some 32,_,3,_,_,none⟩ fun K hK=>?_
      go_simp
      (go_at_call 121;refine (Ze8 k (by omega) _).mono ?_;rintro e w9 ⟨rfl,rfl⟩)
      refine hK.out _ _ ?_ (fun hHeld=>?_)
      ·exact Cell.out _ ho0
      clear hK K;refine tk2 5 ⟨some 33,_,3,_,_,none⟩ ?_;refine tk2 7 ⟨some 35,_,4,_,_,none⟩ ?_
      try simp only[Act.put,zA,zB,zC]
      refine rd2 8 ⟨some 36,_,3,_,_,none⟩ fun K hK=>?_
      go_simp
      (go_at_call 65;refine (Z5e _ _).mono ?_;rintro e w9 ⟨⟨xm,rfl,_⟩,rfl⟩)
      refine hK.out _ _ ?_ (fun hHeld=>?_)
      ·exact Cell.out _ ho0
      clear hK K
      try simp only[Act.put,zA,zB,zC]
      refine rd2 10 ⟨some 38,_,3,_,_,none⟩ fun K hK=>?_
      go_simp
      (go_at_call 67;refine (Zb8 B p a len cap 2 (by decide) (by decide) wr.drew hB hC.out.Zvm (Hc.out.below (hOn.out.drew.below hB))).mono ?_;rintro e w2 ⟨xb,rfl,_,_,hc2,ho2⟩;have ho3:=ho0.trans ho2)
      refine hK.out _ _ ?_ (fun hHeld=>?_)
      ·exact Cell.out _ ho3
      clear hK K;refine tk2 11 ⟨some 39,_,3,_,_,none⟩ ?_;refine tk2 12 ⟨some 40,_,3,_,_,none⟩ ?_;refine tk2 13 ⟨some 41,_,3,_,_,none⟩ ?_;refine tk2 14 ⟨some 42,_,0,_,_,none⟩ ?_
      try simp only[Act.put,zA,zB,zC]
      have hR2:=hR.out.only ho3 hp;obtain⟨⟨xc,c3⟩,f3,hbB,hbl⟩:=hR2.spot hlt;refine rd3 15 ⟨none,_,0,_,_,none⟩ fun K hK=>?_
      go_simp
      refine hK.out _ _ ?_;clear hK K;refine Zam (by kernel_rfl) ?_ _;have HRn:=zH (fun Y:Int=>hR2.set (k:=k) Y);have HQn:=zH (fun Y:Int=>(hQ.out.only ho3 hqp).other (p:=⟨b,k,none⟩) hbq (.int .i64 Y));have HZn:=zH (fun Y:Int=>(hZ.out.only ho3 (by omega)).other (p:=⟨b,k,none⟩) (show b≠w.heap.size by omega) (.int .i64 Y));have HCn:=zH (fun Y:Int=>hc2.other (q:=b) (k:=k) (by omega) (.int .i64 Y));have HOn:=zH (fun Y:Int=>(hOn.out.trans ho3).Zbi (by omega) (show w.heap.size≤b by omega) k (.int .i64 Y));clear c3 f3 hR2 ho3 ho0 Cell hc2 ho2
      go_wp2_with fail
      go_roundw
      case rel=>exact⟨k+1,by omega,by omega,by go_num,HQn.out _,HZn.out _,HRn.out _,HCn.out _,HOn.out _⟩
      case measure=>simp[intOf];omega
  ·obtain⟨d0,d1,e0,e1⟩:=two' hZ.out
   have HR:=zH ((hZ.out.s0 (.int .i64 m)).s1 (.slice (some ⟨b,0,none⟩) N N));obtain⟨xs,hxl,hxr⟩:=hR.out;have hbl:=World.ownsRow.lt hxr b rfl;have hne2:(Value.slice (some ⟨b,0,none⟩) N N).ownBlock≠some w.heap.size:=Za1 hxr hZ.out.ty (by decide);have HY:=zH (Zah (i:=1) (u:=.slice (some ⟨b,0,none⟩) N N) (Zah (i:=0) (u:=.int .i64 m) hxr hne2) hne2);have HCe:=zH ((hC.out.other (q:=w.heap.size) (k:=0) (by omega) (.int .i64 m)).other (q:=w.heap.size) (k:=1) (by omega) (.slice (some ⟨b,0,none⟩) N N));have HOe:=zH ((hOn.out.Zbi (by omega) (Nat.le_refl _) 0 (.int .i64 m)).Zbi (by omega) (Nat.le_refl _) 1 (.slice (some ⟨b,0,none⟩) N N));have HXL:=zH hxl;clear hxl hxr hne2
   go_wp2_with fail
   refine bodyPost_ret (v:=.agg #[.int .i64 m,.slice (some ⟨b,0,none⟩) N N]) (by
    obtain⟨z0,z1⟩:=two HR.out;revert z0 z1;generalize ((wr.setCell ⟨w.heap.size,0,none⟩ (.int .i64 m)).setCell ⟨w.heap.size,1,none⟩ (.slice (some ⟨b,0,none⟩) N N))=W4;intro z0 z1;simp[results,Tryz.results73,go_sem,z0,z1]) rfl ⟨⟨m,xs⟩,_,rfl,HY.out,by simp only;omega,by simp only;omega,by simp only[Int.toNat_natCast];rw[HXL.out,HNN.out],HCe.out,HOe.out⟩
def Zyd (p:Nat) (a:Option Addr) (len cap:Nat) (w:World) (e:Ending) (w':World):Prop:=
 ∃(g:G) (v:Value),e=.returned (.agg #[.int .i64 g.n,v])/\Zae w.heap.size w' v g.v/\-1≤g.n/\g.n≤6/\(2≤g.v.length/\g.v.length≤33)/\Cur w' p a len cap/\Only p w w'
theorem Zsi (B p:Nat) (a:Option Addr) (len cap:Nat) (w:World) (hB:B≤p) (hcur:Cur w p a len cap) (hcode:Zc6 B w a len) :
  Calls Tryz.prog 57 #[.pointer (some ⟨p,0,none⟩)] w (Zyd p a len cap w):=by
 have hp:=hcur.lt;have Hc:=zH hcode;have HU0:=zH (hcur.alloc (.cells #[.int .i64 0,.slice none 0 0] 30));have HN0:=zH (Zad.new w #[.int .i64 0,.slice none 0 0] 30);have HO0:=zH ((Only.refl p w).alloc (by omega) (.cells #[.int .i64 0,.slice none 0 0] 30));have hs0:=Zao w (.cells #[.int .i64 0,.slice none 0 0] 30);have Hs0:=zH hs0;clear hcur hcode hs0
 go_enter Tryz.func57,Tryz.ntmps57
 go_wp2_with fail
 refine (Zmn B p a len cap 4 (by decide) (by decide) _ hB HU0.out (Hc.out.below (HO0.out.below hB))).mono ?_;rintro e w1 ⟨g,v,rfl,hx1,hn1,hn5,hxl,hc1,ho1⟩;obtain⟨gn,xs⟩:=g;simp only at hx1 hn1 hn5 hxl ⊢;have hlen:2≤xs.length/\xs.length≤32:=by rw[hxl];exact Gm.Zw8 ⟨hn1,hn5⟩
 have hsz1:w.heap.size+1≤w1.heap.size:=by have:=ho1.low.size;rw[Hs0.out] at this;exact this
 have HX1:=zH (hx1.Zen (show w.heap.size≤_ by rw[Hs0.out];omega));have HU1:=zH hc1;have HO1:=zH (HO0.out.trans ho1);have HN1:=zH (HN0.out.only ho1 (by omega));obtain⟨av,cv,rfl,_,hab,hag⟩:=Zax HX1.out;obtain⟨b,rfl⟩:=hag (by intro e;rw[e] at hlen;simp at hlen);have hbl:=hab _ rfl;simp only at hbl;have HQ2:=zH (Zad.new w1 #[.int .i64 gn,.slice (some ⟨b,0,none⟩) xs.length cv] 30);have HX2:=zH (HX1.out.alloc (.cells #[.int .i64 gn,.slice (some ⟨b,0,none⟩) xs.length cv] 30));have HU2:=zH (HU1.out.alloc (.cells #[.int .i64 gn,.slice (some ⟨b,0,none⟩) xs.length cv] 30));have HO2:=zH (HO1.out.alloc (by omega) (.cells #[.int .i64 gn,.slice (some ⟨b,0,none⟩) xs.length cv] 30));have HN2:=zH (HN1.out.more (.cells #[.int .i64 gn,.slice (some ⟨b,0,none⟩) xs.length cv] 30));obtain⟨N,hN⟩:∃N,xs.length=N:=⟨_,rfl⟩;have HL:=zH hN;rw[hN] at HQ2 HX2 HU2 HO2 HN2 hlen ⊢;clear hx1 hxl hc1 ho1 hab hag HX1 HU1 HO1 HN1 HU0 HO0 HN0 hN
 go_wp2_with fail
 refine (Zb8 B p a len cap 12 (by decide) (by decide) _ hB HU2.out (Hc.out.below (HO2.out.below hB))).mono ?_;rintro e w4 ⟨x,rfl,hx0,hx11,hc1,ho1⟩;have hqp:w1.heap.size≠p:=by omega
 have HU4:=zH hc1;have HO4:=zH (HO2.out.trans ho1);have HQ4:=zH (HQ2.out.only ho1 hqp);have HN4:=zH (HN2.out.only ho1 (by omega));have HX4:=zH (HX2.out.only ho1 hp);have hsz4:w1.heap.size+1≤w4.heap.size:=by have:=ho1.low.size;rw[Zao] at this;exact this
 have hbq:b≠w1.heap.size:=by omega
 have HRI:Hid (RowI w.heap.size w4 (.slice (some ⟨b,0,none⟩) N cv) N):=⟨xs,HL.out,by have:=HX4.out;rw[<-HL.out] at this ⊢;exact this⟩;obtain⟨y0,y1,yf0,yf1⟩:=two' HQ4.out;generalize hq:w1.heap.size=q at *;clear hq hc1 ho1 HU2 HO2 HQ2 HN2 HX2 hsz1
 by_cases e0:x=0
 ·have d0:(x == 0)=true:=by rw[e0];rfl
  obtain⟨⟨xc,c3⟩,f3,_,_⟩:=HRI.out.spot (k:=0) (by omega);have HX5:=zH (HRI.out.set (k:=0) 1);obtain⟨ys,hyl,hyr⟩:=HX5.out;have HYr:=zH hyr;have HYl:=zH hyl;have HQ5:=zH (HQ4.out.other (p:=⟨b,0,none⟩) hbq (.int .i64 1));have HN5:=zH (HN4.out.other (p:=⟨b,0,none⟩) (show b≠w.heap.size from fun e=>by have:=Za1 HX4.out HN4.out.ty (by decide);exact this (by rw[e];rfl)) (.int .i64 1));have HU5:=zH (HU4.out.other (q:=b) (k:=0) (by omega) (.int .i64 1));have HO5:=zH (HO4.out.Zbi (by omega) hbl.1 0 (.int .i64 1));clear e0 hyl hyr;have hnp:0<N:=by omega
  obtain⟨r0,r1⟩:=two HQ5.out;obtain⟨d0,d1,f0,f1⟩:=two' HN5.out;have HR:=zH ((HN5.out.s0 (.int .i64 gn)).s1 (.slice (some ⟨b,0,none⟩) N cv));have hne2:((.slice (some ⟨b,0,none⟩) N cv):Value).ownBlock≠some w.heap.size:=Za1 HYr.out HN5.out.ty (by decide);have HY:=zH (Zah (i:=1) (u:=.slice (some ⟨b,0,none⟩) N cv) (Zah (i:=0) (u:=.int .i64 gn) HYr.out hne2) hne2);have HCe:=zH ((HU5.out.other (q:=w.heap.size) (k:=0) (by omega) (.int .i64 gn)).other (q:=w.heap.size) (k:=1) (by omega) (.slice (some ⟨b,0,none⟩) N cv));have HOe:=zH ((HO5.out.Zbi (by omega) (Nat.le_refl _) 0 (.int .i64 gn)).Zbi (by omega) (Nat.le_refl _) 1 (.slice (some ⟨b,0,none⟩) N cv));clear hne2
  go_wp2_with fail
  refine bodyPost_ret (v:=.agg #[.int .i64 gn,.slice (some ⟨b,0,none⟩) N cv]) (by
   obtain⟨z0,z1⟩:=two HR.out;revert z0 z1;generalize (((w4.setCell ⟨b,0,none⟩ (.int .i64 1)).setCell ⟨w.heap.size,0,none⟩ (.int .i64 gn)).setCell ⟨w.heap.size,1,none⟩ (.slice (some ⟨b,0,none⟩) N cv))=W4;intro z0 z1;simp[results,Tryz.results57,go_sem,z0,z1]) rfl ⟨⟨gn,ys⟩,_,rfl,HY.out,by simp only;omega,by simp only;omega,by simp only;rw[HYl.out];omega,HCe.out,HOe.out⟩
 ·have d0:(x == 0)=false:=by simpa using e0
  by_cases e1:x=1
  ·have d1:(x == 1)=true:=by rw[e1];rfl
   clear e0 e1
   go_wp2_with fail
   refine (Zoq B p a len cap 4 [0,6,2,(-1)] #[.int .i64 0,.int .i64 6,.int .i64 2,.int .i64 (-1)] rfl 4 rfl (by decide) (by decide) w4 hB HU4.out (Hc.out.below (HO4.out.below hB)) _ rfl).mono ?_;rintro e w5 ⟨n,rfl,hn,hc5,ho5⟩;have hn6:-1≤n/\n≤6:=by simp at hn;omega
   have hs5:=ho5.low.size;have HU5:=zH (hc5.other (q:=q) (k:=0) hqp (.int .i64 n));have HO5:=zH ((HO4.out.trans ho5).Zbi (by omega) (show w.heap.size≤q by omega) 0 (.int .i64 n));have HQ5:=zH (HQ4.out.only ho5 hqp);have HQ6:=zH (HQ5.out.s0 (.int .i64 n));have HN5:=zH ((HN4.out.only ho5 (by omega)).other (p:=⟨q,0,none⟩) (show q≠w.heap.size by omega) (.int .i64 n));have HX5:=zH (Zah (i:=0) (u:=.int .i64 n) (HX4.out.only ho5 hp) (Za1 (HX4.out.only ho5 hp) HQ5.out.ty (by decide)));obtain⟨v0,v1,vf0,vf1⟩:=two' HQ5.out;clear hn hc5 ho5 y0 y1 yf0 yf1;obtain⟨r0,r1⟩:=two HQ6.out;obtain⟨d0,d1,f0,f1⟩:=two' HN5.out;have HR:=zH ((HN5.out.s0 (.int .i64 n)).s1 (.slice (some ⟨b,0,none⟩) N cv));have hne2:((.slice (some ⟨b,0,none⟩) N cv):Value).ownBlock≠some w.heap.size:=Za1 HX5.out HN5.out.ty (by decide);have HY:=zH (Zah (i:=1) (u:=.slice (some ⟨b,0,none⟩) N cv) (Zah (i:=0) (u:=.int .i64 n) HX5.out hne2) hne2);have HCe:=zH ((HU5.out.other (q:=w.heap.size) (k:=0) (by omega) (.int .i64 n)).other (q:=w.heap.size) (k:=1) (by omega) (.slice (some ⟨b,0,none⟩) N cv));have HOe:=zH ((HO5.out.Zbi (by omega) (Nat.le_refl _) 0 (.int .i64 n)).Zbi (by omega) (Nat.le_refl _) 1 (.slice (some ⟨b,0,none⟩) N cv));clear hne2
   go_wp2_with fail
   refine bodyPost_ret (v:=.agg #[.int .i64 n,.slice (some ⟨b,0,none⟩) N cv]) (by
    obtain⟨z0,z1⟩:=two HR.out;revert z0 z1;generalize (((w5.setCell ⟨q,0,none⟩ (.int .i64 n)).setCell ⟨w.heap.size,0,none⟩ (.int .i64 n)).setCell ⟨w.heap.size,1,none⟩ (.slice (some ⟨b,0,none⟩) N cv))=W4;intro z0 z1;simp[results,Tryz.results57,go_sem,z0,z1]) rfl ⟨⟨n,xs⟩,_,rfl,HY.out,by simp only;omega,by simp only;omega,by simp only;rw[HL.out];omega,HCe.out,HOe.out⟩
  ·have d1:(x == 1)=false:=by simpa using e1
   by_cases e2:x=2
   ·have d2:(x == 2)=true:=by rw[e2];rfl
    clear e0 e1 e2;obtain⟨i0,hi,hz0,hz1,hz2⟩:=info_parts Zde;have HI:=zH hi;have HZ0:=zH hz0;have HZ1:=zH hz1;have HZ2:=zH hz2;have Hown:=zH (World.ownsRow.alloc HX4.out (.cells #[.int .i64 1] 3));rw[HL.out] at Hown;clear hi hz0 hz1 hz2
    go_wp2_with (at_builtin;refine wpList_append_own _ rfl _ _ 22 rfl w.heap.size 3 i0 (.int .i64 0) 1 8 Tryz.underlying22 HI.out HZ0.out HZ1.out HZ2.out rfl (by decide) _ _ _ rfl Hown.out ⟨w4.heap.size,0,none⟩ 1 1 [.int .i64 1] rfl rfl ?c1 ?c2 ?c3 ?c4 ?c5 ?_)
    case c1=>
     intro j u hj
     match j,hj with
     | 0,hj=>simp at hj;subst hj;simp[Addr.add]
    case c2=>intro u hu;simp at hu;subst hu;rfl
    case c3=>unfold maxLen;omega
    case c4=>omega
    case c5=>simp;omega
    intro v' w5 hown' hgrow _;have ho':Zae w.heap.size w5 v' (xs++[1]):=Zae.more (by rw[HL.out];exact hown');obtain⟨av,c5,rfl⟩:=Zau ho';have hl':(xs++[(1:Int)]).length=N+1:=by rw[List.length_append,HL.out];rfl
    have HYl:=zH hl';have hbg:∀g,(Value.slice (some ⟨b,0,none⟩) N cv).ownBlock=some g->w.heap.size≤g:=fun g hg=>(World.ownsRow.lt HX4.out g hg).1
    have hbe:∀g,(Value.slice (some ⟨b,0,none⟩) N cv).ownBlock=some g->g=b:=fun g hg=>by simpa [Value.ownBlock] using hg.symm
    have HO5:=zH ((HO4.out.alloc (by omega) (.cells #[.int .i64 1] 3)).grown (by omega) hgrow hbg);have hqe:(Value.slice (some ⟨b,0,none⟩) N cv).ownBlock≠some q:=fun e=>hbq (hbe _ e).symm
    have hpe:(Value.slice (some ⟨b,0,none⟩) N cv).ownBlock≠some p:=fun e=>by have:=hbg _ e;omega
    have hwe:(Value.slice (some ⟨b,0,none⟩) N cv).ownBlock≠some w.heap.size:=Za1 HX4.out HN4.out.ty (by decide);have HQ5:Hid (Zad w5 q #[.int .i64 gn,.slice (some ⟨b,0,none⟩) N cv] 30):=(hgrow.block q (by rw[Zao];omega) (fun e=>hqe e.symm)).trans (HQ4.out.more _);have HN5:Hid (Zad w5 w.heap.size #[.int .i64 0,.slice none 0 0] 30):=(hgrow.block w.heap.size (by rw[Zao];omega) (fun e=>hwe e.symm)).trans (HN4.out.more _);have HU5:=zH ((HU4.out.alloc (.cells #[.int .i64 1] 3)).grown hgrow hpe);rw[hl'] at ho' ⊢;have HQ6:=zH (HQ5.out.s1 (.slice av (N+1) c5));have HN6:=zH (HN5.out.other (p:=⟨q,1,none⟩) (show q≠w.heap.size by omega) (.slice av (N+1) c5));have HX6:=zH (Zah (i:=1) (u:=.slice av (N+1) c5) ho' (Za1 ho' HQ5.out.ty (by decide)));have HU6:=zH (HU5.out.other (q:=q) (k:=1) hqp (.slice av (N+1) c5));have HO6:=zH (HO5.out.Zbi (by omega) (show w.heap.size≤q by omega) 1 (.slice av (N+1) c5));obtain⟨v0,v1,vf0,vf1⟩:=two' HQ5.out;clear hown' hgrow ho' hl' hbg hbe hqe hpe hwe y0 y1 yf0 yf1;obtain⟨r0,r1⟩:=two HQ6.out;obtain⟨d0,d1,f0,f1⟩:=two' HN6.out;have HR:=zH ((HN6.out.s0 (.int .i64 gn)).s1 (.slice av (N+1) c5));have hne2:((.slice av (N+1) c5):Value).ownBlock≠some w.heap.size:=Za1 HX6.out HN6.out.ty (by decide);have HY:=zH (Zah (i:=1) (u:=.slice av (N+1) c5) (Zah (i:=0) (u:=.int .i64 gn) HX6.out hne2) hne2);have HCe:=zH ((HU6.out.other (q:=w.heap.size) (k:=0) (by omega) (.int .i64 gn)).other (q:=w.heap.size) (k:=1) (by omega) (.slice av (N+1) c5));have HOe:=zH ((HO6.out.Zbi (by omega) (Nat.le_refl _) 0 (.int .i64 gn)).Zbi (by omega) (Nat.le_refl _) 1 (.slice av (N+1) c5));clear hne2
    go_wp2_with fail
    refine bodyPost_ret (v:=.agg #[.int .i64 gn,.slice av (N+1) c5]) (by
     obtain⟨z0,z1⟩:=two HR.out;revert z0 z1;generalize (((w5.setCell ⟨q,1,none⟩ (.slice av (N+1) c5)).setCell ⟨w.heap.size,0,none⟩ (.int .i64 gn)).setCell ⟨w.heap.size,1,none⟩ (.slice av (N+1) c5))=W4;intro z0 z1;simp[results,Tryz.results57,go_sem,z0,z1]) rfl ⟨⟨gn,xs++[1]⟩,_,rfl,HY.out,by simp only;omega,by simp only;omega,by simp only;rw[HYl.out];omega,HCe.out,HOe.out⟩
   ·have d2:(x == 2)=false:=by simpa using e2
    by_cases e3:x=3
    ·have d3:(x == 3)=true:=by rw[e3];rfl
     clear e0 e1 e2 e3;obtain⟨M,rfl⟩:∃M,N=M+1:=⟨N-1,by omega⟩;have hM:M<M+1:=Nat.lt_succ_self M;have Cell:=zH (fun w' (h:Only p w4 w')=>(show w'.cell? ⟨q,1,none⟩=some (.slice (some ⟨b,0,none⟩) (M+1) cv)/\Only p w4 w' from ⟨h.cell (a:=⟨q,1,none⟩) hqp y1,h⟩));have ho0:Only p w4 w4.drew:=(Only.refl p w4).drew;have hi1:(M:Int)<(M:Int)+1:=by omega
     have hs1:IntKind.i64.wrap (M:Int)=(M:Int):=IntWalk.i64_in _ (by omega)
     go_upto_region 10 with fail
     refine Zaf (S:=(fun w'=>w'.cell? ⟨q,1,none⟩=some (.slice (some ⟨b,0,none⟩) (M+1) cv)/\Only p w4 w')) 10 (by kernel_rfl) ?_ (fun hHeld=>?_)
     ·exact Cell.out _ ho0
     refine tk2 0 ⟨some 28,_,0,_,_,none⟩ ?_;refine tk2 1 ⟨some 29,_,22,_,_,none⟩ ?_;refine tk2 2 ⟨some 30,_,0,_,_,none⟩ ?_;refine tk2 3 ⟨some 31,_,22,_,_,none⟩ ?_;refine tk2 4 ⟨some 32,_,3,_,_,none⟩ ?_;refine tk2 5 ⟨some 33,_,3,_,_,none⟩ ?_;refine tk2 6 ⟨some 34,_,90,_,_,none⟩ ?_
     try simp only[Act.put,zA,zB,zC]
     refine rd2 7 ⟨some 35,_,22,_,_,none⟩ fun K hK=>?_
     go_simp
     refine hK.out _ _ ?_ (fun hHeld=>?_)
     ·exact Cell.out _ (ho0.alloc (by omega) _)
     clear hK K
     try simp only[Act.put,zA,zB,zC]
     refine rd2 8 ⟨some 36,_,3,_,_,none⟩ fun K hK=>?_
     go_simp
     (go_at_call 93;refine (Zoq B p a len cap 3 [500,501,(-501)] #[.int .i64 500,.int .i64 501,.int .i64 (-501)] rfl 3 rfl (by decide) (by decide) w4.drew hB HU4.out.Zvm (Hc.out.below (HO4.out.drew.below hB)) _ rfl).mono ?_;rintro e w5 ⟨xb,rfl,_,hc2,ho2⟩;have ho3:=ho0.trans ho2)
     refine hK.out _ _ ?_ (fun hHeld=>?_)
     ·exact Cell.out _ ho3
     clear hK K;refine tk2 9 ⟨some 37,_,0,_,_,none⟩ ?_
     try simp only[Act.put,zA,zB,zC]
     have hR5:=HRI.out.only ho3 hp;obtain⟨⟨xc,c3⟩,f3,hbB,hb5⟩:=hR5.spot hM;refine rd3 10 ⟨none,_,0,_,_,none⟩ fun K hK=>?_
     go_simp
     refine hK.out _ _ ?_;clear hK K;refine Zam (by kernel_rfl) ?_ _;obtain⟨ys,hyl,hyr⟩:=hR5.set (k:=M) xb;have HYr:=zH hyr;have HYl:=zH hyl;have HQ5:=zH ((HQ4.out.only ho3 hqp).other (p:=⟨b,M,none⟩) hbq (.int .i64 xb));have HN5:=zH ((HN4.out.only ho3 (by omega)).other (p:=⟨b,M,none⟩) (show b≠w.heap.size from fun e=>by have:=Za1 HX4.out HN4.out.ty (by decide);exact this (by rw[e];rfl)) (.int .i64 xb));have HU5:=zH (hc2.other (q:=b) (k:=M) (by omega) (.int .i64 xb));have HO5:=zH ((HO4.out.trans ho3).Zbi (by omega) hbl.1 M (.int .i64 xb));clear hyl hyr c3 f3 hc2 ho2 ho3 ho0 Cell hR5 y0 y1 yf0 yf1 hs1;obtain⟨r0,r1⟩:=two HQ5.out;obtain⟨d0,d1,f0,f1⟩:=two' HN5.out;have HR:=zH ((HN5.out.s0 (.int .i64 gn)).s1 (.slice (some ⟨b,0,none⟩) (M+1) cv));have hne2:((.slice (some ⟨b,0,none⟩) (M+1) cv):Value).ownBlock≠some w.heap.size:=Za1 HYr.out HN5.out.ty (by decide);have HY:=zH (Zah (i:=1) (u:=.slice (some ⟨b,0,none⟩) (M+1) cv) (Zah (i:=0) (u:=.int .i64 gn) HYr.out hne2) hne2);have HCe:=zH ((HU5.out.other (q:=w.heap.size) (k:=0) (by omega) (.int .i64 gn)).other (q:=w.heap.size) (k:=1) (by omega) (.slice (some ⟨b,0,none⟩) (M+1) cv));have HOe:=zH ((HO5.out.Zbi (by omega) (Nat.le_refl _) 0 (.int .i64 gn)).Zbi (by omega) (Nat.le_refl _) 1 (.slice (some ⟨b,0,none⟩) (M+1) cv));clear hne2
     go_wp2_with fail
     refine bodyPost_ret (v:=.agg #[.int .i64 gn,.slice (some ⟨b,0,none⟩) (M+1) cv]) (by
      obtain⟨z0,z1⟩:=two HR.out;revert z0 z1;generalize (((w5.setCell ⟨b,M,none⟩ (.int .i64 xb)).setCell ⟨w.heap.size,0,none⟩ (.int .i64 gn)).setCell ⟨w.heap.size,1,none⟩ (.slice (some ⟨b,0,none⟩) (M+1) cv))=W4;intro z0 z1;simp[results,Tryz.results57,go_sem,z0,z1]) rfl ⟨⟨gn,ys⟩,_,rfl,HY.out,by simp only;omega,by simp only;omega,by simp only;rw[HYl.out];omega,HCe.out,HOe.out⟩
    ·have d3:(x == 3)=false:=by simpa using e3
     clear e0 e1 e2 e3;obtain⟨r0,r1⟩:=two HQ4.out;obtain⟨d0,d1,f0,f1⟩:=two' HN4.out;have HR:=zH ((HN4.out.s0 (.int .i64 gn)).s1 (.slice (some ⟨b,0,none⟩) N cv));have hne2:((.slice (some ⟨b,0,none⟩) N cv):Value).ownBlock≠some w.heap.size:=Za1 HX4.out HN4.out.ty (by decide);have HY:=zH (Zah (i:=1) (u:=.slice (some ⟨b,0,none⟩) N cv) (Zah (i:=0) (u:=.int .i64 gn) HX4.out hne2) hne2);have HCe:=zH ((HU4.out.other (q:=w.heap.size) (k:=0) (by omega) (.int .i64 gn)).other (q:=w.heap.size) (k:=1) (by omega) (.slice (some ⟨b,0,none⟩) N cv));have HOe:=zH ((HO4.out.Zbi (by omega) (Nat.le_refl _) 0 (.int .i64 gn)).Zbi (by omega) (Nat.le_refl _) 1 (.slice (some ⟨b,0,none⟩) N cv));clear hne2
     go_wp2_with fail
     refine bodyPost_ret (v:=.agg #[.int .i64 gn,.slice (some ⟨b,0,none⟩) N cv]) (by
      obtain⟨z0,z1⟩:=two HR.out;revert z0 z1;generalize ((w4.setCell ⟨w.heap.size,0,none⟩ (.int .i64 gn)).setCell ⟨w.heap.size,1,none⟩ (.slice (some ⟨b,0,none⟩) N cv))=W4;intro z0 z1;simp[results,Tryz.results57,go_sem,z0,z1]) rfl ⟨⟨gn,xs⟩,_,rfl,HY.out,by simp only;omega,by simp only;omega,by simp only;rw[HL.out];omega,HCe.out,HOe.out⟩
end Go.Proofs.YtjfnleilddgjiaaGreat
