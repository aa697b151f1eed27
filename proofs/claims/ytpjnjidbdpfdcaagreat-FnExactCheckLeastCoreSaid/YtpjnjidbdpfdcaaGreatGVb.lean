/- The parts VeC, VeC2, VeC3. -/
import Derived.Test.YtpjnjidbdpfdcaaGreatGVa
import Derived.Laws.AppendOwn
import Derived.Deep.LoopGhost
import Derived.Test.YtpjnjidbdpfdcaaGreatNumI
set_option maxRecDepth 100000
set_option maxHeartbeats 4000000
namespace Go.Proofs.YtpjnjidbdpfdcaaGreat
open Go.RowKit
open Ve (R)
def Zaj (w:World) (p:Nat) (x:R):Prop:=w.heap[p]? = some (.cells #[.int .i64 x.1,.int .i64 x.2] 35)
theorem Zaj.four {w:World} {p:Nat} {x:R} (h:Zaj w p x) :
  w.cell? ⟨p,0,none⟩=some (.int .i64 x.1)/\w.cell? ⟨p,1,none⟩=some (.int .i64 x.2)/\w.frozen? ⟨p,0,none⟩=false/\w.frozen? ⟨p,1,none⟩=false:=Zba h
theorem Zaj.lt {w:World} {p:Nat} {x:R} (h:Zaj w p x):p<w.heap.size:=Zag h
theorem Zaj.below {w w':World} {p:Nat} {x:R} (h:Zaj w p x) (hb:Below w.heap.size w w'):Zaj w' p x:=(hb.block p h.lt).trans h
theorem Zaj.since {w w':World} {p:Nat} {x:R} (h:Zaj w p x) (hb:Since w w'):Zaj w' p x:=h.below hb.low
theorem Zaj.alloc {w:World} {p:Nat} {x:R} (h:Zaj w p x) (o:Obj):Zaj (w.alloc o) p x:=Zhd h o
theorem Zaj.new (w:World) (x:R):Zaj (w.alloc (.cells #[.int .i64 x.1,.int .i64 x.2] 35)) w.heap.size x:=Zot w _
theorem Zaj.set {w:World} {p:Nat} {x:R} (h:Zaj w p x) (y:R):Zaj ((w.setCell ⟨p,0,none⟩ (.int .i64 y.1)).setCell ⟨p,1,none⟩ (.int .i64 y.2)) p y:=by
 unfold Zaj at h ⊢;simp[World.setCell,Array.getElem?_modify,h]
theorem Zaj.other {w:World} {p q:Nat} {x:R} (h:Zaj w p x) (hne:p≠q) (i j:Nat) (u v:Value):Zaj ((w.setCell ⟨q,i,none⟩ u).setCell ⟨q,j,none⟩ v) p x:=by
 unfold Zaj;rw[Below.heap_setCell _ _ _ _ hne,Below.heap_setCell _ _ _ _ hne];exact h
theorem Zkj (x y:R) (w:World):Calls Tryz.prog 34 #[.agg #[.int .i64 x.1,.int .i64 x.2],.agg #[.int .i64 y.1,.int .i64 y.2]] w fun e w'=>e=.returned (.tuple #[.agg #[.int .i64 (Ve.mulR x y).1,.int .i64 (Ve.mulR x y).2],.bool (Ve.mulK x y)])/\Below w.heap.size w w':=Zjk x.1 x.2 y.1 y.2 w
theorem Zhh (x y:R) (w:World):Calls Tryz.prog 35 #[.agg #[.int .i64 x.1,.int .i64 x.2],.agg #[.int .i64 y.1,.int .i64 y.2]] w fun e w'=>e=.returned (.tuple #[.agg #[.int .i64 (Ve.addR x y).1,.int .i64 (Ve.addR x y).2],.bool (Ve.addK x y)])/\Below w.heap.size w w':=Zft x.1 x.2 y.1 y.2 w
theorem Za2 (n:Int) (w:World):Calls Tryz.prog 28 #[.int .i64 n] w fun e w'=>e=.returned (.agg #[.int .i64 n,.int .i64 1])/\Below w.heap.size w w':=by
 go_enter Tryz.func28,Tryz.ntmps28
 go_wp2_with fail
 exact bodyPost_ret (v:=.agg #[.int .i64 n,.int .i64 1]) (by simp[results,Tryz.results28,go_sem]) rfl ⟨rfl,by (repeat' (first|exact Below.refl _ _|exact Nat.le_refl _|refine Below.setCell ?_ ?_ _|refine Below.alloc ?_ ?_ _|refine below_drewN ?_ _|refine Below.drew ?_ | (simp;done) | (simp;omega)))⟩
theorem Zfw (B:Nat) (a1 a2:Option Addr) (c1 c2:Nat) (xs ys:List R) (hn:xs.length≤1048576) (_hn2:ys.length≤1048576) (w:World) (hBw:B≤w.heap.size) (h1:Zah B w a1 xs) (h2:Zah B w a2 ys) :
  Calls Tryz.prog 16 #[.slice a1 xs.length c1,.slice a2 ys.length c2] w (Zdq (Ve.dotR xs ys) (Ve.dotK xs ys) w):=by
 by_cases hl:xs.length=ys.length
 ·obtain⟨D,hD⟩:∃D,Ve.dotR xs ys=D:=⟨_,rfl⟩
  obtain⟨K,hK⟩:∃K,Ve.dotK xs ys=K:=⟨_,rfl⟩;rw[hD,hK];have HD:=zH hD;have HK:=zH hK;have H1:=zH (h1.mono hBw);have H2:=zH (h2.mono hBw);have HL:=zH hl;rw[<-hl];clear h1 h2 hD hK hl
  go_enter Tryz.func16,Tryz.ntmps16
  go_wp2_with fail
  refine (Za2 0 _).mono ?_;rintro e w1 ⟨rfl,hb1⟩;have HR1:=zH (((Zaj.new w (0,0)).below hb1).alloc (.cells #[.int .i64 0,.int .i64 1] 35));have HS1:=zH (Zaj.new w1 (0,1));have Hb1:=zH ((low1 hb1).alloc (low1 hb1).size (.cells #[.int .i64 0,.int .i64 1] 35));have hlt1:w.heap.size<w1.heap.size:=by have:=hb1.size;rw[Zar] at this;exact this
  clear hb1
  go_wp2_with fail
  go_loopg [7] xs.length (fun gk i wr=>∃k:Nat,gk+k=xs.length/\i=.int .i64 k/\Hid (Zaj wr w.heap.size (0,0))/\Hid (Zaj wr w1.heap.size (Ve.acc xs ys k).1)/\Hid ((Ve.acc xs ys k).2=true)/\Hid (Below w.heap.size w wr))
  case atStart=>exact⟨0,by omega,rfl,HR1,HS1,rfl,Hb1⟩
  case round=>
   obtain⟨k,hk,rfl,hR,hS,hA,hB⟩:=hrel
   by_cases hlt:k<xs.length
   ·obtain⟨b1,o1,rfl,l1,p0,p1⟩:=(H1.out.below hB.out).at k hlt
    obtain⟨b2,o2,rfl,l2,q0,q1⟩:=(H2.out.below hB.out).at k (HL.out▸hlt);have hsz:=hB.out.size;have HQ:Hid (Quad b1 (o1+k*2) b2 (o2+k*2) (Ve.at_ xs k) (Ve.at_ ys k) wr):=⟨p0,p1,q0,q1,by omega,by omega⟩;have hin:=Since.refl wr;have HA1:=zH (Ve.Zc3 xs ys k);have Hj:=zH hk;clear hk;generalize Ve.at_ xs k=x at *;generalize Ve.at_ ys k=y at *;generalize Ve.acc xs ys k=s at *
    go_upto_region 7 with (fail)
    go_cut [8,9] (fun p b wx=>Got wr (Ve.mulR x y).1 (Ve.mulR x y).2 (Ve.mulK x y) p b wx)
    case first=>
     go_region_held3 (fun w'=>w'.cell? ⟨b1,o1+k*2,none⟩=some (.int .i64 x.1)/\w'.cell? ⟨b1,o1+k*2+1,none⟩=some (.int .i64 x.2)/\w'.cell? ⟨b2,o2+k*2,none⟩=some (.int .i64 y.1)/\w'.cell? ⟨b2,o2+k*2+1,none⟩=some (.int .i64 y.2)/\Since wr w') (first|exact Quad.five HQ (by assumption) | exact Quad.five HQ (Since.drew (by assumption)) | exact Quad.five HQ (Own2.since (by assumption)) | exact Quad.five HQ (Since.drew (Own2.since (by assumption))) | exact Quad.five HQ (Since.alloc (by assumption) _) | exact Quad.five HQ (Since.drew (Since.alloc (by assumption) _)) | exact Quad.five HQ (Own2.set2 (by assumption) _ _) | exact Quad.five HQ (Since.drew (Own2.set2 (by assumption) _ _)))
      (first | (go_at_call 34;refine (Zb4 (Zkj x y _) (B:=wr) (x:=.int .i64 0) (y:=.int .i64 0) (t:=35) (by first|assumption|exact Own2.drew (by assumption) | exact Since.new (by assumption) _ _ _|exact Own2.drew (Since.new (by assumption) _ _ _))).mono ?_;rintro e w' ⟨⟨rfl,_⟩,hin3⟩;obtain⟨z0,z1,f0,f1⟩:=Own2.own hin3) | (go_at_call 34;refine (Zbd (Zkj x y _) (B:=wr) (by first|assumption|exact Since.drew (by assumption))).mono ?_;rintro e w' ⟨⟨rfl,_⟩,hin2⟩))
     all_goals
      go_wp2_with fail
      go_meet
      first
      | exact Got.last (by assumption) _ _ _ _
      | exact Got.set (by assumption) _ _ _
      | exact Got.drew (Got.last (by assumption) _ _ _ _)
      | exact Got.drew (Got.set (by assumption) _ _ _)
    case rest=>
     obtain⟨q,rfl,rfl,m0,m1,hq,hqh,hs1⟩:=hcut;have HB1:=zH (hB.out.trans (hs1.low.mono hsz));have HR1:=zH (hR.out.since hs1);have HS1:=zH (hS.out.since hs1);have HM:=zH (And.intro m0 (And.intro m1 hq));have Hlt:=zH (And.intro hS.out.lt (And.intro hR.out.lt hqh));obtain⟨s0,s1,-,-⟩:=HS1.out.four;clear hs1 hin HQ p0 p1 q0 q1 hR hS hB hsz hq hqh;have HC:=zH (Zhh s.1 (Ve.mulR x y));have Hno:=zH (Ve.Zc4 s.1 (x:=x) (y:=y));have HA2:=zH (show Ve.acc xs ys (k+1)=(Ve.addR s.1 (Ve.mulR x y),Ve.addK s.1 (Ve.mulR x y)) from HA1.out);clear HA1;generalize Ve.addR s.1 (Ve.mulR x y)=A at *;generalize hak:Ve.addK s.1 (Ve.mulR x y)=ak at *;generalize hmk:Ve.mulK x y=mk at *;generalize Ve.mulR x y=m at *;clear hak
     go_wp2_with fail
     refine (HC.out _).mono ?_;rintro e w2 ⟨rfl,hb2⟩;have HB2:=zH ((HB1.out.trans (hb2.mono HB1.out.size)).alloc (HB1.out.trans (hb2.mono HB1.out.size)).size (.cells #[.int .i64 A.1,.int .i64 A.2] 35));have HR2:=zH ((HR1.out.below hb2).alloc (.cells #[.int .i64 A.1,.int .i64 A.2] 35));have HS2:=zH ((HS1.out.below hb2).alloc (.cells #[.int .i64 A.1,.int .i64 A.2] 35));have HT2:=zH (Zaj.new w2 A);have HS3:=zH (show w1.heap.size<w2.heap.size from Nat.lt_of_lt_of_le HS1.out.lt hb2.size);clear hb2 HB1 HR1 HS1 m0 m1 s0 s1;cases ak with
     | false=>
      have hE:=Ve.Ziq (k:=k+1) HL.out (by omega) (by rw[HA2.out]);rw[HD.out,HK.out] at hE;have HE1:=zH hE.1;have HE2:=zH hE.2;clear hE;obtain⟨r0,r1,f0,f1⟩:=HR2.out.four;cases mk
      all_goals
       clear hmk
       go_wp2_with fail
       have hz:=Zae (x:=.int .i64 0) (y:=.int .i64 0) r0 r1;rw[HE1.out,HE2.out];exact bodyPost_ret (v:=.tuple #[.agg #[.int .i64 0,.int .i64 0],.bool false]) (by simp[results,Tryz.results16,go_sem,hz.1,hz.2]) rfl ⟨rfl,(HB2.out.setCell (p:=⟨w.heap.size,0,none⟩) (Nat.le_refl _) _).setCell (p:=⟨w.heap.size,1,none⟩) (Nat.le_refl _) _⟩
     | true=>
      cases mk with
      | false=>exact absurd (Hno.out rfl) (by simp)
      | true=>
       clear hmk;obtain⟨s0,s1,f0,f1⟩:=HS2.out.four;obtain⟨t0,t1,-,-⟩:=HT2.out.four;have HR3:=zH (HR2.out.other (q:=w1.heap.size) (by omega) 0 1 (.int .i64 A.1) (.int .i64 A.2));have HS4:=zH (HS2.out.set A);have HB3:=zH ((HB2.out.setCell (p:=⟨w1.heap.size,0,none⟩) (by show w.heap.size≤w1.heap.size;omega) (.int .i64 A.1)).setCell (p:=⟨w1.heap.size,1,none⟩) (by show w.heap.size≤w1.heap.size;omega) (.int .i64 A.2))
       go_wp2_with fail
       go_roundg (gk-1)
       case measure=>have:=Hj.out;omega
       case rel=>exact⟨k+1,by have:=Hj.out;omega,by go_num,HR3,(by rw[HA2.out];exact HS4),(by rw[HA2.out];rfl),HB3⟩
   ·have he:k=xs.length:=by omega
    have HE:Hid ((Ve.acc xs ys k).1=D/\true=K):=by
     have h3:=Ve.Zb1 HL.out;rw[HD.out,HK.out] at h3;rw[he];refine⟨h3.1.symm,?_⟩;rw[h3.2,<-he];exact hA.out.symm
    generalize Ve.acc xs ys k=s at *;obtain⟨s0,s1,-,-⟩:=hS.out.four;obtain⟨r0,r1,f0,f1⟩:=hR.out.four;clear he
    go_wp2_with fail
    have hz:=Zae (x:=.int .i64 s.1.1) (y:=.int .i64 s.1.2) r0 r1;rw[<-HE.out.1,<-HE.out.2];exact bodyPost_ret (v:=.tuple #[.agg #[.int .i64 s.1.1,.int .i64 s.1.2],.bool true]) (by simp[results,Tryz.results16,go_sem,hz.1,hz.2]) rfl ⟨rfl,(hB.out.setCell (p:=⟨w.heap.size,0,none⟩) (Nat.le_refl _) _).setCell (p:=⟨w.heap.size,1,none⟩) (Nat.le_refl _) _⟩
 ·obtain⟨e1,e2⟩:=Ve.Zir hl
  rw[e1,e2];have hlb:((xs.length:Int) == (ys.length:Int))=false/\((xs.length:Int) != (ys.length:Int))=true:=by
   have h1:((xs.length:Int) == (ys.length:Int))=false:=by rw[beq_eq_false_iff_ne];omega
   exact⟨h1,by rw[bne,h1];rfl⟩
  obtain⟨l1,l2⟩:=hlb;clear e1 e2 h1 h2
  go_enter Tryz.func16,Tryz.ntmps16
  go_wp2_with fail
  exact bodyPost_ret (v:=.tuple #[.agg #[.int .i64 0,.int .i64 0],.bool false]) (by simp[results,Tryz.results16,go_sem]) rfl ⟨rfl,by (repeat' (first|exact Below.refl _ _|exact Nat.le_refl _|refine Below.setCell ?_ ?_ _|refine Below.alloc ?_ ?_ _|refine below_drewN ?_ _|refine Below.drew ?_ | (simp;done) | (simp;omega)))⟩
theorem Zcy {v:Value} {a b:Bool} (h:a=b):Ending.returned (.tuple #[v,.bool a])=.returned (.tuple #[v,.bool b]):=by rw[h]
theorem Zfx (B:Nat) (a:Option Addr) (c:Nat) (zs:List Int) (hn:zs.length≤1048576) (w:World) (hBw:B≤w.heap.size) (h1:Zal B w a zs) :
  Calls Tryz.prog 70 #[.slice a zs.length c] w (Zcf (Ve.outR (Ve.ofI zs) zs.length) (Ve.allK (Ve.ofI zs) zs.length) w):=by
 obtain⟨D,hD⟩:∃D,Ve.outR (Ve.ofI zs) zs.length=D:=⟨_,rfl⟩;obtain⟨K,hK⟩:∃K,Ve.allK (Ve.ofI zs) zs.length=K:=⟨_,rfl⟩;rw[hD,hK];have HD:=zH hD;have HK:=zH hK;have H1:=zH (h1.mono hBw);obtain⟨i0,hi,hz0,hz1,hz2⟩:=info_parts Zc5;have HI:=zH hi;have HZ0:=zH hz0;have HZ1:=zH hz1;have HZ2:=zH hz2;clear h1 hD hK hi hz0 hz1 hz2;have HO1:Hid (Zad w.heap.size (w.alloc (.cells #[] 35)) (.slice (some ⟨w.heap.size,0,none⟩) 0 0) []):=World.ownsRow_made w #[] 0 (Nat.le_refl _) (Nat.zero_le _) rfl;have HB1:=zH ((Below.refl w.heap.size w).alloc (Nat.le_refl _) (.cells #[] 35))
 go_enter Tryz.func70,Tryz.ntmps70
 go_wp2_with fail
 go_loopw [4,5] (fun v i wr=>∃k:Nat,k≤zs.length/\i=.int .i64 k/\Hid (Zad w.heap.size wr v (Ve.upto (Ve.ofI zs) k))/\Hid (∀j,j<k->(Ve.ofI zs j).2=true)/\Hid (Below w.heap.size w wr)) (fun _ i _=>zs.length-(intOf i).toNat)
 case atStart=>exact⟨0,Nat.zero_le _,rfl,HO1,fun j hj=>absurd hj (by omega),HB1⟩
 case round=>
  obtain⟨k,hk,rfl,hO,hA,hB⟩:=hrel
  by_cases hlt:k<zs.length
  ·obtain⟨b,o,rfl,l1,p0⟩:=(H1.out.below hB.out) k hlt
   have hsz:=hB.out.size;have HF:=zH (Ve.Ze1 (zs.getD k 0));have HN:=zH (show Ve.inr (zs.getD k 0)=true->Ve.ofI zs k=((zs.getD k 0,1),true) from fun h=>by
    obtain⟨e1,e2⟩:=Ve.Zok h;show ((Ra.rn (zs.getD k 0) 1,Ra.rd (zs.getD k 0) 1),Ra.fits (zs.getD k 0) 1)=_;rw[e1,e2,Ve.Ze1,h])
   have HF2:=zH (show (Ve.ofI zs k).2=Ve.inr (zs.getD k 0) from Ve.Ze1 _)
   rcases hv:Ve.inr (zs.getD k 0) with _|_
   ·have hE0:=Ve.Zlh (n:=zs.length) hlt (HF2.out.trans hv)
    have hE1:=Ve.Zos hE0;rw[HD.out] at hE1;rw[HK.out] at hE0;have HE1:=zH hE1;have HE2:=zH hE0;have Hv:=zH (show decide (-1000000000≤zs.getD k 0/\zs.getD k 0≤1000000000)=false from hv);clear hE1 hE0 hv;generalize zs.getD k 0=z at *
    go_wp2_with fail
    refine (Zap z _ _ false Hv.out _).mono ?_;rintro e w1 ⟨rfl,rfl⟩
    go_wp2_with fail
    go_ret2
    refine⟨_,Zcy HE2.out.symm,?_,hB.out.alloc hsz _⟩;rw[HE1.out];exact World.ownsRow_made _ #[] 0 hsz (Nat.zero_le _) rfl
   ·have Hv:=zH (show decide (-1000000000≤zs.getD k 0/\zs.getD k 0≤1000000000)=true from hv)
    have He:=zH (show Ve.upto (Ve.ofI zs) (k+1)=Ve.upto (Ve.ofI zs) k++[(zs.getD k 0,1)] by rw[Ve.Zm7,HN.out hv]);have HA2:Hid (∀j,j<k+1->(Ve.ofI zs j).2=true):=fun j hj=>by
     by_cases e:j=k
     ·subst e;rw[HF2.out,hv]
     ·exact hA.out j (by omega)
    have hlen:=Nat.le_of_eq (Ve.Zcp (Ve.ofI zs) k);clear hv;generalize Ve.upto (Ve.ofI zs) k=ls at *;generalize zs.getD k 0=z at *
    go_wp2_with fail
    refine (Zap z _ _ true Hv.out _).mono ?_;rintro e w1 ⟨rfl,rfl⟩
    go_wp2_with fail
    refine (Za2 z _).mono ?_;rintro e w2 ⟨rfl,hb2⟩;have HB2:=zH (hB.out.trans (hb2.mono hsz));have hsz2:=HB2.out.size;have Hown:=zH (World.ownsRow.alloc (hO.out.below hb2) (.cells #[.int .i64 z,.int .i64 1] 35));clear hb2
    go_wp2_with (at_builtin;refine wpList_append_own _ rfl _ _ 36 rfl w.heap.size 35 i0 (.agg #[.int .i64 0,.int .i64 0]) 2 16 Tryz.underlying36 HI.out HZ0.out HZ1.out HZ2.out rfl (by decide) _ _ _ rfl Hown.out ⟨w2.heap.size,0,none⟩ 1 1 [.int .i64 z,.int .i64 1] rfl rfl ?c1 ?c2 ?c3 ?c4 ?c5 ?_)
    case c1=>
     intro j u hj
     match j,hj with
     | 0,hj=>simp at hj;subst hj;simp[Addr.add]
     | 1,hj=>simp at hj;subst hj;simp[Addr.add]
    case c2=>intro u hu;simp at hu;rcases hu with rfl|rfl<;>rfl
    case c3=>unfold maxLen;omega
    case c4=>omega
    case c5=>simp;omega
    intro v' w3 hown' hgrow _;have hne:=Hown.out.lt;have Ho1:=zH (Zad.more (x:=(z,1)) hown');have Hb1:=zH ((HB2.out.alloc hsz2 (.cells #[.int .i64 z,.int .i64 1] 35)).grown hgrow (by simp;omega) (fun g hg=>(hne g hg).1));rw[<-He.out] at Ho1;clear hown' hgrow hne
    go_wp2_with fail
    go_roundw
    case rel=>exact⟨k+1,by omega,by go_num,Ho1,HA2,Hb1⟩
    case measure=>simp[intOf];omega
  ·have he:k=zs.length:=by omega
   have HE:Hid (Ve.upto (Ve.ofI zs) k=D/\true=K):=by
    have h4:Ve.allK (Ve.ofI zs) zs.length=true:=by
     unfold Ve.allK;rw[List.all_eq_true];exact fun j hj=>hA.out j (by rw[he];simpa using hj)
    have h3:=Ve.Zed h4;rw[HD.out] at h3;rw[HK.out] at h4;rw[he];exact⟨h3.symm,h4.symm⟩
   clear he
   go_wp2_with fail
   go_ret2
   exact⟨_,Zcy HE.out.2,(by rw[<-HE.out.1];exact hO.out),hB.out⟩
end Go.Proofs.YtpjnjidbdpfdcaaGreat
