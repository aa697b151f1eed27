/- The parts LpR4, TaN. -/
import Derived.Test.YtjfnleilddgjiaaGreatGLb
import Derived.Test.YtjfnleilddgjiaaGreatCoA
import Derived.Laws.CopyRow
import Derived.Lib.SlBuf
import Derived.Laws.CopyOwn
import Derived.Test.YtjfnleilddgjiaaGreatGTd
import Derived.Test.YtjfnleilddgjiaaGreatGVc
import Derived.Deep.RegionHeld3
set_option maxRecDepth 100000
set_option maxHeartbeats 4000000
namespace Go.Proofs.YtjfnleilddgjiaaGreat
open Go.RowKit
open Ve (R)
theorem Z3n {a b c d:Int} (h1:a=c) (h2:b=d):Ending.returned (.tuple #[.int .u64 a,.int .u64 b])=.returned (.tuple #[.int .u64 c,.int .u64 d]):=by rw[h1,h2]
theorem bits_Mul64 (n:Nat) (h:n≤2100) (w:World):Calls Tryz.prog 205 #[.int .u64 1,.int .u64 n] w fun e w'=>e=.returned (.tuple #[.int .u64 0,.int .u64 n])/\w=w':=by
 obtain⟨m,rfl⟩:∃m:Fin 2101,n=m.val:=⟨⟨n,by omega⟩,rfl⟩;clear h
 go_enter Tryz.func205,Tryz.ntmps205
 go_wp2_with fail
 go_ret2
 refine⟨Z3n ?_ ?_,rfl⟩
 ·revert m
  decide +kernel
 ·rfl
theorem bits_Mul (n:Nat) (h:n≤2100) (w:World):Calls Tryz.prog 193 #[.int .u64 1,.int .u64 n] w fun e w'=>e=.returned (.tuple #[.int .u64 0,.int .u64 n])/\w=w':=by
 go_enter Tryz.func193,Tryz.ntmps193
 go_wp2_with fail
 refine (bits_Mul64 n h w).mono ?_;rintro e w1 ⟨rfl,rfl⟩
 go_wp2_with fail
 go_ret2
 exact⟨rfl,rfl⟩
/-! ### copy at elements of two cells -/
theorem Zxm {P:Program} (w:World) (dT sT ty elem:TypeId) (g o dLen dCap:Nat) (a:Addr) (sLen sCap:Nat) (cur:Array Value) (t:TypeId) (cs:List Value)
  (hu:P.underlying dT=some (.slice elem)) (hs:(P.info? elem).map (·.size)=some 2) (hg:w.heap[g]? = some (.cells cur t (0,0))) (hn:cs.length=Nat.min sLen dLen*2)
  (hsrc:∀j v,cs[j]? = some v->w.cell? (a.add j)=some v) (hfit:o+cs.length≤cur.size) (h1:∀v∈cs,v.oneCell'=true) :
  (Builtin.copy_ #[dT,sT] ty #[.slice (some ⟨g,o,none⟩) dLen dCap,.slice (some a) sLen sCap]).run P w =
   .ok (goInt (Nat.min sLen dLen)) (w.setRow g (cur.toList.take o++cs++cur.toList.drop (o+cs.length)).toArray):=by
 have hl:=run_loadCells_list (P:=P) w a cs hsrc;have hst:=run_storeCells_at P g o t cs 0 cur w hg (by simpa using hfit) h1;cases hq:P.info? elem with
 | none=>simp[hq] at hs
 | some i=>
  have hi:i.size=2:=by simpa [hq] using hs
  simp[Builtin.copy_,run_underlying hu,Builtin.lenOf,Builtin.firstCells,sizeOf,typeInfo,hq,hi,<-hn,hl,hst]
def repR (x:R) (m:Nat):List R:=List.replicate m x
theorem Zra (m:Nat):Lp.Za3 m=repR (0,1) m:=by
 unfold Lp.Za3 repR;rw[List.map_const',List.length_range]
def Rp (x:R) (g N k:Nat) (w:World):Prop:=∃rest:List Value,rest.length=(N-k)*2/\w.heap[g]? = some (.cells (Zat (repR x k)++rest).toArray 59 (0,0))
theorem Zf4:∀(xs ys:List R),Zat (xs++ys)=Zat xs++Zat ys
 | [],ys=>rfl
 | x::xs,ys=>by simp only[Zat,List.cons_append,Zf4 xs ys]
theorem Zq9 (x:R) (k m:Nat):repR x (k+m)=repR x k++repR x m:=List.replicate_append_replicate.symm
theorem Zgi (x:R) (m:Nat):(Zat (repR x m)).length=m*2:=by rw[Zch];simp[repR]
theorem Zm7:∀(xs:List R) (v:Value),v∈Zat xs->v.oneCell'=true
 | [],v,h=>by simp[Zat] at h
 | x::xs,v,h=>by
  simp only[Zat,List.mem_cons] at h
  rcases h with rfl|rfl|h
  ·rfl
  ·rfl
  ·exact Zm7 xs v h
theorem Ztk {x:R} {P:Program} {B:Nat} {w0 w:World} (dT sT ty elem:TypeId) (hu:P.underlying dT=some (.slice elem)) (hs:(P.info? elem).map (·.size)=some 2) {g N k m o:Nat} (ho:o=k*2) (dLen c1 sLen c2:Nat) (hm:Nat.min sLen dLen=m) (hkm:k+m≤N) (a:Addr) (hsrc:∀j v,(Zat (repR x m))[j]? = some v->w.cell? (a.add j)=some v) (h:Rp x g N k w) (hb:Below B w0 w) (hBg:B≤g) :
  ∃w',(Builtin.copy_ #[dT,sT] ty #[.slice (some ⟨g,o,none⟩) dLen c1,.slice (some a) sLen c2]).run P w=.ok (goInt m) w'/\Rp x g N (k+m) w'/\Below B w0 w':=by
 subst ho;obtain⟨rest,hr,hg⟩:=h;have hl:(Zat (repR x k)).length=k*2:=Zgi x k;have hl2:(Zat (repR x m)).length=m*2:=Zgi x m;have hrun:=Zxm (P:=P) w dT sT ty elem g (k*2) dLen c1 a sLen c2 _ 59 (Zat (repR x m)) hu hs hg (by rw[hl2,hm]) hsrc (by simp[hl,hl2,hr];omega) (fun v hv=>Zm7 _ v hv);rw[hm] at hrun;refine⟨_,hrun,⟨rest.drop (m*2),by simp[hr];omega,?_⟩,below_setRow hb hBg _⟩;have e:((Zat (repR x k)++rest).toArray.toList.take (k*2)++Zat (repR x m)++(Zat (repR x k)++rest).toArray.toList.drop (k*2+(Zat (repR x m)).length)).toArray=(Zat (repR x (k+m))++rest.drop (m*2)).toArray:=by
  rw[Zq9 x,Zf4,hl2]
  congr 1
  rw[List.take_left' hl,List.drop_append,hl,List.drop_eq_nil_of_le (by rw[hl];omega)];simp
 rw[<-e];exact setRow_heap w g _ _ _ _ hg
theorem Rp.cells {x:R} {g N k:Nat} {w:World} (h:Rp x g N k w) {m:Nat} (hm:m≤k):∀j v,(Zat (repR x m))[j]? = some v->w.cell? ((⟨g,0,none⟩:Addr).add j)=some v:=fun j v hj=>by
 obtain⟨rest,hr,hg⟩:=h;have hlt:j<(Zat (repR x m)).length:=(List.getElem?_eq_some_iff.1 hj).1;have e:repR x k=repR x m++repR x (k-m):=by rw[<-Zq9 x];congr 1;omega
 have hadd:(⟨g,0,none⟩:Addr).add j=⟨g,j,none⟩:=by unfold Addr.add;split<;>simp_all
 rw[hadd];simp only[World.cell?,hg];rw[e,Zf4];have hj2:(Zat (repR x m))[j]=v:=by rw[List.getElem?_eq_getElem hlt] at hj;exact Option.some.inj hj
 simp[List.getElem?_append,hlt,hj2]
theorem Rp.full {x:R} {B g N:Nat} {w:World} (h:Rp x g N N w) (hg:B≤g) (hN:N≤1048576):Zaa B w (.slice (some ⟨g,0,none⟩) N N) (repR x N):=by
 obtain⟨rest,hr,hh⟩:=h;have hl:(Zat (repR x N)).length=N*2:=Zgi x N;have hz:(repR x N).length=N:=by simp[repR]
 refine⟨by rw[hl,hz],.inr ⟨g,N,_,by rw[hz],hg,hh,by rw[hz];exact Nat.le_refl _,by unfold maxLen;omega,?_,?_⟩⟩
 ·simp[hl,hr]
 ·rw[hz]
  simp[List.take_left' hl]
theorem Zig:(Tryz.prog.info? 59).map (·.size)=some 2:=by kernel_rfl
theorem Rp.made {x:R} {B g n:Nat} {w:World} {xs:List Value} (h:w.ownsRow B 59 2 (.slice (some ⟨g,0,none⟩) n n) n xs):Rp x g n 0 w:=by
 obtain⟨_,⟨hv,_⟩ | ⟨g',cap,cur,hv,_,hh,_,_,hs,_⟩⟩:=h
 ·cases hv
 ·injection hv with h1 h2 h3
  injection h1 with h1
  injection h1 with h1
  subst h1 h3;exact⟨cur.toList,by simpa using hs,by simpa [repR,Zat] using hh⟩
theorem Z2h {x:R} {w:World} {q m:Nat} (hm:m≤1) (q0:w.cell? ⟨q,0,none⟩=some (.int .i64 x.1)) (q1:w.cell? ⟨q,1,none⟩=some (.int .i64 x.2)):∀j v,(Zat (repR x m))[j]? = some v->w.cell? ((⟨q,0,none⟩:Addr).add j)=some v:=fun j v hj=>by
 have hadd:(⟨q,0,none⟩:Addr).add j=⟨q,j,none⟩:=by unfold Addr.add;split<;>simp_all
 rw[hadd]
 match m,hm with
 | 0,_=>simp[repR,Zat] at hj
 | 1,_=>
  match j with
  | 0=>simp[repR,Zat] at hj;rw[q0,hj]
  | 1=>simp[repR,Zat] at hj;rw[q1,hj]
  | j+2=>simp[repR,Zat] at hj
theorem Z3i (a b:Nat):Nat.min a b≤a:=Nat.min_le_left a b
theorem Z3j (a b:Nat):Nat.min a b≤b:=Nat.min_le_right a b
theorem Zwt (n:Nat):Nat.min 1 n≤n:=Nat.min_le_right 1 n
theorem Zir (x:R) (n q c:Nat) (hn:n≤2100) (w:World) (hq:q<w.heap.size) (q0:w.cell? ⟨q,0,none⟩=some (.int .i64 x.1)) (q1:w.cell? ⟨q,1,none⟩=some (.int .i64 x.2)) :
  Calls Tryz.prog 171 #[.slice (some ⟨q,0,none⟩) 1 c,.int .i64 n] w (Zbe (repR x n) w):=by
 obtain⟨i0,hi,hz0,hz1,hz2⟩:=info_parts Zdf;have HI:=zH hi;have HZ0:=zH hz0;have HZ1:=zH hz1;have HZ2:=zH hz2;have hd0:decide ((n:Int)<0)=false:=by rw[decide_eq_false_iff_not];omega
 have hd1:decide ((n:Int)>9223372036854775807)=false:=by rw[decide_eq_false_iff_not];omega
 have Q0:=zH q0;have Q1:=zH q1;clear hi hz0 hz1 hz2 q0 q1
 go_enter Tryz.func171,Tryz.ntmps171
 go_wp2_with fail
 refine (bits_Mul n hn _).mono ?_;rintro e w1 ⟨rfl,rfl⟩
 go_wp2_with (refine wpList_make_full _ rfl _ _ 26 rfl w.heap.size 59 i0 (.agg #[.int .i64 0,.int .i64 0]) 2 Tryz.underlying26 HI.out HZ0.out HZ1.out _ _ _ _ n rfl rfl rfl rfl ?b2 ?b3 (Nat.le_refl _) ?_)
 case b2=>rw[HZ2.out];omega
 case b3=>unfold maxLen;omega
 intro w1 hown hgrow;have hR:=Rp.made (x:=x) hown;have hb1:Below w.heap.size w w1:=(Below.refl w.heap.size w).grown hgrow (Nat.le_refl _) (fun k hk=>by cases hk);have Hb1:=zH hb1;have hm1:0+Nat.min 1 n≤n:=by have:=Zwt n;omega
 obtain⟨w2,hrun,hR2,hB2⟩:=Ztk (P:=Tryz.prog) (w0:=w) (w:=w1) (B:=w.heap.size) 26 26 3 59 Tryz.underlying26 Zig (o:=0) rfl n n 1 c rfl hm1 ⟨q,0,none⟩ (Z2h (Nat.min_le_left 1 n) ((hb1.cell (p:=⟨q,0,none⟩) hq).trans Q0.out) ((hb1.cell (p:=⟨q,1,none⟩) hq).trans Q1.out)) hR hb1 (Nat.le_refl _);rw[Nat.zero_add] at hR2;have HR2:=zH hR2;have HB2:=zH hB2;have HRun:=zH hrun;have hpos:0<n->0<Nat.min 1 n:=fun h=>Nat.lt_min.2 ⟨by omega,h⟩
 have hle:Nat.min 1 n≤n:=Zwt n;generalize Nat.min 1 n=k0 at *;clear hown hgrow hR hb1 hm1 hrun hR2 hB2
 go_wp2_with (refine Lib.wpList_copy_run _ rfl (.tmp 31) (.tmp 32) 26 26 rfl _ _ rfl rfl HRun.out ?_)
 clear HRun
 go_loopw [8] (fun v wr=>∃k:Nat,v=.int .i64 k/\k≤n/\(0<n->0<k)/\Hid (Rp x w.heap.size n k wr)/\Hid (Below w.heap.size w wr)) (fun v _=>n-(intOf v).toNat)
 case atStart=>exact⟨k0,rfl,hle,hpos,HR2,HB2⟩
 case round=>
  obtain⟨k,rfl,hk,hp,hR,hB⟩:=hrel
  by_cases hlt:k<n
  ·have hkp:=hp (by omega)
   have hmk:k+Nat.min k (n-k)≤n:=by have:=Z3j k (n-k);omega
   have hmp:0<Nat.min k (n-k):=Nat.lt_min.2 ⟨by omega,by omega⟩;have hmm:Nat.min k (n-k)≤2100:=by have:=Z3i k (n-k);omega
   obtain⟨w9,hrun,hR9,hB9⟩:=Ztk (P:=Tryz.prog) (w0:=w) (w:=wr.drew) (B:=w.heap.size) 26 26 3 59 Tryz.underlying26 Zig (o:=k*2) rfl (n-k) (n-k) k n rfl hmk ⟨w.heap.size,0,none⟩ (hR.out.cells (Nat.min_le_left k (n-k))) hR.out hB.out.drew (Nat.le_refl _);have HR9:=zH hR9;have HB9:=zH hB9;generalize Nat.min k (n-k)=m at *;have h0:(0:Int)≤(k:Int):=by omega
   have h1:((k:Int)≤(n:Int)):=by omega
   have h2:((k:Int)<(n:Int)):=by omega
   have hne:(n=k)=False:=by simp;omega
   clear hR9 hB9
   go_wp2_with fail
   go_region
   all_goals
    clear hrun
    go_wp2_with fail
    go_roundw
    case rel=>exact⟨k+m,by go_num,by omega,fun _=>by omega,HR9,HB9⟩
    case measure=>simp[intOf];omega
  ·have he:k=n:=by omega
   subst he;have HO:=zH (hR.out.full (B:=w.heap.size) (Nat.le_refl _) (by omega))
   go_wp2_with fail
   go_ret;exact⟨_,rfl,HO.out,hB.out⟩
theorem Zdv (n:Nat) (hn:n≤2100) (w:World):Calls Tryz.prog 131 #[.int .i64 n] w (Zbe (Lp.Za3 n) w):=by
 have hb:=(Below.refl w.heap.size w).alloc (Nat.le_refl _) (.cells #[.int .i64 0,.int .i64 1] 59);have hx:=(Zap.new w (0,1)).four;have HR:=zH (Zir (0,1) n w.heap.size 1 hn (w.alloc (.cells #[.int .i64 0,.int .i64 1] 59)) (by rw[Zao];omega) hx.1 hx.2.1);have Hb:=zH hb;rw[Zra];clear hb hx
 go_enter Tryz.func131,Tryz.ntmps131
 go_wp2_with fail
 refine HR.out.mono ?_;rintro e w1 ⟨v,rfl,ho,k1⟩;have HO:=zH (Zaa.raise ho Hb.out.size);have Hb1:=zH (Hb.out.trans (k1.mono Hb.out.size));clear ho k1
 go_wp2_with fail
 go_ret;exact⟨_,rfl,HO.out,Hb1.out⟩
open Ta (T)
theorem Zt0 {B:Nat} {w:World} {a b:Option Addr} {c d:Nat} {xs ys:List R} (hB:B≤w.heap.size) (h1:Zaj B w a xs) (h2:Zaj B w b ys) :
  Zds (w.heap.size+1) (w.alloc (.cells #[.slice a xs.length c,.slice b ys.length d] 26)) (some ⟨w.heap.size,0,none⟩) [xs,ys]:=fun j hj=>by
 have hb:Below B w (w.alloc (.cells #[.slice a xs.length c,.slice b ys.length d] 26)):=(Below.refl _ _).alloc hB _;have hc:=Zad.new w #[.slice a xs.length c,.slice b ys.length d] 26
 match j,hj with
 | 0,_=>exact⟨_,0,a,c,rfl,by omega,hc.cell 0,(h1.below hb).mono (by omega)⟩
 | 1,_=>exact⟨_,0,b,d,rfl,by omega,hc.cell 1,(h2.below hb).mono (by omega)⟩
theorem Zpv (B:Nat) (a b ca:Option Addr) (c1 c2 cc:Nat) (t:T) (cost:List R) (hn:Zb9 t) (hcl:cost.length≤1048576) (w:World) (hBw:B≤w.heap.size) (hz:Zc2 B w a b t) (hk:Zaj B w ca cost) :
  Calls Tryz.prog 172 #[tabV a b c1 c2 t,.slice ca cost.length cc] w (Zb5 (Ta.Zdq t cost) (Ta.Zcp t cost) w):=by
 have HN:=zH hn;have HZ:=zH (hz.mono hBw);have HK:=zH (hk.mono hBw);have hb:=(Below.refl w.heap.size w).alloc (Nat.le_refl _) (.cells #[.slice a t.rows.length c1,.slice b t.basis.length c2,.int .i64 t.cols] 67);have hx:=Tri.new w (.slice a t.rows.length c1) (.slice b t.basis.length c2) (.int .i64 t.cols) 67;have HT:Hid (Zce w.heap.size (w.alloc (.cells #[.slice a t.rows.length c1,.slice b t.basis.length c2,.int .i64 t.cols] 67)) w.heap.size a b c1 c2 t):=⟨hx,(hz.mono hBw).below hb⟩;have Hb:=zH hb;rw[show tabV a b c1 c2 t=.agg #[.slice a t.rows.length c1,.slice b t.basis.length c2,.int .i64 t.cols] from rfl];obtain⟨g,hg⟩:∃g,Ta.good t=g:=⟨_,rfl⟩;have HG:=zH (fun W h=>Zfl w.heap.size w.heap.size a b c1 c2 t hn g hg W h);have Hg:=zH hg;have hn1:=hn.rows;obtain⟨RR,hRR⟩:∃RR,Ta.Zdq t cost=RR:=⟨_,rfl⟩;obtain⟨KK,hKK⟩:∃KK,Ta.Zcp t cost=KK:=⟨_,rfl⟩;have HRR:=zH hRR;have HKK:=zH hKK;rw[hRR,hKK];clear hz hk hb hx hn hg hRR hKK;have hno:Hid (KK=false->([]:List R)=RR/\false=KK):=fun h=>⟨by rw[<-HRR.out,Ta.Zk6 (by rw[HKK.out];exact h)],h.symm⟩
 go_enter Tryz.func172,Tryz.ntmps172
 go_wp2_with fail
 refine (HG.out _ HT.out).mono ?_;rintro e w1 ⟨rfl,d,rfl⟩;clear HG;cases g with
 | false=>
  have Hr:=zH (hno.out (by rw[<-HKK.out];exact Ta.Zpm Hg.out))
  go_wp2_with fail
  go_ret2
  exact⟨_,Zca Hr.out.2,by rw[<-Hr.out.1];exact Zaa.nil _ _,below_drewN Hb.out d⟩
 | true=>
  obtain⟨g0,g1,g2,g3⟩:=Ta.Za4 Hg.out;have G3:=zH g3;have G2:=zH g2;have HR:=zH HN.out.row;have HC:=zH (fun W h=>Zcr w.heap.size w.heap.size a b c1 c2 t g0 g1 hn1 W h);clear g3 g2 HN
  by_cases hq:(cost.length:Int)=t.cols+(t.rows.length:Int)
  ·have HE:=zH (Ta.Zss Hg.out hq)
   have Hq:=zH hq;have hne:((cost.length:Int) != t.cols+(t.rows.length:Int))=false:=by rw[hq];simp
   have hnb:cost.length≤1100000:=by omega
   clear hq;obtain⟨L,B1,C⟩:=t;simp only at g0 g1 hn1 hne;obtain⟨v0,hv0⟩:∃v0,Ve.good cost=v0:=⟨_,rfl⟩;have HAV:Hid (∀W,w.heap.size≤W.heap.size->Zaj w.heap.size W ca cost->Calls Tryz.prog 90 #[.slice ca cost.length cc] W fun e w'=>e=.returned (.bool v0)/\Below W.heap.size W w'):=fun W h1 h2=>hv0▸Zer w.heap.size ca cc cost hcl W h1 h2
   have Hv0:Hid (v0=(Ta.cr ⟨L,B1,C⟩ cost 0).2):=hv0.symm;clear hv0
   go_wp2_with fail
   refine (HC.out _ (HT.out.drewN d)).mono ?_;rintro e w1 ⟨rfl,d2,rfl⟩
   go_wp2_with fail
   have HB1:=zH (below_drewN Hb.out (d+d2));refine (HAV.out _ HB1.out.size (HK.out.below HB1.out)).mono ?_;rintro e w1 ⟨rfl,hb1⟩;have HB2:=zH (HB1.out.trans (hb1.mono HB1.out.size));have HX2:Hid (Tri w1 w.heap.size (.slice a L.length c1) (.slice b B1.length c2) (.int .i64 C) 67):=(HT.out.drewN (d+d2)).box.below hb1;clear hb1 HB1 HAV HC;cases v0 with
   | false=>
    have hz0:=Ta.Zgk (t:=⟨L,B1,C⟩) Hv0.out.symm L.length (Nat.zero_le _);have Hr:=zH (hno.out (by rw[<-HKK.out,HE.out];exact hz0));clear hz0
    go_wp2_with fail
    go_ret2
    exact⟨_,Zca Hr.out.2,by rw[<-Hr.out.1];exact Zaa.nil _ _,HB2.out⟩
   | true=>
    have HZ1:=zH (fun W=>Zdv 1 (by omega) W)
    go_wp2_with fail
    refine (HZ1.out _).mono ?_;rintro e w2 ⟨v2,rfl,ho2,hb2⟩;obtain⟨az,cz,rfl,hrz,_⟩:=Zai ho2;have HB3:=zH (HB2.out.trans (hb2.mono HB2.out.size));have HX3:=zH (HX2.out.below hb2);have HM:=zH (Zt0 (c:=cc) (d:=cz) (Nat.le_refl w2.heap.size) ((HK.out.below HB3.out).mono HB3.out.size) hrz);rw[Zcv] at HM;have HB4:=zH (HB3.out.alloc HB3.out.size (.cells #[.slice ca cost.length cc,.slice az 1 cz] 26));have HX4:=zH (HX3.out.more (.cells #[.slice ca cost.length cc,.slice az 1 cz] 26));have hfl:[cost,Lp.Za3 1].flatten=(Ta.cr ⟨L,B1,C⟩ cost 0).1:=by simp[Ta.cr,Lp.Za3]
    have HCc:=zH (Ziq (w2.heap.size+1) (some ⟨w2.heap.size,0,none⟩) 2 [cost,Lp.Za3 1] (by simp) (by simp[Zb0,Lp.Za3];omega) (w2.alloc (.cells #[.slice ca cost.length cc,.slice az 1 cz] 26)) (by rw[Zao];omega) HM.out);rw[hfl] at HCc;rw[Zcv];clear hb2 ho2 hrz hfl HZ1 HM
    go_wp2_with fail
    refine HCc.out.mono ?_;rintro e w3 ⟨v3,rfl,ho3,hb3⟩;have HB5:=zH (HB4.out.trans (hb3.mono HB4.out.size));have HX5:=zH (HX4.out.below hb3);have HO5:=zH (ho3.lower HB4.out.size);obtain⟨x0,x1,x2,_⟩:=HX5.out.cells;clear hb3 ho3 HCc
    go_wp2_with fail
    go_loopw [6,7,30] (fun v o i wr=>∃(k:Nat) (u:Value),u=v/\o=.bool true/\k≤B1.length/\i=.int .i64 k/\Hid (true=(Ta.cr ⟨L,B1,C⟩ cost k).2)/\Hid (Zaa w.heap.size wr u (Ta.cr ⟨L,B1,C⟩ cost k).1)/\Hid (Tri wr w.heap.size (.slice a L.length c1) (.slice b B1.length c2) (.int .i64 C) 67)/\Hid (Below w.heap.size w wr)) (fun _ _ i _=>B1.length-(intOf i).toNat)
    case atStart=>exact⟨0,_,rfl,rfl,Nat.zero_le _,rfl,Hv0,HO5,HX5,HB5⟩
    case round=>
     clear x0 x1 x2;obtain⟨k,u,rfl,rfl,hk,rfl,hOk,hO,hX,hB⟩:=hrel;obtain⟨x0,x1,x2,_⟩:=hX.out.cells
     by_cases hlt:k<B1.length
     ·have hltL:k<L.length:=by have:B1.length=L.length:=G2.out;omega
      have hstep:=Ta.Zk8 (t:=⟨L,B1,C⟩) hOk.out.symm;have hlen:=Ta.Zk7 (t:=⟨L,B1,C⟩) hOk.out.symm;have hTw:=HZ.out.below hB.out;obtain⟨b1,o1,a1,k1,rfl,hl1,hrow,hRr⟩:=hTw.mR k hltL;obtain⟨b2,o2,rfl,hl2,hbas⟩:=hTw.mB k hlt;obtain⟨g31,g32,g33⟩:=G3.out k hltL;simp only at hrow hbas hRr;obtain⟨j,hj⟩:∃j:Nat,B1.getD k 0=j:=⟨(B1.getD k 0).toNat,by have:0≤B1.getD k 0:=g32;omega⟩;have hjc:j<cost.length:=by have h1:B1.getD k 0≤C+(L.length:Int)-1:=g33;have h2:(cost.length:Int)=C+(L.length:Int):=Hq.out;omega
      obtain⟨b3,o3,rfl,hl3,p0,p1⟩:=(HK.out.below hB.out).at j hjc;rw[hj] at hbas;have hsz:=hB.out.size;have HRl:Hid ((rr L k).length≤1048576):=HR.out k hltL;have hstep':Ta.cr ⟨L,B1,C⟩ cost (k+1)=(Ve.scR (Ta.cr ⟨L,B1,C⟩ cost k).1 (Ta.negR (Ve.at_ cost j)) (rr L k),Ve.scK (Ta.cr ⟨L,B1,C⟩ cost k).1 (Ta.negR (Ve.at_ cost j)) (rr L k)):=by
       rw[hstep];have e1:(Ta.bas ⟨L,B1,C⟩ k).toNat=j:=by show (B1.getD k 0).toNat=j;rw[hj];simp
       rw[e1];rfl
      have Hstep:=zH hstep';obtain⟨au,cu,rfl,hur,_⟩:=Zai hO.out;have Hur:=zH hur;have hxl:(Ta.cr ⟨L,B1,C⟩ cost k).1.length≤1048576:=by have h1:((rr L k).length:Int)=C+(L.length:Int)+1:=g31;have h2:(cost.length:Int)=C+(L.length:Int):=Hq.out;have h3:=HRl.out;omega
      generalize (Ta.cr ⟨L,B1,C⟩ cost k).1=xs at *;have HRr:=zH hRr;have Cell:=zH (fun w' (h:Since wr w')=>(show w'.cell? ⟨w.heap.size,0,none⟩=some (.slice (some ⟨b1,o1,none⟩) L.length c1)/\w'.cell? ⟨b3,o3+j*2,none⟩=some (.int .i64 (Ve.at_ cost j).1)/\w'.cell? ⟨b3,o3+j*2+1,none⟩=some (.int .i64 (Ve.at_ cost j).2)/\w'.cell? ⟨b1,o1+k,none⟩=some (.slice a1 (rr L k).length k1)/\Since wr w' from
       ⟨h.cell (p:=⟨w.heap.size,0,none⟩) (Zab hX.out) x0,h.cell (p:=⟨b3,o3+j*2,none⟩) (show b3<wr.heap.size by omega) p0,h.cell (p:=⟨b3,o3+j*2+1,none⟩) (show b3<wr.heap.size by omega) p1,h.cell (p:=⟨b1,o1+k,none⟩) (show b1<wr.heap.size by omega) hrow,h⟩))
      have HX':=zH (fun w' (h:Since wr w')=>hX.out.below h.low);generalize Ve.at_ cost j=x at *;have HAS:=zH (fun w' (h:Since wr w')=>Zg6 h (Zfq wr.heap.size au a1 cu k1 xs (Ta.negR x) (rr L k) hxl HRl.out w' h.low.size (Hur.out.below h.low) ((HRr.out.below (h.low.mono hsz)).mono hsz)));have HNg:=zH (fun w' (h:Since wr w')=>Zaw (Zb7 x w') h);have hin:=Since.refl wr;have n1:(k:Int)<(L.length:Int):=by omega
      have n2:(k:Int)<(B1.length:Int):=by omega
      have n3:(j:Int)<(cost.length:Int):=by omega
      clear hstep hstep' hlen hTw g31 g32 g33 hRr p0 p1 hrow hur;generalize (rr L k)=row at *
      go_wp2_with fail
      go_region_held3 (fun w'=>w'.cell? ⟨w.heap.size,0,none⟩=some (.slice (some ⟨b1,o1,none⟩) L.length c1)/\w'.cell? ⟨b3,o3+j*2,none⟩=some (.int .i64 x.1)/\w'.cell? ⟨b3,o3+j*2+1,none⟩=some (.int .i64 x.2)/\w'.cell? ⟨b1,o1+k,none⟩=some (.slice a1 row.length k1)/\Since wr w') (first|exact Cell.out _ (by assumption) | exact Cell.out _ (Since.drew (by assumption)))
       (first | (go_at_call 112;refine (HNg.out _ (by first|assumption|exact Since.drew (by assumption))).mono ?_;rintro e w' ⟨⟨rfl,_⟩,hin3⟩) | (go_at_call 194;refine (HAS.out _ (by first|assumption|exact Since.drew (by assumption))).mono ?_;rintro e w' ⟨⟨v,rfl,ho⟩,hin2⟩))
      have HO6:Hid (Zaa w.heap.size w' v (Ta.cr ⟨L,B1,C⟩ cost (k+1)).1):=by rw[Hstep.out];exact ho.lower hsz
      have HK6:Hid (Ve.scK xs (Ta.negR x) row=(Ta.cr ⟨L,B1,C⟩ cost (k+1)).2):=by rw[Hstep.out];rfl
      have HX6:=HX'.out w' hin2;have HX6:=zH HX6;have HB6:=zH (hB.out.trans (hin2.low.mono hsz));generalize Ve.scK xs (Ta.negR x) row=k6 at *;clear ho hin hin2 hin3 Cell HX' HAS HNg x0 x1 x2 hbas;cases k6 with
      | false=>
       have hz0:=Ta.Zgk (t:=⟨L,B1,C⟩) HK6.out.symm L.length (by omega);have Hr:=zH (hno.out (by rw[<-HKK.out,HE.out];exact hz0));clear hz0
       go_wp2_with fail
       go_ret2
       exact⟨_,Zca Hr.out.2,by rw[<-Hr.out.1];exact Zaa.nil _ _,HB6.out⟩
      | true=>
       go_wp2_with fail
       go_roundw
       case rel=>exact⟨k+1,_,rfl,rfl,by omega,by go_num,HK6,HO6,HX6,HB6⟩
       case measure=>simp[intOf];omega
     ·have he:k=L.length:=by have:B1.length=L.length:=G2.out;omega
      rw[he] at hOk hO;have HE2:Hid (true=KK):=by show _=_;rw[<-HKK.out,HE.out];exact hOk.out
      have HF:Hid (Zaa w.heap.size wr u RR):=by
       have h:=Ta.Zst (t:=⟨L,B1,C⟩) (cost:=cost) (by rw[HKK.out];exact HE2.out.symm);rw[HRR.out] at h;rw[h];exact hO.out
      clear he
      go_wp2_with fail
      go_ret2
      exact⟨_,Zca HE2.out,HF.out,hB.out⟩
  ·have Hr:=zH (hno.out (by rw[<-HKK.out];exact Ta.Zk5 hq))
   have hne:((cost.length:Int) != t.cols+(t.rows.length:Int))=true:=by rw[bne_iff_ne];exact hq
   clear hq
   go_wp2_with fail
   refine (HC.out _ (HT.out.drewN d)).mono ?_;rintro e w1 ⟨rfl,d2,rfl⟩
   go_wp2_with fail
   go_ret2
   exact⟨_,Zca Hr.out.2,by rw[<-Hr.out.1];exact Zaa.nil _ _,below_drewN Hb.out (d+d2)⟩
end Go.Proofs.YtjfnleilddgjiaaGreat
