/- The parts LpR4, LeR. -/
import Derived.Test.YtlohljkfphljgaaGreatGLb
import Derived.Test.YtlohljkfphljgaaGreatCoA
import Derived.Laws.CopyRow
import Derived.Lib.SlBuf
import Derived.Laws.CopyOwn
import Derived.Test.YtlohljkfphljgaaGreatHGrI
set_option maxRecDepth 100000
set_option maxHeartbeats 4000000
namespace Go.Proofs.YtlohljkfphljgaaGreat
open Go.RowKit
open Ve (R)
theorem Z2v {a b c d:Int} (h1:a=c) (h2:b=d):Ending.returned (.tuple #[.int .u64 a,.int .u64 b])=.returned (.tuple #[.int .u64 c,.int .u64 d]):=by rw[h1,h2]
theorem bits_Mul64 (n:Nat) (h:n≤2100) (w:World):Calls Tryz.prog 203 #[.int .u64 1,.int .u64 n] w fun e w'=>e=.returned (.tuple #[.int .u64 0,.int .u64 n])/\w=w':=by
 obtain⟨m,rfl⟩:∃m:Fin 2101,n=m.val:=⟨⟨n,by omega⟩,rfl⟩;clear h
 go_enter Tryz.func203,Tryz.ntmps203
 go_wp2_with fail
 go_ret2
 refine⟨Z2v ?_ ?_,rfl⟩
 ·revert m
  decide +kernel
 ·rfl
theorem bits_Mul (n:Nat) (h:n≤2100) (w:World):Calls Tryz.prog 173 #[.int .u64 1,.int .u64 n] w fun e w'=>e=.returned (.tuple #[.int .u64 0,.int .u64 n])/\w=w':=by
 go_enter Tryz.func173,Tryz.ntmps173
 go_wp2_with fail
 refine (bits_Mul64 n h w).mono ?_;rintro e w1 ⟨rfl,rfl⟩
 go_wp2_with fail
 go_ret2
 exact⟨rfl,rfl⟩
/-! ### copy at elements of two cells -/
theorem Zwy {P:Program} (w:World) (dT sT ty elem:TypeId) (g o dLen dCap:Nat) (a:Addr) (sLen sCap:Nat) (cur:Array Value) (t:TypeId) (cs:List Value)
  (hu:P.underlying dT=some (.slice elem)) (hs:(P.info? elem).map (·.size)=some 2) (hg:w.heap[g]? = some (.cells cur t (0,0))) (hn:cs.length=Nat.min sLen dLen*2)
  (hsrc:∀j v,cs[j]? = some v->w.cell? (a.add j)=some v) (hfit:o+cs.length≤cur.size) (h1:∀v∈cs,v.oneCell'=true) :
  (Builtin.copy_ #[dT,sT] ty #[.slice (some ⟨g,o,none⟩) dLen dCap,.slice (some a) sLen sCap]).run P w =
   .ok (goInt (Nat.min sLen dLen)) (w.setRow g (cur.toList.take o++cs++cur.toList.drop (o+cs.length)).toArray):=by
 have hl:=run_loadCells_list (P:=P) w a cs hsrc;have hst:=run_storeCells_at P g o t cs 0 cur w hg (by simpa using hfit) h1;cases hq:P.info? elem with
 | none=>simp[hq] at hs
 | some i=>
  have hi:i.size=2:=by simpa [hq] using hs
  simp[Builtin.copy_,run_underlying hu,Builtin.lenOf,Builtin.firstCells,sizeOf,typeInfo,hq,hi,<-hn,hl,hst]
def repR (x:R) (m:Nat):List R:=List.replicate m x
theorem Zqn (m:Nat):Lp.Za1 m=repR (0,1) m:=by
 unfold Lp.Za1 repR;rw[List.map_const',List.length_range]
def Rp (x:R) (g N k:Nat) (w:World):Prop:=∃rest:List Value,rest.length=(N-k)*2/\w.heap[g]? = some (.cells (Zaq (repR x k)++rest).toArray 31 (0,0))
theorem Zf1:∀(xs ys:List R),Zaq (xs++ys)=Zaq xs++Zaq ys
 | [],ys=>rfl
 | x::xs,ys=>by simp only[Zaq,List.cons_append,Zf1 xs ys]
theorem Zqm (x:R) (k m:Nat):repR x (k+m)=repR x k++repR x m:=List.replicate_append_replicate.symm
theorem Zge (x:R) (m:Nat):(Zaq (repR x m)).length=m*2:=by rw[Zb7];simp[repR]
theorem Zmv:∀(xs:List R) (v:Value),v∈Zaq xs->v.oneCell'=true
 | [],v,h=>by simp[Zaq] at h
 | x::xs,v,h=>by
  simp only[Zaq,List.mem_cons] at h
  rcases h with rfl|rfl|h
  ·rfl
  ·rfl
  ·exact Zmv xs v h
theorem Zs7 {x:R} {P:Program} {B:Nat} {w0 w:World} (dT sT ty elem:TypeId) (hu:P.underlying dT=some (.slice elem)) (hs:(P.info? elem).map (·.size)=some 2) {g N k m o:Nat} (ho:o=k*2) (dLen c1 sLen c2:Nat) (hm:Nat.min sLen dLen=m) (hkm:k+m≤N) (a:Addr) (hsrc:∀j v,(Zaq (repR x m))[j]? = some v->w.cell? (a.add j)=some v) (h:Rp x g N k w) (hb:Below B w0 w) (hBg:B≤g) :
  ∃w',(Builtin.copy_ #[dT,sT] ty #[.slice (some ⟨g,o,none⟩) dLen c1,.slice (some a) sLen c2]).run P w=.ok (goInt m) w'/\Rp x g N (k+m) w'/\Below B w0 w':=by
 subst ho;obtain⟨rest,hr,hg⟩:=h;have hl:(Zaq (repR x k)).length=k*2:=Zge x k;have hl2:(Zaq (repR x m)).length=m*2:=Zge x m;have hrun:=Zwy (P:=P) w dT sT ty elem g (k*2) dLen c1 a sLen c2 _ 31 (Zaq (repR x m)) hu hs hg (by rw[hl2,hm]) hsrc (by simp[hl,hl2,hr];omega) (fun v hv=>Zmv _ v hv);rw[hm] at hrun;refine⟨_,hrun,⟨rest.drop (m*2),by simp[hr];omega,?_⟩,below_setRow hb hBg _⟩;have e:((Zaq (repR x k)++rest).toArray.toList.take (k*2)++Zaq (repR x m)++(Zaq (repR x k)++rest).toArray.toList.drop (k*2+(Zaq (repR x m)).length)).toArray=(Zaq (repR x (k+m))++rest.drop (m*2)).toArray:=by
  rw[Zqm x,Zf1,hl2]
  congr 1
  rw[List.take_left' hl,List.drop_append,hl,List.drop_eq_nil_of_le (by rw[hl];omega)];simp
 rw[<-e];exact setRow_heap w g _ _ _ _ hg
theorem Rp.cells {x:R} {g N k:Nat} {w:World} (h:Rp x g N k w) {m:Nat} (hm:m≤k):∀j v,(Zaq (repR x m))[j]? = some v->w.cell? ((⟨g,0,none⟩:Addr).add j)=some v:=fun j v hj=>by
 obtain⟨rest,hr,hg⟩:=h;have hlt:j<(Zaq (repR x m)).length:=(List.getElem?_eq_some_iff.1 hj).1;have e:repR x k=repR x m++repR x (k-m):=by rw[<-Zqm x];congr 1;omega
 have hadd:(⟨g,0,none⟩:Addr).add j=⟨g,j,none⟩:=by unfold Addr.add;split<;>simp_all
 rw[hadd];simp only[World.cell?,hg];rw[e,Zf1];have hj2:(Zaq (repR x m))[j]=v:=by rw[List.getElem?_eq_getElem hlt] at hj;exact Option.some.inj hj
 simp[List.getElem?_append,hlt,hj2]
theorem Rp.full {x:R} {B g N:Nat} {w:World} (h:Rp x g N N w) (hg:B≤g) (hN:N≤1048576):Zaa B w (.slice (some ⟨g,0,none⟩) N N) (repR x N):=by
 obtain⟨rest,hr,hh⟩:=h;have hl:(Zaq (repR x N)).length=N*2:=Zge x N;have hz:(repR x N).length=N:=by simp[repR]
 refine⟨by rw[hl,hz],.inr ⟨g,N,_,by rw[hz],hg,hh,by rw[hz];exact Nat.le_refl _,by unfold maxLen;omega,?_,?_⟩⟩
 ·simp[hl,hr]
 ·rw[hz]
  simp[List.take_left' hl]
theorem Zii:(Tryz.prog.info? 31).map (·.size)=some 2:=by kernel_rfl
theorem Rp.made {x:R} {B g n:Nat} {w:World} {xs:List Value} (h:w.ownsRow B 31 2 (.slice (some ⟨g,0,none⟩) n n) n xs):Rp x g n 0 w:=by
 obtain⟨_,⟨hv,_⟩ | ⟨g',cap,cur,hv,_,hh,_,_,hs,_⟩⟩:=h
 ·cases hv
 ·injection hv with h1 h2 h3
  injection h1 with h1
  injection h1 with h1
  subst h1 h3;exact⟨cur.toList,by simpa using hs,by simpa [repR,Zaq] using hh⟩
theorem Z1p {x:R} {w:World} {q m:Nat} (hm:m≤1) (q0:w.cell? ⟨q,0,none⟩=some (.int .i64 x.1)) (q1:w.cell? ⟨q,1,none⟩=some (.int .i64 x.2)):∀j v,(Zaq (repR x m))[j]? = some v->w.cell? ((⟨q,0,none⟩:Addr).add j)=some v:=fun j v hj=>by
 have hadd:(⟨q,0,none⟩:Addr).add j=⟨q,j,none⟩:=by unfold Addr.add;split<;>simp_all
 rw[hadd]
 match m,hm with
 | 0,_=>simp[repR,Zaq] at hj
 | 1,_=>
  match j with
  | 0=>simp[repR,Zaq] at hj;rw[q0,hj]
  | 1=>simp[repR,Zaq] at hj;rw[q1,hj]
  | j+2=>simp[repR,Zaq] at hj
theorem Z2q (a b:Nat):Nat.min a b≤a:=Nat.min_le_left a b
theorem Z2r (a b:Nat):Nat.min a b≤b:=Nat.min_le_right a b
theorem Zv6 (n:Nat):Nat.min 1 n≤n:=Nat.min_le_right 1 n
theorem Ziq (x:R) (n q c:Nat) (hn:n≤2100) (w:World) (hq:q<w.heap.size) (q0:w.cell? ⟨q,0,none⟩=some (.int .i64 x.1)) (q1:w.cell? ⟨q,1,none⟩=some (.int .i64 x.2)) :
  Calls Tryz.prog 181 #[.slice (some ⟨q,0,none⟩) 1 c,.int .i64 n] w (Zbg (repR x n) w):=by
 obtain⟨i0,hi,hz0,hz1,hz2⟩:=info_parts Zeo;have HI:=zH hi;have HZ0:=zH hz0;have HZ1:=zH hz1;have HZ2:=zH hz2;have hd0:decide ((n:Int)<0)=false:=by rw[decide_eq_false_iff_not];omega
 have hd1:decide ((n:Int)>9223372036854775807)=false:=by rw[decide_eq_false_iff_not];omega
 have Q0:=zH q0;have Q1:=zH q1;clear hi hz0 hz1 hz2 q0 q1
 go_enter Tryz.func181,Tryz.ntmps181
 go_wp2_with fail
 refine (bits_Mul n hn _).mono ?_;rintro e w1 ⟨rfl,rfl⟩
 go_wp2_with (refine wpList_make_full _ rfl _ _ 26 rfl w.heap.size 31 i0 (.agg #[.int .i64 0,.int .i64 0]) 2 Tryz.underlying26 HI.out HZ0.out HZ1.out _ _ _ _ n rfl rfl rfl rfl ?b2 ?b3 (Nat.le_refl _) ?_)
 case b2=>rw[HZ2.out];omega
 case b3=>unfold maxLen;omega
 intro w1 hown hgrow;have hR:=Rp.made (x:=x) hown;have hb1:Below w.heap.size w w1:=(Below.refl w.heap.size w).grown hgrow (Nat.le_refl _) (fun k hk=>by cases hk);have Hb1:=zH hb1;have hm1:0+Nat.min 1 n≤n:=by have:=Zv6 n;omega
 obtain⟨w2,hrun,hR2,hB2⟩:=Zs7 (P:=Tryz.prog) (w0:=w) (w:=w1) (B:=w.heap.size) 26 26 3 31 Tryz.underlying26 Zii (o:=0) rfl n n 1 c rfl hm1 ⟨q,0,none⟩ (Z1p (Nat.min_le_left 1 n) ((hb1.cell (p:=⟨q,0,none⟩) hq).trans Q0.out) ((hb1.cell (p:=⟨q,1,none⟩) hq).trans Q1.out)) hR hb1 (Nat.le_refl _);rw[Nat.zero_add] at hR2;have HR2:=zH hR2;have HB2:=zH hB2;have HRun:=zH hrun;have hpos:0<n->0<Nat.min 1 n:=fun h=>Nat.lt_min.2 ⟨by omega,h⟩
 have hle:Nat.min 1 n≤n:=Zv6 n;generalize Nat.min 1 n=k0 at *;clear hown hgrow hR hb1 hm1 hrun hR2 hB2
 go_wp2_with (refine Lib.wpList_copy_run _ rfl (.tmp 31) (.tmp 32) 26 26 rfl _ _ rfl rfl HRun.out ?_)
 clear HRun
 go_loopw [8] (fun v wr=>∃k:Nat,v=.int .i64 k/\k≤n/\(0<n->0<k)/\Hid (Rp x w.heap.size n k wr)/\Hid (Below w.heap.size w wr)) (fun v _=>n-(intOf v).toNat)
 case atStart=>exact⟨k0,rfl,hle,hpos,HR2,HB2⟩
 case round=>
  obtain⟨k,rfl,hk,hp,hR,hB⟩:=hrel
  by_cases hlt:k<n
  ·have hkp:=hp (by omega)
   have hmk:k+Nat.min k (n-k)≤n:=by have:=Z2r k (n-k);omega
   have hmp:0<Nat.min k (n-k):=Nat.lt_min.2 ⟨by omega,by omega⟩;have hmm:Nat.min k (n-k)≤2100:=by have:=Z2q k (n-k);omega
   obtain⟨w9,hrun,hR9,hB9⟩:=Zs7 (P:=Tryz.prog) (w0:=w) (w:=wr.drew) (B:=w.heap.size) 26 26 3 31 Tryz.underlying26 Zii (o:=k*2) rfl (n-k) (n-k) k n rfl hmk ⟨w.heap.size,0,none⟩ (hR.out.cells (Nat.min_le_left k (n-k))) hR.out hB.out.drew (Nat.le_refl _);have HR9:=zH hR9;have HB9:=zH hB9;generalize Nat.min k (n-k)=m at *;have h0:(0:Int)≤(k:Int):=by omega
   have h1:((k:Int)≤(n:Int)):=by omega
   have h2:((k:Int)<(n:Int)):=by omega
   have hne:(n=k)=False:=by simp;omega
   clear hR9 hB9
   go_wp2_with fail
   go_region
   all_goals
    clear hrun
    go_wp2_with fail
    go_roundw
    case rel=>exact⟨k+m,by go_num,by omega,fun _=>by omega,HR9,HB9⟩
    case measure=>simp[intOf];omega
  ·have he:k=n:=by omega
   subst he;have HO:=zH (hR.out.full (B:=w.heap.size) (Nat.le_refl _) (by omega))
   go_wp2_with fail
   go_ret;exact⟨_,rfl,HO.out,hB.out⟩
theorem Zdr (n:Nat) (hn:n≤2100) (w:World):Calls Tryz.prog 130 #[.int .i64 n] w (Zbg (Lp.Za1 n) w):=by
 have hb:=(Below.refl w.heap.size w).alloc (Nat.le_refl _) (.cells #[.int .i64 0,.int .i64 1] 31);have hx:=(Zau.new w (0,1)).four;have HR:=zH (Ziq (0,1) n w.heap.size 1 hn (w.alloc (.cells #[.int .i64 0,.int .i64 1] 31)) (by rw[Zar];omega) hx.1 hx.2.1);have Hb:=zH hb;rw[Zqn];clear hb hx
 go_enter Tryz.func130,Tryz.ntmps130
 go_wp2_with fail
 refine HR.out.mono ?_;rintro e w1 ⟨v,rfl,ho,k1⟩;have HO:=zH (Zaa.raise ho Hb.out.size);have Hb1:=zH (Hb.out.trans (k1.mono Hb.out.size));clear ho k1
 go_wp2_with fail
 go_ret;exact⟨_,rfl,HO.out,Hb1.out⟩
/-! ### copy at elements of one cell -/
theorem Zwz {P:Program} (w:World) (dT sT ty elem:TypeId) (g o dLen dCap:Nat) (a:Addr) (sLen sCap:Nat) (cur:Array Value) (t:TypeId) (cs:List Value)
  (hu:P.underlying dT=some (.slice elem)) (hs:(P.info? elem).map (·.size)=some 1) (hg:w.heap[g]? = some (.cells cur t (0,0))) (hn:cs.length=Nat.min sLen dLen*1)
  (hsrc:∀j v,cs[j]? = some v->w.cell? (a.add j)=some v) (hfit:o+cs.length≤cur.size) (h1:∀v∈cs,v.oneCell'=true) :
  (Builtin.copy_ #[dT,sT] ty #[.slice (some ⟨g,o,none⟩) dLen dCap,.slice (some a) sLen sCap]).run P w =
   .ok (goInt (Nat.min sLen dLen)) (w.setRow g (cur.toList.take o++cs++cur.toList.drop (o+cs.length)).toArray):=by
 have hl:=run_loadCells_list (P:=P) w a cs hsrc;have hst:=run_storeCells_at P g o t cs 0 cur w hg (by simpa using hfit) h1;cases hq:P.info? elem with
 | none=>simp[hq] at hs
 | some i=>
  have hi:i.size=1:=by simpa [hq] using hs
  simp[Builtin.copy_,run_underlying hu,Builtin.lenOf,Builtin.firstCells,sizeOf,typeInfo,hq,hi,<-hn,hl,hst]
def repI (x:Int) (m:Nat):List Int:=List.replicate m x
def Zb8 (l:List Int):List Value:=l.map (Value.int .i64)
def Rq (x:Int) (g N k:Nat) (w:World):Prop:=∃rest:List Value,rest.length=(N-k)*1/\w.heap[g]? = some (.cells (Zb8 (repI x k)++rest).toArray 3 (0,0))
theorem Zh2:∀(xs ys:List Int),Zb8 (xs++ys)=Zb8 xs++Zb8 ys:=fun _ _=>List.map_append
theorem Zs6 (x:Int) (k m:Nat):repI x (k+m)=repI x k++repI x m:=List.replicate_append_replicate.symm
theorem Zhk (x:Int) (m:Nat):(Zb8 (repI x m)).length=m*1:=by simp[Zb8,repI]
theorem Zts (xs:List Int) (v:Value) (h:v∈Zb8 xs):v.oneCell'=true:=by
 obtain⟨z,_,rfl⟩:=List.mem_map.1 h;rfl
theorem Zpt {x:Int} {P:Program} {B:Nat} {w0 w:World} (dT sT ty elem:TypeId) (hu:P.underlying dT=some (.slice elem)) (hs:(P.info? elem).map (·.size)=some 1) {g N k m o:Nat} (ho:o=k*1) (dLen c1 sLen c2:Nat) (hm:Nat.min sLen dLen=m) (hkm:k+m≤N) (a:Addr) (hsrc:∀j v,(Zb8 (repI x m))[j]? = some v->w.cell? (a.add j)=some v) (h:Rq x g N k w) (hb:Below B w0 w) (hBg:B≤g) :
  ∃w',(Builtin.copy_ #[dT,sT] ty #[.slice (some ⟨g,o,none⟩) dLen c1,.slice (some a) sLen c2]).run P w=.ok (goInt m) w'/\Rq x g N (k+m) w'/\Below B w0 w':=by
 subst ho;obtain⟨rest,hr,hg⟩:=h;have hl:(Zb8 (repI x k)).length=k*1:=Zhk x k;have hl2:(Zb8 (repI x m)).length=m*1:=Zhk x m;have hrun:=Zwz (P:=P) w dT sT ty elem g (k*1) dLen c1 a sLen c2 _ 3 (Zb8 (repI x m)) hu hs hg (by rw[hl2,hm]) hsrc (by simp[hl,hl2,hr];omega) (fun v hv=>Zts _ v hv);rw[hm] at hrun;refine⟨_,hrun,⟨rest.drop (m*1),by simp[hr];omega,?_⟩,below_setRow hb hBg _⟩;have e:((Zb8 (repI x k)++rest).toArray.toList.take (k*1)++Zb8 (repI x m)++(Zb8 (repI x k)++rest).toArray.toList.drop (k*1+(Zb8 (repI x m)).length)).toArray=(Zb8 (repI x (k+m))++rest.drop (m*1)).toArray:=by
  rw[Zs6 x,Zh2,hl2]
  congr 1
  rw[List.take_left' hl,List.drop_append,hl,List.drop_eq_nil_of_le (by rw[hl];omega)];simp
 rw[<-e];exact setRow_heap w g _ _ _ _ hg
theorem Rq.cells {x:Int} {g N k:Nat} {w:World} (h:Rq x g N k w) {m:Nat} (hm:m≤k):∀j v,(Zb8 (repI x m))[j]? = some v->w.cell? ((⟨g,0,none⟩:Addr).add j)=some v:=fun j v hj=>by
 obtain⟨rest,hr,hg⟩:=h;have hlt:j<(Zb8 (repI x m)).length:=(List.getElem?_eq_some_iff.1 hj).1;have e:repI x k=repI x m++repI x (k-m):=by rw[<-Zs6 x];congr 1;omega
 have hadd:(⟨g,0,none⟩:Addr).add j=⟨g,j,none⟩:=by unfold Addr.add;split<;>simp_all
 rw[hadd];simp only[World.cell?,hg];rw[e,Zh2];have hj2:(Zb8 (repI x m))[j]=v:=by rw[List.getElem?_eq_getElem hlt] at hj;exact Option.some.inj hj
 simp[List.getElem?_append,hlt,hj2]
theorem Rq.full {x:Int} {B g N:Nat} {w:World} (h:Rq x g N N w) (hg:B≤g) (hN:N≤1048576):Zad B w (.slice (some ⟨g,0,none⟩) N N) (repI x N):=by
 obtain⟨rest,hr,hh⟩:=h;have hl:(Zb8 (repI x N)).length=N*1:=Zhk x N;have hz:(repI x N).length=N:=by simp[repI]
 refine⟨by simp,.inr ⟨g,N,_,by rw[hz],hg,hh,by rw[hz];exact Nat.le_refl _,by unfold maxLen;omega,?_,?_⟩⟩
 ·simp[hl,hr]
 ·rw[hz]
  have h9:=List.take_left' (l₂:=rest) hl
  simpa [Zb8] using h9
theorem Zih:(Tryz.prog.info? 3).map (·.size)=some 1:=by kernel_rfl
theorem Rq.made {x:Int} {B g n:Nat} {w:World} {xs:List Value} (h:w.ownsRow B 3 1 (.slice (some ⟨g,0,none⟩) n n) n xs):Rq x g n 0 w:=by
 obtain⟨_,⟨hv,_⟩ | ⟨g',cap,cur,hv,_,hh,_,_,hs,_⟩⟩:=h
 ·cases hv
 ·injection hv with h1 h2 h3
  injection h1 with h1
  injection h1 with h1
  subst h1 h3;exact⟨cur.toList,by simpa using hs,by simpa [repI,Zb8] using hh⟩
theorem Zzm {x:Int} {w:World} {q m:Nat} (hm:m≤1) (q0:w.cell? ⟨q,0,none⟩=some (.int .i64 x)):∀j v,(Zb8 (repI x m))[j]? = some v->w.cell? ((⟨q,0,none⟩:Addr).add j)=some v:=fun j v hj=>by
 have hadd:(⟨q,0,none⟩:Addr).add j=⟨q,j,none⟩:=by unfold Addr.add;split<;>simp_all
 rw[hadd]
 match m,hm with
 | 0,_=>simp[repI,Zb8] at hj
 | 1,_=>
  match j with
  | 0=>simp[repI,Zb8] at hj;rw[q0,hj]
  | j+1=>simp[repI,Zb8] at hj
theorem Z03 (a b:Nat):Nat.min a b≤a:=Nat.min_le_left a b
theorem Z04 (a b:Nat):Nat.min a b≤b:=Nat.min_le_right a b
theorem Zsw (n:Nat):Nat.min 1 n≤n:=Nat.min_le_right 1 n
theorem Zmm (x:Int) (n q c:Nat) (hn:n≤2100) (w:World) (hq:q<w.heap.size) (q0:w.cell? ⟨q,0,none⟩=some (.int .i64 x)) :
  Calls Tryz.prog 114 #[.slice (some ⟨q,0,none⟩) 1 c,.int .i64 n] w fun e w'=>∃v,e=.returned v/\Zad w.heap.size w' v (repI x n)/\Below w.heap.size w w':=by
 obtain⟨i0,hi,hz0,hz1,hz2⟩:=info_parts Zdc;have HI:=zH hi;have HZ0:=zH hz0;have HZ1:=zH hz1;have HZ2:=zH hz2;have hd0:decide ((n:Int)<0)=false:=by rw[decide_eq_false_iff_not];omega
 have hd1:decide ((n:Int)>9223372036854775807)=false:=by rw[decide_eq_false_iff_not];omega
 have Q0:=zH q0;clear hi hz0 hz1 hz2 q0
 go_enter Tryz.func114,Tryz.ntmps114
 go_wp2_with fail
 refine (bits_Mul n hn _).mono ?_;rintro e w1 ⟨rfl,rfl⟩
 go_wp2_with (refine wpList_make_full _ rfl _ _ 25 rfl w.heap.size 3 i0 (.int .i64 0) 1 Tryz.underlying25 HI.out HZ0.out HZ1.out _ _ _ _ n rfl rfl rfl rfl ?b2 ?b3 (Nat.le_refl _) ?_)
 case b2=>rw[HZ2.out];omega
 case b3=>unfold maxLen;omega
 intro w1 hown hgrow;have hR:=Rq.made (x:=x) hown;have hb1:Below w.heap.size w w1:=(Below.refl w.heap.size w).grown hgrow (Nat.le_refl _) (fun k hk=>by cases hk);have Hb1:=zH hb1;have hm1:0+Nat.min 1 n≤n:=by have:=Zsw n;omega
 obtain⟨w2,hrun,hR2,hB2⟩:=Zpt (P:=Tryz.prog) (w0:=w) (w:=w1) (B:=w.heap.size) 25 25 3 3 Tryz.underlying25 Zih (o:=0) rfl n n 1 c rfl hm1 ⟨q,0,none⟩ (Zzm (Nat.min_le_left 1 n) ((hb1.cell (p:=⟨q,0,none⟩) hq).trans Q0.out)) hR hb1 (Nat.le_refl _);rw[Nat.zero_add] at hR2;have HR2:=zH hR2;have HB2:=zH hB2;have HRun:=zH hrun;have hpos:0<n->0<Nat.min 1 n:=fun h=>Nat.lt_min.2 ⟨by omega,h⟩
 have hle:Nat.min 1 n≤n:=Zsw n;generalize Nat.min 1 n=k0 at *;clear hown hgrow hR hb1 hm1 hrun hR2 hB2
 go_wp2_with (refine Lib.wpList_copy_run _ rfl (.tmp 31) (.tmp 32) 25 25 rfl _ _ rfl rfl HRun.out ?_)
 clear HRun
 go_loopw [8] (fun v wr=>∃k:Nat,v=.int .i64 k/\k≤n/\(0<n->0<k)/\Hid (Rq x w.heap.size n k wr)/\Hid (Below w.heap.size w wr)) (fun v _=>n-(intOf v).toNat)
 case atStart=>exact⟨k0,rfl,hle,hpos,HR2,HB2⟩
 case round=>
  obtain⟨k,rfl,hk,hp,hR,hB⟩:=hrel
  by_cases hlt:k<n
  ·have hkp:=hp (by omega)
   have hmk:k+Nat.min k (n-k)≤n:=by have:=Z04 k (n-k);omega
   have hmp:0<Nat.min k (n-k):=Nat.lt_min.2 ⟨by omega,by omega⟩;have hmm:Nat.min k (n-k)≤2100:=by have:=Z03 k (n-k);omega
   obtain⟨w9,hrun,hR9,hB9⟩:=Zpt (P:=Tryz.prog) (w0:=w) (w:=wr.drew) (B:=w.heap.size) 25 25 3 3 Tryz.underlying25 Zih (o:=k) (by omega) (n-k) (n-k) k n rfl hmk ⟨w.heap.size,0,none⟩ (hR.out.cells (Nat.min_le_left k (n-k))) hR.out hB.out.drew (Nat.le_refl _);have HR9:=zH hR9;have HB9:=zH hB9;generalize Nat.min k (n-k)=m at *;have h0:(0:Int)≤(k:Int):=by omega
   have h1:((k:Int)≤(n:Int)):=by omega
   have h2:((k:Int)<(n:Int)):=by omega
   have hne:(n=k)=False:=by simp;omega
   clear hR9 hB9
   go_wp2_with fail
   go_region
   all_goals
    clear hrun
    go_wp2_with fail
    go_roundw
    case rel=>exact⟨k+m,by go_num,by omega,fun _=>by omega,HR9,HB9⟩
    case measure=>simp[intOf];omega
  ·have he:k=n:=by omega
   subst he;have HO:=zH (hR.out.full (B:=w.heap.size) (Nat.le_refl _) (by omega))
   go_wp2_with fail
   go_ret;exact⟨_,rfl,HO.out,hB.out⟩
end Go.Proofs.YtlohljkfphljgaaGreat
