/- slices.Repeat of one integer. -/
import Derived.Test.YtpjnjidbdpfdcaaGreatLpR4
import Derived.Test.YtpjnjidbdpfdcaaGreatGrI
namespace Go.Proofs.YtpjnjidbdpfdcaaGreat
open Go.RowKit
/-! ### copy at elements of one cell -/
theorem Zmr {P:Program} (w:World) (dT sT ty elem:TypeId) (g o dLen dCap:Nat) (a:Addr) (sLen sCap:Nat) (cur:Array Value) (t:TypeId) (cs:List Value)
  (hu:P.underlying dT=some (.slice elem)) (hs:(P.info? elem).map (·.size)=some 1) (hg:w.heap[g]? = some (.cells cur t (0,0))) (hn:cs.length=Nat.min sLen dLen*1)
  (hsrc:∀j v,cs[j]? = some v->w.cell? (a.add j)=some v) (hfit:o+cs.length≤cur.size) (h1:∀v∈cs,v.oneCell'=true) :
  (Builtin.copy_ #[dT,sT] ty #[.slice (some ⟨g,o,none⟩) dLen dCap,.slice (some a) sLen sCap]).run P w =
   .ok (goInt (Nat.min sLen dLen)) (w.setRow g (cur.toList.take o++cs++cur.toList.drop (o+cs.length)).toArray):=by
 have hl:=run_loadCells_list (P:=P) w a cs hsrc;have hst:=run_storeCells_at P g o t cs 0 cur w hg (by simpa using hfit) h1;cases hq:P.info? elem with
 | none=>simp[hq] at hs
 | some i=>
  have hi:i.size=1:=by simpa [hq] using hs
  simp[Builtin.copy_,run_underlying hu,Builtin.lenOf,Builtin.firstCells,sizeOf,typeInfo,hq,hi,<-hn,hl,hst]
def repI (x:Int) (m:Nat):List Int:=List.replicate m x
def Za9 (l:List Int):List Value:=l.map (Value.int .i64)
def Rq (x:Int) (g N k:Nat) (w:World):Prop:=∃rest:List Value,rest.length=(N-k)*1/\w.heap[g]? = some (.cells (Za9 (repI x k)++rest).toArray 3 (0,0))
theorem Zdt:∀(xs ys:List Int),Za9 (xs++ys)=Za9 xs++Za9 ys:=fun _ _=>List.map_append
theorem Zkc (x:Int) (k m:Nat):repI x (k+m)=repI x k++repI x m:=List.replicate_append_replicate.symm
theorem Zdg (x:Int) (m:Nat):(Za9 (repI x m)).length=m*1:=by simp[Za9,repI]
theorem Zku (xs:List Int) (v:Value) (h:v∈Za9 xs):v.oneCell'=true:=by
 obtain⟨z,_,rfl⟩:=List.mem_map.1 h;rfl
theorem Zh7 {x:Int} {P:Program} {B:Nat} {w0 w:World} (dT sT ty elem:TypeId) (hu:P.underlying dT=some (.slice elem)) (hs:(P.info? elem).map (·.size)=some 1) {g N k m o:Nat} (ho:o=k*1) (dLen c1 sLen c2:Nat) (hm:Nat.min sLen dLen=m) (hkm:k+m≤N) (a:Addr) (hsrc:∀j v,(Za9 (repI x m))[j]? = some v->w.cell? (a.add j)=some v) (h:Rq x g N k w) (hb:Below B w0 w) (hBg:B≤g) :
  ∃w',(Builtin.copy_ #[dT,sT] ty #[.slice (some ⟨g,o,none⟩) dLen c1,.slice (some a) sLen c2]).run P w=.ok (goInt m) w'/\Rq x g N (k+m) w'/\Below B w0 w':=by
 subst ho;obtain⟨rest,hr,hg⟩:=h;have hl:(Za9 (repI x k)).length=k*1:=Zdg x k;have hl2:(Za9 (repI x m)).length=m*1:=Zdg x m;have hrun:=Zmr (P:=P) w dT sT ty elem g (k*1) dLen c1 a sLen c2 _ 3 (Za9 (repI x m)) hu hs hg (by rw[hl2,hm]) hsrc (by simp[hl,hl2,hr];omega) (fun v hv=>Zku _ v hv);rw[hm] at hrun;refine⟨_,hrun,⟨rest.drop (m*1),by simp[hr];omega,?_⟩,below_setRow hb hBg _⟩;have e:((Za9 (repI x k)++rest).toArray.toList.take (k*1)++Za9 (repI x m)++(Za9 (repI x k)++rest).toArray.toList.drop (k*1+(Za9 (repI x m)).length)).toArray=(Za9 (repI x (k+m))++rest.drop (m*1)).toArray:=by
  rw[Zkc x,Zdt,hl2]
  congr 1
  rw[List.take_left' hl,List.drop_append,hl,List.drop_eq_nil_of_le (by rw[hl];omega)];simp
 rw[<-e];exact setRow_heap w g _ _ _ _ hg
theorem Rq.cells {x:Int} {g N k:Nat} {w:World} (h:Rq x g N k w) {m:Nat} (hm:m≤k):∀j v,(Za9 (repI x m))[j]? = some v->w.cell? ((⟨g,0,none⟩:Addr).add j)=some v:=fun j v hj=>by
 obtain⟨rest,hr,hg⟩:=h;have hlt:j<(Za9 (repI x m)).length:=(List.getElem?_eq_some_iff.1 hj).1;have e:repI x k=repI x m++repI x (k-m):=by rw[<-Zkc x];congr 1;omega
 have hadd:(⟨g,0,none⟩:Addr).add j=⟨g,j,none⟩:=by unfold Addr.add;split<;>simp_all
 rw[hadd];simp only[World.cell?,hg];rw[e,Zdt];have hj2:(Za9 (repI x m))[j]=v:=by rw[List.getElem?_eq_getElem hlt] at hj;exact Option.some.inj hj
 simp[List.getElem?_append,hlt,hj2]
theorem Rq.full {x:Int} {B g N:Nat} {w:World} (h:Rq x g N N w) (hg:B≤g) (hN:N≤1048576):Zab B w (.slice (some ⟨g,0,none⟩) N N) (repI x N):=by
 obtain⟨rest,hr,hh⟩:=h;have hl:(Za9 (repI x N)).length=N*1:=Zdg x N;have hz:(repI x N).length=N:=by simp[repI]
 refine⟨by simp,.inr ⟨g,N,_,by rw[hz],hg,hh,by rw[hz];exact Nat.le_refl _,by unfold maxLen;omega,?_,?_⟩⟩
 ·simp[hl,hr]
 ·rw[hz]
  have h9:=List.take_left' (l₂:=rest) hl
  simpa [Za9] using h9
theorem Zdz:(Tryz.prog.info? 3).map (·.size)=some 1:=by kernel_rfl
theorem Rq.made {x:Int} {B g n:Nat} {w:World} {xs:List Value} (h:w.ownsRow B 3 1 (.slice (some ⟨g,0,none⟩) n n) n xs):Rq x g n 0 w:=by
 obtain⟨_,⟨hv,_⟩ | ⟨g',cap,cur,hv,_,hh,_,_,hs,_⟩⟩:=h
 ·cases hv
 ·injection hv with h1 h2 h3
  injection h1 with h1
  injection h1 with h1
  subst h1 h3;exact⟨cur.toList,by simpa using hs,by simpa [repI,Za9] using hh⟩
theorem Zn6 {x:Int} {w:World} {q m:Nat} (hm:m≤1) (q0:w.cell? ⟨q,0,none⟩=some (.int .i64 x)):∀j v,(Za9 (repI x m))[j]? = some v->w.cell? ((⟨q,0,none⟩:Addr).add j)=some v:=fun j v hj=>by
 have hadd:(⟨q,0,none⟩:Addr).add j=⟨q,j,none⟩:=by unfold Addr.add;split<;>simp_all
 rw[hadd]
 match m,hm with
 | 0,_=>simp[repI,Za9] at hj
 | 1,_=>
  match j with
  | 0=>simp[repI,Za9] at hj;rw[q0,hj]
  | j+1=>simp[repI,Za9] at hj
theorem Zpe (a b:Nat):Nat.min a b≤a:=Nat.min_le_left a b
theorem Zpf (a b:Nat):Nat.min a b≤b:=Nat.min_le_right a b
theorem Zj6 (n:Nat):Nat.min 1 n≤n:=Nat.min_le_right 1 n
set_option maxRecDepth 100000 in
set_option maxHeartbeats 4000000 in
theorem Zf8 (x:Int) (n q c:Nat) (hn:n≤2100) (w:World) (hq:q<w.heap.size) (q0:w.cell? ⟨q,0,none⟩=some (.int .i64 x)) :
  Calls Tryz.prog 60 #[.slice (some ⟨q,0,none⟩) 1 c,.int .i64 n] w fun e w'=>∃v,e=.returned v/\Zab w.heap.size w' v (repI x n)/\Below w.heap.size w w':=by
 obtain⟨i0,hi,hz0,hz1,hz2⟩:=info_parts Zb9;have HI:=zH hi;have HZ0:=zH hz0;have HZ1:=zH hz1;have HZ2:=zH hz2;have hd0:decide ((n:Int)<0)=false:=by rw[decide_eq_false_iff_not];omega
 have hd1:decide ((n:Int)>9223372036854775807)=false:=by rw[decide_eq_false_iff_not];omega
 have Q0:=zH q0;clear hi hz0 hz1 hz2 q0
 go_enter Tryz.func60,Tryz.ntmps60
 go_wp2_with fail
 refine (bits_Mul n hn _).mono ?_;rintro e w1 ⟨rfl,rfl⟩
 go_wp2_with (refine wpList_make_full _ rfl _ _ 22 rfl w.heap.size 3 i0 (.int .i64 0) 1 Tryz.underlying22 HI.out HZ0.out HZ1.out _ _ _ _ n rfl rfl rfl rfl ?b2 ?b3 (Nat.le_refl _) ?_)
 case b2=>rw[HZ2.out];omega
 case b3=>unfold maxLen;omega
 intro w1 hown hgrow;have hR:=Rq.made (x:=x) hown;have hb1:Below w.heap.size w w1:=(Below.refl w.heap.size w).grown hgrow (Nat.le_refl _) (fun k hk=>by cases hk);have Hb1:=zH hb1;have hm1:0+Nat.min 1 n≤n:=by have:=Zj6 n;omega
 obtain⟨w2,hrun,hR2,hB2⟩:=Zh7 (P:=Tryz.prog) (w0:=w) (w:=w1) (B:=w.heap.size) 22 22 3 3 Tryz.underlying22 Zdz (o:=0) rfl n n 1 c rfl hm1 ⟨q,0,none⟩ (Zn6 (Nat.min_le_left 1 n) ((hb1.cell (p:=⟨q,0,none⟩) hq).trans Q0.out)) hR hb1 (Nat.le_refl _);rw[Nat.zero_add] at hR2;have HR2:=zH hR2;have HB2:=zH hB2;have HRun:=zH hrun;have hpos:0<n->0<Nat.min 1 n:=fun h=>Nat.lt_min.2 ⟨by omega,h⟩
 have hle:Nat.min 1 n≤n:=Zj6 n;generalize Nat.min 1 n=k0 at *;clear hown hgrow hR hb1 hm1 hrun hR2 hB2
 go_wp2_with (refine Lib.wpList_copy_run _ rfl (.tmp 31) (.tmp 32) 22 22 rfl _ _ rfl rfl HRun.out ?_)
 clear HRun
 go_loopw [8] (fun v wr=>∃k:Nat,v=.int .i64 k/\k≤n/\(0<n->0<k)/\Hid (Rq x w.heap.size n k wr)/\Hid (Below w.heap.size w wr)) (fun v _=>n-(intOf v).toNat)
 case atStart=>exact⟨k0,rfl,hle,hpos,HR2,HB2⟩
 case round=>
  obtain⟨k,rfl,hk,hp,hR,hB⟩:=hrel
  by_cases hlt:k<n
  ·have hkp:=hp (by omega)
   have hmk:k+Nat.min k (n-k)≤n:=by have:=Zpf k (n-k);omega
   have hmp:0<Nat.min k (n-k):=Nat.lt_min.2 ⟨by omega,by omega⟩;have hmm:Nat.min k (n-k)≤2100:=by have:=Zpe k (n-k);omega
   obtain⟨w9,hrun,hR9,hB9⟩:=Zh7 (P:=Tryz.prog) (w0:=w) (w:=wr.drew) (B:=w.heap.size) 22 22 3 3 Tryz.underlying22 Zdz (o:=k) (by omega) (n-k) (n-k) k n rfl hmk ⟨w.heap.size,0,none⟩ (hR.out.cells (Nat.min_le_left k (n-k))) hR.out hB.out.drew (Nat.le_refl _);have HR9:=zH hR9;have HB9:=zH hB9;generalize Nat.min k (n-k)=m at *;have h0:(0:Int)≤(k:Int):=by omega
   have h1:((k:Int)≤(n:Int)):=by omega
   have h2:((k:Int)<(n:Int)):=by omega
   have hne:(n=k)=False:=by simp;omega
   clear hR9 hB9
   go_wp2_with fail
   go_region
   all_goals
    clear hrun
    go_wp2_with fail
    go_roundw
    case rel=>exact⟨k+m,by go_num,by omega,fun _=>by omega,HR9,HB9⟩
    case measure=>simp[intOf];omega
  ·have he:k=n:=by omega
   subst he;have HO:=zH (hR.out.full (B:=w.heap.size) (Nat.le_refl _) (by omega))
   go_wp2_with fail
   go_ret;exact⟨_,rfl,HO.out,hB.out⟩
end Go.Proofs.YtpjnjidbdpfdcaaGreat
