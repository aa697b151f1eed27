/- math/bits.Mul at 1 and a small number; slices.Repeat of one fraction; impl.zeroRats. -/
import Derived.Test.YtpjnjidbdpfdcaaGreatGLb
import Derived.Test.YtpjnjidbdpfdcaaGreatCoA
import Derived.Laws.CopyRow
import Derived.Lib.SlBuf
import Derived.Laws.CopyOwn
namespace Go.Proofs.YtpjnjidbdpfdcaaGreat
open Go.RowKit
open Ve (R)
theorem Zqr {a b c d:Int} (h1:a=c) (h2:b=d):Ending.returned (.tuple #[.int .u64 a,.int .u64 b])=.returned (.tuple #[.int .u64 c,.int .u64 d]):=by rw[h1,h2]
set_option maxHeartbeats 1000000 in
theorem bits_Mul64 (n:Nat) (h:n≤2100) (w:World):Calls Tryz.prog 91 #[.int .u64 1,.int .u64 n] w fun e w'=>e=.returned (.tuple #[.int .u64 0,.int .u64 n])/\w=w':=by
 obtain⟨m,rfl⟩:∃m:Fin 2101,n=m.val:=⟨⟨n,by omega⟩,rfl⟩;clear h
 go_enter Tryz.func91,Tryz.ntmps91
 go_wp2_with fail
 go_ret2
 refine⟨Zqr ?_ ?_,rfl⟩
 ·revert m
  decide +kernel
 ·rfl
theorem bits_Mul (n:Nat) (h:n≤2100) (w:World):Calls Tryz.prog 77 #[.int .u64 1,.int .u64 n] w fun e w'=>e=.returned (.tuple #[.int .u64 0,.int .u64 n])/\w=w':=by
 go_enter Tryz.func77,Tryz.ntmps77
 go_wp2_with fail
 refine (bits_Mul64 n h w).mono ?_;rintro e w1 ⟨rfl,rfl⟩
 go_wp2_with fail
 go_ret2
 exact⟨rfl,rfl⟩
/-! ### copy at elements of two cells -/
def repR (x:R) (m:Nat):List R:=List.replicate m x
def Rp (x:R) (g N k:Nat) (w:World):Prop:=∃rest:List Value,rest.length=(N-k)*2/\w.heap[g]? = some (.cells (Zau (repR x k)++rest).toArray 35 (0,0))
theorem Zdu:∀(xs ys:List R),Zau (xs++ys)=Zau xs++Zau ys
 | [],ys=>rfl
 | x::xs,ys=>by simp only[Zau,List.cons_append,Zdu xs ys]
theorem Znb (x:R) (k m:Nat):repR x (k+m)=repR x k++repR x m:=List.replicate_append_replicate.symm
theorem Zhm (x:R) (m:Nat):(Zau (repR x m)).length=m*2:=by rw[Zb3];simp[repR]
theorem Rp.cells {x:R} {g N k:Nat} {w:World} (h:Rp x g N k w) {m:Nat} (hm:m≤k):∀j v,(Zau (repR x m))[j]? = some v->w.cell? ((⟨g,0,none⟩:Addr).add j)=some v:=fun j v hj=>by
 obtain⟨rest,hr,hg⟩:=h;have hlt:j<(Zau (repR x m)).length:=(List.getElem?_eq_some_iff.1 hj).1;have e:repR x k=repR x m++repR x (k-m):=by rw[<-Znb x];congr 1;omega
 have hadd:(⟨g,0,none⟩:Addr).add j=⟨g,j,none⟩:=by unfold Addr.add;split<;>simp_all
 rw[hadd];simp only[World.cell?,hg];rw[e,Zdu];have hj2:(Zau (repR x m))[j]=v:=by rw[List.getElem?_eq_getElem hlt] at hj;exact Option.some.inj hj
 simp[List.getElem?_append,hlt,hj2]
theorem Rp.full {x:R} {B g N:Nat} {w:World} (h:Rp x g N N w) (hg:B≤g) (hN:N≤1048576):Zad B w (.slice (some ⟨g,0,none⟩) N N) (repR x N):=by
 obtain⟨rest,hr,hh⟩:=h;have hl:(Zau (repR x N)).length=N*2:=Zhm x N;have hz:(repR x N).length=N:=by simp[repR]
 refine⟨by rw[hl,hz],.inr ⟨g,N,_,by rw[hz],hg,hh,by rw[hz];exact Nat.le_refl _,by unfold maxLen;omega,?_,?_⟩⟩
 ·simp[hl,hr]
 ·rw[hz]
  simp[List.take_left' hl]
theorem Rp.made {x:R} {B g n:Nat} {w:World} {xs:List Value} (h:w.ownsRow B 35 2 (.slice (some ⟨g,0,none⟩) n n) n xs):Rp x g n 0 w:=by
 obtain⟨_,⟨hv,_⟩ | ⟨g',cap,cur,hv,_,hh,_,_,hs,_⟩⟩:=h
 ·cases hv
 ·injection hv with h1 h2 h3
  injection h1 with h1
  injection h1 with h1
  subst h1 h3;exact⟨cur.toList,by simpa using hs,by simpa [repR,Zau] using hh⟩
end Go.Proofs.YtpjnjidbdpfdcaaGreat
