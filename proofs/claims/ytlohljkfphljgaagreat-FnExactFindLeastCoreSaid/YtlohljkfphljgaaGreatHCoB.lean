/- The parts LeP, CoB. -/
import Derived.Test.YtlohljkfphljgaaGreatGLk
import Derived.Test.YtlohljkfphljgaaGreatHCrP
import Derived.Test.YtlohljkfphljgaaGreatCoA
namespace Go.Proofs.YtlohljkfphljgaaGreat.Le
open Ve (R at_ val addR addK)
open Gm (G)
open Lp (P sm)
open De (IntB fact)
open Ba (Fr)
theorem lp_C {g:G} (h:can g=true):(lp g).C.length=g.v.length-1:=by
 have hl:=Gm.Zef (Zff h).1;have hn:=Zff h;have hp:=Gm.Zl7 hn.1;have h2:2 ^ 2≤2 ^ g.n.toNat:=Nat.pow_le_pow_right (by omega) (by omega);show (Cr.cost g (g.v.length-2)++[(Gm.Zga g,1)]).length=_;rw[List.length_append,Cr.Zbj];simp;omega
theorem lp_A (g:G):(lp g).A.length=g.n.toNat+1:=by
 show (Ze3 _ _++[_]).length=_;rw[List.length_append,Zgw];rfl
theorem lp_B (g:G):(lp g).B.length=g.n.toNat+1:=by
 show (Zci _++[_]).length=_;rw[List.length_append,Zhx];rfl
theorem Zsh {α:Type} {l:List α} {x d:α} {j:Nat} (h:j<l.length):(l++[x]).getD j d=l.getD j d:=by
 rw[List.getD_eq_getElem?_getD,List.getD_eq_getElem?_getD,List.getElem?_append_left h]
theorem Zsg {α:Type} {l:List α} {x d:α} {j:Nat} (h:j=l.length):(l++[x]).getD j d=x:=by
 subst h;rw[List.getD_eq_getElem?_getD,List.getElem?_append_right (Nat.le_refl _)];simp
theorem Zsr {g:G} {j:Nat} (h:j<g.n.toNat):Lp.row (lp g) j=Cr.mrow j (g.v.length-2)++[-1]:=by
 show (Ze3 _ _++[_]).getD j []=_;rw[Zsh (by rw[Zgw];exact h),Zza h]
theorem Z0z (g:G):Lp.row (lp g) g.n.toNat=Cr.Zbp (g.v.length-2)++[0]:=by
 show (Ze3 _ _++[_]).getD _ []=_;rw[Zsg (by rw[Zgw])]
theorem Z0s {g:G} {s:Nat} (hs:s<g.v.length-2):at_ (lp g).C s=(-(g.v.getD (s+1) 0),1):=by
 show (Cr.cost _ _++[_]).getD s _=_;rw[Zsh (by rw[Cr.Zbj];exact hs)];exact Cr.Zqu hs
theorem Zj2 (g:G):at_ (lp g).C (g.v.length-2)=(Gm.Zga g,1):=by
 show (Cr.cost _ _++[_]).getD _ _=_;rw[Zsg (by rw[Cr.Zbj])]
theorem Zuk (k:Nat):Lp.small (Cr.Zbp k)=true:=by
 unfold Lp.small;rw[List.all_eq_true];intro z hz;unfold Cr.Zbp at hz;obtain⟨_,_,rfl⟩:=List.mem_map.1 hz
 decide
theorem Zr0 (k:Nat):Lp.small (Zci k)=true:=by
 unfold Lp.small;rw[List.all_eq_true];intro z hz;unfold Zci at hz;obtain⟨_,_,rfl⟩:=List.mem_map.1 hz
 decide
theorem Zi9 {l:List Int} {x:Int} (h:Lp.small l=true) (hx:Lp.small [x]=true):Lp.small (l++[x])=true:=by
 unfold Lp.small at h hx ⊢;rw[List.all_append,h,hx];rfl
theorem Zvs {g:G} (h:can g=true):Lp.vldP (lp g)=true:=by
 have hv:=(Zff h).1;have hn:=Gm.Zmq hv;have hl:=Gm.Zef hv;have eC:=lp_C h;have hp:=Gm.Zl7 hv;have h22:2 ^ 2≤2 ^ g.n.toNat:=Nat.pow_le_pow_right (by omega) (by have:=(Zff h).2;omega);have hlen:∀j,j<g.n.toNat+1->(Lp.row (lp g) j).length=(lp g).C.length/\Lp.small (Lp.row (lp g) j)=true:=fun j hj=>by
  rw[eC]
  rcases Nat.lt_or_ge j g.n.toNat with hj2|hj2
  ·rw[Zsr hj2,List.length_append,Cr.Zep]
   exact⟨by simp;omega,Zi9 (Cr.Znd _ _) (by decide)⟩
  ·obtain rfl:j=g.n.toNat:=by omega
   rw[Z0z,List.length_append,Cr.Zdj];exact⟨by simp;omega,Zi9 (Zuk _) (by decide)⟩
 have h1:Lp.rows (lp g)=true:=by
  unfold Lp.rows;rw[List.all_eq_true];intro j hj;have hj2:j<g.n.toNat+1:=by simpa [lp_A] using hj
  obtain⟨k1,k2⟩:=hlen j hj2;rw[k2,k1];simp
 have h2:Lp.small (lp g).B=true:=Zi9 (Zr0 _) (by decide);have h3:Ve.good (lp g).C=true:=Ve.Zj5 fun k hk=>by
  rcases Nat.lt_or_ge k (g.v.length - 2) with hk2|hk2
  ·rw[Z0s hk2]
   have:=Gm.Zl5 hv (k:=k+1) (by omega);exact Ra.Zl6 (by omega) (by omega) (by omega) (by omega) (by simp)
  ·obtain rfl:k=g.v.length-2:=by omega
   rw[Zj2];have:=Cr.Zx6 hv;exact Ra.Zl6 (by omega) (by omega) (by omega) (by omega) (by simp)
 unfold Lp.vldP;rw[h1,h2,h3,lp_A,lp_B,eC];simp;omega
def zero:Lst:=⟨false,(0,0),[],[]⟩
def sol (g:G):Lp.Res:=Ta.solve (lp g)
def find (g:G):Lst:=if can g then (if (sol g).status=1 then ⟨true,Ta.negR (sol g).value,Cr.negs ((sol g).Y.take g.n.toNat),(sol g).X⟩ else zero) else zero
theorem Zq2 {g:G} (h:can g=false):find g=zero:=by unfold find;rw[h];rfl
theorem Zh7 {g:G} (h:can g=true) (h2:(sol g).status≠1):find g=zero:=by unfold find;rw[if_pos h,if_neg h2]
theorem Znv {g:G} (h:can g=true) (h2:(sol g).status=1):find g=⟨true,Ta.negR (sol g).value,Cr.negs ((sol g).Y.take g.n.toNat),(sol g).X⟩:=by unfold find;rw[if_pos h,if_pos h2]
theorem Zw9 {g:G} (hs:(sol g).status=1):Lp.opt (lp g) (sol g)=true:=(Ba.Zlx hs).2.1
theorem Zzl {g:G} (hs:(sol g).status=1):(sol g).Y.length=g.n.toNat+1:=by
 obtain⟨_,hyl,_⟩:=Lp.Zfr (Zw9 hs);rw[hyl];exact lp_B g
theorem Z33 {g:G} (h:can g=true) (hs:(sol g).status=1):(sol g).X.length=g.v.length-1:=by
 obtain⟨hf,_⟩:=Lp.Zfr (Zw9 hs);rw[(Lp.Zg8 hf).2.1];exact lp_C h
end Go.Proofs.YtlohljkfphljgaaGreat.Le
namespace Go.Proofs.YtlohljkfphljgaaGreat
open Go.RowKit
theorem Zjq (n:Int) (h0:0≤n) (h1:n≤31) (w:World):Calls Tryz.prog 219 #[.int .u64 n] w fun e w'=>e=.returned (.int .i64 (Co.size n 5))/\w=w':=by
 obtain⟨m,hm⟩:∃m:Fin 32,n=(m.val:Int):=⟨⟨n.toNat,by omega⟩,by show n=((n.toNat:Nat):Int);omega⟩;have Hm:=Lib.hid hm;clear hm
 go_enter Tryz.func219,Tryz.ntmps219
 go_wp2_with fail
 go_ret;refine⟨Za8 ?_,rfl⟩;rw[Hm.out];clear Hm h0 h1 n;revert m
 decide +kernel
theorem Zma (n:Int) (h0:0≤n) (h1:n≤31) (w:World):Calls Tryz.prog 196 #[.int .u64 n] w fun e w'=>e=.returned (.int .i64 (Co.size n 5))/\w=w':=by
 go_enter Tryz.func196,Tryz.ntmps196
 go_wp2_with fail
 refine (Zjq n h0 h1 w).mono ?_;rintro e w1 ⟨rfl,rfl⟩
 go_wp2_with fail
 go_ret;exact⟨rfl,rfl⟩
theorem Zrb (s:Int) (w:World):Calls Tryz.prog 164 #[.int .i64 s] w fun e w'=>e=.returned (.int .i64 (Co.size s 5))/\w=w':=by
 by_cases h:s<0
 ·have Hr:=Lib.hid (Co.Ztc h 5)
  go_enter Tryz.func164,Tryz.ntmps164
  go_wp2_with fail
  go_ret;exact⟨Za8 Hr.out.symm,rfl⟩
 ·have hb:decide (s<0)=false:=by rw[decide_eq_false_iff_not];exact h
  have Hr:=Lib.hid (Co.Zzi (show 0≤s by omega));have Ha:=Lib.hid (Co.Z16 s);have hm0:0≤s % 32:=by omega
  have hm1:s % 32≤31:=by omega
  have hq:bits .and .i64 s 31=s % 32:=Co.Z16 s
  go_enter Tryz.func164,Tryz.ntmps164
  go_wp2_with fail
  refine (Zma _ hm0 hm1 w).mono ?_;rintro e w1 ⟨rfl,rfl⟩
  go_wp2_with fail
  go_ret;exact⟨Za8 Hr.out,rfl⟩
theorem Zpg (a b:Int) (ha:Co.good a=true) (hb:Co.good b=true) (w:World):Calls Tryz.prog 165 #[.int .i64 a,.int .i64 b] w fun e w'=>e=.returned (.int .i64 (Co.ovl a b 5))/\w=w':=by
 have Ha:=Lib.hid ha;have Hb:=Lib.hid hb;have Hr:=Lib.hid (Co.Z2t ha hb);clear ha hb
 go_enter Tryz.func165,Tryz.ntmps165
 go_wp2_with fail
 refine (Zf7 a true Ha.out w).mono ?_;rintro e w1 ⟨rfl,rfl⟩
 go_wp2_with fail
 refine (Zf7 b true Hb.out w).mono ?_;rintro e w1 ⟨rfl,rfl⟩
 go_wp2_with fail
 go_ret;exact⟨Za8 Hr.out,rfl⟩
def subR (a b:Int):Bool:=Co.good a && Co.good b && Co.sub a b 5
end Go.Proofs.YtlohljkfphljgaaGreat
