/- The parts PyB, TaZs, GmC, CoB. -/
import Derived.Test.YtjfnleilddgjiaaGreatHPyA
import Derived.Test.YtjfnleilddgjiaaGreatGVc
import Derived.Test.YtjfnleilddgjiaaGreatHGrI
import Derived.Test.YtjfnleilddgjiaaGreatGRa
import Derived.Test.YtjfnleilddgjiaaGreatGTo
import Derived.Test.YtjfnleilddgjiaaGreatGTa
import Derived.Test.YtjfnleilddgjiaaGreatHGmB
import Derived.Test.YtjfnleilddgjiaaGreatHHeldT
import Derived.StillTailTactics
import Derived.Test.YtjfnleilddgjiaaGreatCoA
namespace Go.Proofs.YtjfnleilddgjiaaGreat
open Go.RowKit
open Ve (R)
open Ta (T)
def Zkr (lo hi:Nat) (w:World) (v:Value) (t:T):Prop:=hi≤w.heap.size/\∃w0:World,w0.heap.size=hi/\Zgb lo w0 v t/\∀k,lo≤k->k<hi->w.heap[k]? = w0.heap[k]?
theorem Zkr.rg {lo hi:Nat} {w:World} {v:Value} {t:T} (h:Zkr lo hi w v t):Rg (fun w'=>Zkr lo hi w' v t) lo hi w:=by
 obtain⟨h1,w0,e,ho,hk⟩:=h;exact⟨⟨h1,w0,e,ho,hk⟩,h1,fun w' hs hk2=>⟨Nat.le_trans h1 hs,w0,e,ho,fun k a b=>(hk2 k a b).trans (hk k a b)⟩⟩
theorem Zkr.new {lo:Nat} {w:World} {v:Value} {t:T} (h:Zgb lo w v t):Zkr lo w.heap.size w v t:=⟨Nat.le_refl _,w,rfl,h,fun _ _ _=>rfl⟩
theorem Zkr.Zdx {lo hi:Nat} {w:World} {x y z:Value} {t:T} (h:Zkr lo hi w (.agg #[x,y,z]) t):TabC w x y z t:=by
 obtain⟨h1,w0,rfl,⟨vR,vB,e,hR,hB⟩,hk⟩:=h;injection e with e
 have e1:x=vR:=by have:=congrArg (fun q=>q[0]?) e;simpa using this
 have e2:y=vB:=by have:=congrArg (fun q=>q[1]?) e;simpa using this
 have e3:z=.int .i64 t.cols:=by have:=congrArg (fun q=>q[2]?) e;simpa using this
 subst e1 e2 e3;obtain⟨a,c1,e1,hr,_⟩:=(hR.high hk).reads;obtain⟨b,c2,e2,hb,pb,_⟩:=Zax (hB.high hk);exact⟨a,b,c1,c2,e1,e2,rfl,hr,Zas.Zbv hb fun p hp=>(pb p hp).2⟩
open Gm (G)
def Z4f (r:G×Bool) (w:World) (e:Ending) (w':World):Prop:=(∃x y:Value,e=.returned (.tuple #[.agg #[x,y],.bool r.2])/\Zh1 w.heap.size w'.heap.size w' (.agg #[x,y]) r.1)/\Below w.heap.size w w'
theorem Zh1.zero (lo:Nat) (w:World):Zh1 lo w.heap.size w (.agg #[.int .i64 0,.slice none 0 0]) Gm.G0:=⟨_,rfl,⟨none,0,rfl,fun h=>absurd rfl h⟩,Nat.le_refl _⟩
theorem GmC.Zhg {B:Nat} {w:World} {a:Option Addr} {n c:Nat} {g:G} (h:Zae B w (.slice a n c) g.v):GmC w (.int .i64 g.n) (.slice a n c) g:=by
 obtain⟨a',c',e,hr,ha,_⟩:=Zax h;injection e with e1 e2 e3
 subst e1 e2 e3;exact⟨_,_,rfl,rfl,Zas.Zbv hr fun p hp=>(ha p hp).2⟩
theorem Zjx (n:Int) (h0:0≤n) (h1:n≤31) (w:World):Calls Tryz.prog 185 #[.int .u64 n] w fun e w'=>e=.returned (.int .i64 (Co.size n 5))/\w=w':=by
 obtain⟨m,hm⟩:∃m:Fin 32,n=(m.val:Int):=⟨⟨n.toNat,by omega⟩,by show n=((n.toNat:Nat):Int);omega⟩;have Hm:=zH hm;clear hm
 go_enter Tryz.func185,Tryz.ntmps185
 go_wp2_with fail
 go_ret;refine⟨Zbf ?_,rfl⟩;rw[Hm.out];clear Hm h0 h1 n;revert m
 decide +kernel
theorem Zmr (n:Int) (h0:0≤n) (h1:n≤31) (w:World):Calls Tryz.prog 161 #[.int .u64 n] w fun e w'=>e=.returned (.int .i64 (Co.size n 5))/\w=w':=by
 go_enter Tryz.func161,Tryz.ntmps161
 go_wp2_with fail
 refine (Zjx n h0 h1 w).mono ?_;rintro e w1 ⟨rfl,rfl⟩
 go_wp2_with fail
 go_ret;exact⟨rfl,rfl⟩
theorem Zrs (s:Int) (w:World):Calls Tryz.prog 116 #[.int .i64 s] w fun e w'=>e=.returned (.int .i64 (Co.size s 5))/\w=w':=by
 by_cases h:s<0
 ·have Hr:=zH (Co.Ztq h 5)
  go_enter Tryz.func116,Tryz.ntmps116
  go_wp2_with fail
  go_ret;exact⟨Zbf Hr.out.symm,rfl⟩
 ·have hb:decide (s<0)=false:=by rw[decide_eq_false_iff_not];exact h
  have Hr:=zH (Co.Zz2 (show 0≤s by omega));have Ha:=zH (Co.Z23 s);have hm0:0≤s % 32:=by omega
  have hm1:s % 32≤31:=by omega
  have hq:bits .and .i64 s 31=s % 32:=Co.Z23 s
  go_enter Tryz.func116,Tryz.ntmps116
  go_wp2_with fail
  refine (Zmr _ hm0 hm1 w).mono ?_;rintro e w1 ⟨rfl,rfl⟩
  go_wp2_with fail
  go_ret;exact⟨Zbf Hr.out,rfl⟩
theorem Ze8 (s:Int) (hs:s≤9223372036854775807) (w:World):Calls Tryz.prog 121 #[.int .i64 s] w fun e w'=>e=.returned (.int .i64 (Co.size s 5))/\w=w':=by
 go_enter Tryz.func121,Tryz.ntmps121
 go_wp2_with fail
 go_loop [3,4] (fun o i=>∃(k:Nat) (n:Int),k≤5/\0≤n/\n≤5/\Hid (n=Co.size s k)/\i=.int .i64 k/\o=.int .i64 n) (fun _ i=>5-(intOf i).toNat)
 case atStart=>exact⟨0,0,Nat.zero_le _,by omega,by omega,rfl,rfl,rfl⟩
 case round=>
  obtain⟨k,n,hk,hn0,hn1,hN,rfl,rfl⟩:=hrel
  by_cases hlt:k<5
  ·rcases hh:Co.has s k with _|_
   ·have hN2:=zH (show n=Co.size s (k+1) by rw[hN.out,Co.Zxu hh])
    have Hh:=zH hh;clear hh
    go_wp2_with fail
    refine (Zbx s hs k hlt false Hh.out w).mono ?_;rintro e w1 ⟨rfl,rfl⟩
    go_wp2_with fail
    go_round
    case rel=>exact⟨k+1,n,by omega,hn0,hn1,hN2,by go_num,rfl⟩
    case measure=>simp[intOf];omega
   ·have hN2:=zH (show n+1=Co.size s (k+1) by rw[hN.out,Co.Zz3 hh])
    have hn2:n+1≤5:=by rw[hN2.out];have:=(Co.Zr9 s (k+1)).2;omega
    have Hh:=zH hh;clear hh
    go_wp2_with fail
    refine (Zbx s hs k hlt true Hh.out w).mono ?_;rintro e w1 ⟨rfl,rfl⟩
    go_wp2_with fail
    go_round
    case rel=>exact⟨k+1,n+1,by omega,by omega,hn2,hN2,by go_num,rfl⟩
    case measure=>simp[intOf];omega
  ·have he:k=5:=by omega
   have hf:Hid (n=Co.size s 5):=by show _=_;rw[hN.out,he]
   clear he
   go_wp2_with fail
   go_ret;exact⟨Zbf hf.out,rfl⟩
theorem Zpx (a b:Int) (ha:Co.good a=true) (hb:Co.good b=true) (w:World):Calls Tryz.prog 117 #[.int .i64 a,.int .i64 b] w fun e w'=>e=.returned (.int .i64 (Co.ovl a b 5))/\w=w':=by
 have Ha:=zH ha;have Hb:=zH hb;have Hr:=zH (Co.Z3m ha hb);clear ha hb
 go_enter Tryz.func117,Tryz.ntmps117
 go_wp2_with fail
 refine (Zge a true Ha.out w).mono ?_;rintro e w1 ⟨rfl,rfl⟩
 go_wp2_with fail
 refine (Zge b true Hb.out w).mono ?_;rintro e w1 ⟨rfl,rfl⟩
 go_wp2_with fail
 go_ret;exact⟨Zbf Hr.out,rfl⟩
def subR (a b:Int):Bool:=Co.good a && Co.good b && Co.sub a b 5
end Go.Proofs.YtjfnleilddgjiaaGreat
