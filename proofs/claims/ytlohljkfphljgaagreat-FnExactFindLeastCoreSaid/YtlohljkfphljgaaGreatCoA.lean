/- CountCoalitions, HasPlayer, SizeOf, IsSubset, Union, Overlap on both sides: what each returns; the world is as it was. -/
import Derived.Test.YtlohljkfphljgaaGreatChecked
import Derived.Test.YtlohljkfphljgaaGreatGM
import Derived.Handy
import Derived.LoopTactic
import Derived.Outline
import Derived.Lib.Hide
import Derived.WalkSpells
import Derived.WalkLawsBesides
import Derived.IntWalk
namespace Go.Proofs.YtlohljkfphljgaaGreat
open Go.RowKit
theorem Za8 {k:IntKind} {a b:Int} (h:a=b):Ending.returned (.int k a)=.returned (.int k b):=by rw[h]
theorem Zae {a b:Bool} (h:a=b):Ending.returned (.bool a)=.returned (.bool b):=by rw[h]
theorem Za0 (x a b:Int) (r:Bool) (h:decide (a≤x/\x≤b)=r) (w:World):Calls Tryz.prog 76 #[.int .i64 x,.int .i64 a,.int .i64 b] w fun e w'=>e=.returned (.bool r)/\w=w':=by
 by_cases h1:a≤x
 ·have hb1:decide (a≤x)=true:=by rw[decide_eq_true_iff];exact h1
  have H:=Lib.hid (show decide (x≤b)=r by rw[<-h];simp[h1]);clear h
  go_enter Tryz.func76,Tryz.ntmps76
  go_wp2_with fail
  go_ret;exact⟨Zae H.out,rfl⟩
 ·have hb1:decide (a≤x)=false:=by rw[decide_eq_false_iff_not];exact h1
  have H:=Lib.hid (show false=r by rw[<-h];simp[h1]);clear h
  go_enter Tryz.func76,Tryz.ntmps76
  go_wp2_with fail
  go_ret;exact⟨Zae H.out,rfl⟩
theorem Zf7 (s:Int) (b:Bool) (h:Co.good s=b) (w:World):Calls Tryz.prog 197 #[.int .i64 s] w fun e w'=>e=.returned (.bool b)/\w=w':=by
 have H:=Lib.hid h;clear h
 by_cases h1:0≤s
 ·have hb1:decide (0≤s)=true:=by rw[decide_eq_true_iff];exact h1
  have H2:Hid (decide (s≤31)=b):=by show _=_;rw[<-H.out];unfold Co.good;simp[h1]
  go_enter Tryz.func197,Tryz.ntmps197
  go_wp2_with fail
  go_ret;exact⟨Zae H2.out,rfl⟩
 ·have hb1:decide (0≤s)=false:=by rw[decide_eq_false_iff_not];exact h1
  have H2:Hid (false=b):=by show _=_;rw[<-H.out];unfold Co.good;simp[h1]
  go_enter Tryz.func197,Tryz.ntmps197
  go_wp2_with fail
  go_ret;exact⟨Zae H2.out,rfl⟩
theorem Zei (n:Nat) (hn:n≤5) (w:World):Calls Tryz.prog 109 #[.int .i64 n] w fun e w'=>e=.returned (.int .i64 ((2 ^ n:Nat):Int))/\w=w':=by
 have hd:decide ((0:Int)≤(n:Int)/\(n:Int)≤5)=true:=by rw[decide_eq_true_iff];omega
 have Hd:=Lib.hid hd;clear hd
 go_enter Tryz.func109,Tryz.ntmps109
 go_wp2_with fail
 refine (Za0 n 0 5 true Hd.out w).mono ?_;rintro e w1 ⟨rfl,rfl⟩
 go_wp2_with fail
 go_loop [3,4] (fun o i=>∃k p:Nat,k≤n/\p≤32/\Hid (p=2 ^ k)/\i=.int .i64 k/\o=.int .i64 p) (fun _ i=>n-(intOf i).toNat)
 case atStart=>exact⟨0,1,Nat.zero_le _,by omega,rfl,rfl,rfl⟩
 case round=>
  obtain⟨k,p,hk,hp,hP,rfl,rfl⟩:=hrel
  by_cases hlt:k<n
  ·have hp2:p*2≤32:=by
    have h1:2 ^ k≤2 ^ 4:=Nat.pow_le_pow_right (by decide) (by omega);rw[<-hP.out] at h1;omega
   have hP2:Hid (p*2=2 ^ (k+1)):=by show _=_;rw[hP.out,Nat.pow_succ]
   go_wp2_with fail
   go_round
   case rel=>exact⟨k+1,p*2,by omega,hp2,hP2,by go_num,by go_num⟩
   case measure=>simp[intOf];omega
  ·have he:k=n:=by omega
   have hf:Hid (p=2 ^ n):=by show _=_;rw[hP.out,he]
   clear he
   go_wp2_with fail
   go_ret;exact⟨Za8 (by rw[hf.out];simp),rfl⟩
theorem Zeh (n:Nat) (hn:n≤5) (w:World):Calls Tryz.prog 107 #[.int .i64 n] w fun e w'=>e=.returned (.int .i64 ((2 ^ n:Nat):Int))/\w=w':=by
 have h:n=0\/n=1\/n=2\/n=3\/n=4\/n=5:=by omega
 clear hn
 rcases h with rfl|rfl|rfl|rfl|rfl|rfl
 all_goals
  go_enter Tryz.func107,Tryz.ntmps107
  go_wp2_with fail
  go_ret;exact⟨rfl,rfl⟩
theorem Zul (k:Nat) (hk:k≤5) (w:World):Calls Tryz.prog 166 #[.int .i64 k] w fun e w'=>e=.returned (.int .i64 ((2 ^ k:Nat):Int))/\w=w':=by
 go_enter Tryz.func166,Tryz.ntmps166
 go_wp2_with fail
 refine (Zei k hk w).mono ?_;rintro e w1 ⟨rfl,rfl⟩
 go_wp2_with fail
 go_ret;exact⟨rfl,rfl⟩
theorem Zmn (s:Int) (hs:s≤9223372036854775807) (k:Nat) (hk:k<5) (b:Bool) (h:Co.has s k=b) (w:World):Calls Tryz.prog 100 #[.int .i64 s,.int .i64 k] w fun e w'=>e=.returned (.bool b)/\w=w':=by
 have H:=Lib.hid h;have Hd:=Lib.hid (show decide ((0:Int)≤(k:Int)/\(k:Int)≤4)=true by rw[decide_eq_true_iff];omega);clear h
 by_cases h1:0≤s
 ·have hb1:decide (0≤s)=true:=by rw[decide_eq_true_iff];exact h1
  have hp:2 ^ k=1\/2 ^ k=2\/2 ^ k=4\/2 ^ k=8\/2 ^ k=16:=by
   have hk':k=0\/k=1\/k=2\/k=3\/k=4:=by omega
   rcases hk' with rfl|rfl|rfl|rfl|rfl<;>decide
  obtain⟨P,hP⟩:∃P:Nat,P=2 ^ k:=⟨_,rfl⟩;rw[<-hP] at hp;have H2:Hid ((s / (P:Int) % 2 == 1)=b):=by show _=_;rw[<-H.out,Co.Zq6 h1,hP];simp
  have HP:=Lib.hid hP;clear hP
  rcases hp with rfl|rfl|rfl|rfl|rfl
  all_goals
   go_enter Tryz.func100,Tryz.ntmps100
   go_wp2_with fail
   refine (Za0 k 0 4 true Hd.out w).mono ?_;rintro e w1 ⟨rfl,rfl⟩
   go_wp2_with fail
   refine (Zul k (by omega) w).mono ?_;rw[<-HP.out];rintro e w1 ⟨rfl,rfl⟩
   go_wp2_with fail
   go_ret;exact⟨Zae (by first|exact H2.out|simpa using H2.out),rfl⟩
 ·have hb1:decide (0≤s)=false:=by rw[decide_eq_false_iff_not];exact h1
  have H2:Hid (false=b):=by show _=_;rw[<-H.out,Co.Zvh (by omega)]
  go_enter Tryz.func100,Tryz.ntmps100
  go_wp2_with fail
  refine (Za0 k 0 4 true Hd.out w).mono ?_;rintro e w1 ⟨rfl,rfl⟩
  go_wp2_with fail
  go_ret;exact⟨Zae H2.out,rfl⟩
end Go.Proofs.YtlohljkfphljgaaGreat
