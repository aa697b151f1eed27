/- CountCoalitions, HasPlayer, SizeOf, IsSubset, Union, Overlap on both sides: what each returns; the world is as it was. -/
import Derived.Test.YtpjnjidbdpfdcaaGreatChecked
import Derived.Test.YtpjnjidbdpfdcaaGreatGM
import Derived.Handy
import Derived.LoopTactic
import Derived.Outline
import Derived.Lib.Hide
import Derived.WalkSpells
import Derived.WalkLawsBesides
import Derived.IntWalk
namespace Go.Proofs.YtpjnjidbdpfdcaaGreat
open Go.RowKit
theorem Zcd {k:IntKind} {a b:Int} (h:a=b):Ending.returned (.int k a)=.returned (.int k b):=by rw[h]
theorem Zac {a b:Bool} (h:a=b):Ending.returned (.bool a)=.returned (.bool b):=by rw[h]
theorem Zap (x a b:Int) (r:Bool) (h:decide (a≤x/\x≤b)=r) (w:World):Calls Tryz.prog 46 #[.int .i64 x,.int .i64 a,.int .i64 b] w fun e w'=>e=.returned (.bool r)/\w=w':=by
 by_cases h1:a≤x
 ·have hb1:decide (a≤x)=true:=by rw[decide_eq_true_iff];exact h1
  have H:=Lib.hid (show decide (x≤b)=r by rw[<-h];simp[h1]);clear h
  go_enter Tryz.func46,Tryz.ntmps46
  go_wp2_with fail
  go_ret;exact⟨Zac H.out,rfl⟩
 ·have hb1:decide (a≤x)=false:=by rw[decide_eq_false_iff_not];exact h1
  have H:=Lib.hid (show false=r by rw[<-h];simp[h1]);clear h
  go_enter Tryz.func46,Tryz.ntmps46
  go_wp2_with fail
  go_ret;exact⟨Zac H.out,rfl⟩
theorem Zdo (s:Int) (b:Bool) (h:Co.good s=b) (w:World):Calls Tryz.prog 97 #[.int .i64 s] w fun e w'=>e=.returned (.bool b)/\w=w':=by
 have H:=Lib.hid h;clear h
 go_enter Tryz.func97,Tryz.ntmps97
 go_wp2_with fail
 refine (Zap s 0 31 b H.out w).mono ?_;rintro e w1 ⟨rfl,rfl⟩
 go_wp2_with fail
 go_ret;exact⟨rfl,rfl⟩
theorem Za5 (s:Int) (b:Bool) (h:Co.good s=b) (w:World):Calls Tryz.prog 86 #[.int .i64 s] w fun e w'=>e=.returned (.bool b)/\w=w':=by
 have H:=Lib.hid h;clear h
 by_cases h1:0≤s
 ·have hb1:decide (0≤s)=true:=by rw[decide_eq_true_iff];exact h1
  have H2:Hid (decide (s≤31)=b):=by show _=_;rw[<-H.out];unfold Co.good;simp[h1]
  go_enter Tryz.func86,Tryz.ntmps86
  go_wp2_with fail
  go_ret;exact⟨Zac H2.out,rfl⟩
 ·have hb1:decide (0≤s)=false:=by rw[decide_eq_false_iff_not];exact h1
  have H2:Hid (false=b):=by show _=_;rw[<-H.out];unfold Co.good;simp[h1]
  go_enter Tryz.func86,Tryz.ntmps86
  go_wp2_with fail
  go_ret;exact⟨Zac H2.out,rfl⟩
theorem Zc9 (s:Int) (k:Nat) (hk:k<5) (b:Bool) (h:Co.has s k=b) (w:World):Calls Tryz.prog 98 #[.int .i64 s,.int .i64 k] w fun e w'=>e=.returned (.bool b)/\w=w':=by
 have H:=Lib.hid h;clear h
 by_cases h1:0≤s
 ·have hb1:decide (0≤s)=true:=by rw[decide_eq_true_iff];exact h1
  have H2:Hid ((bits .and .i64 (s / 2 ^ k) 1 == 1)=b):=by show _=_;rw[<-H.out,Co.Zg3 h1,Co.and1]
  go_enter Tryz.func98,Tryz.ntmps98
  go_wp2_with fail
  go_ret;exact⟨Zac H2.out,rfl⟩
 ·have hb1:decide (0≤s)=false:=by rw[decide_eq_false_iff_not];exact h1
  have H2:Hid (false=b):=by show _=_;rw[<-H.out,Co.Ziw (by omega)]
  go_enter Tryz.func98,Tryz.ntmps98
  go_wp2_with fail
  go_ret;exact⟨Zac H2.out,rfl⟩
theorem Zbz (n:Nat) (hn:n≤5) (w:World):Calls Tryz.prog 47 #[.int .i64 n] w fun e w'=>e=.returned (.int .i64 ((2 ^ n:Nat):Int))/\w=w':=by
 have hd:decide ((0:Int)≤(n:Int)/\(n:Int)≤5)=true:=by rw[decide_eq_true_iff];omega
 have Hd:=Lib.hid hd;clear hd
 go_enter Tryz.func47,Tryz.ntmps47
 go_wp2_with fail
 refine (Zap n 0 5 true Hd.out w).mono ?_;rintro e w1 ⟨rfl,rfl⟩
 go_wp2_with fail
 go_loop [3,4] (fun o i=>∃k p:Nat,k≤n/\p≤32/\Hid (p=2 ^ k)/\i=.int .i64 k/\o=.int .i64 p) (fun _ i=>n-(intOf i).toNat)
 case atStart=>exact⟨0,1,Nat.zero_le _,by omega,rfl,rfl,rfl⟩
 case round=>
  obtain⟨k,p,hk,hp,hP,rfl,rfl⟩:=hrel
  by_cases hlt:k<n
  ·have hp2:p*2≤32:=by
    have h1:2 ^ k≤2 ^ 4:=Nat.pow_le_pow_right (by decide) (by omega);rw[<-hP.out] at h1;omega
   have hP2:Hid (p*2=2 ^ (k+1)):=by show _=_;rw[hP.out,Nat.pow_succ]
   go_wp2_with fail
   go_round
   case rel=>exact⟨k+1,p*2,by omega,hp2,hP2,by go_num,by go_num⟩
   case measure=>simp[intOf];omega
  ·have he:k=n:=by omega
   have hf:Hid (p=2 ^ n):=by show _=_;rw[hP.out,he]
   clear he
   go_wp2_with fail
   go_ret;exact⟨Zcd (by rw[hf.out];simp),rfl⟩
theorem Zby (n:Nat) (hn:n≤5) (w:World):Calls Tryz.prog 73 #[.int .i64 n] w fun e w'=>e=.returned (.int .i64 ((2 ^ n:Nat):Int))/\w=w':=by
 have h:n=0\/n=1\/n=2\/n=3\/n=4\/n=5:=by omega
 clear hn
 rcases h with rfl|rfl|rfl|rfl|rfl|rfl
 all_goals
  go_enter Tryz.func73,Tryz.ntmps73
  go_wp2_with fail
  go_ret;exact⟨rfl,rfl⟩
theorem Zk7 (k:Nat) (hk:k≤5) (w:World):Calls Tryz.prog 48 #[.int .i64 k] w fun e w'=>e=.returned (.int .i64 ((2 ^ k:Nat):Int))/\w=w':=by
 go_enter Tryz.func48,Tryz.ntmps48
 go_wp2_with fail
 refine (Zbz k hk w).mono ?_;rintro e w1 ⟨rfl,rfl⟩
 go_wp2_with fail
 go_ret;exact⟨rfl,rfl⟩
theorem Zce (s:Int) (hs:s≤9223372036854775807) (k:Nat) (hk:k<5) (b:Bool) (h:Co.has s k=b) (w:World):Calls Tryz.prog 31 #[.int .i64 s,.int .i64 k] w fun e w'=>e=.returned (.bool b)/\w=w':=by
 have H:=Lib.hid h;have Hd:=Lib.hid (show decide ((0:Int)≤(k:Int)/\(k:Int)≤4)=true by rw[decide_eq_true_iff];omega);clear h
 by_cases h1:0≤s
 ·have hb1:decide (0≤s)=true:=by rw[decide_eq_true_iff];exact h1
  have hp:2 ^ k=1\/2 ^ k=2\/2 ^ k=4\/2 ^ k=8\/2 ^ k=16:=by
   have hk':k=0\/k=1\/k=2\/k=3\/k=4:=by omega
   rcases hk' with rfl|rfl|rfl|rfl|rfl<;>decide
  obtain⟨P,hP⟩:∃P:Nat,P=2 ^ k:=⟨_,rfl⟩;rw[<-hP] at hp;have H2:Hid ((s / (P:Int) % 2 == 1)=b):=by show _=_;rw[<-H.out,Co.Zg3 h1,hP];simp
  have HP:=Lib.hid hP;clear hP
  rcases hp with rfl|rfl|rfl|rfl|rfl
  all_goals
   go_enter Tryz.func31,Tryz.ntmps31
   go_wp2_with fail
   refine (Zap k 0 4 true Hd.out w).mono ?_;rintro e w1 ⟨rfl,rfl⟩
   go_wp2_with fail
   refine (Zk7 k (by omega) w).mono ?_;rw[<-HP.out];rintro e w1 ⟨rfl,rfl⟩
   go_wp2_with fail
   go_ret;exact⟨Zac (by first|exact H2.out|simpa using H2.out),rfl⟩
 ·have hb1:decide (0≤s)=false:=by rw[decide_eq_false_iff_not];exact h1
  have H2:Hid (false=b):=by show _=_;rw[<-H.out,Co.Ziw (by omega)]
  go_enter Tryz.func31,Tryz.ntmps31
  go_wp2_with fail
  refine (Zap k 0 4 true Hd.out w).mono ?_;rintro e w1 ⟨rfl,rfl⟩
  go_wp2_with fail
  go_ret;exact⟨Zac H2.out,rfl⟩
end Go.Proofs.YtpjnjidbdpfdcaaGreat
