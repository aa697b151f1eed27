/- SizeOf, IsSubset, Union, Overlap on both sides: what each returns; the world is as it was. -/
import Derived.Test.YtpjnjidbdpfdcaaGreatCoA
namespace Go.Proofs.YtpjnjidbdpfdcaaGreat
open Go.RowKit
theorem Zet (n:Int) (h0:0≤n) (h1:n≤31) (w:World):Calls Tryz.prog 104 #[.int .u64 n] w fun e w'=>e=.returned (.int .i64 (Co.size n 5))/\w=w':=by
 obtain⟨m,hm⟩:∃m:Fin 32,n=(m.val:Int):=⟨⟨n.toNat,by omega⟩,by show n=((n.toNat:Nat):Int);omega⟩;have Hm:=Lib.hid hm;clear hm
 go_enter Tryz.func104,Tryz.ntmps104
 go_wp2_with fail
 go_ret;refine⟨Zcd ?_,rfl⟩;rw[Hm.out];clear Hm h0 h1 n;revert m
 decide +kernel
theorem Zf2 (n:Int) (h0:0≤n) (h1:n≤31) (w:World):Calls Tryz.prog 99 #[.int .u64 n] w fun e w'=>e=.returned (.int .i64 (Co.size n 5))/\w=w':=by
 go_enter Tryz.func99,Tryz.ntmps99
 go_wp2_with fail
 refine (Zet n h0 h1 w).mono ?_;rintro e w1 ⟨rfl,rfl⟩
 go_wp2_with fail
 go_ret;exact⟨rfl,rfl⟩
theorem Ziz (s:Int) (w:World):Calls Tryz.prog 88 #[.int .i64 s] w fun e w'=>e=.returned (.int .i64 (Co.size s 5))/\w=w':=by
 by_cases h:s<0
 ·have Hr:=Lib.hid (Co.Zkh h 5)
  go_enter Tryz.func88,Tryz.ntmps88
  go_wp2_with fail
  go_ret;exact⟨Zcd Hr.out.symm,rfl⟩
 ·have hb:decide (s<0)=false:=by rw[decide_eq_false_iff_not];exact h
  have Hr:=Lib.hid (Co.Zn4 (show 0≤s by omega));have Ha:=Lib.hid (Co.Zp9 s);have hm0:0≤s % 32:=by omega
  have hm1:s % 32≤31:=by omega
  have hq:bits .and .i64 s 31=s % 32:=Co.Zp9 s
  go_enter Tryz.func88,Tryz.ntmps88
  go_wp2_with fail
  refine (Zf2 _ hm0 hm1 w).mono ?_;rintro e w1 ⟨rfl,rfl⟩
  go_wp2_with fail
  go_ret;exact⟨Zcd Hr.out,rfl⟩
theorem Zhv (a b:Int) (ha:Co.good a=true) (hb:Co.good b=true) (w:World):Calls Tryz.prog 89 #[.int .i64 a,.int .i64 b] w fun e w'=>e=.returned (.int .i64 (Co.ovl a b 5))/\w=w':=by
 have Ha:=Lib.hid ha;have Hb:=Lib.hid hb;have Hr:=Lib.hid (Co.Zqp ha hb);clear ha hb
 go_enter Tryz.func89,Tryz.ntmps89
 go_wp2_with fail
 refine (Za5 a true Ha.out w).mono ?_;rintro e w1 ⟨rfl,rfl⟩
 go_wp2_with fail
 refine (Za5 b true Hb.out w).mono ?_;rintro e w1 ⟨rfl,rfl⟩
 go_wp2_with fail
 go_ret;exact⟨Zcd Hr.out,rfl⟩
def subR (a b:Int):Bool:=Co.good a && Co.good b && Co.sub a b 5
end Go.Proofs.YtpjnjidbdpfdcaaGreat
