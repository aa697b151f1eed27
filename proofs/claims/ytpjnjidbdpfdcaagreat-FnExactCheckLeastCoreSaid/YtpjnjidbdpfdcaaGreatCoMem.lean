/- MembersOf on both sides. -/
import Derived.Test.YtpjnjidbdpfdcaaGreatGB
import Derived.Test.YtpjnjidbdpfdcaaGreatCoA
import Derived.Test.YtpjnjidbdpfdcaaGreatCoM2
set_option maxRecDepth 100000
set_option maxHeartbeats 1000000
namespace Go.Proofs.YtpjnjidbdpfdcaaGreat
open Go.RowKit
def memR (s:Int):List Int:=if Co.good s then Co.mem s 5 else []
theorem Zf4 (s:Int) (w:World):Calls Tryz.prog 87 #[.int .i64 s] w (Ze7 (memR s) w):=by
 rcases hg:Co.good s with _|_
 ·have Hr:=Lib.hid (show memR s = [] by unfold memR;rw[hg];rfl)
  have Hg:=Lib.hid hg;clear hg;rw[Hr.out]
  go_enter Tryz.func87,Tryz.ntmps87
  go_wp2_with fail
  refine (Za5 s false Hg.out w).mono ?_;rintro e w1 ⟨rfl,rfl⟩
  go_wp2_with fail
  go_ret;exact⟨_,rfl,Zab.nil _ _,Below.refl _ _⟩
 ·have Hr:=Lib.hid (show memR s=Co.mem s 5 by unfold memR;rw[hg];rfl)
  have Hg:=Lib.hid hg;clear hg;rw[Hr.out];obtain⟨i0,hi,hz0,hz1,hz2⟩:=info_parts Zb9;have HI:=Lib.hid hi;have HZ0:=Lib.hid hz0;have HZ1:=Lib.hid hz1;have HZ2:=Lib.hid hz2;clear hi hz0 hz1 hz2
  go_enter Tryz.func87,Tryz.ntmps87
  go_wp2_with fail
  refine (Za5 s true Hg.out w).mono ?_;rintro e w1 ⟨rfl,rfl⟩
  go_wp2_with fail
  go_loopw [3,4,8] (fun v _ i wr=>∃(k:Nat),k≤5/\i=.int .i64 k/\Hid (Zab w.heap.size wr v (Co.mem s k))/\Hid (Below w.heap.size w wr)) (fun _ _ i _=>5-(intOf i).toNat)
  case atStart=>exact⟨0,Nat.zero_le _,rfl,Zab.nil _ _,Below.refl _ _⟩
  case round=>
   obtain⟨k,hk,rfl,hO,hB⟩:=hrel
   by_cases hlt:k<5
   ·rcases hh:Co.has s k with _|_
    ·have He:=Lib.hid (Co.Zon hh)
     have Hh:=Lib.hid hh;clear hh
     go_wp2_with fail
     refine (Zc9 s k hlt false Hh.out wr).mono ?_;rintro e w1 ⟨rfl,rfl⟩
     go_wp2_with fail
     go_roundw
     case rel=>exact⟨k+1,by omega,by go_num,by rw[He.out];exact hO,hB⟩
     case measure=>simp[intOf];omega
    ·have He:=Lib.hid (Co.Zmb hh)
     have Hh:=Lib.hid hh;have hsz:=hB.out.size;have hlen:=Co.Zfn s k;have Hown:=Lib.hid (World.ownsRow.alloc hO.out (.cells #[.int .i64 k] 3));clear hh;generalize Co.mem s k=xs at *
     go_wp2_with fail
     refine (Zc9 s k hlt true Hh.out wr).mono ?_;rintro e w1 ⟨rfl,rfl⟩
     go_wp2_with (at_builtin;refine wpList_append_own _ rfl _ _ 22 rfl w.heap.size 3 i0 (.int .i64 0) 1 8 Tryz.underlying22 HI.out HZ0.out HZ1.out HZ2.out rfl (by decide) _ _ _ rfl Hown.out ⟨wr.heap.size,0,none⟩ 1 1 [.int .i64 k] rfl rfl ?c1 ?c2 ?c3 ?c4 ?c5 ?_)
     case c1=>
      intro j u hj
      match j,hj with
      | 0,hj=>simp at hj;subst hj;simp[Addr.add]
     case c2=>intro u hu;simp at hu;subst hu;rfl
     case c3=>unfold maxLen;omega
     case c4=>omega
     case c5=>simp;omega
     intro v' w1 hown' hgrow _;have Ho1:=Lib.hid (Zab.more hown');have Hb1:=Lib.hid ((hB.out.alloc hsz _).grown hgrow (by simp;omega) (fun g hg=>(Hown.out.lt g hg).1));rw[<-He.out] at Ho1;clear hown' hgrow
     go_wp2_with fail
     go_roundw
     case rel=>exact⟨k+1,by omega,by go_num,Ho1,Hb1⟩
     case measure=>simp[intOf];omega
   ·have he:k=5:=by omega
    subst he
    go_wp2_with fail
    go_ret;exact⟨_,rfl,hO,hB⟩
theorem Zga (s:Int) (w:World):Calls Tryz.prog 85 #[.int .i64 s] w (Ze7 (memR s) w):=by
 rcases hg:Co.good s with _|_
 ·have Hr:=Lib.hid (show memR s = [] by unfold memR;rw[hg];rfl)
  have Hg:=Lib.hid hg;clear hg;rw[Hr.out]
  go_enter Tryz.func85,Tryz.ntmps85
  go_wp2_with fail
  go_loop [3,4] (fun v i=>v=.slice (some ⟨w.heap.size,0,none⟩) 0 0/\i=.int .i64 0) (fun _ i=>5-(intOf i).toNat)
  case atStart=>exact⟨rfl,rfl⟩
  case round=>
   obtain⟨rfl,rfl⟩:=hrel
   go_wp2_with fail
   refine (Zdo s false Hg.out _).mono ?_;rintro e w1 ⟨rfl,rfl⟩
   go_wp2_with fail
   go_ret;exact⟨_,rfl,World.ownsRow_made w #[] 0 (Nat.le_refl _) (Nat.zero_le _) rfl,(Below.refl _ _).alloc (Nat.le_refl _) _⟩
 ·have Hr:=Lib.hid (show memR s=Co.mem s 5 by unfold memR;rw[hg];rfl)
  have hs1:s≤9223372036854775807:=by have:=Co.Zg2 hg;omega
  have Hg:=Lib.hid hg;clear hg;rw[Hr.out];obtain⟨i0,hi,hz0,hz1,hz2⟩:=info_parts Zb9;have HI:=Lib.hid hi;have HZ0:=Lib.hid hz0;have HZ1:=Lib.hid hz1;have HZ2:=Lib.hid hz2;clear hi hz0 hz1 hz2
  go_enter Tryz.func85,Tryz.ntmps85
  go_wp2_with fail
  go_loopw [3,4] (fun v i wr=>∃(k:Nat),k≤5/\i=.int .i64 k/\Hid (Zab w.heap.size wr v (Co.mem s k))/\Hid (Below w.heap.size w wr)) (fun _ i _=>5-(intOf i).toNat)
  case atStart=>exact⟨0,Nat.zero_le _,rfl,World.ownsRow_made w #[] 0 (Nat.le_refl _) (Nat.zero_le _) rfl,(Below.refl _ _).alloc (Nat.le_refl _) _⟩
  case round=>
   obtain⟨k,hk,rfl,hO,hB⟩:=hrel
   by_cases hlt:k<5
   ·rcases hh:Co.has s k with _|_
    ·have He:=Lib.hid (Co.Zon hh)
     have Hh:=Lib.hid hh;clear hh
     go_wp2_with fail
     refine (Zdo s true Hg.out _).mono ?_;rintro e w1 ⟨rfl,rfl⟩
     go_wp2_with fail
     refine (Zce s hs1 k hlt false Hh.out wr).mono ?_;rintro e w1 ⟨rfl,rfl⟩
     go_wp2_with fail
     go_roundw
     case rel=>exact⟨k+1,by omega,by go_num,by rw[He.out];exact hO,hB⟩
     case measure=>simp[intOf];omega
    ·have He:=Lib.hid (Co.Zmb hh)
     have Hh:=Lib.hid hh;have hsz:=hB.out.size;have hlen:=Co.Zfn s k;have Hown:=Lib.hid (World.ownsRow.alloc hO.out (.cells #[.int .i64 k] 3));clear hh;generalize Co.mem s k=xs at *
     go_wp2_with fail
     refine (Zdo s true Hg.out _).mono ?_;rintro e w1 ⟨rfl,rfl⟩
     go_wp2_with fail
     refine (Zce s hs1 k hlt true Hh.out wr).mono ?_;rintro e w1 ⟨rfl,rfl⟩
     go_wp2_with (at_builtin;refine wpList_append_own _ rfl _ _ 22 rfl w.heap.size 3 i0 (.int .i64 0) 1 8 Tryz.underlying22 HI.out HZ0.out HZ1.out HZ2.out rfl (by decide) _ _ _ rfl Hown.out ⟨wr.heap.size,0,none⟩ 1 1 [.int .i64 k] rfl rfl ?c1 ?c2 ?c3 ?c4 ?c5 ?_)
     case c1=>
      intro j u hj
      match j,hj with
      | 0,hj=>simp at hj;subst hj;simp[Addr.add]
     case c2=>intro u hu;simp at hu;subst hu;rfl
     case c3=>unfold maxLen;omega
     case c4=>omega
     case c5=>simp;omega
     intro v' w1 hown' hgrow _;have Ho1:=Lib.hid (Zab.more hown');have Hb1:=Lib.hid ((hB.out.alloc hsz _).grown hgrow (by simp;omega) (fun g hg=>(Hown.out.lt g hg).1));rw[<-He.out] at Ho1;clear hown' hgrow
     go_wp2_with fail
     go_roundw
     case rel=>exact⟨k+1,by omega,by go_num,Ho1,Hb1⟩
     case measure=>simp[intOf];omega
   ·have he:k=5:=by omega
    subst he
    go_wp2_with fail
    go_ret;exact⟨_,rfl,hO,hB⟩
end Go.Proofs.YtpjnjidbdpfdcaaGreat
