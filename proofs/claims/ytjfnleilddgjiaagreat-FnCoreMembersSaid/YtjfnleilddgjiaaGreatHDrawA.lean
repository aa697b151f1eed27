/- The parts Onl, CoM2, CoMem, DrawA. -/
import Derived.Test.YtjfnleilddgjiaaGreatChecked
import Derived.Handy
import Derived.Below
import Derived.OwnWalk
import Derived.Deep.QuietTactic
import Derived.BigQuiet
import Derived.Laws.AppendOwn
import Derived.Test.YtjfnleilddgjiaaGreatGM
import Derived.Test.YtjfnleilddgjiaaGreatHHeldT
import Derived.Test.YtjfnleilddgjiaaGreatCoA
import Derived.OneCell
import Derived.LoopTactic
import Derived.Outline
import Derived.Lib.Hide
import Derived.WalkSpells
import Derived.WalkLawsBesides
import Derived.Deep.DeepCutAuto
set_option maxRecDepth 100000
set_option maxHeartbeats 1000000
namespace Go.Proofs.YtjfnleilddgjiaaGreat
open Go.RowKit
structure Only (p:Nat) (w w':World):Prop where
 low:Below p w w'
 high:∀k,p<k->k<w.heap.size->w'.heap[k]? = w.heap[k]?
theorem Only.refl (p:Nat) (w:World):Only p w w:=⟨Below.refl _ _,fun _ _ _=>rfl⟩
theorem Only.trans {p:Nat} {a b c:World} (h:Only p a b) (k:Only p b c):Only p a c:=
 ⟨h.low.trans k.low,fun j h1 h2=>by rw[k.high j h1 (Nat.lt_of_lt_of_le h2 h.low.size),h.high j h1 h2]⟩
theorem Only.setCell {p:Nat} {a w:World} (h:Only p a w) (o:Nat) (u:Value):Only p a (w.setCell ⟨p,o,none⟩ u):=
 ⟨h.low.setCell (p:=⟨p,o,none⟩) (Nat.le_refl _) u,fun j h1 h2=>by rw[Below.heap_setCell _ _ _ _ (show j≠p by omega)];exact h.high j h1 h2⟩
theorem Only.drew {p:Nat} {a w:World} (h:Only p a w):Only p a w.drew:=⟨h.low.drew,fun j h1 h2=>h.high j h1 h2⟩
theorem Only.drewN {p:Nat} {a w:World} (h:Only p a w) (n:Nat):Only p a (w.drewN n):=
 ⟨⟨h.low.os,h.low.tape,h.low.output,h.low.size,h.low.block⟩,fun j h1 h2=>h.high j h1 h2⟩
theorem Only.below {p B:Nat} {w w':World} (h:Only p w w') (hB:B≤p):Below B w w':=h.low.mono hB
theorem Only.block {p k:Nat} {w w':World} (h:Only p w w') (hk:k≠p) (hl:k<w.heap.size):w'.heap[k]? = w.heap[k]?:=by
 rcases Nat.lt_or_ge k p with h1|h1
 ·exact h.low.block k h1
 ·exact h.high k (by omega) hl
theorem Only.alloc {p:Nat} {a w:World} (h:Only p a w) (hp:p≤a.heap.size) (o:Obj):Only p a (w.alloc o):=
 ⟨h.low.alloc (Nat.le_trans hp h.low.size) o,fun j h1 h2=>by rw[Below.heap_alloc _ _ _ (Nat.lt_of_lt_of_le h2 h.low.size)];exact h.high j h1 h2⟩
theorem Only.Zbi {p k:Nat} {a w:World} (h:Only p a w) (hp:p≤a.heap.size) (hk:a.heap.size≤k) (o:Nat) (u:Value):Only p a (w.setCell ⟨k,o,none⟩ u):=
 ⟨h.low.setCell (p:=⟨k,o,none⟩) (Nat.le_trans hp hk) u,fun j h1 h2=>by rw[Below.heap_setCell _ _ _ _ (show j≠k by omega)];exact h.high j h1 h2⟩
theorem Only.grown {p:Nat} {a w w':World} {row:Option Nat} (h:Only p a w) (hp:p≤a.heap.size) (hg:w.grownBy w' row) (hr:∀g,row=some g->a.heap.size≤g):Only p a w':=
 ⟨h.low.grown hg (Nat.le_trans hp h.low.size) (fun g e=>Nat.le_trans hp (hr g e)),fun j h1 h2=>by
  rw[hg.block j (Nat.lt_of_lt_of_le h2 h.low.size) (fun e=>by have:=hr j e.symm;omega)];exact h.high j h1 h2⟩
end Go.Proofs.YtjfnleilddgjiaaGreat
namespace Go.Proofs.YtjfnleilddgjiaaGreat.Co
def mem (s:Int):Nat->List Int
 | 0=>[]
 | k+1=>if has s k then mem s k++[(k:Int)] else mem s k
theorem Zws {s:Int} {k:Nat} (h:has s k=true):mem s (k+1)=mem s k++[(k:Int)]:=by simp[mem,h]
theorem Z01 {s:Int} {k:Nat} (h:has s k=false):mem s (k+1)=mem s k:=by simp[mem,h]
theorem Zry (s:Int):∀k,(mem s k).length≤k
 | 0=>by simp[mem]
 | k+1=>by have:=Zry s k;rw[mem];split<;>simp<;>omega
theorem Zwr (s:Int):∀k,∀x∈mem s k,0≤x/\x<k
 | 0,x,h=>by simp[mem] at h
 | k+1,x,h=>by
  rw[mem] at h
  split at h
  ·rcases List.mem_append.1 h with h|h
   ·have:=Zwr s k x h;omega
   ·have:=List.mem_singleton.1 h;omega
  ·have:=Zwr s k x h;omega
def Z4m:List Int->Prop
 | []=>True
 | [_]=>True
 | x::y::r=>x<y/\Z4m (y::r)
def letter (k:Int):UInt8:=UInt8.ofNat (97+k.toNat)
def lets (s:Int) (k:Nat):List UInt8:=(mem s k).map letter
def text (s:Int):ByteArray:=if good s then (if s=0 then ⟨#[45]⟩ else ⟨(lets s 5).toArray⟩) else ⟨#[]⟩
def find (t:ByteArray):Nat->Option Nat
 | 0=>none
 | n+1=>match find t n with
  | some m=>some m
  | none=>if text (n:Int)=t then some n else none
end Go.Proofs.YtjfnleilddgjiaaGreat.Co
namespace Go.Proofs.YtjfnleilddgjiaaGreat
open Go.RowKit
def memR (s:Int):List Int:=if Co.good s then Co.mem s 5 else []
theorem Zm0 (s:Int) (w:World):Calls Tryz.prog 188 #[.int .i64 s] w (Zkm (memR s) w):=by
 rcases hg:Co.good s with _|_
 ·have Hr:=Lib.hid (show memR s = [] by unfold memR;rw[hg];rfl)
  have Hg:=Lib.hid hg;clear hg;rw[Hr.out]
  go_enter Tryz.func188,Tryz.ntmps188
  go_wp2_with fail
  go_loop [3,4] (fun v i=>v=.slice (some ⟨w.heap.size,0,none⟩) 0 0/\i=.int .i64 0) (fun _ i=>5-(intOf i).toNat)
  case atStart=>exact⟨rfl,rfl⟩
  case round=>
   obtain⟨rfl,rfl⟩:=hrel
   go_wp2_with fail
   refine (Zhw s false Hg.out _).mono ?_;rintro e w1 ⟨rfl,rfl⟩
   go_wp2_with fail
   go_ret;exact⟨_,rfl,World.ownsRow_made w #[] 0 (Nat.le_refl _) (Nat.zero_le _) rfl,(Below.refl _ _).alloc (Nat.le_refl _) _⟩
 ·have Hr:=Lib.hid (show memR s=Co.mem s 5 by unfold memR;rw[hg];rfl)
  have hs1:s≤9223372036854775807:=by have:=Co.Zn9 hg;omega
  have Hg:=Lib.hid hg;clear hg;rw[Hr.out];obtain⟨i0,hi,hz0,hz1,hz2⟩:=info_parts Zde;have HI:=Lib.hid hi;have HZ0:=Lib.hid hz0;have HZ1:=Lib.hid hz1;have HZ2:=Lib.hid hz2;clear hi hz0 hz1 hz2
  go_enter Tryz.func188,Tryz.ntmps188
  go_wp2_with fail
  go_loopw [3,4] (fun v i wr=>∃(k:Nat),k≤5/\i=.int .i64 k/\Hid (Zae w.heap.size wr v (Co.mem s k))/\Hid (Below w.heap.size w wr)) (fun _ i _=>5-(intOf i).toNat)
  case atStart=>exact⟨0,Nat.zero_le _,rfl,World.ownsRow_made w #[] 0 (Nat.le_refl _) (Nat.zero_le _) rfl,(Below.refl _ _).alloc (Nat.le_refl _) _⟩
  case round=>
   obtain⟨k,hk,rfl,hO,hB⟩:=hrel
   by_cases hlt:k<5
   ·rcases hh:Co.has s k with _|_
    ·have He:=Lib.hid (Co.Z01 hh)
     have Hh:=Lib.hid hh;clear hh
     go_wp2_with fail
     refine (Zhw s true Hg.out _).mono ?_;rintro e w1 ⟨rfl,rfl⟩
     go_wp2_with fail
     refine (Zbx s hs1 k hlt false Hh.out wr).mono ?_;rintro e w1 ⟨rfl,rfl⟩
     go_wp2_with fail
     go_roundw
     case rel=>exact⟨k+1,by omega,by go_num,by rw[He.out];exact hO,hB⟩
     case measure=>simp[intOf];omega
    ·have He:=Lib.hid (Co.Zws hh)
     have Hh:=Lib.hid hh;have hsz:=hB.out.size;have hlen:=Co.Zry s k;have Hown:=Lib.hid (World.ownsRow.alloc hO.out (.cells #[.int .i64 k] 3));clear hh;generalize Co.mem s k=xs at *
     go_wp2_with fail
     refine (Zhw s true Hg.out _).mono ?_;rintro e w1 ⟨rfl,rfl⟩
     go_wp2_with fail
     refine (Zbx s hs1 k hlt true Hh.out wr).mono ?_;rintro e w1 ⟨rfl,rfl⟩
     go_wp2_with (at_builtin;refine wpList_append_own _ rfl _ _ 22 rfl w.heap.size 3 i0 (.int .i64 0) 1 8 Tryz.underlying22 HI.out HZ0.out HZ1.out HZ2.out rfl (by decide) _ _ _ rfl Hown.out ⟨wr.heap.size,0,none⟩ 1 1 [.int .i64 k] rfl rfl ?c1 ?c2 ?c3 ?c4 ?c5 ?_)
     case c1=>
      intro j u hj
      match j,hj with
      | 0,hj=>simp at hj;subst hj;simp[Addr.add]
     case c2=>intro u hu;simp at hu;subst hu;rfl
     case c3=>unfold maxLen;omega
     case c4=>omega
     case c5=>simp;omega
     intro v' w1 hown' hgrow _;have Ho1:=Lib.hid (Zae.more hown');have Hb1:=Lib.hid ((hB.out.alloc hsz _).grown hgrow (by simp;omega) (fun g hg=>(Hown.out.lt g hg).1));rw[<-He.out] at Ho1;clear hown' hgrow
     go_wp2_with fail
     go_roundw
     case rel=>exact⟨k+1,by omega,by go_num,Ho1,Hb1⟩
     case measure=>simp[intOf];omega
   ·have he:k=5:=by omega
    subst he
    go_wp2_with fail
    go_ret;exact⟨_,rfl,hO,hB⟩
def Zc6 (B:Nat) (w:World) (a:Option Addr) (len:Nat):Prop:=
 len≤9223372036854775807/\∀i,i<len->∃(b o:Nat) (z:Int),a=some ⟨b,o,none⟩/\b<B/\0≤z/\z≤255/\w.cell? ⟨b,o+i,none⟩=some (.int .u8 z)
theorem Zc6.below {B:Nat} {w w':World} {a:Option Addr} {len:Nat} (h:Zc6 B w a len) (hb:Below B w w'):Zc6 B w' a len:=
 ⟨h.1,fun i hi=>by obtain⟨b,o,z,h1,h2,h3,h4,h5⟩:=h.2 i hi;exact⟨b,o,z,h1,h2,h3,h4,by rw[hb.cell (p:=⟨b,o+i,none⟩) h2];exact h5⟩⟩
theorem Zc6.mono {B B':Nat} {w:World} {a:Option Addr} {len:Nat} (h:Zc6 B w a len) (hB:B≤B'):Zc6 B' w a len:=
 ⟨h.1,fun i hi=>by obtain⟨b,o,z,h1,h2,h3⟩:=h.2 i hi;exact⟨b,o,z,h1,Nat.lt_of_lt_of_le h2 hB,h3⟩⟩
def Cur (w:World) (p:Nat) (a:Option Addr) (len cap:Nat):Prop:=
 ∃i h:Int,0≤i/\i≤len/\w.heap[p]? = some (.cells #[.slice a len cap,.int .i64 i,.int .i64 h] 143)
theorem Zsq {w:World} {p:Nat} {x y z:Value} {t:TypeId} (h:w.heap[p]? = some (.cells #[x,y,z] t)) :
  w.cell? ⟨p,0,none⟩=some x/\w.cell? ⟨p,1,none⟩=some y/\w.cell? ⟨p,2,none⟩=some z/\
  w.frozen? ⟨p,0,none⟩=false/\w.frozen? ⟨p,1,none⟩=false/\w.frozen? ⟨p,2,none⟩=false:=by
 simp[World.cell?,World.frozen?,h]
def Zu3 (lo hi:Int) (p:Nat) (a:Option Addr) (len cap:Nat) (w:World) (e:Ending) (w':World):Prop:=
 ∃x:Int,e=.returned (.int .i64 x)/\lo≤x/\x≤hi/\Cur w' p a len cap/\Only p w w'
theorem Zvb (x:Int):0≤bits .and .i64 x 255/\bits .and .i64 x 255≤255:=by
 have h:(BitVec.ofInt 64 x &&& BitVec.ofInt 64 255).toNat≤255:=by
  rw[BitVec.toNat_and];exact Nat.le_trans Nat.and_le_right (by decide)
 have e:bits .and .i64 x 255=IntKind.i64.wrap (((BitVec.ofInt 64 x &&& BitVec.ofInt 64 255).toNat:Nat):Int):=rfl;rw[e,IntWalk.i64_in _ (by omega)];omega
theorem Z1a {w:World} {p:Nat} {cs:Array Value} {t:TypeId} (h:w.heap[p]? = some (.cells cs t)) (k:Nat) (u:Value) :
  (w.setCell ⟨p,k,none⟩ u).heap[p]? = some (.cells (cs.setIfInBounds k u) t):=by
 have hlt:=lt_of_block h;have h':w.heap[p]=.cells cs t:=by simpa [Array.getElem?_eq_getElem hlt] using h
 show (w.heap.modify p _)[p]? = _;rw[Array.getElem?_eq_getElem (by simpa using hlt),Array.getElem_modify_self,h'];rfl
theorem set2 {w:World} {p:Nat} {x y z:Value} {t:TypeId} (h:w.heap[p]? = some (.cells #[x,y,z] t)) (u:Value) :
  (w.setCell ⟨p,2,none⟩ u).heap[p]? = some (.cells #[x,y,u] t):=by rw[Z1a h];rfl
theorem set1 {w:World} {p:Nat} {x y z:Value} {t:TypeId} (h:w.heap[p]? = some (.cells #[x,y,z] t)) (u:Value) :
  (w.setCell ⟨p,1,none⟩ u).heap[p]? = some (.cells #[x,u,z] t):=by rw[Z1a h];rfl
theorem Ze9 (B p:Nat) (a:Option Addr) (len cap:Nat) (w:World) (hB:B≤p) (hcur:Cur w p a len cap) (hcode:Zc6 B w a len) :
  Calls Tryz.prog 119 #[.pointer (some ⟨p,0,none⟩)] w (Zu3 0 255 p a len cap w):=by
 obtain⟨i,h,hi0,hi1,hblk⟩:=hcur;obtain⟨c0,c1,c2,f0,f1,f2⟩:=Zsq hblk;have Hb:=Lib.hid hblk;have Hc:=Lib.hid hcode;clear hblk hcode
 go_enter Tryz.func119,Tryz.ntmps119
 go_wp2_with fail
 go_cut [3] (fun x wx=>∃(n:Nat) (v:Int),x=.int .i64 v/\0≤v/\v≤255/\Cur wx p a len cap/\Only p w wx)
 case first=>
  go_quiet (fail)
  go_wp2_with fail
  go_meet
  have hx:=Zvb (bits .xor .i64 (wrap64 (wrap64 (h*6364136223846793005)+1442695040888963407) / 8589934592) (wrap64 (wrap64 (h*6364136223846793005)+1442695040888963407) / 35184372088832));exact⟨0,_,rfl,hx.1,hx.2,⟨i,_,hi0,hi1,set2 Hb _⟩,((Only.refl _ _).setCell _ _).drewN _⟩
 case rest=>
  clear c0 c1 c2 f0 f1 f2 Hb;obtain⟨n,v,rfl,hv0,hv1,hcur,hon⟩:=hcut;obtain⟨i,h,hi0,hi1,hblk⟩:=hcur;obtain⟨c0,c1,c2,f0,f1,f2⟩:=Zsq hblk;have Hb:=Lib.hid hblk;have Hon:=Lib.hid hon;clear hblk hon;have hlen:=Hc.out.1;obtain⟨j,rfl⟩:=Int.eq_ofNat_of_zero_le hi0
  by_cases hlt:j<len
  ·obtain⟨b,o,z,rfl,hbB,hz0,hz1,hcell⟩:=(Hc.out.below (Hon.out.below hB)).2 j hlt
   have hb:decide ((j:Int)<(len:Int))=true:=by rw[decide_eq_true_iff];omega
   go_wp2_with fail
   go_quiet (fail)
   go_wp2_with fail
   go_quiet (fail)
   go_wp2_with fail
   go_ret;have hx:=Zvb (v+z);exact⟨_,rfl,hx.1,hx.2,⟨j+1,h,by omega,by omega,set1 Hb _⟩,Hon.out.trans (((Only.refl _ _).drewN _).setCell _ _)⟩
  ·have hb:decide ((j:Int)<(len:Int))=false:=by rw[decide_eq_false_iff_not];omega
   go_wp2_with fail
   go_quiet (fail)
   go_wp2_with fail
   go_ret;exact⟨_,rfl,hv0,hv1,⟨j,h,by omega,by omega,Hb⟩,Hon.out.trans ((Only.refl _ _).drewN _)⟩
theorem Zb8 (B p:Nat) (a:Option Addr) (len cap:Nat) (n:Int) (hn1:1≤n) (hn2:n≤1099511627776) (w:World) (hB:B≤p) (hcur:Cur w p a len cap) (hcode:Zc6 B w a len) :
  Calls Tryz.prog 67 #[.pointer (some ⟨p,0,none⟩),.int .i64 n] w (Zu3 0 (n-1) p a len cap w):=by
 have Hc:=Lib.hid hcode;have Hu:=Lib.hid hcur;clear hcode hcur
 by_cases h256:n≤256
 ·have hb:decide (n≤256)=true:=by rw[decide_eq_true_iff];omega
  go_enter Tryz.func67,Tryz.ntmps67
  go_wp2_with fail
  refine (Ze9 B p a len cap w hB Hu.out Hc.out).mono ?_;rintro e w1 ⟨x,rfl,hx0,hx1,hc1,ho1⟩;have Hc1:=Lib.hid hc1;have Ho1:=Lib.hid ho1;clear hc1 ho1
  go_wp2_with fail
  go_ret;exact⟨_,rfl,Int.emod_nonneg _ (by omega),by have:=Int.emod_lt_of_pos x (show 0<n by omega);omega,Hc1,Ho1⟩
 ·have hb:decide (n≤256)=false:=by rw[decide_eq_false_iff_not];omega
  go_enter Tryz.func67,Tryz.ntmps67
  go_wp2_with fail
  refine (Ze9 B p a len cap w hB Hu.out Hc.out).mono ?_;rintro e w1 ⟨x,rfl,hx0,hx1,hc1,ho1⟩;have Hc1:=Lib.hid hc1;have Ho1:=Lib.hid ho1;clear hc1 ho1
  go_wp2_with fail
  refine (Ze9 B p a len cap w1 hB Hc1.out (Hc.out.below (Ho1.out.below hB))).mono ?_;rintro e w2 ⟨y,rfl,hy0,hy1,hc2,ho2⟩;have Hc2:=Lib.hid hc2;have Ho2:=Lib.hid (Ho1.out.trans ho2);clear hc2 ho2
  go_wp2_with fail
  refine (Ze9 B p a len cap w2 hB Hc2.out (Hc.out.below (Ho2.out.below hB))).mono ?_;rintro e w3 ⟨z,rfl,hz0,hz1,hc3,ho3⟩;have Hc3:=Lib.hid hc3;have Ho3:=Lib.hid (Ho2.out.trans ho3);clear hc3 ho3
  go_wp2_with fail
  refine (Ze9 B p a len cap w3 hB Hc3.out (Hc.out.below (Ho3.out.below hB))).mono ?_;rintro e w4 ⟨v,rfl,hv0,hv1,hc4,ho4⟩;have Hc4:=Lib.hid hc4;have Ho4:=Lib.hid (Ho3.out.trans ho4);clear hc4 ho4
  go_wp2_with fail
  go_ret;exact⟨_,rfl,Int.emod_nonneg _ (by omega),by have:=Int.emod_lt_of_pos (x*16777216+y*65536+z*256+v) (show 0<n by omega);omega,Hc4,Ho4⟩
def Zye (p:Nat) (a:Option Addr) (len cap:Nat) (w:World) (e:Ending) (w':World):Prop:=
 ∃x:Bool,e=.returned (.bool x)/\Cur w' p a len cap/\Only p w w'
theorem Zf9 (B p:Nat) (a:Option Addr) (len cap:Nat) (n:Int) (hn1:1≤n) (hn2:n≤1099511627776) (w:World) (hB:B≤p) (hcur:Cur w p a len cap) (hcode:Zc6 B w a len) :
  Calls Tryz.prog 74 #[.pointer (some ⟨p,0,none⟩),.int .i64 n] w (Zye p a len cap w):=by
 have Hc:=Lib.hid hcode;have Hu:=Lib.hid hcur;clear hcode hcur
 go_enter Tryz.func74,Tryz.ntmps74
 go_wp2_with fail
 refine (Zb8 B p a len cap n hn1 hn2 w hB Hu.out Hc.out).mono ?_;rintro e w1 ⟨x,rfl,hx0,hx1,hc1,ho1⟩;have Hc1:=Lib.hid hc1;have Ho1:=Lib.hid ho1;clear hc1 ho1
 go_wp2_with fail
 go_ret;exact⟨_,rfl,Hc1,Ho1⟩
def Zjj (w:World) (q:Nat) (vs:List Value):Prop:=∀i (h:i<vs.length),w.cell? ⟨q,i,none⟩=some vs[i]
def Z2q (vs:List Value) (p:Nat) (a:Option Addr) (len cap:Nat) (w:World) (e:Ending) (w':World):Prop:=
 ∃v,e=.returned v/\v∈vs/\Cur w' p a len cap/\Only p w w'
theorem Zjj.only {w w':World} {p q:Nat} {vs:List Value} (h:Zjj w q vs) (ho:Only p w w') (hq:q≠p) (hl:q<w.heap.size):Zjj w' q vs:=
 fun i hi=>by rw[World.cell?_of_block (w:=w) (ho.block hq hl)];exact h i hi
theorem Zhi (B p q:Nat) (a:Option Addr) (len cap c2:Nat) (ss:List Int) (hs1:1≤ss.length) (hs2:ss.length≤1000000) (w:World) (hB:B≤p) (hq:q≠p) (hql:q<w.heap.size)
  (hl:Zjj w q (ss.map (Value.int .i64))) (hcur:Cur w p a len cap) (hcode:Zc6 B w a len) :
  Calls Tryz.prog 93 #[.pointer (some ⟨p,0,none⟩),.slice (some ⟨q,0,none⟩) ss.length c2] w (Z2q (ss.map (Value.int .i64)) p a len cap w):=by
 have Hc:=Lib.hid hcode;have Hu:=Lib.hid hcur;have Hl:=Lib.hid hl;clear hcode hcur hl
 go_enter Tryz.func93,Tryz.ntmps93
 go_wp2_with fail
 refine (Zb8 B p a len cap _ (by omega) (by omega) w hB Hu.out Hc.out).mono ?_;rintro e w1 ⟨x,rfl,hx0,hx1,hc1,ho1⟩;obtain⟨j,rfl⟩:=Int.eq_ofNat_of_zero_le hx0;have hj:j<ss.length:=by omega
 have hcell:=(Hl.out.only ho1 hq hql) j (by simpa using hj);rw[List.getElem_map] at hcell;have Hc1:=Lib.hid hc1;have Ho1:=Lib.hid ho1;clear hc1 ho1
 go_wp2_with fail
 go_ret;exact⟨_,rfl,List.mem_map_of_mem (List.getElem_mem hj),Hc1,Ho1⟩
def Z2x (a:Option Addr) (len cap:Nat) (w:World) (e:Ending) (w':World):Prop:=
 e=.returned (.pointer (some ⟨w.heap.size,0,none⟩))/\Cur w' w.heap.size a len cap/\Below w.heap.size w w'/\w'.heap.size=w.heap.size+1
theorem Zqb (w:World) (o:Obj):(w.alloc o).heap[w.heap.size]? = some o:=by show (w.heap.push o)[w.heap.size]? = some o;simp
theorem Zuz (B:Nat) (a:Option Addr) (len cap:Nat) (w:World) (hcode:Zc6 B w a len) :
  Calls Tryz.prog 58 #[.slice a len cap] w (Z2x a len cap w):=by
 have hlen:=hcode.1;have Hc:=Lib.hid hcode;clear hcode
 go_enter Tryz.func58,Tryz.ntmps58
 go_wp2_with fail
 go_loop [3,4] (fun hh i=>∃(k:Nat) (h:Int),k≤len/\i=.int .i64 k/\hh=.int .i64 h) (fun _ i=>len-(intOf i).toNat)
 case atStart=>exact⟨0,_,Nat.zero_le _,rfl,rfl⟩
 case round=>
  obtain⟨k,h,hk,rfl,rfl⟩:=hrel
  by_cases hlt:k<len
  ·by_cases h4:k<4000
   ·obtain⟨b,o,z,rfl,hbB,hz0,hz1,hcell⟩:=Hc.out.2 k hlt
    go_wp2_with fail
    go_round
    case rel=>exact⟨k+1,_,by omega,by go_num,rfl⟩
    case measure=>simp[intOf];omega
   ·have hb:decide ((k:Int)<4000)=false:=by rw[decide_eq_false_iff_not];omega
    go_wp2_with fail
    go_ret;exact⟨rfl,⟨0,h,by omega,by omega,Zqb w _⟩,(Below.refl _ _).alloc (Nat.le_refl _) _,by simp⟩
  ·have hb:decide ((k:Int)<(len:Int))=false:=by rw[decide_eq_false_iff_not];omega
   go_wp2_with fail
   go_ret;exact⟨rfl,⟨0,h,by omega,by omega,Zqb w _⟩,(Below.refl _ _).alloc (Nat.le_refl _) _,by simp⟩
theorem Zjj.new (w:World) (vs:List Value) (t:TypeId):Zjj (w.alloc (.cells vs.toArray t)) w.heap.size vs:=fun i h=>by
 simp only[World.cell?,Zqb w (.cells vs.toArray t)];simp[h]
theorem Cur.alloc {w:World} {p:Nat} {a:Option Addr} {len cap:Nat} (h:Cur w p a len cap) (o:Obj):Cur (w.alloc o) p a len cap:=by
 obtain⟨i,x,h1,h2,hb⟩:=h;exact⟨i,x,h1,h2,by rw[Below.heap_alloc w o p (lt_of_block hb)];exact hb⟩
theorem Cur.lt {w:World} {p:Nat} {a:Option Addr} {len cap:Nat} (h:Cur w p a len cap):p<w.heap.size:=by
 obtain⟨i,x,h1,h2,hb⟩:=h;exact lt_of_block hb
end Go.Proofs.YtjfnleilddgjiaaGreat
