/- The parts Row, IntsLaw. -/
import Derived.Test.YtpjnjidbdpfdcaaGreatRows
import Derived.ProofKit
import Derived.OpenShut
import Derived.Test.YtpjnjidbdpfdcaaGreatGB
import Derived.Test.YtpjnjidbdpfdcaaGreatCoA
namespace Go.Proofs.YtpjnjidbdpfdcaaGreat
open Go.RowKit
def Zrt (k:IntKind) (B:Nat) (w:World) (a:Option Addr) (len:Nat) (zs:List Int):Prop:=
 len≤9223372036854775807/\zs.length=len/\∀i,i<len->∃b o:Nat,a=some ⟨b,o,none⟩/\b<B/\w.cell? ⟨b,o+i,none⟩=some (.int k (zs.getD i 0))/\(Lit.int k (zs.getD i 0)).wf=true
def Zp3 (w:World) (e:Ending) (w':World):Prop:=e=.returned (.bool true)/\∃d,w'=w.drewN d
set_option maxRecDepth 100000 in
set_option maxHeartbeats 400000 in
theorem Zi2 (a1 a2:Option Addr) (c1 c2:Nat) (xs:List Int) (hn:xs.length≤1099511627776) (w:World) (h1:IntsIn w a1 xs) (h2:IntsIn w a2 xs) :
  Calls Tryz.prog 24 #[.slice a1 xs.length c1,.slice a2 xs.length c2] w (Zp3 w):=by
 have H1:=Lib.hid h1;have H2:=Lib.hid h2;clear h1 h2
 go_enter Tryz.func24,Tryz.ntmps24
 go_wp2_with fail
 go_loopw [5] (fun i wr=>∃k:Nat,k≤xs.length/\i=.int .i64 k/\Hid (∃d,wr=w.drewN d)) (fun i _=>xs.length-(intOf i).toNat)
 case atStart=>exact⟨0,Nat.zero_le _,rfl,⟨0,rfl⟩⟩
 case round=>
  obtain⟨k,hk,rfl,hD⟩:=hrel
  by_cases hlt:k<xs.length
  ·have g1:IntsIn wr a1 xs:=by obtain⟨d,rfl⟩:=hD.out;exact H1.out
   have g2:IntsIn wr a2 xs:=by obtain⟨d,rfl⟩:=hD.out;exact H2.out
   obtain⟨b1,o1,rfl,g1⟩:=g1.at k hlt;obtain⟨b2,o2,rfl,g2⟩:=g2.at k hlt
   go_wp2_with fail
   go_quiet (fail)
   go_wp2_with fail
   go_roundw
   case rel=>exact⟨k+1,by omega,by go_num,by obtain⟨d,rfl⟩:=hD.out;exact⟨d+nq,by simp[Nat.add_comm]⟩⟩
   case measure=>simp[intOf];omega
  ·go_wp2_with fail
   go_ret;exact⟨rfl,hD⟩
def Zma (k n:Nat):List Int:=(List.range n).map fun j=>((k+j:Nat):Int)
def Zp6 (B k:Nat) (v:Value) (n:Nat) (w:World) (e:Ending) (w':World):Prop:=
 e=.returned (.int .i64 ((k:Int)+n))/\Zab B w' v (Zma k n)/\w.grownBy w' v.ownBlock
theorem Zpm {B g cap:Nat} {w:World} {xs:List Int} (h:Zab B w (.slice (some ⟨g,0,none⟩) xs.length cap) xs) (j:Nat) (x:Int):Zab B (w.setCell ⟨g,j,none⟩ (.int .i64 x)) (.slice (some ⟨g,0,none⟩) (xs.set j x).length cap) (xs.set j x):=by
 have:=World.ownsRow.stored h j (.int .i64 x);unfold Zab;rw[List.length_set,List.map_set];exact this.1
theorem Zdw {w a:World} {g:Nat} (h:w.grownBy a (some g)) (j:Nat) (u:Value):w.grownBy (a.setCell ⟨g,j,none⟩ u) (some g):=
 ⟨h.os,h.tape,h.output,by have:=h.size;simp;omega,fun k hk hne=>by
  rw[Below.heap_setCell _ _ _ _ (show k≠g from fun e=>hne (by rw[e]))];exact h.block k hk hne⟩
end Go.Proofs.YtpjnjidbdpfdcaaGreat
