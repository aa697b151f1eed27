/- The core in plain terms: the LP of balanced collections, which are balanced, which results are right; nothing of the program. -/
import Derived.Test.YtpjnjidbdpfdcaaGreatPyM
import Derived.Test.YtpjnjidbdpfdcaaGreatGM
namespace Go.Proofs.YtpjnjidbdpfdcaaGreat.Cr
open Ve (R at_)
open Gm (G)
open Lp (P)
def bit (b:Bool):Int:=if b then 1 else 0
def mrow (j k:Nat):List Int:=(List.range k).map fun s:Nat=>bit (Co.has ((s:Int)+1) j)
theorem Zco (j k:Nat):(mrow j k).length=k:=by simp[mrow]
theorem Zfo (j k:Nat):mrow j (k+1)=mrow j k++[bit (Co.has ((k:Int)+1) j)]:=by simp[mrow,List.range_succ]
def cost (g:G) (k:Nat):List R:=(List.range k).map fun s:Nat=>(-(g.v.getD (s+1) 0),1)
theorem Zcl (g:G) (k:Nat):(cost g k).length=k:=by simp[cost]
theorem Zfb (g:G) (k:Nat):cost g (k+1)=cost g k++[(-(g.v.getD (k+1) 0),1)]:=by simp[cost,List.range_succ]
def Zca (n k:Nat):List (List Int):=(List.range k).map fun j=>mrow j n
theorem Zk5 (n k:Nat):(Zca n k).length=k:=by simp[Zca]
theorem Zjf (n k:Nat):Zca n (k+1)=Zca n k++[mrow k n]:=by simp[Zca,List.range_succ]
def Zbc (k:Nat):List Int:=(List.range k).map fun _=>1
theorem Zec (k:Nat):(Zbc k).length=k:=by simp[Zbc]
theorem Zfp (k:Nat):Zbc (k+1)=Zbc k++[1]:=by simp[Zbc,List.range_succ]
def lp (g:G):P:=⟨Zca (g.v.length-1) g.n.toNat,Zbc g.n.toNat,cost g (g.v.length-1)⟩
def lp0:P:=⟨[],[],[]⟩
def bal (g:G):P:=if Gm.vld g then lp g else lp0
theorem Zlj {g:G} (h:Gm.vld g=true):bal g=lp g:=if_pos h
theorem Zqc {g:G} (h:Gm.vld g=false):bal g=lp0:=by unfold bal;rw[h];rfl
def Zrp (w:List R) (j:Nat):Bool:=Lp.idK (mrow j w.length) w && decide (Lp.idR (mrow j w.length) w=(1,1))
def Zoy (w:List R):Nat->Bool
 | 0=>true
 | k+1=>Zoy w k && Zrp w k
def Zpt (n:Int) (w:List R):Bool:=decide (1≤n/\n≤5) && decide (w.length=2 ^ n.toNat-1)
def blc (n:Int) (w:List R):Bool:=Zpt n w && (Lp.nonneg w && Zoy w n.toNat)
def nil_ (n:Int):G:=⟨n,Lp.Zo1 (2 ^ n.toNat)⟩
structure Cor where
 code:Int
 point:List R
 weights:List R
def Zq2 (g:G) (w:List R):Bool:=Lp.idK (g.v.drop 1) w && decide (0<Py.cmp (Lp.idR (g.v.drop 1) w) (Py.whole (Gm.Zcs g)))
def more (g:G) (w:List R):Bool:=blc g.n w && Zq2 g w
def chkC (g:G) (r:Cor):Bool:=Gm.vld g && (if r.code=1 then Py.inC g r.point else if r.code=2 then more g r.weights else false)
end Go.Proofs.YtpjnjidbdpfdcaaGreat.Cr
