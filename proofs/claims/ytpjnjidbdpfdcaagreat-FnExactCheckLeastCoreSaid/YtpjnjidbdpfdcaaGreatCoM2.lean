/- Members and letters of a coalition, in plain terms; nothing of the program. -/
import Derived.Test.YtpjnjidbdpfdcaaGreatGM
namespace Go.Proofs.YtpjnjidbdpfdcaaGreat.Co
def mem (s:Int):Nat->List Int
 | 0=>[]
 | k+1=>if has s k then mem s k++[(k:Int)] else mem s k
theorem Zmb {s:Int} {k:Nat} (h:has s k=true):mem s (k+1)=mem s k++[(k:Int)]:=by simp[mem,h]
theorem Zon {s:Int} {k:Nat} (h:has s k=false):mem s (k+1)=mem s k:=by simp[mem,h]
theorem Zfn (s:Int):∀k,(mem s k).length≤k
 | 0=>by simp[mem]
 | k+1=>by have:=Zfn s k;rw[mem];split<;>simp<;>omega
theorem Zj2 (s:Int):∀k,∀x∈mem s k,0≤x/\x<k
 | 0,x,h=>by simp[mem] at h
 | k+1,x,h=>by
  rw[mem] at h
  split at h
  ·rcases List.mem_append.1 h with h|h
   ·have:=Zj2 s k x h;omega
   ·have:=List.mem_singleton.1 h;omega
  ·have:=Zj2 s k x h;omega
def Zra:List Int->Prop
 | []=>True
 | [_]=>True
 | x::y::r=>x<y/\Zra (y::r)
def letter (k:Int):UInt8:=UInt8.ofNat (97+k.toNat)
def lets (s:Int) (k:Nat):List UInt8:=(mem s k).map letter
def text (s:Int):ByteArray:=if good s then (if s=0 then ⟨#[45]⟩ else ⟨(lets s 5).toArray⟩) else ⟨#[]⟩
def find (t:ByteArray):Nat->Option Nat
 | 0=>none
 | n+1=>match find t n with
  | some m=>some m
  | none=>if text (n:Int)=t then some n else none
end Go.Proofs.YtpjnjidbdpfdcaaGreat.Co
