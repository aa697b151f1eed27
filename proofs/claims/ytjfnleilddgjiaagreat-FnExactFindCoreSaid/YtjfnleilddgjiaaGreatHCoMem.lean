/- The parts CoM2, CoMem. -/
import Derived.Test.YtjfnleilddgjiaaGreatGM
import Derived.Test.YtjfnleilddgjiaaGreatGB
import Derived.Test.YtjfnleilddgjiaaGreatHCoB
namespace Go.Proofs.YtjfnleilddgjiaaGreat.Co
def mem (s:Int):Nat→List Int
 | 0=>[]
 | k+1=>if has s k then mem s k++[(k:Int)] else mem s k
def climb:List Int→Prop
 | []=>True
 | [_]=>True
 | x::y::r=>x<y∧climb (y::r)
def letter (k:Int):UInt8:=UInt8.ofNat (97+k.toNat)
def lets (s:Int) (k:Nat):List UInt8:=(mem s k).map letter
def text (s:Int):ByteArray:=if good s then (if s=0 then ⟨#[45]⟩ else ⟨(lets s 5).toArray⟩) else ⟨#[]⟩
def find (t:ByteArray):Nat→Option Nat
 | 0=>none
 | n+1=>match find t n with
  | some m=>some m
  | none=>if text (n:Int)=t then some n else none
end Go.Proofs.YtjfnleilddgjiaaGreat.Co
namespace Go.Proofs.YtjfnleilddgjiaaGreat
open Go.RowKit
def memR (s:Int):List Int:=if Co.good s then Co.mem s 5 else []
end Go.Proofs.YtjfnleilddgjiaaGreat
