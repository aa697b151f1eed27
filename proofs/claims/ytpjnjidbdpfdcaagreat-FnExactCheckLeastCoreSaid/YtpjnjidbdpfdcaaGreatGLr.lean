/- The parts LpOpen, LpR, LpR2, LpR3. -/
import Derived.Test.YtpjnjidbdpfdcaaGreatGLa
import Derived.Test.YtpjnjidbdpfdcaaGreatHNumOpen
import Derived.Test.YtpjnjidbdpfdcaaGreatGVa
import Derived.Deep.Matrix
import Derived.Lib.SmallJoins
namespace Go.Proofs.YtpjnjidbdpfdcaaGreat
open Go.RowKit Go.Deep Go.ChangeShapes Go.WideShapes
open Ve (R)
open Lp (P)
theorem Zgn {H:Type} {enc:TypeId×Value->H} {W:World} {fuel:Nat} {v:Value} {x:DataW H×List MemPlace}
  (h:DataW.trod enc Tryz.prog W 0 (fun _=>true) true fuel 27 [v]=some x):∃(a:Option Addr) (c:Nat) (l:List R),v=.slice a l.length c/\l.length≤9223372036854775807/\Zah W.heap.size W a l:=by
 obtain⟨a,len,c,e⟩:=Joins.slice_form Tryz.underlying27 h;simp at e;subst e;obtain⟨zs,rfl,h1,h2⟩:=Zmn h;exact⟨a,c,zs,rfl,h1,h2⟩
open Go.RowKit
open Lp (Res)
def Zq5 (s:Value) (x y z:Value) (n d pv:Value):Array Value:=#[s,x,y,z,n,d,pv]
/-! ### Results -/
structure Zd8 (B:Nat) (w:World) (a b c:Option Addr) (r:Res):Prop where
 mX:Zah B w a r.X
 mY:Zah B w b r.Y
 mR:Zah B w c r.ray
theorem Zd8.below {B:Nat} {w w':World} {a b c:Option Addr} {p:Res} (h:Zd8 B w a b c p) (hb:Below B w w'):Zd8 B w' a b c p:=⟨h.mX.below hb,h.mY.below hb,h.mR.below hb⟩
theorem Zd8.mono {B B':Nat} {w:World} {a b c:Option Addr} {p:Res} (h:Zd8 B w a b c p) (hB:B≤B'):Zd8 B' w a b c p:=⟨h.mX.mono hB,h.mY.mono hB,h.mR.mono hB⟩
theorem Zd8.drewN {B:Nat} {w:World} {a b c:Option Addr} {p:Res} (h:Zd8 B w a b c p) (d:Nat):Zd8 B (w.drewN d) a b c p:=⟨h.mX,h.mY,h.mR⟩
def resN (r:Res):Nat:=r.X.length+r.Y.length+r.ray.length
def Zq6 (r:Res):Prop:=r.X.length≤9223372036854775807/\r.Y.length≤9223372036854775807/\r.ray.length≤9223372036854775807
def resV (a b c:Option Addr) (c1 c2 c3:Nat) (r:Res):Value:=
 .agg #[.int .i64 r.status,.slice a r.X.length c1,.slice b r.Y.length c2,.slice c r.ray.length c3,.int .i64 r.value.1,.int .i64 r.value.2,.int .i64 r.pivots]
structure Zin (r:Res):Prop where
 X:r.X.length≤1048576
 Y:r.Y.length≤1048576
 R:r.ray.length≤1048576
 N:resN r≤1048576
structure Zgc (lo hi:Nat) (w:World) (v:Value) (r:Res):Prop where
 ex:∃(m1 m2:Nat) (a b c:Option Addr) (c1 c2 c3:Nat),v=resV a b c c1 c2 c3 r/\lo≤m1/\m1≤m2/\m2≤hi/\hi≤w.heap.size/\(Zad lo w (.slice a r.X.length c1) r.X/\∀g,(Value.slice a r.X.length c1).ownBlock=some g->g<m1)/\
  (Zad m1 w (.slice b r.Y.length c2) r.Y/\∀g,(Value.slice b r.Y.length c2).ownBlock=some g->g<m2)/\(Zad m2 w (.slice c r.ray.length c3) r.ray/\∀g,(Value.slice c r.ray.length c3).ownBlock=some g->g<hi)
theorem Zgc.below {lo hi:Nat} {w w':World} {v:Value} {r:Res} (h:Zgc lo hi w v r) (hb:Below w.heap.size w w'):Zgc lo hi w' v r:=by
 obtain⟨m1,m2,a,b,c,c1,c2,c3,rfl,h1,h2,h3,h4,⟨hA,kA⟩,⟨hB,kB⟩,hC,kC⟩:=h;exact⟨m1,m2,a,b,c,c1,c2,c3,rfl,h1,h2,h3,Nat.le_trans h4 hb.size,⟨hA.below hb,kA⟩,⟨hB.below hb,kB⟩,hC.below hb,kC⟩
theorem Zad.Zjd {lo hi:Nat} {w:World} {a:Option Addr} {c:Nat} {xs:List R} (h:Zad lo w (.slice a xs.length c) xs) (hb:∀g,(Value.slice a xs.length c).ownBlock=some g->g<hi):Zah hi w a xs:=by
 obtain⟨a',c',e,h1,_,_⟩:=Za1 h;obtain⟨rfl,rfl⟩:a=a'/\c=c':=by injection e with e1 e2 e3;exact⟨e1,e3⟩
 exact h1.narrow fun q hq=>hb q.block (by rw[hq];rfl)
theorem Zgc.reads {lo hi:Nat} {w:World} {v:Value} {r:Res} (h:Zgc lo hi w v r):∃(a b c:Option Addr) (c1 c2 c3:Nat),v=resV a b c c1 c2 c3 r/\Zd8 hi w a b c r/\hi≤w.heap.size:=by
 obtain⟨m1,m2,a,b,c,c1,c2,c3,rfl,h1,h2,h3,h4,⟨hA,kA⟩,⟨hB,kB⟩,hC,kC⟩:=h;exact⟨a,b,c,c1,c2,c3,rfl,⟨(hA.Zjd kA).mono (by omega),(hB.Zjd kB).mono (by omega),hC.Zjd kC⟩,h4⟩
end Go.Proofs.YtpjnjidbdpfdcaaGreat
