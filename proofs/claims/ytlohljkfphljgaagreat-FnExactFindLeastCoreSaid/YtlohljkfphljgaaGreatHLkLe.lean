/- The parts LkRats, NgV, LkLpr, LkLe. -/
import Derived.Test.YtlohljkfphljgaaGreatGK
import Derived.Test.YtlohljkfphljgaaGreatGLk
import Derived.Test.YtlohljkfphljgaaGreatGVc
import Derived.Test.YtlohljkfphljgaaGreatHApR
import Derived.Test.YtlohljkfphljgaaGreatGTd
import Derived.Test.YtlohljkfphljgaaGreatGVa
import Derived.Test.YtlohljkfphljgaaGreatGIx
import Derived.Test.YtlohljkfphljgaaGreatGLa
import Derived.Test.YtlohljkfphljgaaGreatGRa
set_option maxRecDepth 100000
set_option maxHeartbeats 4000000
namespace Go.Proofs.YtlohljkfphljgaaGreat
open Go.RowKit
open Ve (R)
def Zeu (w:World) (v:Value) (xs:List R):Prop:=∃(a:Option Addr) (c:Nat),v=.slice a xs.length c/\Zah w.heap.size w a xs
theorem Zeu.up {w w':World} {v:Value} {xs:List R} (h:Zeu w v xs) (hb:Below w.heap.size w w'):Zeu w' v xs:=by
 obtain⟨a,c,e,hi⟩:=h;exact⟨a,c,e,(hi.below hb).mono hb.size⟩
theorem Zeu.rg {w:World} {v:Value} {xs:List R} (h:Zeu w v xs):Rg (fun w'=>Zeu w' v xs) 0 w.heap.size w:=
 ⟨h,Nat.le_refl _,fun w' hs hk=>by
  obtain⟨a,c,e,hi⟩:=h;refine⟨a,c,e,Zah.mono (fun j x hx=>?_) hs⟩;obtain⟨b,o,e1,h2,h3,h4⟩:=hi j x hx;have hc:∀i,w'.cell? ⟨b,i,none⟩=w.cell? ⟨b,i,none⟩:=fun i=>World.cell?_of_block (w:=w) (a:=⟨b,i,none⟩) (hk b (Nat.zero_le _) h2)
  exact⟨b,o,e1,h2,by rw[hc];exact h3,by rw[hc];exact h4⟩⟩
def Zev (lo hi:Nat) (w:World) (v:Value) (xs:List R):Prop:=Zdw lo hi w v xs/\hi≤w.heap.size
theorem Zev.rg {lo hi:Nat} {w:World} {v:Value} {xs:List R} (h:Zev lo hi w v xs):Rg (fun w'=>Zev lo hi w' v xs) lo hi w:=
 ⟨h,h.2,fun w' hs hk=>⟨h.1.same fun b hb=>by have:=h.1.blk hb;exact hk b this.1 this.2.1,Nat.le_trans h.2 hs⟩⟩
theorem Zev.reads {lo hi:Nat} {w:World} {v:Value} {xs:List R} (h:Zev lo hi w v xs):Zeu w v xs:=by
 obtain⟨a,c,e,hr⟩:=h.1.reads;exact⟨a,c,e,hr.mono h.2⟩
theorem Zse {w:World} {v v':Value} {xs:List R} (h:Zeu w v xs) (h':Zeu w v' xs) (hf:xs.length≤1048576) :
  Calls Tryz.prog 122 #[v,v'] w fun e w'=>e=.returned (.bool true)/\Below w.heap.size w w':=by
 obtain⟨a,c,rfl,hi⟩:=h;obtain⟨a',c',rfl,hi'⟩:=h';exact Zrh w.heap.size a a' c c' xs (by omega) w (Nat.le_refl _) hi hi'
theorem Zna {lo hi:Nat} {w:World} {v:Value} {xs:List R} (h:Zev lo hi w v xs) (hf:xs.length≤1048576) (kk:Int) (h0:0≤kk) (h1:kk≤8388608) :
  Calls Tryz.prog 125 #[v,.int .i64 kk] w fun e w'=>e=.returned (.int .i64 (kk+2*xs.length))/\Zev lo hi w' v (Zbo kk.toNat xs.length)/\Turned lo hi w w':=by
 refine (Zyk lo hi v kk kk.toNat (by omega) xs (by omega) (by omega) w h.1).mono ?_;rintro e w' ⟨rfl,h3,row,h4,h5⟩;exact⟨rfl,⟨h3,Nat.le_trans h.2 h4.size⟩,Turned.Zof h4 fun g hg=>by have:=h.1.blk (h5 g hg);omega⟩
theorem Zm5 {w:World} {v:Value} {n:Nat} (kk:Int) (h:Zeu w v (Zbo kk.toNat n)) (hf:n≤1048576) (h0:0≤kk) (h1:kk≤8388608) :
  Calls Tryz.prog 126 #[v,.int .i64 kk] w fun e w'=>e=.returned (.int .i64 (kk+2*n))/\Below w.heap.size w w':=by
 obtain⟨a,c,rfl,hi⟩:=h;rw[Zd0];exact (Zn8 w.heap.size a c kk kk.toNat n (by omega) (by omega) (by omega) w hi).mono fun e w' ⟨h1,h2⟩=>⟨h1,h2▸Below.refl _ _⟩
theorem Zie {w:World} {v:Value} {xs:List R} (h:Zeu w v xs) (hf:xs.length≤1048576) :
  Calls Tryz.prog 162 #[v] w (Zbg (Cr.negs xs) w):=by
 obtain⟨a,c,rfl,hi⟩:=h;have HI:=zH hi;have HNm:Hid (∀k,k<xs.length->Cr.negs (xs.take (k+1))=Cr.negs (xs.take k)++[Ta.negR (Ve.at_ xs k)]):=fun k hk=>Zwa xs k hk
 have HNl:Hid (∀k,k≤xs.length->(Cr.negs (xs.take k)).length=k):=fun k hk=>Zys xs k hk
 have HNa:Hid (Cr.negs (xs.take xs.length)=Cr.negs xs):=Zyr xs;have HN0:Hid (Cr.negs (xs.take 0) = []):=by show _=_;simp[Cr.negs]
 obtain⟨NF,hNF⟩:∃NF:Nat->List R,∀k,Cr.negs (xs.take k)=NF k:=⟨fun k=>Cr.negs (xs.take k),fun _=>rfl⟩;simp only[hNF] at HNm HNl HNa HN0;have HO0:Hid (Zaa w.heap.size w (.slice none 0 0) (NF 0)):=by show Zaa _ _ _ _;rw[HN0.out];exact World.ownsRow_nil _ _ _ _
 have HL0:Hid (Below w.heap.size w w):=Below.refl _ _;clear hNF hi
 go_enter Tryz.func162,Tryz.ntmps162
 go_wp2_with fail
 go_loopw [3,5,8] (fun v _ i wr=>∃(k:Nat) (u:Value),u=v/\k≤xs.length/\i=.int .i64 k/\Hid (Zaa w.heap.size wr u (NF k))/\Hid (Below w.heap.size w wr)) (fun _ _ i _=>xs.length-(intOf i).toNat)
 case atStart=>exact⟨0,_,rfl,Nat.zero_le _,rfl,HO0,HL0⟩
 case round=>
  clear HO0 HL0;obtain⟨k,u,rfl,hk,rfl,hO,hL⟩:=hrel
  by_cases hlt:k<xs.length
  ·have n1:(k:Int)<(xs.length:Int):=by omega
   obtain⟨b,o,rfl,_,y0,y1⟩:=(HI.out.below hL.out).at k hlt;have HNk:=zH (HNm.out k hlt);have hNl:(NF k).length≤1048576:=by have:=HNl.out k hk;omega
   generalize Ve.at_ xs k=yk at *;generalize NF k=NK at *;have HLa:=zH (hL.out.alloc hL.out.size (.cells #[.int .i64 yk.1,.int .i64 yk.2] 31));have HOa:=zH (Zaa.alloc hO.out (.cells #[.int .i64 yk.1,.int .i64 yk.2] 31));obtain⟨r0,r1,_,_⟩:=(Zau.new wr yk).four;clear hO hL
   go_wp2_with fail
   generalize wr.alloc (.cells #[.int .i64 yk.1,.int .i64 yk.2] 31)=wa at *;refine (Zb9 yk _).mono ?_;rintro e w2 ⟨rfl,k2⟩;have HLb:=zH ((HLa.out.trans (k2.mono HLa.out.size)).alloc (HLa.out.trans (k2.mono HLa.out.size)).size (.cells #[.int .i64 (Ta.negR yk).1,.int .i64 (Ta.negR yk).2] 31));have HOb:=zH (Zaa.alloc (Zaa.below HOa.out k2) (.cells #[.int .i64 (Ta.negR yk).1,.int .i64 (Ta.negR yk).2] 31));have Hone:=zH (Zb2 w2 (Ta.negR yk));clear k2 HLa HOa r0 r1
   go_wp2_with (at_builtin;refine Zaj rfl _ _ rfl w.heap.size _ NK rfl HOb.out _ [Ta.negR yk] 1 1 rfl rfl _ Hone.out (by simp;omega) (by have:=HLb.out.size;omega) ?_)
   intro v' w8 hown hgrow;rw[<-HNk.out] at hown;obtain⟨a8,c8,rfl,_⟩:=Zai hown;have HO8:=zH hown;have HL8:=zH (HLb.out.grown hgrow HLb.out.size (fun g hg=>(World.ownsRow.lt HOb.out g hg).1));clear hown hgrow HOb HLb Hone
   go_wp2_with fail
   go_roundw
   case rel=>exact⟨k+1,_,rfl,by omega,by go_num,HO8,HL8⟩
   case measure=>simp[intOf];omega
  ·have hke:k=xs.length:=by omega
   have hO2:=hO.out;rw[hke,HNa.out] at hO2;obtain⟨a8,c8,rfl,_⟩:=Zai hO2;have HO2:=zH hO2;clear hO hO2 hke
   go_wp2_with fail
   go_ret;exact⟨_,rfl,HO2.out,hL.out⟩
open Lp (P)
def RsLP (lo hi:Nat) (w:World) (v:Value) (p:P):Prop:=∃(vA vB vC:Value) (vs:List Value),v=.agg #[vA,vB,vC]/\w.ownsRow lo 25 1 vA p.A.length vs/\Zc1 lo w (vB::vs) (p.B::p.A)/\(∀g,vA.ownBlock=some g->g<hi)/\
 (∀(j:Nat) (u:Value),(vB::vs)[j]? = some u->∀b,u.ownBlock=some b->b<hi)/\Zaa lo w vC p.C/\(∀g,vC.ownBlock=some g->g<hi)/\hi≤w.heap.size
theorem RsLP.of {lo:Nat} {w:World} {vA vB vC:Value} {p:P} (h1:Zbd lo w vA vB p.A p.B) (h2:Zaa lo w vC p.C):RsLP lo w.heap.size w (.agg #[vA,vB,vC]) p:=by
 obtain⟨vs,k1,k2⟩:=h1;exact⟨vA,vB,vC,vs,rfl,k1,k2,fun g hg=>(World.ownsRow.lt k1 g hg).2,fun j u e b hb=>(World.ownsRow.lt (k2.own j u e) b hb).2,h2,fun g hg=>(World.ownsRow.lt h2 g hg).2,Nat.le_refl _⟩
theorem Zc1.same {lo hi:Nat} {w w':World} {vs:List Value} {L:List (List Int)} (h:Zc1 lo w vs L) (hb:∀(j:Nat) (u:Value),vs[j]? = some u->∀b,u.ownBlock=some b->b<hi) (hk:∀k,lo≤k->k<hi->w'.heap[k]? = w.heap[k]?):Zc1 lo w' vs L:=
 ⟨h.len,fun j u e=>Zak (h.own j u e) fun g hg=>hk g (World.ownsRow.lt (h.own j u e) g hg).1 (hb j u e g hg),h.apart⟩
theorem RsLP.rg {lo hi:Nat} {w:World} {v:Value} {p:P} (h:RsLP lo hi w v p):Rg (fun w'=>RsLP lo hi w' v p) lo hi w:=by
 have h0:=h;obtain⟨vA,vB,vC,vs,rfl,h1,h2,h3,h4,h5,h6,h7⟩:=h;exact⟨h0,h7,fun w' hs hk=>⟨vA,vB,vC,vs,rfl,Zak h1 fun g hg=>hk g (World.ownsRow.lt h1 g hg).1 (h3 g hg),h2.same h4 hk,h3,h4,Zak h5 fun g hg=>hk g (World.ownsRow.lt h5 g hg).1 (h6 g hg),h6,Nat.le_trans h7 hs⟩⟩
theorem RsLP.Zgu {lo hi:Nat} {w:World} {x y z:Value} {p:P} (h:RsLP lo hi w (.agg #[x,y,z]) p):LpX w x y z p:=by
 obtain⟨vA,vB,vC,vs,e,h1,h2,_,_,h3,_⟩:=h;injection e with e
 have e1:x=vA:=by have:=congrArg (fun q=>q[0]?) e;simpa using this
 have e2:y=vB:=by have:=congrArg (fun q=>q[1]?) e;simpa using this
 have e3:z=vC:=by have:=congrArg (fun q=>q[2]?) e;simpa using this
 subst e1 e2 e3;have hab:Zbd lo w x y p.A p.B:=⟨vs,h1,h2⟩;obtain⟨a,c1,rfl,hA⟩:=hab.reads;obtain⟨b,c2,rfl,hb,hb2,_⟩:=Zaw hab.b;obtain⟨c,c3,rfl,hc,_⟩:=Zai h3;refine⟨⟨a,b,c,c1,c2,c3,rfl,rfl,rfl,hA,Zat.Zcb hb fun q hq=>(hb2 q hq).2,?_⟩,fun b' n c' e=>?_⟩
 ·exact hc
 ·injection e with e1 e2 e3
  subst e3;obtain⟨_,⟨e4,h4⟩ | ⟨g,cap,cur,e4,_,_,hnc,_⟩⟩:=hab.b
  ·omega
  ·injection e4 with e5 e6 e7
   omega
theorem RsLP.Zbe {lo hi:Nat} {w:World} {x y z:Value} {p:P} (h:RsLP lo hi w (.agg #[x,y,z]) p):LpC w x y z p:=h.Zgu.1
theorem Zhz.res {p:P} {k:Bool} {w w':World} {e:Ending} (h:Zhz p k w e w'):(∃x y z:Value,e=.returned (.tuple #[.agg #[x,y,z],.bool k])/\RsLP w.heap.size w'.heap.size w' (.agg #[x,y,z]) p)/\Below w.heap.size w w':=by
 obtain⟨vA,vB,vC,he,h1,h2,hb⟩:=h;exact⟨⟨vA,vB,vC,he,RsLP.of h1 h2⟩,hb⟩
def Z4e (w w':World):Prop:=∀b T,TyAt w b T->T≠3->w'.heap[b]? = w.heap[b]?
def mkM (k0:Nat) (A:List (List Int)):Nat->List (List Int)
 | 0=>A
 | k+1=>(mkM k0 A k).set k (Zc2 (k0+cellsOf (A.take k)) (rw_ A k).length)
def lprN (p:P):Int:=1+(cellsOf p.A:Int)+(p.B.length:Int)+2*(p.C.length:Int)
def Z3w (p:P):P:=⟨mkM 1 p.A p.A.length,Zc2 (1+cellsOf p.A) p.B.length,Zbo (1+cellsOf p.A+p.B.length) p.C.length⟩
def Z1x (p:P):Prop:=lpN p≤1048576
theorem Z1x.ok {p:P} (h:Z1x p):LpOk p:=lpOk h
open Le (Lst)
theorem five {w:World} {q:Nat} {x n d y z:Value} {t:TypeId} (h:Zac w q #[x,n,d,y,z] t) :
  w.cell? ⟨q,0,none⟩=some x/\w.cell? ⟨q,1,none⟩=some n/\w.cell? ⟨q,2,none⟩=some d/\w.cell? ⟨q,3,none⟩=some y/\w.cell? ⟨q,4,none⟩=some z:=⟨h.cell 0,h.cell 1,h.cell 2,h.cell 3,h.cell 4⟩
theorem Zmb {w:World} {q:Nat} {x n d y z:Value} {t:TypeId} (h:Zac w q #[x,n,d,y,z] t) :
  w.frozen? ⟨q,0,none⟩=false/\w.frozen? ⟨q,1,none⟩=false/\w.frozen? ⟨q,2,none⟩=false/\w.frozen? ⟨q,3,none⟩=false/\w.frozen? ⟨q,4,none⟩=false:=⟨h.free 0,h.free 1,h.free 2,h.free 3,h.free 4⟩
def Z3h (r:Lst):Prop:=r.point.length≤9223372036854775807/\r.weights.length≤9223372036854775807
def lstN (r:Lst):Nat:=r.point.length+r.weights.length
def Zhy (r:Lst):Prop:=lstN r≤1048576
theorem Z3v {r:Lst} (h:lstN r≤1048576):Zhy r:=h
theorem Zhy.p {r:Lst} (h:Zhy r):r.point.length≤1048576:=by unfold Zhy lstN at h;omega
theorem Zhy.w {r:Lst} (h:Zhy r):r.weights.length≤1048576:=by unfold Zhy lstN at h;omega
def LstC (w:World) (x n d y z:Value) (r:Lst):Prop:=x=.bool r.ok/\n=.int .i64 r.ex.1/\d=.int .i64 r.ex.2/\Zeu w y r.point/\Zeu w z r.weights
def Zgd (lo hi:Nat) (w:World) (v:Value) (r:Lst):Prop:=∃(y z:Value) (l1 n1 l2 n2:Nat),v=.agg #[.bool r.ok,.int .i64 r.ex.1,.int .i64 r.ex.2,y,z]/\Zev l1 n1 w y r.point/\Zev l2 n2 w z r.weights/\(lo≤l1/\n1≤hi/\lo≤l2/\n2≤hi)/\(∀k,l1≤k->k<n1->k<l2\/n2≤k)/\hi≤w.heap.size
theorem LstC.up {w w':World} {x n d y z:Value} {r:Lst} (h:LstC w x n d y z r) (hb:Below w.heap.size w w'):LstC w' x n d y z r:=⟨h.1,h.2.1,h.2.2.1,h.2.2.2.1.up hb,h.2.2.2.2.up hb⟩
theorem LstC.one {w:World} {x n d y z:Value} {r:Lst} (h:LstC w x n d y z r):x.oneCell'=true/\n.oneCell'=true/\d.oneCell'=true/\y.oneCell'=true/\z.oneCell'=true:=by
 obtain⟨rfl,rfl,rfl,⟨a,c,rfl,_⟩,⟨b,d,rfl,_⟩⟩:=h;exact⟨rfl,rfl,rfl,rfl,rfl⟩
theorem LstC.rg {w:World} {x n d y z:Value} {r:Lst} (h:LstC w x n d y z r):Rg (fun w'=>LstC w' x n d y z r) 0 w.heap.size w:=
 ⟨h,Nat.le_refl _,fun w' hs hk=>⟨h.1,h.2.1,h.2.2.1,h.2.2.2.1.rg.on w' hs hk,h.2.2.2.2.rg.on w' hs hk⟩⟩
theorem Zgd.rg {lo hi:Nat} {w:World} {v:Value} {r:Lst} (h:Zgd lo hi w v r):Rg (fun w'=>Zgd lo hi w' v r) lo hi w:=by
 have h0:=h;obtain⟨y,z,l1,n1,l2,n2,rfl,r1,r2,⟨q1,q2,q3,q4⟩,hd,hh⟩:=h;exact⟨h0,hh,fun w' hs hk=>⟨y,z,l1,n1,l2,n2,rfl,r1.rg.on w' hs fun k k1 k2=>hk k (by omega) (by omega),r2.rg.on w' hs fun k k1 k2=>hk k (by omega) (by omega),⟨q1,q2,q3,q4⟩,hd,Nat.le_trans hh hs⟩⟩
theorem Zgd.Zbe {lo hi:Nat} {w:World} {x n d y z:Value} {r:Lst} (h:Zgd lo hi w (.agg #[x,n,d,y,z]) r):LstC w x n d y z r:=by
 obtain⟨y',z',l1,n1,l2,n2,e,r1,r2,_⟩:=h;injection e with e
 have e0:x=.bool r.ok:=by have:=congrArg (fun q=>q[0]?) e;simpa using this
 have e1:n=.int .i64 r.ex.1:=by have:=congrArg (fun q=>q[1]?) e;simpa using this
 have e2:d=.int .i64 r.ex.2:=by have:=congrArg (fun q=>q[2]?) e;simpa using this
 have e3:y=y':=by have:=congrArg (fun q=>q[3]?) e;simpa using this
 have e4:z=z':=by have:=congrArg (fun q=>q[4]?) e;simpa using this
 subst e0 e1 e2 e3 e4;exact⟨rfl,rfl,rfl,r1.reads,r2.reads⟩
theorem Zq0 {w:World} {x n d y z x' n' d' y' z':Value} {r:Lst} (h:LstC w x n d y z r) (h':LstC w x' n' d' y' z' r) (hf:Zhy r) :
  Calls Tryz.prog 50 #[.agg #[x,n,d,y,z],.agg #[x',n',d',y',z']] w fun e w'=>e=.returned (.bool true)/\Below w.heap.size w w':=by
 obtain⟨rfl,rfl,rfl,h1,h2⟩:=h;obtain⟨rfl,rfl,rfl,h1',h2'⟩:=h';have hp:=hf.p;have hw:=hf.w;have hb:=((Below.refl w.heap.size w).alloc (Nat.le_refl _) (.cells #[.bool r.ok,.int .i64 r.ex.1,.int .i64 r.ex.2,y,z] 65)).alloc (by rw[Zar];omega) (.cells #[.bool r.ok,.int .i64 r.ex.1,.int .i64 r.ex.2,y',z'] 65);have hc0:=(Zac.new w #[.bool r.ok,.int .i64 r.ex.1,.int .i64 r.ex.2,y,z] 65).more (.cells #[.bool r.ok,.int .i64 r.ex.1,.int .i64 r.ex.2,y',z'] 65);have hc1:=Zac.new (w.alloc (.cells #[.bool r.ok,.int .i64 r.ex.1,.int .i64 r.ex.2,y,z] 65)) #[.bool r.ok,.int .i64 r.ex.1,.int .i64 r.ex.2,y',z'] 65;rw[Zar] at hc1;have H1:=zH (h1.up hb);have H1':=zH (h1'.up hb);have H2:=zH (h2.up hb);have H2':=zH (h2'.up hb);have HB:=zH hb;have HC0:=zH hc0;have HC1:=zH hc1;obtain⟨q0,q1,q2,q3,q4⟩:=five hc0;obtain⟨p0,p1,p2,p3,p4⟩:=five hc1;obtain⟨a1,c1,e1,_⟩:=h1;obtain⟨a2,c2,e2,_⟩:=h2;obtain⟨a3,c3,e3,_⟩:=h1';obtain⟨a4,c4,e4,_⟩:=h2';subst e1 e2 e3 e4;have hne:(r.ok != r.ok)=false:=Zyo _;clear hb hc0 hc1 hf
 go_enter Tryz.func50,Tryz.ntmps50
 go_wp2_with fail
 generalize (w.alloc (.cells #[.bool r.ok,.int .i64 r.ex.1,.int .i64 r.ex.2,.slice a1 r.point.length c1,.slice a2 r.weights.length c2] 65)).alloc (.cells #[.bool r.ok,.int .i64 r.ex.1,.int .i64 r.ex.2,.slice a3 r.point.length c3,.slice a4 r.weights.length c4] 65)=W at *;refine (Zm8 r.ex.1 r.ex.2 _).mono ?_;rintro e w0 ⟨rfl,k1⟩
 replace HB:=zH (HB.out.trans (k1.mono HB.out.size))
 replace H1:=zH (H1.out.up k1)
 replace H1':=zH (H1'.out.up k1)
 replace H2:=zH (H2.out.up k1)
 replace H2':=zH (H2'.out.up k1)
 replace HC0:=zH (HC0.out.below k1)
 replace HC1:=zH (HC1.out.below k1)
 clear k1 q0 q1 q2 q3 q4 p0 p1 p2 p3 p4;obtain⟨q0,q1,q2,q3,q4⟩:=five HC0.out;obtain⟨p0,p1,p2,p3,p4⟩:=five HC1.out
 go_wp2_with fail
 refine (Zse H1.out H1'.out hp).mono ?_;rintro e w1 ⟨rfl,k1⟩;have HB1:=zH (HB.out.trans (k1.mono HB.out.size));have H3:=zH (H2.out.up k1);have H3':=zH (H2'.out.up k1);have HC2:=zH (HC0.out.below k1);have HC3:=zH (HC1.out.below k1);clear k1 q0 q1 q2 q3 q4 p0 p1 p2 p3 p4 HC0 HC1 H1 H1' H2 H2';obtain⟨q0,q1,q2,q3,q4⟩:=five HC2.out;obtain⟨p0,p1,p2,p3,p4⟩:=five HC3.out
 go_wp2_with fail
 refine (Zse H3.out H3'.out hw).mono ?_;rintro e w2 ⟨rfl,k2⟩;have HB2:=zH (HB1.out.trans (k2.mono HB1.out.size));clear k2 q0 q1 q2 q3 q4 p0 p1 p2 p3 p4
 go_wp2_with fail
 go_ret;exact⟨rfl,HB2.out⟩
def Zj8 (r:Lst):Lst:=⟨r.ok,r.ex,Zbo 1 r.point.length,Zbo (1+2*r.point.length) r.weights.length⟩
def Zji (r:Lst):Int:=1+2*(r.point.length:Int)+2*(r.weights.length:Int)
theorem Zvy {r:Lst} (h:Zhy r):1≤Zji r/\Zji r≤4194304:=by
 unfold Zhy lstN at h;unfold Zji;omega
theorem Zvx {lo hi:Nat} {w:World} {v:Value} {r:Lst} (h:Zgd lo hi w v r) (hf:Zhy r) :
  Calls Tryz.prog 53 #[v,.int .i64 1] w fun e w'=>e=.returned (.int .i64 (Zji r))/\Zgd lo hi w' v (Zj8 r)/\Turned lo hi w w':=by
 obtain⟨y,z,l1,n1,l2,n2,rfl,r1,r2,⟨q1,s1,q2,s2⟩,hd,hh⟩:=h;have hp:=hf.p;have hw:=hf.w;have hb:=(Below.refl w.heap.size w).alloc (Nat.le_refl _) (.cells #[.bool r.ok,.int .i64 r.ex.1,.int .i64 r.ex.2,y,z] 65);have H1:=zH (r1.rg.below hb);have H2:=zH (r2.rg.below hb);have HQ:=zH (Zac.new w #[.bool r.ok,.int .i64 r.ex.1,.int .i64 r.ex.2,y,z] 65);have HT:Hid (Turned lo hi w (w.alloc (.cells #[.bool r.ok,.int .i64 r.ex.1,.int .i64 r.ex.2,y,z] 65))):=(Turned.refl lo hi w).step hb;obtain⟨ay,cy,ey,_⟩:=r1.reads;obtain⟨az,cz,ez,_⟩:=r2.reads;subst ey ez;obtain⟨b0,b1,b2,b3,b4⟩:=five HQ.out;clear hb r1 r2 hf
 go_enter Tryz.func53,Tryz.ntmps53
 go_wp2_with fail
 generalize w.alloc (.cells #[.bool r.ok,.int .i64 r.ex.1,.int .i64 r.ex.2,.slice ay r.point.length cy,.slice az r.weights.length cz] 65)=W at *;refine (Zna H1.out.get hp 1 (by omega) (by omega)).mono ?_;rintro e w2 ⟨rfl,hs,ht⟩;have hne:∀k,l1≤k->k<n1->(k<l2\/n2≤k):=hd;have HT1:Hid (Turned l1 n1 W w2):=ht;have HS1:=zH hs.rg;have HS2:Hid (Rg (fun w'=>Zev l2 n2 w' (.slice az r.weights.length cz) r.weights) l2 n2 w2):=H2.out.same ht.size fun k k1 k2=>ht.block k (by have:=H2.out.size;omega) (by
  rcases Nat.lt_or_ge k l1 with h|h
  ·exact .inl h
  ·rcases Nat.lt_or_ge k n1 with h' | h'
   ·rcases hd k h h' with h9|h9<;>omega
   ·exact .inr h')
 have HQ2:=zH ((ht.block w.heap.size (Zab HQ.out) (.inr (by omega))).trans HQ.out:Zac w2 w.heap.size #[.bool r.ok,.int .i64 r.ex.1,.int .i64 r.ex.2,.slice ay r.point.length cy,.slice az r.weights.length cz] 65);have HT2:=zH (HT.out.trans (ht.wider q1 s1));clear hs ht H1 H2 HQ HT b0 b1 b2 b3 b4 hne;obtain⟨b0,b1,b2,b3,b4⟩:=five HQ2.out
 go_wp2_with fail
 refine (Zna HS2.out.get hw (1+2*(r.point.length:Int)) (by omega) (by omega)).mono ?_;rintro e w3 ⟨rfl,hs,ht⟩;have HS3:=zH hs.rg;have HS4:Hid (Rg (fun w'=>Zev l1 n1 w' (.slice ay r.point.length cy) (Zbo 1 r.point.length)) l1 n1 w3):=HS1.out.same ht.size fun k k1 k2=>ht.block k (by have:=HS1.out.size;omega) (hd k k1 k2)
 have HT3:=zH (HT2.out.trans (ht.wider q2 s2));clear hs ht HS1 HS2 HQ2 HT2 b0 b1 b2 b3 b4
 go_wp2_with fail
 go_ret;refine⟨Za8 (by unfold Zji;omega),⟨.slice ay r.point.length cy,.slice az r.weights.length cz,l1,n1,l2,n2,?_,?_,?_,⟨q1,s1,q2,s2⟩,hd,Nat.le_trans hh HT3.out.size⟩,HT3.out⟩
 ·unfold Zj8
  rfl
 ·exact HS4.out.get
 ·have h9:=HS3.out.get
  rw[show (1+2*(r.point.length:Int)).toNat=1+2*r.point.length by omega] at h9;exact h9
theorem Zpc {w:World} {x n d y z:Value} {r:Lst} (h:LstC w x n d y z (Zj8 r)) (hf:Zhy r) :
  Calls Tryz.prog 54 #[.agg #[x,n,d,y,z],.int .i64 1] w fun e w'=>e=.returned (.int .i64 (Zji r))/\Below w.heap.size w w':=by
 obtain⟨rfl,rfl,rfl,h1,h2⟩:=h;have hp:=hf.p;have hw:=hf.w;have e2:(Zj8 r).weights=Zbo (1+2*(r.point.length:Int)).toNat r.weights.length:=by rw[show (1+2*(r.point.length:Int)).toNat=1+2*r.point.length by omega];rfl
 rw[e2] at h2;have h1:Zeu w y (Zbo (1:Int).toNat r.point.length):=h1;have hb:=(Below.refl w.heap.size w).alloc (Nat.le_refl _) (.cells #[.bool r.ok,.int .i64 r.ex.1,.int .i64 r.ex.2,y,z] 65);have H1:=zH (h1.up hb);have H2:=zH (h2.up hb);have HQ:=zH (Zac.new w #[.bool r.ok,.int .i64 r.ex.1,.int .i64 r.ex.2,y,z] 65);have HB:=zH hb;obtain⟨ay,cy,ey,_⟩:=h1;obtain⟨az,cz,ez,_⟩:=h2;rw[Zd0] at ey ez;subst ey ez;show Calls Tryz.prog 54 #[.agg #[.bool r.ok,.int .i64 r.ex.1,.int .i64 r.ex.2,.slice ay r.point.length cy,.slice az r.weights.length cz],.int .i64 1] w _;obtain⟨q0,q1,q2,q3,q4⟩:=five HQ.out;have n1:decide (1+2*(r.point.length:Int)<0)=false:=by rw[decide_eq_false_iff_not];omega
 have n2:decide (1+2*(r.point.length:Int)+2*(r.weights.length:Int)<0)=false:=by rw[decide_eq_false_iff_not];omega
 clear hb hf e2
 go_enter Tryz.func54,Tryz.ntmps54
 go_wp2_with fail
 generalize w.alloc (.cells #[.bool r.ok,.int .i64 r.ex.1,.int .i64 r.ex.2,.slice ay r.point.length cy,.slice az r.weights.length cz] 65)=W at *;refine (Zm5 1 H1.out hp (by omega) (by omega)).mono ?_;rintro e w2 ⟨rfl,k2⟩;have H3:=zH (H2.out.up k2);have HQ2:=zH (HQ.out.below k2);have HB2:=zH (HB.out.trans (k2.mono HB.out.size));clear k2 H1 H2 HQ HB q0 q1 q2 q3 q4;obtain⟨q0,q1,q2,q3,q4⟩:=five HQ2.out
 go_wp2_with fail
 refine (Zm5 (1+2*(r.point.length:Int)) H3.out hw (by omega) (by omega)).mono ?_;rintro e w3 ⟨rfl,k3⟩;have HB3:=zH (HB2.out.trans (k3.mono HB2.out.size));clear k3 q0 q1 q2 q3 q4
 go_wp2_with fail
 go_ret;exact⟨Za8 (by unfold Zji;omega),HB3.out⟩
end Go.Proofs.YtlohljkfphljgaaGreat
