/- The parts RaEq, RaA, RaB, RaC, RaD, RaE, RaF, RaL0. -/
import Derived.Test.YtpjnjidbdpfdcaaGreatGB
import Derived.Test.YtpjnjidbdpfdcaaGreatGM
set_option maxHeartbeats 2000000
namespace Go.Proofs.YtpjnjidbdpfdcaaGreat
open Go.RowKit
theorem Zqu:Tryz.prog.underlying 35=some (.struct (Tryz.prog.fieldsOf 35)):=by kernel_rfl
theorem Znp:Tryz.prog.stoodInHeld 35=false:=by kernel_rfl
theorem Zlz:Tryz.prog.eqGuardType Tryz.prog.depth 35=false:=by kernel_rfl
theorem Zkw:(Tryz.prog.fieldsOf 35).toList.map (fun f=>(f.name,f.type,f.offset)) = [("Num",3,0),("Den",3,1)]:=by kernel_rfl
theorem Zlr (a b c d:Int) (w:World):(Op.equalIn 10000 35 (.agg #[.int .i64 a,.int .i64 b]) (.agg #[.int .i64 c,.int .i64 d])).run Tryz.prog w=.ok (a == c && b == d) w:=by
 have hf:=Zkw;rw[run_equalIn_agg _ _ _ _ _ Zqu Znp];generalize (Tryz.prog.fieldsOf 35).toList=fs at hf;obtain⟨f0,f1,rfl⟩:∃f0 f1,fs = [f0,f1]:=by
  have hl:fs.length=2:=by have:=congrArg List.length hf;rw[List.length_map] at this;exact this
  exact⟨fs[0],fs[1],List.ext_getElem (by simp[hl]) (fun i h1 h2=>by
   have:i=0\/i=1:=by omega
   rcases this with rfl|rfl<;>rfl)⟩
 simp at hf;obtain⟨⟨n0,t0,o0⟩,n1,t1,o1⟩:=hf;unfold Op.eqFields;simp[n0,t0,o0,n1,t1,o1,go_sem,Op.eqFields]
 by_cases h1:a=c<;>by_cases h2:b=d<;>simp[h1,h2]
theorem Zcu (a b c d:Int) (w:World):(binOp .eql 35 (.agg #[.int .i64 a,.int .i64 b]) (.agg #[.int .i64 c,.int .i64 d])).run Tryz.prog w=.ok (.bool (a == c && b == d)) w:=by
 rw[run_eql_struct,Zlr];rfl
theorem Zop (a b c d:Int) (w:World):(binOp .neq 35 (.agg #[.int .i64 a,.int .i64 b]) (.agg #[.int .i64 c,.int .i64 d])).run Tryz.prog w=.ok (.bool (!(a == c && b == d))) w:=by
 rw[run_neq_struct,Zlr];rfl
theorem Zb5 (op:BinOp) (x y:Operand) (xs ys:Array Value) (w:World):(eqGuard op 35 x y (.agg xs) (.agg ys)).run Tryz.prog w=.ok () w:=run_eqGuard_agg w op _ x y xs ys Zlz
theorem Zbf (n:Int) (w:World):Calls Tryz.prog 61 #[.int .i64 n] w fun e w'=>e=.returned (.agg #[.int .i64 n,.int .i64 1])/\Below w.heap.size w w':=by
 go_enter Tryz.func61,Tryz.ntmps61
 go_wp2_with fail
 exact bodyPost_ret (v:=.agg #[.int .i64 n,.int .i64 1]) (by simp[results,Tryz.results61,go_sem]) rfl ⟨rfl,by (repeat' (first|exact Below.refl _ _|exact Nat.le_refl _|refine Below.setCell ?_ ?_ _|refine Below.alloc ?_ ?_ _|refine below_drewN ?_ _|refine Below.drew ?_ | (simp;done) | (simp;omega)))⟩
theorem Zee (a b:Int) (ha:-1000000000000000000≤a) (ha':a≤1000000000000000000) (hb:-1000000000000000000≤b) (hb':b≤1000000000000000000) (w:World) :
  Calls Tryz.prog 69 #[.int .i64 a,.int .i64 b] w fun e w'=>e=.returned (.int .i64 (Int.gcd a b:Int))/\w=w':=by
 obtain⟨G,hG⟩:∃G:Nat,G=Int.gcd a b:=⟨_,rfl⟩;rw[<-hG];have hG0:Hid (Nat.gcd a.natAbs b.natAbs=G):=by show _=_;rw[hG,Int.gcd_eq_natAbs_gcd_natAbs]
 clear hG
 by_cases h1:a<0<;>by_cases h2:b<0
 all_goals
  first
  | have hd1:decide (a<0)=true:=by rw[decide_eq_true_iff];exact h1
  | have hd1:decide (a<0)=false:=by rw[decide_eq_false_iff_not];exact h1
  first
  | have hd2:decide (b<0)=true:=by rw[decide_eq_true_iff];exact h2
  | have hd2:decide (b<0)=false:=by rw[decide_eq_false_iff_not];exact h2
  go_enter Tryz.func69,Tryz.ntmps69
  go_wp2_with fail
  go_loop [0,1] (fun u v=>∃x y:Nat,x≤1000000000000000000/\y≤1000000000000000000/\u=.int .i64 x/\v=.int .i64 y/\Hid (Nat.gcd x y=G)) (fun _ v=>(intOf v).toNat)
  case atStart=>exact⟨a.natAbs,b.natAbs,by omega,by omega,by first | (congr 1;omega) | skip,by first | (congr 1;omega) | skip,hG0⟩
  case round=>
   obtain⟨x,y,hx,hy,rfl,rfl,hg⟩:=hrel
   by_cases hlt:0<y
   ·have hg2:Hid (Nat.gcd y (x % y)=G):=by show _=_;rw[Nat.gcd_comm,<-Nat.gcd_rec,Nat.gcd_comm];exact hg.out
    have hm:=Nat.mod_lt x hlt
    go_wp2_with fail
    go_round
    case rel=>exact⟨y,x % y,by omega,by omega,rfl,by rw[Int.natCast_emod],hg2⟩
    case measure=>simp[intOf];omega
   ·have he:y=0:=by omega
    have hf:Hid ((x:Int)=(G:Int)):=by show _=_;rw[<-hg.out,he,Nat.gcd_zero_right]
    clear hg;subst he
    go_wp2_with fail
    go_ret;exact⟨Zcd hf.out,rfl⟩
theorem Zaf (n d:Int) (b:Bool) (h:Ra.vld n d=b) (w:World):Calls Tryz.prog 51 #[.agg #[.int .i64 n,.int .i64 d]] w fun e w'=>e=.returned (.bool b)/\Below w.heap.size w w':=by
 rcases hd:decide ((1:Int)≤d/\d≤1000000000) with _|_
 ·have Hd:=zH hd
  have Hr:=zH (show false=b by
   rw[<-h];symm
   rcases hv:Ra.vld n d with _|_
   ·rfl
   ·have:=Ra.Zbw hv;rw[decide_eq_false_iff_not] at hd;omega)
  clear hd h
  go_enter Tryz.func51,Tryz.ntmps51
  go_wp2_with fail
  refine (Zap d 1 1000000000 false Hd.out _).mono ?_;rintro e w1 ⟨rfl,rfl⟩
  go_wp2_with fail
  go_ret;exact⟨Zac Hr.out,(Below.refl _ _).alloc (Nat.le_refl _) _⟩
 ·rcases hn:decide ((-1000000000:Int)≤n/\n≤1000000000) with _|_
  ·have Hd:=zH hd
   have Hn:=zH hn;have Hr:=zH (show false=b by
    rw[<-h];symm
    rcases hv:Ra.vld n d with _|_
    ·rfl
    ·have:=Ra.Zbw hv;rw[decide_eq_false_iff_not] at hn;omega)
   clear hd hn h
   go_enter Tryz.func51,Tryz.ntmps51
   go_wp2_with fail
   refine (Zap d 1 1000000000 true Hd.out _).mono ?_;rintro e w1 ⟨rfl,rfl⟩
   go_wp2_with fail
   refine (Zap n (-1000000000) 1000000000 false Hn.out _).mono ?_;rintro e w1 ⟨rfl,rfl⟩
   go_wp2_with fail
   go_ret;exact⟨Zac Hr.out,(Below.refl _ _).alloc (Nat.le_refl _) _⟩
  ·have Hd:=zH hd
   have Hn:=zH hn;rw[decide_eq_true_iff] at hd hn;obtain⟨d0,d1⟩:=hd;obtain⟨n0,n1⟩:=hn;have Hr:=zH (show ((Int.gcd n d:Int) == 1)=b by
    rw[<-h,Bool.eq_iff_iff,beq_iff_eq];unfold Ra.vld;rw[decide_eq_true_iff];omega)
   clear h
   go_enter Tryz.func51,Tryz.ntmps51
   go_wp2_with fail
   refine (Zap d 1 1000000000 true Hd.out _).mono ?_;rintro e w1 ⟨rfl,rfl⟩
   go_wp2_with fail
   refine (Zap n (-1000000000) 1000000000 true Hn.out _).mono ?_;rintro e w1 ⟨rfl,rfl⟩
   go_wp2_with fail
   refine (Zee n d (by omega) (by omega) (by omega) (by omega) _).mono ?_;rintro e w1 ⟨rfl,rfl⟩
   go_wp2_with fail
   go_ret;exact⟨Zac Hr.out,(Below.refl _ _).alloc (Nat.le_refl _) _⟩
def ratV (n d:Int) (k:Bool):Value:=.tuple #[.agg #[.int .i64 n,.int .i64 d],.bool k]
theorem Zfr {n d n' d':Int} {k k':Bool} (h1:n=n') (h2:d=d') (h3:k=k'):Ending.returned (.tuple #[.agg #[.int .i64 n,.int .i64 d],.bool k])=.returned (.tuple #[.agg #[.int .i64 n',.int .i64 d'],.bool k']):=by rw[h1,h2,h3]
theorem Zgb (n d:Int) (h:d=0\/Ra.wide n=false\/Ra.wide d=false) (w:World) :
  Calls Tryz.prog 52 #[.int .i64 n,.int .i64 d] w fun e w'=>e=.returned (.tuple #[.agg #[.int .i64 0,.int .i64 0],.bool false])/\Below w.heap.size w w':=by
 by_cases h0:d=0
 ·subst h0
  clear h
  go_enter Tryz.func52,Tryz.ntmps52
  go_wp2_with fail
  exact bodyPost_ret (v:=.tuple #[.agg #[.int .i64 0,.int .i64 0],.bool false]) (by simp[results,Tryz.results52,go_sem]) rfl ⟨rfl,(Below.refl _ _).alloc (Nat.le_refl _) _⟩
 ·have hb:(d == 0)=false:=by rw[beq_eq_false_iff_ne];exact h0
  rcases hn:Ra.wide n with _|_
  ·have Hn:=zH (show decide ((-1000000000000000000:Int)≤n/\n≤1000000000000000000)=false by unfold Ra.wide at hn;exact hn)
   clear hn h
   go_enter Tryz.func52,Tryz.ntmps52
   go_wp2_with fail
   refine (Zap n _ _ false Hn.out _).mono ?_;rintro e w1 ⟨rfl,rfl⟩
   go_wp2_with fail
   exact bodyPost_ret (v:=.tuple #[.agg #[.int .i64 0,.int .i64 0],.bool false]) (by simp[results,Tryz.results52,go_sem]) rfl ⟨rfl,(Below.refl _ _).alloc (Nat.le_refl _) _⟩
  ·have Hn:=zH (show decide ((-1000000000000000000:Int)≤n/\n≤1000000000000000000)=true by unfold Ra.wide at hn;exact hn)
   have Hd:=zH (show decide ((-1000000000000000000:Int)≤d/\d≤1000000000000000000)=false by rcases h with h|h|h<;>simp_all [Ra.wide]);clear hn h
   go_enter Tryz.func52,Tryz.ntmps52
   go_wp2_with fail
   refine (Zap n _ _ true Hn.out _).mono ?_;rintro e w1 ⟨rfl,rfl⟩
   go_wp2_with fail
   refine (Zap d _ _ false Hd.out _).mono ?_;rintro e w1 ⟨rfl,rfl⟩
   go_wp2_with fail
   exact bodyPost_ret (v:=.tuple #[.agg #[.int .i64 0,.int .i64 0],.bool false]) (by simp[results,Tryz.results52,go_sem]) rfl ⟨rfl,(Below.refl _ _).alloc (Nat.le_refl _) _⟩
theorem Zhg (n d:Int) (h0:d≠0) (hn:Ra.wide n=true) (hd:Ra.wide d=true) (w:World) :
  Calls Tryz.prog 52 #[.int .i64 n,.int .i64 d] w fun e w'=>e=.returned (.tuple #[.agg #[.int .i64 (Ra.rn n d),.int .i64 (Ra.rd n d)],.bool (Ra.fits n d)])/\Below w.heap.size w w':=by
 have hb:(d == 0)=false:=by rw[beq_eq_false_iff_ne];exact h0
 have Hn:=zH (show decide ((-1000000000000000000:Int)≤n/\n≤1000000000000000000)=true by unfold Ra.wide at hn;exact hn);have Hd:=zH (show decide ((-1000000000000000000:Int)≤d/\d≤1000000000000000000)=true by unfold Ra.wide at hd;exact hd);have hfit:=Ra.Zlv h0 hn hd;obtain⟨n0,n1⟩:=Ra.Zd4 hn;obtain⟨d0,d1⟩:=Ra.Zd4 hd;clear hn hd;obtain⟨nb0,nb1⟩:=Ra.Zoq h0 n0 n1;obtain⟨db0,db1⟩:=Ra.Zoh (n:=n) h0 d0 d1;have hgp:=Ra.Zdi (n:=n) h0;have hq1:d<0->(-n).tdiv (Int.gcd n d:Int)=Ra.num n d/\-(d.tdiv (Int.gcd n d:Int))=Ra.den n d:=fun h=>⟨Ra.Zkl h,by rw[<-Ra.Zlp h,<-Int.neg_tdiv,Int.tdiv_eq_ediv_of_nonneg (by omega)]⟩
 have hq2:¬d<0->n.tdiv (Int.gcd n d:Int)=Ra.num n d/\d.tdiv (Int.gcd n d:Int)=Ra.den n d:=fun h=>⟨Ra.Zif h,by rw[<-Ra.Zjp h,Int.tdiv_eq_ediv_of_nonneg (by omega)]⟩
 have hc1:d<0->∀w:World,Calls Tryz.prog 69 #[.int .i64 (-n),.int .i64 (-d)] w fun e w'=>e=.returned (.int .i64 (Int.gcd n d:Int))/\w=w':=fun _ w=>by
  have:=Zee (-n) (-d) (by omega) (by omega) (by omega) (by omega) w;rw[Int.neg_gcd,Int.gcd_neg] at this;exact this
 have hc2:∀w:World,Calls Tryz.prog 69 #[.int .i64 n,.int .i64 d] w fun e w'=>e=.returned (.int .i64 (Int.gcd n d:Int))/\w=w':=fun w=>Zee n d (by omega) (by omega) (by omega) (by omega) w
 have hyes:Ra.vld (Ra.num n d) (Ra.den n d)=true->Ra.num n d=Ra.rn n d/\Ra.den n d=Ra.rd n d:=fun h=>by have:=Ra.Zmo (hfit.trans h);exact⟨this.1.symm,this.2.symm⟩
 have hno:Ra.vld (Ra.num n d) (Ra.den n d)=false->Ra.rn n d=0/\Ra.rd n d=0:=fun h=>Ra.Zje (hfit.trans h)
 generalize Ra.num n d=N at *;generalize Ra.den n d=D at *;obtain⟨g,hg⟩:∃g:Int,g=(Int.gcd n d:Int):=⟨_,rfl⟩;rw[<-hg] at hq1 hq2 hc1 hc2;have hg1:1≤g:=by omega
 clear hg hgp;have Hc1:=zH hc1;have Hc2:=zH hc2;clear hc1 hc2
 by_cases hs:d<0
 all_goals
  first
  | have hsb:decide (d<0)=true:=by rw[decide_eq_true_iff];exact hs
  | have hsb:decide (d<0)=false:=by rw[decide_eq_false_iff_not];exact hs
  first
  | (obtain⟨q1,q2⟩:=hq1 hs;have Hc:=zH (Hc1.out hs))
  | (obtain⟨q1,q2⟩:=hq2 hs;have Hc:=zH Hc2.out)
  clear hq1 hq2 Hc1 Hc2
  rcases hv:Ra.vld N D with _|_
  ·have Hv:=zH hv
   obtain⟨r1,r2⟩:=hno hv;have R1:=zH r1.symm;have R2:=zH r2.symm;have R3:=zH (hfit.trans hv).symm;clear hv hno hyes hfit r1 r2
   go_enter Tryz.func52,Tryz.ntmps52
   go_wp2_with fail
   refine (Zap n _ _ true Hn.out _).mono ?_;rintro e w1 ⟨rfl,rfl⟩
   go_wp2_with fail
   refine (Zap d _ _ true Hd.out _).mono ?_;rintro e w1 ⟨rfl,rfl⟩
   go_wp2_with fail
   refine (Hc.out _).mono ?_;rintro e w1 ⟨rfl,rfl⟩
   go_wp2_with fail
   go_region
   go_wp2_with fail
   refine (Zaf N D false Hv.out _).mono ?_;rintro e w1 ⟨rfl,hb1⟩;obtain⟨hc,hf⟩:=Zqd hb1;have c0:w1.cell? ⟨w.heap.size,0,none⟩=some (.int .i64 0):=by rw[hc _ _ (by simp<;>omega)];simp
   have c1:w1.cell? ⟨w.heap.size,1,none⟩=some (.int .i64 0):=by rw[hc _ _ (by simp<;>omega)];simp
   have Hb:=zH (fun (x y:Value)=>((((((Below.refl w.heap.size w).alloc (Nat.le_refl _) _).alloc (by simp) _).drew).trans (hb1.mono (by simp;omega))).setCell (p:=⟨w.heap.size,0,none⟩) (Nat.le_refl _) x).setCell (p:=⟨w.heap.size,1,none⟩) (Nat.le_refl _) y);clear hb1
   go_wp2_with fail
   exact bodyPost_ret (v:=.tuple #[.agg #[.int .i64 0,.int .i64 0],.bool false]) (by simp[results,Tryz.results52,go_sem,(Zae c0 c1).1,(Zae c0 c1).2]) rfl ⟨Zfr R1.out R2.out R3.out,Hb.out _ _⟩
  ·have Hv:=zH hv
   obtain⟨r1,r2⟩:=hyes hv;have R1:=zH r1;have R2:=zH r2;have R3:=zH (hfit.trans hv).symm;clear hv hno hyes hfit r1 r2
   go_enter Tryz.func52,Tryz.ntmps52
   go_wp2_with fail
   refine (Zap n _ _ true Hn.out _).mono ?_;rintro e w1 ⟨rfl,rfl⟩
   go_wp2_with fail
   refine (Zap d _ _ true Hd.out _).mono ?_;rintro e w1 ⟨rfl,rfl⟩
   go_wp2_with fail
   refine (Hc.out _).mono ?_;rintro e w1 ⟨rfl,rfl⟩
   go_wp2_with fail
   go_region
   go_wp2_with fail
   refine (Zaf N D true Hv.out _).mono ?_;rintro e w1 ⟨rfl,hb1⟩;obtain⟨hc,hf⟩:=Zqd hb1;have c0:w1.cell? ⟨w.heap.size,0,none⟩=some (.int .i64 0):=by rw[hc _ _ (by simp<;>omega)];simp
   have c1:w1.cell? ⟨w.heap.size,1,none⟩=some (.int .i64 0):=by rw[hc _ _ (by simp<;>omega)];simp
   have Hb:=zH (fun (x y:Value)=>((((((Below.refl w.heap.size w).alloc (Nat.le_refl _) _).alloc (by simp) _).drew).trans (hb1.mono (by simp;omega))).setCell (p:=⟨w.heap.size,0,none⟩) (Nat.le_refl _) x).setCell (p:=⟨w.heap.size,1,none⟩) (Nat.le_refl _) y);clear hb1
   go_wp2_with fail
   exact bodyPost_ret (v:=.tuple #[.agg #[.int .i64 N,.int .i64 D],.bool true]) (by simp[results,Tryz.results52,go_sem,(Zae c0 c1).1,(Zae c0 c1).2]) rfl ⟨Zfr R1.out R2.out R3.out,Hb.out _ _⟩
theorem Zdy (a b:Nat) (ha:a≤1000000000000000000) (hb:b≤1000000000000000000) (w:World) :
  Calls Tryz.prog 93 #[.int .i64 a,.int .i64 b] w fun e w'=>e=.returned (.int .i64 (Nat.gcd a b:Int))/\∃n,w'=w.drewN n:=by
 obtain⟨G,hG⟩:∃G:Nat,G=Nat.gcd a b:=⟨_,rfl⟩;rw[<-hG];have hG0:Hid (Nat.gcd a b=G):=hG.symm;clear hG
 go_enter Tryz.func93,Tryz.ntmps93
 go_wp2_with fail
 go_loopw [0,1] (fun u v wr=>∃x y k:Nat,x≤1000000000000000000/\y≤1000000000000000000/\u=.int .i64 x/\v=.int .i64 y/\Hid (Nat.gcd x y=G)/\wr=w.drewN k) (fun _ v _=>(intOf v).toNat)
 case atStart=>exact⟨a,b,0,ha,hb,rfl,rfl,hG0,rfl⟩
 case round=>
  obtain⟨x,y,k,hx,hy,rfl,rfl,hg,rfl⟩:=hrel
  by_cases hlt:0<y
  ·have hg2:Hid (Nat.gcd y (x % y)=G):=by show _=_;rw[Nat.gcd_comm,<-Nat.gcd_rec,Nat.gcd_comm];exact hg.out
   have hm:=Nat.mod_lt x hlt;have hne:((y:Int) != 0)=true:=by rw[bne_iff_ne];omega
   go_wp2_with fail
   go_quiet (fail)
   go_wp2_with fail
   go_roundw
   case rel=>exact⟨y,x % y,_,by omega,by omega,rfl,by rw[Int.natCast_emod],hg2,World.drewN_drewN _ _ _⟩
   case measure=>simp[intOf];omega
  ·have he:y=0:=by omega
   have hf:Hid ((x:Int)=(G:Int)):=by show _=_;rw[<-hg.out,he,Nat.gcd_zero_right]
   clear hg;subst he
   go_wp2_with fail
   go_ret;exact⟨Zcd hf.out,_,rfl⟩
theorem Zf5 (n d:Int) (h:d=0\/Ra.wide n=false\/Ra.wide d=false) (w:World) :
  Calls Tryz.prog 80 #[.int .i64 n,.int .i64 d] w fun e w'=>e=.returned (.tuple #[.agg #[.int .i64 0,.int .i64 0],.bool false])/\Below w.heap.size w w':=by
 by_cases h0:d=0
 ·subst h0
  clear h
  go_enter Tryz.func80,Tryz.ntmps80
  go_wp2_with fail
  exact bodyPost_ret (v:=.tuple #[.agg #[.int .i64 0,.int .i64 0],.bool false]) (by simp[results,Tryz.results80,go_sem]) rfl ⟨rfl,(Below.refl _ _).alloc (Nat.le_refl _) _⟩
 ·have hb:(d == 0)=false:=by rw[beq_eq_false_iff_ne];exact h0
  rcases hn:Ra.wide n with _|_
  ·have Hn:=zH (show decide (-(1000000000000000000:Int)≤n/\n≤1000000000000000000)=false by unfold Ra.wide at hn;exact hn)
   clear hn h
   go_enter Tryz.func80,Tryz.ntmps80
   go_wp2_with fail
   refine (Zao n _ false Hn.out (by decide) (by decide) _).mono ?_;rintro e w1 ⟨rfl,rfl⟩
   go_wp2_with fail
   exact bodyPost_ret (v:=.tuple #[.agg #[.int .i64 0,.int .i64 0],.bool false]) (by simp[results,Tryz.results80,go_sem]) rfl ⟨rfl,(Below.refl _ _).alloc (Nat.le_refl _) _⟩
  ·have Hn:=zH (show decide (-(1000000000000000000:Int)≤n/\n≤1000000000000000000)=true by unfold Ra.wide at hn;exact hn)
   have Hd:=zH (show decide (-(1000000000000000000:Int)≤d/\d≤1000000000000000000)=false by rcases h with h|h|h<;>simp_all [Ra.wide]);clear hn h
   go_enter Tryz.func80,Tryz.ntmps80
   go_wp2_with fail
   refine (Zao n _ true Hn.out (by decide) (by decide) _).mono ?_;rintro e w1 ⟨rfl,rfl⟩
   go_wp2_with fail
   refine (Zao d _ false Hd.out (by decide) (by decide) _).mono ?_;rintro e w1 ⟨rfl,rfl⟩
   go_wp2_with fail
   exact bodyPost_ret (v:=.tuple #[.agg #[.int .i64 0,.int .i64 0],.bool false]) (by simp[results,Tryz.results80,go_sem]) rfl ⟨rfl,(Below.refl _ _).alloc (Nat.le_refl _) _⟩
theorem Zg5 (n d:Int) (h0:d≠0) (hn:Ra.wide n=true) (hd:Ra.wide d=true) (w:World) :
  Calls Tryz.prog 80 #[.int .i64 n,.int .i64 d] w fun e w'=>e=.returned (.tuple #[.agg #[.int .i64 (Ra.rn n d),.int .i64 (Ra.rd n d)],.bool (Ra.fits n d)])/\Below w.heap.size w w':=by
 have hb:(d == 0)=false:=by rw[beq_eq_false_iff_ne];exact h0
 have Hn:=zH (show decide (-(1000000000000000000:Int)≤n/\n≤1000000000000000000)=true by unfold Ra.wide at hn;exact hn);have Hd:=zH (show decide (-(1000000000000000000:Int)≤d/\d≤1000000000000000000)=true by unfold Ra.wide at hd;exact hd);have hfit:Ra.fits n d=decide (-1000000000≤Ra.num n d/\Ra.num n d≤1000000000/\Ra.den n d≤1000000000):=(Ra.Zlv h0 hn hd).trans (Ra.Zp1 h0);obtain⟨n0,n1⟩:=Ra.Zd4 hn;obtain⟨d0,d1⟩:=Ra.Zd4 hd;clear hn hd;obtain⟨nb0,nb1⟩:=Ra.Zoq h0 n0 n1;obtain⟨db0,db1⟩:=Ra.Zoh (n:=n) h0 d0 d1;have hgp:=Ra.Zdi (n:=n) h0;have hq:(d<0/\decide (d<0)=true/\(-n).tdiv (Int.gcd n d:Int)=Ra.num n d/\-(d.tdiv (Int.gcd n d:Int))=Ra.den n d)\/(¬d<0/\decide (d<0)=false/\n.tdiv (Int.gcd n d:Int)=Ra.num n d/\d.tdiv (Int.gcd n d:Int)=Ra.den n d):=by
  by_cases h:d<0
  ·exact .inl ⟨h,by rw[decide_eq_true_iff];exact h,Ra.Zkl h,by rw[<-Ra.Zlp h,<-Int.neg_tdiv,Int.tdiv_eq_ediv_of_nonneg (by omega)]⟩
  ·exact .inr ⟨h,by rw[decide_eq_false_iff_not];exact h,Ra.Zif h,by rw[<-Ra.Zjp h,Int.tdiv_eq_ediv_of_nonneg (by omega)]⟩
 have hc:∀x y:Int,x=(n.natAbs:Int)->y=(d.natAbs:Int)->∀w:World,Calls Tryz.prog 93 #[.int .i64 x,.int .i64 y] w fun e w'=>e=.returned (.int .i64 (Int.gcd n d:Int))/\∃n,w'=w.drewN n:=by
  rintro x y rfl rfl w;have:=Zdy n.natAbs d.natAbs (by omega) (by omega) w;rw[<-Int.gcd_eq_natAbs_gcd_natAbs] at this;exact this
 have hyes:Ra.fits n d=true->Ra.num n d=Ra.rn n d/\Ra.den n d=Ra.rd n d:=fun h=>by have:=Ra.Zmo h;exact⟨this.1.symm,this.2.symm⟩
 have hno:Ra.fits n d=false->Ra.rn n d=0/\Ra.rd n d=0:=fun h=>Ra.Zje h
 generalize Ra.num n d=N at *;generalize Ra.den n d=D at *;obtain⟨g,hg⟩:∃g:Int,g=(Int.gcd n d:Int):=⟨_,rfl⟩;rw[<-hg] at hq hc;have hg1:1≤g:=by omega
 clear hg hgp;have Hc:=zH hc;clear hc;have key:(decide (-(1000000000:Int)≤N/\N≤1000000000)=false/\Ra.fits n d=false)\/(decide (-(1000000000:Int)≤N/\N≤1000000000)=true/\decide (1000000000<D)=true/\Ra.fits n d=false)\/(decide (-(1000000000:Int)≤N/\N≤1000000000)=true/\decide (1000000000<D)=false/\Ra.fits n d=true):=by
  rw[hfit];simp only[decide_eq_true_iff,decide_eq_false_iff_not];omega
 clear hfit;obtain⟨hs,hsb,q1,q2⟩ | ⟨hs,hsb,q1,q2⟩:=hq
 all_goals
  rcases key with ⟨k1,k3⟩ | ⟨k1,k2,k3⟩ | ⟨k1,k2,k3⟩
  ·have K1:=zH k1
   have R1:=zH (hno k3).1.symm;have R2:=zH (hno k3).2.symm;have R3:=zH k3.symm;clear k1 k3 hyes hno
   go_enter Tryz.func80,Tryz.ntmps80
   go_wp2_with fail
   refine (Zao n _ true Hn.out (by decide) (by decide) _).mono ?_;rintro e w1 ⟨rfl,rfl⟩
   go_wp2_with fail
   refine (Zao d _ true Hd.out (by decide) (by decide) _).mono ?_;rintro e w1 ⟨rfl,rfl⟩
   go_wp2_with fail
   all_goals
    refine (Hc.out _ _ (by omega) (by omega) _).mono ?_;rintro e w1 ⟨rfl,k,rfl⟩
    go_wp2_with fail
    go_region
    go_wp2_with fail
    refine (Zao N _ false K1.out (by decide) (by decide) _).mono ?_;rintro e w1 ⟨rfl,rfl⟩
    go_wp2_with fail
    exact bodyPost_ret (v:=.tuple #[.agg #[.int .i64 0,.int .i64 0],.bool false]) (by simp[results,Tryz.results80,go_sem]) rfl ⟨Zfr R1.out R2.out R3.out,by (repeat' (first|exact Below.refl _ _|exact Nat.le_refl _|refine Below.setCell ?_ ?_ _|refine Below.alloc ?_ ?_ _|refine below_drewN ?_ _|refine Below.drew ?_ | (simp;done) | (simp;omega)))⟩
  ·have K1:=zH k1
   have R1:=zH (hno k3).1.symm;have R2:=zH (hno k3).2.symm;have R3:=zH k3.symm;clear k1 k3 hyes hno
   go_enter Tryz.func80,Tryz.ntmps80
   go_wp2_with fail
   refine (Zao n _ true Hn.out (by decide) (by decide) _).mono ?_;rintro e w1 ⟨rfl,rfl⟩
   go_wp2_with fail
   refine (Zao d _ true Hd.out (by decide) (by decide) _).mono ?_;rintro e w1 ⟨rfl,rfl⟩
   go_wp2_with fail
   all_goals
    refine (Hc.out _ _ (by omega) (by omega) _).mono ?_;rintro e w1 ⟨rfl,k,rfl⟩
    go_wp2_with fail
    go_region
    go_wp2_with fail
    refine (Zao N _ true K1.out (by decide) (by decide) _).mono ?_;rintro e w1 ⟨rfl,rfl⟩
    go_wp2_with fail
    exact bodyPost_ret (v:=.tuple #[.agg #[.int .i64 0,.int .i64 0],.bool false]) (by simp[results,Tryz.results80,go_sem]) rfl ⟨Zfr R1.out R2.out R3.out,by (repeat' (first|exact Below.refl _ _|exact Nat.le_refl _|refine Below.setCell ?_ ?_ _|refine Below.alloc ?_ ?_ _|refine below_drewN ?_ _|refine Below.drew ?_ | (simp;done) | (simp;omega)))⟩
  ·have K1:=zH k1
   have R1:=zH (hyes k3).1;have R2:=zH (hyes k3).2;have R3:=zH k3.symm;clear k1 k3 hyes hno
   go_enter Tryz.func80,Tryz.ntmps80
   go_wp2_with fail
   refine (Zao n _ true Hn.out (by decide) (by decide) _).mono ?_;rintro e w1 ⟨rfl,rfl⟩
   go_wp2_with fail
   refine (Zao d _ true Hd.out (by decide) (by decide) _).mono ?_;rintro e w1 ⟨rfl,rfl⟩
   go_wp2_with fail
   all_goals
    refine (Hc.out _ _ (by omega) (by omega) _).mono ?_;rintro e w1 ⟨rfl,k,rfl⟩
    go_wp2_with fail
    go_region
    go_wp2_with fail
    refine (Zao N _ true K1.out (by decide) (by decide) _).mono ?_;rintro e w1 ⟨rfl,rfl⟩
    go_wp2_with fail
    exact bodyPost_ret (v:=.tuple #[.agg #[.int .i64 N,.int .i64 D],.bool true]) (by simp[results,Tryz.results80,go_sem]) rfl ⟨Zfr R1.out R2.out R3.out,by (repeat' (first|exact Below.refl _ _|exact Nat.le_refl _|refine Below.setCell ?_ ?_ _|refine Below.alloc ?_ ?_ _|refine below_drewN ?_ _|refine Below.drew ?_ | (simp;done) | (simp;omega)))⟩
theorem Zkb (n d:Int):(d=0\/Ra.wide n=false\/Ra.wide d=false)\/(d≠0/\Ra.wide n=true/\Ra.wide d=true):=by
 by_cases h:d=0
 ·exact .inl (.inl h)
 ·rcases hn:Ra.wide n with _|_
  ·exact .inl (.inr (.inl rfl))
  ·rcases hd:Ra.wide d with _|_
   ·exact .inl (.inr (.inr rfl))
   ·exact .inr ⟨h,rfl,rfl⟩
theorem Zmm {n d:Int} (h:d=0\/Ra.wide n=false\/Ra.wide d=false):Ra.fits n d=false:=by
 rcases h with rfl|h|h
 ·exact Ra.Zht n
 ·exact Ra.Zk0 h
 ·exact Ra.Zkx h
theorem Zgo (n d:Int) (w:World) :
  Calls Tryz.prog 52 #[.int .i64 n,.int .i64 d] w fun e w'=>e=.returned (.tuple #[.agg #[.int .i64 (Ra.rn n d),.int .i64 (Ra.rd n d)],.bool (Ra.fits n d)])/\Below w.heap.size w w':=by
 rcases Zkb n d with h|⟨h1,h2,h3⟩
 ·have hf:=Zmm h
  rw[(Ra.Zje hf).1,(Ra.Zje hf).2,hf];exact Zgb n d h w
 ·exact Zhg n d h1 h2 h3 w
theorem Zch (n d:Int) (w:World) :
  Calls Tryz.prog 80 #[.int .i64 n,.int .i64 d] w fun e w'=>e=.returned (.tuple #[.agg #[.int .i64 (Ra.rn n d),.int .i64 (Ra.rd n d)],.bool (Ra.fits n d)])/\Below w.heap.size w w':=by
 rcases Zkb n d with h|⟨h1,h2,h3⟩
 ·have hf:=Zmm h
  rw[(Ra.Zje hf).1,(Ra.Zje hf).2,hf];exact Zf5 n d h w
 ·exact Zg5 n d h1 h2 h3 w
theorem Zbe (n d:Int) (b:Bool) (h:Ra.vld n d=b) (w:World):Calls Tryz.prog 75 #[.agg #[.int .i64 n,.int .i64 d]] w fun e w'=>e=.returned (.bool b)/\Below w.heap.size w w':=by
 obtain⟨N,D,k,hN,hD,hk,hkey⟩:∃(N D:Int) (k:Bool),Ra.rn n d=N/\Ra.rd n d=D/\Ra.fits n d=k/\(k && (N == n && D == d))=b:=by
  refine⟨_,_,_,rfl,rfl,rfl,?_⟩;cases b with
  | false=>exact Ra.Zph h
  | true=>obtain⟨h1,h2,h3⟩:=Ra.Zhb h;rw[h1,h2,h3];simp
 have hc:∀w:World,Calls Tryz.prog 80 #[.int .i64 n,.int .i64 d] w fun e w'=>e=.returned (.tuple #[.agg #[.int .i64 N,.int .i64 D],.bool k])/\Below w.heap.size w w':=fun w=>by
  have:=Zch n d w;rw[hN,hD,hk] at this;exact this
 have Hc:=zH hc;have H:=zH hkey;clear hN hD hk hkey hc h;cases k with
 | false=>
  go_enter Tryz.func75,Tryz.ntmps75
  go_wp2_with fail
  refine (Hc.out _).mono ?_;rintro e w1 ⟨rfl,hb1⟩;have hz:w.heap.size<w1.heap.size:=by have:=hb1.size;simp at this;omega
  have Hb:=zH (((Below.refl w.heap.size w).alloc (Nat.le_refl _) _).trans (hb1.mono (by simp)));clear hb1
  go_wp2_with fail
  go_ret;exact⟨Zac H.out,Hb.out.alloc (by omega) _⟩
 | true=>
  have he:=Zcu;have hg:=Zb5
  go_enter Tryz.func75,Tryz.ntmps75
  go_wp2_with fail
  refine (Hc.out _).mono ?_;rintro e w1 ⟨rfl,hb1⟩;have hz:w.heap.size<w1.heap.size:=by have:=hb1.size;simp at this;omega
  have c0:=Zbs hb1 (p:=⟨w.heap.size,0,none⟩) (v:=.int .i64 n) (by simp) (by simp);have c1:=Zbs hb1 (p:=⟨w.heap.size,1,none⟩) (v:=.int .i64 d) (by simp) (by simp);have Hb:=zH (((Below.refl w.heap.size w).alloc (Nat.le_refl _) _).trans (hb1.mono (by simp)));clear hb1
  go_wp2_with fail
  go_ret;exact⟨Zac H.out,Hb.out.alloc (by omega) _⟩
theorem Zb6 {w wx:World} {x0 x1 y0 y1 u0 u1:Value} {t1 t2 t3:TypeId} (hb:Below (((w.alloc (.cells #[x0,x1] t1)).alloc (.cells #[y0,y1] t2)).alloc (.cells #[u0,u1] t3)).heap.size (((w.alloc (.cells #[x0,x1] t1)).alloc (.cells #[y0,y1] t2)).alloc (.cells #[u0,u1] t3)) wx) :
  wx.cell? ⟨w.heap.size,0,none⟩=some x0/\wx.cell? ⟨w.heap.size,1,none⟩=some x1/\wx.cell? ⟨w.heap.size+1,0,none⟩=some y0/\wx.cell? ⟨w.heap.size+1,1,none⟩=some y1/\
  wx.cell? ⟨w.heap.size+2,0,none⟩=some u0/\wx.cell? ⟨w.heap.size+2,1,none⟩=some u1/\wx.frozen? ⟨w.heap.size+2,0,none⟩=false/\wx.frozen? ⟨w.heap.size+2,1,none⟩=false/\w.heap.size+2<wx.heap.size:=by
 have e:(((w.alloc (.cells #[x0,x1] t1)).alloc (.cells #[y0,y1] t2)).alloc (.cells #[u0,u1] t3)).heap=((w.heap.push (.cells #[x0,x1] t1)).push (.cells #[y0,y1] t2)).push (.cells #[u0,u1] t3):=rfl;have hz:=hb.size;have hk:=hb.block;rw[e] at hz hk;simp only[Array.size_push] at hz hk;have B0:wx.heap[w.heap.size]? = some (.cells #[x0,x1] t1):=by rw[hk _ (by omega),Array.getElem?_push,if_neg (by simp only[Array.size_push];omega),Array.getElem?_push,if_neg (by simp only[Array.size_push];omega),Array.getElem?_push,if_pos rfl]
 have B1:wx.heap[w.heap.size+1]? = some (.cells #[y0,y1] t2):=by rw[hk _ (by omega),Array.getElem?_push,if_neg (by simp only[Array.size_push];omega),Array.getElem?_push,if_pos (by simp only[Array.size_push])]
 have B2:wx.heap[w.heap.size+2]? = some (.cells #[u0,u1] t3):=by rw[hk _ (by omega),Array.getElem?_push,if_pos (by simp only[Array.size_push])]
 obtain⟨a0,a1,-,-⟩:=Zba B0;obtain⟨b0,b1,-,-⟩:=Zba B1;obtain⟨c0,c1,f0,f1⟩:=Zba B2;exact⟨a0,a1,b0,b1,c0,c1,f0,f1,by omega⟩
theorem Zbg {w wx:World} {o1 o2 o3:Obj} (hb:Below (((w.alloc o1).alloc o2).alloc o3).heap.size (((w.alloc o1).alloc o2).alloc o3) wx) (x y:Value) :
  Below w.heap.size w ((wx.setCell ⟨w.heap.size+2,0,none⟩ x).setCell ⟨w.heap.size+2,1,none⟩ y):=
 ((((((Below.refl w.heap.size w).alloc (Nat.le_refl _) o1).alloc (by simp) o2).alloc (by simp;omega) o3).trans (hb.mono (by simp;omega))).setCell (p:=⟨w.heap.size+2,0,none⟩) (by simp) x).setCell (p:=⟨w.heap.size+2,1,none⟩) (by simp) y
theorem Zft (an ad bn bd:Int) (w:World) :
  Calls Tryz.prog 35 #[.agg #[.int .i64 an,.int .i64 ad],.agg #[.int .i64 bn,.int .i64 bd]] w fun e w'=>e=.returned (.tuple #[.agg #[.int .i64 (Ra.opN (Ra.two an ad bn bd) (an*bd+bn*ad) (ad*bd)),.int .i64 (Ra.opD (Ra.two an ad bn bd) (an*bd+bn*ad) (ad*bd))],.bool (Ra.opK (Ra.two an ad bn bd) (an*bd+bn*ad) (ad*bd))])/\Below w.heap.size w w':=by
 rcases h1:Ra.vld an ad with _|_
 ·have e:Ra.two an ad bn bd=false:=by unfold Ra.two;rw[h1];rfl
  rw[e,(Ra.Zb2 _ _).1,(Ra.Zb2 _ _).2.1,(Ra.Zb2 _ _).2.2];have H1:=zH h1;clear h1 e
  go_enter Tryz.func35,Tryz.ntmps35
  go_wp2_with fail
  refine (Zaf an ad false H1.out _).mono ?_;rintro e w1 ⟨rfl,hb1⟩;have Hb:=zH hb1;obtain⟨a0,a1,b0,b1,r0,r1,z0,z1,hz⟩:=Zb6 hb1;clear hb1
  go_wp2_with fail
  exact bodyPost_ret (v:=.tuple #[.agg #[.int .i64 0,.int .i64 0],.bool false]) (by simp[results,Tryz.results35,go_sem,(Zae r0 r1).1,(Zae r0 r1).2]) rfl ⟨rfl,Zbg Hb.out _ _⟩
 ·rcases h2:Ra.vld bn bd with _|_
  ·have e:Ra.two an ad bn bd=false:=by unfold Ra.two;rw[h2];simp
   rw[e,(Ra.Zb2 _ _).1,(Ra.Zb2 _ _).2.1,(Ra.Zb2 _ _).2.2];have H1:=zH h1;have H2:=zH h2;clear h1 h2 e
   go_enter Tryz.func35,Tryz.ntmps35
   go_wp2_with fail
   refine (Zaf an ad true H1.out _).mono ?_;rintro e w1 ⟨rfl,hb1⟩;have Hb:=zH hb1;obtain⟨a0,a1,b0,b1,r0,r1,z0,z1,hz⟩:=Zb6 hb1;clear hb1
   go_wp2_with fail
   refine (Zaf bn bd false H2.out _).mono ?_;rintro e w2 ⟨rfl,hb2⟩;have Hb2:=zH (Hb.out.trans (hb2.mono Hb.out.size));clear Hb a0 a1 b0 b1 r0 r1 z0 z1 hz hb2;obtain⟨a0,a1,b0,b1,r0,r1,z0,z1,hz⟩:=Zb6 Hb2.out
   go_wp2_with fail
   exact bodyPost_ret (v:=.tuple #[.agg #[.int .i64 0,.int .i64 0],.bool false]) (by simp[results,Tryz.results35,go_sem,(Zae r0 r1).1,(Zae r0 r1).2]) rfl ⟨rfl,Zbg Hb2.out _ _⟩
  ·have e:Ra.two an ad bn bd=true:=by unfold Ra.two;rw[h1,h2];rfl
   rw[e,(Ra.Zb7 _ _).1,(Ra.Zb7 _ _).2.1,(Ra.Zb7 _ _).2.2];obtain⟨⟨p1,p2⟩,⟨p3,p4⟩,⟨p5,p6⟩,⟨p7,p8⟩,⟨p9,p10⟩⟩:=Ra.prods h1 h2;have H1:=zH h1;have H2:=zH h2;clear h1 h2 e
   go_enter Tryz.func35,Tryz.ntmps35
   go_wp2_with fail
   refine (Zaf an ad true H1.out _).mono ?_;rintro e w1 ⟨rfl,hb1⟩;have Hb:=zH hb1;obtain⟨a0,a1,b0,b1,r0,r1,z0,z1,hz⟩:=Zb6 hb1;clear hb1
   go_wp2_with fail
   refine (Zaf bn bd true H2.out _).mono ?_;rintro e w2 ⟨rfl,hb2⟩;have Hb2:=zH (Hb.out.trans (hb2.mono Hb.out.size));clear Hb a0 a1 b0 b1 r0 r1 z0 z1 hz hb2;obtain⟨a0,a1,b0,b1,r0,r1,z0,z1,hz⟩:=Zb6 Hb2.out
   go_wp2_with fail
   refine (Zgo (an*bd+bn*ad) (ad*bd) _).mono ?_;rintro e w3 ⟨rfl,hb3⟩;have Hb3:=zH (Hb2.out.trans (hb3.mono Hb2.out.size));clear Hb2 a0 a1 b0 b1 r0 r1 z0 z1 hz hb3;obtain⟨a0,a1,b0,b1,r0,r1,z0,z1,hz⟩:=Zb6 Hb3.out
   go_wp2_with fail
   exact bodyPost_ret (v:=.tuple #[.agg #[.int .i64 (Ra.rn (an*bd+bn*ad) (ad*bd)),.int .i64 (Ra.rd (an*bd+bn*ad) (ad*bd))],.bool (Ra.fits (an*bd+bn*ad) (ad*bd))]) (by simp[results,Tryz.results35,go_sem,(Zae r0 r1).1,(Zae r0 r1).2]) rfl ⟨rfl,Zbg Hb3.out _ _⟩
theorem Zjk (an ad bn bd:Int) (w:World) :
  Calls Tryz.prog 34 #[.agg #[.int .i64 an,.int .i64 ad],.agg #[.int .i64 bn,.int .i64 bd]] w fun e w'=>e=.returned (.tuple #[.agg #[.int .i64 (Ra.opN (Ra.two an ad bn bd) (an*bn) (ad*bd)),.int .i64 (Ra.opD (Ra.two an ad bn bd) (an*bn) (ad*bd))],.bool (Ra.opK (Ra.two an ad bn bd) (an*bn) (ad*bd))])/\Below w.heap.size w w':=by
 rcases h1:Ra.vld an ad with _|_
 ·have e:Ra.two an ad bn bd=false:=by unfold Ra.two;rw[h1];rfl
  rw[e,(Ra.Zb2 _ _).1,(Ra.Zb2 _ _).2.1,(Ra.Zb2 _ _).2.2];have H1:=zH h1;clear h1 e
  go_enter Tryz.func34,Tryz.ntmps34
  go_wp2_with fail
  refine (Zaf an ad false H1.out _).mono ?_;rintro e w1 ⟨rfl,hb1⟩;have Hb:=zH hb1;obtain⟨a0,a1,b0,b1,r0,r1,z0,z1,hz⟩:=Zb6 hb1;clear hb1
  go_wp2_with fail
  exact bodyPost_ret (v:=.tuple #[.agg #[.int .i64 0,.int .i64 0],.bool false]) (by simp[results,Tryz.results34,go_sem,(Zae r0 r1).1,(Zae r0 r1).2]) rfl ⟨rfl,Zbg Hb.out _ _⟩
 ·rcases h2:Ra.vld bn bd with _|_
  ·have e:Ra.two an ad bn bd=false:=by unfold Ra.two;rw[h2];simp
   rw[e,(Ra.Zb2 _ _).1,(Ra.Zb2 _ _).2.1,(Ra.Zb2 _ _).2.2];have H1:=zH h1;have H2:=zH h2;clear h1 h2 e
   go_enter Tryz.func34,Tryz.ntmps34
   go_wp2_with fail
   refine (Zaf an ad true H1.out _).mono ?_;rintro e w1 ⟨rfl,hb1⟩;have Hb:=zH hb1;obtain⟨a0,a1,b0,b1,r0,r1,z0,z1,hz⟩:=Zb6 hb1;clear hb1
   go_wp2_with fail
   refine (Zaf bn bd false H2.out _).mono ?_;rintro e w2 ⟨rfl,hb2⟩;have Hb2:=zH (Hb.out.trans (hb2.mono Hb.out.size));clear Hb a0 a1 b0 b1 r0 r1 z0 z1 hz hb2;obtain⟨a0,a1,b0,b1,r0,r1,z0,z1,hz⟩:=Zb6 Hb2.out
   go_wp2_with fail
   exact bodyPost_ret (v:=.tuple #[.agg #[.int .i64 0,.int .i64 0],.bool false]) (by simp[results,Tryz.results34,go_sem,(Zae r0 r1).1,(Zae r0 r1).2]) rfl ⟨rfl,Zbg Hb2.out _ _⟩
  ·have e:Ra.two an ad bn bd=true:=by unfold Ra.two;rw[h1,h2];rfl
   rw[e,(Ra.Zb7 _ _).1,(Ra.Zb7 _ _).2.1,(Ra.Zb7 _ _).2.2];obtain⟨⟨p1,p2⟩,⟨p3,p4⟩,⟨p5,p6⟩,⟨p7,p8⟩,⟨p9,p10⟩⟩:=Ra.prods h1 h2;have H1:=zH h1;have H2:=zH h2;clear h1 h2 e
   go_enter Tryz.func34,Tryz.ntmps34
   go_wp2_with fail
   refine (Zaf an ad true H1.out _).mono ?_;rintro e w1 ⟨rfl,hb1⟩;have Hb:=zH hb1;obtain⟨a0,a1,b0,b1,r0,r1,z0,z1,hz⟩:=Zb6 hb1;clear hb1
   go_wp2_with fail
   refine (Zaf bn bd true H2.out _).mono ?_;rintro e w2 ⟨rfl,hb2⟩;have Hb2:=zH (Hb.out.trans (hb2.mono Hb.out.size));clear Hb a0 a1 b0 b1 r0 r1 z0 z1 hz hb2;obtain⟨a0,a1,b0,b1,r0,r1,z0,z1,hz⟩:=Zb6 Hb2.out
   go_wp2_with fail
   refine (Zgo (an*bn) (ad*bd) _).mono ?_;rintro e w3 ⟨rfl,hb3⟩;have Hb3:=zH (Hb2.out.trans (hb3.mono Hb2.out.size));clear Hb2 a0 a1 b0 b1 r0 r1 z0 z1 hz hb3;obtain⟨a0,a1,b0,b1,r0,r1,z0,z1,hz⟩:=Zb6 Hb3.out
   go_wp2_with fail
   exact bodyPost_ret (v:=.tuple #[.agg #[.int .i64 (Ra.rn (an*bn) (ad*bd)),.int .i64 (Ra.rd (an*bn) (ad*bd))],.bool (Ra.fits (an*bn) (ad*bd))]) (by simp[results,Tryz.results34,go_sem,(Zae r0 r1).1,(Zae r0 r1).2]) rfl ⟨rfl,Zbg Hb3.out _ _⟩
theorem Zav (an ad bn bd:Int) (b:Bool) (h:Ra.two an ad bn bd=b) (w:World) :
  Calls Tryz.prog 58 #[.agg #[.int .i64 an,.int .i64 ad],.agg #[.int .i64 bn,.int .i64 bd]] w fun e w'=>e=.returned (.bool b)/\Below w.heap.size w w':=by
 rcases h1:Ra.vld an ad with _|_
 ·have H:=zH (show false=b by rw[<-h];unfold Ra.two;rw[h1];rfl)
  have H1:=zH h1;clear h h1
  go_enter Tryz.func58,Tryz.ntmps58
  go_wp2_with fail
  refine (Zbe an ad false H1.out _).mono ?_;rintro e w1 ⟨rfl,hb1⟩;have Hb:=zH hb1;clear hb1
  go_wp2_with fail
  go_ret;exact⟨Zac H.out,(((Below.refl w.heap.size w).alloc (Nat.le_refl _) _).alloc (by simp) _).trans (Hb.out.mono (by simp;omega))⟩
 ·have H:=zH (show Ra.vld bn bd=b by rw[<-h];unfold Ra.two;rw[h1];rfl)
  have H1:=zH h1;clear h h1
  go_enter Tryz.func58,Tryz.ntmps58
  go_wp2_with fail
  refine (Zbe an ad true H1.out _).mono ?_;rintro e w1 ⟨rfl,hb1⟩;have b0:=Zbs hb1 (p:=⟨w.heap.size+1,0,none⟩) (v:=.int .i64 bn) (by simp) (by simp);have b1:=Zbs hb1 (p:=⟨w.heap.size+1,1,none⟩) (v:=.int .i64 bd) (by simp) (by simp);have Hb:=zH ((((Below.refl w.heap.size w).alloc (Nat.le_refl _) _).alloc (by simp) _).trans (hb1.mono (by simp;omega)));clear hb1
  go_wp2_with fail
  refine (Zbe bn bd b H.out _).mono ?_;rintro e w2 ⟨rfl,hb2⟩;have Hb2:=zH (Hb.out.trans (hb2.mono Hb.out.size));clear hb2
  go_wp2_with fail
  go_ret;exact⟨rfl,Hb2.out⟩
theorem Zix (an ad bn bd:Int) (w:World) :
  Calls Tryz.prog 64 #[.agg #[.int .i64 an,.int .i64 ad],.agg #[.int .i64 bn,.int .i64 bd]] w fun e w'=>e=.returned (.tuple #[.agg #[.int .i64 (Ra.opN (Ra.two an ad bn bd) (an*bd+bn*ad) (ad*bd)),.int .i64 (Ra.opD (Ra.two an ad bn bd) (an*bd+bn*ad) (ad*bd))],.bool (Ra.opK (Ra.two an ad bn bd) (an*bd+bn*ad) (ad*bd))])/\Below w.heap.size w w':=by
 rcases h:Ra.two an ad bn bd with _|_
 ·rw[(Ra.Zb2 _ _).1,(Ra.Zb2 _ _).2.1,(Ra.Zb2 _ _).2.2]
  have H:=zH h;clear h
  go_enter Tryz.func64,Tryz.ntmps64
  go_wp2_with fail
  refine (Zav an ad bn bd false H.out _).mono ?_;rintro e w1 ⟨rfl,hb1⟩;have Hb:=zH hb1;obtain⟨a0,a1,b0,b1,r0,r1,z0,z1,hz⟩:=Zb6 hb1;clear hb1
  go_wp2_with fail
  exact bodyPost_ret (v:=.tuple #[.agg #[.int .i64 0,.int .i64 0],.bool false]) (by simp[results,Tryz.results64,go_sem,(Zae r0 r1).1,(Zae r0 r1).2]) rfl ⟨rfl,Zbg Hb.out _ _⟩
 ·have hv:=h
  unfold Ra.two at hv;rw[Bool.and_eq_true] at hv;rw[(Ra.Zb7 _ _).1,(Ra.Zb7 _ _).2.1,(Ra.Zb7 _ _).2.2];obtain⟨⟨p1,p2⟩,⟨p3,p4⟩,⟨p5,p6⟩,⟨p7,p8⟩,⟨p9,p10⟩⟩:=Ra.prods hv.1 hv.2;have H:=zH h;clear h hv
  go_enter Tryz.func64,Tryz.ntmps64
  go_wp2_with fail
  refine (Zav an ad bn bd true H.out _).mono ?_;rintro e w1 ⟨rfl,hb1⟩;have Hb:=zH hb1;obtain⟨a0,a1,b0,b1,r0,r1,z0,z1,hz⟩:=Zb6 hb1;clear hb1
  go_wp2_with fail
  refine (Zch (an*bd+bn*ad) (ad*bd) _).mono ?_;rintro e w3 ⟨rfl,hb3⟩;have Hb3:=zH (Hb.out.trans (hb3.mono Hb.out.size));clear Hb a0 a1 b0 b1 r0 r1 z0 z1 hz hb3;obtain⟨a0,a1,b0,b1,r0,r1,z0,z1,hz⟩:=Zb6 Hb3.out
  go_wp2_with fail
  exact bodyPost_ret (v:=.tuple #[.agg #[.int .i64 (Ra.rn (an*bd+bn*ad) (ad*bd)),.int .i64 (Ra.rd (an*bd+bn*ad) (ad*bd))],.bool (Ra.fits (an*bd+bn*ad) (ad*bd))]) (by simp[results,Tryz.results64,go_sem,(Zae r0 r1).1,(Zae r0 r1).2]) rfl ⟨rfl,Zbg Hb3.out _ _⟩
theorem Zi0 (an ad bn bd:Int) (w:World) :
  Calls Tryz.prog 74 #[.agg #[.int .i64 an,.int .i64 ad],.agg #[.int .i64 bn,.int .i64 bd]] w fun e w'=>e=.returned (.tuple #[.agg #[.int .i64 (Ra.opN (Ra.two an ad bn bd) (an*bd-bn*ad) (ad*bd)),.int .i64 (Ra.opD (Ra.two an ad bn bd) (an*bd-bn*ad) (ad*bd))],.bool (Ra.opK (Ra.two an ad bn bd) (an*bd-bn*ad) (ad*bd))])/\Below w.heap.size w w':=by
 rcases h:Ra.two an ad bn bd with _|_
 ·rw[(Ra.Zb2 _ _).1,(Ra.Zb2 _ _).2.1,(Ra.Zb2 _ _).2.2]
  have H:=zH h;clear h
  go_enter Tryz.func74,Tryz.ntmps74
  go_wp2_with fail
  refine (Zav an ad bn bd false H.out _).mono ?_;rintro e w1 ⟨rfl,hb1⟩;have Hb:=zH hb1;obtain⟨a0,a1,b0,b1,r0,r1,z0,z1,hz⟩:=Zb6 hb1;clear hb1
  go_wp2_with fail
  exact bodyPost_ret (v:=.tuple #[.agg #[.int .i64 0,.int .i64 0],.bool false]) (by simp[results,Tryz.results74,go_sem,(Zae r0 r1).1,(Zae r0 r1).2]) rfl ⟨rfl,Zbg Hb.out _ _⟩
 ·have hv:=h
  unfold Ra.two at hv;rw[Bool.and_eq_true] at hv;rw[(Ra.Zb7 _ _).1,(Ra.Zb7 _ _).2.1,(Ra.Zb7 _ _).2.2];obtain⟨⟨p1,p2⟩,⟨p3,p4⟩,⟨p5,p6⟩,⟨p7,p8⟩,⟨p9,p10⟩⟩:=Ra.prods hv.1 hv.2;have H:=zH h;clear h hv
  go_enter Tryz.func74,Tryz.ntmps74
  go_wp2_with fail
  refine (Zav an ad bn bd true H.out _).mono ?_;rintro e w1 ⟨rfl,hb1⟩;have Hb:=zH hb1;obtain⟨a0,a1,b0,b1,r0,r1,z0,z1,hz⟩:=Zb6 hb1;clear hb1
  go_wp2_with fail
  refine (Zch (an*bd-bn*ad) (ad*bd) _).mono ?_;rintro e w3 ⟨rfl,hb3⟩;have Hb3:=zH (Hb.out.trans (hb3.mono Hb.out.size));clear Hb a0 a1 b0 b1 r0 r1 z0 z1 hz hb3;obtain⟨a0,a1,b0,b1,r0,r1,z0,z1,hz⟩:=Zb6 Hb3.out
  go_wp2_with fail
  exact bodyPost_ret (v:=.tuple #[.agg #[.int .i64 (Ra.rn (an*bd-bn*ad) (ad*bd)),.int .i64 (Ra.rd (an*bd-bn*ad) (ad*bd))],.bool (Ra.fits (an*bd-bn*ad) (ad*bd))]) (by simp[results,Tryz.results74,go_sem,(Zae r0 r1).1,(Zae r0 r1).2]) rfl ⟨rfl,Zbg Hb3.out _ _⟩
theorem Ziy (an ad bn bd:Int) (w:World) :
  Calls Tryz.prog 79 #[.agg #[.int .i64 an,.int .i64 ad],.agg #[.int .i64 bn,.int .i64 bd]] w fun e w'=>e=.returned (.tuple #[.agg #[.int .i64 (Ra.opN (Ra.two an ad bn bd) (an*bn) (ad*bd)),.int .i64 (Ra.opD (Ra.two an ad bn bd) (an*bn) (ad*bd))],.bool (Ra.opK (Ra.two an ad bn bd) (an*bn) (ad*bd))])/\Below w.heap.size w w':=by
 rcases h:Ra.two an ad bn bd with _|_
 ·rw[(Ra.Zb2 _ _).1,(Ra.Zb2 _ _).2.1,(Ra.Zb2 _ _).2.2]
  have H:=zH h;clear h
  go_enter Tryz.func79,Tryz.ntmps79
  go_wp2_with fail
  refine (Zav an ad bn bd false H.out _).mono ?_;rintro e w1 ⟨rfl,hb1⟩;have Hb:=zH hb1;obtain⟨a0,a1,b0,b1,r0,r1,z0,z1,hz⟩:=Zb6 hb1;clear hb1
  go_wp2_with fail
  exact bodyPost_ret (v:=.tuple #[.agg #[.int .i64 0,.int .i64 0],.bool false]) (by simp[results,Tryz.results79,go_sem,(Zae r0 r1).1,(Zae r0 r1).2]) rfl ⟨rfl,Zbg Hb.out _ _⟩
 ·have hv:=h
  unfold Ra.two at hv;rw[Bool.and_eq_true] at hv;rw[(Ra.Zb7 _ _).1,(Ra.Zb7 _ _).2.1,(Ra.Zb7 _ _).2.2];obtain⟨⟨p1,p2⟩,⟨p3,p4⟩,⟨p5,p6⟩,⟨p7,p8⟩,⟨p9,p10⟩⟩:=Ra.prods hv.1 hv.2;have H:=zH h;clear h hv
  go_enter Tryz.func79,Tryz.ntmps79
  go_wp2_with fail
  refine (Zav an ad bn bd true H.out _).mono ?_;rintro e w1 ⟨rfl,hb1⟩;have Hb:=zH hb1;obtain⟨a0,a1,b0,b1,r0,r1,z0,z1,hz⟩:=Zb6 hb1;clear hb1
  go_wp2_with fail
  refine (Zch (an*bn) (ad*bd) _).mono ?_;rintro e w3 ⟨rfl,hb3⟩;have Hb3:=zH (Hb.out.trans (hb3.mono Hb.out.size));clear Hb a0 a1 b0 b1 r0 r1 z0 z1 hz hb3;obtain⟨a0,a1,b0,b1,r0,r1,z0,z1,hz⟩:=Zb6 Hb3.out
  go_wp2_with fail
  exact bodyPost_ret (v:=.tuple #[.agg #[.int .i64 (Ra.rn (an*bn) (ad*bd)),.int .i64 (Ra.rd (an*bn) (ad*bd))],.bool (Ra.fits (an*bn) (ad*bd))]) (by simp[results,Tryz.results79,go_sem,(Zae r0 r1).1,(Zae r0 r1).2]) rfl ⟨rfl,Zbg Hb3.out _ _⟩
theorem low3 {w wx:World} {o1 o2 o3:Obj} (hb:Below (((w.alloc o1).alloc o2).alloc o3).heap.size (((w.alloc o1).alloc o2).alloc o3) wx):Below w.heap.size w wx:=
 ((((Below.refl w.heap.size w).alloc (Nat.le_refl _) o1).alloc (by simp) o2).alloc (by simp;omega) o3).trans (hb.mono (by simp;omega))
theorem Zre {w wx:World} {x0 x1 y0 y1 u0 u1:Value} {t1 t2 t3:TypeId} (hb:Below (((w.alloc (.cells #[x0,x1] t1)).alloc (.cells #[y0,y1] t2)).alloc (.cells #[u0,u1] t3)).heap.size (((w.alloc (.cells #[x0,x1] t1)).alloc (.cells #[y0,y1] t2)).alloc (.cells #[u0,u1] t3)) wx) :
  wx.frozen? ⟨w.heap.size+1,0,none⟩=false:=by
 have e:(((w.alloc (.cells #[x0,x1] t1)).alloc (.cells #[y0,y1] t2)).alloc (.cells #[u0,u1] t3)).heap=((w.heap.push (.cells #[x0,x1] t1)).push (.cells #[y0,y1] t2)).push (.cells #[u0,u1] t3):=rfl;have hk:=hb.block;rw[e] at hk;simp only[Array.size_push] at hk;have B1:wx.heap[w.heap.size+1]? = some (.cells #[y0,y1] t2):=by rw[hk _ (by omega),Array.getElem?_push,if_neg (by simp only[Array.size_push];omega),Array.getElem?_push,if_pos (by simp only[Array.size_push])]
 exact (Zba B1).2.2.1
theorem low2 {w wx:World} {o1 o2:Obj} (hb:Below ((w.alloc o1).alloc o2).heap.size ((w.alloc o1).alloc o2) wx):Below w.heap.size w wx:=
 (((Below.refl w.heap.size w).alloc (Nat.le_refl _) o1).alloc (by simp) o2).trans (hb.mono (by simp;omega))
theorem low1 {w wx:World} {o1:Obj} (hb:Below (w.alloc o1).heap.size (w.alloc o1) wx):Below w.heap.size w wx:=
 ((Below.refl w.heap.size w).alloc (Nat.le_refl _) o1).trans (hb.mono (by simp))
theorem Zns {w wx:World} {x0 x1 y0 y1:Value} {t1 t2:TypeId} (hb:Below ((w.alloc (.cells #[x0,x1] t1)).alloc (.cells #[y0,y1] t2)).heap.size ((w.alloc (.cells #[x0,x1] t1)).alloc (.cells #[y0,y1] t2)) wx) :
  wx.cell? ⟨w.heap.size,0,none⟩=some x0/\wx.cell? ⟨w.heap.size,1,none⟩=some x1/\wx.cell? ⟨w.heap.size+1,0,none⟩=some y0/\wx.cell? ⟨w.heap.size+1,1,none⟩=some y1/\w.heap.size+1<wx.heap.size:=by
 have e:((w.alloc (.cells #[x0,x1] t1)).alloc (.cells #[y0,y1] t2)).heap=(w.heap.push (.cells #[x0,x1] t1)).push (.cells #[y0,y1] t2):=rfl;have hz:=hb.size;have hk:=hb.block;rw[e] at hz hk;simp only[Array.size_push] at hz hk;have B0:wx.heap[w.heap.size]? = some (.cells #[x0,x1] t1):=by rw[hk _ (by omega),Array.getElem?_push,if_neg (by simp only[Array.size_push];omega),Array.getElem?_push,if_pos rfl]
 have B1:wx.heap[w.heap.size+1]? = some (.cells #[y0,y1] t2):=by rw[hk _ (by omega),Array.getElem?_push,if_pos (by simp only[Array.size_push])]
 obtain⟨a0,a1,-,-⟩:=Zba B0;obtain⟨b0,b1,-,-⟩:=Zba B1;exact⟨a0,a1,b0,b1,by omega⟩
theorem Zjl (an ad bn bd:Int) (w:World) :
  Calls Tryz.prog 68 #[.agg #[.int .i64 an,.int .i64 ad],.agg #[.int .i64 bn,.int .i64 bd]] w fun e w'=>e=.returned (.tuple #[.agg #[.int .i64 (Ra.opN (Ra.two an ad bn bd) (an*bd-bn*ad) (ad*bd)),.int .i64 (Ra.opD (Ra.two an ad bn bd) (an*bd-bn*ad) (ad*bd))],.bool (Ra.opK (Ra.two an ad bn bd) (an*bd-bn*ad) (ad*bd))])/\Below w.heap.size w w':=by
 rcases h2:Ra.vld bn bd with _|_
 ·have e:Ra.two an ad bn bd=false:=by unfold Ra.two;rw[h2];simp
  rw[e,(Ra.Zb2 _ _).1,(Ra.Zb2 _ _).2.1,(Ra.Zb2 _ _).2.2];have H2:=zH h2;clear h2 e
  go_enter Tryz.func68,Tryz.ntmps68
  go_wp2_with fail
  refine (Zaf bn bd false H2.out _).mono ?_;rintro e w1 ⟨rfl,hb1⟩;have Hb:=zH hb1;obtain⟨a0,a1,b0,b1,r0,r1,z0,z1,hz⟩:=Zb6 hb1;clear hb1
  go_wp2_with fail
  exact bodyPost_ret (v:=.tuple #[.agg #[.int .i64 0,.int .i64 0],.bool false]) (by simp[results,Tryz.results68,go_sem,(Zae r0 r1).1,(Zae r0 r1).2]) rfl ⟨rfl,Zbg Hb.out _ _⟩
 ·have v:=Ra.Zbw h2
  have n0:=v.2.2.1;have n1:=v.2.2.2.1;have hc:∀w:World,Calls Tryz.prog 35 #[.agg #[.int .i64 an,.int .i64 ad],.agg #[.int .i64 (-bn),.int .i64 bd]] w fun e w'=>e=.returned (.tuple #[.agg #[.int .i64 (Ra.opN (Ra.two an ad bn bd) (an*bd-bn*ad) (ad*bd)),.int .i64 (Ra.opD (Ra.two an ad bn bd) (an*bd-bn*ad) (ad*bd))],.bool (Ra.opK (Ra.two an ad bn bd) (an*bd-bn*ad) (ad*bd))])/\Below w.heap.size w w':=fun w=>by
   have:=Zft an ad (-bn) bd w;rw[Ra.Zpy,show an*bd + -bn*ad=an*bd-bn*ad by grind] at this;exact this
  generalize Ra.opN (Ra.two an ad bn bd) (an*bd-bn*ad) (ad*bd)=N at *;generalize Ra.opD (Ra.two an ad bn bd) (an*bd-bn*ad) (ad*bd)=D at *;generalize Ra.opK (Ra.two an ad bn bd) (an*bd-bn*ad) (ad*bd)=k at *;have H2:=zH h2;have Hc:=zH hc;clear h2 v hc
  go_enter Tryz.func68,Tryz.ntmps68
  go_wp2_with fail
  refine (Zaf bn bd true H2.out _).mono ?_;rintro e w1 ⟨rfl,hb1⟩;have Hb:=zH hb1;obtain⟨a0,a1,b0,b1,r0,r1,z0,z1,hz⟩:=Zb6 hb1;have zb:=Zre hb1;clear hb1
  go_wp2_with fail
  refine (Hc.out _).mono ?_;rintro e w2 ⟨rfl,hb2⟩;have hsz:(w1.setCell ⟨w.heap.size+1,0,none⟩ (.int .i64 (-bn))).heap.size=w1.heap.size:=by simp[World.setCell]
  have Hb2:=zH (((low3 Hb.out).setCell (p:=⟨w.heap.size+1,0,none⟩) (by simp) (.int .i64 (-bn))).trans (hb2.mono (by rw[hsz];omega)));have s0:w2.cell? ⟨w.heap.size+2,0,none⟩=some (.int .i64 0):=by
   rw[hb2.cell (p:=⟨w.heap.size+2,0,none⟩) (by rw[hsz];exact hz),World.cell?_setCell_other _ _ _ _ (by simp)];exact r0
  have s1:w2.cell? ⟨w.heap.size+2,1,none⟩=some (.int .i64 0):=by
   rw[hb2.cell (p:=⟨w.heap.size+2,1,none⟩) (by rw[hsz];exact hz),World.cell?_setCell_other _ _ _ _ (by simp)];exact r1
  have y0:w2.frozen? ⟨w.heap.size+2,0,none⟩=false:=by
   rw[hb2.frozen (p:=⟨w.heap.size+2,0,none⟩) (by rw[hsz];exact hz),World.frozen?_setCell];exact z0
  have y1:w2.frozen? ⟨w.heap.size+2,1,none⟩=false:=by
   rw[hb2.frozen (p:=⟨w.heap.size+2,1,none⟩) (by rw[hsz];exact hz),World.frozen?_setCell];exact z1
  clear a0 a1 b0 b1 r0 r1 z0 z1 zb hb2 hsz
  go_wp2_with fail
  exact bodyPost_ret (v:=.tuple #[.agg #[.int .i64 N,.int .i64 D],.bool k]) (by simp[results,Tryz.results68,go_sem,(Zae s0 s1).1,(Zae s0 s1).2]) rfl ⟨rfl,(Hb2.out.setCell (p:=⟨w.heap.size+2,0,none⟩) (by simp) _).setCell (p:=⟨w.heap.size+2,1,none⟩) (by simp) _⟩
theorem Zfv (an ad bn bd:Int) (w:World) :
  Calls Tryz.prog 33 #[.agg #[.int .i64 an,.int .i64 ad],.agg #[.int .i64 bn,.int .i64 bd]] w fun e w'=>e=.returned (.int .i64 (Ra.cmp an ad bn bd))/\Below w.heap.size w w':=by
 rcases h1:Ra.vld an ad with _|_
 ·have e:Ra.two an ad bn bd=false:=by unfold Ra.two;rw[h1];rfl
  rw[Ra.Zlm e];have H1:=zH h1;clear h1 e
  go_enter Tryz.func33,Tryz.ntmps33
  go_wp2_with fail
  refine (Zaf an ad false H1.out _).mono ?_;rintro e w1 ⟨rfl,hb1⟩;have Hb:=zH (low2 hb1);clear hb1
  go_wp2_with fail
  go_ret;exact⟨rfl,Hb.out⟩
 ·rcases h2:Ra.vld bn bd with _|_
  ·have e:Ra.two an ad bn bd=false:=by unfold Ra.two;rw[h2];simp
   rw[Ra.Zlm e];have H1:=zH h1;have H2:=zH h2;clear h1 h2 e
   go_enter Tryz.func33,Tryz.ntmps33
   go_wp2_with fail
   refine (Zaf an ad true H1.out _).mono ?_;rintro e w1 ⟨rfl,hb1⟩;have Hb:=zH (low2 hb1);obtain⟨a0,a1,b0,b1,hz⟩:=Zns hb1;clear hb1
   go_wp2_with fail
   refine (Zaf bn bd false H2.out _).mono ?_;rintro e w2 ⟨rfl,hb2⟩;have Hb2:=zH (Hb.out.trans (hb2.mono Hb.out.size));clear hb2
   go_wp2_with fail
   go_ret;exact⟨rfl,Hb2.out⟩
  ·have e:Ra.two an ad bn bd=true:=by unfold Ra.two;rw[h1,h2];rfl
   obtain⟨⟨p1,p2⟩,⟨p3,p4⟩,⟨p5,p6⟩,⟨p7,p8⟩,⟨p9,p10⟩⟩:=Ra.prods h1 h2;have H1:=zH h1;have H2:=zH h2;have key:∃r:Int,Hid (Ra.cmp an ad bn bd=r)/\((decide (an*bd<bn*ad)=true/\r=-1)\/(decide (an*bd<bn*ad)=false/\decide (bn*ad<an*bd)=true/\r=1)\/(decide (an*bd<bn*ad)=false/\decide (bn*ad<an*bd)=false/\r=0)):=by
    rcases Int.lt_trichotomy (an*bd) (bn*ad) with h|h|h
    ·exact⟨-1,Ra.Zof e h,.inl ⟨by rw[decide_eq_true_iff];exact h,rfl⟩⟩
    ·exact⟨0,Ra.cmp_eq h,.inr (.inr ⟨by rw[decide_eq_false_iff_not];omega,by rw[decide_eq_false_iff_not];omega,rfl⟩)⟩
    ·exact⟨1,Ra.Zoe e h,.inr (.inl ⟨by rw[decide_eq_false_iff_not];omega,by rw[decide_eq_true_iff];exact h,rfl⟩)⟩
   clear h1 h2 e;obtain⟨r,Hr,⟨k1,rfl⟩ | ⟨k1,k2,rfl⟩ | ⟨k1,k2,rfl⟩⟩:=key
   all_goals
    go_enter Tryz.func33,Tryz.ntmps33
    go_wp2_with fail
    refine (Zaf an ad true H1.out _).mono ?_;rintro e w1 ⟨rfl,hb1⟩;have Hb:=zH hb1;obtain⟨a0,a1,b0,b1,hz⟩:=Zns hb1;clear hb1
    go_wp2_with fail
    refine (Zaf bn bd true H2.out _).mono ?_;rintro e w2 ⟨rfl,hb2⟩;have Hb2:=zH (Hb.out.trans (hb2.mono Hb.out.size));clear Hb a0 a1 b0 b1 hz hb2;obtain⟨a0,a1,b0,b1,hz⟩:=Zns Hb2.out
    go_wp2_with fail
    go_ret;exact⟨Zcd Hr.out.symm,low2 Hb2.out⟩
theorem Zfh (an ad bn bd:Int) (w:World) :
  Calls Tryz.prog 41 #[.agg #[.int .i64 an,.int .i64 ad],.agg #[.int .i64 bn,.int .i64 bd]] w fun e w'=>e=.returned (.int .i64 (Ra.cmp an ad bn bd))/\Below w.heap.size w w':=by
 have he:=Zcu;have hg:=Zb5
 rcases h0:(an == bn && ad == bd) with _|_
 ·rcases h:Ra.two an ad bn bd with _|_
  ·rw[Ra.Zlm h]
   have H:=zH h;clear h
   go_enter Tryz.func41,Tryz.ntmps41
   go_wp2_with fail
   refine (Zav an ad bn bd false H.out _).mono ?_;rintro e w1 ⟨rfl,hb1⟩;have Hb:=zH (low2 hb1);clear hb1
   go_wp2_with fail
   go_ret;exact⟨rfl,Hb.out⟩
  ·obtain⟨h1,h2⟩:=Ra.Zeg h
   obtain⟨⟨p1,p2⟩,⟨p3,p4⟩,⟨p5,p6⟩,⟨p7,p8⟩,⟨p9,p10⟩⟩:=Ra.prods h1 h2;have key:∃r:Int,Hid (Ra.cmp an ad bn bd=r)/\((decide (an*bd<bn*ad)=true/\r=-1)\/(decide (an*bd<bn*ad)=false/\r=1)):=by
    rcases Int.lt_trichotomy (an*bd) (bn*ad) with h3|h3|h3
    ·exact⟨-1,Ra.Zof h h3,.inl ⟨by rw[decide_eq_true_iff];exact h3,rfl⟩⟩
    ·exfalso
     obtain⟨c1,c2⟩:=Ra.canon h1 h2 h3;rw[c1,c2] at h0;simp at h0
    ·exact⟨1,Ra.Zoe h h3,.inr ⟨by rw[decide_eq_false_iff_not];omega,rfl⟩⟩
   have H:=zH h;clear h h1 h2;obtain⟨r,Hr,⟨k1,rfl⟩ | ⟨k1,rfl⟩⟩:=key
   all_goals
    go_enter Tryz.func41,Tryz.ntmps41
    go_wp2_with fail
    refine (Zav an ad bn bd true H.out _).mono ?_;rintro e w1 ⟨rfl,hb1⟩;have Hb:=zH (low2 hb1);obtain⟨a0,a1,b0,b1,hz⟩:=Zns hb1;clear hb1
    go_wp2_with fail
    go_ret;exact⟨Zcd Hr.out.symm,Hb.out⟩
 ·have e:Ra.cmp an ad bn bd=0:=by
   simp only[Bool.and_eq_true,beq_iff_eq] at h0;rw[h0.1,h0.2];exact Ra.cmp_eq rfl
  rw[e];clear e
  go_enter Tryz.func41,Tryz.ntmps41
  go_wp2_with fail
  go_ret;exact⟨rfl,by (repeat' (first|exact Below.refl _ _|exact Nat.le_refl _|refine Below.setCell ?_ ?_ _|refine Below.alloc ?_ ?_ _|refine below_drewN ?_ _|refine Below.drew ?_ | (simp;done) | (simp;omega)))⟩
theorem Zgk (n d:Int) (w:World):Calls Tryz.prog 20 #[.agg #[.int .i64 n,.int .i64 d]] w fun e w'=>e=.returned (.agg #[.int .i64 n,.int .i64 d])/\Below w.heap.size w w':=by
 go_enter Tryz.func20,Tryz.ntmps20
 go_wp2_with fail
 exact bodyPost_ret (v:=.agg #[.int .i64 n,.int .i64 d]) (by simp[results,Tryz.results20,go_sem]) rfl ⟨rfl,by (repeat' (first|exact Below.refl _ _|exact Nat.le_refl _|refine Below.setCell ?_ ?_ _|refine Below.alloc ?_ ?_ _|refine below_drewN ?_ _|refine Below.drew ?_ | (simp;done) | (simp;omega)))⟩
theorem Zgj (n d:Int) (w:World):Calls Tryz.prog 25 #[.agg #[.int .i64 n,.int .i64 d],.agg #[.int .i64 n,.int .i64 d]] w fun e w'=>e=.returned (.bool true)/\Below w.heap.size w w':=by
 go_enter Tryz.func25,Tryz.ntmps25
 go_wp2_with fail
 go_ret;exact⟨rfl,by (repeat' (first|exact Below.refl _ _|exact Nat.le_refl _|refine Below.setCell ?_ ?_ _|refine Below.alloc ?_ ?_ _|refine below_drewN ?_ _|refine Below.drew ?_ | (simp;done) | (simp;omega)))⟩
theorem Zb4 {P:Program} {f:FuncId} {args:Array Value} {wx:World} {v:Value} (h:Calls P f args wx fun e w'=>e=.returned v/\Below wx.heap.size wx w') {B:World} {x y:Value} {t:TypeId} {q:Nat} (hB:Own2 B x y t q wx) :
  Calls P f args wx fun e w'=>(e=.returned v/\True)/\Own2 B x y t q w':=h.mono fun _ _ ⟨he,hb⟩=>⟨⟨he,trivial⟩,hB.trans hb⟩
def Zks (p q:Nat) (an ad bn bd:Int) (B:World):Prop:=
 B.cell? ⟨p,0,none⟩=some (.int .i64 an)/\B.cell? ⟨p,1,none⟩=some (.int .i64 ad)/\B.cell? ⟨q,0,none⟩=some (.int .i64 bn)/\B.cell? ⟨q,1,none⟩=some (.int .i64 bd)/\p<B.heap.size/\q<B.heap.size
theorem Zks.since {p q:Nat} {an ad bn bd:Int} {B wx:World} (H:Zks p q an ad bn bd B) (h:Since B wx):Zks p q an ad bn bd wx:=
 ⟨h.cell H.2.2.2.2.1 H.1,h.cell H.2.2.2.2.1 H.2.1,h.cell H.2.2.2.2.2 H.2.2.1,h.cell H.2.2.2.2.2 H.2.2.2.1,Nat.lt_of_lt_of_le H.2.2.2.2.1 h.low.size,Nat.lt_of_lt_of_le H.2.2.2.2.2 h.low.size⟩
theorem Zks.five {p q:Nat} {an ad bn bd:Int} {B wx:World} (H:Hid (Zks p q an ad bn bd B)) (h:Since B wx) :
  wx.cell? ⟨p,0,none⟩=some (.int .i64 an)/\wx.cell? ⟨p,1,none⟩=some (.int .i64 ad)/\wx.cell? ⟨q,0,none⟩=some (.int .i64 bn)/\wx.cell? ⟨q,1,none⟩=some (.int .i64 bd)/\Since B wx:=
 ⟨(H.out.since h).1,(H.out.since h).2.1,(H.out.since h).2.2.1,(H.out.since h).2.2.2.1,h⟩
end Go.Proofs.YtpjnjidbdpfdcaaGreat
