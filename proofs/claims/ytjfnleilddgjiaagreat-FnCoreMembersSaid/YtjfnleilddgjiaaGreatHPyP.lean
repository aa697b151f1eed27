/- The parts QTail, PyE, RaDraw, ApR, VeDraw, PyP. -/
import Derived.Test.YtjfnleilddgjiaaGreatHHeldT
import Derived.StillTail
import Derived.Deep.QuietTactic
import Derived.BigQuiet
import Derived.Test.YtjfnleilddgjiaaGreatPyC
import Derived.Test.YtjfnleilddgjiaaGreatGVb
import Derived.Test.YtjfnleilddgjiaaGreatHLpI1
import Derived.Test.YtjfnleilddgjiaaGreatHDrawA
import Derived.Test.YtjfnleilddgjiaaGreatGRa
import Derived.Test.YtjfnleilddgjiaaGreatHGrI
import Derived.Laws.AppendOwn
import Derived.Test.YtjfnleilddgjiaaGreatHGmB
set_option maxRecDepth 100000
set_option maxHeartbeats 4000000
namespace Go.Proofs.YtjfnleilddgjiaaGreat
section
variable {P:Program} {ops:Array Oper} {md:Region.Mode} {C:World->Prop}
def Zf3 (P:Program) (md:Region.Mode) (ops:Array Oper) (C:World->Prop) (n:Nat) (L:Array Bool->Act->Prop):Nat->Array Bool->Act->Prop
 | 0,listed,a=>L listed a
 | f+1,listed,a=>Region.ready md ops listed≠[]/\∀i∈Region.ready md ops listed,i<n/\qOp P ops C i (Zf3 P md ops C n L f (listed.setIfInBounds i true)) a
theorem Zf3.any {n g:Nat} {L:Array Bool->Act->Prop} {Q':Exit->Act->World->Prop} (hL:∀listed a w,C w->L listed a->wpAny P md ops Q' g listed a w) :
  ∀(f:Nat) (listed:Array Bool) (a:Act) (w:World),C w->Zf3 P md ops C n L f listed a->wpAny P md ops Q' (f+g) listed a w
 | 0,listed,a,w,hw,h=>by rw[Nat.zero_add];exact hL _ _ _ hw h
 | f+1,listed,a,w,hw,h=>by
  rw[show f+1+g=(f+g)+1 by omega];exact⟨fun h0=>absurd h0 h.1,fun i hi=>wpOp_of_qOp hw (fun a' w' hw' h'=>Zf3.any hL f _ a' w' hw' h') (h.2 i hi).2⟩
theorem Zf3.first {n i:Nat} {oi:Oper} {v:Value} {L:Array Bool->Act->Prop} (hi:ops[i]? = some oi) (hsel:∀(j:Nat) (o:Oper) cs b,ops[j]? = some o->o.op≠.select cs b)
  (hs:Region.sinkB md ops n=true) (hc:Region.chainB md ops n=true) (hn:n<ops.size) (hin:i<n) (hdone:∀listed a,L listed a->∀j∈Region.ready md ops listed,n≤j) :
  ∀(f:Nat) (listed:Array Bool) (a:Act),HeadInv md ops n listed->
   (∀j oj,ops[j]? = some oj->j≠i->listed.getD j true=false->(∀e∈oj.after,Region.binds md e=true->e.on≠i)->oi.apart ops oj=true)->
   i∈Region.ready md ops listed->YieldsIn P ops C oi v a->
   Zf3 P md ops C n L f (listed.setIfInBounds i true) (a.put oi.dst v)->Zf3 P md ops C n L (f+1) listed a:=by
 intro f
 induction f with
 | zero=>
  intro listed a inv _ hr hy H;have hun:=(mem_ready.1 hr).1;refine⟨fun h=>(by rw[h] at hr;cases hr),fun j hj=>?_⟩;have hjn:j<n:=by
   rcases Nat.lt_or_ge j n with h|h
   ·exact h
   ·exact absurd hj (tail_waits hs hc hn inv _ i rfl hin hun j h)
  refine⟨hjn,?_⟩
  by_cases hji:j=i
  ·subst hji;exact hy.qOp hi H
  ·have:=hdone _ _ H j (ready_mono hj hji)
   omega
 | succ f ih=>
  intro listed a inv hfree hr hy H;have hun:=(mem_ready.1 hr).1;refine⟨fun h=>(by rw[h] at hr;cases hr),fun j hj=>?_⟩;have hjn:j<n:=by
   rcases Nat.lt_or_ge j n with h|h
   ·exact h
   ·exact absurd hj (tail_waits hs hc hn inv _ i rfl hin hun j h)
  refine⟨hjn,?_⟩
  by_cases hji:j=i
  ·subst hji;exact hy.qOp hi H
  ·have h1:=(H.2 j (ready_mono hj hji)).2
   obtain⟨hjun,oj,hoj,hall⟩:=mem_ready.1 hj;have hnot:∀e∈oj.after,Region.binds md e=true->e.on≠i:=fun e he hb heq=>by
    have h1:=hall e he hb;rw[heq,getD_both hun] at h1;cases h1
   have h2:=qOp_put hoj (hfree j oj hoj hji hjun hnot) (fun cs b=>hsel i oi cs b hi) (fun cs b=>hsel j oj cs b hoj) hy h1;have hfree':∀k ok,ops[k]? = some ok->k≠i->(listed.setIfInBounds j true).getD k true=false->
     (∀e∈ok.after,Region.binds md e=true->e.on≠i)->oi.apart ops ok=true:=fun k ok hk hki hun hno=>by
    refine hfree k ok hk hki ?_ hno
    by_cases hjk:j=k
    ·subst hjk;exact hjun
    ·rw[getD_set_ne true hjk] at hun;exact hun
   refine qOp_mono (fun a' h3=>ih (listed.setIfInBounds j true) a' (inv.set hj hjn) hfree' (ready_mono hr (Ne.symm hji)) h3.1 ?_) h2;rw[Array.setIfInBounds_comm _ _ hji];exact h3.2
theorem Zf3.lex {n g:Nat} {Lq:Act->Prop} (hsel:Region.noSelect ops=true) (hs:Region.sinkB md ops n=true) (hc:Region.chainB md ops n=true) (hn:n<ops.size) :
  ∀(l:List Oper) (k:Nat) (listed:Array Bool) (a:Act),(∀j,j<l.length->l[j]? = ops[k+j]?)->k+l.length=n->HeadInv md ops n listed->
  Region.lexHead md ops g l.length k listed=true->wpQuiet P ops C Lq l a->Zf3 P md ops C n (fun listed' a'=>Region.seqB md ops g n listed'=true/\Lq a') l.length listed a
 | [],k,listed,a,_,hk,_,hB,h=>by
  have:k=n:=by simpa using hk
  subst this;exact⟨by simpa [Region.lexHead] using hB,h⟩
 | o::l,k,listed,a,hl,hk,inv,hB,h=>by
  have h0:ops[k]? = some o:=by simpa using (hl 0 (by simp)).symm
  simp only[List.length_cons,Region.lexHead,Bool.and_eq_true] at hB;obtain⟨⟨hr,hf⟩,hB'⟩:=hB;have hkn:k<n:=by simp only[List.length_cons] at hk;omega
  have hr':k∈Region.ready md ops listed:=by simpa using hr
  have hst:qOp P ops C k (wpQuiet P ops C Lq l) a:=by unfold qOp;simp only[h0];exact h
  obtain⟨v,hy,hK⟩:=yieldsIn_of_qOp h0 hst;exact Zf3.first h0 (Region.noSelect_spec hsel) hs hc hn hkn (fun listed' a' hL=>seqB_ready hL.1) l.length listed a inv (Region.free_spec h0 hf) hr' hy
   (Zf3.lex hsel hs hc hn l (k+1) _ _ (fun j hj=>by have:=hl (j+1) (by simp;omega);simpa [Nat.add_assoc,Nat.add_comm 1 j] using this) (by simp only[List.length_cons] at hk;omega) (inv.set hr' hkn) hB' hK)
theorem Zjb {id:Nat} {Q:Exit->Act->World->Prop} {a:Act} {w:World} {l:List Oper} (n:Nat) (hm:P.follows .mixedOrders=true) (hB:Region.lexTailB .any l.toArray n=true)
  (h:wpQuiet P l.toArray (fun w'=>∃m,w'=w.drewN m) (fun a'=>∀w',(∃m,w'=w.drewN m)->wpList P l.toArray Q (l.drop n) a' w') (l.take n) a):(Code.region id l.toArray true).wp P Q a w:=by
 simp only[Region.lexTailB,Bool.and_eq_true,decide_eq_true_eq] at hB;obtain⟨⟨⟨⟨hsel,hn⟩,hs⟩,hc⟩,hlex⟩:=hB;have hn':n<l.length:=by simpa using hn
 have htl:(l.take n).length=n:=by simp;omega
 have hdl:(l.drop n).length=l.toArray.size-n:=by simp
 have inv0:HeadInv .any l.toArray n (Array.replicate l.toArray.size false):=
  ⟨by simp,fun j oj _ hl=>(by rw[getD_replicate_false] at hl;cases hl),fun t _ ht=>getD_in (by simpa using ht) (getD_replicate_false _ _)⟩
 have H:=Zf3.lex (md:=.any) (g:=l.toArray.size-n) hsel hs hc hn (l.take n) 0 _ a (fun j hj=>by
  have hj':j<n:=by rw[htl] at hj;exact hj
  simp[hj']) (by simpa using htl) inv0 (by rw[htl];exact hlex) h
 refine wp_region_any hm ?_;have:=Zf3.any (Q':=Q) (g:=l.toArray.size-n) (fun listed a' w' hw' hL=>by
  have:=wpAny_of_seq (md:=.any) (Q':=Q) (l.drop n) n listed a' w' (fun j=>by simp[List.getElem?_drop]) (by rw[hdl];exact hL.1) (hL.2 w' hw')
  rwa [hdl] at this) _ _ _ _ ⟨1,rfl⟩ H
 rw[htl,show n+(l.toArray.size-n)=l.toArray.size by omega] at this;exact this
end
open Go.RowKit
open Ve (R)
open Gm (G)
theorem Zke (B:Nat) (w:World) (h:B≤w.heap.size):Zaa B (w.alloc (.cells #[] 59)) (.slice (some ⟨w.heap.size,0,none⟩) 0 0) []:=World.ownsRow_made w #[] 0 h (Nat.zero_le _) rfl
theorem Zzs {g:G} {x:List R} {m:Nat} (h:1≤m):Py.pre g x (m+1-1)=Py.pre g x (m-1)++[(Py.exc g x (m:Int)).1]:=by
 have:=Py.Zos g x (m-1);rw[show m-1+1=m+1-1 by omega,show ((m-1:Nat):Int)+1=(m:Int) by omega] at this;exact this
theorem Zv2 {g:G} {x:List R} {m:Nat} (h:1≤m) (h1:Py.Zfi g x (m-1)=true) (h2:(Py.exc g x (m:Int)).2=true):Py.Zfi g x (m+1-1)=true:=by
 rw[show m+1-1=m-1+1 by omega,Py.Zfi,h1,show ((m-1:Nat):Int)+1=(m:Int) by omega,h2];rfl
theorem Zv1 {g:G} {x:List R} {m n:Nat} (h:1≤m) (h2:(Py.exc g x (m:Int)).2=false) (hn:m-1<n):Py.Zfi g x n=false:=
 Py.Zv0 (k:=m-1) (by rw[show ((m-1:Nat):Int)+1=(m:Int) by omega];exact h2) hn
theorem Zsf {w:World} {x y v:Value} {g:G} {xs:List R} (h:GmC w x y g) (hv:Zcc w v xs) (hf:GmOk g) (hx:xs.length≤1048576) :
  Calls Tryz.prog 80 #[.agg #[x,y],v] w (Zb5 (Py.lst g xs) (Py.okE g xs) w):=by
 obtain⟨gn,gv⟩:=g;obtain⟨D,hD⟩:∃D,Py.lst ⟨gn,gv⟩ xs=D:=⟨_,rfl⟩;obtain⟨K,hK⟩:∃K,Py.okE ⟨gn,gv⟩ xs=K:=⟨_,rfl⟩;rw[hD,hK];have HD:=zH hD;have HK:=zH hK;obtain⟨a,c,rfl,rfl,hi⟩:=h;obtain⟨i0,hii,hz0,hz1,hz2⟩:=info_parts Zdf;have HI:=zH hii;have HZ0:=zH hz0;have HZ1:=zH hz1;have HZ2:=zH hz2;obtain⟨W,hW⟩:∃W,W=w.alloc (.cells #[.int .i64 gn,.slice a gv.length c] 30):=⟨_,rfl⟩;have hc:=Zad.new w #[.int .i64 gn,.slice a gv.length c] 30;have hb:=(Below.refl w.heap.size w).alloc (Nat.le_refl _) (.cells #[.int .i64 gn,.slice a gv.length c] 30);rw[<-hW] at hc hb;have hX:GmC W (.int .i64 gn) (.slice a gv.length c) ⟨gn,gv⟩:=GmC.up ⟨a,c,rfl,rfl,hi⟩ hb;have hV:=hv.up hb;have hlv:gv.length≤1048576:=hf.1;have HW:=zH hW;have HC:=zH hc;have HB:=zH hb;have HX:=zH hX;have HV:=zH hV;have HF:=zH hf;have hlo:=hb.size;have HO0:Hid (Zaa W.heap.size (W.alloc (.cells #[] 59)) (.slice (some ⟨w.heap.size+1,0,none⟩) 0 0) []):=by
  have hs:w.heap.size+1=W.heap.size:=by rw[hW,Zao]
  show Zaa _ _ _ _;rw[hs];exact Zke _ _ (Nat.le_refl _)
 have HBe:=zH ((Below.refl W.heap.size W).alloc (Nat.le_refl _) (.cells #[] 59));have HXe:=zH (hX.up HBe.out);have HVe:=zH (hV.up HBe.out);clear hii hz0 hz1 hz2 hD hK hW hc hb hX hV hv hi hf
 rcases hp:Py.Zho ⟨gn,gv⟩ xs with _|_
 ·have HP:=zH hp
  have hok:=Py.Z16 hp;have hls:=Py.Zwk hok;rw[HD.out] at hls;rw[HK.out] at hok;have HE1:=zH hls;have HE2:=zH hok;clear hp hok hls
  go_enter Tryz.func80,Tryz.ntmps80
  go_wp2_with fail
  rw[<-HW.out];refine (Ziu false HP.out HXe.out HVe.out HF.out hx).mono ?_;rintro e w1 ⟨rfl,hb1⟩;have HB1:=zH (HBe.out.trans (hb1.mono HBe.out.size));have Hown1:=zH (HO0.out.below hb1);clear hb1
  go_wp2_with fail
  go_ret2
  refine⟨_,Zca HE2.out.symm,?_,HB.out.trans (HB1.out.mono hlo)⟩;rw[HE1.out];exact Zaa.lower Hown1.out hlo
 ·have HP:=zH hp
  have hvl:=(Py.Zhp hp).1;have hl2:=(Gm.Zcu hvl).1;have hl3:=(Gm.Zcu hvl).2;dsimp only at hl2 hl3;have Hok:=zH ((Py.Z3l hp).symm.trans HK.out);have Hls:=zH HD.out;dsimp only at Hok;clear hp hvl
  go_enter Tryz.func80,Tryz.ntmps80
  go_wp2_with fail
  rw[<-HW.out];refine (Ziu true HP.out HXe.out HVe.out HF.out hx).mono ?_;rintro e w1 ⟨rfl,hb1⟩;have HO1:=zH (HO0.out.below hb1);have HB1:=zH (HBe.out.trans (hb1.mono HBe.out.size));clear HO0 HBe HXe HVe;clear hb1
  go_wp2_with fail
  go_loopw [6,7] (fun v i wr=>∃m:Nat,1≤m/\m≤gv.length-1/\i=.int .i64 m/\Hid (Zaa W.heap.size wr v (Py.pre ⟨gn,gv⟩ xs (m-1)))/\Hid (Py.Zfi ⟨gn,gv⟩ xs (m-1)=true)/\Hid (Below W.heap.size W wr)) (fun _ i _=>gv.length-(intOf i).toNat)
  case atStart=>exact⟨1,Nat.le_refl _,by omega,rfl,HO1,rfl,HB1⟩
  case round=>
   obtain⟨m,hm1,hm2,rfl,hO,hA,hB⟩:=hrel;obtain⟨x0,x1⟩:=two (HC.out.below hB.out);have hsz:=hB.out.size
   by_cases hlt:m<gv.length - 1
   ·have d1:decide ((m:Int)<(gv.length:Int)-1)=true:=by rw[decide_eq_true_iff];omega
    have n1:(m:Int)<(gv.length:Int)-1:=by omega
    have He:=zH (Zzs (g:=⟨gn,gv⟩) (x:=xs) hm1);have HA2:=zH (fun h=>Zv2 hm1 hA.out h);have HN:=zH (fun h=>Zv1 (g:=⟨gn,gv⟩) (x:=xs) (n:=gv.length-2) hm1 h (by omega));have hlen:=Nat.le_of_eq (Py.Zja ⟨gn,gv⟩ xs (m-1));have HCall:=zH (Zo0 (m:Int) (HX.out.up hB.out) (HV.out.up hB.out) HF.out hx);have Hstart:=zH (show Py.pre ⟨gn,gv⟩ xs (m-1)=Py.pre ⟨gn,gv⟩ xs (m-1) from rfl);clear Hstart;generalize Py.pre ⟨gn,gv⟩ xs (m-1)=ls at *;obtain⟨E,hE⟩:∃E,Py.exc ⟨gn,gv⟩ xs (m:Int)=E:=⟨_,rfl⟩;obtain⟨E,ek⟩:=E;rw[hE] at HCall He HA2 HN;clear hE;dsimp only at He HA2 HN
    go_wp2_with fail
    refine HCall.out.mono ?_;rintro e w2 ⟨rfl,hb2⟩;have HB2:=zH (hB.out.trans (hb2.mono hsz));have hsz2:=HB2.out.size;have Hown1:=zH (hO.out.below hb2);clear hb2 HCall
    rcases ek with _|_
    ·have hok:=Hok.out
     rw[HN.out rfl] at hok;have hls:Py.lst ⟨gn,gv⟩ xs = []:=Py.Zwk (HK.out.trans hok.symm);rw[Hls.out] at hls;have HE1:=zH hls;have HE2:=zH hok;have HB3:=zH ((HB2.out.alloc hsz2 (.cells #[.int .i64 E.1,.int .i64 E.2] 59)));have hsz3:=HB3.out.size;clear hok hls Hok HA2 HN
     go_wp2_with fail
     go_ret2
     refine⟨_,Zca HE2.out,?_,HB.out.trans ((HB3.out.alloc hsz3 _).mono hlo)⟩;rw[HE1.out];have hmn:=Zke w.heap.size (w2.alloc (.cells #[.int .i64 E.1,.int .i64 E.2] 59)) (Nat.le_trans hlo hsz3);rw[Zao] at hmn;exact hmn
    ·have Hown:=zH (World.ownsRow.alloc (World.ownsRow.alloc Hown1.out (.cells #[.int .i64 E.1,.int .i64 E.2] 59)) (.cells #[.int .i64 E.1,.int .i64 E.2] 59))
     have HA3:Hid (Py.Zfi ⟨gn,gv⟩ xs (m+1-1)=true):=HA2.out rfl;clear HN HA2
     go_wp2_with (at_builtin;refine wpList_append_own _ rfl _ _ 26 rfl W.heap.size 59 i0 (.agg #[.int .i64 0,.int .i64 0]) 2 16 Tryz.underlying26 HI.out HZ0.out HZ1.out HZ2.out rfl (by decide) _ _ _ rfl Hown.out ⟨w2.heap.size+1,0,none⟩ 1 1 [.int .i64 E.1,.int .i64 E.2] rfl rfl ?c1 ?c2 ?c3 ?c4 ?c5 ?_)
     case c1=>
      intro j u hj
      match j,hj with
      | 0,hj=>simp at hj;subst hj;simp[Addr.add]
      | 1,hj=>simp at hj;subst hj;simp[Addr.add]
     case c2=>intro u hu;simp at hu;rcases hu with rfl|rfl<;>rfl
     case c3=>unfold maxLen;omega
     case c4=>omega
     case c5=>simp;omega
     intro v' w3 hown' hgrow _;have hne:=Hown.out.lt;have Ho1:=zH (Zaa.more (x:=E) hown');have Hb1:=zH (((HB2.out.alloc hsz2 (.cells #[.int .i64 E.1,.int .i64 E.2] 59)).alloc (by rw[Zao];omega) (.cells #[.int .i64 E.1,.int .i64 E.2] 59)).grown hgrow (by simp;omega) (fun g hg=>(hne g hg).1));rw[<-He.out] at Ho1;clear hown' hgrow hne
     go_wp2_with fail
     go_roundw
     case rel=>exact⟨m+1,by omega,by omega,by go_num,Ho1,HA3,Hb1⟩
     case measure=>simp[intOf];omega
   ·have he:m-1=gv.length-2:=by omega
    have d1:decide ((m:Int)<(gv.length:Int)-1)=false:=by rw[decide_eq_false_iff_not];omega
    have n1:¬(m:Int)<(gv.length:Int)-1:=by omega
    have HE:Hid (Py.pre ⟨gn,gv⟩ xs (m-1)=D/\true=K):=by
     have hok:Py.okE ⟨gn,gv⟩ xs=true:=by rw[HK.out,<-Hok.out,<-he];exact hA.out
     have:=Py.Zom hok;rw[HD.out] at this;rw[HK.out] at hok;rw[he];exact⟨this.symm,hok.symm⟩
    clear he
    go_wp2_with fail
    go_ret2
    refine⟨_,Zca HE.out.2,?_,HB.out.trans (hB.out.mono hlo)⟩;rw[<-HE.out.1];exact Zaa.lower hO.out hlo
theorem Only.of_below {p:Nat} {w w':World} (h:Below w.heap.size w w') (hp:p≤w.heap.size):Only p w w':=⟨h.mono hp,fun j _ h2=>h.block j h2⟩
theorem Cur.below {w w':World} {p:Nat} {a:Option Addr} {len cap:Nat} (h:Cur w p a len cap) (hb:Below w.heap.size w w'):Cur w' p a len cap:=by
 obtain⟨i,x,h1,h2,hk⟩:=h;exact⟨i,x,h1,h2,by rw[hb.block p (lt_of_block hk)];exact hk⟩
theorem Cur.Zbi {w:World} {p k:Nat} {a:Option Addr} {len cap:Nat} (h:Cur w p a len cap) (hk:p≠k) (o:Nat) (u:Value):Cur (w.setCell ⟨k,o,none⟩ u) p a len cap:=by
 obtain⟨i,x,h1,h2,hb⟩:=h;exact⟨i,x,h1,h2,by rw[Below.heap_setCell _ _ _ _ hk];exact hb⟩
def Z1h (p:Nat) (a:Option Addr) (len cap:Nat) (w:World) (e:Ending) (w':World):Prop:=
 ∃n d:Int,e=.returned (.agg #[.int .i64 n,.int .i64 d])/\Cur w' p a len cap/\Only p w w'
def rawN:List Int:=[0,1,2,-1,3,-7,12,999999999,-1000000000]
def rawD:List Int:=[1,1,2,3,7,1000000000,999999937]
def oddN:List Int:=[0,2,1000000001]
def oddD:List Int:=[0,2,-1,1]
theorem Zus:(rawN.map (Value.int .i64)).toArray=#[.int .i64 0,.int .i64 1,.int .i64 2,.int .i64 (-1),.int .i64 3,.int .i64 (-7),.int .i64 12,.int .i64 999999999,.int .i64 (-1000000000)]:=rfl
theorem Zur:(rawD.map (Value.int .i64)).toArray=#[.int .i64 1,.int .i64 1,.int .i64 2,.int .i64 3,.int .i64 7,.int .i64 1000000000,.int .i64 999999937]:=rfl
theorem Zup:(oddN.map (Value.int .i64)).toArray=#[.int .i64 0,.int .i64 2,.int .i64 1000000001]:=rfl
theorem Zuo:(oddD.map (Value.int .i64)).toArray=#[.int .i64 0,.int .i64 2,.int .i64 (-1),.int .i64 1]:=rfl
def Z2y (p:Nat) (a:Option Addr) (len cap:Nat) (w:World) (e:Ending) (w':World):Prop:=
 ∃x:Int,e=.returned (.int .i64 x)/\Cur w' p a len cap/\Only p w w'
theorem Zkf (B p:Nat) (a:Option Addr) (len cap c2:Nat) (ss:List Int) (cs:Array Value) (hcs:(ss.map (Value.int .i64)).toArray=cs) (m:Nat) (hm:ss.length=m) (hs1:1≤ss.length) (hs2:ss.length≤1000000) (w:World) (hB:B≤p)
  (hcur:Cur w p a len cap) (hcode:Zc6 B w a len) (q:Nat) (hq:q=w.heap.size) :
  Calls Tryz.prog 93 #[.pointer (some ⟨p,0,none⟩),.slice (some ⟨q,0,none⟩) m c2] (w.alloc (.cells cs 3)) (Z2y p a len cap w):=by
 subst hcs hm hq;have hp:=hcur.lt;refine (Zhi B p w.heap.size a len cap c2 ss hs1 hs2 _ hB (by omega) (by rw[Zao];omega) (Zjj.new w _ _) (hcur.alloc _) (hcode.below ((Below.refl _ _).alloc (by omega) _))).mono ?_;rintro e w' ⟨v,rfl,hv,hc,ho⟩;obtain⟨x,_,rfl⟩:=List.mem_map.1 hv;exact⟨x,rfl,hc,((Only.refl p w).alloc (by omega) _).trans ho⟩
theorem Zsg (B p:Nat) (a:Option Addr) (len cap:Nat) (w:World) (hB:B≤p) (hcur:Cur w p a len cap) (hcode:Zc6 B w a len) :
  Calls Tryz.prog 68 #[.pointer (some ⟨p,0,none⟩)] w (Z1h p a len cap w):=by
 have hp:=hcur.lt;have hn:(w.alloc (.cells #[.int .i64 0,.int .i64 0] 59)).heap[w.heap.size]? = some (.cells #[.int .i64 0,.int .i64 0] 59):=Zqb w _;have Hc:=zH (hcode.below ((Below.refl B w).alloc (by omega) (.cells #[.int .i64 0,.int .i64 0] 59)));have Hu:=zH (hcur.alloc (.cells #[.int .i64 0,.int .i64 0] 59));have Ho:=zH ((Only.refl p w).alloc (by omega) (.cells #[.int .i64 0,.int .i64 0] 59));have Hn:=zH hn;have Hs:=zH (Zao w (.cells #[.int .i64 0,.int .i64 0] 59));clear hcur hcode hn
 go_enter Tryz.func68,Tryz.ntmps68
 go_wp2_with fail
 refine (Zkf B p a len cap 9 rawN _ Zus 9 rfl (by decide) (by decide) _ hB Hu.out Hc.out _ (by simp)).mono ?_;rintro e w1 ⟨x,rfl,hc1,ho1⟩;have Hc1:=zH (Hc.out.below (ho1.below hB));have Ho1:=zH (Ho.out.trans ho1);have Hu1:=zH hc1;have Hn1:=zH (show w1.heap[w.heap.size]? = _ from (ho1.block (by omega) (by rw[Hs.out];omega)).trans Hn.out);clear hc1 ho1 Hc Ho Hn Hu Hs
 go_wp2_with fail
 refine (Zkf B p a len cap 7 rawD _ Zur 7 rfl (by decide) (by decide) _ hB Hu1.out Hc1.out _ (by simp)).mono ?_;rintro e w2 ⟨y,rfl,hc2,ho2⟩;have Hc2:=zH (Hc1.out.below (ho2.below hB));have Ho2:=zH (Ho1.out.trans ho2);have Hu2:=zH hc2;have Hn2:=zH ((ho2.block (by omega) (Zab Hn1.out)).trans Hn1.out);clear hc2 ho2 Hc1 Ho1 Hn1 Hu1
 go_wp2_with fail
 refine (Zf0 x y _).mono ?_;rintro e w3 ⟨rfl,hb3⟩;generalize Ra.rn x y=N;generalize Ra.rd x y=D;generalize Ra.fits x y=k;have hz2:p≤w2.heap.size:=by have:=Hu2.out.lt;omega
 have Hc3:=zH ((Hc2.out.below (hb3.mono (by omega))).below ((Below.refl B w3).alloc (by have:=hb3.size;omega) (.cells #[.int .i64 N,.int .i64 D] 59)));have Hu3:=zH ((Hu2.out.below hb3).alloc (.cells #[.int .i64 N,.int .i64 D] 59));have Ho3:=zH ((Ho2.out.trans (Only.of_below hb3 hz2)).alloc (by omega) (.cells #[.int .i64 N,.int .i64 D] 59));have Hn3:=zH (show (w3.alloc (.cells #[.int .i64 N,.int .i64 D] 59)).heap[w.heap.size]? = some (.cells #[.int .i64 0,.int .i64 0] 59) by
  have h1:=(hb3.block w.heap.size (Zab Hn2.out)).trans Hn2.out;rw[Below.heap_alloc _ _ _ (Zab h1)];exact h1)
 have Hm3:=zH (Zqb w3 (.cells #[.int .i64 N,.int .i64 D] 59));have Hl3:=zH (show w.heap.size<w3.heap.size from Zab ((hb3.block w.heap.size (Zab Hn2.out)).trans Hn2.out));clear hb3 Hc2 Ho2 Hn2 Hu2 hz2
 go_wp2_with fail
 refine (Zf9 B p a len cap 12 (by decide) (by decide) _ hB Hu3.out Hc3.out).mono ?_;rintro e w4 ⟨bb,rfl,hc4,ho4⟩;have Hu4:=zH hc4;have Ho4:=zH (Ho3.out.trans ho4);have Hc4:=zH (Hc3.out.below (ho4.below hB));have Hn4:=zH ((ho4.block (by omega) (Zab Hn3.out)).trans Hn3.out);have Hm4:=zH ((ho4.block (by have:=Hl3.out;omega) (Zab Hm3.out)).trans Hm3.out);clear hc4 ho4 Hu3 Ho3 Hc3 Hn3 Hm3;cases bb with
 | false=>
  obtain⟨n0,n1,f0,f1⟩:=Zbp Hn4.out;obtain⟨m0,m1,_,_⟩:=Zbp Hm4.out
  go_wp2_with fail
  exact bodyPost_ret (v:=.agg #[.int .i64 N,.int .i64 D]) (by simp[results,Tryz.results68,go_sem,(Zak n0 n1).1,(Zak n0 n1).2]) rfl ⟨N,D,rfl,(Hu4.out.Zbi (by omega) 0 _).Zbi (by omega) 1 _,(Ho4.out.Zbi (by omega) (Nat.le_refl _) 0 _).Zbi (by omega) (Nat.le_refl _) 1 _⟩
 | true=>
  clear Hm4
  go_wp2_with fail
  refine (Zkf B p a len cap 3 oddN _ Zup 3 rfl (by decide) (by decide) _ hB Hu4.out Hc4.out _ (by simp)).mono ?_;rintro e w5 ⟨x2,rfl,hc5,ho5⟩;have Hc5:=zH (Hc4.out.below (ho5.below hB));have Ho5:=zH (Ho4.out.trans ho5);have Hu5:=zH hc5;have Hn5:=zH ((ho5.block (by omega) (Zab Hn4.out)).trans Hn4.out);clear hc5 ho5 Hc4 Ho4 Hn4 Hu4
  go_wp2_with fail
  refine (Zkf B p a len cap 4 oddD _ Zuo 4 rfl (by decide) (by decide) _ hB Hu5.out Hc5.out _ (by simp)).mono ?_;rintro e w6 ⟨y2,rfl,hc6,ho6⟩;have Ho6:=zH (Ho5.out.trans ho6);have Hu6:=zH hc6;have Hn6:=zH ((ho6.block (by omega) (Zab Hn5.out)).trans Hn5.out);clear hc6 ho6 Hc5 Ho5 Hn5 Hu5;obtain⟨n0,n1,f0,f1⟩:=Zbp Hn6.out
  go_wp2_with fail
  exact bodyPost_ret (v:=.agg #[.int .i64 x2,.int .i64 y2]) (by simp[results,Tryz.results68,go_sem,(Zak n0 n1).1,(Zak n0 n1).2]) rfl ⟨x2,y2,rfl,(Hu6.out.Zbi (by omega) 0 _).Zbi (by omega) 1 _,(Ho6.out.Zbi (by omega) (Nat.le_refl _) 0 _).Zbi (by omega) (Nat.le_refl _) 1 _⟩
theorem Zgu {n:Nat} {w:World} {b o:Nat} {ys:List R} (h:Zaj n w (some ⟨b,o,none⟩) ys):∀j u,(Zat ys)[j]? = some u->w.cell? ((⟨b,o,none⟩:Addr).add j)=some u:=fun j u hu=>by
 have hlt:j<ys.length*2:=by have:=(List.getElem?_eq_some_iff.1 hu).1;rw[Zch] at this;exact this
 obtain⟨b',o',e,_,c0,c1⟩:=h.at (j / 2) (by omega);obtain⟨rfl,rfl⟩:b=b'/\o=o':=by injection e with e;injection e with e1 e2;exact⟨e1,e2⟩
 obtain⟨e0,e1⟩:=Zkz ys (j / 2) _ (Ve.Z0h (by omega:j / 2<ys.length));rw[Addr.add_lit]
 rcases Nat.mod_two_eq_zero_or_one j with hm|hm
 ·rw[show j / 2*2=j by omega] at e0 c0
  rw[e0] at hu;rw[c0,<-hu]
 ·rw[show j / 2*2+1=j by omega] at e1
  rw[show o+j / 2*2+1=o+j by omega] at c1;rw[e1] at hu;rw[c1,<-hu]
theorem Zfh:∀(xs ys:List R),Zat (xs++ys)=Zat xs++Zat ys
 | [],_=>rfl
 | x::xs,ys=>by simp only[Zat,List.cons_append,Zfh xs ys]
theorem cells_one:∀(xs:List R) (v:Value),v∈Zat xs->v.oneCell'=true
 | [],v,h=>by simp[Zat] at h
 | x::xs,v,h=>by
  simp only[Zat,List.mem_cons] at h
  rcases h with rfl|rfl|h
  ·rfl
  ·rfl
  ·exact cells_one xs v h
theorem Zal {w:World} {ops:Array Oper} {rest:List Oper} {o:Oper} {a:Act} {Q:Exit->Act->World->Prop} (hg:o.guard=none) (s x:Operand)
  (hop:o.op=Op.call { callee:=Callee.builtin Builtin.append,args:=#[s,x],argTypes:=#[26,26] }) (B:Nat) (v:Value) (xs:List R) (hs:a.eval s=v) (hown:Zaa B w v xs) (ad:Option Addr) (ys:List R) (n c:Nat) (hn:n=ys.length) (hx:a.eval x=.slice ad n c)
  (n0:Nat) (hr:Zaj n0 w ad ys) (hlen:xs.length+ys.length≤4000000) (hB:B≤w.heap.size) (hK:∀v' w',Zaa B w' v' (xs++ys)->w.grownBy w' v.ownBlock->wpList Tryz.prog ops Q rest (a.put o.dst v') w'):wpList Tryz.prog ops Q (o::rest) a w:=by
 subst hn;obtain⟨i0,hi,hz0,hz1,hz2⟩:=info_parts Zdf;cases ad with
 | none=>
  have h0:ys = []:=by
   cases ys with
   | nil=>rfl
   | cons y ys=>obtain⟨b,o,e,_⟩:=hr 0 y rfl;cases e
  subst h0;refine wpList_plain hg fun K hK'=>?_
  have hrun:=Zdy (P:=Tryz.prog) (w:=w) B 26 o.type 59 i0 2 Tryz.underlying26 hi v xs.length _ c hown;unfold Oper.wp;simp only[List.length_nil] at hx;simp[execOp,hop,resolve,invoke,builtin,hs,hx,hrun,Result.andThen];exact hK' _ _ (hK v w (by simpa using hown) (World.grownBy.refl _ _))
 | some q=>
  obtain⟨b,o1,sp⟩:=q;refine wpList_append_own _ hg s x 26 hop B 59 i0 (.agg #[.int .i64 0,.int .i64 0]) 2 16 Tryz.underlying26 hi hz0 hz1 hz2 rfl (by decide) v xs.length (Zat xs) hs hown ⟨b,o1,sp⟩ ys.length c (Zat ys) hx (Zch ys) ?_ (fun u hu=>cells_one ys u hu) (by unfold maxLen;omega) (by omega) hB ?_
  ·intro j u hj
   have hlt:j<ys.length*2:=by have:=(List.getElem?_eq_some_iff.1 hj).1;rw[Zch] at this;exact this
   obtain⟨b',o',e,_⟩:=hr.at (j / 2) (by omega);have e2:sp=none:=by
    simp only[Option.some.injEq,Addr.mk.injEq] at e;exact e.2.2
   subst e2;exact Zgu hr j u hj
  ·intro v' w' h1 h2 _
   refine hK v' w' ?_ h2;unfold Zaa;rw[List.length_append,Zfh];exact h1
theorem Zb6 (w:World) (x:R):Zaj (w.heap.size+1) (w.alloc (.cells #[.int .i64 x.1,.int .i64 x.2] 59)) (some ⟨w.heap.size,0,none⟩) [x]:=fun j y hj=>by
 match j with
 | 0=>
  simp at hj;subst hj;have h:=(Zap.new w x).four;exact⟨w.heap.size,0,rfl,Nat.lt_succ_self _,h.1,h.2.1⟩
 | j+1=>simp at hj
theorem Zaa.only {B p:Nat} {w w':World} {v:Value} {xs:List R} (h:Zaa B w v xs) (ho:Only p w w') (hp:p<B):Zaa B w' v xs:=by
 obtain⟨h1,h2|⟨g,cap,cur,e,hg,hh,rest⟩⟩:=h
 ·exact⟨h1,.inl h2⟩
 ·exact⟨h1,.inr ⟨g,cap,cur,e,hg,(ho.block (by omega) (Zab hh)).trans hh,rest⟩⟩
def Z31 (n p:Nat) (a:Option Addr) (len cap:Nat) (w:World) (e:Ending) (w':World):Prop:=
 ∃(v:Value) (xs:List R),e=.returned v/\xs.length=n/\Zaa w.heap.size w' v xs/\Cur w' p a len cap/\Only p w w'
def Z35 (p:Nat) (a:Option Addr) (len cap:Nat) (w:World) (k:Nat) (v:Value) (wr:World):Prop:=
 ∃xs:List R,xs.length=k/\Zaa w.heap.size wr v xs/\Cur wr p a len cap/\Only p w wr
def lenL:List Int:=[0,0,0,1]
def numL:List Int:=[0,5,-1000000000,1000000001]
theorem Zlz {B n c:Nat} {w:World} {a:Option Addr} {xs:List R} (h:Zaa B w (.slice a n c) xs):n≤c:=by
 obtain⟨_,⟨e,h0⟩ | ⟨g,cap,cur,e,_,_,hc,_,_,_⟩⟩:=h
 ·injection e with e1 e2 e3;omega
 ·injection e with e1 e2 e3;omega
end Go.Proofs.YtjfnleilddgjiaaGreat
