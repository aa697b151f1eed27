/- spec.StartTableau. -/
import Derived.Test.YtlohljkfphljgaaGreatHGrI
import Derived.Test.YtlohljkfphljgaaGreatGMt
import Derived.Test.YtlohljkfphljgaaGreatGTo
import Derived.Test.YtlohljkfphljgaaGreatGLb
import Derived.Test.YtlohljkfphljgaaGreatGTd
import Derived.Test.YtlohljkfphljgaaGreatGTo
import Derived.Test.YtlohljkfphljgaaGreatGTd
namespace Go.Proofs.YtlohljkfphljgaaGreat
open Go.RowKit
open Ve (R)
open Ta (T)
open Lp (P)
theorem Ta.Znp (l:List Int) (z:Int):Ta.asR (l++[z])=Ta.asR l++[(z,1)]:=by simp[Ta.asR]
def rowA (p:P) (k j:Nat):List Int:=((Lp.row p k).take j).map fun a=>Ta.sg p k*a
def rowU (p:P) (k j:Nat):List Int:=rowA p k p.C.length++Ta.Zjf j k
theorem Zwr {p:P} {k j:Nat} (h:j<(Lp.row p k).length):rowA p k (j+1)=rowA p k j++[Ta.sg p k*(Lp.row p k).getD j 0]:=by
 unfold rowA;rw[List.take_add_one,List.map_append,List.getD_eq_getElem?_getD,List.getElem?_eq_getElem h];rfl
theorem Zwt (p:P) (k:Nat):rowU p k 0=rowA p k p.C.length:=by simp[rowU,Ta.Zjf]
theorem Zws (p:P) (k j:Nat):rowU p k (j+1)=rowU p k j++[if j=k then 1 else 0]:=by simp[rowU,Ta.Zjf,List.range_succ]
theorem Zy9 {p:P} {k:Nat} (h:(Lp.row p k).length=p.C.length):Ta.nums p k=rowU p k p.A.length++[Ta.sg p k*p.B.getD k 0]:=by
 unfold Ta.nums rowU rowA;rw[<-h,List.take_length,List.append_assoc]
theorem Zoj {p:P} {k j:Nat} (h:j≤(Lp.row p k).length):(rowA p k j).length=j:=by simp[rowA];omega
theorem Zjy {w:World} {ops:Array Oper} {o:Oper} {a:Act} {K:Act->World->Prop} {Q:Exit->Act->World->Prop} {E:Prop} (hgd:o.guard=none) (s x:Operand)
  (hop:o.op=Op.call { callee:=Callee.builtin Builtin.append,args:=#[s,x],argTypes:=#[26,26] }) (B:Nat) (v:Value) (xs:List R) (hs:a.eval s=v) (hown:Zaa B w v xs) (b o1:Nat) (ys:List R) (n c:Nat) (hn:n=ys.length) (hx:a.eval x=.slice (some ⟨b,o1,none⟩) n c)
  (n0:Nat) (hr:Zah n0 w (some ⟨b,o1,none⟩) ys) (hlen:xs.length+ys.length≤4000000) (hB:B≤w.heap.size) (hK:∀v' w',Zaa B w' v' (xs++ys)->w.grownBy w' v.ownBlock->K (a.put o.dst v') w'):if Region.wanted o (yielded ops a.tmps)=true then Oper.wp Tryz.prog o a w K Q else E:=by
 have hw:Region.wanted o (yielded ops a.tmps)=true:=by simp[Region.wanted,hgd]
 rw[if_pos hw];subst hn;obtain⟨i0,hi,hz0,hz1,hz2⟩:=info_parts Zeo;refine wp_append_own w s x 26 hop B 31 i0 (.agg #[.int .i64 0,.int .i64 0]) 2 16 Tryz.underlying26 hi hz0 hz1 hz2 rfl (by decide) v xs.length (Zaq xs) hs hown ⟨b,o1,none⟩ ys.length c (Zaq ys) hx (Zb7 ys) (fun j u hj=>Zgt hr j u hj) (fun u hu=>cells_one ys u hu) (by unfold maxLen;omega) (by omega) hB ?_;intro v' w' h1 h2 _;refine hK v' w' ?_ h2;unfold Zaa;rw[List.length_append,Ze8];exact h1
theorem Zui {B:Nat} {w w':World} {v:Value} {row:Option Nat} {L:List (List R)} (h:Zbt B w v L) (hg:w.grownBy w' row) (hr:∀g,row=some g->TyAt w g 3):Zbt B w' v L:=by
 obtain⟨vs,h1,h2⟩:=h;refine⟨vs,Zak h1 fun g hgo=>hg.block g (World.ownsRow.lt h1 g hgo).2 (fun e=>(TyAt.ne (Zav h1 hgo) (hr g e.symm) Zcx) rfl),fun j hj=>?_⟩;obtain⟨u,e,ho⟩:=h2 j hj;exact⟨u,e,Zak ho fun g hgo=>hg.block g (World.ownsRow.lt ho g hgo).2 (fun e=>(TyAt.ne (Zav ho hgo) (hr g e.symm) Zha) rfl)⟩
set_option maxRecDepth 100000 in
set_option maxHeartbeats 4000000 in
theorem Zjc (B:Nat) (a b c:Option Addr) (c1 c2 c3:Nat) (p:P) (hn:Zbs p) (w:World) (hBw:B≤w.heap.size) (hz:LpIn B w a b c p) :
  Calls Tryz.prog 61 #[.agg #[.slice a p.A.length c1,.slice b p.B.length c2,.slice c p.C.length c3]] w (Zj0 (Ta.start p) w):=by
 have hb:=((Below.refl w.heap.size w).alloc (Nat.le_refl _) (.cells #[.slice a p.A.length c1,.slice b p.B.length c2,.slice c p.C.length c3] 28));have hb2:=hb.alloc hb.size (.cells #[.slice none 0 0,.slice none 0 0,.int .i64 0] 39);have HZ:=zH ((hz.mono hBw).below hb2);have hx:=(Tri.new w (.slice a p.A.length c1) (.slice b p.B.length c2) (.slice c p.C.length c3) 28).more (.cells #[.slice none 0 0,.slice none 0 0,.int .i64 0] 39);have hr:=Tri.new (w.alloc (.cells #[.slice a p.A.length c1,.slice b p.B.length c2,.slice c p.C.length c3] 28)) (.slice none 0 0) (.slice none 0 0) (.int .i64 0) 39;rw[Zar] at hr;have hs2:=Zjv w (.cells #[.slice a p.A.length c1,.slice b p.B.length c2,.slice c p.C.length c3] 28) (.cells #[.slice none 0 0,.slice none 0 0,.int .i64 0] 39);have Hb:=zH hb2;have Hx:=zH hx;have Hr:=zH hr;have HS2:=zH hs2;have hnA:=hn.A;have hnB:=hn.B;have hnC:=hn.C;obtain⟨ST,hST⟩:∃ST,Ta.start p=ST:=⟨_,rfl⟩;have HST:=zH hST;rw[hST];have HN:=zH hn;clear hz hb hb2 hx hr hs2 hn hST
 go_enter Tryz.func61,Tryz.ntmps61
 go_upto_region 1 with fail
 generalize hW:(w.alloc (.cells #[.slice a p.A.length c1,.slice b p.B.length c2,.slice c p.C.length c3] 28)).alloc (.cells #[.slice none 0 0,.slice none 0 0,.int .i64 0] 39)=W at *;clear hW;obtain⟨x0,x1,x2,_⟩:=Hx.out.cells;obtain⟨g,hg⟩:∃g,Lp.vldP p=g:=⟨_,rfl⟩;have Hg:=zH hg;have HV:=zH (Zbq w.heap.size a b c c1 c2 c3 p HN.out W Hb.out.size HZ.out);rw[hg] at HV;clear hg
 go_wp2_with fail
 refine HV.out.mono ?_;rintro e w1 ⟨rfl,hb1⟩;have hWw:w.heap.size≤W.heap.size:=Hb.out.size;have HB1:=zH (Hb.out.trans (hb1.mono hWw));have HX1:=zH (Hx.out.below hb1);have HR1:=zH (Hr.out.below hb1);have HZ1:=zH (HZ.out.below (hb1.mono hWw));have hsz1:=hb1.size;clear x0 x1 x2 HV hb1 Hb Hx Hr HZ;cases g with
 | false=>
  have hE:Hid ((⟨[],[],0⟩:T)=ST):=by show _=_;rw[<-HST.out,Ta.Zth Hg.out]
  obtain⟨z0,z1,z2,f0,f1,f2⟩:=HR1.out.cells;have hF:=HR1.out
  go_wp2_with fail
  refine bodyPost_ret (v:=.agg #[.slice none 0 0,.slice none 0 0,.int .i64 0]) (by
   obtain⟨z0,z1,z2,_⟩:=(Zck hF (.slice none 0 0) (.slice none 0 0) (.int .i64 0)).cells;revert z0 z1 z2;generalize (World.setCell _ (⟨w.heap.size+1,2,none⟩:Addr) (.int .i64 0))=W4;intro z0 z1 z2;simp[results,Tryz.results61,go_sem,z0,z1,z2]) rfl ?_
  rw[<-hE.out];exact⟨_,rfl,⟨_,_,rfl,Zbt.nil _ _,World.ownsRow_nil _ _ _ _⟩,Zd7 HB1.out (Nat.le_succ _) _ _ _⟩
 | true=>
  obtain⟨v1,v2,v3,v4,v5,v6⟩:=Lp.Zas Hg.out;have V1:=zH v1;have V4:=zH v4;have V5:=zH v5;have hE:Hid (Ta.Zap p p.A.length=ST):=by show _=_;rw[<-HST.out,Ta.Ze1 Hg.out]
  obtain⟨x0,x1,x2,_⟩:=HX1.out.cells;have HO:=zH (Tri.new w1 (.slice none 0 0) (.slice none 0 0) (.int .i64 p.C.length) 39);have HBo:=zH ((Below.refl w1.heap.size w1).alloc (Nat.le_refl _) (.cells #[.slice none 0 0,.slice none 0 0,.int .i64 p.C.length] 39));have HRo:Hid (Zbt w1.heap.size (w1.alloc (.cells #[.slice none 0 0,.slice none 0 0,.int .i64 p.C.length] 39)) (.slice none 0 0) (Ta.Zap p 0).rows):=Zbt.nil _ _;have HIo:Hid (Zad w1.heap.size (w1.alloc (.cells #[.slice none 0 0,.slice none 0 0,.int .i64 p.C.length] 39)) (.slice none 0 0) (Ta.Zap p 0).basis):=World.ownsRow_nil _ _ _ _;clear v1 v4 v5 v6
  go_wp2_with fail
  go_loopw [4] (fun i wr=>∃(k:Nat) (vR vB:Value),k≤p.A.length/\i=.int .i64 k/\Hid (Tri wr w1.heap.size vR vB (.int .i64 p.C.length) 39)/\Hid (Zbt w1.heap.size wr vR (Ta.Zap p k).rows)/\Hid (Zad w1.heap.size wr vB (Ta.Zap p k).basis)/\Hid (Below w1.heap.size w1 wr)) (fun i _=>p.A.length-(intOf i).toNat)
  case atStart=>exact⟨0,_,_,Nat.zero_le _,rfl,HO,HRo,HIo,HBo⟩
  case round=>
   clear x0 x1 x2 HO HBo HRo HIo;obtain⟨k,vR,vB,hk,rfl,hO,hR,hI,hB⟩:=hrel;have HXr:=zH (HX1.out.below hB.out);obtain⟨x0,x1,x2,_⟩:=HXr.out.cells;have hszr:=hB.out.size
   by_cases hlt:k<p.A.length
   ·have hZr:=HZ1.out.below (hB.out.mono (Nat.le_trans hWw hsz1))
    obtain⟨b1,o1,a1,k1,rfl,hl1,hrow,hnums⟩:=hZr.mA k hlt;obtain⟨b2,o2,rfl,hl2,hbk⟩:=hZr.mB k (by rw[V4.out];exact hlt);obtain⟨hrl,hrs⟩:=Lp.Zed V1.out hlt;have hrw:rw_ p.A k=Lp.row p k:=rfl;rw[hrw] at hrow hnums;rw[hrl] at hrow;have Hrl:=zH hrl;have HRs:=zH (fun j=>Ta.Zir hrs j);have HNu:=zH hnums;have hbz:=Ta.Zir V5.out k;have HSg:Hid (Ta.sg p k=if p.B.getD k 0<0 then -1 else 1):=rfl;have Hbz:Hid (∀W',Below wr.heap.size wr W'->W'.cell? ⟨b2,o2+k,none⟩=some (.int .i64 (p.B.getD k 0))):=fun W' h=>by rw[h.cell (p:=⟨b2,o2+k,none⟩) (show b2<wr.heap.size by omega)];exact hbk
    have hrowc:Hid (∀W',Below wr.heap.size wr W'->W'.cell? ⟨b1,o1+k,none⟩=some (.slice a1 p.C.length k1)):=fun W' h=>by rw[h.cell (p:=⟨b1,o1+k,none⟩) (show b1<wr.heap.size by omega)];exact hrow
    have n1:(k:Int)<(p.A.length:Int):=by omega
    have n2:(k:Int)<(p.B.length:Int):=by have h:p.B.length=p.A.length:=V4.out;omega
    have hsgb:-1≤Ta.sg p k/\Ta.sg p k≤1:=by rcases Ta.Zw1 p k with e|e<;>rw[e]<;>omega
    clear hZr hrl hrs hrw hnums hrow;generalize hBk:p.B.getD k 0=z at *
    go_upto_if 29 with fail
    go_cut [5] (fun v wx=>v=.int .i64 (Ta.sg p k)/\wx=wr)
    case first=>
     by_cases hneg:z<0
     ·have hd:decide (z<0)=true:=by rw[decide_eq_true_iff];exact hneg
      have Hs:Hid (-1=Ta.sg p k):=by show _=_;rw[HSg.out,if_pos hneg]
      go_wp2_with fail
      go_meet
      exact⟨congrArg (Value.int .i64) Hs.out,rfl⟩
     ·have hd:decide (z<0)=false:=by rw[decide_eq_false_iff_not];exact hneg
      have Hs:Hid (1=Ta.sg p k):=by show _=_;rw[HSg.out,if_neg hneg]
      go_wp2_with fail
      go_meet
      exact⟨congrArg (Value.int .i64) Hs.out,rfl⟩
    case rest=>
     obtain⟨wx,hwx⟩:∃q:World,q=wc:=⟨_,rfl⟩;rw[<-hwx];rw[<-hwx] at hcut;obtain⟨rfl,rfl⟩:=hcut;clear hwx;have HB0:=zH hB.out;have HXs:=zH HXr.out;have HRA:Hid (Zaa wx.heap.size (wx.alloc (.cells #[] 31)) (.slice (some ⟨wx.heap.size,0,none⟩) 0 0) (Ta.asR (rowA p k 0))):=World.ownsRow_made wx #[] 0 (Nat.le_refl _) (Nat.zero_le _) rfl;have HBA:=zH ((Below.refl wx.heap.size wx).alloc (Nat.le_refl _) (.cells #[] 31));clear HSg
     go_wp2_with fail
     go_loopw [6,7] (fun v i wr=>∃(j:Nat) (u:Value),u=v/\j≤p.C.length/\i=.int .i64 j/\Hid (Zaa wx.heap.size wr u (Ta.asR (rowA p k j)))/\Hid (Below wx.heap.size wx wr)) (fun _ i _=>p.C.length-(intOf i).toNat)
     case atStart=>exact⟨0,_,rfl,Nat.zero_le _,rfl,HRA,HBA⟩
     case round=>
      clear x0 x1 x2 HRA HBA;obtain⟨j,u,rfl,hj,rfl,hU,hBj⟩:=hrel;obtain⟨x0,x1,x2,_⟩:=(HXs.out.below hBj.out).cells
      by_cases hjt:j<p.C.length
      ·obtain⟨b3,o3,rfl,hl3,hnum⟩:=HNu.out j (by rw[Hrl.out];exact hjt)
       have hrowj:=hrowc.out _ hBj.out;have hvb:=HRs.out j;have Hnx:Hid (Ta.asR (rowA p k (j+1))=Ta.asR (rowA p k j)++[(Ta.sg p k*(Lp.row p k).getD j 0,1)]):=by show _=_;rw[Zwr (by rw[Hrl.out];exact hjt),Ta.Znp]
       have hlen:(Ta.asR (rowA p k j)).length≤70:=by unfold Ta.asR;rw[List.length_map,Zoj (by rw[Hrl.out];exact hj)];omega
       have hnum':wr.cell? ⟨b3,o3+j,none⟩=some (.int .i64 ((Lp.row p k).getD j 0)):=by rw[hBj.out.cell (p:=⟨b3,o3+j,none⟩) (show b3<wx.heap.size by omega)];exact hnum
       generalize (Lp.row p k).getD j 0=v at *;have hw:IntKind.i64.wrap (Ta.sg p k*v)=Ta.sg p k*v:=IntWalk.i64_in _ (by rcases Ta.Zw1 p k with e|e<;>rw[e]<;>omega);have n3:(j:Int)<(p.C.length:Int):=by omega
       have hszj:=hBj.out.size;generalize Ta.asR (rowA p k j)=ls at *;clear hnum
       go_wp2_with fail
       refine (Za4 (Ta.sg p k*v) _).mono ?_;rintro e w2 ⟨rfl,hb2⟩;have HB3:=zH (hBj.out.trans (hb2.mono hszj));have hsz2:=HB3.out.size;have Hown:Hid (Zaa wx.heap.size (w2.alloc (.cells #[.int .i64 (Ta.sg p k*v),.int .i64 1] 31)) u ls):=Zaa.alloc (hU.out.below hb2) (.cells #[.int .i64 (Ta.sg p k*v),.int .i64 1] 31);have Hone:=zH (Zb2 w2 (Ta.sg p k*v,1));clear hb2
       go_wp2_with (at_builtin;refine Zaj rfl _ _ rfl wx.heap.size _ ls rfl Hown.out _ [(Ta.sg p k*v,1)] 1 1 rfl rfl _ Hone.out (by simp;omega) (by rw[Zar];omega) ?_)
       intro v' w3 hown' hgrow;have hne:=World.ownsRow.lt Hown.out;have HU1:Hid (Zaa wx.heap.size w3 v' (Ta.asR (rowA p k (j+1)))):=by rw[Hnx.out];exact hown'
       have HB1:=zH ((HB3.out.alloc hsz2 (.cells #[.int .i64 (Ta.sg p k*v),.int .i64 1] 31)).grown hgrow (by simp;omega) (fun g hg=>(hne g hg).1));clear hown' hgrow hne hw
       go_wp2_with fail
       go_roundw
       case rel=>exact⟨j+1,_,rfl,by omega,by go_num,HU1,HB1⟩
       case measure=>simp[intOf];omega
      ·have hje:j=p.C.length:=by omega
       have HU0:Hid (Zaa wx.heap.size wr u (Ta.asR (rowU p k 0))):=by rw[Zwt,<-hje];exact hU.out
       clear hje hU
       go_wp2_with fail
       go_loopw [6,8] (fun v i wr=>∃(j:Nat) (u:Value),u=v/\j≤p.A.length/\i=.int .i64 j/\Hid (Zaa wx.heap.size wr u (Ta.asR (rowU p k j)))/\Hid (Below wx.heap.size wx wr)) (fun _ i _=>p.A.length-(intOf i).toNat)
       case atStart=>exact⟨0,_,rfl,Nat.zero_le _,rfl,HU0,hBj⟩
       case round=>
        clear x0 x1 x2 HU0 hBj;obtain⟨j,u,rfl,hj,rfl,hU,hBj⟩:=hrel;obtain⟨x0,x1,x2,_⟩:=(HXs.out.below hBj.out).cells;have hlen:(Ta.asR (rowU p k j)).length≤78:=by
         unfold Ta.asR rowU Ta.Zjf;rw[List.length_map,List.length_append,Zoj (by rw[Hrl.out];exact Nat.le_refl _),List.length_map,List.length_range];omega
        by_cases hjt:j<p.A.length
        ·obtain⟨bb,hbb⟩:∃bb,((j:Int) == (k:Int))=bb:=⟨_,rfl⟩
         have Hnx:Hid (Ta.asR (rowU p k (j+1))=Ta.asR (rowU p k j)++[((if j=k then 1 else 0),1)]):=by show _=_;rw[Zws,Ta.Znp]
         have Hbv:Hid ((if bb then (1:Int) else 0)=(if j=k then 1 else 0)):=by
          show _=_;rw[<-hbb]
          by_cases e:j=k
          ·subst e;simp
          ·rw[if_neg e,if_neg];simp;omega
         have hszj:=hBj.out.size;generalize Ta.asR (rowU p k j)=ls at *
         go_wp2_with fail
         refine (Zfw bb _).mono ?_;rintro e w2 ⟨rfl,rfl⟩;generalize (if bb then (1:Int) else 0)=bv at *
         go_wp2_with fail
         refine (Za4 bv _).mono ?_;rintro e w2 ⟨rfl,hb2⟩;have HB3:=zH (hBj.out.trans (hb2.mono hszj));have hsz2:=HB3.out.size;have Hown:Hid (Zaa wx.heap.size (w2.alloc (.cells #[.int .i64 bv,.int .i64 1] 31)) u ls):=Zaa.alloc (hU.out.below hb2) (.cells #[.int .i64 bv,.int .i64 1] 31);have Hone:=zH (Zb2 w2 (bv,1));clear hb2
         go_wp2_with (at_builtin;refine Zaj rfl _ _ rfl wx.heap.size _ ls rfl Hown.out _ [(bv,1)] 1 1 rfl rfl _ Hone.out (by simp;omega) (by rw[Zar];omega) ?_)
         intro v' w3 hown' hgrow;have hne:=World.ownsRow.lt Hown.out;have HU1:Hid (Zaa wx.heap.size w3 v' (Ta.asR (rowU p k (j+1)))):=by rw[Hnx.out,<-Hbv.out];exact hown'
         have HB1:=zH ((HB3.out.alloc hsz2 (.cells #[.int .i64 bv,.int .i64 1] 31)).grown hgrow (by simp;omega) (fun g hg=>(hne g hg).1));clear hown' hgrow hne hbb
         go_wp2_with fail
         go_roundw
         case rel=>exact⟨j+1,_,rfl,by omega,by go_num,HU1,HB1⟩
         case measure=>simp[intOf];omega
        ·have hje:j=p.A.length:=by omega
         have HUn:Hid (Zaa wx.heap.size wr u (Ta.asR (rowU p k p.A.length))):=by rw[<-hje];exact hU.out
         clear hje hU
         go_upto_region 19 with fail
         have hzr:=Hbz.out _ hBj.out;have hq1:w1.heap.size<wx.heap.size:=Zab hO.out;have hszj:=hBj.out.size;obtain⟨y0,y1,y2,_⟩:=(hO.out.below hBj.out).cells;have hub:∀g,u.ownBlock=some g->wx.heap.size≤g:=fun g hg=>(World.ownsRow.lt HUn.out g hg).1
         have hun:∀q,q<wx.heap.size->u.ownBlock≠some q:=fun q h e=>by have:=hub q e;omega
         have hxq:=Zab HXs.out;have Cell:=zH (fun w' (h:wr.grownBy w' u.ownBlock)=>(show w'.cell? ⟨w1.heap.size,0,none⟩=some vR/\w'.cell? ⟨w.heap.size,1,none⟩=some (.slice (some ⟨b2,o2,none⟩) p.B.length c2)/\w'.cell? ⟨b2,o2+k,none⟩=some (.int .i64 z)/\wr.grownBy w' u.ownBlock from
          ⟨Zde (p:=⟨w1.heap.size,0,none⟩) h (show w1.heap.size<wr.heap.size by omega) (hun _ hq1) y0,Zde (p:=⟨w.heap.size,1,none⟩) h (show w.heap.size<wr.heap.size by omega) (hun _ hxq) x1,Zde (p:=⟨b2,o2+k,none⟩) h (show b2<wr.heap.size by omega) (hun _ (show b2<wx.heap.size by omega)) hzr,h⟩))
         have hg0:wr.grownBy wr.drew u.ownBlock:=Zny (World.grownBy.refl _ _);have hin0:=(Since.refl wr).drew;have hw:IntKind.i64.wrap (Ta.sg p k*z)=Ta.sg p k*z:=IntWalk.i64_in _ (by rcases Ta.Zw1 p k with e|e<;>rw[e]<;>omega);have Hkey:Hid (Ta.asR (rowU p k p.A.length)++[(Ta.sg p k*z,1)]=Ta.Zcj p k):=by
          show _=_;unfold Ta.Zcj;rw[Zy9 Hrl.out,hBk,Ta.Znp]
         have hulen:(Ta.asR (rowU p k p.A.length)).length≤78:=by
          unfold Ta.asR rowU Ta.Zjf;rw[List.length_map,List.length_append,Zoj (by rw[Hrl.out];exact Nat.le_refl _),List.length_map,List.length_range];omega
         have HBk:=zH hBk;have hrk:(Ta.Zap p k).rows.length=k:=by simp[Ta.Zap]
         have hbk2:(Ta.Zap p k).basis.length=k:=by simp[Ta.Zap]
         have Hrk:=zH hrk;have Hbk2:=zH hbk2;have HX2:=zH (HXs.out.below hBj.out);clear x0 x1 x2 y0 y1 y2 hzr hBk hrk hbk2 hlen;generalize Ta.asR (rowU p k p.A.length)=us at *;refine Zaf (S:=(fun w'=>w'.cell? ⟨w1.heap.size,0,none⟩=some vR/\w'.cell? ⟨w.heap.size,1,none⟩=some (.slice (some ⟨b2,o2,none⟩) p.B.length c2)/\w'.cell? ⟨b2,o2+k,none⟩=some (.int .i64 z)/\wr.grownBy w' u.ownBlock)) 14 (by kernel_rfl) ?_ (fun hHeld=>?_)
         ·exact Cell.out _ hg0
         refine tk2 0 ⟨some 67,_,0,_,_,none⟩ ?_;refine tk2 1 ⟨some 68,_,37,_,_,none⟩ ?_;refine tk2 2 ⟨some 69,_,26,_,_,none⟩ ?_;refine tk2 3 ⟨some 70,_,3,_,_,none⟩ ?_;refine tk2 4 ⟨some 71,_,0,_,_,none⟩ ?_;refine tk2 5 ⟨some 72,_,25,_,_,none⟩ ?_;refine tk2 6 ⟨some 73,_,3,_,_,none⟩ ?_;refine tk2 7 ⟨some 74,_,0,_,_,none⟩ ?_;refine tk2 8 ⟨some 75,_,3,_,_,none⟩ ?_;refine tk2 9 ⟨some 76,_,3,_,_,none⟩ ?_
         try simp only[Act.put,zA,zB,zC]
         refine rd2 10 ⟨some 77,_,31,_,_,none⟩ fun K hK=>?_
         go_simp
         (go_at_call 91;refine (Za4 (Ta.sg p k*z) _).mono ?_;rintro e w2 ⟨rfl,hb2⟩;have hg2:=Zel hg0 hb2;have hin2:=hin0.trans hb2)
         refine hK.out _ _ ?_ (fun hHeld=>?_)
         ·exact Cell.out _ hg2
         clear hK K
         try simp only[Act.put,zA,zB,zC]
         have hg3:=Znx hg2 (.cells #[.int .i64 (Ta.sg p k*z),.int .i64 1] 31);have hU3:=Zaa.alloc (HUn.out.below hin2.low) (.cells #[.int .i64 (Ta.sg p k*z),.int .i64 1] 31);have hone:=Zb2 w2 (Ta.sg p k*z,1);have hs2:wx.heap.size≤w2.heap.size:=Nat.le_trans hszj hin2.low.size;refine rd2 11 ⟨some 78,_,26,_,_,none⟩ fun K hK=>?_
         go_simp
         refine hK.out _ _ ?_ (fun hHeld=>?_)
         ·exact Cell.out _ hg3
         clear hK K
         try simp only[Act.put,zA,zB,zC]
         refine rd2 12 ⟨some 79,_,26,_,_,none⟩ fun K hK=>?_
         (refine Zjy rfl _ _ rfl wx.heap.size u us rfl hU3 w2.heap.size 0 [(Ta.sg p k*z,1)] 1 1 rfl rfl _ hone (by simp;omega) (by rw[Zar];omega) ?_;intro v' w4 hown hgrow;rw[Hkey.out] at hown;obtain⟨av,cv,rfl⟩:=Zbb hown;have hg4:=Zsk hg3 hgrow;generalize hrowk:Ta.Zcj p k=row at *)
         refine hK.out _ _ ?_ (fun hHeld=>?_)
         ·exact Cell.out _ hg4
         clear hK K
         try simp only[Act.put,zA,zB,zC]
         have hg5:=Znx hg4 (.cells #[.slice av row.length cv] 26);have hlow:∀k',k'<wx.heap.size->(w4.alloc (.cells #[.slice av row.length cv] 26)).heap[k']? = wx.heap[k']?:=fun k' hk'=>(hg5.block k' (by omega) (fun e=>by have:=hub k' e.symm;omega)).trans (hBj.out.block k' hk')
         have hO5:=hR.out.high (w':=w4.alloc (.cells #[.slice av row.length cv] 26)) (fun k' _ h=>hlow k' h);have hI5:=hI.out.high (w':=w4.alloc (.cells #[.slice av row.length cv] 26)) (fun k' _ h=>hlow k' h);have hT5:Tri (w4.alloc (.cells #[.slice av row.length cv] 26)) w1.heap.size vR vB (.int .i64 p.C.length) 39:=(hlow _ hq1).trans hO.out;have hX5:Tri (w4.alloc (.cells #[.slice av row.length cv] 26)) w.heap.size (.slice (some ⟨b1,o1,none⟩) p.A.length c1) (.slice (some ⟨b2,o2,none⟩) p.B.length c2) (.slice c p.C.length c3) 28:=(hlow _ hxq).trans HXs.out;have hB5:Below w1.heap.size w1 (w4.alloc (.cells #[.slice av row.length cv] 26)):=Zg5 (B:=w1.heap.size) (hB.out.trans (hBj.out.mono hszr)) hg5 (by omega) (fun g hg=>by have:=hub g hg;omega);have hu5:=Zaa.alloc (hown.raise hszr) (.cells #[.slice av row.length cv] 26);have hcu:=(Zac.new w4 #[.slice av row.length cv] 26).cell 0;have hs4:w1.heap.size≤(w4.alloc (.cells #[.slice av row.length cv] 26)).heap.size:=hB5.size;refine rd2 13 ⟨some 80,_,37,_,_,none⟩ fun K hK=>?_
         go_simp
         refine hK.out _ _ ?_ (fun hHeld=>?_)
         ·exact Cell.out _ hg5
         clear hK K
         try simp only[Act.put,zA,zB,zC]
         refine rd3 14 ⟨some 81,_,37,_,_,none⟩ fun K hK=>?_
         (refine Zg1 rfl _ _ rfl w1.heap.size vR (Ta.Zap p k).rows rfl hO5 w4.heap.size (.slice av row.length cv) row rfl hcu hu5 (by have:=Hrk.out;omega) hs4 ?_;intro v6 w6 hown6 hgrow6;rw[show (Ta.Zap p k).rows++[row]=(Ta.Zap p (k+1)).rows by rw[<-hrowk,Ta.Zpx]] at hown6;obtain⟨a6,c6,rfl⟩:=Zd1 hown6)
         refine hK.out _ _ ?_;clear hK K
         try simp only[Act.put,zA,zB,zC]
         have hT6:Tri w6 w1.heap.size vR vB (.int .i64 p.C.length) 39:=(hgrow6.block w1.heap.size (Zab hT5) (fun e=>Zeq hO5 hT5 (by decide) e.symm)).trans hT5;have hX6:Tri w6 w.heap.size (.slice (some ⟨b1,o1,none⟩) p.A.length c1) (.slice (some ⟨b2,o2,none⟩) p.B.length c2) (.slice c p.C.length c3) 28:=(hgrow6.block w.heap.size (Zab hX5) (fun e=>by have:=(hO5.apart _ e.symm).1;have:=Zab HX1.out;omega)).trans hX5;have hI6:Zad w1.heap.size w6 vB (Ta.Zap p k).basis:=by
          obtain⟨vs,ho1,_⟩:=hO5;exact World.ownsRow.kept hI5 hgrow6 (by
           cases hv:vB.ownBlock with
           | none=>exact .inl rfl
           | some g=>exact .inr fun e=>Zb0 hI5 ho1 (fun e=>Zcx e.symm) g hv e.symm)
         have hB6:=Zg5 (B:=w1.heap.size) hB5 hgrow6 hs4 (fun g hg=>(hO5.apart g hg).1);obtain⟨y0,_,_,f0,_,_⟩:=hT6.cells;generalize hm6:(Ta.Zap p (k+1)).rows.length=m6 at *;refine rd3 15 ⟨some 82,_,0,_,_,none⟩ fun K hK=>?_
         go_simp
         refine hK.out _ _ ?_;clear hK K
         try simp only[Act.put,zA,zB,zC]
         refine rd3 16 ⟨none,_,0,_,_,none⟩ fun K hK=>?_
         go_simp
         refine hK.out _ _ ?_;clear hK K;refine Zal (by kernel_rfl) ?_ _;have hT7:=hT6.set0 (.slice a6 m6 c6);have hR7:=Zd8 (i:=0) (u:=.slice a6 m6 c6) hown6 (Zeq hown6 hT6 (by decide)) (Zim (Zax hT6) (by decide));have hI7:Zad w1.heap.size (w6.setCell ⟨w1.heap.size,0,none⟩ (.slice a6 m6 c6)) vB (Ta.Zap p k).basis:=Zao hI6 (Zdf hI6 hT6 (by decide));have hB7:=hB6.setCell (p:=⟨w1.heap.size,0,none⟩) (Nat.le_refl _) (.slice a6 m6 c6);have hX7:=hX6.other (p:=⟨w1.heap.size,0,none⟩) (show w1.heap.size≠w.heap.size by have:=Zab HX1.out;omega) (.slice a6 m6 c6);have HT7:=zH hT7;have HR7:=zH hR7;have HI7:=zH hI7;have HB7:=zH hB7;have HX7:=zH hX7;clear hT7 hR7 hI7 hB7 hX7 hB6 hI6 hX6 hT6 y0 f0 hown6 hgrow6 hO5 hI5 hT5 hX5 hB5 hu5 hcu hs4 hlow hg5 hg4 hg3 hg2 hin2 hb2 hU3 hone hs2 Cell hg0 hin0 hw hub hun hgrow hown;generalize w6.setCell ⟨w1.heap.size,0,none⟩ (.slice a6 m6 c6)=w7 at *;obtain⟨y0,y1,y2,f0,f1,f2⟩:=HT7.out.cells;obtain⟨x0,x1,x2,_⟩:=HX7.out.cells;have hs7:=HB7.out.size;have hone:=one_num w7 ((p.C.length:Int)+(k:Int));have hIa:Zad w1.heap.size (w7.alloc (.cells #[.int .i64 ((p.C.length:Int)+(k:Int))] 3)) vB (Ta.Zap p k).basis:=HI7.out.below ((Below.refl _ _).alloc (Nat.le_refl _) _);have hRa:Zbt w1.heap.size (w7.alloc (.cells #[.int .i64 ((p.C.length:Int)+(k:Int))] 3)) (.slice a6 m6 c6) (Ta.Zap p (k+1)).rows:=HR7.out.below ((Below.refl _ _).alloc (Nat.le_refl _) _);have hTa:=HT7.out.more (.cells #[.int .i64 ((p.C.length:Int)+(k:Int))] 3);have hBa:=HB7.out.alloc hs7 (.cells #[.int .i64 ((p.C.length:Int)+(k:Int))] 3);have HIa:=zH hIa;have HRa:=zH hRa;have HTa:=zH hTa;have HBa:=zH hBa;have Hone:=zH hone;have hbl:=Hbk2.out;clear hIa hRa hTa hBa hone
         go_wp2_with (at_builtin;refine Zcl rfl _ _ rfl w1.heap.size _ (Ta.Zap p k).basis rfl HIa.out _ [(p.C.length:Int)+(k:Int)] 1 1 rfl rfl _ Hone.out (by simp;omega) (by rw[Zar];omega) ?_)
         intro v8 w8 hown8 hgrow8;rw[show (Ta.Zap p k).basis++[(p.C.length:Int)+(k:Int)]=(Ta.Zap p (k+1)).basis from (Ta.Zmt p k).symm] at hown8;obtain⟨a8,c8,rfl⟩:=Zam hown8;have hty8:∀g,vB.ownBlock=some g->TyAt (w7.alloc (.cells #[.int .i64 ((p.C.length:Int)+(k:Int))] 3)) g 3:=fun g hg=>Zav HIa.out hg
         have hT8:Tri w8 w1.heap.size (.slice a6 m6 c6) vB (.int .i64 p.C.length) 39:=(hgrow8.block w1.heap.size (Zab HTa.out) (fun e=>Zdf HIa.out HTa.out (by decide) e.symm)).trans HTa.out;have hR8:=Zui HRa.out hgrow8 hty8;have hB8:=Zg5 (B:=w1.heap.size) HBa.out hgrow8 (by rw[Zar];omega) (fun g hg=>(World.ownsRow.lt HIa.out g hg).1);generalize hm8:(Ta.Zap p (k+1)).basis.length=m8 at *;obtain⟨y0,y1,y2,f0,f1,f2⟩:=hT8.cells;have HT9:=zH (hT8.set1 (.slice a8 m8 c8));have HR9:=zH (Zd8 (i:=1) (u:=.slice a8 m8 c8) hR8 (Zeq hR8 hT8 (by decide)) (Zim (Zax hT8) (by decide)));have HI9:Hid (Zad w1.heap.size (w8.setCell ⟨w1.heap.size,1,none⟩ (.slice a8 m8 c8)) (.slice a8 m8 c8) (Ta.Zap p (k+1)).basis):=Zao hown8 (Zdf hown8 hT8 (by decide));have HB9:=zH (hB8.setCell (p:=⟨w1.heap.size,1,none⟩) (Nat.le_refl _) (.slice a8 m8 c8));clear hT8 hR8 hB8 hown8 hgrow8 hty8 hm8 hm6 hrowk hbl
         go_wp2_with fail
         go_roundw
         case rel=>exact⟨k+1,_,_,by omega,by go_num,HT9,HR9,HI9,HB9⟩
         case measure=>simp[intOf];omega
   ·have he:k=p.A.length:=by omega
    have hO6:Zbt w1.heap.size wr vR ST.rows:=by have h:=hR.out;rw[he,hE.out] at h;exact h
    have hI6:Zad w1.heap.size wr vB ST.basis:=by have h:=hI.out;rw[he,hE.out] at h;exact h
    have hcols:ST.cols=(p.C.length:Int):=by rw[<-hE.out];rfl
    obtain⟨av,cv,rfl⟩:=Zd1 hO6;obtain⟨ai,ci,rfl⟩:=Zam hI6;obtain⟨y0,y1,y2,_⟩:=hO.out.cells;have hF:=HR1.out.below (hB.out.mono (Nat.le_refl _));obtain⟨z0,z1,z2,f0,f1,f2⟩:=hF.cells;have HF:=zH hF;have HO6:=zH (hO6.raise (show w.heap.size≤w1.heap.size by omega));have HI6:=zH (hI6.Zf9 (show w.heap.size≤w1.heap.size by omega));have Hcols:=zH hcols;have HBf:=zH (HB1.out.trans (hB.out.mono (show w.heap.size≤w1.heap.size by omega)));clear he hO6 hI6 hcols hF hO hR hI hB x1 x2
    go_wp2_with fail
    refine bodyPost_ret (v:=.agg #[.slice av ST.rows.length cv,.slice ai ST.basis.length ci,.int .i64 p.C.length]) (by
     obtain⟨z0,z1,z2,_⟩:=(Zck HF.out (.slice av ST.rows.length cv) (.slice ai ST.basis.length ci) (.int .i64 p.C.length)).cells;revert z0 z1 z2;generalize (World.setCell _ (⟨w.heap.size+1,2,none⟩:Addr) (.int .i64 p.C.length))=W4;intro z0 z1 z2;simp[results,Tryz.results61,go_sem,z0,z1,z2]) rfl ⟨_,rfl,⟨_,_,by rw[Hcols.out],?_,?_⟩,Zd7 HBf.out (Nat.le_succ _) _ _ _⟩
    ·have hb:=Zeq HO6.out HF.out (by decide)
     have h1:=Zd8 (i:=0) (u:=.slice av ST.rows.length cv) HO6.out hb (Zim (Zax HF.out) (by decide));have h2:=Zd8 (i:=1) (u:=.slice ai ST.basis.length ci) h1 hb (Zim (Zax (HF.out.set0 _)) (by decide));exact Zd8 (i:=2) (u:=.int .i64 p.C.length) h2 hb (Zim (Zax ((HF.out.set0 _).set1 _)) (by decide))
    ·exact Zey HI6.out (Zdf HI6.out HF.out (by decide))
end Go.Proofs.YtlohljkfphljgaaGreat
