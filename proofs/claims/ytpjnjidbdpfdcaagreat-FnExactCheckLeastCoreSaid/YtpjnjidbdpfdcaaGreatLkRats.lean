/- Kinds of arguments and results of exact laws: slices of fractions, of ints. -/
import Derived.Test.YtpjnjidbdpfdcaaGreatGK
namespace Go.Proofs.YtpjnjidbdpfdcaaGreat
open Go.RowKit
open Ve (R)
def Za8 (w:World) (v:Value) (xs:List R):Prop:=∃(a:Option Addr) (c:Nat),v=.slice a xs.length c/\Zah w.heap.size w a xs
theorem Za8.up {w w':World} {v:Value} {xs:List R} (h:Za8 w v xs) (hb:Below w.heap.size w w'):Za8 w' v xs:=by
 obtain⟨a,c,e,hi⟩:=h;exact⟨a,c,e,(hi.below hb).mono hb.size⟩
theorem Za8.rg {w:World} {v:Value} {xs:List R} (h:Za8 w v xs):Rg (fun w'=>Za8 w' v xs) 0 w.heap.size w:=
 ⟨h,Nat.le_refl _,fun w' hs hk=>by
  obtain⟨a,c,e,hi⟩:=h;refine⟨a,c,e,Zah.mono (fun j x hx=>?_) hs⟩;obtain⟨b,o,e1,h2,h3,h4⟩:=hi j x hx;have hc:∀i,w'.cell? ⟨b,i,none⟩=w.cell? ⟨b,i,none⟩:=fun i=>World.cell?_of_block (w:=w) (a:=⟨b,i,none⟩) (hk b (Nat.zero_le _) h2)
  exact⟨b,o,e1,h2,by rw[hc];exact h3,by rw[hc];exact h4⟩⟩
def Zdr (lo hi:Nat) (w:World) (v:Value) (xs:List R):Prop:=Zcg lo hi w v xs/\hi≤w.heap.size
theorem Zdr.rg {lo hi:Nat} {w:World} {v:Value} {xs:List R} (h:Zdr lo hi w v xs):Rg (fun w'=>Zdr lo hi w' v xs) lo hi w:=
 ⟨h,h.2,fun w' hs hk=>⟨h.1.same fun b hb=>by have:=h.1.blk hb;exact hk b this.1 this.2.1,Nat.le_trans h.2 hs⟩⟩
theorem Zdr.reads {lo hi:Nat} {w:World} {v:Value} {xs:List R} (h:Zdr lo hi w v xs):Za8 w v xs:=by
 obtain⟨a,c,e,hr⟩:=h.1.reads;exact⟨a,c,e,hr.mono h.2⟩
theorem Zn0 {w w':World} {v:Value} {xs:List R} (ho:Zad w.heap.size w' v xs):Zdr w.heap.size w'.heap.size w' v xs:=
 ⟨Zcg.Zh3 ho fun g hg=>(World.ownsRow.lt ho g hg).2,Nat.le_refl _⟩
theorem Zkk {w:World} {v:Value} {xs:List R} (h:Za8 w v xs) (hn:xs.length≤9223372036854775807) (left:Int) (hl0:0≤left) (hl1:left≤1048576) :
  Calls Tryz.prog 13 #[v,.int .i64 left] w fun e w'=>(∃r:Int,e=.returned (.int .i64 r)/\-1≤r/\r≤1048576/\(0≤r->(xs.length:Int)+r=left))/\Below w.heap.size w w':=by
 obtain⟨a,c,rfl,hi⟩:=h;exact (szR a xs.length c left hn hl0 hl1 w).mono fun _ _ ⟨r,h1,h2,h3,h4,h5⟩=>⟨⟨r,h1,h2,h3,h4⟩,h5▸Below.refl _ _⟩
theorem Zkn {w:World} {v:Value} {xs:List R} (h:Za8 w v xs) (hf:xs.length≤1048576) :
  Calls Tryz.prog 21 #[v] w fun e w'=>(∃v',e=.returned v'/\Zdr w.heap.size w'.heap.size w' v' xs)/\Below w.heap.size w w':=by
 obtain⟨a,c,rfl,hi⟩:=h;exact (Zi5 w.heap.size a c xs hf w (Nat.le_refl _) hi).mono fun e w' ⟨v,he,ho,hb⟩=>⟨⟨v,he,Zn0 ho⟩,hb⟩
theorem Zjq {w:World} {v v':Value} {xs:List R} (h:Za8 w v xs) (h':Za8 w v' xs) (hf:xs.length≤1048576) :
  Calls Tryz.prog 26 #[v,v'] w fun e w'=>e=.returned (.bool true)/\Below w.heap.size w w':=by
 obtain⟨a,c,rfl,hi⟩:=h;obtain⟨a',c',rfl,hi'⟩:=h';exact Zi3 w.heap.size a a' c c' xs (by omega) w (Nat.le_refl _) hi hi'
end Go.Proofs.YtpjnjidbdpfdcaaGreat
