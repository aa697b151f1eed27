/- append at slices of fractions, whole slices too. -/
import Derived.Test.YtpjnjidbdpfdcaaGreatGrI
import Derived.Test.YtpjnjidbdpfdcaaGreatGVb
namespace Go.Proofs.YtpjnjidbdpfdcaaGreat
open Go.RowKit
open Ve (R)
theorem Zh6 {n:Nat} {w:World} {b o:Nat} {ys:List R} (h:Zah n w (some ⟨b,o,none⟩) ys):∀j u,(Zau ys)[j]? = some u->w.cell? ((⟨b,o,none⟩:Addr).add j)=some u:=fun j u hu=>by
 have hlt:j<ys.length*2:=by have:=(List.getElem?_eq_some_iff.1 hu).1;rw[Zb3] at this;exact this
 obtain⟨b',o',e,_,c0,c1⟩:=h.at (j / 2) (by omega);obtain⟨rfl,rfl⟩:b=b'/\o=o':=by injection e with e;injection e with e1 e2;exact⟨e1,e2⟩
 obtain⟨e0,e1⟩:=Zdv ys (j / 2) _ (Ve.Zli (by omega:j / 2<ys.length));rw[Addr.add_lit]
 rcases Nat.mod_two_eq_zero_or_one j with hm|hm
 ·rw[show j / 2*2=j by omega] at e0 c0
  rw[e0] at hu;rw[c0,<-hu]
 ·rw[show j / 2*2+1=j by omega] at e1
  rw[show o+j / 2*2+1=o+j by omega] at c1;rw[e1] at hu;rw[c1,<-hu]
theorem Zej:∀(xs ys:List R),Zau (xs++ys)=Zau xs++Zau ys
 | [],_=>rfl
 | x::xs,ys=>by simp only[Zau,List.cons_append,Zej xs ys]
theorem cells_one:∀(xs:List R) (v:Value),v∈Zau xs->v.oneCell'=true
 | [],v,h=>by simp[Zau] at h
 | x::xs,v,h=>by
  simp only[Zau,List.mem_cons] at h
  rcases h with rfl|rfl|h
  ·rfl
  ·rfl
  ·exact cells_one xs v h
theorem Zja (w:World) (x:R):Zah (w.heap.size+1) (w.alloc (.cells #[.int .i64 x.1,.int .i64 x.2] 35)) (some ⟨w.heap.size,0,none⟩) [x]:=fun j y hj=>by
 match j with
 | 0=>
  simp at hj;subst hj;have h:=(Zaj.new w x).four;exact⟨w.heap.size,0,rfl,Nat.lt_succ_self _,h.1,h.2.1⟩
 | j+1=>simp at hj
end Go.Proofs.YtpjnjidbdpfdcaaGreat
