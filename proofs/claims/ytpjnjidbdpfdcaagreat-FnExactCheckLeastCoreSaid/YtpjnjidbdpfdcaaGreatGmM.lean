/- Games in plain terms: which are valid, values, sums, scaled and restricted games; nothing of the program. -/
import Derived.Test.YtpjnjidbdpfdcaaGreatCoM2
import Derived.Test.YtpjnjidbdpfdcaaGreatGB
namespace Go.Proofs.YtpjnjidbdpfdcaaGreat.Gm
structure G where
 n:Int
 v:List Int
def G0:G:=⟨0,[]⟩
def shape (g:G):Bool:=decide (1≤g.n/\g.n≤5) && decide (g.v.length=2 ^ g.n.toNat)
def Zna (g:G):Bool:=decide (g.v.getD 0 0=0)
def vld (g:G):Bool:=shape g && (within 500 g.v && Zna g)
theorem Zdm {g:G} (h:shape g=true):(1≤g.n/\g.n≤5)/\g.v.length=2 ^ g.n.toNat:=by
 unfold shape at h;simp only[Bool.and_eq_true,decide_eq_true_iff] at h;exact h
theorem Zqq {n:Int} (h:1≤n/\n≤5):2≤2 ^ n.toNat/\2 ^ n.toNat≤32:=by
 have h2:n=1\/n=2\/n=3\/n=4\/n=5:=by omega
 rcases h2 with rfl|rfl|rfl|rfl|rfl<;>decide
theorem Zmv {g:G} (h:shape g=true):2≤g.v.length/\g.v.length≤32:=by
 have h2:=Zdm h;rw[h2.2];exact Zqq h2.1
theorem Zbk {g:G} (h:vld g=true):shape g=true/\within 500 g.v=true/\g.v.getD 0 0=0:=by
 unfold vld at h;simp only[Bool.and_eq_true] at h;exact⟨h.1,h.2.1,of_decide_eq_true h.2.2⟩
theorem Zbp {g:G} (h:vld g=true):2≤g.v.length/\g.v.length≤32:=Zmv (Zbk h).1
theorem Zjo {g:G} (h:vld g=true):1≤g.n/\g.n≤5:=(Zdm (Zbk h).1).1
theorem Zeh {g:G} (h:vld g=true):g.v.length=2 ^ g.n.toNat:=(Zdm (Zbk h).1).2
theorem Zm9 {g:G} (h:vld g=true) {k:Nat} (hk:k<g.v.length):-500≤g.v.getD k 0/\g.v.getD k 0≤500:=Zih (Zbk h).2.1 hk
theorem Zc2 {g:G} (h:shape g=false):vld g=false:=by unfold vld;rw[h];rfl
theorem Zgp {g:G} (h:within 500 g.v=false):vld g=false:=by unfold vld;rw[h];simp
theorem Ze5 {g:G} (h:Zna g=false):vld g=false:=by unfold vld;rw[h];simp
theorem Zkp {g:G} (h1:shape g=true) (h2:within 500 g.v=true):vld g=Zna g:=by unfold vld;rw[h1,h2];rfl
def val (g:G) (s:Int):Int:=if 0≤s/\s<g.v.length then g.v.getD s.toNat 0 else 0
def Zcs (g:G):Int:=if vld g then g.v.getD (g.v.length-1) 0 else 0
theorem Zfe {g:G} (h:vld g=true):Zcs g=g.v.getD (g.v.length-1) 0:=if_pos h
theorem Zjt {g:G} (h:vld g=false):Zcs g=0:=by unfold Zcs;rw[h];rfl
def eqG (a b:G):Bool:=decide (a.n=b.n) && decide (a.v=b.v)
def keep (g:G):G×Bool:=if vld g then (g,true) else (G0,false)
def mk (n:Int) (f:Nat->Int) (m:Nat):G:=⟨n,(List.range m).map f⟩
def part (f:Nat->Int) (l:List Int) (k:Nat):List Int:=(List.range k).map f++l.drop k
def Zq9 (a b:G) (k:Nat):Int:=a.v.getD k 0+b.v.getD k 0
def Zp8 (a b:G):Bool:=vld a && (vld b && decide (a.n=b.n))
def add (a b:G):G×Bool:=if Zp8 a b then keep (mk a.n (Zq9 a b) a.v.length) else (G0,false)
theorem Zoc {a b:G} (h:Zp8 a b=false):add a b=(G0,false):=by unfold add;rw[h];rfl
def tot (list:List Int) (s:Int):Nat->Int
 | 0=>0
 | j+1=>tot list s j+if Co.has s j then list.getD j 0 else 0
def Zrn (g:G) (k:Int) (list:List Int) (s:Nat):Int:=k*g.v.getD s 0+tot list s list.length
def Zro (g:G) (k:Int) (list:List Int):Bool:=vld g && (decide (-500≤k/\k≤500) && (decide ((list.length:Int)=g.n) && within 500 list))
def scl (g:G) (k:Int) (list:List Int):G×Bool:=if Zro g k list then keep (mk g.n (Zrn g k list) g.v.length) else (G0,false)
theorem Zgm {k x:Int} (hk:-500≤k/\k≤500) (hx:-500≤x/\x≤500):-250000≤k*x/\k*x≤250000:=by
 have h1:(500-k)*(500-x)≥0:=Int.mul_nonneg (by omega) (by omega);have h2:(500+k)*(500+x)≥0:=Int.mul_nonneg (by omega) (by omega);have h3:(500-k)*(500+x)≥0:=Int.mul_nonneg (by omega) (by omega);have h4:(500+k)*(500-x)≥0:=Int.mul_nonneg (by omega) (by omega);have e1:(500-k)*(500-x)=250000-500*x-500*k+k*x:=by rw[Int.sub_mul,Int.mul_sub,Int.mul_sub];omega
 have e2:(500+k)*(500+x)=250000+500*x+500*k+k*x:=by rw[Int.add_mul,Int.mul_add,Int.mul_add];omega
 have e3:(500-k)*(500+x)=250000+500*x-500*k-k*x:=by rw[Int.sub_mul,Int.mul_add,Int.mul_add];omega
 have e4:(500+k)*(500-x)=250000-500*x+500*k-k*x:=by rw[Int.add_mul,Int.mul_sub,Int.mul_sub];omega
 omega
def totM (list:List Int):List Int->Int
 | []=>0
 | x::r=>list.getD x.toNat 0+totM list r
def wide (m:List Int) (t:Int):Nat->Int
 | 0=>0
 | j+1=>wide m t j+if Co.has t j then 2 ^ (m.getD j 0).toNat else 0
theorem Zd4 {m:List Int} {t:Int} {j:Nat} (h:Co.has t j=true):wide m t (j+1)=wide m t j+2 ^ (m.getD j 0).toNat:=by simp[wide,h]
def Zq1 (m:List Int):List Int->Int
 | []=>0
 | x::r=>Co.uni (2 ^ (m.getD x.toNat 0).toNat) (Zq1 m r) 5
def Zr1 (m q:List Int) (j:Nat):Int:=Zq1 m (q.take j).reverse
def Zrm (g:G) (s:Int):Bool:=vld g && decide (1≤s/\s<g.v.length)
def Zrl (g:G) (s:Int) (t:Nat):Int:=g.v.getD (wide (Co.mem s 5) (t:Int) (Co.mem s 5).length).toNat 0
def resG (g:G) (s:Int):G:=mk ((Co.mem s 5).length:Nat) (Zrl g s) (2 ^ (Co.mem s 5).length)
def res (g:G) (s:Int):G×Bool:=if Zrm g s then (resG g s,true) else (G0,false)
end Go.Proofs.YtpjnjidbdpfdcaaGreat.Gm
