/- Part 40 of the texts. -/
import Derived.Test.YtmpkkhackbpflaaGreatDoorPartg39
namespace Go.Proofs.YtmpkkhackbpflaaGreatDoor
open Go.RowKit
attribute [local go_sem ↓] Go.wp_at_zero Go.wp_at_succ
def tD(x:Int):Value:=.int .i64 x
end Go.Proofs.YtmpkkhackbpflaaGreatDoor
namespace Go.Proofs.YtmpkkhackbpflaaGreatDoor
open Go.RowKit
theorem oo{a b:Nat→Nat→Int}:∀(I C:List Nat),(∀i∈I,∀c∈C,a i c=b i c)→fz a I C=fz b I C
 | [],C,_=>rfl
 |i::I,C,h=>by
  show cG (a i) C (bg (I.map _))=cG (b i) C (bg (I.map _))
  rw[oG (a i) (b i) C _ (fun c d=>h i (by simp) c d)]
  refine gn (b i) C _ _ (fun l t _=>?_)
  exact oo I l (fun j z c d=>h j (by simp[z]) c (t.subset d))
theorem rV{k m n:Nat}{a b:Nat→Nat→Int}(h:∀i c,i<m→c<n→a i c=b i c)(t:kE k a m n):kE k b m n:=by
 intro I C d l F G
 rw[←oo (a:=a) I C (fun i z c D=>h i c (d.2 i z) (l.2 c D))]
 exact t I C d l F G
theorem yf{k m n:Nat}{a b:Nat→Nat→Int}(h:∀i c,i<m→c<n→a i c=b i c)(d:dw k a m n):dw k b m n:=
 ⟨fun l=>d.1 (rV (fun i c t z=>(h i c t z).symm) l),rV h d.2⟩
theorem j3{a:Nat→Nat→Int}(n:Nat):dw 0 a 0 n:=by
 refine⟨fun d=>?_,fun I C h _ l _=>?_⟩
 ·have:=d [] [] ⟨List.Pairwise.nil,by simp⟩ ⟨List.Pairwise.nil,by simp⟩ rfl rfl
  exact absurd (show(1:Int)=0 from this) (by decide)
 ·cases I with
  |nil=>cases l
  |cons i I=>exact absurd (h.2 i (by simp)) (by omega)
theorem LK(m k:Nat)(h:m≤32*k):2^m≤4294967296^k:=by
 rw[show(4294967296:Nat)=2^32 by decide,←Nat.pow_mul]
 exact Nat.pow_le_pow_right (by decide) h
theorem eZ.good11{w:World}{x:Nm}{z:Int}(h:eZ w x z)(H:z.natAbs<2^2098):nh x=true∧no x=true∧aj x.neg x.L=z∧x.L.length≤66:=by
 obtain⟨neg,Q,N,L⟩:=x
 obtain⟨G,t,D,F,O⟩:=h
 simp only at G t D F O⊢
 have l:L.length≤66:=(iH L G.2.1 t 66).2 (by
  rw[F]
  refine Nat.lt_of_lt_of_le H ?_
  exact LK 2098 66 (by decide))
 have I:L.length≤512:=by omega
 show aE neg L=true∧decide (L.length≤80)=true∧aj neg L=z∧L.length≤66
 refine⟨?_,decide_eq_true (by omega),?_,l⟩
 ·have J:L.length=0→neg=false:=fun e=>by
   have:L= []:=List.length_eq_zero_iff.1 e
   subst this
   rw[D];simp[val]at F;simp;omega
  have M:L.length=0∨L[L.length-1]?.getD 0≠0:=by
   rcases t with h|h
   ·left;rw[h];rfl
   ·exact .inr h
  simp only[aE,Bool.and_eq_true,decide_eq_true_eq,Bool.not_eq_true',Bool.and_eq_false_iff,decide_eq_false_iff_not,Bool.or_eq_true]
  refine⟨⟨I,?_⟩,M⟩
  by_cases e:L.length=0
  ·exact .inr (J e)
  ·exact .inl e
 ·unfold aj
  rw[D]
  by_cases d:z<0
  ·simp[d];omega
  ·simp[d];omega
theorem LM{w:World}{M:List Rw}{r c:Nat}{F:Nat→Nat→Int}(U:M.length=r)(V:r≤6)(Q:c≤6)(H:∀i,i<r→(aY M i).R.length=c)(D:∀i k,i<r→k<c→eZ w (lM M i k) (F i k))(hF:∀i k,i<r→k<c→(F i k).natAbs<2^2098):
  Cu M=0∧oY M∧(∀i k,i<r→k<c→l6 M i k=F i k)∧(0<r→iA M=c):=by
 have I:∀y∈M,∃i,i<r∧y=aY M i:=fun y t=>by
  obtain⟨i,l,rfl⟩:=List.getElem_of_mem t
  exact⟨i,by omega,by unfold aY;rw[List.getElem?_eq_getElem l];rfl⟩
 have T:∀i,i<r→∀x∈(aY M i).R,∃k,k<c∧x=lM M i k:=fun i l x D=>by
  obtain⟨k,z,rfl⟩:=List.getElem_of_mem D
  exact⟨k,by rw[H i l]at z;exact z,by unfold lM bT;rw[List.getElem?_eq_getElem z];rfl⟩
 have G:0<r→iA M=c:=fun h=>H 0 h
 have J:nc M=true:=by
  unfold nc
  rw[decide_eq_true (by omega),Bool.true_and,Bool.and_eq_true,decide_eq_true_eq,List.all_eq_true]
  rcases Nat.eq_zero_or_pos r with O|O
  ·have:M= []:=List.length_eq_zero_iff.1 (by omega)
   subst this
   exact⟨by decide,fun x D=>by cases D⟩
  ·rw[G O]
   refine⟨Q,fun y t=>?_⟩
   obtain⟨i,l,rfl⟩:=I y t
   exact decide_eq_true (H i l)
 have N:∀y∈M,∀x∈y.R,nh x=true∧no x=true∧x.L.length≤66:=fun y t x d=>by
  obtain⟨i,l,rfl⟩:=I y t
  obtain⟨k,z,rfl⟩:=T i l x d
  have:=(D i k l z).good11 (hF i k l z)
  exact⟨this.1,this.2.1,this.2.2.2⟩
 refine⟨?_,⟨by omega,fun y t=>⟨?_,fun x d=>by have:=(N y t x d).2.2;omega⟩⟩,fun i k l z=>((D i k l z).good11 (hF i k l z)).2.2.1,G⟩
 ·unfold Cu
  rw[if_pos J,if_pos,if_pos]
  ·rw[List.all_eq_true];intro y t;rw[List.all_eq_true];exact fun x d=>(N y t x d).2.1
  ·rw[List.all_eq_true];intro y t;rw[List.all_eq_true];exact fun x d=>(N y t x d).1
 ·obtain⟨i,l,rfl⟩:=I y t
  rw[H i l];omega
theorem Bv{k r c:Nat}{M:List Rw}{F:Nat→Nat→Int}(l:M.length=r)(t:∀i k,i<r→k<c→l6 M i k=F i k)(z:0<r→iA M=c)(h:dw k (l6 M) M.length (iA M)):dw k F r c:=by
 rcases Nat.eq_zero_or_pos r with d|d
 ·subst d
  rw[l]at h
  have:=h.unique (j3 (iA M))
  rw[this]
  exact j3 c
 ·rw[z d,l]at h
  exact yf t h
end Go.Proofs.YtmpkkhackbpflaaGreatDoor
namespace Go.Proofs.YtmpkkhackbpflaaGreatDoor
theorem Bw:ab 0=0:=by unfold ab;grind
def kP(xs:List Nat):Bool:=xs.all (fun x=>decide (fK x=0))
def rW:List Nat→Bool
 | []=>false
 |x::xs=>if fK x=0 then rW xs else fS x
def da(a:Nat)(xs:List Nat):Nat:=if rW (a::xs)=true then aX (a::xs)else fN (aX (a::xs))
def gS(a:Nat)(xs:List Nat):Nat:=aV a (fN (da a xs))
def gv:List Nat→Nat
 | []=>0
 |a::xs=>if kP xs=true then a else da a xs
def dr:List Nat→Nat
 | []=>0
 |a::xs=>if kP xs=true then 0 else dV (aV (da a xs) (fN a)) (da a xs)
def cu:List Nat→List Nat
 | []=>[]
 |a::xs=>4607182418800017408::xs.map (fun x=>if kP xs=true then 0 else dV x (gS a xs))
def EU:List Nat→Bool
 | []=>true
 |a::xs=>kP xs||(ah (da a xs)&&ah (gS a xs))
theorem g6(d:List Nat):co (bs d)=d:=by
 unfold co bs
 rw[List.map_map]
 exact List.map_id'' (fun x=>by simp) d
theorem lu(d:List Nat):aX d<18446744073709551616:=by
 have:=Lw (bs d)
 rwa[tw,g6]at this
theorem gT(a:Nat)(d:List Nat):da a d<18446744073709551616:=by
 unfold da
 split
 ·exact lu _
 ·exact jF _ (lu _)
theorem yg(a:Nat)(d:List Nat)(h:a<18446744073709551616):gS a d<18446744073709551616:=jT _ _ h (jF _ (gT _ _))
theorem yh(d:List Nat)(h:∀x∈d,x<18446744073709551616):gv d<18446744073709551616:=by
 match d with
 | []=>decide
 |a::d=>
  show(if kP d=true then a else da a d)<_
  split
  ·exact h a List.mem_cons_self
  ·exact gT _ _
theorem EV(d:List Nat):dr d<18446744073709551616:=by
 match d with
 | []=>decide
 |a::d=>
  show(if kP d=true then 0 else dV (aV (da a d) (fN a)) (da a d))<_
  split
  ·decide
  ·exact Jl _ _
theorem eH(d:List Nat):(cu d).length=d.length:=by
 match d with
 | []=>rfl
 |a::d=>simp[cu]
theorem tE{x:Nat}(l:x<18446744073709551616)(t:ah x=true)(h:fQ x=0):fK x=0:=by
 by_cases d:fK x=0
 ·exact d
 ·have z:=(jv x l t d).1
  rw[h,Bw]at z
  have:=aw (eX x)
  grind
theorem vW{d:List Nat}(h:kP d=true):∀x∈d,fK x=0:=fun x l=>of_decide_eq_true (List.all_eq_true.1 h x l)
theorem zU{d:List Nat}(h:kP d=true):aJ d=0:=by
 have l:=vW h
 clear h
 induction d with
 |nil=>rfl
 |cons x d ih=>
  show fQ x*fQ x+aJ d=0
  rw[bu x (l x List.mem_cons_self),ih (fun y t=>l y (List.mem_cons_of_mem _ t))]
  grind
theorem tG(a:Nat)(d:List Nat):(rW (a::d)=true→fQ a≤0)∧(rW (a::d)=false→0≤fQ a):=by
 have l:=pJ (fR a)
 by_cases h:fK a=0
 ·rw[bu a h]
  exact⟨fun _=>Rat.le_refl,fun _=>Rat.le_refl⟩
 ·have e:rW (a::d)=fS a:=if_neg h
  rw[e,df a]
  refine⟨fun g=>?_,fun g=>?_⟩
  ·rw[if_pos g];grind
  ·rw[if_neg (by rw[g];decide)];exact l
def bf(c:Nat)(S:List Nat)(i n q:Nat):List Nat:=(List.range n).map (fun j=>cj c S (i+j) q)
def wK(c:Nat)(S:List Nat)(i q:Nat)(vs:List Nat)(tau:Nat):List Nat:=mU (mV tau (eh 0 vs (bf c S i vs.length q))) vs (bf c S i vs.length q)
def qE(r c:Nat)(S:List Nat)(i k:Nat)(vs:List Nat)(tau:Nat):List Nat:=mW r c (fun p q=>if k≤q∧i≤p∧p<i+vs.length then(wK c S i q vs tau).getD (p-i) 0 else cj c S p q)
theorem aL(c:Nat)(S:List Nat)(i n q:Nat):(bf c S i n q).length=n:=by simp[bf]
theorem kv(r c:Nat)(S:List Nat)(i k:Nat)(h:List Nat)(d:Nat):(qE r c S i k h d).length=r*c:=fW _ _ _
theorem oR(t:Nat):∀(d l:List Nat),d.length=l.length→(mU t d l).length=d.length:=by
 intro d
 induction d with
 |nil=>intro l _;rfl
 |cons v d ih=>
  intro l h
  match l with
  | []=>cases h
  |y::l=>
   show(mU t d l).length+1=d.length+1
   rw[ih l (by simpa using h)]
theorem zV(c:Nat)(S:List Nat)(i q:Nat)(h:List Nat)(d:Nat):(wK c S i q h d).length=h.length:=oR _ _ _ (aL _ _ _ _ _).symm
theorem EW(t:Nat):∀(l d:List Nat) (j:Nat),l.length=d.length→j<l.length→(mU t l d).getD j 0=aV (d.getD j 0) (fN (mV t (l.getD j 0))):=by
 intro l
 induction l with
 |nil=>intro d j _ z;exact absurd z (Nat.not_lt_zero j)
 |cons v l ih=>
  intro d j h z
  match d with
  | []=>cases h
  |y::d=>
   match j with
   |0=>rfl
   |j+1=>exact ih d j (by simpa using h) (by simpa using z)
theorem iE(c:Nat)(S:List Nat)(i n q:Nat){j:Nat}(d:j<n):(bf c S i n q).getD j 0=cj c S (i+j) q:=by
 simp[bf,List.getD_eq_getElem?_getD,d]
theorem mH(r c:Nat)(S:List Nat)(i k:Nat)(h:List Nat)(d:Nat){p q:Nat}(l:p<r)(t:q<c):cj c (qE r c S i k h d) p q=if k≤q∧i≤p∧p<i+h.length then(wK c S i q h d).getD (p-i) 0 else cj c S p q:=zS r c _ l t
theorem yi(L:List Nat):L=(List.range L.length).map (fun j=>L.getD j 0):=by
 refine List.ext_getElem (by simp) (fun j d h=>?_)
 simp[List.getD_eq_getElem?_getD,d]
end Go.Proofs.YtmpkkhackbpflaaGreatDoor
