/- Part 1 of the texts. -/
import Derived.WalkSpells
import Derived.WalkLawsBesides
import Derived.Test.YtmpkkhackbpflaaGreatDoorProg
import Derived.BigQuiet
set_option maxHeartbeats 400000
namespace Go.Proofs.YtmpkkhackbpflaaGreatDoor
open Go.RowKit
def af(w:World)(ao:Option Addr)(cap:Nat)(L:List Nat):Prop:=
 L.length≤cap∧(∀x∈L,x<4294967296)∧(L= []∨∃b off,ao=some ⟨b,off,none⟩∧b<w.heap.size∧∀i,i<L.length→w.cell? ⟨b,off+i,none⟩=some (.int .u32 ((L[i]?.getD 0:Nat):Int)))
def bB(B:Nat)(ao:Option Addr)(L:List Nat):Prop:=L= []∨∃b off,ao=some ⟨b,off,none⟩∧B≤b
theorem af.below{w t:World}{z:Option Addr}{d:Nat}{L:List Nat}(h:af w z d L)(D:Below w.heap.size w t):af t z d L:=by
 refine⟨h.1,h.2.1,?_⟩
 rcases h.2.2 with h|⟨b,l,H,F,I⟩
 ·exact .inl h
 ·refine .inr ⟨b,l,H,Nat.lt_of_lt_of_le F D.size,fun i G=>?_⟩
  rw[D.cell (p:=⟨b,l+i,none⟩) F]
  exact I i G
theorem af.nil(w:World)(h:Option Addr)(d:Nat):af w h d []:=⟨Nat.zero_le _,by simp,.inl rfl⟩
theorem af.take{w:World}{z:Option Addr}{d:Nat}{L:List Nat}(h:af w z d L)(n:Nat):af w z d (L.take n):=by
 refine⟨Nat.le_trans (List.length_take_le' n L) h.1,fun x D=>h.2.1 x (List.mem_of_mem_take D),?_⟩
 rcases h.2.2 with G|⟨b,t,H,I,J⟩
 ·left;simp[G]
 ·refine .inr ⟨b,t,H,I,fun i F=>?_⟩
  have l:=F
  rw[List.length_take]at l
  rw[J i (by omega),List.getElem?_take,if_pos (by omega)]
theorem af.lt{w:World}{t:Option Addr}{d:Nat}{L:List Nat}(h:af w t d L)(i:Nat):L[i]?.getD 0<4294967296:=by
 by_cases l:i<L.length
 ·rw[List.getElem?_eq_getElem l];exact h.2.1 _ (List.getElem_mem l)
 ·rw[List.getElem?_eq_none (by omega)];decide
theorem bj{k:IntKind}{a b:Int}(h:a=b):Ending.returned (.int k a)=.returned (.int k b):=by rw[h]
theorem iL{a b:Bool}(h:a=b):Ending.returned (.bool a)=.returned (.bool b):=by rw[h]
theorem ac{p:Prop}(h:p):Hid p:=h
theorem uH{p:Prop}(h:Hid p):p:=h
def aE(neg:Bool)(L:List Nat):Bool:=decide (L.length≤512)&& !(decide (L.length=0)&&neg)&&(decide (L.length=0)|| !decide (L[L.length-1]?.getD 0=0))
def fu(neg:Bool)(L:List Nat):Int:=if aE neg L then 0 else 1
theorem e9(neg:Bool)(D:Option Addr)(d:Nat)(L:List Nat)(w:World)(h:af w D d L)(X:L.length≤35184372088830):
  Calls Tryz.prog 234 #[.agg #[.bool neg,.slice D L.length d]] w fun e H=>e=.returned (.int .i64 (fu neg L))∧Below w.heap.size w H:=by
 rcases h.2.2 with l|⟨b,U,rfl,Y,G⟩
 ·subst l
  cases neg
  all_goals
   go_enter Tryz.func234,Tryz.ntmps234
   go_wp2
   go_ret
   exact⟨bj (by simp[fu,aE]),(Below.refl _ _).alloc (Nat.le_refl _) _⟩
 ·by_cases l:L= []
  ·subst l
   cases neg
   all_goals
    go_enter Tryz.func234,Tryz.ntmps234
    go_wp2
    go_ret
    exact⟨bj (by simp[fu,aE]),(Below.refl _ _).alloc (Nat.le_refl _) _⟩
  ·have I:0<L.length:=List.length_pos_iff.2 l
   have J:=G (L.length-1) (by omega)
   have M:=h.2.1
   clear h l G
   have z:Hid (fu neg L=if L.length≤512∧(L[L.length-1]?.getD 0)≠0 then 0 else 1):=by
    have N:L≠ []:=by intro e;simp[e]at I
    unfold Hid;simp[fu,aE,N]
   generalize V:L.length=n at*
   generalize L[n-1]?.getD 0=x at*
   generalize fu neg L=Z at*
   clear V M
   have O:((n:Int)==0)=false:=by simp;omega
   have Q:(0:Int)<(n:Int):=by omega
   by_cases F:n≤512
   ·by_cases t:x=0
    ·subst t
     go_enter Tryz.func234,Tryz.ntmps234
     go_wp2
     go_ret
     exact⟨bj (by rw[z.out];simp),(Below.refl _ _).alloc (Nat.le_refl _) _⟩
    ·have T:((x:Int)==0)=false:=by simp;omega
     go_enter Tryz.func234,Tryz.ntmps234
     go_wp2
     go_ret
     exact⟨bj (by rw[z.out];simp[F,t]),(Below.refl _ _).alloc (Nat.le_refl _) _⟩
   ·go_enter Tryz.func234,Tryz.ntmps234
    go_wp2
    go_ret
    exact⟨bj (by rw[z.out];simp[F]),(Below.refl _ _).alloc (Nat.le_refl _) _⟩
theorem wN(z:Option Addr)(l:Nat)(L:List Nat)(i:Int)(k:Nat)(w:World)(h:af w z l L)(M:L.length≤35184372088830)(F:i=(k:Int)):
  Calls Tryz.prog 259 #[.slice z L.length l,.int .i64 i] w fun e G=>e=.returned (.int .u64 ((L[k]?.getD 0:Nat):Int))∧w=G:=by
 subst F
 by_cases d:k<L.length
 ·rcases h.2.2 with I|⟨b,J,rfl,N,D⟩
  ·subst I;simp at d
  ·have H:=D k d
   have t:L[k]?.getD 0<4294967296:=by rw[List.getElem?_eq_getElem d];exact h.2.1 _ (List.getElem_mem d)
   clear h D
   generalize L[k]?.getD 0=x at*
   generalize L.length=n at*
   go_enter Tryz.func259,Tryz.ntmps259
   go_wp2
   go_ret
   exact⟨rfl,rfl⟩
 ·have t:L[k]?.getD 0=0:=by rw[List.getElem?_eq_none (by omega)];rfl
  rw[t]
  clear h t
  generalize L.length=n at*
  go_enter Tryz.func259,Tryz.ntmps259
  go_wp2
  go_ret
  exact⟨rfl,rfl⟩
def cU(a b:Int):Int:=if a<b then-1 else if b<a then 1 else 0
theorem kQ(a:Int)(w:World):Calls Tryz.prog 273 #[.int .i64 a] w fun e d=>e=.returned (.bool false)∧w=d:=by
 go_enter Tryz.func273,Tryz.ntmps273
 go_wp2
 go_ret
 exact⟨rfl,rfl⟩
theorem kR(a:Int)(w:World):Calls Tryz.prog 274 #[.int .u32 a] w fun e d=>e=.returned (.bool false)∧w=d:=by
 go_enter Tryz.func274,Tryz.ntmps274
 go_wp2
 go_ret
 exact⟨rfl,rfl⟩
theorem Cm(a b:Int)(w:World):Calls Tryz.prog 271 #[.int .i64 a,.int .i64 b] w fun e d=>e=.returned (.int .i64 (cU a b))∧w=d:=by
 have l:Hid (cU a b=if a<b then-1 else if b<a then 1 else 0):=rfl
 generalize cU a b=c at*
 rcases(show a<b∨b<a∨a=b by omega)with h|h|h
 ·go_enter Tryz.func271,Tryz.ntmps271
  go_wp2_with(go_at_call 273;refine(kQ _ _).mono ?_;rintro e d ⟨rfl,rfl⟩)
  go_ret
  exact⟨bj (by rw[l.out];simp[h]),rfl⟩
 ·have t:¬a<b:=by omega
  go_enter Tryz.func271,Tryz.ntmps271
  go_wp2_with(go_at_call 273;refine(kQ _ _).mono ?_;rintro e d ⟨rfl,rfl⟩)
  go_ret
  exact⟨bj (by rw[l.out];simp[h,t]),rfl⟩
 ·subst h
  go_enter Tryz.func271,Tryz.ntmps271
  go_wp2_with(go_at_call 273;refine(kQ _ _).mono ?_;rintro e d ⟨rfl,rfl⟩)
  go_ret
  exact⟨bj (by rw[l.out];simp),rfl⟩
theorem Cn(a b:Int)(w:World):Calls Tryz.prog 272 #[.int .u32 a,.int .u32 b] w fun e d=>e=.returned (.int .i64 (cU a b))∧w=d:=by
 have l:Hid (cU a b=if a<b then-1 else if b<a then 1 else 0):=rfl
 generalize cU a b=c at*
 rcases(show a<b∨b<a∨a=b by omega)with h|h|h
 ·go_enter Tryz.func272,Tryz.ntmps272
  go_wp2_with(go_at_call 274;refine(kR _ _).mono ?_;rintro e d ⟨rfl,rfl⟩)
  go_ret
  exact⟨bj (by rw[l.out];simp[h]),rfl⟩
 ·have t:¬a<b:=by omega
  go_enter Tryz.func272,Tryz.ntmps272
  go_wp2_with(go_at_call 274;refine(kR _ _).mono ?_;rintro e d ⟨rfl,rfl⟩)
  go_ret
  exact⟨bj (by rw[l.out];simp[h,t]),rfl⟩
 ·subst h
  go_enter Tryz.func272,Tryz.ntmps272
  go_wp2_with(go_at_call 274;refine(kR _ _).mono ?_;rintro e d ⟨rfl,rfl⟩)
  go_ret
  exact⟨bj (by rw[l.out];simp),rfl⟩
end Go.Proofs.YtmpkkhackbpflaaGreatDoor
namespace Go.Proofs.YtmpkkhackbpflaaGreatDoor
def val:List Nat→Nat
 | []=>0
 |x::r=>x+4294967296*val r
def bZ(L:List Nat):Prop:=L= []∨L[L.length-1]?.getD 0≠0
def bM(L:List Nat):Prop:=∀x∈L,x<4294967296
theorem kS(A B:List Nat):val (A++B)=val A+4294967296^A.length*val B:=by
 induction A with
 |nil=>simp[val]
 |cons x r ih=>simp only[List.cons_append,val,ih,List.length_cons,Nat.pow_succ];rw[Nat.mul_add,←Nat.mul_assoc,Nat.mul_comm 4294967296 (4294967296^r.length)];omega
theorem aR(L:List Nat)(k:Nat):val (L.take (k+1))=val (L.take k)+4294967296^k*(L[k]?.getD 0):=by
 by_cases h:k<L.length
 ·rw[List.take_succ_eq_append_getElem h,kS,List.getElem?_eq_getElem h]
  simp[val,Nat.min_eq_left (Nat.le_of_lt h)]
 ·rw[List.take_of_length_le (by omega),List.take_of_length_le (by omega),List.getElem?_eq_none (by omega)];simp
theorem eu(L:List Nat)(k:Nat)(h:L.length≤k):val (L.take k)=val L:=by rw[List.take_of_length_le h]
theorem eW(L:List Nat)(h:bM L):val L<4294967296^L.length:=by
 induction L with
 |nil=>simp[val]
 |cons x r ih=>
  have l:=ih (fun y d=>h y (by simp[d]))
  have z:=h x (by simp)
  simp only[val,List.length_cons,Nat.pow_succ]
  have t:val r+1≤4294967296^r.length:=l
  have D:=Nat.mul_le_mul_right 4294967296 t
  omega
theorem bM.take{L:List Nat}(h:bM L)(n:Nat):bM (L.take n):=fun x d=>h x (List.mem_of_mem_take d)
theorem bM.tail{x:Nat}{r:List Nat}(h:bM (x::r)):bM r:=fun y d=>h y (by simp[d])
theorem iy(L:List Nat)(h:bM L)(k:Nat):val (L.take k)<4294967296^k:=by
 have d:=eW _ (h.take k)
 refine Nat.lt_of_lt_of_le d (Nat.pow_le_pow_right (by decide) ?_)
 simp;omega
theorem mY(L:List Nat)(h:L[L.length-1]?.getD 0≠0):4294967296^(L.length-1)≤val L:=by
 have l:0<L.length:=by
  rcases Nat.eq_zero_or_pos L.length with e|e
  ·have:L= []:=List.length_eq_zero_iff.1 e
   subst this;simp at h
  ·exact e
 have d:=aR L (L.length-1)
 rw[show L.length-1+1=L.length by omega,List.take_length]at d
 rw[d]
 have t:=Nat.mul_le_mul_left (4294967296^(L.length-1)) (show 1≤L[L.length-1]?.getD 0 by omega)
 omega
theorem rl:∀(A B:List Nat),bM A→bM B→A.length=B.length→val A=val B→A=B
 | [],[],_,_,_,_=>rfl
 | [],_::_,_,_,h,_=>by simp at h
 |_::_,[],_,_,h,_=>by simp at h
 |x::r,y::s,hA,hB,hl,hv=>by
  have t:=hA x (by simp)
  have z:=hB y (by simp)
  simp only[val]at hv
  have d:x=y:=by omega
  have l:val r=val s:=by omega
  rw[d,rl r s hA.tail hB.tail (by simpa using hl) l]
theorem ew(A B:List Nat)(d:bM B)(l:bZ A)(h:val A≤val B):A.length≤B.length:=by
 rcases l with rfl|z
 ·simp
 ·have D:=mY A z
  have F:=eW B d
  have t:4294967296^(A.length-1)<4294967296^B.length:=by omega
  have G:=(Nat.pow_lt_pow_iff_right (show 1<4294967296 by decide)).1 t
  omega
theorem tZ(A B:List Nat)(d:bM A)(l:bM B)(t:bZ A)(cB:bZ B)(h:val A=val B):A=B:=
 rl A B d l (Nat.le_antisymm (ew A B l t (by omega)) (ew B A d cB (by omega))) h
theorem aS(A:List Nat)(d:bZ A):val A=0↔A= []:=by
 constructor
 ·intro h
  rcases d with rfl|l
  ·rfl
  ·have t:=mY A l
   have z:0<4294967296^(A.length-1):=Nat.pow_pos (by decide)
   omega
 ·rintro rfl;rfl
theorem iH(A:List Nat)(d:bM A)(l:bZ A)(k:Nat):A.length≤k↔val A<4294967296^k:=by
 constructor
 ·intro h
  exact Nat.lt_of_lt_of_le (eW A d) (Nat.pow_le_pow_right (by decide) h)
 ·intro h
  rcases l with rfl|c
  ·simp
  ·have z:=mY A c
   have t:4294967296^(A.length-1)<4294967296^k:=by omega
   have D:=(Nat.pow_lt_pow_iff_right (show 1<4294967296 by decide)).1 t
   omega
theorem kI(L:List Nat)(n:Nat)(h:L[n-1]?.getD 0=0):val (L.take (n-1))=val (L.take n):=by
 rcases Nat.eq_zero_or_pos n with rfl|l
 ·rfl
 ·have d:=aR L (n-1)
  rw[h,show n-1+1=n by omega]at d
  omega
theorem j6:∀(A B:List Nat),(∀i:Nat,A[i]?.getD 0=B[i]?.getD 0)→val A=val B
 | [],[],_=>rfl
 | [],y::s,h=>by
  have d:=h 0
  have l:=j6 [] s (fun i=>by have:=h (i+1);simpa using this)
  simp at d;simp only[val]at l⊢;omega
 |x::r,[],h=>by
  have d:=h 0
  have l:=j6 r [] (fun i=>by have:=h (i+1);simpa using this)
  simp at d;simp only[val]at l⊢;omega
 |x::r,y::s,h=>by
  have d:=h 0
  have l:=j6 r s (fun i=>by have:=h (i+1);simpa using this)
  simp at d;simp only[val];omega
theorem iM(L:List Nat)(k:Nat):val L=val (L.take k)+4294967296^k*val (L.drop k):=by
 by_cases h:k≤L.length
 ·have d:=kS (L.take k) (L.drop k)
  rw[List.take_append_drop,List.length_take,Nat.min_eq_left h]at d
  exact d
 ·rw[List.take_of_length_le (by omega),List.drop_of_length_le (by omega)];simp[val]
theorem j7(A B:List Nat)(h:bM A)(t:Nat)(d:∀i,t<i→A[i]?.getD 0=B[i]?.getD 0)(l:A[t]?.getD 0<B[t]?.getD 0):val A<val B:=by
 have z:=iM A (t+1)
 have D:=iM B (t+1)
 have F:=aR A t
 have G:=aR B t
 have H:=iy A h t
 have e:val (A.drop (t+1))=val (B.drop (t+1)):=j6 _ _ (fun i=>by
  have:=d (t+1+i) (by omega)
  simpa[List.getElem?_drop]using this)
 rw[e]at z
 have m:=Nat.mul_le_mul_left (4294967296^t) (show A[t]?.getD 0+1≤B[t]?.getD 0 by omega)
 rw[Nat.mul_add,Nat.mul_one]at m
 omega
theorem Co(S:List Nat)(k x:Nat):(S.set k x).take k=S.take k:=by
 rw[List.take_set]
 exact List.set_eq_of_length_le (by simp;omega)
theorem jf(S:List Nat)(k x:Nat)(h:k<S.length):val ((S.set k x).take (k+1))=val (S.take k)+4294967296^k*x:=by
 rw[aR,Co,List.getElem?_set_self h];rfl
theorem jK(P b t:Nat):P*(t%b)+P*b*(t/b)=P*t:=by
 rw[Nat.mul_assoc,←Nat.mul_add,Nat.mod_add_div]
theorem bM.set{S:List Nat}(h:bM S)(k x:Nat)(t:x<4294967296):bM (S.set k x):=fun y l=>by
 rcases List.mem_or_eq_of_mem_set l with d|d
 ·exact h y d
 ·omega
theorem bM.zeros(n:Nat):bM (List.replicate n 0):=fun y d=>by simp at d;omega
theorem Cp(A B S:List Nat)(k c x y:Nat)(d:k<S.length)(l:A[k]?.getD 0=x)(t:B[k]?.getD 0=y)(h:val (S.take k)+4294967296^k*c=val (A.take k)+val (B.take k)):
  val ((S.set k ((c+(x+y))%4294967296)).take (k+1))+4294967296^(k+1)*((c+(x+y))/4294967296)=val (A.take (k+1))+val (B.take (k+1)):=by
 rw[jf S k _ d,aR A k,aR B k,l,t]
 have e:=jK (4294967296^k) 4294967296 (c+(x+y))
 rw[Nat.pow_succ]
 rw[Nat.mul_add,Nat.mul_add]at e
 omega
theorem yV(A B S:List Nat)(n c:Nat)(l:bM A)(t:bM B)(z:A.length+1≤n)(D:B.length+1≤n)(F:S.length=n)(h:val (S.take n)+4294967296^n*c=val (A.take n)+val (B.take n)):
  val S=val A+val B:=by
 rw[eu S n (by omega),eu A n (by omega),eu B n (by omega)]at h
 have G:val A<4294967296^(n-1):=Nat.lt_of_lt_of_le (eW A l) (Nat.pow_le_pow_right (by decide) (by omega))
 have H:val B<4294967296^(n-1):=Nat.lt_of_lt_of_le (eW B t) (Nat.pow_le_pow_right (by decide) (by omega))
 have I:4294967296^n=4294967296^(n-1)*4294967296:=by rw[←Nat.pow_succ];congr 1;omega
 rcases Nat.eq_zero_or_pos c with d|d
 ·subst d;omega
 ·have J:=Nat.mul_le_mul_left (4294967296^n) d
  omega
open Go.RowKit
theorem jL{P:Program}{f:FuncId}{d:Array Value}{w:World}{n:Nat}{v:Value}
  (h:Calls P f d (w.drewN n) fun e t=>e=.returned v∧w.drewN n=t):Calls P f d (w.drewN n) fun e l=>e=.returned v∧∃m,l=w.drewN m:=
 h.mono fun _ _ ⟨z,D⟩=>⟨z,n,D.symm⟩
def sv(ao:Option Addr)(cap:Nat)(L:List Nat)(v:Value):Prop:=
 ∃ao' cap' L',v=.slice ao' L'.length cap'∧bZ L'∧val L'=val L∧L'.length≤L.length∧(∀w,af w ao cap L→af w ao' cap' L')∧(∀B,bB B ao L→bB B ao' L')
theorem bB.take{B:Nat}{d:Option Addr}{L:List Nat}(h:bB B d L)(n:Nat):bB B d (L.take n):=by
 rcases h with h|h
 ·left;simp[h]
 ·exact .inr h
theorem oT(D:Option Addr)(d:Nat)(L:List Nat)(w:World)(h:af w D d L)(hl:L.length≤35184372088832):
  Calls Tryz.prog 238 #[.slice D L.length d] w fun e U=>∃v,e=.returned v∧sv D d L v∧w=U:=by
 have F:∀k,k<L.length→val (L.take (L.length-k))=val L→L[L.length-k-1]?.getD 0≠0→sv D d L (.slice D (L.length-k) d):=by
  intro k X l Y
  refine⟨D,d,L.take (L.length-k),?_,?_,l,by simp,fun w h=>h.take _,fun B h=>h.take _⟩
  ·rw[List.length_take,Nat.min_eq_left (by omega)]
  ·right
   rw[List.length_take,Nat.min_eq_left (by omega),List.getElem?_take,if_pos (by omega)]
   exact Y
 have z:val (L.take 0)=val L→sv D d L (.slice none 0 0):=by
  intro l
  exact⟨none,0,[],rfl,.inl rfl,by simpa using l,by simp,fun _ _=>af.nil _ _ _,fun _ _=>.inl rfl⟩
 have K:=ac F
 have G:=ac z
 clear F z
 rcases h.2.2 with Z|⟨b,aa,rfl,hb,O⟩
 ·subst Z
  clear K
  go_enter Tryz.func238,Tryz.ntmps238
  go_wp2
  refine wp_loop_rounds 1 ?_
  rw[rounds_succ]
  go_wp2
  go_ret
  exact⟨_,rfl,uH G rfl,rfl⟩
 ·have Q:=h.1
  go_enter Tryz.func238,Tryz.ntmps238
  go_wp2
  go_loop [7] (fun i=>∃k:Nat,k≤L.length∧i=.int .i64 k∧Hid (val (L.take (L.length-k))=val L)) (fun i=>L.length-(intOf i).toNat)
  case atStart=>exact⟨0,Nat.zero_le _,rfl,by unfold Hid;simp⟩
  case round=>
   obtain⟨k,X,rfl,l⟩:=hrel
   by_cases I:k<L.length
   ·have J:=O (L.length-k-1) (by omega)
    clear O
    by_cases t:L[L.length-k-1]?.getD 0=0
    ·have T:=kI L (L.length-k) t
     have M:Hid (val (L.take (L.length-(k+1)))=val L):=by
      unfold Hid;rw[show L.length-(k+1)=L.length-k-1 by omega,T];exact l.out
     rw[t]at J
     clear t T l K G h
     go_wp2
     go_round
     case rel=>exact⟨k+1,by omega,by go_num,M⟩
     case measure=>simp[intOf];omega
    ·have H:=uH K k I l.out t
     have N:=ac H
     clear H K G h l
     have V:(((L[L.length-k-1]?.getD 0:Nat):Int) != 0)=true:=by rw[bne_iff_ne];omega
     generalize L[L.length-k-1]?.getD 0=x at*
     generalize hn:L.length=n at*
     clear hn
     go_wp2
     go_ret
     exact⟨_,rfl,uH N,rfl⟩
   ·have H:=uH G (by rw[←l.out,show L.length-k=0 by omega])
    have N:=ac H
    clear H K G h l O
    go_wp2
    go_ret
    exact⟨_,rfl,uH N,rfl⟩
theorem af.ne{w:World}{t:Option Addr}{l:Nat}{L:List Nat}(h:af w t l L)(z:0<L.length):∃b d,t=some ⟨b,d,none⟩∧b<w.heap.size∧∀i,i<L.length→w.cell? ⟨b,d+i,none⟩=some (.int .u32 ((L[i]?.getD 0:Nat):Int)):=by
 rcases h.2.2 with e|h
 ·subst e;simp at z
 ·exact h
end Go.Proofs.YtmpkkhackbpflaaGreatDoor
