/- Part 1 of the texts. -/
import Derived.WalkSpells
import Derived.WalkLawsBesides
import Derived.Deep.RegionHeld3
import Derived.Deep.DrawnRows
import Derived.BigQuiet
import Derived.Test.YtcbcmlaogehimaaGreatDoorProg
set_option maxHeartbeats 400000
namespace Go.Proofs.YtcbcmlaogehimaaGreatDoor
open Go.RowKit
def ag(w:World)(ao:Option Addr)(cap:Nat)(L:List Nat):Prop:=
 L.length≤cap∧(∀x∈L,x<4294967296)∧(L= []∨∃b off,ao=some ⟨b,off,none⟩∧b<w.heap.size∧∀i,i<L.length→w.cell? ⟨b,off+i,none⟩=some (.int .u32 ((L[i]?.getD 0:Nat):Int)))
def bC(B:Nat)(ao:Option Addr)(L:List Nat):Prop:=L= []∨∃b off,ao=some ⟨b,off,none⟩∧B≤b
theorem ag.below{w z:World}{A:Option Addr}{d:Nat}{L:List Nat}(h:ag w A d L)(D:Below w.heap.size w z):ag z A d L:=by
 refine⟨h.1,h.2.1,?_⟩
 rcases h.2.2 with h|⟨b,u,H,F,I⟩
 ·exact .inl h
 ·refine .inr ⟨b,u,H,Nat.lt_of_lt_of_le F D.size,fun i G=>?_⟩
  rw[D.cell (p:=⟨b,u+i,none⟩) F]
  exact I i G
theorem ag.nil(w:World)(h:Option Addr)(d:Nat):ag w h d []:=⟨Nat.zero_le _,by simp,.inl rfl⟩
theorem ag.take{w:World}{A:Option Addr}{d:Nat}{L:List Nat}(h:ag w A d L)(n:Nat):ag w A d (L.take n):=by
 refine⟨Nat.le_trans (List.length_take_le' n L) h.1,fun x D=>h.2.1 x (List.mem_of_mem_take D),?_⟩
 rcases h.2.2 with G|⟨b,z,H,I,J⟩
 ·left;simp[G]
 ·refine .inr ⟨b,z,H,I,fun i F=>?_⟩
  have u:=F
  rw[List.length_take]at u
  rw[J i (by omega),List.getElem?_take,if_pos (by omega)]
theorem ag.lt{w:World}{z:Option Addr}{d:Nat}{L:List Nat}(h:ag w z d L)(i:Nat):L[i]?.getD 0<4294967296:=by
 by_cases u:i<L.length
 ·rw[List.getElem?_eq_getElem u];exact h.2.1 _ (List.getElem_mem u)
 ·rw[List.getElem?_eq_none (by omega)];decide
theorem aW{k:IntKind}{a b:Int}(h:a=b):Ending.returned (.int k a)=.returned (.int k b):=by rw[h]
theorem jl{a b:Bool}(h:a=b):Ending.returned (.bool a)=.returned (.bool b):=by rw[h]
theorem ac{p:Prop}(h:p):Hid p:=h
theorem uH{p:Prop}(h:Hid p):p:=h
theorem ap{P:Program}{c:Code}{Q:Exit→Act→World→Prop}{a:Act}{w:World}(F:World→Prop)(h:F w)(k:∀W,F W→Code.wp P c Q a W):Code.wp P c Q a w:=k w h
def aB(w:World)(b:Nat)(x y:Value):Prop:=w.heap[b]? =some (.cells #[x,y] 33 (0,0))
theorem aB.c0{w:World}{b:Nat}{x y:Value}(h:aB w b x y):w.cell? ⟨b,0,none⟩=some x:=by rw[cell_of_row w b 0 _ _ _ h];rfl
theorem aB.c1{w:World}{b:Nat}{x y:Value}(h:aB w b x y):w.cell? ⟨b,1,none⟩=some y:=by rw[cell_of_row w b 1 _ _ _ h];rfl
theorem aB.free{w:World}{b:Nat}{x y:Value}(h:aB w b x y)(j:Nat):w.frozen? ⟨b,j,none⟩=false:=frozen_of_row w b j _ _ h
theorem aB.lt{w:World}{b:Nat}{x y:Value}(h:aB w b x y):b<w.heap.size:=(Array.getElem?_eq_some_iff.1 h).1
theorem aB.below{w u:World}{b:Nat}{x y:Value}(h:aB w b x y){B:Nat}(z:Below B w u)(d:b<B):aB u b x y:=(z.block b d).trans h
theorem aB.new(w:World)(x y:Value):aB (w.alloc (.cells #[x,y] 33)) w.heap.size x y:=heap_alloc_new w _
theorem aB.old{w:World}{b:Nat}{x y:Value}(h:aB w b x y)(o:Obj):aB (w.alloc o) b x y:=by
 unfold aB;rw[Below.heap_alloc w o b h.lt];exact h
theorem aB.drew{w:World}{b:Nat}{x y:Value}(h:aB w b x y):aB w.drew b x y:=h
theorem aB.drewN{w:World}{b:Nat}{x y:Value}(h:aB w b x y)(n:Nat):aB (w.drewN n) b x y:=h
end Go.Proofs.YtcbcmlaogehimaaGreatDoor
namespace Go.Proofs.YtcbcmlaogehimaaGreatDoor
def ai:List Nat→Nat
 | []=>0
 |x::r=>x+4294967296*ai r
def bQ(L:List Nat):Prop:=L= []∨L[L.length-1]?.getD 0≠0
def bh(L:List Nat):Prop:=∀x∈L,x<4294967296
theorem j8(A B:List Nat):ai (A++B)=ai A+4294967296^A.length*ai B:=by
 induction A with
 |nil=>simp[ai]
 |cons x r ih=>simp only[List.cons_append,ai,ih,List.length_cons,Nat.pow_succ];rw[Nat.mul_add,←Nat.mul_assoc,Nat.mul_comm 4294967296 (4294967296^r.length)];omega
theorem aL(L:List Nat)(k:Nat):ai (L.take (k+1))=ai (L.take k)+4294967296^k*(L[k]?.getD 0):=by
 by_cases h:k<L.length
 ·rw[List.take_succ_eq_append_getElem h,j8,List.getElem?_eq_getElem h]
  simp[ai,Nat.min_eq_left (Nat.le_of_lt h)]
 ·rw[List.take_of_length_le (by omega),List.take_of_length_le (by omega),List.getElem?_eq_none (by omega)];simp
theorem dI(L:List Nat)(k:Nat)(h:L.length≤k):ai (L.take k)=ai L:=by rw[List.take_of_length_le h]
theorem eM(L:List Nat)(h:bh L):ai L<4294967296^L.length:=by
 induction L with
 |nil=>simp[ai]
 |cons x r ih=>
  have u:=ih (fun y d=>h y (by simp[d]))
  have A:=h x (by simp)
  simp only[ai,List.length_cons,Nat.pow_succ]
  have z:ai r+1≤4294967296^r.length:=u
  have D:=Nat.mul_le_mul_right 4294967296 z
  omega
theorem bh.take{L:List Nat}(h:bh L)(n:Nat):bh (L.take n):=fun x d=>h x (List.mem_of_mem_take d)
theorem bh.tail{x:Nat}{r:List Nat}(h:bh (x::r)):bh r:=fun y d=>h y (by simp[d])
theorem gU(L:List Nat)(h:bh L)(k:Nat):ai (L.take k)<4294967296^k:=by
 have d:=eM _ (h.take k)
 refine Nat.lt_of_lt_of_le d (Nat.pow_le_pow_right (by decide) ?_)
 simp;omega
theorem lY(L:List Nat)(h:L[L.length-1]?.getD 0≠0):4294967296^(L.length-1)≤ai L:=by
 have u:0<L.length:=by
  rcases Nat.eq_zero_or_pos L.length with e|e
  ·have:L= []:=List.length_eq_zero_iff.1 e
   subst this;simp at h
  ·exact e
 have d:=aL L (L.length-1)
 rw[show L.length-1+1=L.length by omega,List.take_length]at d
 rw[d]
 have z:=Nat.mul_le_mul_left (4294967296^(L.length-1)) (show 1≤L[L.length-1]?.getD 0 by omega)
 omega
theorem qh:∀(A B:List Nat),bh A→bh B→A.length=B.length→ai A=ai B→A=B
 | [],[],_,_,_,_=>rfl
 | [],_::_,_,_,h,_=>by simp at h
 |_::_,[],_,_,h,_=>by simp at h
 |x::r,y::s,hA,hB,hl,hv=>by
  have z:=hA x (by simp)
  have D:=hB y (by simp)
  simp only[ai]at hv
  have d:x=y:=by omega
  have u:ai r=ai s:=by omega
  rw[d,qh r s hA.tail hB.tail (by simpa using hl) u]
theorem dJ(A B:List Nat)(d:bh B)(u:bQ A)(h:ai A≤ai B):A.length≤B.length:=by
 rcases u with rfl|D
 ·simp
 ·have F:=lY A D
  have G:=eM B d
  have z:4294967296^(A.length-1)<4294967296^B.length:=by omega
  have H:=(Nat.pow_lt_pow_iff_right (show 1<4294967296 by decide)).1 z
  omega
theorem sQ(A B:List Nat)(d:bh A)(u:bh B)(z:bQ A)(cB:bQ B)(h:ai A=ai B):A=B:=
 qh A B d u (Nat.le_antisymm (dJ A B u z (by omega)) (dJ B A d cB (by omega))) h
theorem aR(A:List Nat)(d:bQ A):ai A=0↔A= []:=by
 constructor
 ·intro h
  rcases d with rfl|u
  ·rfl
  ·have z:=lY A u
   have D:0<4294967296^(A.length-1):=Nat.pow_pos (by decide)
   omega
 ·rintro rfl;rfl
theorem ia(A:List Nat)(d:bh A)(u:bQ A)(k:Nat):A.length≤k↔ai A<4294967296^k:=by
 constructor
 ·intro h
  exact Nat.lt_of_lt_of_le (eM A d) (Nat.pow_le_pow_right (by decide) h)
 ·intro h
  rcases u with rfl|c
  ·simp
  ·have D:=lY A c
   have z:4294967296^(A.length-1)<4294967296^k:=by omega
   have F:=(Nat.pow_lt_pow_iff_right (show 1<4294967296 by decide)).1 z
   omega
theorem jY(L:List Nat)(n:Nat)(h:L[n-1]?.getD 0=0):ai (L.take (n-1))=ai (L.take n):=by
 rcases Nat.eq_zero_or_pos n with rfl|u
 ·rfl
 ·have d:=aL L (n-1)
  rw[h,show n-1+1=n by omega]at d
  omega
theorem jD:∀(A B:List Nat),(∀i:Nat,A[i]?.getD 0=B[i]?.getD 0)→ai A=ai B
 | [],[],_=>rfl
 | [],y::s,h=>by
  have d:=h 0
  have u:=jD [] s (fun i=>by have:=h (i+1);simpa using this)
  simp at d;simp only[ai]at u⊢;omega
 |x::r,[],h=>by
  have d:=h 0
  have u:=jD r [] (fun i=>by have:=h (i+1);simpa using this)
  simp at d;simp only[ai]at u⊢;omega
 |x::r,y::s,h=>by
  have d:=h 0
  have u:=jD r s (fun i=>by have:=h (i+1);simpa using this)
  simp at d;simp only[ai];omega
theorem ii(L:List Nat)(k:Nat):ai L=ai (L.take k)+4294967296^k*ai (L.drop k):=by
 by_cases h:k≤L.length
 ·have d:=j8 (L.take k) (L.drop k)
  rw[List.take_append_drop,List.length_take,Nat.min_eq_left h]at d
  exact d
 ·rw[List.take_of_length_le (by omega),List.drop_of_length_le (by omega)];simp[ai]
theorem jE(A B:List Nat)(h:bh A)(t:Nat)(d:∀i,t<i→A[i]?.getD 0=B[i]?.getD 0)(u:A[t]?.getD 0<B[t]?.getD 0):ai A<ai B:=by
 have z:=ii A (t+1)
 have D:=ii B (t+1)
 have F:=aL A t
 have G:=aL B t
 have H:=gU A h t
 have e:ai (A.drop (t+1))=ai (B.drop (t+1)):=jD _ _ (fun i=>by
  have:=d (t+1+i) (by omega)
  simpa[List.getElem?_drop]using this)
 rw[e]at z
 have m:=Nat.mul_le_mul_left (4294967296^t) (show A[t]?.getD 0+1≤B[t]?.getD 0 by omega)
 rw[Nat.mul_add,Nat.mul_one]at m
 omega
theorem AM(S:List Nat)(k x:Nat):(S.set k x).take k=S.take k:=by
 rw[List.take_set]
 exact List.set_eq_of_length_le (by simp;omega)
theorem iN(S:List Nat)(k x:Nat)(h:k<S.length):ai ((S.set k x).take (k+1))=ai (S.take k)+4294967296^k*x:=by
 rw[aL,AM,List.getElem?_set_self h];rfl
theorem jm(P b t:Nat):P*(t%b)+P*b*(t/b)=P*t:=by
 rw[Nat.mul_assoc,←Nat.mul_add,Nat.mod_add_div]
theorem bh.set{S:List Nat}(h:bh S)(k x:Nat)(z:x<4294967296):bh (S.set k x):=fun y u=>by
 rcases List.mem_or_eq_of_mem_set u with d|d
 ·exact h y d
 ·omega
theorem bh.zeros(n:Nat):bh (List.replicate n 0):=fun y d=>by simp at d;omega
theorem AN(A B S:List Nat)(k c x y:Nat)(d:k<S.length)(u:A[k]?.getD 0=x)(z:B[k]?.getD 0=y)(h:ai (S.take k)+4294967296^k*c=ai (A.take k)+ai (B.take k)):
  ai ((S.set k ((c+(x+y))%4294967296)).take (k+1))+4294967296^(k+1)*((c+(x+y))/4294967296)=ai (A.take (k+1))+ai (B.take (k+1)):=by
 rw[iN S k _ d,aL A k,aL B k,u,z]
 have e:=jm (4294967296^k) 4294967296 (c+(x+y))
 rw[Nat.pow_succ]
 rw[Nat.mul_add,Nat.mul_add]at e
 omega
theorem xz(A B S:List Nat)(n c:Nat)(u:bh A)(z:bh B)(D:A.length+1≤n)(F:B.length+1≤n)(G:S.length=n)(h:ai (S.take n)+4294967296^n*c=ai (A.take n)+ai (B.take n)):
  ai S=ai A+ai B:=by
 rw[dI S n (by omega),dI A n (by omega),dI B n (by omega)]at h
 have H:ai A<4294967296^(n-1):=Nat.lt_of_lt_of_le (eM A u) (Nat.pow_le_pow_right (by decide) (by omega))
 have I:ai B<4294967296^(n-1):=Nat.lt_of_lt_of_le (eM B z) (Nat.pow_le_pow_right (by decide) (by omega))
 have J:4294967296^n=4294967296^(n-1)*4294967296:=by rw[←Nat.pow_succ];congr 1;omega
 rcases Nat.eq_zero_or_pos c with d|d
 ·subst d;omega
 ·have K:=Nat.mul_le_mul_left (4294967296^n) d
  omega
open Go.RowKit
def dy(x:Nat):Value:=.int .u32 (x:Int)
def bU(w:World)(g:Nat)(S:List Nat):Prop:=w.heap[g]? =some (.cells (S.map dy).toArray 84 (0,0))
theorem bU.cell{w:World}{g:Nat}{S:List Nat}(h:bU w g S)(j:Nat)(d:j<S.length):w.cell? ⟨g,j,none⟩=some (.int .u32 ((S[j]?.getD 0:Nat):Int)):=by
 rw[cell_of_row w g j _ _ _ h]
 simp[dy,d]
theorem bU.free{w:World}{g:Nat}{S:List Nat}(h:bU w g S)(j:Nat):w.frozen? ⟨g,j,none⟩=false:=frozen_of_row w g j _ _ h
theorem bU.set{w:World}{g:Nat}{S:List Nat}(h:bU w g S)(j x:Nat):bU (w.setCell ⟨g,j,none⟩ (.int .u32 (x:Int))) g (S.set j x):=by
 unfold bU
 rw[heap_setCell_same w g j _ _ _ h]
 simp[List.map_set,dy]
theorem bU.lt{w:World}{g:Nat}{S:List Nat}(h:bU w g S):g<w.heap.size:=(Array.getElem?_eq_some_iff.1 h).1
theorem bU.limbs{w:World}{g:Nat}{S:List Nat}(h:bU w g S)(u:bh S)(d:Nat)(z:S.length≤d):ag w (some ⟨g,0,none⟩) d S:=
 ⟨z,u,.inr ⟨g,0,rfl,h.lt,fun i A=>by rw[Nat.zero_add];exact h.cell i A⟩⟩
theorem bU.drewN{w:World}{g:Nat}{S:List Nat}(h:bU w g S)(n:Nat):bU (w.drewN n) g S:=h
theorem bU.made{w:World}{u g n:Nat}(h:w.ownsRow u 84 1 (.slice (some ⟨g,0,none⟩) n n) n (madeCells (Value.int .u32 0).cells (n*1)).toList):bU w g (List.replicate n 0):=by
 rcases h.2 with⟨z,_⟩|⟨J,D,A,z,_,F,_,_,G,d⟩
 ·simp at z
 ·simp only[Value.slice.injEq,Option.some.injEq,Addr.mk.injEq,and_true,true_and]at z
  obtain⟨rfl,rfl⟩:=z
  unfold bU
  rw[F]
  rw[List.take_of_length_le (by simp[G])]at d
  have:A=((List.replicate n 0).map dy).toArray:=by
   apply Array.toList_inj.1
   rw[d]
   refine List.ext_getElem (by simp[madeCells]) fun i H I=>?_
   simp[madeCells,Value.cells,dy,Nat.mod_one]
  rw[this]
def av(neg:Bool)(L:List Nat):Bool:=decide (L.length≤512)&& !(decide (L.length=0)&&neg)&&(decide (L.length=0)|| !decide (L[L.length-1]?.getD 0=0))
def eO(neg:Bool)(L:List Nat):Int:=if av neg L then 0 else 1
theorem ew(neg:Bool)(D:Option Addr)(d:Nat)(L:List Nat)(w:World)(h:ag w D d L)(Z:L.length≤35184372088830):
  Calls Tryz.prog 234 #[.agg #[.bool neg,.slice D L.length d]] w fun e H=>e=.returned (.int .i64 (eO neg L))∧Below w.heap.size w H:=by
 rcases h.2.2 with u|⟨b,X,rfl,hb,G⟩
 ·subst u
  cases neg
  all_goals
   go_enter Tryz.func234,Tryz.ntmps234
   go_wp2
   go_ret
   exact⟨aW (by simp[eO,av]),(Below.refl _ _).alloc (Nat.le_refl _) _⟩
 ·by_cases u:L= []
  ·subst u
   cases neg
   all_goals
    go_enter Tryz.func234,Tryz.ntmps234
    go_wp2
    go_ret
    exact⟨aW (by simp[eO,av]),(Below.refl _ _).alloc (Nat.le_refl _) _⟩
  ·have I:0<L.length:=List.length_pos_iff.2 u
   have J:=G (L.length-1) (by omega)
   have K:=h.2.1
   clear h u G
   have A:Hid (eO neg L=if L.length≤512∧(L[L.length-1]?.getD 0)≠0 then 0 else 1):=by
    have N:L≠ []:=by intro e;simp[e]at I
    unfold Hid;simp[eO,av,N]
   generalize Y:L.length=n at*
   generalize L[n-1]?.getD 0=x at*
   generalize eO neg L=ce at*
   clear Y K
   have O:((n:Int)==0)=false:=by simp;omega
   have Q:(0:Int)<(n:Int):=by omega
   by_cases F:n≤512
   ·by_cases z:x=0
    ·subst z
     go_enter Tryz.func234,Tryz.ntmps234
     go_wp2
     go_ret
     exact⟨aW (by rw[A.out];simp),(Below.refl _ _).alloc (Nat.le_refl _) _⟩
    ·have U:((x:Int)==0)=false:=by simp;omega
     go_enter Tryz.func234,Tryz.ntmps234
     go_wp2
     go_ret
     exact⟨aW (by rw[A.out];simp[F,z]),(Below.refl _ _).alloc (Nat.le_refl _) _⟩
   ·go_enter Tryz.func234,Tryz.ntmps234
    go_wp2
    go_ret
    exact⟨aW (by rw[A.out];simp[F]),(Below.refl _ _).alloc (Nat.le_refl _) _⟩
theorem vx(A:Option Addr)(u:Nat)(L:List Nat)(i:Int)(k:Nat)(w:World)(h:ag w A u L)(K:L.length≤35184372088830)(F:i=(k:Int)):
  Calls Tryz.prog 285 #[.slice A L.length u,.int .i64 i] w fun e G=>e=.returned (.int .u64 ((L[k]?.getD 0:Nat):Int))∧w=G:=by
 subst F
 by_cases d:k<L.length
 ·rcases h.2.2 with I|⟨b,J,rfl,N,D⟩
  ·subst I;simp at d
  ·have H:=D k d
   have z:L[k]?.getD 0<4294967296:=by rw[List.getElem?_eq_getElem d];exact h.2.1 _ (List.getElem_mem d)
   clear h D
   generalize L[k]?.getD 0=x at*
   generalize L.length=n at*
   go_enter Tryz.func285,Tryz.ntmps285
   go_wp2
   go_ret
   exact⟨rfl,rfl⟩
 ·have z:L[k]?.getD 0=0:=by rw[List.getElem?_eq_none (by omega)];rfl
  rw[z]
  clear h z
  generalize L.length=n at*
  go_enter Tryz.func285,Tryz.ntmps285
  go_wp2
  go_ret
  exact⟨rfl,rfl⟩
def bt(a b:Int):Int:=if a<b then-1 else if b<a then 1 else 0
theorem kc(a:Int)(w:World):Calls Tryz.prog 306 #[.int .i64 a] w fun e d=>e=.returned (.bool false)∧w=d:=by
 go_enter Tryz.func306,Tryz.ntmps306
 go_wp2
 go_ret
 exact⟨rfl,rfl⟩
theorem ke(a:Int)(w:World):Calls Tryz.prog 307 #[.int .u32 a] w fun e d=>e=.returned (.bool false)∧w=d:=by
 go_enter Tryz.func307,Tryz.ntmps307
 go_wp2
 go_ret
 exact⟨rfl,rfl⟩
theorem AO(a b:Int)(w:World):Calls Tryz.prog 304 #[.int .i64 a,.int .i64 b] w fun e d=>e=.returned (.int .i64 (bt a b))∧w=d:=by
 have u:Hid (bt a b=if a<b then-1 else if b<a then 1 else 0):=rfl
 generalize bt a b=c at*
 rcases(show a<b∨b<a∨a=b by omega)with h|h|h
 ·go_enter Tryz.func304,Tryz.ntmps304
  go_wp2_with(go_at_call 306;refine(kc _ _).mono ?_;rintro e d ⟨rfl,rfl⟩)
  go_ret
  exact⟨aW (by rw[u.out];simp[h]),rfl⟩
 ·have z:¬a<b:=by omega
  go_enter Tryz.func304,Tryz.ntmps304
  go_wp2_with(go_at_call 306;refine(kc _ _).mono ?_;rintro e d ⟨rfl,rfl⟩)
  go_ret
  exact⟨aW (by rw[u.out];simp[h,z]),rfl⟩
 ·subst h
  go_enter Tryz.func304,Tryz.ntmps304
  go_wp2_with(go_at_call 306;refine(kc _ _).mono ?_;rintro e d ⟨rfl,rfl⟩)
  go_ret
  exact⟨aW (by rw[u.out];simp),rfl⟩
theorem AP(a b:Int)(w:World):Calls Tryz.prog 305 #[.int .u32 a,.int .u32 b] w fun e d=>e=.returned (.int .i64 (bt a b))∧w=d:=by
 have u:Hid (bt a b=if a<b then-1 else if b<a then 1 else 0):=rfl
 generalize bt a b=c at*
 rcases(show a<b∨b<a∨a=b by omega)with h|h|h
 ·go_enter Tryz.func305,Tryz.ntmps305
  go_wp2_with(go_at_call 307;refine(ke _ _).mono ?_;rintro e d ⟨rfl,rfl⟩)
  go_ret
  exact⟨aW (by rw[u.out];simp[h]),rfl⟩
 ·have z:¬a<b:=by omega
  go_enter Tryz.func305,Tryz.ntmps305
  go_wp2_with(go_at_call 307;refine(ke _ _).mono ?_;rintro e d ⟨rfl,rfl⟩)
  go_ret
  exact⟨aW (by rw[u.out];simp[h,z]),rfl⟩
 ·subst h
  go_enter Tryz.func305,Tryz.ntmps305
  go_wp2_with(go_at_call 307;refine(ke _ _).mono ?_;rintro e d ⟨rfl,rfl⟩)
  go_ret
  exact⟨aW (by rw[u.out];simp),rfl⟩
def af(neg:Bool)(L:List Nat):Int:=if neg then-(ai L:Int)else(ai L:Int)
def au(B:Nat)(w:World)(v:Value)(x:Int):Prop:=
 ∃neg ao cap L,v=.agg #[.bool neg,.slice ao L.length cap]∧ag w ao cap L∧bC B ao L∧bQ L∧neg=decide (x<0)∧ai L=x.natAbs∧L.length≤35184372088832
def mb:Nat:=512
def du:Nat:=4294967296^mb
def bD(x:Int):Int:=if x.natAbs<du then 0 else 2
def dR(x:Int):Int:=if x.natAbs<du then x else 0
theorem bC.mono{B u:Nat}{z:Option Addr}{L:List Nat}(h:bC B z L)(A:u≤B):bC u z L:=by
 rcases h with h|⟨b,d,D,F⟩
 ·exact .inl h
 ·exact .inr ⟨b,d,D,Nat.le_trans A F⟩
theorem bC.zero{w:World}{z:Option Addr}{d:Nat}{L:List Nat}(h:ag w z d L):bC 0 z L:=by
 rcases h.2.2 with h|⟨b,u,A,_⟩
 ·exact .inl h
 ·exact .inr ⟨b,u,A,Nat.zero_le _⟩
theorem au.below{B:Nat}{w u:World}{v:Value}{x:Int}(h:au B w v x)(z:Below w.heap.size w u):au B u v x:=by
 obtain⟨neg,A,d,L,D,F,G⟩:=h
 exact⟨neg,A,d,L,D,F.below z,G⟩
theorem au.mono{B u:Nat}{w:World}{v:Value}{x:Int}(h:au B w v x)(z:u≤B):au u w v x:=by
 obtain⟨neg,A,d,L,D,F,G,H⟩:=h
 exact⟨neg,A,d,L,D,F,G.mono z,H⟩
theorem au.zero(B:Nat)(w:World)(h:Option Addr)(d:Nat):au B w (.agg #[.bool false,.slice h 0 d]) 0:=
 ⟨false,h,d,[],rfl,ag.nil _ _ _,.inl rfl,.inl rfl,rfl,rfl,by simp⟩
theorem aM(neg:Bool)(L:List Nat):(af neg L).natAbs=ai L:=by
 unfold af;cases neg<;>simp
theorem au.mk{B:Nat}{w:World}{neg:Bool}{u:Option Addr}{d:Nat}{L:List Nat}(h:ag w u d L)(z:bC B u L)(c:bQ L)(A:L≠ [])(D:L.length≤35184372088832):au B w (.agg #[.bool neg,.slice u L.length d]) (af neg L):=by
 refine⟨neg,u,d,L,rfl,h,z,c,?_,(aM neg L).symm,D⟩
 have F:ai L≠0:=fun e=>A ((aR L c).1 e)
 unfold af;cases neg<;>simp<;>omega
theorem nO{neg:Bool}{L d:List Nat}(h:ai L=ai d):af neg L=af neg d:=by unfold af;rw[h]
theorem ij(neg:Bool):af neg []=0:=by unfold af;cases neg<;>simp[ai]
theorem dz(L:List Nat)(h:bh L)(c:bQ L):ai L<du↔L.length≤512:=(ia L h c mb).symm
end Go.Proofs.YtcbcmlaogehimaaGreatDoor
namespace Go.Proofs.YtcbcmlaogehimaaGreatDoor
theorem AQ(A B S:List Nat)(k c x y t d:Nat)(u:k<S.length)(z:A[k]?.getD 0=x)(D:B[k]?.getD 0=y)(F:t+y+c=x+4294967296*d)(h:ai (S.take k)+ai (B.take k)=ai (A.take k)+4294967296^k*c):
  ai ((S.set k t).take (k+1))+ai (B.take (k+1))=ai (A.take (k+1))+4294967296^(k+1)*d:=by
 rw[iN S k _ u,aL A k,aL B k,z,D,Nat.pow_succ]
 have e:4294967296^k*(t+y+c)=4294967296^k*(x+4294967296*d):=by rw[F]
 rw[Nat.mul_add,Nat.mul_add,Nat.mul_add,←Nat.mul_assoc]at e
 omega
theorem xA(A B S:List Nat)(n c:Nat)(u:bh S)(z:S.length=n)(G:A.length=n)(H:ai B≤ai A)(D:ai (B.take n)=ai B)(h:ai (S.take n)+ai (B.take n)=ai (A.take n)+4294967296^n*c):
  ai S=ai A-ai B:=by
 rw[dI S n (by omega),dI A n (by omega),D]at h
 have F:=eM S u
 rw[z]at F
 rcases Nat.eq_zero_or_pos c with d|d
 ·subst d;omega
 ·have I:=Nat.mul_le_mul_left (4294967296^n) d
  omega
theorem xB(A B:List Nat)(d:bh A)(u:ai B≤ai A):ai (B.take A.length)=ai B:=by
 have h:=ii B A.length
 have z:=eM A d
 rcases Nat.eq_zero_or_pos (ai (B.drop A.length))with e|e
 ·rw[e]at h;omega
 ·have D:=Nat.mul_le_mul_left (4294967296^A.length) e
  omega
end Go.Proofs.YtcbcmlaogehimaaGreatDoor
