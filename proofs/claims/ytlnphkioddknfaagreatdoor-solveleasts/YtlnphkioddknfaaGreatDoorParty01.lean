/- Part 1 of the texts. -/
import Derived.WalkSpells
import Derived.WalkLawsBesides
import Derived.Deep.RegionHeld3
import Derived.Deep.DrawnRows
import Derived.BigQuiet
import Derived.Test.YtlnphkioddknfaaGreatDoorProg
set_option maxHeartbeats 400000
namespace Go.Proofs.YtlnphkioddknfaaGreatDoor
open Go.RowKit
def ag(w:World)(ao:Option Addr)(cap:Nat)(L:List Nat):Prop:=
 L.length≤cap∧(∀x∈L,x<4294967296)∧(L= []∨∃b off,ao=some ⟨b,off,none⟩∧b<w.heap.size∧∀i,i<L.length→w.cell? ⟨b,off+i,none⟩=some (.int .u32 ((L[i]?.getD 0:Nat):Int)))
def bN(B:Nat)(ao:Option Addr)(L:List Nat):Prop:=L= []∨∃b off,ao=some ⟨b,off,none⟩∧B≤b
theorem ag.below{w f:World}{ao:Option Addr}{cap:Nat}{L:List Nat}(h:ag w ao cap L)(l:Below w.heap.size w f):ag f ao cap L:=by
 refine⟨h.1,h.2.1,?_⟩
 rcases h.2.2 with h|⟨b,d,y,m,z⟩
 ·exact .inl h
 ·refine .inr ⟨b,d,y,Nat.lt_of_lt_of_le m l.size,fun i t=>?_⟩
  rw[l.cell (p:=⟨b,d+i,none⟩) m]
  exact z i t
theorem ag.nil(w:World)(ao:Option Addr)(cap:Nat):ag w ao cap []:=⟨Nat.zero_le _,by simp,.inl rfl⟩
theorem ag.take{w:World}{ao:Option Addr}{cap:Nat}{L:List Nat}(h:ag w ao cap L)(n:Nat):ag w ao cap (L.take n):=by
 refine⟨Nat.le_trans (List.length_take_le' n L) h.1,fun x l=>h.2.1 x (List.mem_of_mem_take l),?_⟩
 rcases h.2.2 with t|⟨b,f,y,z,A⟩
 ·left;simp[t]
 ·refine .inr ⟨b,f,y,z,fun i m=>?_⟩
  have d:=m
  rw[List.length_take]at d
  rw[A i (by omega),List.getElem?_take,if_pos (by omega)]
theorem ag.lt{w:World}{ao:Option Addr}{cap:Nat}{L:List Nat}(h:ag w ao cap L)(i:Nat):L[i]?.getD 0<4294967296:=by
 by_cases d:i<L.length
 ·rw[List.getElem?_eq_getElem d];exact h.2.1 _ (List.getElem_mem d)
 ·rw[List.getElem?_eq_none (by omega)];decide
theorem aQ{k:IntKind}{a b:Int}(h:a=b):Ending.returned (.int k a)=.returned (.int k b):=by rw[h]
theorem ja{a b:Bool}(h:a=b):Ending.returned (.bool a)=.returned (.bool b):=by rw[h]
theorem aa{p:Prop}(h:p):Hid p:=h
theorem uH{p:Prop}(h:Hid p):p:=h
theorem au{P:Program}{c:Code}{Q:Exit→Act→World→Prop}{a:Act}{w:World}(F:World→Prop)(h:F w)(k:∀W,F W→Code.wp P c Q a W):Code.wp P c Q a w:=k w h
def aA(w:World)(b:Nat)(x y:Value):Prop:=w.heap[b]? =some (.cells #[x,y] 45 (0,0))
theorem aA.c0{w:World}{b:Nat}{x y:Value}(h:aA w b x y):w.cell? ⟨b,0,none⟩=some x:=by rw[cell_of_row w b 0 _ _ _ h];rfl
theorem aA.c1{w:World}{b:Nat}{x y:Value}(h:aA w b x y):w.cell? ⟨b,1,none⟩=some y:=by rw[cell_of_row w b 1 _ _ _ h];rfl
theorem aA.free{w:World}{b:Nat}{x y:Value}(h:aA w b x y)(j:Nat):w.frozen? ⟨b,j,none⟩=false:=frozen_of_row w b j _ _ h
theorem aA.lt{w:World}{b:Nat}{x y:Value}(h:aA w b x y):b<w.heap.size:=(Array.getElem?_eq_some_iff.1 h).1
theorem aA.below{w f:World}{b:Nat}{x y:Value}(h:aA w b x y){B:Nat}(l:Below B w f)(d:b<B):aA f b x y:=(l.block b d).trans h
theorem aA.new(w:World)(x y:Value):aA (w.alloc (.cells #[x,y] 45)) w.heap.size x y:=heap_alloc_new w _
theorem aA.old{w:World}{b:Nat}{x y:Value}(h:aA w b x y)(o:Obj):aA (w.alloc o) b x y:=by
 unfold aA;rw[Below.heap_alloc w o b h.lt];exact h
theorem aA.drew{w:World}{b:Nat}{x y:Value}(h:aA w b x y):aA w.drew b x y:=h
theorem aA.drewN{w:World}{b:Nat}{x y:Value}(h:aA w b x y)(n:Nat):aA (w.drewN n) b x y:=h
end Go.Proofs.YtlnphkioddknfaaGreatDoor
namespace Go.Proofs.YtlnphkioddknfaaGreatDoor
def an:List Nat→Nat
 | []=>0
 |x::r=>x+4294967296*an r
def bP(L:List Nat):Prop:=L= []∨L[L.length-1]?.getD 0≠0
def bf(L:List Nat):Prop:=∀x∈L,x<4294967296
theorem jX(A B:List Nat):an (A++B)=an A+4294967296^A.length*an B:=by
 induction A with
 |nil=>simp[an]
 |cons x r ih=>simp only[List.cons_append,an,ih,List.length_cons,Nat.pow_succ];rw[Nat.mul_add,←Nat.mul_assoc,Nat.mul_comm 4294967296 (4294967296^r.length)];omega
theorem aH(L:List Nat)(k:Nat):an (L.take (k+1))=an (L.take k)+4294967296^k*(L[k]?.getD 0):=by
 by_cases h:k<L.length
 ·rw[List.take_succ_eq_append_getElem h,jX,List.getElem?_eq_getElem h]
  simp[an,Nat.min_eq_left (Nat.le_of_lt h)]
 ·rw[List.take_of_length_le (by omega),List.take_of_length_le (by omega),List.getElem?_eq_none (by omega)];simp
theorem dl(L:List Nat)(k:Nat)(h:L.length≤k):an (L.take k)=an L:=by rw[List.take_of_length_le h]
theorem ei(L:List Nat)(h:bf L):an L<4294967296^L.length:=by
 induction L with
 |nil=>simp[an]
 |cons x r ih=>
  have f:=ih (fun y d=>h y (by simp[d]))
  have m:=h x (by simp)
  simp only[an,List.length_cons,Nat.pow_succ]
  have l:an r+1≤4294967296^r.length:=f
  have t:=Nat.mul_le_mul_right 4294967296 l
  omega
theorem bf.take{L:List Nat}(h:bf L)(n:Nat):bf (L.take n):=fun x d=>h x (List.mem_of_mem_take d)
theorem bf.tail{x:Nat}{r:List Nat}(h:bf (x::r)):bf r:=fun y d=>h y (by simp[d])
theorem gH(L:List Nat)(h:bf L)(k:Nat):an (L.take k)<4294967296^k:=by
 have d:=ei _ (h.take k)
 refine Nat.lt_of_lt_of_le d (Nat.pow_le_pow_right (by decide) ?_)
 simp;omega
theorem k8(L:List Nat)(h:L[L.length-1]?.getD 0≠0):4294967296^(L.length-1)≤an L:=by
 have f:0<L.length:=by
  rcases Nat.eq_zero_or_pos L.length with e|e
  ·have:L= []:=List.length_eq_zero_iff.1 e
   subst this;simp at h
  ·exact e
 have d:=aH L (L.length-1)
 rw[show L.length-1+1=L.length by omega,List.take_length]at d
 rw[d]
 have l:=Nat.mul_le_mul_left (4294967296^(L.length-1)) (show 1≤L[L.length-1]?.getD 0 by omega)
 omega
theorem pn:∀(A B:List Nat),bf A→bf B→A.length=B.length→an A=an B→A=B
 | [],[],_,_,_,_=>rfl
 | [],_::_,_,_,h,_=>by simp at h
 |_::_,[],_,_,h,_=>by simp at h
 |x::r,y::s,hA,hB,hl,hv=>by
  have l:=hA x (by simp)
  have m:=hB y (by simp)
  simp only[an]at hv
  have d:x=y:=by omega
  have f:an r=an s:=by omega
  rw[d,pn r s hA.tail hB.tail (by simpa using hl) f]
theorem dp(A B:List Nat)(d:bf B)(f:bP A)(h:an A≤an B):A.length≤B.length:=by
 rcases f with rfl|m
 ·simp
 ·have t:=k8 A m
  have y:=ei B d
  have l:4294967296^(A.length-1)<4294967296^B.length:=by omega
  have z:=(Nat.pow_lt_pow_iff_right (show 1<4294967296 by decide)).1 l
  omega
theorem rH(A B:List Nat)(d:bf A)(f:bf B)(l:bP A)(cB:bP B)(h:an A=an B):A=B:=
 pn A B d f (Nat.le_antisymm (dp A B f l (by omega)) (dp B A d cB (by omega))) h
theorem aL(A:List Nat)(d:bP A):an A=0↔A= []:=by
 constructor
 ·intro h
  rcases d with rfl|f
  ·rfl
  ·have l:=k8 A f
   have m:0<4294967296^(A.length-1):=Nat.pow_pos (by decide)
   omega
 ·rintro rfl;rfl
theorem oO(A:List Nat)(d:bf A)(f:bP A)(k:Nat):A.length≤k↔an A<4294967296^k:=by
 constructor
 ·intro h
  exact Nat.lt_of_lt_of_le (ei A d) (Nat.pow_le_pow_right (by decide) h)
 ·intro h
  rcases f with rfl|c
  ·simp
  ·have m:=k8 A c
   have l:4294967296^(A.length-1)<4294967296^k:=by omega
   have t:=(Nat.pow_lt_pow_iff_right (show 1<4294967296 by decide)).1 l
   omega
theorem jP(L:List Nat)(n:Nat)(h:L[n-1]?.getD 0=0):an (L.take (n-1))=an (L.take n):=by
 rcases Nat.eq_zero_or_pos n with rfl|f
 ·rfl
 ·have d:=aH L (n-1)
  rw[h,show n-1+1=n by omega]at d
  omega
theorem jz:∀(A B:List Nat),(∀i:Nat,A[i]?.getD 0=B[i]?.getD 0)→an A=an B
 | [],[],_=>rfl
 | [],y::s,h=>by
  have d:=h 0
  have f:=jz [] s (fun i=>by have:=h (i+1);simpa using this)
  simp at d;simp only[an]at f⊢;omega
 |x::r,[],h=>by
  have d:=h 0
  have f:=jz r [] (fun i=>by have:=h (i+1);simpa using this)
  simp at d;simp only[an]at f⊢;omega
 |x::r,y::s,h=>by
  have d:=h 0
  have f:=jz r s (fun i=>by have:=h (i+1);simpa using this)
  simp at d;simp only[an];omega
theorem g7(L:List Nat)(k:Nat):an L=an (L.take k)+4294967296^k*an (L.drop k):=by
 by_cases h:k≤L.length
 ·have d:=jX (L.take k) (L.drop k)
  rw[List.take_append_drop,List.length_take,Nat.min_eq_left h]at d
  exact d
 ·rw[List.take_of_length_le (by omega),List.drop_of_length_le (by omega)];simp[an]
theorem jA(A B:List Nat)(f:bf A)(t:Nat)(d:∀i,t<i→A[i]?.getD 0=B[i]?.getD 0)(h:A[t]?.getD 0<B[t]?.getD 0):an A<an B:=by
 have l:=g7 A (t+1)
 have y:=g7 B (t+1)
 have z:=aH A t
 have D:=aH B t
 have F:=gH A f t
 have e:an (A.drop (t+1))=an (B.drop (t+1)):=jz _ _ (fun i=>by
  have:=d (t+1+i) (by omega)
  simpa[List.getElem?_drop]using this)
 rw[e]at l
 have m:=Nat.mul_le_mul_left (4294967296^t) (show A[t]?.getD 0+1≤B[t]?.getD 0 by omega)
 rw[Nat.mul_add,Nat.mul_one]at m
 omega
theorem zV(S:List Nat)(k x:Nat):(S.set k x).take k=S.take k:=by
 rw[List.take_set]
 exact List.set_eq_of_length_le (by simp;omega)
theorem iE(S:List Nat)(k x:Nat)(h:k<S.length):an ((S.set k x).take (k+1))=an (S.take k)+4294967296^k*x:=by
 rw[aH,zV,List.getElem?_set_self h];rfl
theorem kq(P b t:Nat):P*(t%b)+P*b*(t/b)=P*t:=by
 rw[Nat.mul_assoc,←Nat.mul_add,Nat.mod_add_div]
theorem bf.set{S:List Nat}(h:bf S)(k x:Nat)(l:x<4294967296):bf (S.set k x):=fun y f=>by
 rcases List.mem_or_eq_of_mem_set f with d|d
 ·exact h y d
 ·omega
theorem bf.zeros(n:Nat):bf (List.replicate n 0):=fun y d=>by simp at d;omega
theorem zW(A B S:List Nat)(k c x y:Nat)(d:k<S.length)(f:A[k]?.getD 0=x)(l:B[k]?.getD 0=y)(h:an (S.take k)+4294967296^k*c=an (A.take k)+an (B.take k)):
  an ((S.set k ((c+(x+y))%4294967296)).take (k+1))+4294967296^(k+1)*((c+(x+y))/4294967296)=an (A.take (k+1))+an (B.take (k+1)):=by
 rw[iE S k _ d,aH A k,aH B k,f,l]
 have e:=kq (4294967296^k) 4294967296 (c+(x+y))
 rw[Nat.pow_succ]
 rw[Nat.mul_add,Nat.mul_add]at e
 omega
theorem wC(A B S:List Nat)(n c:Nat)(f:bf A)(l:bf B)(m:A.length+1≤n)(t:B.length+1≤n)(y:S.length=n)(h:an (S.take n)+4294967296^n*c=an (A.take n)+an (B.take n)):
  an S=an A+an B:=by
 rw[dl S n (by omega),dl A n (by omega),dl B n (by omega)]at h
 have z:an A<4294967296^(n-1):=Nat.lt_of_lt_of_le (ei A f) (Nat.pow_le_pow_right (by decide) (by omega))
 have D:an B<4294967296^(n-1):=Nat.lt_of_lt_of_le (ei B l) (Nat.pow_le_pow_right (by decide) (by omega))
 have F:4294967296^n=4294967296^(n-1)*4294967296:=by rw[←Nat.pow_succ];congr 1;omega
 rcases Nat.eq_zero_or_pos c with d|d
 ·subst d;omega
 ·have G:=Nat.mul_le_mul_left (4294967296^n) d
  omega
open Go.RowKit
def eH(x:Nat):Value:=.int .u32 (x:Int)
def bR(w:World)(g:Nat)(S:List Nat):Prop:=w.heap[g]? =some (.cells (S.map eH).toArray 133 (0,0))
theorem bR.cell{w:World}{g:Nat}{S:List Nat}(h:bR w g S)(j:Nat)(d:j<S.length):w.cell? ⟨g,j,none⟩=some (.int .u32 ((S[j]?.getD 0:Nat):Int)):=by
 rw[cell_of_row w g j _ _ _ h]
 simp[eH,d]
theorem bR.free{w:World}{g:Nat}{S:List Nat}(h:bR w g S)(j:Nat):w.frozen? ⟨g,j,none⟩=false:=frozen_of_row w g j _ _ h
theorem bR.set{w:World}{g:Nat}{S:List Nat}(h:bR w g S)(j x:Nat):bR (w.setCell ⟨g,j,none⟩ (.int .u32 (x:Int))) g (S.set j x):=by
 unfold bR
 rw[heap_setCell_same w g j _ _ _ h]
 simp[List.map_set,eH]
theorem bR.lt{w:World}{g:Nat}{S:List Nat}(h:bR w g S):g<w.heap.size:=(Array.getElem?_eq_some_iff.1 h).1
theorem bR.limbs{w:World}{g:Nat}{S:List Nat}(h:bR w g S)(d:bf S)(cap:Nat)(f:S.length≤cap):ag w (some ⟨g,0,none⟩) cap S:=
 ⟨f,d,.inr ⟨g,0,rfl,h.lt,fun i l=>by rw[Nat.zero_add];exact h.cell i l⟩⟩
theorem bR.drewN{w:World}{g:Nat}{S:List Nat}(h:bR w g S)(n:Nat):bR (w.drewN n) g S:=h
theorem bR.made{w:World}{f g n:Nat}(h:w.ownsRow f 133 1 (.slice (some ⟨g,0,none⟩) n n) n (madeCells (Value.int .u32 0).cells (n*1)).toList):bR w g (List.replicate n 0):=by
 rcases h.2 with⟨l,_⟩|⟨F,t,m,l,_,y,_,_,z,d⟩
 ·simp at l
 ·simp only[Value.slice.injEq,Option.some.injEq,Addr.mk.injEq,and_true,true_and]at l
  obtain⟨rfl,rfl⟩:=l
  unfold bR
  rw[y]
  rw[List.take_of_length_le (by simp[z])]at d
  have:m=((List.replicate n 0).map eH).toArray:=by
   apply Array.toList_inj.1
   rw[d]
   refine List.ext_getElem (by simp[madeCells]) fun i A D=>?_
   simp[madeCells,Value.cells,eH,Nat.mod_one]
  rw[this]
def av(neg:Bool)(L:List Nat):Bool:=decide (L.length≤512)&& !(decide (L.length=0)&&neg)&&(decide (L.length=0)|| !decide (L[L.length-1]?.getD 0=0))
def ep(neg:Bool)(L:List Nat):Int:=if av neg L then 0 else 1
theorem dW(neg:Bool)(ao:Option Addr)(cap:Nat)(L:List Nat)(w:World)(h:ag w ao cap L)(N:L.length≤35184372088830):
  Calls Tryz.prog 249 #[.agg #[.bool neg,.slice ao L.length cap]] w fun e y=>e=.returned (.int .i64 (ep neg L))∧Below w.heap.size w y:=by
 rcases h.2.2 with d|⟨b,K,rfl,O,t⟩
 ·subst d
  cases neg
  all_goals
   go_enter Tryz.func249,Tryz.ntmps249
   go_wp2
   go_ret
   exact⟨aQ (by simp[ep,av]),(Below.refl _ _).alloc (Nat.le_refl _) _⟩
 ·by_cases d:L= []
  ·subst d
   cases neg
   all_goals
    go_enter Tryz.func249,Tryz.ntmps249
    go_wp2
    go_ret
    exact⟨aQ (by simp[ep,av]),(Below.refl _ _).alloc (Nat.le_refl _) _⟩
  ·have z:0<L.length:=List.length_pos_iff.2 d
   have A:=t (L.length-1) (by omega)
   have D:=h.2.1
   clear h d t
   have l:Hid (ep neg L=if L.length≤512∧(L[L.length-1]?.getD 0)≠0 then 0 else 1):=by
    have F:L≠ []:=by intro e;simp[e]at z
    unfold Hid;simp[ep,av,F]
   generalize M:L.length=n at*
   generalize L[n-1]?.getD 0=x at*
   generalize ep neg L=Q at*
   clear M D
   have G:((n:Int)==0)=false:=by simp;omega
   have H:(0:Int)<(n:Int):=by omega
   by_cases m:n≤512
   ·by_cases f:x=0
    ·subst f
     go_enter Tryz.func249,Tryz.ntmps249
     go_wp2
     go_ret
     exact⟨aQ (by rw[l.out];simp),(Below.refl _ _).alloc (Nat.le_refl _) _⟩
    ·have I:((x:Int)==0)=false:=by simp;omega
     go_enter Tryz.func249,Tryz.ntmps249
     go_wp2
     go_ret
     exact⟨aQ (by rw[l.out];simp[m,f]),(Below.refl _ _).alloc (Nat.le_refl _) _⟩
   ·go_enter Tryz.func249,Tryz.ntmps249
    go_wp2
    go_ret
    exact⟨aQ (by rw[l.out];simp[m]),(Below.refl _ _).alloc (Nat.le_refl _) _⟩
theorem uy(ao:Option Addr)(cap:Nat)(L:List Nat)(i:Int)(k:Nat)(w:World)(h:ag w ao cap L)(D:L.length≤35184372088830)(m:i=(k:Int)):
  Calls Tryz.prog 280 #[.slice ao L.length cap,.int .i64 i] w fun e t=>e=.returned (.int .u64 ((L[k]?.getD 0:Nat):Int))∧w=t:=by
 subst m
 by_cases d:k<L.length
 ·rcases h.2.2 with z|⟨b,A,rfl,F,l⟩
  ·subst z;simp at d
  ·have y:=l k d
   have f:L[k]?.getD 0<4294967296:=by rw[List.getElem?_eq_getElem d];exact h.2.1 _ (List.getElem_mem d)
   clear h l
   generalize L[k]?.getD 0=x at*
   generalize L.length=n at*
   go_enter Tryz.func280,Tryz.ntmps280
   go_wp2
   go_ret
   exact⟨rfl,rfl⟩
 ·have f:L[k]?.getD 0=0:=by rw[List.getElem?_eq_none (by omega)];rfl
  rw[f]
  clear h f
  generalize L.length=n at*
  go_enter Tryz.func280,Tryz.ntmps280
  go_wp2
  go_ret
  exact⟨rfl,rfl⟩
def bJ(a b:Int):Int:=if a<b then-1 else if b<a then 1 else 0
theorem jY(a:Int)(w:World):Calls Tryz.prog 296 #[.int .i64 a] w fun e d=>e=.returned (.bool false)∧w=d:=by
 go_enter Tryz.func296,Tryz.ntmps296
 go_wp2
 go_ret
 exact⟨rfl,rfl⟩
theorem jZ(a:Int)(w:World):Calls Tryz.prog 297 #[.int .u32 a] w fun e d=>e=.returned (.bool false)∧w=d:=by
 go_enter Tryz.func297,Tryz.ntmps297
 go_wp2
 go_ret
 exact⟨rfl,rfl⟩
theorem zX(a b:Int)(w:World):Calls Tryz.prog 294 #[.int .i64 a,.int .i64 b] w fun e d=>e=.returned (.int .i64 (bJ a b))∧w=d:=by
 have f:Hid (bJ a b=if a<b then-1 else if b<a then 1 else 0):=rfl
 generalize bJ a b=c at*
 rcases(show a<b∨b<a∨a=b by omega)with h|h|h
 ·go_enter Tryz.func294,Tryz.ntmps294
  go_wp2_with(go_at_call 296;refine(jY _ _).mono ?_;rintro e d ⟨rfl,rfl⟩)
  go_ret
  exact⟨aQ (by rw[f.out];simp[h]),rfl⟩
 ·have l:¬a<b:=by omega
  go_enter Tryz.func294,Tryz.ntmps294
  go_wp2_with(go_at_call 296;refine(jY _ _).mono ?_;rintro e d ⟨rfl,rfl⟩)
  go_ret
  exact⟨aQ (by rw[f.out];simp[h,l]),rfl⟩
 ·subst h
  go_enter Tryz.func294,Tryz.ntmps294
  go_wp2_with(go_at_call 296;refine(jY _ _).mono ?_;rintro e d ⟨rfl,rfl⟩)
  go_ret
  exact⟨aQ (by rw[f.out];simp),rfl⟩
theorem zY(a b:Int)(w:World):Calls Tryz.prog 295 #[.int .u32 a,.int .u32 b] w fun e d=>e=.returned (.int .i64 (bJ a b))∧w=d:=by
 have f:Hid (bJ a b=if a<b then-1 else if b<a then 1 else 0):=rfl
 generalize bJ a b=c at*
 rcases(show a<b∨b<a∨a=b by omega)with h|h|h
 ·go_enter Tryz.func295,Tryz.ntmps295
  go_wp2_with(go_at_call 297;refine(jZ _ _).mono ?_;rintro e d ⟨rfl,rfl⟩)
  go_ret
  exact⟨aQ (by rw[f.out];simp[h]),rfl⟩
 ·have l:¬a<b:=by omega
  go_enter Tryz.func295,Tryz.ntmps295
  go_wp2_with(go_at_call 297;refine(jZ _ _).mono ?_;rintro e d ⟨rfl,rfl⟩)
  go_ret
  exact⟨aQ (by rw[f.out];simp[h,l]),rfl⟩
 ·subst h
  go_enter Tryz.func295,Tryz.ntmps295
  go_wp2_with(go_at_call 297;refine(jZ _ _).mono ?_;rintro e d ⟨rfl,rfl⟩)
  go_ret
  exact⟨aQ (by rw[f.out];simp),rfl⟩
end Go.Proofs.YtlnphkioddknfaaGreatDoor
