/- Part 1 of the texts. -/
import Derived.WalkSpells
import Derived.WalkLawsBesides
import Derived.Deep.RegionHeld3
import Derived.Deep.DrawnRows
import Derived.BigQuiet
import Derived.Test.YtnnfjeieennffaaGreatDoorProg
set_option maxHeartbeats 400000
namespace Go.Proofs.YtnnfjeieennffaaGreatDoor
open Go.RowKit
def ag(w:World)(ao:Option Addr)(cap:Nat)(L:List Nat):Prop:=
 L.length≤cap∧(∀x∈L,x<4294967296)∧(L= []∨∃b off,ao=some ⟨b,off,none⟩∧b<w.heap.size∧∀i,i<L.length→w.cell? ⟨b,off+i,none⟩=some (.int .u32 ((L[i]?.getD 0:Nat):Int)))
def bG(B:Nat)(ao:Option Addr)(L:List Nat):Prop:=L= []∨∃b off,ao=some ⟨b,off,none⟩∧B≤b
theorem ag.below{w w':World}{l:Option Addr}{d:Nat}{L:List Nat}(h:ag w l d L)(m:Below w.heap.size w w'):ag w' l d L:=by
 refine⟨h.1,h.2.1,?_⟩
 rcases h.2.2 with h|⟨b,f,A,t,D⟩
 ·exact .inl h
 ·refine .inr ⟨b,f,A,Nat.lt_of_lt_of_le t m.size,fun i z=>?_⟩
  rw[m.cell (p:=⟨b,f+i,none⟩) t]
  exact D i z
theorem ag.nil(w:World)(f:Option Addr)(d:Nat):ag w f d []:=⟨Nat.zero_le _,by simp,.inl rfl⟩
theorem ag.take{w:World}{m:Option Addr}{d:Nat}{L:List Nat}(h:ag w m d L)(n:Nat):ag w m d (L.take n):=by
 refine⟨Nat.le_trans (List.length_take_le' n L) h.1,fun x t=>h.2.1 x (List.mem_of_mem_take t),?_⟩
 rcases h.2.2 with A|⟨b,l,D,F,G⟩
 ·left;simp[A]
 ·refine .inr ⟨b,l,D,F,fun i z=>?_⟩
  have f:=z
  rw[List.length_take]at f
  rw[G i (by omega),List.getElem?_take,if_pos (by omega)]
theorem ag.lt{w:World}{l:Option Addr}{d:Nat}{L:List Nat}(h:ag w l d L)(i:Nat):L[i]?.getD 0<4294967296:=by
 by_cases f:i<L.length
 ·rw[List.getElem?_eq_getElem f];exact h.2.1 _ (List.getElem_mem f)
 ·rw[List.getElem?_eq_none (by omega)];decide
theorem aM{k:IntKind}{a b:Int}(h:a=b):Ending.returned (.int k a)=.returned (.int k b):=by rw[h]
theorem iP{a b:Bool}(h:a=b):Ending.returned (.bool a)=.returned (.bool b):=by rw[h]
theorem aa{p:Prop}(h:p):Hid p:=h
theorem uH{p:Prop}(h:Hid p):p:=h
theorem aq{P:Program}{c:Code}{Q:Exit→Act→World→Prop}{a:Act}{w:World}(F:World→Prop)(h:F w)(k:∀W,F W→Code.wp P c Q a W):Code.wp P c Q a w:=k w h
def aC(w:World)(b:Nat)(x y:Value):Prop:=w.heap[b]? =some (.cells #[x,y] 50 (0,0))
theorem aC.c0{w:World}{b:Nat}{x y:Value}(h:aC w b x y):w.cell? ⟨b,0,none⟩=some x:=by rw[cell_of_row w b 0 _ _ _ h];rfl
theorem aC.c1{w:World}{b:Nat}{x y:Value}(h:aC w b x y):w.cell? ⟨b,1,none⟩=some y:=by rw[cell_of_row w b 1 _ _ _ h];rfl
theorem aC.free{w:World}{b:Nat}{x y:Value}(h:aC w b x y)(j:Nat):w.frozen? ⟨b,j,none⟩=false:=frozen_of_row w b j _ _ h
theorem aC.lt{w:World}{b:Nat}{x y:Value}(h:aC w b x y):b<w.heap.size:=(Array.getElem?_eq_some_iff.1 h).1
theorem aC.below{w w':World}{b:Nat}{x y:Value}(h:aC w b x y){B:Nat}(f:Below B w w')(d:b<B):aC w' b x y:=(f.block b d).trans h
theorem aC.new(w:World)(x y:Value):aC (w.alloc (.cells #[x,y] 50)) w.heap.size x y:=heap_alloc_new w _
theorem aC.old{w:World}{b:Nat}{x y:Value}(h:aC w b x y)(o:Obj):aC (w.alloc o) b x y:=by
 unfold aC;rw[Below.heap_alloc w o b h.lt];exact h
theorem aC.drew{w:World}{b:Nat}{x y:Value}(h:aC w b x y):aC w.drew b x y:=h
theorem aC.drewN{w:World}{b:Nat}{x y:Value}(h:aC w b x y)(n:Nat):aC (w.drewN n) b x y:=h
end Go.Proofs.YtnnfjeieennffaaGreatDoor
namespace Go.Proofs.YtnnfjeieennffaaGreatDoor
def ak:List Nat→Nat
 | []=>0
 |x::r=>x+4294967296*ak r
def bN(L:List Nat):Prop:=L= []∨L[L.length-1]?.getD 0≠0
def bd(L:List Nat):Prop:=∀x∈L,x<4294967296
theorem jK(A B:List Nat):ak (A++B)=ak A+4294967296^A.length*ak B:=by
 induction A with
 |nil=>simp[ak]
 |cons x r ih=>simp only[List.cons_append,ak,ih,List.length_cons,Nat.pow_succ];rw[Nat.mul_add,←Nat.mul_assoc,Nat.mul_comm 4294967296 (4294967296^r.length)];omega
theorem aH(L:List Nat)(k:Nat):ak (L.take (k+1))=ak (L.take k)+4294967296^k*(L[k]?.getD 0):=by
 by_cases h:k<L.length
 ·rw[List.take_succ_eq_append_getElem h,jK,List.getElem?_eq_getElem h]
  simp[ak,Nat.min_eq_left (Nat.le_of_lt h)]
 ·rw[List.take_of_length_le (by omega),List.take_of_length_le (by omega),List.getElem?_eq_none (by omega)];simp
theorem du(L:List Nat)(k:Nat)(h:L.length≤k):ak (L.take k)=ak L:=by rw[List.take_of_length_le h]
theorem eh(L:List Nat)(h:bd L):ak L<4294967296^L.length:=by
 induction L with
 |nil=>simp[ak]
 |cons x r ih=>
  have f:=ih (fun y d=>h y (by simp[d]))
  have m:=h x (by simp)
  simp only[ak,List.length_cons,Nat.pow_succ]
  have l:ak r+1≤4294967296^r.length:=f
  have t:=Nat.mul_le_mul_right 4294967296 l
  omega
theorem bd.take{L:List Nat}(h:bd L)(n:Nat):bd (L.take n):=fun x d=>h x (List.mem_of_mem_take d)
theorem bd.tail{x:Nat}{r:List Nat}(h:bd (x::r)):bd r:=fun y d=>h y (by simp[d])
theorem gH(L:List Nat)(h:bd L)(k:Nat):ak (L.take k)<4294967296^k:=by
 have d:=eh _ (h.take k)
 refine Nat.lt_of_lt_of_le d (Nat.pow_le_pow_right (by decide) ?_)
 simp;omega
theorem kW(L:List Nat)(h:L[L.length-1]?.getD 0≠0):4294967296^(L.length-1)≤ak L:=by
 have f:0<L.length:=by
  rcases Nat.eq_zero_or_pos L.length with e|e
  ·have:L= []:=List.length_eq_zero_iff.1 e
   subst this;simp at h
  ·exact e
 have d:=aH L (L.length-1)
 rw[show L.length-1+1=L.length by omega,List.take_length]at d
 rw[d]
 have l:=Nat.mul_le_mul_left (4294967296^(L.length-1)) (show 1≤L[L.length-1]?.getD 0 by omega)
 omega
theorem pD:∀(A B:List Nat),bd A→bd B→A.length=B.length→ak A=ak B→A=B
 | [],[],_,_,_,_=>rfl
 | [],_::_,_,_,h,_=>by simp at h
 |_::_,[],_,_,h,_=>by simp at h
 |x::r,y::s,hA,hB,hl,hv=>by
  have l:=hA x (by simp)
  have m:=hB y (by simp)
  simp only[ak]at hv
  have d:x=y:=by omega
  have f:ak r=ak s:=by omega
  rw[d,pD r s hA.tail hB.tail (by simpa using hl) f]
theorem dw(A B:List Nat)(d:bd B)(f:bN A)(h:ak A≤ak B):A.length≤B.length:=by
 rcases f with rfl|m
 ·simp
 ·have t:=kW A m
  have z:=eh B d
  have l:4294967296^(A.length-1)<4294967296^B.length:=by omega
  have D:=(Nat.pow_lt_pow_iff_right (show 1<4294967296 by decide)).1 l
  omega
theorem rI(A B:List Nat)(d:bd A)(f:bd B)(l:bN A)(cB:bN B)(h:ak A=ak B):A=B:=
 pD A B d f (Nat.le_antisymm (dw A B f l (by omega)) (dw B A d cB (by omega))) h
theorem aK(A:List Nat)(d:bN A):ak A=0↔A= []:=by
 constructor
 ·intro h
  rcases d with rfl|f
  ·rfl
  ·have l:=kW A f
   have m:0<4294967296^(A.length-1):=Nat.pow_pos (by decide)
   omega
 ·rintro rfl;rfl
theorem oV(A:List Nat)(d:bd A)(f:bN A)(k:Nat):A.length≤k↔ak A<4294967296^k:=by
 constructor
 ·intro h
  exact Nat.lt_of_lt_of_le (eh A d) (Nat.pow_le_pow_right (by decide) h)
 ·intro h
  rcases f with rfl|c
  ·simp
  ·have m:=kW A c
   have l:4294967296^(A.length-1)<4294967296^k:=by omega
   have t:=(Nat.pow_lt_pow_iff_right (show 1<4294967296 by decide)).1 l
   omega
theorem jB(L:List Nat)(n:Nat)(h:L[n-1]?.getD 0=0):ak (L.take (n-1))=ak (L.take n):=by
 rcases Nat.eq_zero_or_pos n with rfl|f
 ·rfl
 ·have d:=aH L (n-1)
  rw[h,show n-1+1=n by omega]at d
  omega
theorem je:∀(A B:List Nat),(∀i:Nat,A[i]?.getD 0=B[i]?.getD 0)→ak A=ak B
 | [],[],_=>rfl
 | [],y::s,h=>by
  have d:=h 0
  have f:=je [] s (fun i=>by have:=h (i+1);simpa using this)
  simp at d;simp only[ak]at f⊢;omega
 |x::r,[],h=>by
  have d:=h 0
  have f:=je r [] (fun i=>by have:=h (i+1);simpa using this)
  simp at d;simp only[ak]at f⊢;omega
 |x::r,y::s,h=>by
  have d:=h 0
  have f:=je r s (fun i=>by have:=h (i+1);simpa using this)
  simp at d;simp only[ak];omega
theorem gS(L:List Nat)(k:Nat):ak L=ak (L.take k)+4294967296^k*ak (L.drop k):=by
 by_cases h:k≤L.length
 ·have d:=jK (L.take k) (L.drop k)
  rw[List.take_append_drop,List.length_take,Nat.min_eq_left h]at d
  exact d
 ·rw[List.take_of_length_le (by omega),List.drop_of_length_le (by omega)];simp[ak]
theorem jf(A B:List Nat)(f:bd A)(t:Nat)(d:∀i,t<i→A[i]?.getD 0=B[i]?.getD 0)(h:A[t]?.getD 0<B[t]?.getD 0):ak A<ak B:=by
 have l:=gS A (t+1)
 have z:=gS B (t+1)
 have D:=aH A t
 have F:=aH B t
 have G:=gH A f t
 have e:ak (A.drop (t+1))=ak (B.drop (t+1)):=je _ _ (fun i=>by
  have:=d (t+1+i) (by omega)
  simpa[List.getElem?_drop]using this)
 rw[e]at l
 have m:=Nat.mul_le_mul_left (4294967296^t) (show A[t]?.getD 0+1≤B[t]?.getD 0 by omega)
 rw[Nat.mul_add,Nat.mul_one]at m
 omega
theorem zA(S:List Nat)(k x:Nat):(S.set k x).take k=S.take k:=by
 rw[List.take_set]
 exact List.set_eq_of_length_le (by simp;omega)
theorem ii(S:List Nat)(k x:Nat)(h:k<S.length):ak ((S.set k x).take (k+1))=ak (S.take k)+4294967296^k*x:=by
 rw[aH,zA,List.getElem?_set_self h];rfl
theorem j7(P b t:Nat):P*(t%b)+P*b*(t/b)=P*t:=by
 rw[Nat.mul_assoc,←Nat.mul_add,Nat.mod_add_div]
theorem bd.set{S:List Nat}(h:bd S)(k x:Nat)(l:x<4294967296):bd (S.set k x):=fun y f=>by
 rcases List.mem_or_eq_of_mem_set f with d|d
 ·exact h y d
 ·omega
theorem bd.zeros(n:Nat):bd (List.replicate n 0):=fun y d=>by simp at d;omega
theorem zB(A B S:List Nat)(k c x y:Nat)(d:k<S.length)(f:A[k]?.getD 0=x)(l:B[k]?.getD 0=y)(h:ak (S.take k)+4294967296^k*c=ak (A.take k)+ak (B.take k)):
  ak ((S.set k ((c+(x+y))%4294967296)).take (k+1))+4294967296^(k+1)*((c+(x+y))/4294967296)=ak (A.take (k+1))+ak (B.take (k+1)):=by
 rw[ii S k _ d,aH A k,aH B k,f,l]
 have e:=j7 (4294967296^k) 4294967296 (c+(x+y))
 rw[Nat.pow_succ]
 rw[Nat.mul_add,Nat.mul_add]at e
 omega
theorem wo(A B S:List Nat)(n c:Nat)(f:bd A)(l:bd B)(m:A.length+1≤n)(t:B.length+1≤n)(z:S.length=n)(h:ak (S.take n)+4294967296^n*c=ak (A.take n)+ak (B.take n)):
  ak S=ak A+ak B:=by
 rw[du S n (by omega),du A n (by omega),du B n (by omega)]at h
 have D:ak A<4294967296^(n-1):=Nat.lt_of_lt_of_le (eh A f) (Nat.pow_le_pow_right (by decide) (by omega))
 have F:ak B<4294967296^(n-1):=Nat.lt_of_lt_of_le (eh B l) (Nat.pow_le_pow_right (by decide) (by omega))
 have G:4294967296^n=4294967296^(n-1)*4294967296:=by rw[←Nat.pow_succ];congr 1;omega
 rcases Nat.eq_zero_or_pos c with d|d
 ·subst d;omega
 ·have H:=Nat.mul_le_mul_left (4294967296^n) d
  omega
open Go.RowKit
def eP(x:Nat):Value:=.int .u32 (x:Int)
def bP(w:World)(g:Nat)(S:List Nat):Prop:=w.heap[g]? =some (.cells (S.map eP).toArray 124 (0,0))
theorem bP.cell{w:World}{g:Nat}{S:List Nat}(h:bP w g S)(j:Nat)(d:j<S.length):w.cell? ⟨g,j,none⟩=some (.int .u32 ((S[j]?.getD 0:Nat):Int)):=by
 rw[cell_of_row w g j _ _ _ h]
 simp[eP,d]
theorem bP.free{w:World}{g:Nat}{S:List Nat}(h:bP w g S)(j:Nat):w.frozen? ⟨g,j,none⟩=false:=frozen_of_row w g j _ _ h
theorem bP.set{w:World}{g:Nat}{S:List Nat}(h:bP w g S)(j x:Nat):bP (w.setCell ⟨g,j,none⟩ (.int .u32 (x:Int))) g (S.set j x):=by
 unfold bP
 rw[heap_setCell_same w g j _ _ _ h]
 simp[List.map_set,eP]
theorem bP.lt{w:World}{g:Nat}{S:List Nat}(h:bP w g S):g<w.heap.size:=(Array.getElem?_eq_some_iff.1 h).1
theorem bP.limbs{w:World}{g:Nat}{S:List Nat}(h:bP w g S)(f:bd S)(d:Nat)(l:S.length≤d):ag w (some ⟨g,0,none⟩) d S:=
 ⟨l,f,.inr ⟨g,0,rfl,h.lt,fun i m=>by rw[Nat.zero_add];exact h.cell i m⟩⟩
theorem bP.drewN{w:World}{g:Nat}{S:List Nat}(h:bP w g S)(n:Nat):bP (w.drewN n) g S:=h
theorem bP.made{w:World}{f g n:Nat}(h:w.ownsRow f 124 1 (.slice (some ⟨g,0,none⟩) n n) n (madeCells (Value.int .u32 0).cells (n*1)).toList):bP w g (List.replicate n 0):=by
 rcases h.2 with⟨l,_⟩|⟨G,t,m,l,_,z,_,_,A,d⟩
 ·simp at l
 ·simp only[Value.slice.injEq,Option.some.injEq,Addr.mk.injEq,and_true,true_and]at l
  obtain⟨rfl,rfl⟩:=l
  unfold bP
  rw[z]
  rw[List.take_of_length_le (by simp[A])]at d
  have:m=((List.replicate n 0).map eP).toArray:=by
   apply Array.toList_inj.1
   rw[d]
   refine List.ext_getElem (by simp[madeCells]) fun i D F=>?_
   simp[madeCells,Value.cells,eP,Nat.mod_one]
  rw[this]
def ar(neg:Bool)(L:List Nat):Bool:=decide (L.length≤512)&& !(decide (L.length=0)&&neg)&&(decide (L.length=0)|| !decide (L[L.length-1]?.getD 0=0))
def ei(neg:Bool)(L:List Nat):Int:=if ar neg L then 0 else 1
theorem dZ(neg:Bool)(t:Option Addr)(d:Nat)(L:List Nat)(w:World)(h:ag w t d L)(U:L.length≤35184372088830):
  Calls Tryz.prog 195 #[.agg #[.bool neg,.slice t L.length d]] w fun e w'=>e=.returned (.int .i64 (ei neg L))∧Below w.heap.size w w':=by
 rcases h.2.2 with f|⟨b,O,rfl,V,A⟩
 ·subst f
  cases neg
  all_goals
   go_enter Tryz.func195,Tryz.ntmps195
   go_wp2
   go_ret
   exact⟨aM (by simp[ei,ar]),(Below.refl _ _).alloc (Nat.le_refl _) _⟩
 ·by_cases f:L= []
  ·subst f
   cases neg
   all_goals
    go_enter Tryz.func195,Tryz.ntmps195
    go_wp2
    go_ret
    exact⟨aM (by simp[ei,ar]),(Below.refl _ _).alloc (Nat.le_refl _) _⟩
  ·have D:0<L.length:=List.length_pos_iff.2 f
   have F:=A (L.length-1) (by omega)
   have G:=h.2.1
   clear h f A
   have m:Hid (ei neg L=if L.length≤512∧(L[L.length-1]?.getD 0)≠0 then 0 else 1):=by
    have H:L≠ []:=by intro e;simp[e]at D
    unfold Hid;simp[ei,ar,H]
   generalize Q:L.length=n at*
   generalize L[n-1]?.getD 0=x at*
   generalize ei neg L=X at*
   clear Q G
   have K:((n:Int)==0)=false:=by simp;omega
   have M:(0:Int)<(n:Int):=by omega
   by_cases z:n≤512
   ·by_cases l:x=0
    ·subst l
     go_enter Tryz.func195,Tryz.ntmps195
     go_wp2
     go_ret
     exact⟨aM (by rw[m.out];simp),(Below.refl _ _).alloc (Nat.le_refl _) _⟩
    ·have N:((x:Int)==0)=false:=by simp;omega
     go_enter Tryz.func195,Tryz.ntmps195
     go_wp2
     go_ret
     exact⟨aM (by rw[m.out];simp[z,l]),(Below.refl _ _).alloc (Nat.le_refl _) _⟩
   ·go_enter Tryz.func195,Tryz.ntmps195
    go_wp2
    go_ret
    exact⟨aM (by rw[m.out];simp[z]),(Below.refl _ _).alloc (Nat.le_refl _) _⟩
theorem uu(m:Option Addr)(f:Nat)(L:List Nat)(i:Int)(k:Nat)(w:World)(h:ag w m f L)(G:L.length≤35184372088830)(z:i=(k:Int)):
  Calls Tryz.prog 217 #[.slice m L.length f,.int .i64 i] w fun e w'=>e=.returned (.int .u64 ((L[k]?.getD 0:Nat):Int))∧w=w':=by
 subst z
 by_cases d:k<L.length
 ·rcases h.2.2 with D|⟨b,F,rfl,H,t⟩
  ·subst D;simp at d
  ·have A:=t k d
   have l:L[k]?.getD 0<4294967296:=by rw[List.getElem?_eq_getElem d];exact h.2.1 _ (List.getElem_mem d)
   clear h t
   generalize L[k]?.getD 0=x at*
   generalize L.length=n at*
   go_enter Tryz.func217,Tryz.ntmps217
   go_wp2
   go_ret
   exact⟨rfl,rfl⟩
 ·have l:L[k]?.getD 0=0:=by rw[List.getElem?_eq_none (by omega)];rfl
  rw[l]
  clear h l
  generalize L.length=n at*
  go_enter Tryz.func217,Tryz.ntmps217
  go_wp2
  go_ret
  exact⟨rfl,rfl⟩
def bs(a b:Int):Int:=if a<b then-1 else if b<a then 1 else 0
theorem jL(a:Int)(w:World):Calls Tryz.prog 233 #[.int .i64 a] w fun e w'=>e=.returned (.bool false)∧w=w':=by
 go_enter Tryz.func233,Tryz.ntmps233
 go_wp2
 go_ret
 exact⟨rfl,rfl⟩
theorem jM(a:Int)(w:World):Calls Tryz.prog 234 #[.int .u32 a] w fun e w'=>e=.returned (.bool false)∧w=w':=by
 go_enter Tryz.func234,Tryz.ntmps234
 go_wp2
 go_ret
 exact⟨rfl,rfl⟩
theorem zC(a b:Int)(w:World):Calls Tryz.prog 231 #[.int .i64 a,.int .i64 b] w fun e w'=>e=.returned (.int .i64 (bs a b))∧w=w':=by
 have d:Hid (bs a b=if a<b then-1 else if b<a then 1 else 0):=rfl
 generalize bs a b=c at*
 rcases(show a<b∨b<a∨a=b by omega)with h|h|h
 ·go_enter Tryz.func231,Tryz.ntmps231
  go_wp2_with(go_at_call 233;refine(jL _ _).mono ?_;rintro e w' ⟨rfl,rfl⟩)
  go_ret
  exact⟨aM (by rw[d.out];simp[h]),rfl⟩
 ·have f:¬a<b:=by omega
  go_enter Tryz.func231,Tryz.ntmps231
  go_wp2_with(go_at_call 233;refine(jL _ _).mono ?_;rintro e w' ⟨rfl,rfl⟩)
  go_ret
  exact⟨aM (by rw[d.out];simp[h,f]),rfl⟩
 ·subst h
  go_enter Tryz.func231,Tryz.ntmps231
  go_wp2_with(go_at_call 233;refine(jL _ _).mono ?_;rintro e w' ⟨rfl,rfl⟩)
  go_ret
  exact⟨aM (by rw[d.out];simp),rfl⟩
theorem zD(a b:Int)(w:World):Calls Tryz.prog 232 #[.int .u32 a,.int .u32 b] w fun e w'=>e=.returned (.int .i64 (bs a b))∧w=w':=by
 have d:Hid (bs a b=if a<b then-1 else if b<a then 1 else 0):=rfl
 generalize bs a b=c at*
 rcases(show a<b∨b<a∨a=b by omega)with h|h|h
 ·go_enter Tryz.func232,Tryz.ntmps232
  go_wp2_with(go_at_call 234;refine(jM _ _).mono ?_;rintro e w' ⟨rfl,rfl⟩)
  go_ret
  exact⟨aM (by rw[d.out];simp[h]),rfl⟩
 ·have f:¬a<b:=by omega
  go_enter Tryz.func232,Tryz.ntmps232
  go_wp2_with(go_at_call 234;refine(jM _ _).mono ?_;rintro e w' ⟨rfl,rfl⟩)
  go_ret
  exact⟨aM (by rw[d.out];simp[h,f]),rfl⟩
 ·subst h
  go_enter Tryz.func232,Tryz.ntmps232
  go_wp2_with(go_at_call 234;refine(jM _ _).mono ?_;rintro e w' ⟨rfl,rfl⟩)
  go_ret
  exact⟨aM (by rw[d.out];simp),rfl⟩
end Go.Proofs.YtnnfjeieennffaaGreatDoor
