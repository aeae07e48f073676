/- Part 1 of the texts. -/
import Derived.WalkSpells
import Derived.WalkLawsBesides
import Derived.Deep.RegionHeld3
import Derived.Deep.DrawnRows
import Derived.BigQuiet
import Derived.Test.YtenpggicmfhhdaaGreatDoorProg
set_option maxHeartbeats 400000
namespace Go.Proofs.YtenpggicmfhhdaaGreatDoor
open Go.RowKit
def af(w:World)(ao:Option Addr)(cap:Nat)(L:List Nat):Prop:=
 L.length≤cap∧(∀x∈L,x<4294967296)∧(L= []∨∃b off,ao=some ⟨b,off,none⟩∧b<w.heap.size∧∀i,i<L.length→w.cell? ⟨b,off+i,none⟩=some (.int .u32 ((L[i]?.getD 0:Nat):Int)))
def bI(B:Nat)(ao:Option Addr)(L:List Nat):Prop:=L= []∨∃b off,ao=some ⟨b,off,none⟩∧B≤b
theorem af.below{w l:World}{m:Option Addr}{d:Nat}{L:List Nat}(h:af w m d L)(t:Below w.heap.size w l):af l m d L:=by
 refine⟨h.1,h.2.1,?_⟩
 rcases h.2.2 with h|⟨b,f,A,y,D⟩
 ·exact .inl h
 ·refine .inr ⟨b,f,A,Nat.lt_of_lt_of_le y t.size,fun i z=>?_⟩
  rw[t.cell (p:=⟨b,f+i,none⟩) y]
  exact D i z
theorem af.nil(w:World)(f:Option Addr)(d:Nat):af w f d []:=⟨Nat.zero_le _,by simp,.inl rfl⟩
theorem af.take{w:World}{m:Option Addr}{d:Nat}{L:List Nat}(h:af w m d L)(n:Nat):af w m d (L.take n):=by
 refine⟨Nat.le_trans (List.length_take_le' n L) h.1,fun x t=>h.2.1 x (List.mem_of_mem_take t),?_⟩
 rcases h.2.2 with z|⟨b,l,A,D,F⟩
 ·left;simp[z]
 ·refine .inr ⟨b,l,A,D,fun i y=>?_⟩
  have f:=y
  rw[List.length_take]at f
  rw[F i (by omega),List.getElem?_take,if_pos (by omega)]
theorem af.lt{w:World}{l:Option Addr}{d:Nat}{L:List Nat}(h:af w l d L)(i:Nat):L[i]?.getD 0<4294967296:=by
 by_cases f:i<L.length
 ·rw[List.getElem?_eq_getElem f];exact h.2.1 _ (List.getElem_mem f)
 ·rw[List.getElem?_eq_none (by omega)];decide
theorem aQ{k:IntKind}{a b:Int}(h:a=b):Ending.returned (.int k a)=.returned (.int k b):=by rw[h]
theorem im{a b:Bool}(h:a=b):Ending.returned (.bool a)=.returned (.bool b):=by rw[h]
theorem aa{p:Prop}(h:p):Hid p:=h
theorem uH{p:Prop}(h:Hid p):p:=h
theorem ap{P:Program}{c:Code}{Q:Exit→Act→World→Prop}{a:Act}{w:World}(F:World→Prop)(h:F w)(k:∀W,F W→Code.wp P c Q a W):Code.wp P c Q a w:=k w h
def aC(w:World)(b:Nat)(x y:Value):Prop:=w.heap[b]? =some (.cells #[x,y] 108 (0,0))
theorem aC.c0{w:World}{b:Nat}{x y:Value}(h:aC w b x y):w.cell? ⟨b,0,none⟩=some x:=by rw[cell_of_row w b 0 _ _ _ h];rfl
theorem aC.c1{w:World}{b:Nat}{x y:Value}(h:aC w b x y):w.cell? ⟨b,1,none⟩=some y:=by rw[cell_of_row w b 1 _ _ _ h];rfl
theorem aC.free{w:World}{b:Nat}{x y:Value}(h:aC w b x y)(j:Nat):w.frozen? ⟨b,j,none⟩=false:=frozen_of_row w b j _ _ h
theorem aC.lt{w:World}{b:Nat}{x y:Value}(h:aC w b x y):b<w.heap.size:=(Array.getElem?_eq_some_iff.1 h).1
theorem aC.below{w f:World}{b:Nat}{x y:Value}(h:aC w b x y){B:Nat}(l:Below B w f)(d:b<B):aC f b x y:=(l.block b d).trans h
theorem aC.new(w:World)(x y:Value):aC (w.alloc (.cells #[x,y] 108)) w.heap.size x y:=heap_alloc_new w _
theorem aC.old{w:World}{b:Nat}{x y:Value}(h:aC w b x y)(o:Obj):aC (w.alloc o) b x y:=by
 unfold aC;rw[Below.heap_alloc w o b h.lt];exact h
theorem aC.drew{w:World}{b:Nat}{x y:Value}(h:aC w b x y):aC w.drew b x y:=h
theorem aC.drewN{w:World}{b:Nat}{x y:Value}(h:aC w b x y)(n:Nat):aC (w.drewN n) b x y:=h
end Go.Proofs.YtenpggicmfhhdaaGreatDoor
namespace Go.Proofs.YtenpggicmfhhdaaGreatDoor
def ah:List Nat→Nat
 | []=>0
 |x::r=>x+4294967296*ah r
def bM(L:List Nat):Prop:=L= []∨L[L.length-1]?.getD 0≠0
def bd(L:List Nat):Prop:=∀x∈L,x<4294967296
theorem jo(A B:List Nat):ah (A++B)=ah A+4294967296^A.length*ah B:=by
 induction A with
 |nil=>simp[ah]
 |cons x r ih=>simp only[List.cons_append,ah,ih,List.length_cons,Nat.pow_succ];rw[Nat.mul_add,←Nat.mul_assoc,Nat.mul_comm 4294967296 (4294967296^r.length)];omega
theorem aJ(L:List Nat)(k:Nat):ah (L.take (k+1))=ah (L.take k)+4294967296^k*(L[k]?.getD 0):=by
 by_cases h:k<L.length
 ·rw[List.take_succ_eq_append_getElem h,jo,List.getElem?_eq_getElem h]
  simp[ah,Nat.min_eq_left (Nat.le_of_lt h)]
 ·rw[List.take_of_length_le (by omega),List.take_of_length_le (by omega),List.getElem?_eq_none (by omega)];simp
theorem cZ(L:List Nat)(k:Nat)(h:L.length≤k):ah (L.take k)=ah L:=by rw[List.take_of_length_le h]
theorem dL(L:List Nat)(h:bd L):ah L<4294967296^L.length:=by
 induction L with
 |nil=>simp[ah]
 |cons x r ih=>
  have f:=ih (fun y d=>h y (by simp[d]))
  have m:=h x (by simp)
  simp only[ah,List.length_cons,Nat.pow_succ]
  have l:ah r+1≤4294967296^r.length:=f
  have t:=Nat.mul_le_mul_right 4294967296 l
  omega
theorem bd.take{L:List Nat}(h:bd L)(n:Nat):bd (L.take n):=fun x d=>h x (List.mem_of_mem_take d)
theorem bd.tail{x:Nat}{r:List Nat}(h:bd (x::r)):bd r:=fun y d=>h y (by simp[d])
theorem gc(L:List Nat)(h:bd L)(k:Nat):ah (L.take k)<4294967296^k:=by
 have d:=dL _ (h.take k)
 refine Nat.lt_of_lt_of_le d (Nat.pow_le_pow_right (by decide) ?_)
 simp;omega
theorem kn(L:List Nat)(h:L[L.length-1]?.getD 0≠0):4294967296^(L.length-1)≤ah L:=by
 have f:0<L.length:=by
  rcases Nat.eq_zero_or_pos L.length with e|e
  ·have:L= []:=List.length_eq_zero_iff.1 e
   subst this;simp at h
  ·exact e
 have d:=aJ L (L.length-1)
 rw[show L.length-1+1=L.length by omega,List.take_length]at d
 rw[d]
 have l:=Nat.mul_le_mul_left (4294967296^(L.length-1)) (show 1≤L[L.length-1]?.getD 0 by omega)
 omega
theorem ot:∀(A B:List Nat),bd A→bd B→A.length=B.length→ah A=ah B→A=B
 | [],[],_,_,_,_=>rfl
 | [],_::_,_,_,h,_=>by simp at h
 |_::_,[],_,_,h,_=>by simp at h
 |x::r,y::s,hA,hB,hl,hv=>by
  have l:=hA x (by simp)
  have m:=hB y (by simp)
  simp only[ah]at hv
  have d:x=y:=by omega
  have f:ah r=ah s:=by omega
  rw[d,ot r s hA.tail hB.tail (by simpa using hl) f]
theorem c8(A B:List Nat)(d:bd B)(f:bM A)(h:ah A≤ah B):A.length≤B.length:=by
 rcases f with rfl|m
 ·simp
 ·have t:=kn A m
  have y:=dL B d
  have l:4294967296^(A.length-1)<4294967296^B.length:=by omega
  have z:=(Nat.pow_lt_pow_iff_right (show 1<4294967296 by decide)).1 l
  omega
theorem qh(A B:List Nat)(d:bd A)(f:bd B)(l:bM A)(cB:bM B)(h:ah A=ah B):A=B:=
 ot A B d f (Nat.le_antisymm (c8 A B f l (by omega)) (c8 B A d cB (by omega))) h
theorem aM(A:List Nat)(d:bM A):ah A=0↔A= []:=by
 constructor
 ·intro h
  rcases d with rfl|f
  ·rfl
  ·have l:=kn A f
   have m:0<4294967296^(A.length-1):=Nat.pow_pos (by decide)
   omega
 ·rintro rfl;rfl
theorem nH(A:List Nat)(d:bd A)(f:bM A)(k:Nat):A.length≤k↔ah A<4294967296^k:=by
 constructor
 ·intro h
  exact Nat.lt_of_lt_of_le (dL A d) (Nat.pow_le_pow_right (by decide) h)
 ·intro h
  rcases f with rfl|c
  ·simp
  ·have m:=kn A c
   have l:4294967296^(A.length-1)<4294967296^k:=by omega
   have t:=(Nat.pow_lt_pow_iff_right (show 1<4294967296 by decide)).1 l
   omega
theorem jh(L:List Nat)(n:Nat)(h:L[n-1]?.getD 0=0):ah (L.take (n-1))=ah (L.take n):=by
 rcases Nat.eq_zero_or_pos n with rfl|f
 ·rfl
 ·have d:=aJ L (n-1)
  rw[h,show n-1+1=n by omega]at d
  omega
theorem iR:∀(A B:List Nat),(∀i:Nat,A[i]?.getD 0=B[i]?.getD 0)→ah A=ah B
 | [],[],_=>rfl
 | [],y::s,h=>by
  have d:=h 0
  have f:=iR [] s (fun i=>by have:=h (i+1);simpa using this)
  simp at d;simp only[ah]at f⊢;omega
 |x::r,[],h=>by
  have d:=h 0
  have f:=iR r [] (fun i=>by have:=h (i+1);simpa using this)
  simp at d;simp only[ah]at f⊢;omega
 |x::r,y::s,h=>by
  have d:=h 0
  have f:=iR r s (fun i=>by have:=h (i+1);simpa using this)
  simp at d;simp only[ah];omega
theorem gz(L:List Nat)(k:Nat):ah L=ah (L.take k)+4294967296^k*ah (L.drop k):=by
 by_cases h:k≤L.length
 ·have d:=jo (L.take k) (L.drop k)
  rw[List.take_append_drop,List.length_take,Nat.min_eq_left h]at d
  exact d
 ·rw[List.take_of_length_le (by omega),List.drop_of_length_le (by omega)];simp[ah]
theorem iS(A B:List Nat)(f:bd A)(t:Nat)(d:∀i,t<i→A[i]?.getD 0=B[i]?.getD 0)(h:A[t]?.getD 0<B[t]?.getD 0):ah A<ah B:=by
 have l:=gz A (t+1)
 have y:=gz B (t+1)
 have z:=aJ A t
 have D:=aJ B t
 have F:=gc A f t
 have e:ah (A.drop (t+1))=ah (B.drop (t+1)):=iR _ _ (fun i=>by
  have:=d (t+1+i) (by omega)
  simpa[List.getElem?_drop]using this)
 rw[e]at l
 have m:=Nat.mul_le_mul_left (4294967296^t) (show A[t]?.getD 0+1≤B[t]?.getD 0 by omega)
 rw[Nat.mul_add,Nat.mul_one]at m
 omega
theorem xr(S:List Nat)(k x:Nat):(S.set k x).take k=S.take k:=by
 rw[List.take_set]
 exact List.set_eq_of_length_le (by simp;omega)
theorem gU(S:List Nat)(k x:Nat)(h:k<S.length):ah ((S.set k x).take (k+1))=ah (S.take k)+4294967296^k*x:=by
 rw[aJ,xr,List.getElem?_set_self h];rfl
theorem jG(P b t:Nat):P*(t%b)+P*b*(t/b)=P*t:=by
 rw[Nat.mul_assoc,←Nat.mul_add,Nat.mod_add_div]
theorem bd.set{S:List Nat}(h:bd S)(k x:Nat)(l:x<4294967296):bd (S.set k x):=fun y f=>by
 rcases List.mem_or_eq_of_mem_set f with d|d
 ·exact h y d
 ·omega
theorem bd.zeros(n:Nat):bd (List.replicate n 0):=fun y d=>by simp at d;omega
theorem xt(A B S:List Nat)(k c x y:Nat)(d:k<S.length)(f:A[k]?.getD 0=x)(l:B[k]?.getD 0=y)(h:ah (S.take k)+4294967296^k*c=ah (A.take k)+ah (B.take k)):
  ah ((S.set k ((c+(x+y))%4294967296)).take (k+1))+4294967296^(k+1)*((c+(x+y))/4294967296)=ah (A.take (k+1))+ah (B.take (k+1)):=by
 rw[gU S k _ d,aJ A k,aJ B k,f,l]
 have e:=jG (4294967296^k) 4294967296 (c+(x+y))
 rw[Nat.pow_succ]
 rw[Nat.mul_add,Nat.mul_add]at e
 omega
theorem us(A B S:List Nat)(n c:Nat)(f:bd A)(l:bd B)(m:A.length+1≤n)(t:B.length+1≤n)(y:S.length=n)(h:ah (S.take n)+4294967296^n*c=ah (A.take n)+ah (B.take n)):
  ah S=ah A+ah B:=by
 rw[cZ S n (by omega),cZ A n (by omega),cZ B n (by omega)]at h
 have z:ah A<4294967296^(n-1):=Nat.lt_of_lt_of_le (dL A f) (Nat.pow_le_pow_right (by decide) (by omega))
 have D:ah B<4294967296^(n-1):=Nat.lt_of_lt_of_le (dL B l) (Nat.pow_le_pow_right (by decide) (by omega))
 have F:4294967296^n=4294967296^(n-1)*4294967296:=by rw[←Nat.pow_succ];congr 1;omega
 rcases Nat.eq_zero_or_pos c with d|d
 ·subst d;omega
 ·have G:=Nat.mul_le_mul_left (4294967296^n) d
  omega
open Go.RowKit
def eh(x:Nat):Value:=.int .u32 (x:Int)
def bO(w:World)(g:Nat)(S:List Nat):Prop:=w.heap[g]? =some (.cells (S.map eh).toArray 139 (0,0))
theorem bO.cell{w:World}{g:Nat}{S:List Nat}(h:bO w g S)(j:Nat)(d:j<S.length):w.cell? ⟨g,j,none⟩=some (.int .u32 ((S[j]?.getD 0:Nat):Int)):=by
 rw[cell_of_row w g j _ _ _ h]
 simp[eh,d]
theorem bO.free{w:World}{g:Nat}{S:List Nat}(h:bO w g S)(j:Nat):w.frozen? ⟨g,j,none⟩=false:=frozen_of_row w g j _ _ h
theorem bO.set{w:World}{g:Nat}{S:List Nat}(h:bO w g S)(j x:Nat):bO (w.setCell ⟨g,j,none⟩ (.int .u32 (x:Int))) g (S.set j x):=by
 unfold bO
 rw[heap_setCell_same w g j _ _ _ h]
 simp[List.map_set,eh]
theorem bO.lt{w:World}{g:Nat}{S:List Nat}(h:bO w g S):g<w.heap.size:=(Array.getElem?_eq_some_iff.1 h).1
theorem bO.limbs{w:World}{g:Nat}{S:List Nat}(h:bO w g S)(f:bd S)(d:Nat)(l:S.length≤d):af w (some ⟨g,0,none⟩) d S:=
 ⟨l,f,.inr ⟨g,0,rfl,h.lt,fun i m=>by rw[Nat.zero_add];exact h.cell i m⟩⟩
theorem bO.drewN{w:World}{g:Nat}{S:List Nat}(h:bO w g S)(n:Nat):bO (w.drewN n) g S:=h
theorem bO.made{w:World}{f g n:Nat}(h:w.ownsRow f 139 1 (.slice (some ⟨g,0,none⟩) n n) n (madeCells (Value.int .u32 0).cells (n*1)).toList):bO w g (List.replicate n 0):=by
 rcases h.2 with⟨l,_⟩|⟨F,t,m,l,_,y,_,_,z,d⟩
 ·simp at l
 ·simp only[Value.slice.injEq,Option.some.injEq,Addr.mk.injEq,and_true,true_and]at l
  obtain⟨rfl,rfl⟩:=l
  unfold bO
  rw[y]
  rw[List.take_of_length_le (by simp[z])]at d
  have:m=((List.replicate n 0).map eh).toArray:=by
   apply Array.toList_inj.1
   rw[d]
   refine List.ext_getElem (by simp[madeCells]) fun i A D=>?_
   simp[madeCells,Value.cells,eh,Nat.mod_one]
  rw[this]
def aw(neg:Bool)(L:List Nat):Bool:=decide (L.length≤512)&& !(decide (L.length=0)&&neg)&&(decide (L.length=0)|| !decide (L[L.length-1]?.getD 0=0))
def dO(neg:Bool)(L:List Nat):Int:=if aw neg L then 0 else 1
theorem dD(neg:Bool)(t:Option Addr)(d:Nat)(L:List Nat)(w:World)(h:af w t d L)(Q:L.length≤35184372088830):
  Calls Tryz.prog 164 #[.agg #[.bool neg,.slice t L.length d]] w fun e A=>e=.returned (.int .i64 (dO neg L))∧Below w.heap.size w A:=by
 rcases h.2.2 with f|⟨b,N,rfl,T,z⟩
 ·subst f
  cases neg
  all_goals
   go_enter Tryz.func164,Tryz.ntmps164
   go_wp2
   go_ret
   exact⟨aQ (by simp[dO,aw]),(Below.refl _ _).alloc (Nat.le_refl _) _⟩
 ·by_cases f:L= []
  ·subst f
   cases neg
   all_goals
    go_enter Tryz.func164,Tryz.ntmps164
    go_wp2
    go_ret
    exact⟨aQ (by simp[dO,aw]),(Below.refl _ _).alloc (Nat.le_refl _) _⟩
  ·have D:0<L.length:=List.length_pos_iff.2 f
   have F:=z (L.length-1) (by omega)
   have G:=h.2.1
   clear h f z
   have m:Hid (dO neg L=if L.length≤512∧(L[L.length-1]?.getD 0)≠0 then 0 else 1):=by
    have H:L≠ []:=by intro e;simp[e]at D
    unfold Hid;simp[dO,aw,H]
   generalize O:L.length=n at*
   generalize L[n-1]?.getD 0=x at*
   generalize dO neg L=U at*
   clear O G
   have I:((n:Int)==0)=false:=by simp;omega
   have K:(0:Int)<(n:Int):=by omega
   by_cases y:n≤512
   ·by_cases l:x=0
    ·subst l
     go_enter Tryz.func164,Tryz.ntmps164
     go_wp2
     go_ret
     exact⟨aQ (by rw[m.out];simp),(Below.refl _ _).alloc (Nat.le_refl _) _⟩
    ·have M:((x:Int)==0)=false:=by simp;omega
     go_enter Tryz.func164,Tryz.ntmps164
     go_wp2
     go_ret
     exact⟨aQ (by rw[m.out];simp[y,l]),(Below.refl _ _).alloc (Nat.le_refl _) _⟩
   ·go_enter Tryz.func164,Tryz.ntmps164
    go_wp2
    go_ret
    exact⟨aQ (by rw[m.out];simp[y]),(Below.refl _ _).alloc (Nat.le_refl _) _⟩
theorem sj(m:Option Addr)(f:Nat)(L:List Nat)(i:Int)(k:Nat)(w:World)(h:af w m f L)(G:L.length≤35184372088830)(y:i=(k:Int)):
  Calls Tryz.prog 194 #[.slice m L.length f,.int .i64 i] w fun e z=>e=.returned (.int .u64 ((L[k]?.getD 0:Nat):Int))∧w=z:=by
 subst y
 by_cases d:k<L.length
 ·rcases h.2.2 with D|⟨b,F,rfl,H,t⟩
  ·subst D;simp at d
  ·have A:=t k d
   have l:L[k]?.getD 0<4294967296:=by rw[List.getElem?_eq_getElem d];exact h.2.1 _ (List.getElem_mem d)
   clear h t
   generalize L[k]?.getD 0=x at*
   generalize L.length=n at*
   go_enter Tryz.func194,Tryz.ntmps194
   go_wp2
   go_ret
   exact⟨rfl,rfl⟩
 ·have l:L[k]?.getD 0=0:=by rw[List.getElem?_eq_none (by omega)];rfl
  rw[l]
  clear h l
  generalize L.length=n at*
  go_enter Tryz.func194,Tryz.ntmps194
  go_wp2
  go_ret
  exact⟨rfl,rfl⟩
def bG(a b:Int):Int:=if a<b then-1 else if b<a then 1 else 0
theorem jp(a:Int)(w:World):Calls Tryz.prog 214 #[.int .i64 a] w fun e d=>e=.returned (.bool false)∧w=d:=by
 go_enter Tryz.func214,Tryz.ntmps214
 go_wp2
 go_ret
 exact⟨rfl,rfl⟩
theorem jq(a:Int)(w:World):Calls Tryz.prog 215 #[.int .u32 a] w fun e d=>e=.returned (.bool false)∧w=d:=by
 go_enter Tryz.func215,Tryz.ntmps215
 go_wp2
 go_ret
 exact⟨rfl,rfl⟩
theorem xw(a b:Int)(w:World):Calls Tryz.prog 212 #[.int .i64 a,.int .i64 b] w fun e d=>e=.returned (.int .i64 (bG a b))∧w=d:=by
 have f:Hid (bG a b=if a<b then-1 else if b<a then 1 else 0):=rfl
 generalize bG a b=c at*
 rcases(show a<b∨b<a∨a=b by omega)with h|h|h
 ·go_enter Tryz.func212,Tryz.ntmps212
  go_wp2_with(go_at_call 214;refine(jp _ _).mono ?_;rintro e d ⟨rfl,rfl⟩)
  go_ret
  exact⟨aQ (by rw[f.out];simp[h]),rfl⟩
 ·have l:¬a<b:=by omega
  go_enter Tryz.func212,Tryz.ntmps212
  go_wp2_with(go_at_call 214;refine(jp _ _).mono ?_;rintro e d ⟨rfl,rfl⟩)
  go_ret
  exact⟨aQ (by rw[f.out];simp[h,l]),rfl⟩
 ·subst h
  go_enter Tryz.func212,Tryz.ntmps212
  go_wp2_with(go_at_call 214;refine(jp _ _).mono ?_;rintro e d ⟨rfl,rfl⟩)
  go_ret
  exact⟨aQ (by rw[f.out];simp),rfl⟩
theorem xx(a b:Int)(w:World):Calls Tryz.prog 213 #[.int .u32 a,.int .u32 b] w fun e d=>e=.returned (.int .i64 (bG a b))∧w=d:=by
 have f:Hid (bG a b=if a<b then-1 else if b<a then 1 else 0):=rfl
 generalize bG a b=c at*
 rcases(show a<b∨b<a∨a=b by omega)with h|h|h
 ·go_enter Tryz.func213,Tryz.ntmps213
  go_wp2_with(go_at_call 215;refine(jq _ _).mono ?_;rintro e d ⟨rfl,rfl⟩)
  go_ret
  exact⟨aQ (by rw[f.out];simp[h]),rfl⟩
 ·have l:¬a<b:=by omega
  go_enter Tryz.func213,Tryz.ntmps213
  go_wp2_with(go_at_call 215;refine(jq _ _).mono ?_;rintro e d ⟨rfl,rfl⟩)
  go_ret
  exact⟨aQ (by rw[f.out];simp[h,l]),rfl⟩
 ·subst h
  go_enter Tryz.func213,Tryz.ntmps213
  go_wp2_with(go_at_call 215;refine(jq _ _).mono ?_;rintro e d ⟨rfl,rfl⟩)
  go_ret
  exact⟨aQ (by rw[f.out];simp),rfl⟩
end Go.Proofs.YtenpggicmfhhdaaGreatDoor
