/- Part 1 of the texts. -/
import Derived.WalkSpells
import Derived.WalkLawsBesides
import Derived.Deep.RegionHeld3
import Derived.Deep.DrawnRows
import Derived.BigQuiet
import Derived.Test.YtdhmglmccafbnaaGreatDoorProg
set_option maxHeartbeats 400000
namespace Go.Proofs.YtdhmglmccafbnaaGreatDoor
open Go.RowKit
def ag(w:World)(ao:Option Addr)(cap:Nat)(L:List Nat):Prop:=
 L.length≤cap∧(∀x∈L,x<4294967296)∧(L= []∨∃b off,ao=some ⟨b,off,none⟩∧b<w.heap.size∧∀i,i<L.length→w.cell? ⟨b,off+i,none⟩=some (.int .u32 ((L[i]?.getD 0:Nat):Int)))
def bs(B:Nat)(ao:Option Addr)(L:List Nat):Prop:=L= []∨∃b off,ao=some ⟨b,off,none⟩∧B≤b
theorem ag.below{w w':World}{l:Option Addr}{d:Nat}{L:List Nat}(h:ag w l d L)(u:Below w.heap.size w w'):ag w' l d L:=by
 refine⟨h.1,h.2.1,?_⟩
 rcases h.2.2 with h|⟨b,f,F,z,G⟩
 ·exact .inl h
 ·refine .inr ⟨b,f,F,Nat.lt_of_lt_of_le z u.size,fun i D=>?_⟩
  rw[u.cell (p:=⟨b,f+i,none⟩) z]
  exact G i D
theorem ag.nil(w:World)(f:Option Addr)(d:Nat):ag w f d []:=⟨Nat.zero_le _,by simp,.inl rfl⟩
theorem ag.take{w:World}{u:Option Addr}{d:Nat}{L:List Nat}(h:ag w u d L)(n:Nat):ag w u d (L.take n):=by
 refine⟨Nat.le_trans (List.length_take_le' n L) h.1,fun x z=>h.2.1 x (List.mem_of_mem_take z),?_⟩
 rcases h.2.2 with F|⟨b,l,G,H,J⟩
 ·left;simp[F]
 ·refine .inr ⟨b,l,G,H,fun i D=>?_⟩
  have f:=D
  rw[List.length_take]at f
  rw[J i (by omega),List.getElem?_take,if_pos (by omega)]
theorem ag.lt{w:World}{l:Option Addr}{d:Nat}{L:List Nat}(h:ag w l d L)(i:Nat):L[i]?.getD 0<4294967296:=by
 by_cases f:i<L.length
 ·rw[List.getElem?_eq_getElem f];exact h.2.1 _ (List.getElem_mem f)
 ·rw[List.getElem?_eq_none (by omega)];decide
theorem aH{k:IntKind}{a b:Int}(h:a=b):Ending.returned (.int k a)=.returned (.int k b):=by rw[h]
theorem iE{a b:Bool}(h:a=b):Ending.returned (.bool a)=.returned (.bool b):=by rw[h]
theorem aa{p:Prop}(h:p):Hid p:=h
theorem uH{p:Prop}(h:Hid p):p:=h
theorem aj{P:Program}{c:Code}{Q:Exit→Act→World→Prop}{a:Act}{w:World}(F:World→Prop)(h:F w)(k:∀W,F W→Code.wp P c Q a W):Code.wp P c Q a w:=k w h
def az(w:World)(b:Nat)(x y:Value):Prop:=w.heap[b]? =some (.cells #[x,y] 39 (0,0))
theorem az.c0{w:World}{b:Nat}{x y:Value}(h:az w b x y):w.cell? ⟨b,0,none⟩=some x:=by rw[cell_of_row w b 0 _ _ _ h];rfl
theorem az.c1{w:World}{b:Nat}{x y:Value}(h:az w b x y):w.cell? ⟨b,1,none⟩=some y:=by rw[cell_of_row w b 1 _ _ _ h];rfl
theorem az.free{w:World}{b:Nat}{x y:Value}(h:az w b x y)(j:Nat):w.frozen? ⟨b,j,none⟩=false:=frozen_of_row w b j _ _ h
theorem az.lt{w:World}{b:Nat}{x y:Value}(h:az w b x y):b<w.heap.size:=(Array.getElem?_eq_some_iff.1 h).1
theorem az.below{w w':World}{b:Nat}{x y:Value}(h:az w b x y){B:Nat}(f:Below B w w')(d:b<B):az w' b x y:=(f.block b d).trans h
theorem az.new(w:World)(x y:Value):az (w.alloc (.cells #[x,y] 39)) w.heap.size x y:=heap_alloc_new w _
theorem az.old{w:World}{b:Nat}{x y:Value}(h:az w b x y)(o:Obj):az (w.alloc o) b x y:=by
 unfold az;rw[Below.heap_alloc w o b h.lt];exact h
theorem az.drew{w:World}{b:Nat}{x y:Value}(h:az w b x y):az w.drew b x y:=h
theorem az.drewN{w:World}{b:Nat}{x y:Value}(h:az w b x y)(n:Nat):az (w.drewN n) b x y:=h
end Go.Proofs.YtdhmglmccafbnaaGreatDoor
namespace Go.Proofs.YtdhmglmccafbnaaGreatDoor
def ai:List Nat→Nat
 | []=>0
 |x::r=>x+4294967296*ai r
def bG(L:List Nat):Prop:=L= []∨L[L.length-1]?.getD 0≠0
def aX(L:List Nat):Prop:=∀x∈L,x<4294967296
theorem jw(A B:List Nat):ai (A++B)=ai A+4294967296^A.length*ai B:=by
 induction A with
 |nil=>simp[ai]
 |cons x r ih=>simp only[List.cons_append,ai,ih,List.length_cons,Nat.pow_succ];rw[Nat.mul_add,←Nat.mul_assoc,Nat.mul_comm 4294967296 (4294967296^r.length)];omega
theorem aD(L:List Nat)(k:Nat):ai (L.take (k+1))=ai (L.take k)+4294967296^k*(L[k]?.getD 0):=by
 by_cases h:k<L.length
 ·rw[List.take_succ_eq_append_getElem h,jw,List.getElem?_eq_getElem h]
  simp[ai,Nat.min_eq_left (Nat.le_of_lt h)]
 ·rw[List.take_of_length_le (by omega),List.take_of_length_le (by omega),List.getElem?_eq_none (by omega)];simp
theorem di(L:List Nat)(k:Nat)(h:L.length≤k):ai (L.take k)=ai L:=by rw[List.take_of_length_le h]
theorem dZ(L:List Nat)(h:aX L):ai L<4294967296^L.length:=by
 induction L with
 |nil=>simp[ai]
 |cons x r ih=>
  have f:=ih (fun y d=>h y (by simp[d]))
  have u:=h x (by simp)
  simp only[ai,List.length_cons,Nat.pow_succ]
  have l:ai r+1≤4294967296^r.length:=f
  have z:=Nat.mul_le_mul_right 4294967296 l
  omega
theorem aX.take{L:List Nat}(h:aX L)(n:Nat):aX (L.take n):=fun x d=>h x (List.mem_of_mem_take d)
theorem aX.tail{x:Nat}{r:List Nat}(h:aX (x::r)):aX r:=fun y d=>h y (by simp[d])
theorem gf(L:List Nat)(h:aX L)(k:Nat):ai (L.take k)<4294967296^k:=by
 have d:=dZ _ (h.take k)
 refine Nat.lt_of_lt_of_le d (Nat.pow_le_pow_right (by decide) ?_)
 simp;omega
theorem kL(L:List Nat)(h:L[L.length-1]?.getD 0≠0):4294967296^(L.length-1)≤ai L:=by
 have f:0<L.length:=by
  rcases Nat.eq_zero_or_pos L.length with e|e
  ·have:L= []:=List.length_eq_zero_iff.1 e
   subst this;simp at h
  ·exact e
 have d:=aD L (L.length-1)
 rw[show L.length-1+1=L.length by omega,List.take_length]at d
 rw[d]
 have l:=Nat.mul_le_mul_left (4294967296^(L.length-1)) (show 1≤L[L.length-1]?.getD 0 by omega)
 omega
theorem pn:∀(A B:List Nat),aX A→aX B→A.length=B.length→ai A=ai B→A=B
 | [],[],_,_,_,_=>rfl
 | [],_::_,_,_,h,_=>by simp at h
 |_::_,[],_,_,h,_=>by simp at h
 |x::r,y::s,hA,hB,hl,hv=>by
  have l:=hA x (by simp)
  have u:=hB y (by simp)
  simp only[ai]at hv
  have d:x=y:=by omega
  have f:ai r=ai s:=by omega
  rw[d,pn r s hA.tail hB.tail (by simpa using hl) f]
theorem dj(A B:List Nat)(d:aX B)(f:bG A)(h:ai A≤ai B):A.length≤B.length:=by
 rcases f with rfl|u
 ·simp
 ·have z:=kL A u
  have D:=dZ B d
  have l:4294967296^(A.length-1)<4294967296^B.length:=by omega
  have F:=(Nat.pow_lt_pow_iff_right (show 1<4294967296 by decide)).1 l
  omega
theorem rz(A B:List Nat)(d:aX A)(f:aX B)(l:bG A)(cB:bG B)(h:ai A=ai B):A=B:=
 pn A B d f (Nat.le_antisymm (dj A B f l (by omega)) (dj B A d cB (by omega))) h
theorem aG(A:List Nat)(d:bG A):ai A=0↔A= []:=by
 constructor
 ·intro h
  rcases d with rfl|f
  ·rfl
  ·have l:=kL A f
   have u:0<4294967296^(A.length-1):=Nat.pow_pos (by decide)
   omega
 ·rintro rfl;rfl
theorem oQ(A:List Nat)(d:aX A)(f:bG A)(k:Nat):A.length≤k↔ai A<4294967296^k:=by
 constructor
 ·intro h
  exact Nat.lt_of_lt_of_le (dZ A d) (Nat.pow_le_pow_right (by decide) h)
 ·intro h
  rcases f with rfl|c
  ·simp
  ·have u:=kL A c
   have l:4294967296^(A.length-1)<4294967296^k:=by omega
   have z:=(Nat.pow_lt_pow_iff_right (show 1<4294967296 by decide)).1 l
   omega
theorem jo(L:List Nat)(n:Nat)(h:L[n-1]?.getD 0=0):ai (L.take (n-1))=ai (L.take n):=by
 rcases Nat.eq_zero_or_pos n with rfl|f
 ·rfl
 ·have d:=aD L (n-1)
  rw[h,show n-1+1=n by omega]at d
  omega
theorem i8:∀(A B:List Nat),(∀i:Nat,A[i]?.getD 0=B[i]?.getD 0)→ai A=ai B
 | [],[],_=>rfl
 | [],y::s,h=>by
  have d:=h 0
  have f:=i8 [] s (fun i=>by have:=h (i+1);simpa using this)
  simp at d;simp only[ai]at f⊢;omega
 |x::r,[],h=>by
  have d:=h 0
  have f:=i8 r [] (fun i=>by have:=h (i+1);simpa using this)
  simp at d;simp only[ai]at f⊢;omega
 |x::r,y::s,h=>by
  have d:=h 0
  have f:=i8 r s (fun i=>by have:=h (i+1);simpa using this)
  simp at d;simp only[ai];omega
theorem gF(L:List Nat)(k:Nat):ai L=ai (L.take k)+4294967296^k*ai (L.drop k):=by
 by_cases h:k≤L.length
 ·have d:=jw (L.take k) (L.drop k)
  rw[List.take_append_drop,List.length_take,Nat.min_eq_left h]at d
  exact d
 ·rw[List.take_of_length_le (by omega),List.drop_of_length_le (by omega)];simp[ai]
theorem i9(A B:List Nat)(f:aX A)(t:Nat)(d:∀i,t<i→A[i]?.getD 0=B[i]?.getD 0)(h:A[t]?.getD 0<B[t]?.getD 0):ai A<ai B:=by
 have l:=gF A (t+1)
 have u:=gF B (t+1)
 have z:=aD A t
 have D:=aD B t
 have F:=gf A f t
 have e:ai (A.drop (t+1))=ai (B.drop (t+1)):=i8 _ _ (fun i=>by
  have:=d (t+1+i) (by omega)
  simpa[List.getElem?_drop]using this)
 rw[e]at l
 have m:=Nat.mul_le_mul_left (4294967296^t) (show A[t]?.getD 0+1≤B[t]?.getD 0 by omega)
 rw[Nat.mul_add,Nat.mul_one]at m
 omega
theorem yD(S:List Nat)(k x:Nat):(S.set k x).take k=S.take k:=by
 rw[List.take_set]
 exact List.set_eq_of_length_le (by simp;omega)
theorem g6(S:List Nat)(k x:Nat)(h:k<S.length):ai ((S.set k x).take (k+1))=ai (S.take k)+4294967296^k*x:=by
 rw[aD,yD,List.getElem?_set_self h];rfl
theorem jT(P b t:Nat):P*(t%b)+P*b*(t/b)=P*t:=by
 rw[Nat.mul_assoc,←Nat.mul_add,Nat.mod_add_div]
theorem aX.set{S:List Nat}(h:aX S)(k x:Nat)(l:x<4294967296):aX (S.set k x):=fun y f=>by
 rcases List.mem_or_eq_of_mem_set f with d|d
 ·exact h y d
 ·omega
theorem aX.zeros(n:Nat):aX (List.replicate n 0):=fun y d=>by simp at d;omega
theorem yF(A B S:List Nat)(k c x y:Nat)(d:k<S.length)(f:A[k]?.getD 0=x)(l:B[k]?.getD 0=y)(h:ai (S.take k)+4294967296^k*c=ai (A.take k)+ai (B.take k)):
  ai ((S.set k ((c+(x+y))%4294967296)).take (k+1))+4294967296^(k+1)*((c+(x+y))/4294967296)=ai (A.take (k+1))+ai (B.take (k+1)):=by
 rw[g6 S k _ d,aD A k,aD B k,f,l]
 have e:=jT (4294967296^k) 4294967296 (c+(x+y))
 rw[Nat.pow_succ]
 rw[Nat.mul_add,Nat.mul_add]at e
 omega
theorem vv(A B S:List Nat)(n c:Nat)(f:aX A)(l:aX B)(u:A.length+1≤n)(z:B.length+1≤n)(D:S.length=n)(h:ai (S.take n)+4294967296^n*c=ai (A.take n)+ai (B.take n)):
  ai S=ai A+ai B:=by
 rw[di S n (by omega),di A n (by omega),di B n (by omega)]at h
 have F:ai A<4294967296^(n-1):=Nat.lt_of_lt_of_le (dZ A f) (Nat.pow_le_pow_right (by decide) (by omega))
 have G:ai B<4294967296^(n-1):=Nat.lt_of_lt_of_le (dZ B l) (Nat.pow_le_pow_right (by decide) (by omega))
 have H:4294967296^n=4294967296^(n-1)*4294967296:=by rw[←Nat.pow_succ];congr 1;omega
 rcases Nat.eq_zero_or_pos c with d|d
 ·subst d;omega
 ·have J:=Nat.mul_le_mul_left (4294967296^n) d
  omega
open Go.RowKit
def ew(x:Nat):Value:=.int .u32 (x:Int)
def bL(w:World)(g:Nat)(S:List Nat):Prop:=w.heap[g]? =some (.cells (S.map ew).toArray 122 (0,0))
theorem bL.cell{w:World}{g:Nat}{S:List Nat}(h:bL w g S)(j:Nat)(d:j<S.length):w.cell? ⟨g,j,none⟩=some (.int .u32 ((S[j]?.getD 0:Nat):Int)):=by
 rw[cell_of_row w g j _ _ _ h]
 simp[ew,d]
theorem bL.free{w:World}{g:Nat}{S:List Nat}(h:bL w g S)(j:Nat):w.frozen? ⟨g,j,none⟩=false:=frozen_of_row w g j _ _ h
theorem bL.set{w:World}{g:Nat}{S:List Nat}(h:bL w g S)(j x:Nat):bL (w.setCell ⟨g,j,none⟩ (.int .u32 (x:Int))) g (S.set j x):=by
 unfold bL
 rw[heap_setCell_same w g j _ _ _ h]
 simp[List.map_set,ew]
theorem bL.lt{w:World}{g:Nat}{S:List Nat}(h:bL w g S):g<w.heap.size:=(Array.getElem?_eq_some_iff.1 h).1
theorem bL.limbs{w:World}{g:Nat}{S:List Nat}(h:bL w g S)(f:aX S)(d:Nat)(l:S.length≤d):ag w (some ⟨g,0,none⟩) d S:=
 ⟨l,f,.inr ⟨g,0,rfl,h.lt,fun i u=>by rw[Nat.zero_add];exact h.cell i u⟩⟩
theorem bL.drewN{w:World}{g:Nat}{S:List Nat}(h:bL w g S)(n:Nat):bL (w.drewN n) g S:=h
theorem bL.made{w:World}{f g n:Nat}(h:w.ownsRow f 122 1 (.slice (some ⟨g,0,none⟩) n n) n (madeCells (Value.int .u32 0).cells (n*1)).toList):bL w g (List.replicate n 0):=by
 rcases h.2 with⟨l,_⟩|⟨J,z,u,l,_,D,_,_,F,d⟩
 ·simp at l
 ·simp only[Value.slice.injEq,Option.some.injEq,Addr.mk.injEq,and_true,true_and]at l
  obtain⟨rfl,rfl⟩:=l
  unfold bL
  rw[D]
  rw[List.take_of_length_le (by simp[F])]at d
  have:u=((List.replicate n 0).map ew).toArray:=by
   apply Array.toList_inj.1
   rw[d]
   refine List.ext_getElem (by simp[madeCells]) fun i G H=>?_
   simp[madeCells,Value.cells,ew,Nat.mod_one]
  rw[this]
def al(neg:Bool)(L:List Nat):Bool:=decide (L.length≤512)&& !(decide (L.length=0)&&neg)&&(decide (L.length=0)|| !decide (L[L.length-1]?.getD 0=0))
def d6(neg:Bool)(L:List Nat):Int:=if al neg L then 0 else 1
theorem dL(neg:Bool)(z:Option Addr)(d:Nat)(L:List Nat)(w:World)(h:ag w z d L)(V:L.length≤35184372088830):
  Calls Tryz.prog 264 #[.agg #[.bool neg,.slice z L.length d]] w fun e w'=>e=.returned (.int .i64 (d6 neg L))∧Below w.heap.size w w':=by
 rcases h.2.2 with f|⟨b,Q,rfl,X,F⟩
 ·subst f
  cases neg
  all_goals
   go_enter Tryz.func264,Tryz.ntmps264
   go_wp2
   go_ret
   exact⟨aH (by simp[d6,al]),(Below.refl _ _).alloc (Nat.le_refl _) _⟩
 ·by_cases f:L= []
  ·subst f
   cases neg
   all_goals
    go_enter Tryz.func264,Tryz.ntmps264
    go_wp2
    go_ret
    exact⟨aH (by simp[d6,al]),(Below.refl _ _).alloc (Nat.le_refl _) _⟩
  ·have G:0<L.length:=List.length_pos_iff.2 f
   have H:=F (L.length-1) (by omega)
   have J:=h.2.1
   clear h f F
   have u:Hid (d6 neg L=if L.length≤512∧(L[L.length-1]?.getD 0)≠0 then 0 else 1):=by
    have K:L≠ []:=by intro e;simp[e]at G
    unfold Hid;simp[d6,al,K]
   generalize U:L.length=n at*
   generalize L[n-1]?.getD 0=x at*
   generalize d6 neg L=Y at*
   clear U J
   have M:((n:Int)==0)=false:=by simp;omega
   have N:(0:Int)<(n:Int):=by omega
   by_cases D:n≤512
   ·by_cases l:x=0
    ·subst l
     go_enter Tryz.func264,Tryz.ntmps264
     go_wp2
     go_ret
     exact⟨aH (by rw[u.out];simp),(Below.refl _ _).alloc (Nat.le_refl _) _⟩
    ·have O:((x:Int)==0)=false:=by simp;omega
     go_enter Tryz.func264,Tryz.ntmps264
     go_wp2
     go_ret
     exact⟨aH (by rw[u.out];simp[D,l]),(Below.refl _ _).alloc (Nat.le_refl _) _⟩
   ·go_enter Tryz.func264,Tryz.ntmps264
    go_wp2
    go_ret
    exact⟨aH (by rw[u.out];simp[D]),(Below.refl _ _).alloc (Nat.le_refl _) _⟩
theorem tY(u:Option Addr)(f:Nat)(L:List Nat)(i:Int)(k:Nat)(w:World)(h:ag w u f L)(J:L.length≤35184372088830)(D:i=(k:Int)):
  Calls Tryz.prog 303 #[.slice u L.length f,.int .i64 i] w fun e w'=>e=.returned (.int .u64 ((L[k]?.getD 0:Nat):Int))∧w=w':=by
 subst D
 by_cases d:k<L.length
 ·rcases h.2.2 with G|⟨b,H,rfl,K,z⟩
  ·subst G;simp at d
  ·have F:=z k d
   have l:L[k]?.getD 0<4294967296:=by rw[List.getElem?_eq_getElem d];exact h.2.1 _ (List.getElem_mem d)
   clear h z
   generalize L[k]?.getD 0=x at*
   generalize L.length=n at*
   go_enter Tryz.func303,Tryz.ntmps303
   go_wp2
   go_ret
   exact⟨rfl,rfl⟩
 ·have l:L[k]?.getD 0=0:=by rw[List.getElem?_eq_none (by omega)];rfl
  rw[l]
  clear h l
  generalize L.length=n at*
  go_enter Tryz.func303,Tryz.ntmps303
  go_wp2
  go_ret
  exact⟨rfl,rfl⟩
def bc(a b:Int):Int:=if a<b then-1 else if b<a then 1 else 0
theorem jx(a:Int)(w:World):Calls Tryz.prog 320 #[.int .i64 a] w fun e w'=>e=.returned (.bool false)∧w=w':=by
 go_enter Tryz.func320,Tryz.ntmps320
 go_wp2
 go_ret
 exact⟨rfl,rfl⟩
theorem jy(a:Int)(w:World):Calls Tryz.prog 321 #[.int .u32 a] w fun e w'=>e=.returned (.bool false)∧w=w':=by
 go_enter Tryz.func321,Tryz.ntmps321
 go_wp2
 go_ret
 exact⟨rfl,rfl⟩
theorem yG(a b:Int)(w:World):Calls Tryz.prog 318 #[.int .i64 a,.int .i64 b] w fun e w'=>e=.returned (.int .i64 (bc a b))∧w=w':=by
 have d:Hid (bc a b=if a<b then-1 else if b<a then 1 else 0):=rfl
 generalize bc a b=c at*
 rcases(show a<b∨b<a∨a=b by omega)with h|h|h
 ·go_enter Tryz.func318,Tryz.ntmps318
  go_wp2_with(go_at_call 320;refine(jx _ _).mono ?_;rintro e w' ⟨rfl,rfl⟩)
  go_ret
  exact⟨aH (by rw[d.out];simp[h]),rfl⟩
 ·have f:¬a<b:=by omega
  go_enter Tryz.func318,Tryz.ntmps318
  go_wp2_with(go_at_call 320;refine(jx _ _).mono ?_;rintro e w' ⟨rfl,rfl⟩)
  go_ret
  exact⟨aH (by rw[d.out];simp[h,f]),rfl⟩
 ·subst h
  go_enter Tryz.func318,Tryz.ntmps318
  go_wp2_with(go_at_call 320;refine(jx _ _).mono ?_;rintro e w' ⟨rfl,rfl⟩)
  go_ret
  exact⟨aH (by rw[d.out];simp),rfl⟩
theorem yH(a b:Int)(w:World):Calls Tryz.prog 319 #[.int .u32 a,.int .u32 b] w fun e w'=>e=.returned (.int .i64 (bc a b))∧w=w':=by
 have d:Hid (bc a b=if a<b then-1 else if b<a then 1 else 0):=rfl
 generalize bc a b=c at*
 rcases(show a<b∨b<a∨a=b by omega)with h|h|h
 ·go_enter Tryz.func319,Tryz.ntmps319
  go_wp2_with(go_at_call 321;refine(jy _ _).mono ?_;rintro e w' ⟨rfl,rfl⟩)
  go_ret
  exact⟨aH (by rw[d.out];simp[h]),rfl⟩
 ·have f:¬a<b:=by omega
  go_enter Tryz.func319,Tryz.ntmps319
  go_wp2_with(go_at_call 321;refine(jy _ _).mono ?_;rintro e w' ⟨rfl,rfl⟩)
  go_ret
  exact⟨aH (by rw[d.out];simp[h,f]),rfl⟩
 ·subst h
  go_enter Tryz.func319,Tryz.ntmps319
  go_wp2_with(go_at_call 321;refine(jy _ _).mono ?_;rintro e w' ⟨rfl,rfl⟩)
  go_ret
  exact⟨aH (by rw[d.out];simp),rfl⟩
def ad(neg:Bool)(L:List Nat):Int:=if neg then-(ai L:Int)else(ai L:Int)
def an(B:Nat)(w:World)(v:Value)(x:Int):Prop:=
 ∃neg ao cap L,v=.agg #[.bool neg,.slice ao L.length cap]∧ag w ao cap L∧bs B ao L∧bG L∧neg=decide (x<0)∧ai L=x.natAbs∧L.length≤35184372088832
def kN:Nat:=512
def dt:Nat:=4294967296^kN
def bd(x:Int):Int:=if x.natAbs<dt then 0 else 2
def du(x:Int):Int:=if x.natAbs<dt then x else 0
theorem bs.mono{B f:Nat}{l:Option Addr}{L:List Nat}(h:bs B l L)(u:f≤B):bs f l L:=by
 rcases h with h|⟨b,d,z,D⟩
 ·exact .inl h
 ·exact .inr ⟨b,d,z,Nat.le_trans u D⟩
theorem bs.zero{w:World}{l:Option Addr}{d:Nat}{L:List Nat}(h:ag w l d L):bs 0 l L:=by
 rcases h.2.2 with h|⟨b,f,u,_⟩
 ·exact .inl h
 ·exact .inr ⟨b,f,u,Nat.zero_le _⟩
theorem an.below{B:Nat}{w w':World}{v:Value}{x:Int}(h:an B w v x)(f:Below w.heap.size w w'):an B w' v x:=by
 obtain⟨neg,l,d,L,u,z,D⟩:=h
 exact⟨neg,l,d,L,u,z.below f,D⟩
theorem an.mono{B f:Nat}{w:World}{v:Value}{x:Int}(h:an B w v x)(l:f≤B):an f w v x:=by
 obtain⟨neg,u,d,L,z,D,F,G⟩:=h
 exact⟨neg,u,d,L,z,D,F.mono l,G⟩
theorem an.zero(B:Nat)(w:World)(f:Option Addr)(d:Nat):an B w (.agg #[.bool false,.slice f 0 d]) 0:=
 ⟨false,f,d,[],rfl,ag.nil _ _ _,.inl rfl,.inl rfl,rfl,rfl,by simp⟩
theorem aM(neg:Bool)(L:List Nat):(ad neg L).natAbs=ai L:=by
 unfold ad;cases neg<;>simp
theorem an.mk{B:Nat}{w:World}{neg:Bool}{f:Option Addr}{d:Nat}{L:List Nat}(h:ag w f d L)(l:bs B f L)(c:bG L)(u:L≠ [])(z:L.length≤35184372088832):an B w (.agg #[.bool neg,.slice f L.length d]) (ad neg L):=by
 refine⟨neg,f,d,L,rfl,h,l,c,?_,(aM neg L).symm,z⟩
 have D:ai L≠0:=fun e=>u ((aG L c).1 e)
 unfold ad;cases neg<;>simp<;>omega
theorem mP{neg:Bool}{L d:List Nat}(h:ai L=ai d):ad neg L=ad neg d:=by unfold ad;rw[h]
theorem gG(neg:Bool):ad neg []=0:=by unfold ad;cases neg<;>simp[ai]
theorem dJ(L:List Nat)(h:aX L)(c:bG L):ai L<dt↔L.length≤512:=(oQ L h c kN).symm
end Go.Proofs.YtdhmglmccafbnaaGreatDoor
namespace Go.Proofs.YtdhmglmccafbnaaGreatDoor
theorem yI(A B S:List Nat)(k c x y t d:Nat)(f:k<S.length)(l:A[k]?.getD 0=x)(u:B[k]?.getD 0=y)(z:t+y+c=x+4294967296*d)(h:ai (S.take k)+ai (B.take k)=ai (A.take k)+4294967296^k*c):
  ai ((S.set k t).take (k+1))+ai (B.take (k+1))=ai (A.take (k+1))+4294967296^(k+1)*d:=by
 rw[g6 S k _ f,aD A k,aD B k,l,u,Nat.pow_succ]
 have e:4294967296^k*(t+y+c)=4294967296^k*(x+4294967296*d):=by rw[z]
 rw[Nat.mul_add,Nat.mul_add,Nat.mul_add,←Nat.mul_assoc]at e
 omega
theorem vw(A B S:List Nat)(n c:Nat)(f:aX S)(l:S.length=n)(D:A.length=n)(F:ai B≤ai A)(u:ai (B.take n)=ai B)(h:ai (S.take n)+ai (B.take n)=ai (A.take n)+4294967296^n*c):
  ai S=ai A-ai B:=by
 rw[di S n (by omega),di A n (by omega),u]at h
 have z:=dZ S f
 rw[l]at z
 rcases Nat.eq_zero_or_pos c with d|d
 ·subst d;omega
 ·have G:=Nat.mul_le_mul_left (4294967296^n) d
  omega
theorem vx(A B:List Nat)(d:aX A)(h:ai B≤ai A):ai (B.take A.length)=ai B:=by
 have f:=gF B A.length
 have l:=dZ A d
 rcases Nat.eq_zero_or_pos (ai (B.drop A.length))with e|e
 ·rw[e]at f;omega
 ·have u:=Nat.mul_le_mul_left (4294967296^A.length) e
  omega
end Go.Proofs.YtdhmglmccafbnaaGreatDoor
