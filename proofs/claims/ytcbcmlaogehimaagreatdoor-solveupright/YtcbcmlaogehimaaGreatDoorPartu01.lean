/- Part 1 of the texts. -/
import Derived.WalkSpells
import Derived.WalkLawsBesides
import Derived.Deep.RegionHeld3
import Derived.Deep.DrawnRows
import Derived.BigQuiet
import Derived.Test.YtcbcmlaogehimaaGreatDoorProg
set_option maxHeartbeats 400000
namespace Go.Proofs.YtcbcmlaogehimaaGreatDoor
open Go.RowKit
abbrev GY:=Option Addr
abbrev H3:=List Nat
abbrev C0(x:Int):Value:=.int .i64 x
abbrev CI(x:Int):Value:=.int .u64 x
abbrev GF(f:Nat)(a:Array Value)(w:World)(q:Ending->World->Prop):Prop:=Calls Tryz.prog f a w q
abbrev BS(f:Nat)(a:Array Value)(w:World)(v:Value):Prop:=Calls Tryz.prog f a w fun e u=>e=.returned v/\Below w.heap.size w u
abbrev H8(w u:World):Prop:=Below w.heap.size w u
def ai(w:World)(ao:GY)(cap:Nat)(L:H3):Prop:=
 L.length<=cap/\(∀x∈L,x<4294967296)/\(L= []\/∃b off,ao=some ⟨b,off,none⟩/\b<w.heap.size/\∀i,i<L.length->w.cell? ⟨b,off+i,none⟩=some (.int .u32 ((L[i]?.getD 0:Nat):Int)))
def cj(B:Nat)(ao:GY)(L:H3):Prop:=L= []\/∃b off,ao=some ⟨b,off,none⟩/\B<=b
theorem ai.below{w t:World}{ao:GY}{cap:Nat}{L:H3}(h:ai w ao cap L)(D:H8 w t):ai t ao cap L:=by
 refine⟨h.1,h.2.1,?_⟩;rcases h.2.2 with h|⟨b,l,H,F,I⟩
 ·exact .inl h
 ·refine .inr ⟨b,l,H,Nat.lt_of_lt_of_le F D.size,fun i G=>?_⟩
  rw[D.cell (p:=⟨b,l+i,none⟩) F];exact I i G
theorem ai.nil(w:World)(ao:GY)(cap:Nat):ai w ao cap []:=⟨Nat.zero_le _,by simp,.inl rfl⟩
theorem ai.take{w:World}{ao:GY}{cap:Nat}{L:H3}(h:ai w ao cap L)(n:Nat):ai w ao cap (L.take n):=by
 refine⟨Nat.le_trans (List.length_take_le' n L) h.1,fun x D=>h.2.1 x (List.mem_of_mem_take D),?_⟩;rcases h.2.2 with G|⟨b,t,H,I,J⟩
 ·left;simp[G]
 ·refine .inr ⟨b,t,H,I,fun i F=>?_⟩
  have l:=F;rw[List.length_take]at l;rw[J i (by omega),List.getElem?_take,if_pos (by omega)]
theorem ai.lt{w:World}{ao:GY}{cap:Nat}{L:H3}(h:ai w ao cap L)(i:Nat):L[i]?.getD 0<4294967296:=by
 by_cases l:i<L.length
 ·rw[List.getElem?_eq_getElem l];exact h.2.1 _ (List.getElem_mem l)
 ·rw[List.getElem?_eq_none (by omega)];decide
theorem bh{k:IntKind}{a b:Int}(h:a=b):Ending.returned (.int k a)=.returned (.int k b):=by rw[h]
theorem kC{a b:Bool}(h:a=b):Ending.returned (.bool a)=.returned (.bool b):=by rw[h]
theorem ac{p:Prop}(h:p):Hid p:=h
theorem uH{p:Prop}(h:Hid p):p:=h
theorem aB{P:Program}{c:Code}{Q:Exit->Act->World->Prop}{a:Act}{w:World}(F:World->Prop)(h:F w)(k:∀W,F W->Code.wp P c Q a W):Code.wp P c Q a w:=k w h
def aK(w:World)(b:Nat)(x y:Value):Prop:=w.heap[b]? =some (.cells #[x,y] 33 (0,0))
theorem aK.c0{w:World}{b:Nat}{x y:Value}(h:aK w b x y):w.cell? ⟨b,0,none⟩=some x:=by rw[cell_of_row w b 0 _ _ _ h];rfl
theorem aK.c1{w:World}{b:Nat}{x y:Value}(h:aK w b x y):w.cell? ⟨b,1,none⟩=some y:=by rw[cell_of_row w b 1 _ _ _ h];rfl
theorem aK.free{w:World}{b:Nat}{x y:Value}(h:aK w b x y)(j:Nat):w.frozen? ⟨b,j,none⟩=false:=frozen_of_row w b j _ _ h
theorem aK.lt{w:World}{b:Nat}{x y:Value}(h:aK w b x y):b<w.heap.size:=(Array.getElem?_eq_some_iff.1 h).1
theorem aK.below{w t:World}{b:Nat}{x y:Value}(h:aK w b x y){B:Nat}(D:Below B w t)(l:b<B):aK t b x y:=(D.block b l).trans h
theorem aK.new(w:World)(x y:Value):aK (w.alloc (.cells #[x,y] 33)) w.heap.size x y:=heap_alloc_new w _
theorem aK.old{w:World}{b:Nat}{x y:Value}(h:aK w b x y)(o:Obj):aK (w.alloc o) b x y:=by
 unfold aK;rw[Below.heap_alloc w o b h.lt];exact h
theorem aK.drew{w:World}{b:Nat}{x y:Value}(h:aK w b x y):aK w.drew b x y:=h
theorem aK.drewN{w:World}{b:Nat}{x y:Value}(h:aK w b x y)(n:Nat):aK (w.drewN n) b x y:=h
end Go.Proofs.YtcbcmlaogehimaaGreatDoor
namespace Go.Proofs.YtcbcmlaogehimaaGreatDoor
def aj:H3->Nat
 | []=>0
 |x::r=>x+4294967296*aj r
def cL(L:H3):Prop:=L= []\/L[L.length-1]?.getD 0≠0
def bQ(L:H3):Prop:=∀x∈L,x<4294967296
theorem mB(A B:H3):aj (A++B)=aj A+4294967296^A.length*aj B:=by
 induction A with
 |nil=>simp[aj]
 |cons x r ih=>simp only[List.cons_append,aj,ih,List.length_cons,Nat.pow_succ];rw[Nat.mul_add,<-Nat.mul_assoc,Nat.mul_comm 4294967296 (4294967296^r.length)];omega
theorem aT(L:H3)(k:Nat):aj (L.take (k+1))=aj (L.take k)+4294967296^k*(L[k]?.getD 0):=by
 by_cases h:k<L.length
 ·rw[List.take_succ_eq_append_getElem h,mB,List.getElem?_eq_getElem h]
  simp[aj,Nat.min_eq_left (Nat.le_of_lt h)]
 ·rw[List.take_of_length_le (by omega),List.take_of_length_le (by omega),List.getElem?_eq_none (by omega)];simp
theorem fi(L:H3)(k:Nat)(h:L.length<=k):aj (L.take k)=aj L:=by rw[List.take_of_length_le h]
theorem gK(L:H3)(h:bQ L):aj L<4294967296^L.length:=by
 induction L with
 |nil=>simp[aj]
 |cons x r ih=>
  have t:=ih (fun y l=>h y (by simp[l]));have F:=h x (by simp);simp only[aj,List.length_cons,Nat.pow_succ];have D:aj r+1<=4294967296^r.length:=t;have G:=Nat.mul_le_mul_right 4294967296 D;omega
theorem bQ.take{L:H3}(h:bQ L)(n:Nat):bQ (L.take n):=fun x l=>h x (List.mem_of_mem_take l)
theorem bQ.tail{x:Nat}{r:H3}(h:bQ (x::r)):bQ r:=fun y l=>h y (by simp[l])
theorem jm(L:H3)(h:bQ L)(k:Nat):aj (L.take k)<4294967296^k:=by
 have l:=gK _ (h.take k);refine Nat.lt_of_lt_of_le l (Nat.pow_le_pow_right (by decide) ?_)
 simp;omega
theorem oC(L:H3)(h:L[L.length-1]?.getD 0≠0):4294967296^(L.length-1)<=aj L:=by
 have t:0<L.length:=by
  rcases Nat.eq_zero_or_pos L.length with e|e
  ·have:L= []:=List.length_eq_zero_iff.1 e
   subst this;simp at h
  ·exact e
 have l:=aT L (L.length-1);rw[show L.length-1+1=L.length by omega,List.take_length]at l;rw[l];have D:=Nat.mul_le_mul_left (4294967296^(L.length-1)) (show 1<=L[L.length-1]?.getD 0 by omega);omega
theorem tu:∀(A B:H3),bQ A->bQ B->A.length=B.length->aj A=aj B->A=B
 | [],[],_,_,_,_=>rfl
 | [],_::_,_,_,h,_=>by simp at h
 |_::_,[],_,_,h,_=>by simp at h
 |x::r,y::s,hA,hB,hl,hv=>by
  have D:=hA x (by simp);have F:=hB y (by simp);simp only[aj]at hv;have l:x=y:=by omega
  have t:aj r=aj s:=by omega
  rw[l,tu r s hA.tail hB.tail (by simpa using hl) t]
theorem fj(A B:H3)(l:bQ B)(t:cL A)(h:aj A<=aj B):A.length<=B.length:=by
 rcases t with rfl|F
 ·simp
 ·have G:=oC A F
  have H:=gK B l;have D:4294967296^(A.length-1)<4294967296^B.length:=by omega
  have I:=(Nat.pow_lt_pow_iff_right (show 1<4294967296 by decide)).1 D;omega
theorem vH(A B:H3)(l:bQ A)(t:bQ B)(D:cL A)(cB:cL B)(h:aj A=aj B):A=B:=
 tu A B l t (Nat.le_antisymm (fj A B t D (by omega)) (fj B A l cB (by omega))) h
theorem aY(A:H3)(l:cL A):aj A=0↔A= []:=by
 constructor
 ·intro h
  rcases l with rfl|t
  ·rfl
  ·have D:=oC A t
   have F:0<4294967296^(A.length-1):=Nat.pow_pos (by decide);omega
 ·rintro rfl;rfl
theorem ju(A:H3)(l:bQ A)(t:cL A)(k:Nat):A.length<=k↔aj A<4294967296^k:=by
 constructor
 ·intro h
  exact Nat.lt_of_lt_of_le (gK A l) (Nat.pow_le_pow_right (by decide) h)
 ·intro h
  rcases t with rfl|c
  ·simp
  ·have F:=oC A c
   have D:4294967296^(A.length-1)<4294967296^k:=by omega
   have G:=(Nat.pow_lt_pow_iff_right (show 1<4294967296 by decide)).1 D;omega
theorem mq(L:H3)(n:Nat)(h:L[n-1]?.getD 0=0):aj (L.take (n-1))=aj (L.take n):=by
 rcases Nat.eq_zero_or_pos n with rfl|t
 ·rfl
 ·have l:=aT L (n-1)
  rw[h,show n-1+1=n by omega]at l;omega
theorem lj:∀(A B:H3),(∀i:Nat,A[i]?.getD 0=B[i]?.getD 0)->aj A=aj B
 | [],[],_=>rfl
 | [],y::s,h=>by
  have l:=h 0;have t:=lj [] s (fun i=>by have:=h (i+1);simpa using this)
  simp at l;simp only[aj]at t⊢;omega
 |x::r,[],h=>by
  have l:=h 0;have t:=lj r [] (fun i=>by have:=h (i+1);simpa using this)
  simp at l;simp only[aj]at t⊢;omega
 |x::r,y::s,h=>by
  have l:=h 0;have t:=lj r s (fun i=>by have:=h (i+1);simpa using this)
  simp at l;simp only[aj];omega
theorem jC(L:H3)(k:Nat):aj L=aj (L.take k)+4294967296^k*aj (L.drop k):=by
 by_cases h:k<=L.length
 ·have l:=mB (L.take k) (L.drop k)
  rw[List.take_append_drop,List.length_take,Nat.min_eq_left h]at l;exact l
 ·rw[List.take_of_length_le (by omega),List.drop_of_length_le (by omega)];simp[aj]
theorem lk(A B:H3)(l:bQ A)(t:Nat)(h:∀i,t<i->A[i]?.getD 0=B[i]?.getD 0)(D:A[t]?.getD 0<B[t]?.getD 0):aj A<aj B:=by
 have F:=jC A (t+1);have G:=jC B (t+1);have H:=aT A t;have I:=aT B t;have J:=jm A l t;have e:aj (A.drop (t+1))=aj (B.drop (t+1)):=lj _ _ (fun i=>by
  have:=h (t+1+i) (by omega)
  simpa[List.getElem?_drop]using this)
 rw[e]at F;have m:=Nat.mul_le_mul_left (4294967296^t) (show A[t]?.getD 0+1<=B[t]?.getD 0 by omega);rw[Nat.mul_add,Nat.mul_one]at m;omega
theorem Eo(S:H3)(k x:Nat):(S.set k x).take k=S.take k:=by
 rw[List.take_set];exact List.set_eq_of_length_le (by simp;omega)
theorem jY(S:H3)(k x:Nat)(h:k<S.length):aj ((S.set k x).take (k+1))=aj (S.take k)+4294967296^k*x:=by
 rw[aT,Eo,List.getElem?_set_self h];rfl
theorem kE(P b t:Nat):P*(t%b)+P*b*(t/b)=P*t:=by
 rw[Nat.mul_assoc,<-Nat.mul_add,Nat.mod_add_div]
theorem bQ.set{S:H3}(h:bQ S)(k x:Nat)(D:x<4294967296):bQ (S.set k x):=fun y t=>by
 rcases List.mem_or_eq_of_mem_set t with l|l
 ·exact h y l
 ·omega
theorem bQ.zeros(n:Nat):bQ (List.replicate n 0):=fun y h=>by simp at h;omega
theorem Ep(A B S:H3)(k c x y:Nat)(l:k<S.length)(t:A[k]?.getD 0=x)(D:B[k]?.getD 0=y)(h:aj (S.take k)+4294967296^k*c=aj (A.take k)+aj (B.take k)):
  aj ((S.set k ((c+(x+y))%4294967296)).take (k+1))+4294967296^(k+1)*((c+(x+y))/4294967296)=aj (A.take (k+1))+aj (B.take (k+1)):=by
 rw[jY S k _ l,aT A k,aT B k,t,D];have e:=kE (4294967296^k) 4294967296 (c+(x+y));rw[Nat.pow_succ];rw[Nat.mul_add,Nat.mul_add]at e;omega
theorem AO(A B S:H3)(n c:Nat)(t:bQ A)(D:bQ B)(F:A.length+1<=n)(G:B.length+1<=n)(H:S.length=n)(h:aj (S.take n)+4294967296^n*c=aj (A.take n)+aj (B.take n)):
  aj S=aj A+aj B:=by
 rw[fi S n (by omega),fi A n (by omega),fi B n (by omega)]at h;have I:aj A<4294967296^(n-1):=Nat.lt_of_lt_of_le (gK A t) (Nat.pow_le_pow_right (by decide) (by omega));have J:aj B<4294967296^(n-1):=Nat.lt_of_lt_of_le (gK B D) (Nat.pow_le_pow_right (by decide) (by omega));have K:4294967296^n=4294967296^(n-1)*4294967296:=by rw[<-Nat.pow_succ];congr 1;omega
 rcases Nat.eq_zero_or_pos c with l|l
 ·subst l;omega
 ·have L:=Nat.mul_le_mul_left (4294967296^n) l
  omega
open Go.RowKit
def eM(x:Nat):Value:=.int .u32 (x:Int)
def cP(w:World)(g:Nat)(S:H3):Prop:=w.heap[g]? =some (.cells (S.map eM).toArray 84 (0,0))
theorem cP.cell{w:World}{g:Nat}{S:H3}(h:cP w g S)(j:Nat)(l:j<S.length):w.cell? ⟨g,j,none⟩=some (.int .u32 ((S[j]?.getD 0:Nat):Int)):=by
 rw[cell_of_row w g j _ _ _ h]
 simp[eM,l]
theorem cP.free{w:World}{g:Nat}{S:H3}(h:cP w g S)(j:Nat):w.frozen? ⟨g,j,none⟩=false:=frozen_of_row w g j _ _ h
theorem cP.set{w:World}{g:Nat}{S:H3}(h:cP w g S)(j x:Nat):cP (w.setCell ⟨g,j,none⟩ (.int .u32 (x:Int))) g (S.set j x):=by
 unfold cP;rw[heap_setCell_same w g j _ _ _ h]
 simp[List.map_set,eM]
theorem cP.lt{w:World}{g:Nat}{S:H3}(h:cP w g S):g<w.heap.size:=(Array.getElem?_eq_some_iff.1 h).1
theorem cP.limbs{w:World}{g:Nat}{S:H3}(h:cP w g S)(l:bQ S)(cap:Nat)(t:S.length<=cap):ai w (some ⟨g,0,none⟩) cap S:=
 ⟨t,l,.inr ⟨g,0,rfl,h.lt,fun i D=>by rw[Nat.zero_add];exact h.cell i D⟩⟩
theorem cP.drewN{w:World}{g:Nat}{S:H3}(h:cP w g S)(n:Nat):cP (w.drewN n) g S:=h
theorem cP.made{w:World}{t g n:Nat}(h:w.ownsRow t 84 1 (.slice (some ⟨g,0,none⟩) n n) n (madeCells (Value.int .u32 0).cells (n*1)).toList):cP w g (List.replicate n 0):=by
 rcases h.2 with⟨D,_⟩|⟨L,G,F,D,_,H,_,_,I,l⟩
 ·simp at D
 ·simp only[Value.slice.injEq,Option.some.injEq,Addr.mk.injEq,and_true,true_and]at D
  obtain⟨rfl,rfl⟩:=D;unfold cP;rw[H];rw[List.take_of_length_le (by simp[I])]at l;have:F=((List.replicate n 0).map eM).toArray:=by
   apply Array.toList_inj.1
   rw[l];refine List.ext_getElem (by simp[madeCells]) fun i J K=>?_
   simp[madeCells,Value.cells,eM,Nat.mod_one]
  rw[this]
def aD(neg:Bool)(L:H3):Bool:=decide (L.length<=512)&& !(decide (L.length=0)&&neg)&&(decide (L.length=0)|| !decide (L[L.length-1]?.getD 0=0))
def gL(neg:Bool)(L:H3):Int:=if aD neg L then 0 else 1
theorem gC(neg:Bool)(ao:GY)(cap:Nat)(L:H3)(w:World)(h:ai w ao cap L)(hl:L.length<=35184372088830):
  BS 234 #[.agg #[.bool neg,.slice ao L.length cap]] w (C0 (gL neg L)):=by
 rcases h.2.2 with l|⟨b,U,rfl,hb,G⟩
 ·subst l
  cases neg
  all_goals
   go_enter Tryz.func234,Tryz.ntmps234
   go_wp2
   go_ret
   exact⟨bh (by simp[gL,aD]),(Below.refl _ _).alloc (Nat.le_refl _) _⟩
 ·by_cases l:L= []
  ·subst l
   cases neg
   all_goals
    go_enter Tryz.func234,Tryz.ntmps234
    go_wp2
    go_ret
    exact⟨bh (by simp[gL,aD]),(Below.refl _ _).alloc (Nat.le_refl _) _⟩
  ·have I:0<L.length:=List.length_pos_iff.2 l
   have J:=G (L.length-1) (by omega);have K:=h.2.1;clear h l G;have D:Hid (gL neg L=if L.length<=512/\(L[L.length-1]?.getD 0)≠0 then 0 else 1):=by
    have M:L≠ []:=by intro e;simp[e]at I
    unfold Hid;simp[gL,aD,M]
   generalize Z:L.length=n at*;generalize L[n-1]?.getD 0=x at*;generalize gL neg L=ce at*;clear Z K;have N:((n:Int)==0)=false:=by simp;omega
   have O:(0:Int)<(n:Int):=by omega
   by_cases F:n<=512
   ·by_cases t:x=0
    ·subst t
     go_enter Tryz.func234,Tryz.ntmps234
     go_wp2
     go_ret
     exact⟨bh (by rw[D.out];simp),(Below.refl _ _).alloc (Nat.le_refl _) _⟩
    ·have Q:((x:Int)==0)=false:=by simp;omega
     go_enter Tryz.func234,Tryz.ntmps234
     go_wp2
     go_ret
     exact⟨bh (by rw[D.out];simp[F,t]),(Below.refl _ _).alloc (Nat.le_refl _) _⟩
   ·go_enter Tryz.func234,Tryz.ntmps234
    go_wp2
    go_ret
    exact⟨bh (by rw[D.out];simp[F]),(Below.refl _ _).alloc (Nat.le_refl _) _⟩
theorem yB(ao:GY)(cap:Nat)(L:H3)(i:Int)(k:Nat)(w:World)(h:ai w ao cap L)(K:L.length<=35184372088830)(F:i=(k:Int)):
  GF 285 #[.slice ao L.length cap,C0 i] w fun e G=>e=.returned (CI ((L[k]?.getD 0:Nat):Int))/\w=G:=by
 subst F
 by_cases l:k<L.length
 ·rcases h.2.2 with I|⟨b,J,rfl,M,D⟩
  ·subst I;simp at l
  ·have H:=D k l
   have t:L[k]?.getD 0<4294967296:=by rw[List.getElem?_eq_getElem l];exact h.2.1 _ (List.getElem_mem l)
   clear h D;generalize L[k]?.getD 0=x at*;generalize L.length=n at*
   go_enter Tryz.func285,Tryz.ntmps285
   go_wp2
   go_ret
   exact⟨rfl,rfl⟩
 ·have t:L[k]?.getD 0=0:=by rw[List.getElem?_eq_none (by omega)];rfl
  rw[t];clear h t;generalize L.length=n at*
  go_enter Tryz.func285,Tryz.ntmps285
  go_wp2
  go_ret
  exact⟨rfl,rfl⟩
def bY(a b:Int):Int:=if a<b then-1 else if b<a then 1 else 0
theorem mC(a:Int)(w:World):GF 306 #[C0 a] w fun e h=>e=.returned (.bool false)/\w=h:=by
 go_enter Tryz.func306,Tryz.ntmps306
 go_wp2
 go_ret
 exact⟨rfl,rfl⟩
theorem mD(a:Int)(w:World):GF 307 #[.int .u32 a] w fun e h=>e=.returned (.bool false)/\w=h:=by
 go_enter Tryz.func307,Tryz.ntmps307
 go_wp2
 go_ret
 exact⟨rfl,rfl⟩
theorem Er(a b:Int)(w:World):GF 304 #[C0 a,C0 b] w fun e l=>e=.returned (C0 (bY a b))/\w=l:=by
 have t:Hid (bY a b=if a<b then-1 else if b<a then 1 else 0):=rfl;generalize bY a b=c at*;rcases(show a<b\/b<a\/a=b by omega)with h|h|h
 ·go_enter Tryz.func304,Tryz.ntmps304
  go_wp2_with(go_at_call 306;refine(mC _ _).mono ?_;rintro e l ⟨rfl,rfl⟩)
  go_ret
  exact⟨bh (by rw[t.out];simp[h]),rfl⟩
 ·have D:¬a<b:=by omega
  go_enter Tryz.func304,Tryz.ntmps304
  go_wp2_with(go_at_call 306;refine(mC _ _).mono ?_;rintro e l ⟨rfl,rfl⟩)
  go_ret
  exact⟨bh (by rw[t.out];simp[h,D]),rfl⟩
 ·subst h
  go_enter Tryz.func304,Tryz.ntmps304
  go_wp2_with(go_at_call 306;refine(mC _ _).mono ?_;rintro e l ⟨rfl,rfl⟩)
  go_ret
  exact⟨bh (by rw[t.out];simp),rfl⟩
theorem Es(a b:Int)(w:World):GF 305 #[.int .u32 a,.int .u32 b] w fun e l=>e=.returned (C0 (bY a b))/\w=l:=by
 have t:Hid (bY a b=if a<b then-1 else if b<a then 1 else 0):=rfl;generalize bY a b=c at*;rcases(show a<b\/b<a\/a=b by omega)with h|h|h
 ·go_enter Tryz.func305,Tryz.ntmps305
  go_wp2_with(go_at_call 307;refine(mD _ _).mono ?_;rintro e l ⟨rfl,rfl⟩)
  go_ret
  exact⟨bh (by rw[t.out];simp[h]),rfl⟩
 ·have D:¬a<b:=by omega
  go_enter Tryz.func305,Tryz.ntmps305
  go_wp2_with(go_at_call 307;refine(mD _ _).mono ?_;rintro e l ⟨rfl,rfl⟩)
  go_ret
  exact⟨bh (by rw[t.out];simp[h,D]),rfl⟩
 ·subst h
  go_enter Tryz.func305,Tryz.ntmps305
  go_wp2_with(go_at_call 307;refine(mD _ _).mono ?_;rintro e l ⟨rfl,rfl⟩)
  go_ret
  exact⟨bh (by rw[t.out];simp),rfl⟩
def af(neg:Bool)(L:H3):Int:=if neg then-(aj L:Int)else(aj L:Int)
def aA(B:Nat)(w:World)(v:Value)(x:Int):Prop:=
 ∃neg ao cap L,v=.agg #[.bool neg,.slice ao L.length cap]/\ai w ao cap L/\cj B ao L/\cL L/\neg=decide (x<0)/\aj L=x.natAbs/\L.length<=35184372088832
def oD:Nat:=512
def eE:Nat:=4294967296^oD
def cn(x:Int):Int:=if x.natAbs<eE then 0 else 2
def fG(x:Int):Int:=if x.natAbs<eE then x else 0
theorem cj.mono{B t:Nat}{ao:GY}{L:H3}(h:cj B ao L)(D:t<=B):cj t ao L:=by
 rcases h with h|⟨b,l,F,G⟩
 ·exact .inl h
 ·exact .inr ⟨b,l,F,Nat.le_trans D G⟩
theorem cj.zero{w:World}{ao:GY}{cap:Nat}{L:H3}(h:ai w ao cap L):cj 0 ao L:=by
 rcases h.2.2 with h|⟨b,l,t,_⟩
 ·exact .inl h
 ·exact .inr ⟨b,l,t,Nat.zero_le _⟩
theorem aA.below{B:Nat}{w l:World}{v:Value}{x:Int}(h:aA B w v x)(t:H8 w l):aA B l v x:=by
 obtain⟨neg,ao,cap,L,D,F,G⟩:=h;exact⟨neg,ao,cap,L,D,F.below t,G⟩
theorem aA.mono{B l:Nat}{w:World}{v:Value}{x:Int}(h:aA B w v x)(t:l<=B):aA l w v x:=by
 obtain⟨neg,ao,cap,L,D,F,G,H⟩:=h;exact⟨neg,ao,cap,L,D,F,G.mono t,H⟩
theorem aA.zero(B:Nat)(w:World)(ao:GY)(cap:Nat):aA B w (.agg #[.bool false,.slice ao 0 cap]) 0:=
 ⟨false,ao,cap,[],rfl,ai.nil _ _ _,.inl rfl,.inl rfl,rfl,rfl,by simp⟩
theorem aU(neg:Bool)(L:H3):(af neg L).natAbs=aj L:=by
 unfold af;cases neg<;>simp
theorem aA.mk{B:Nat}{w:World}{neg:Bool}{ao:GY}{cap:Nat}{L:H3}(h:ai w ao cap L)(l:cj B ao L)(c:cL L)(t:L≠ [])(D:L.length<=35184372088832):aA B w (.agg #[.bool neg,.slice ao L.length cap]) (af neg L):=by
 refine⟨neg,ao,cap,L,rfl,h,l,c,?_,(aU neg L).symm,D⟩;have F:aj L≠0:=fun e=>t ((aY L c).1 e)
 unfold af;cases neg<;>simp<;>omega
theorem qt{neg:Bool}{L l:H3}(h:aj L=aj l):af neg L=af neg l:=by unfold af;rw[h]
theorem jD(neg:Bool):af neg []=0:=by unfold af;cases neg<;>simp[aj]
theorem eO(L:H3)(h:bQ L)(c:cL L):aj L<eE↔L.length<=512:=(ju L h c oD).symm
end Go.Proofs.YtcbcmlaogehimaaGreatDoor
namespace Go.Proofs.YtcbcmlaogehimaaGreatDoor
theorem Et(A B S:H3)(k c x y t l:Nat)(D:k<S.length)(F:A[k]?.getD 0=x)(G:B[k]?.getD 0=y)(H:t+y+c=x+4294967296*l)(h:aj (S.take k)+aj (B.take k)=aj (A.take k)+4294967296^k*c):
  aj ((S.set k t).take (k+1))+aj (B.take (k+1))=aj (A.take (k+1))+4294967296^(k+1)*l:=by
 rw[jY S k _ D,aT A k,aT B k,F,G,Nat.pow_succ];have e:4294967296^k*(t+y+c)=4294967296^k*(x+4294967296*l):=by rw[H]
 rw[Nat.mul_add,Nat.mul_add,Nat.mul_add,<-Nat.mul_assoc]at e;omega
theorem AQ(A B S:H3)(n c:Nat)(t:bQ S)(D:S.length=n)(H:A.length=n)(I:aj B<=aj A)(F:aj (B.take n)=aj B)(h:aj (S.take n)+aj (B.take n)=aj (A.take n)+4294967296^n*c):
  aj S=aj A-aj B:=by
 rw[fi S n (by omega),fi A n (by omega),F]at h;have G:=gK S t;rw[D]at G;rcases Nat.eq_zero_or_pos c with l|l
 ·subst l;omega
 ·have J:=Nat.mul_le_mul_left (4294967296^n) l
  omega
theorem AR(A B:H3)(h:bQ A)(t:aj B<=aj A):aj (B.take A.length)=aj B:=by
 have l:=jC B A.length;have D:=gK A h;rcases Nat.eq_zero_or_pos (aj (B.drop A.length))with e|e
 ·rw[e]at l;omega
 ·have F:=Nat.mul_le_mul_left (4294967296^A.length) e
  omega
end Go.Proofs.YtcbcmlaogehimaaGreatDoor
