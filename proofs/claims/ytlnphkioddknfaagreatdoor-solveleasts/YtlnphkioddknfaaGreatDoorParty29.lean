/- Part 29 of the texts. -/
import Derived.Test.YtlnphkioddknfaaGreatDoorParty28
namespace Go.Proofs.YtlnphkioddknfaaGreatDoor
open Go.RowKit
def aU(I:List Int):List Nat:=I.map Int.toNat
theorem cY(I:List Int):(aU I).length=I.length:=by simp[aU]
theorem og(I:List Int)(j:Nat)(d:j<I.length):(aU I)[j]? =some (aM I j):=by simp[aU,aM,d]
theorem kR(I:List Int)(j:Nat)(d:j<I.length):(aU I).take (j+1)=(aU I).take j++[aM I j]:=by
 rw[List.take_add_one,og I j d]
 rfl
theorem FA(I:List Int)(P:Nat→Prop)(h:∀j,j<I.length→P (aM I j)):∀x∈aU I,P x:=by
 intro x l
 obtain⟨j,f,rfl⟩:=List.getElem_of_mem l
 have d:j<I.length:=by rw[←cY];exact f
 have e:=og I j d
 rw[List.getElem?_eq_getElem f]at e
 rw[Option.some.inj e]
 exact h j d
theorem ti(x:Nat):∀(d:List Nat) (m:Nat),jl m (d++[x])=mx (jl m d) (fR x):=by
 intro d
 induction d with
 |nil=>intro m;rfl
 |cons y ys ih=>intro m;exact ih _
theorem Cn(k:Int)(x:Nat):∀(d:List Nat) (s:Nat),IM k s (d++[x])=JO k (IM k s d) x:=by
 intro d
 induction d with
 |nil=>intro m;rfl
 |cons y ys ih=>intro m;exact ih _
theorem Co(I:List Int):∀j,j≤I.length→jo I j=jl 0 ((aU I).take j):=by
 intro j
 induction j with
 |zero=>intro _;rfl
 |succ j ih=>
  intro d
  rw[kR I j (by omega),ti,←ih (by omega)]
  rfl
theorem jJ(I:List Int):jo I I.length=jl 0 (aU I):=by
 rw[Co I _ (Nat.le_refl _),List.take_of_length_le (by rw[cY];exact Nat.le_refl _)]
theorem Cp(k:Int)(I:List Int):∀j,j≤I.length→iZ (tL k I) (tL k I) j=IM k 0 ((aU I).take j):=by
 intro j
 induction j with
 |zero=>intro _;rfl
 |succ j ih=>
  intro d
  rw[kR I j (by omega),Cn,←ih (by omega)]
  show aV (iZ (tL k I) (tL k I) j) (mV (aM (tL k I) j) (aM (tL k I) j))=_
  rw[show aM (tL k I) j=xV (aM I j) (-k)from Ce _ _ j (by omega)]
  rfl
theorem FB(k:Int)(I:List Int):iZ (tL k I) (tL k I) I.length=IM k 0 (aU I):=by
 rw[Cp k I _ (Nat.le_refl _),List.take_of_length_le (by rw[cY];exact Nat.le_refl _)]
theorem mE(I:List Int):Gs I=pP (aU I):=by
 unfold Gs pP
 rw[FB,jJ]
attribute [local go_sem ↓] Go.wp_at_zero Go.wp_at_succ
theorem jp:(Tryz.prog.info? 37).map (fun i=>(i.zero,i.size,i.bytes))=some (some (.int .u64 0),1,8):=by kernel_rfl
def bD(base:Nat)(w:World)(v:Value)(S:List Nat):Prop:=w.ownsRow base 37 1 v S.length (S.map ip)∧∀x∈S,x<18446744073709551616
theorem bD.below{d:Nat}{w l:World}{v:Value}{S:List Nat}(h:bD d w v S)(f:Below w.heap.size w l):bD d l v S:=
 ⟨h.1.kept (row:=none) ⟨f.os,f.tape,f.output,f.size,fun k m _=>f.block k m⟩ (by cases hv:v.ownBlock<;>simp),h.2⟩
theorem bD.bits{d:Nat}{w:World}{v:Value}{S:List Nat}(h:bD d w v S):∃ao cap,v=.slice ao S.length cap∧ac w ao cap (S.map (fun x:Nat=>(x:Int))):=by
 have H:(S.map ip).length=S.length:=by simp
 have z:∀x∈S.map (fun x:Nat=>(x:Int)),0≤x∧x≤18446744073709551615:=by
  intro x D
  obtain⟨y,A,rfl⟩:=List.mem_map.1 D
  have:=h.2 y A
  omega
 rcases h.1.2 with⟨l,I⟩|⟨g,cap,F,l,K,m,L,M,N,G⟩
 ·have:S= []:=List.length_eq_zero_iff.1 (by omega)
  subst this
  exact⟨none,0,l,⟨by simp,by simp,.inl rfl⟩⟩
 ·refine⟨some ⟨g,0,none⟩,cap,l,⟨by simp;omega,z,.inr ⟨g,0,rfl,(Array.getElem?_eq_some_iff.1 m).1,fun i t=>?_⟩⟩⟩
  have f:i<S.length:=by simpa using t
  have q:(S.map ip)[i]? =some (.int .u64 ((S[i]:Nat):Int)):=by
   rw[List.getElem?_map,List.getElem?_eq_getElem f];rfl
  rw[←G,List.getElem?_take,if_pos (by omega)]at q
  rw[cell_of_row w g _ _ _ _ m,Nat.zero_add]
  have e:(S.map (fun x:Nat=>(x:Int)))[i]?.getD 0=((S[i]:Nat):Int):=by simp[f]
  rw[e]
  simpa using q
theorem bD.nil(w:World)(d:Nat)(h:d≤w.heap.size):bD d (w.alloc (.cells #[] 37)) (.slice (some ⟨w.heap.size,0,none⟩) 0 0) []:=
 ⟨World.ownsRow_made w #[] 0 h (by simp[maxLen]) (by simp),by simp⟩
theorem bD.snoc{d:Nat}{w:World}{v:Value}{S:List Nat}{x n:Nat}(l:n=S.length)(h:w.ownsRow d 37 1 v (n+1) (S.map ip++[.int .u64 (x:Int)]))(m:∀x∈S,x<18446744073709551616)(t:x<18446744073709551616):bD d w v (S++[x]):=by
 subst l
 refine⟨by simpa[ip]using h,fun y z=>?_⟩
 rcases List.mem_append.1 z with f|f
 ·exact m y f
 ·simp at f;subst f;exact t
def gY(f:Nat→Nat)(k:Nat):List Nat:=(List.range k).map f
theorem dw(f:Nat→Nat)(k:Nat):(gY f k).length=k:=by simp[gY]
theorem iq(f:Nat→Nat)(k:Nat):gY f (k+1)=gY f k++[f k]:=by simp[gY,List.range_succ]
end Go.Proofs.YtlnphkioddknfaaGreatDoor
namespace Go.Proofs.YtlnphkioddknfaaGreatDoor
open Go.RowKit
theorem aT{P:Program}(w:World){d:Array Oper}{rest:List Oper}{o:Oper}{a:Act}{Q:Exit→Act→World→Prop}(f:o.guard=none)(s x:Operand)(t:TypeId)
  (A:o.op=.call {callee:=.builtin .append,args:=#[s,x],argTypes:=#[t,t]}) (l m y:Value) (z:World) (D:a.eval s=l) (F:a.eval x=m)
  (G:(Builtin.append_ #[t,t] o.type #[l,m]).run P w=.ok y z) (h:wpList P d Q rest (a.put o.dst y) z):wpList P d Q (o::rest) a w:=
 wpList_plain f fun _ H=>by
  unfold Oper.wp execOp
  simp only[A,resolve,invoke,builtin,Sem.run_bind,Sem.run_pure,Result.andThen_ok,List.map_toArray,List.map_cons,List.map_nil,D,F,G]
  exact H _ _ h
def Gt(v u:Value):Prop:=∀g,v.ownBlock=some g→u.ownBlock≠some g
theorem bD.push{d:Nat}{w:World}{v:Value}{S:List Nat}(h:bD d w v S)(x:Nat)(X:x<18446744073709551616)(hl:S.length≤1000000)(Y:d≤w.heap.size)(O:TypeId):
  ∃t f,(Builtin.append_ #[22,22] O #[v,.slice (some ⟨w.heap.size,0,none⟩) 1 1]).run Tryz.prog (w.alloc (.cells #[.int .u64 (x:Int)] 37))=.ok t f∧bD d f t (S++[x])∧Below d w f∧
   (∀u T,bD d w u T→Gt v u→bD d f u T∧Gt t u)∧(∀ao c I,ac w ao c I→(I= []∨∃b l,ao=some ⟨b,l,none⟩∧v.ownBlock≠some b)→ac f ao c I):=by
 obtain⟨i0,F,H,K,L⟩:=info_parts jp
 obtain⟨t,f,e1,e2,D,e4,y⟩:=run_append_own_at (P:=Tryz.prog) (w.alloc (.cells #[.int .u64 (x:Int)] 37)) d 22 O 37 i0 (.int .u64 0) 1 8 Tryz.underlying22 F H K L rfl (by decide) v S.length (S.map ip) (h.1.alloc _) ⟨w.heap.size,0,none⟩ 1 1 [.int .u64 (x:Int)] rfl (cell_one_new _ _ _) (fun u m=>by simp at m;subst m;rfl) (by unfold maxLen;omega) (by omega) (by simp;omega)
 have Z:bD d f t (S++[x]):=bD.snoc rfl e2 h.2 X
 refine⟨t,f,e1,Z,((ab w _).mono Y).grown D (by simp;omega) (fun g A=>(h.1.lt g A).1),?_,?_⟩
 ·intro u T m Q
  refine⟨⟨(m.1.alloc _).kept D ?_,m.2⟩,?_⟩
  ·cases hv:u.ownBlock with
   |none=>exact .inl rfl
   |some g=>
    right
    intro e
    exact Q g e.symm hv
  ·intro g A z
   rcases y with y|y
   ·exact Q g (by rw[←y];exact A) z
   ·rw[A]at y
    have h1:=(m.1.lt g z).2
    simp at y
    omega
 ·intro ao c I hI M
  have G:=hI.below (ab w (.cells #[.int .u64 (x:Int)] 37))
  refine⟨G.1,G.2.1,?_⟩
  rcases G.2.2 with e|⟨b,l,U,f2,f3⟩
  ·exact .inl e
  rcases M with e|⟨b',V,N,g2⟩
  ·exact .inl e
  rw[U]at N
  simp only[Option.some.injEq,Addr.mk.injEq]at N
  obtain⟨rfl,rfl,_⟩:=N
  refine .inr ⟨b,l,U,Nat.lt_of_lt_of_le f2 D.size,fun i F=>?_⟩
  exact D.cell (f3 i F) (fun e=>g2 e.symm)
def bW(r c:Nat)(f:Nat→Nat→Nat):List Nat:=(List.range (r*c)).map (fun p=>f (p/c) (p%c))
theorem cV{r c i k:Nat}(d:i<r)(h:k<c):i*c+k<r*c:=by
 have f:(i+1)*c≤r*c:=Nat.mul_le_mul_right c d
 rw[Nat.add_mul,Nat.one_mul]at f
 omega
theorem ir{c i k:Nat}(d:k<c):(i*c+k)/c=i:=by
 rw[Nat.add_comm,Nat.add_mul_div_right _ _ (by omega),Nat.div_eq_of_lt d,Nat.zero_add]
theorem iw{c i k:Nat}(d:k<c):(i*c+k)%c=k:=by
 rw[Nat.add_comm,Nat.add_mul_mod_self_right,Nat.mod_eq_of_lt d]
theorem iy{r c p:Nat}(h:p<r*c):p/c<r∧p%c<c∧p/c*c+p%c=p:=by
 have d:0<c:=by
  rcases Nat.eq_zero_or_pos c with e|e
  ·subst e;omega
  ·exact e
 refine⟨(Nat.div_lt_iff_lt_mul d).2 h,Nat.mod_lt _ d,?_⟩
 have:=Nat.div_add_mod p c
 rw[Nat.mul_comm]at this
 exact this
theorem yW{c i k x y:Nat}(d:k<c)(f:y<c):i*c+k=x*c+y↔i=x∧k=y:=by
 constructor
 ·intro h
  have l:=ir (i:=i) d
  have m:=iw (i:=i) d
  rw[h,ir f]at l
  rw[h,iw f]at m
  exact⟨l.symm,m.symm⟩
 ·rintro⟨rfl,rfl⟩;rfl
theorem bg(r c:Nat)(f:Nat→Nat→Nat):(bW r c f).length=r*c:=by simp[bW]
theorem kS(r c:Nat)(f:Nat→Nat→Nat)(p:Nat)(h:p<r*c):(bW r c f)[p]? =some (f (p/c) (p%c)):=by simp[bW,h]
theorem Ii(r c:Nat)(f:Nat→Nat→Nat){i k:Nat}(h:i<r)(d:k<c):(bW r c f)[i*c+k]? =some (f i k):=by
 rw[kS _ _ _ _ (cV h d),ir d,iw d]
theorem mG(r c:Nat)(f:Nat→Nat→Nat){i k:Nat}(d:i<r)(h:k<c):(bW r c f).getD (i*c+k) 0=f i k:=by
 rw[List.getD_eq_getElem?_getD,Ii r c f d h];rfl
theorem aX{r c:Nat}{f g:Nat→Nat→Nat}(h:∀i k,i<r→k<c→f i k=g i k):bW r c f=bW r c g:=by
 unfold bW
 refine List.map_congr_left (fun p d=>?_)
 obtain⟨l,m,_⟩:=iy (List.mem_range.1 d)
 exact h _ _ l m
theorem qW(r c:Nat)(S:List Nat)(h:S.length=r*c):bW r c (fun i k=>S.getD (i*c+k) 0)=S:=by
 refine List.ext_getElem? (fun p=>?_)
 rcases Nat.lt_or_ge p (r*c)with g|g
 ·rw[kS _ _ _ _ g,(iy g).2.2,List.getD_eq_getElem?_getD,List.getElem?_eq_getElem (by omega)];rfl
 ·rw[List.getElem?_eq_none (by rw[bg];exact g),List.getElem?_eq_none (by omega)]
theorem gL(r c:Nat):List.replicate (r*c) 0=bW r c (fun _ _=>0):=by
 refine List.ext_getElem? (fun p=>?_)
 rcases Nat.lt_or_ge p (r*c)with g|g
 ·rw[kS _ _ _ _ g,List.getElem?_replicate,if_pos g]
 ·rw[List.getElem?_eq_none (by simpa using g),List.getElem?_eq_none (by rw[bg];exact g)]
theorem iR(r c:Nat)(g:Nat→Nat→Nat)(v:Nat){i k:Nat}(_:i<r)(f:k<c):(bW r c g).set (i*c+k) v=bW r c (fun x y=>if x=i∧y=k then v else g x y):=by
 refine List.ext_getElem? (fun p=>?_)
 rcases Nat.lt_or_ge p (r*c)with h|h
 ·obtain⟨m,l,d⟩:=iy h
  rw[kS _ _ _ _ h,List.getElem?_set]
  have e:(i*c+k=p)↔(p/c=i∧p%c=k):=by
   rw[←d,yW f l,d]
   exact⟨fun⟨a,b⟩=>⟨a.symm,b.symm⟩,fun⟨a,b⟩=>⟨a.symm,b.symm⟩⟩
  by_cases q:i*c+k=p
  ·rw[if_pos q,if_pos (by rw[bg];omega),if_pos (e.1 q)]
  ·rw[if_neg q,if_neg (fun z=>q (e.2 z)),kS _ _ _ _ h]
 ·rw[List.getElem?_eq_none (by simpa[bg]using h),List.getElem?_eq_none (by rw[bg];exact h)]
def jM(f:Nat→Nat→Nat)(i k:Nat):Nat→Nat→Nat:=fun x y=>if x<i∨(x=i∧y<k)then f x y else 0
theorem oh(r c:Nat)(f:Nat→Nat→Nat):bW r c (jM f 0 0)=List.replicate (r*c) 0:=by
 rw[gL]
 exact aX (fun i k _ _=>by unfold jM;exact if_neg (by omega))
theorem tl(r c:Nat)(f:Nat→Nat→Nat){i k:Nat}(d:i<r)(l:k<c):(bW r c (jM f i k)).set (i*c+k) (f i k)=bW r c (jM f i (k+1)):=by
 rw[iR r c _ _ d l]
 refine aX (fun x y _ _=>?_)
 unfold jM
 by_cases h:x=i∧y=k
 ·obtain⟨rfl,rfl⟩:=h
  rw[if_pos ⟨rfl,rfl⟩,if_pos (by omega)]
 ·rw[if_neg h]
  by_cases g:x<i∨(x=i∧y<k)
  ·rw[if_pos g,if_pos (by omega)]
  ·rw[if_neg g,if_neg (by omega)]
theorem xg(r c:Nat)(f:Nat→Nat→Nat)(i:Nat):bW r c (jM f i c)=bW r c (jM f (i+1) 0):=by
 refine aX (fun x y _ d=>?_)
 unfold jM
 by_cases g:x<i+1
 ·rw[if_pos (by omega),if_pos (by omega)]
 ·rw[if_neg (by omega),if_neg (by omega)]
theorem xh(r c:Nat)(f:Nat→Nat→Nat):bW r c (jM f r 0)=bW r c f:=
 aX (fun x y d _=>by unfold jM;exact if_pos (.inl d))
def o9(f:Nat→Nat→Nat)(i k:Nat):Nat→Nat→Nat:=fun x y=>if y<i∨(y=i∧x<k)then f x y else 0
theorem Cq(r c:Nat)(f:Nat→Nat→Nat):bW r c (o9 f 0 0)=List.replicate (r*c) 0:=by
 rw[gL]
 exact aX (fun i k _ _=>by unfold o9;exact if_neg (by omega))
theorem Cr(r c:Nat)(f:Nat→Nat→Nat){i k:Nat}(d:i<c)(l:k<r):(bW r c (o9 f i k)).set (k*c+i) (f k i)=bW r c (o9 f i (k+1)):=by
 rw[iR r c _ _ l d]
 refine aX (fun x y _ _=>?_)
 unfold o9
 by_cases h:x=k∧y=i
 ·obtain⟨rfl,rfl⟩:=h
  rw[if_pos ⟨rfl,rfl⟩,if_pos (by omega)]
 ·rw[if_neg h]
  by_cases g:y<i∨(y=i∧x<k)
  ·rw[if_pos g,if_pos (by omega)]
  ·rw[if_neg g,if_neg (by omega)]
theorem FC(r c:Nat)(f:Nat→Nat→Nat)(i:Nat):bW r c (o9 f i r)=bW r c (o9 f (i+1) 0):=by
 refine aX (fun x y d _=>?_)
 unfold o9
 by_cases g:y<i+1
 ·rw[if_pos (by omega),if_pos (by omega)]
 ·rw[if_neg (by omega),if_neg (by omega)]
theorem FG(r c:Nat)(f:Nat→Nat→Nat):bW r c (o9 f c 0)=bW r c f:=
 aX (fun x y _ d=>by unfold o9;exact if_pos (.inl d))
def bB(c:Nat)(S:List Nat)(i k:Nat):Nat:=S.getD (i*c+k) 0
def mH(r c:Nat)(S:List Nat):List Nat:=bW c r (fun k i=>bB c S i k)
def qX(c:Nat)(S:List Nat)(i k p q:Nat):List Nat:=bW p q (fun x y=>bB c S (i+x) (k+y))
theorem Cs(r c:Nat)(f:Nat→Nat→Nat){i k:Nat}(d:i<r)(h:k<c):bB c (bW r c f) i k=f i k:=mG r c f d h
def zQ:Nat→(Nat→Nat)→(Nat→Nat)→Nat
 |0,_,_=>0
 |n+1,x,y=>aV (zQ n x y) (mV (x n) (y n))
theorem xi(I J:List Int)(n:Nat):iZ I J n=zQ n (aM I) (aM J):=by
 induction n with
 |zero=>rfl
 |succ n ih=>show aV (iZ I J n) _=aV (zQ n _ _) _;rw[ih]
theorem pY{x y d f:Nat→Nat}(n:Nat)(h:∀i,i<n→x i=d i)(k:∀i,i<n→y i=f i):zQ n x y=zQ n d f:=by
 induction n with
 |zero=>rfl
 |succ n ih=>show aV (zQ n x y) _=aV (zQ n d f) _;rw[ih (fun i l=>h i (by omega)) (fun i l=>k i (by omega)),h n (by omega),k n (by omega)]
theorem Ij(x y:Nat→Nat)(n:Nat):zQ n x y<18446744073709551616:=by
 induction n with
 |zero=>show 0<18446744073709551616;omega
 |succ n ih=>exact kG _ _ ih (gp _ _)
def FH(r n c:Nat)(A B:List Nat):List Nat:=bW r c (fun i k=>zQ n (fun j=>bB n A i j) (fun j=>bB c B j k))
def Ct(n:Nat):List Nat:=bW n n (fun i k=>if k=i then 4607182418800017408 else 0)
def JJ(f:Nat→Int):Nat→Int
 |0=>0
 |n+1=>JJ f n+f n
end Go.Proofs.YtlnphkioddknfaaGreatDoor
