/- Part 29 of the texts. -/
import Derived.Test.YtenpggicmfhhdaaGreatDoorParte28
namespace Go.Proofs.YtenpggicmfhhdaaGreatDoor
open Go.RowKit
def aU(I:List Int):List Nat:=I.map Int.toNat
theorem cP(I:List Int):(aU I).length=I.length:=by simp[aU]
theorem mW(I:List Int)(j:Nat)(d:j<I.length):(aU I)[j]? =some (aP I j):=by simp[aU,aP,d]
theorem j8(I:List Int)(j:Nat)(d:j<I.length):(aU I).take (j+1)=(aU I).take j++[aP I j]:=by
 rw[List.take_add_one,mW I j d]
 rfl
theorem Dp(I:List Int)(P:Nat→Prop)(h:∀j,j<I.length→P (aP I j)):∀x∈aU I,P x:=by
 intro x l
 obtain⟨j,f,rfl⟩:=List.getElem_of_mem l
 have d:j<I.length:=by rw[←cP];exact f
 have e:=mW I j d
 rw[List.getElem?_eq_getElem f]at e
 rw[Option.some.inj e]
 exact h j d
theorem zK(x:Nat):∀(d:List Nat) (m:Nat),nE m (d++[x])=mx (nE m d) (fR x):=by
 intro d
 induction d with
 |nil=>intro m;rfl
 |cons y ys ih=>intro m;exact ih _
theorem zL(k:Int)(x:Nat):∀(d:List Nat) (s:Nat),ER k s (d++[x])=GJ k (ER k s d) x:=by
 intro d
 induction d with
 |nil=>intro m;rfl
 |cons y ys ih=>intro m;exact ih _
theorem zM(I:List Int):∀j,j≤I.length→ja I j=nE 0 ((aU I).take j):=by
 intro j
 induction j with
 |zero=>intro _;rfl
 |succ j ih=>
  intro d
  rw[j8 I j (by omega),zK,←ih (by omega)]
  rfl
theorem lE(I:List Int):ja I I.length=nE 0 (aU I):=by
 rw[zM I _ (Nat.le_refl _),List.take_of_length_le (by rw[cP];exact Nat.le_refl _)]
theorem zN(k:Int)(I:List Int):∀j,j≤I.length→jl (tL k I) (tL k I) j=ER k 0 ((aU I).take j):=by
 intro j
 induction j with
 |zero=>intro _;rfl
 |succ j ih=>
  intro d
  rw[j8 I j (by omega),zL,←ih (by omega)]
  show aV (jl (tL k I) (tL k I) j) (mV (aP (tL k I) j) (aP (tL k I) j))=_
  rw[show aP (tL k I) j=xV (aP I j) (-k)from zB _ _ j (by omega)]
  rfl
theorem Dq(k:Int)(I:List Int):jl (tL k I) (tL k I) I.length=ER k 0 (aU I):=by
 rw[zN k I _ (Nat.le_refl _),List.take_of_length_le (by rw[cP];exact Nat.le_refl _)]
theorem lF(I:List Int):D7 I=nF (aU I):=by
 unfold D7 nF
 rw[Dq,lE]
attribute [local go_sem ↓] Go.wp_at_zero Go.wp_at_succ
theorem gO:(Tryz.prog.info? 30).map (fun i=>(i.zero,i.size,i.bytes))=some (some (.int .u64 0),1,8):=by kernel_rfl
def bK(base:Nat)(w:World)(v:Value)(S:List Nat):Prop:=w.ownsRow base 30 1 v S.length (S.map fY)∧∀x∈S,x<18446744073709551616
theorem bK.below{d:Nat}{w l:World}{v:Value}{S:List Nat}(h:bK d w v S)(f:Below w.heap.size w l):bK d l v S:=
 ⟨h.1.kept (row:=none) ⟨f.os,f.tape,f.output,f.size,fun k m _=>f.block k m⟩ (by cases hv:v.ownBlock<;>simp),h.2⟩
theorem bK.bits{f:Nat}{w:World}{v:Value}{S:List Nat}(h:bK f w v S):∃t d,v=.slice t S.length d∧ab w t d (S.map (fun x:Nat=>(x:Int))):=by
 have K:(S.map fY).length=S.length:=by simp
 have D:∀x∈S.map (fun x:Nat=>(x:Int)),0≤x∧x≤18446744073709551615:=by
  intro x G
  obtain⟨y,F,rfl⟩:=List.mem_map.1 G
  have:=h.2 y F
  omega
 rcases h.1.2 with⟨m,L⟩|⟨g,d,H,m,M,z,N,O,Q,I⟩
 ·have:S= []:=List.length_eq_zero_iff.1 (by omega)
  subst this
  exact⟨none,0,m,⟨by simp,by simp,.inl rfl⟩⟩
 ·refine⟨some ⟨g,0,none⟩,d,m,⟨by simp;omega,D,.inr ⟨g,0,rfl,(Array.getElem?_eq_some_iff.1 z).1,fun i A=>?_⟩⟩⟩
  have l:i<S.length:=by simpa using A
  have q:(S.map fY)[i]? =some (.int .u64 ((S[i]:Nat):Int)):=by
   rw[List.getElem?_map,List.getElem?_eq_getElem l];rfl
  rw[←I,List.getElem?_take,if_pos (by omega)]at q
  rw[cell_of_row w g _ _ _ _ z,Nat.zero_add]
  have e:(S.map (fun x:Nat=>(x:Int)))[i]?.getD 0=((S[i]:Nat):Int):=by simp[l]
  rw[e]
  simpa using q
theorem bK.nil(w:World)(d:Nat)(h:d≤w.heap.size):bK d (w.alloc (.cells #[] 30)) (.slice (some ⟨w.heap.size,0,none⟩) 0 0) []:=
 ⟨World.ownsRow_made w #[] 0 h (by simp[maxLen]) (by simp),by simp⟩
theorem bK.snoc{d:Nat}{w:World}{v:Value}{S:List Nat}{x n:Nat}(l:n=S.length)(h:w.ownsRow d 30 1 v (n+1) (S.map fY++[.int .u64 (x:Int)]))(m:∀x∈S,x<18446744073709551616)(t:x<18446744073709551616):bK d w v (S++[x]):=by
 subst l
 refine⟨by simpa[fY]using h,fun y z=>?_⟩
 rcases List.mem_append.1 z with f|f
 ·exact m y f
 ·simp at f;subst f;exact t
def ib(f:Nat→Nat)(k:Nat):List Nat:=(List.range k).map f
theorem eD(f:Nat→Nat)(k:Nat):(ib f k).length=k:=by simp[ib]
theorem iG(f:Nat→Nat)(k:Nat):ib f (k+1)=ib f k++[f k]:=by simp[ib,List.range_succ]
end Go.Proofs.YtenpggicmfhhdaaGreatDoor
namespace Go.Proofs.YtenpggicmfhhdaaGreatDoor
open Go.RowKit
theorem aX{P:Program}(w:World){d:Array Oper}{rest:List Oper}{o:Oper}{a:Act}{Q:Exit→Act→World→Prop}(f:o.guard=none)(s x:Operand)(t:TypeId)
  (A:o.op=.call {callee:=.builtin .append,args:=#[s,x],argTypes:=#[t,t]}) (l m y:Value) (z:World) (D:a.eval s=l) (F:a.eval x=m)
  (G:(Builtin.append_ #[t,t] o.type #[l,m]).run P w=.ok y z) (h:wpList P d Q rest (a.put o.dst y) z):wpList P d Q (o::rest) a w:=
 wpList_plain f fun _ H=>by
  unfold Oper.wp execOp
  simp only[A,resolve,invoke,builtin,Sem.run_bind,Sem.run_pure,Result.andThen_ok,List.map_toArray,List.map_cons,List.map_nil,D,F,G]
  exact H _ _ h
def D8(v u:Value):Prop:=∀g,v.ownBlock=some g→u.ownBlock≠some g
theorem bK.push{d:Nat}{w:World}{v:Value}{S:List Nat}(h:bK d w v S)(x:Nat)(Y:x<18446744073709551616)(hl:S.length≤1000000)(Z:d≤w.heap.size)(Q:TypeId):
  ∃t f,(Builtin.append_ #[22,22] Q #[v,.slice (some ⟨w.heap.size,0,none⟩) 1 1]).run Tryz.prog (w.alloc (.cells #[.int .u64 (x:Int)] 30))=.ok t f∧bK d f t (S++[x])∧Below d w f∧
   (∀u T,bK d w u T→D8 v u→bK d f u T∧D8 t u)∧(∀D c I,ab w D c I→(I= []∨∃b l,D=some ⟨b,l,none⟩∧v.ownBlock≠some b)→ab f D c I):=by
 obtain⟨i0,G,K,L,M⟩:=info_parts gO
 obtain⟨t,f,e1,e2,F,e4,y⟩:=run_append_own_at (P:=Tryz.prog) (w.alloc (.cells #[.int .u64 (x:Int)] 30)) d 22 Q 30 i0 (.int .u64 0) 1 8 Tryz.underlying22 G K L M rfl (by decide) v S.length (S.map fY) (h.1.alloc _) ⟨w.heap.size,0,none⟩ 1 1 [.int .u64 (x:Int)] rfl (cell_one_new _ _ _) (fun u m=>by simp at m;subst m;rfl) (by unfold maxLen;omega) (by omega) (by simp;omega)
 have hn:bK d f t (S++[x]):=bK.snoc rfl e2 h.2 Y
 refine⟨t,f,e1,hn,((ac w _).mono Z).grown F (by simp;omega) (fun g A=>(h.1.lt g A).1),?_,?_⟩
 ·intro u T m U
  refine⟨⟨(m.1.alloc _).kept F ?_,m.2⟩,?_⟩
  ·cases hv:u.ownBlock with
   |none=>exact .inl rfl
   |some g=>
    right
    intro e
    exact U g e.symm hv
  ·intro g A z
   rcases y with y|y
   ·exact U g (by rw[←y];exact A) z
   ·rw[A]at y
    have h1:=(m.1.lt g z).2
    simp at y
    omega
 ·intro D c I hI N
  have H:=hI.below (ac w (.cells #[.int .u64 (x:Int)] 30))
  refine⟨H.1,H.2.1,?_⟩
  rcases H.2.2 with e|⟨b,l,V,f2,f3⟩
  ·exact .inl e
  rcases N with e|⟨b',X,O,g2⟩
  ·exact .inl e
  rw[V]at O
  simp only[Option.some.injEq,Addr.mk.injEq]at O
  obtain⟨rfl,rfl,_⟩:=O
  refine .inr ⟨b,l,V,Nat.lt_of_lt_of_le f2 F.size,fun i G=>?_⟩
  exact F.cell (f3 i G) (fun e=>g2 e.symm)
def dC(r c:Nat)(f:Nat→Nat→Nat):List Nat:=(List.range (r*c)).map (fun p=>f (p/c) (p%c))
theorem cY{r c i k:Nat}(d:i<r)(h:k<c):i*c+k<r*c:=by
 have f:(i+1)*c≤r*c:=Nat.mul_le_mul_right c d
 rw[Nat.add_mul,Nat.one_mul]at f
 omega
theorem fv{c i k:Nat}(d:k<c):(i*c+k)/c=i:=by
 rw[Nat.add_comm,Nat.add_mul_div_right _ _ (by omega),Nat.div_eq_of_lt d,Nat.zero_add]
theorem fw{c i k:Nat}(d:k<c):(i*c+k)%c=k:=by
 rw[Nat.add_comm,Nat.add_mul_mod_self_right,Nat.mod_eq_of_lt d]
theorem gP{r c p:Nat}(h:p<r*c):p/c<r∧p%c<c∧p/c*c+p%c=p:=by
 have d:0<c:=by
  rcases Nat.eq_zero_or_pos c with e|e
  ·subst e;omega
  ·exact e
 refine⟨(Nat.div_lt_iff_lt_mul d).2 h,Nat.mod_lt _ d,?_⟩
 have:=Nat.div_add_mod p c
 rw[Nat.mul_comm]at this
 exact this
theorem wH{c i k x y:Nat}(d:k<c)(f:y<c):i*c+k=x*c+y↔i=x∧k=y:=by
 constructor
 ·intro h
  have l:=fv (i:=i) d
  have m:=fw (i:=i) d
  rw[h,fv f]at l
  rw[h,fw f]at m
  exact⟨l.symm,m.symm⟩
 ·rintro⟨rfl,rfl⟩;rfl
theorem bY(r c:Nat)(f:Nat→Nat→Nat):(dC r c f).length=r*c:=by simp[dC]
theorem kc(r c:Nat)(f:Nat→Nat→Nat)(p:Nat)(h:p<r*c):(dC r c f)[p]? =some (f (p/c) (p%c)):=by simp[dC,h]
theorem Fj(r c:Nat)(f:Nat→Nat→Nat){i k:Nat}(h:i<r)(d:k<c):(dC r c f)[i*c+k]? =some (f i k):=by
 rw[kc _ _ _ _ (cY h d),fv d,fw d]
theorem Dr(r c:Nat)(f:Nat→Nat→Nat){i k:Nat}(d:i<r)(h:k<c):(dC r c f).getD (i*c+k) 0=f i k:=by
 rw[List.getD_eq_getElem?_getD,Fj r c f d h];rfl
theorem bC{r c:Nat}{f g:Nat→Nat→Nat}(h:∀i k,i<r→k<c→f i k=g i k):dC r c f=dC r c g:=by
 unfold dC
 refine List.map_congr_left (fun p d=>?_)
 obtain⟨l,m,_⟩:=gP (List.mem_range.1 d)
 exact h _ _ l m
theorem jz(r c:Nat)(S:List Nat)(h:S.length=r*c):dC r c (fun i k=>S.getD (i*c+k) 0)=S:=by
 refine List.ext_getElem? (fun p=>?_)
 rcases Nat.lt_or_ge p (r*c)with g|g
 ·rw[kc _ _ _ _ g,(gP g).2.2,List.getD_eq_getElem?_getD,List.getElem?_eq_getElem (by omega)];rfl
 ·rw[List.getElem?_eq_none (by rw[bY];exact g),List.getElem?_eq_none (by omega)]
theorem kX(r c:Nat):List.replicate (r*c) 0=dC r c (fun _ _=>0):=by
 refine List.ext_getElem? (fun p=>?_)
 rcases Nat.lt_or_ge p (r*c)with g|g
 ·rw[kc _ _ _ _ g,List.getElem?_replicate,if_pos g]
 ·rw[List.getElem?_eq_none (by simpa using g),List.getElem?_eq_none (by rw[bY];exact g)]
theorem ke(r c:Nat)(g:Nat→Nat→Nat)(v:Nat){i k:Nat}(_:i<r)(f:k<c):(dC r c g).set (i*c+k) v=dC r c (fun x y=>if x=i∧y=k then v else g x y):=by
 refine List.ext_getElem? (fun p=>?_)
 rcases Nat.lt_or_ge p (r*c)with h|h
 ·obtain⟨m,l,d⟩:=gP h
  rw[kc _ _ _ _ h,List.getElem?_set]
  have e:(i*c+k=p)↔(p/c=i∧p%c=k):=by
   rw[←d,wH f l,d]
   exact⟨fun⟨a,b⟩=>⟨a.symm,b.symm⟩,fun⟨a,b⟩=>⟨a.symm,b.symm⟩⟩
  by_cases q:i*c+k=p
  ·rw[if_pos q,if_pos (by rw[bY];omega),if_pos (e.1 q)]
  ·rw[if_neg q,if_neg (fun z=>q (e.2 z)),kc _ _ _ _ h]
 ·rw[List.getElem?_eq_none (by simpa[bY]using h),List.getElem?_eq_none (by rw[bY];exact h)]
def n6(f:Nat→Nat→Nat)(i k:Nat):Nat→Nat→Nat:=fun x y=>if y<i∨(y=i∧x<k)then f x y else 0
theorem zO(r c:Nat)(f:Nat→Nat→Nat):dC r c (n6 f 0 0)=List.replicate (r*c) 0:=by
 rw[kX]
 exact bC (fun i k _ _=>by unfold n6;exact if_neg (by omega))
theorem zP(r c:Nat)(f:Nat→Nat→Nat){i k:Nat}(d:i<c)(l:k<r):(dC r c (n6 f i k)).set (k*c+i) (f k i)=dC r c (n6 f i (k+1)):=by
 rw[ke r c _ _ l d]
 refine bC (fun x y _ _=>?_)
 unfold n6
 by_cases h:x=k∧y=i
 ·obtain⟨rfl,rfl⟩:=h
  rw[if_pos ⟨rfl,rfl⟩,if_pos (by omega)]
 ·rw[if_neg h]
  by_cases g:y<i∨(y=i∧x<k)
  ·rw[if_pos g,if_pos (by omega)]
  ·rw[if_neg g,if_neg (by omega)]
theorem Ds(r c:Nat)(f:Nat→Nat→Nat)(i:Nat):dC r c (n6 f i r)=dC r c (n6 f (i+1) 0):=by
 refine bC (fun x y d _=>?_)
 unfold n6
 by_cases g:y<i+1
 ·rw[if_pos (by omega),if_pos (by omega)]
 ·rw[if_neg (by omega),if_neg (by omega)]
theorem Dt(r c:Nat)(f:Nat→Nat→Nat):dC r c (n6 f c 0)=dC r c f:=
 bC (fun x y _ d=>by unfold n6;exact if_pos (.inl d))
def dJ(c:Nat)(S:List Nat)(i k:Nat):Nat:=S.getD (i*c+k) 0
def d8(r c:Nat)(S:List Nat):List Nat:=dC c r (fun k i=>dJ c S i k)
def FO(c:Nat)(S:List Nat)(i k p q:Nat):List Nat:=dC p q (fun x y=>dJ c S (i+x) (k+y))
theorem oY(r c:Nat)(f:Nat→Nat→Nat){i k:Nat}(d:i<r)(h:k<c):dJ c (dC r c f) i k=f i k:=Dr r c f d h
theorem Gi(r c:Nat)(S:List Nat)(h:S.length=r*c):d8 c r (d8 r c S)=S:=by
 rw[←jz r c S h]
 refine bC (fun i k d f=>?_)
 unfold d8
 rw[oY c r _ f d,oY r c _ d f]
def wI(n:Nat):List Nat:=dC n n (fun i k=>if k=i then 4607182418800017408 else 0)
def GB(f:Nat→Int):Nat→Int
 |0=>0
 |n+1=>GB f n+f n
end Go.Proofs.YtenpggicmfhhdaaGreatDoor
