/- Part 35 of the texts. -/
import Derived.Test.YtmpkkhackbpflaaGreatDoorPartg34
namespace Go.Proofs.YtmpkkhackbpflaaGreatDoor
open Go.RowKit
attribute [local go_sem ↓] Go.wp_at_zero Go.wp_at_succ
def NE(I:List Int):Nat→Int
 |0=>0
 |k+1=>NE I k+fZ (bN I k)*fZ (bN I k)
end Go.Proofs.YtmpkkhackbpflaaGreatDoor
namespace Go.Proofs.YtmpkkhackbpflaaGreatDoor
open Go.RowKit
def co(I:List Int):List Nat:=I.map Int.toNat
theorem gZ(I:List Int):(co I).length=I.length:=by simp[co]
theorem qd(I:List Int)(j:Nat)(d:j<I.length):(co I)[j]? =some (bN I j):=by simp[co,bN,d]
theorem mB(I:List Int)(j:Nat)(d:j<I.length):(co I).take (j+1)=(co I).take j++[bN I j]:=by
 rw[List.take_add_one,qd I j d]
 rfl
theorem H6(I:List Int)(P:Nat→Prop)(h:∀j,j<I.length→P (bN I j)):∀x∈co I,P x:=by
 intro x t
 obtain⟨j,l,rfl⟩:=List.getElem_of_mem t
 have d:j<I.length:=by rw[←gZ];exact l
 have e:=qd I j d
 rw[List.getElem?_eq_getElem l]at e
 rw[Option.some.inj e]
 exact h j d
theorem EK(x:Nat):∀(d:List Nat) (m:Nat),bS m (d++[x])=mx (bS m d) (fR x):=by
 intro d
 induction d with
 |nil=>intro m;rfl
 |cons y ys ih=>intro m;exact ih _
theorem EL(k:Int)(x:Nat):∀(d:List Nat) (s:Nat),oK k s (d++[x])=DZ k (oK k s d) x:=by
 intro d
 induction d with
 |nil=>intro m;rfl
 |cons y ys ih=>intro m;exact ih _
theorem EM(I:List Int):∀j,j≤I.length→p7 I j=bS 0 ((co I).take j):=by
 intro j
 induction j with
 |zero=>intro _;rfl
 |succ j ih=>
  intro d
  rw[mB I j (by omega),EK,←ih (by omega)]
  rfl
theorem oO(I:List Int):p7 I I.length=bS 0 (co I):=by
 rw[EM I _ (Nat.le_refl _),List.take_of_length_le (by rw[gZ];exact Nat.le_refl _)]
theorem EN(k:Int)(I:List Int):∀j,j≤I.length→wJ (tL k I) (tL k I) j=oK k 0 ((co I).take j):=by
 intro j
 induction j with
 |zero=>intro _;rfl
 |succ j ih=>
  intro d
  rw[mB I j (by omega),EL,←ih (by omega)]
  show aV (wJ (tL k I) (tL k I) j) (mV (bN (tL k I) j) (bN (tL k I) j))=_
  rw[show bN (tL k I) j=xV (bN I j) (-k)from Lv _ _ j (by omega)]
  rfl
theorem H7(k:Int)(I:List Int):wJ (tL k I) (tL k I) I.length=oK k 0 (co I):=by
 rw[EN k I _ (Nat.le_refl _),List.take_of_length_le (by rw[gZ];exact Nat.le_refl _)]
theorem tw(I:List Int):Mu I=aX (co I):=by
 unfold Mu aX
 rw[H7,oO]
attribute [local go_sem ↓] Go.wp_at_zero Go.wp_at_succ
theorem qe:(Tryz.prog.info? 28).map (fun i=>(i.zero,i.size,i.bytes))=some (some (.int .u64 0),1,8):=by kernel_rfl
def gL(base:Nat)(w:World)(v:Value)(S:List Nat):Prop:=w.ownsRow base 28 1 v S.length (S.map lj)∧∀x∈S,x<18446744073709551616
theorem gL.below{d:Nat}{w t:World}{v:Value}{S:List Nat}(h:gL d w v S)(l:Below w.heap.size w t):gL d t v S:=
 ⟨h.1.kept (row:=none) ⟨l.os,l.tape,l.output,l.size,fun k z _=>l.block k z⟩ (by cases hv:v.ownBlock<;>simp),h.2⟩
theorem gL.bits{l:Nat}{w:World}{v:Value}{S:List Nat}(h:gL l w v S):∃D d,v=.slice D S.length d∧ak w D d (S.map (fun x:Nat=>(x:Int))):=by
 have N:(S.map lj).length=S.length:=by simp
 have H:∀x∈S.map (fun x:Nat=>(x:Int)),0≤x∧x≤18446744073709551615:=by
  intro x J
  obtain⟨y,I,rfl⟩:=List.mem_map.1 J
  have:=h.2 y I
  omega
 rcases h.1.2 with⟨z,O⟩|⟨g,d,L,z,Q,F,T,U,V,M⟩
 ·have:S= []:=List.length_eq_zero_iff.1 (by omega)
  subst this
  exact⟨none,0,z,⟨by simp,by simp,.inl rfl⟩⟩
 ·refine⟨some ⟨g,0,none⟩,d,z,⟨by simp;omega,H,.inr ⟨g,0,rfl,(Array.getElem?_eq_some_iff.1 F).1,fun i G=>?_⟩⟩⟩
  have t:i<S.length:=by simpa using G
  have q:(S.map lj)[i]? =some (.int .u64 ((S[i]:Nat):Int)):=by
   rw[List.getElem?_map,List.getElem?_eq_getElem t];rfl
  rw[←M,List.getElem?_take,if_pos (by omega)]at q
  rw[cell_of_row w g _ _ _ _ F,Nat.zero_add]
  have e:(S.map (fun x:Nat=>(x:Int)))[i]?.getD 0=((S[i]:Nat):Int):=by simp[t]
  rw[e]
  simpa using q
theorem gL.snoc{d:Nat}{w:World}{v:Value}{S:List Nat}{x n:Nat}(t:n=S.length)(h:w.ownsRow d 28 1 v (n+1) (S.map lj++[.int .u64 (x:Int)]))(z:∀x∈S,x<18446744073709551616)(D:x<18446744073709551616):gL d w v (S++[x]):=by
 subst t
 refine⟨by simpa[lj]using h,fun y F=>?_⟩
 rcases List.mem_append.1 F with l|l
 ·exact z y l
 ·simp at l;subst l;exact D
def q8(f:Nat→Nat)(k:Nat):List Nat:=(List.range k).map f
theorem oP(f:Nat→Nat)(k:Nat):(q8 f k).length=k:=by simp[q8]
theorem vU(f:Nat→Nat)(k:Nat):q8 f (k+1)=q8 f k++[f k]:=by simp[q8,List.range_succ]
end Go.Proofs.YtmpkkhackbpflaaGreatDoor
namespace Go.Proofs.YtmpkkhackbpflaaGreatDoor
open Go.RowKit
theorem fU{P:Program}(w:World){d:Array Oper}{rest:List Oper}{o:Oper}{a:Act}{Q:Exit→Act→World→Prop}(l:o.guard=none)(s x:Operand)(t:TypeId)
  (G:o.op=.call {callee:=.builtin .append,args:=#[s,x],argTypes:=#[t,t]}) (z D v':Value) (F:World) (H:a.eval s=z) (I:a.eval x=D)
  (J:(Builtin.append_ #[t,t] o.type #[z,D]).run P w=.ok v' F) (h:wpList P d Q rest (a.put o.dst v') F):wpList P d Q (o::rest) a w:=
 wpList_plain l fun _ L=>by
  unfold Oper.wp execOp
  simp only[G,resolve,invoke,builtin,Sem.run_bind,Sem.run_pure,Result.andThen_ok,List.map_toArray,List.map_cons,List.map_nil,H,I,J]
  exact L _ _ h
def Jt(v u:Value):Prop:=∀g,v.ownBlock=some g→u.ownBlock≠some g
theorem gL.push{d:Nat}{w:World}{v:Value}{S:List Nat}(h:gL d w v S)(x:Nat)(hx:x<18446744073709551616)(hl:S.length≤1000000)(hb:d≤w.heap.size)(X:TypeId):
  ∃v' l,(Builtin.append_ #[23,23] X #[v,.slice (some ⟨w.heap.size,0,none⟩) 1 1]).run Tryz.prog (w.alloc (.cells #[.int .u64 (x:Int)] 28))=.ok v' l∧gL d l v' (S++[x])∧Below d w l∧
   (∀u T,gL d w u T→Jt v u→gL d l u T∧Jt v' u)∧(∀H c I,ak w H c I→(I= []∨∃b t,H=some ⟨b,t,none⟩∧v.ownBlock≠some b)→ak l H c I):=by
 obtain⟨i0,L,N,O,Q⟩:=info_parts qe
 obtain⟨v',l,e1,e2,J,e4,D⟩:=run_append_own_at (P:=Tryz.prog) (w.alloc (.cells #[.int .u64 (x:Int)] 28)) d 23 X 28 i0 (.int .u64 0) 1 8 Tryz.underlying23 L N O Q rfl (by decide) v S.length (S.map lj) (h.1.alloc _) ⟨w.heap.size,0,none⟩ 1 1 [.int .u64 (x:Int)] rfl (cell_one_new _ _ _) (fun u z=>by simp at z;subst z;rfl) (by unfold maxLen;omega) (by omega) (by simp;omega)
 have hn:gL d l v' (S++[x]):=gL.snoc rfl e2 h.2 hx
 refine⟨v',l,e1,hn,((ag w _).mono hb).grown J (by simp;omega) (fun g G=>(h.1.lt g G).1),?_,?_⟩
 ·intro u T z Y
  refine⟨⟨(z.1.alloc _).kept J ?_,z.2⟩,?_⟩
  ·cases hv:u.ownBlock with
   |none=>exact .inl rfl
   |some g=>
    right
    intro e
    exact Y g e.symm hv
  ·intro g G F
   rcases D with D|D
   ·exact Y g (by rw[←D];exact G) F
   ·rw[G]at D
    have h1:=(z.1.lt g F).2
    simp at D
    omega
 ·intro H c I hI U
  have M:=hI.below (ag w (.cells #[.int .u64 (x:Int)] 28))
  refine⟨M.1,M.2.1,?_⟩
  rcases M.2.2 with e|⟨b,t,Z,f2,f3⟩
  ·exact .inl e
  rcases U with e|⟨b',aa,V,g2⟩
  ·exact .inl e
  rw[Z]at V
  simp only[Option.some.injEq,Addr.mk.injEq]at V
  obtain⟨rfl,rfl,_⟩:=V
  refine .inr ⟨b,t,Z,Nat.lt_of_lt_of_le f2 J.size,fun i L=>?_⟩
  exact J.cell (f3 i L) (fun e=>g2 e.symm)
def nL:Value→Bool
 | .int .u32 _=>false
 |_=>true
def eR(w:World)(v:Value):Prop:=∀g,v.ownBlock=some g→∃cur e,w.heap[g]? =some (.cells cur e (0,0))∧∀u∈cur.toList,nL u=true
theorem eR.below{w l:World}{v:Value}(h:eR w v)(z:Below w.heap.size w l):eR l v:=by
 intro g F
 obtain⟨d,e,t,D⟩:=h g F
 exact⟨d,e,(z.block g (Array.getElem?_eq_some_iff.1 t).1).trans t,D⟩
theorem eR.limbs{w:World}{v:Value}(h:eR w v){t:Option Addr}{l:Nat}{L:List Nat}(G:af w t l L):L= []∨∃b d,t=some ⟨b,d,none⟩∧b<w.heap.size∧some b≠v.ownBlock∧∀i,i<L.length→w.cell? ⟨b,d+i,none⟩=some (.int .u32 ((L[i]?.getD 0:Nat):Int)):=by
 rcases G.2.2 with e|⟨b,d,Q,T,F⟩
 ·exact .inl e
 ·by_cases z:L= []
  ·exact .inl z
  ·refine .inr ⟨b,d,Q,T,fun H=>?_,F⟩
   obtain⟨M,e,N,O⟩:=h b H.symm
   have I:0<L.length:=List.length_pos_iff.2 z
   have D:=F 0 I
   rw[cell_of_row w b (d+0) _ _ _ N]at D
   have J:=Array.mem_of_getElem? D
   have:=O _ (Array.mem_toList_iff.2 J)
   cases this
theorem nM(z:Array Value)(n:Nat)(h:∀u∈z.toList,nL u=true):∀u∈(Builtin.zeroCells z n).toList,nL u=true:=by
 intro u t
 unfold Builtin.zeroCells at t
 rw[Array.mem_toList_iff,Array.mem_map]at t
 obtain⟨i,F,rfl⟩:=t
 have d:i<n*z.size:=by simpa using F
 have D:0<z.size:=by
  rcases Nat.eq_zero_or_pos z.size with e|e
  ·rw[e]at d;simp at d
  ·exact e
 have l:i%z.size<z.size:=Nat.mod_lt _ D
 rw[getElem!_pos z (i%z.size) l]
 exact h _ (Array.mem_toList_iff.2 (Array.getElem_mem l))
theorem ja{P:Program}(w:World)(I:Nat)(t ty e:TypeId)(i:TypeInfo)(z:Value)(l H:Nat)(ht:P.underlying t=some (.slice e))(hi:P.info? e=some i)(hz:i.zero=some z)
  (J:i.size=l) (aa:i.bytes=H) (aq:z.cells.size=l) (ax:0<l)
  (v:Value) (n:Nat) (T:List Value) (D:w.ownsRow I e l v n T)
  (a:Addr) (m c:Nat) (d:List Value) (hl:d.length=m*l) (F:∀j u,d[j]? =some u→w.cell? (a.add j)=some u) (h1:∀u∈d,u.oneCell'=true)
  (ad:n+m≤maxLen) (G:(n+m)*H≤140737488355328) (U:I≤w.heap.size) (hm:0<m)
  (ae:eR w v) (ay:∀u∈z.cells.toList,nL u=true) (V:∀u∈d,nL u=true):
  ∃v' Z,(Builtin.append_ #[t,t] ty #[v,.slice (some a) m c]).run P w=.ok v' Z∧Z.ownsRow I e l v' (n+m) (T++d)∧w.grownBy Z v.ownBlock∧
   (v'.ownBlock=v.ownBlock∨v'.ownBlock=some w.heap.size)∧eR Z v':=by
 obtain⟨v',Z,e1,e2,e3,_,e5⟩:=run_append_own_at (P:=P) w I t ty e i z l H ht hi hz J aa aq ax v n T D a m c d hl F h1 ad G U
 refine⟨v',Z,e1,e2,e3,e5,?_⟩
 subst J
 subst aa
 have ap:n+m≤9223372036854775807:=by simp only[maxLen]at ad;omega
 have ai:=fun k=>nM z.cells k ay
 have hx:∀u∈T,nL u=true:=by
  rcases D.2 with⟨rfl,rfl⟩|⟨g,N,O,rfl,_,Y,_,_,_,M⟩
  ·intro u h
   have:T= []:=List.eq_nil_of_length_eq_zero (by simpa using D.1)
   rw[this]at h
   cases h
  ·intro u h
   obtain⟨ao,e',g1,g2⟩:=ae g rfl
   rw[Y]at g1
   cases g1
   rw[←M]at h
   exact g2 u (List.mem_of_mem_take h)
 rcases D.2 with⟨rfl,rfl⟩|⟨g,N,O,rfl,aI,Y,aD,a0,az,M⟩
 ·have Q:=run_append_nil (P:=P) w t ty e i z ht hi hz a m c d hl F hm (by omega) (by have hb:=G;simp only[Nat.zero_add]at hb;omega)
  rw[e1]at Q
  cases Q
  intro g Y
  cases Y
  refine⟨_,e,heap_alloc_new w.drew _,fun u h=>?_⟩
  simp only[Array.toList_append,List.mem_append]at h
  rcases h with h|h
  ·exact V u (by simpa using h)
  ·exact ai _ u h
 ·by_cases L:n+m≤N
  ·have am:n*i.size+d.length≤O.size:=by rw[hl,az,←Nat.add_mul];exact Nat.mul_le_mul_right _ L
   have Q:=run_append_room (P:=P) w t ty e i ht hi g n N O Y a m c d hl F h1 L am
   rw[e1]at Q
   cases Q
   intro k hk
   cases hk
   refine⟨_,e,setRow_heap w g O _ e _ Y,fun u h=>?_⟩
   obtain⟨ao,e',g1,g2⟩:=ae g rfl
   rw[Y]at g1
   cases g1
   simp only[List.mem_append]at h
   rcases h with(h|h)|h
   ·exact g2 u (List.mem_of_mem_take h)
   ·exact V u h
   ·exact g2 u (List.mem_of_mem_drop h)
  ·have X:∀j u,T[j]? =some u→w.cell? ((⟨g,0,none⟩:Addr).add j)=some u:=D.cells (g:=g) rfl
   have Q:=run_append_grow (P:=P) w t ty e i z ht hi hz ⟨g,0,none⟩ n N T D.1 X a m c d hl F (by omega) (by omega) (growslice_fits (by omega) G)
   rw[e1]at Q
   cases Q
   intro k hk
   cases hk
   refine⟨_,e,heap_alloc_new w.drew _,fun u h=>?_⟩
   simp only[Array.toList_append,List.mem_append]at h
   rcases h with(h|h)|h
   ·exact hx u (by simpa using h)
   ·exact V u (by simpa using h)
   ·exact ai _ u h
end Go.Proofs.YtmpkkhackbpflaaGreatDoor
