/- Part 34 of the texts. -/
import Derived.Test.YtnnfjeieennffaaGreatDoorPartc33
set_option maxHeartbeats 4000000
set_option maxRecDepth 20000
namespace Go.Proofs.YtnnfjeieennffaaGreatDoor
open Go.RowKit
attribute [local go_sem ↓] Go.wp_at_zero Go.wp_at_succ
theorem bL.at{d:Nat}{w:World}{m:Option Addr}{n f:Nat}{S:List Nat}(h:bL d w (.slice m n f) S){j:Nat}(z:j<S.length):
  ∃g,m=some ⟨g,0,none⟩∧d≤g∧g<w.heap.size∧w.cell? ⟨g,j,none⟩=some (.int .u64 (S.getD j 0:Nat))∧w.frozen? ⟨g,j,none⟩=false∧
   ∀x,x<18446744073709551616→bL d (w.setCell ⟨g,j,none⟩ (.int .u64 (x:Nat))) (.slice m n f) (S.set j x):=by
 obtain⟨⟨U,K⟩,L⟩:=h
 rcases K with⟨_,V⟩|⟨g,A,t,D,F,l,N,O,Q,G⟩
 ·omega
 ·simp only[Value.slice.injEq]at D
  obtain⟨rfl,rfl,rfl⟩:=D
  have q:(S.map ib)[j]? =some (.int .u64 ((S[j]:Nat):Int)):=by
   rw[List.getElem?_map,List.getElem?_eq_getElem z];rfl
  rw[←G,List.getElem?_take,if_pos (by omega)]at q
  refine⟨g,rfl,F,(Array.getElem?_eq_some_iff.1 l).1,?_,frozen_of_row w g j _ _ l,fun x H=>⟨⟨by simp,.inr ⟨g,f,t.setIfInBounds j (.int .u64 (x:Nat)),?_,F,heap_setCell_same w g j _ _ _ l,by simpa using N,O,by simpa using Q,?_⟩⟩,?_⟩⟩
  ·rw[cell_of_row w g j _ _ _ l]
   have e:S.getD j 0=S[j]:=by rw[List.getD_eq_getElem?_getD,List.getElem?_eq_getElem z];rfl
   rw[e]
   simpa using q
  ·simp
  ·rw[Array.toList_setIfInBounds,List.take_set,List.length_set,G,List.map_set]
   rfl
  ·intro y M
   rcases List.mem_or_eq_of_mem_set M with e|e
   ·exact L y e
   ·rw[e];exact H
theorem Co(r c n f i k q x g:Nat)(G:Option Addr)(L:Option Addr)(l:Nat)(S:List Nat)(w H:World)(M:S.length=n)(hq:(i:Int)*(c:Int)=(q:Int))(aj:q+k<n)(hn:n≤36)(hx:x<18446744073709551616)
  (m:(Builtin.append_ #[22,22] 22 #[.slice (some ⟨w.heap.size+1+1,0,none⟩) 0 0,.slice G n f]).run Tryz.prog (((w.alloc (.cells #[.int .i64 r,.int .i64 c,.slice G n f] 24)).alloc (.cells #[.int .i64 0,.int .i64 0,.slice none 0 0] 24)).alloc (.cells #[] 31))=.ok (.slice L n l) H)
  (V:bL (w.heap.size+1+1) H (.slice L n l) S) (X:Below (w.heap.size+1+1) ((w.alloc (.cells #[.int .i64 r,.int .i64 c,.slice G n f] 24)).alloc (.cells #[.int .i64 0,.int .i64 0,.slice none 0 0] 24)) H) (Y:L=some ⟨g,0,none⟩):
  Calls Tryz.prog 52 #[.agg #[.int .i64 r,.int .i64 c,.slice G n f],.int .i64 i,.int .i64 k,.int .u64 x] w fun e w'=>∃v,e=.returned v∧bS w.heap.size w' r c (S.set (q+k) x) v∧Below w.heap.size w w':=by
 have t:=aa m
 obtain⟨A,D,Z⟩:=lI w _ _ _ _ _ _ H X
 obtain⟨g',O,hg,ae,cx,fx,F⟩:=V.at (j:=q+k) (by omega)
 rw[Y]at O
 simp only[Option.some.injEq,Addr.mk.injEq]at O
 obtain⟨rfl,_⟩:=O
 subst Y
 have N:=F x hx
 have h:=D.other (p:=⟨g,q+k,none⟩) (by show w.heap.size≠g;omega) (.int .u64 (x:Nat))
 have d:=Z.other (p:=⟨g,q+k,none⟩) (by show w.heap.size+1≠g;omega) (.int .u64 (x:Nat))
 have z:=A.setCell (p:=⟨g,q+k,none⟩) (by show w.heap.size≤g;omega) (.int .u64 (x:Nat))
 have c0:=D.c0;have c1:=D.c1;have c2:=D.c2
 have y0:=h.c0;have y1:=h.c1;have y2:=h.c2
 have u0:=d.c0;have u1:=d.c1;have u2:=d.c2
 have f0:=d.free 0;have f1:=d.free 1;have f2:=d.free 2
 have K:=d.put (.int .i64 r) (.int .i64 c) (.slice (some ⟨g,0,none⟩) n l)
 have z0:=K.c0;have z1:=K.c1;have z2:=K.c2
 obtain⟨ax,d',U,q2⟩:=N.bits
 have HN:=aa (N.newB.least (H':=w.heap.size) (by omega))
 rw[List.length_set,M]at U
 simp only[Value.slice.injEq]at U
 obtain⟨rfl,_,rfl⟩:=U
 have Q:=aa (ad.putM q2 d (.int .i64 r) (.int .i64 c) (.slice (some ⟨g,0,none⟩) n l))
 have BP:=aa (aA z (b:=w.heap.size+1) (by omega) (.int .i64 r) (.int .i64 c) (.slice (some ⟨g,0,none⟩) n l))
 have am:(q:Int)+(k:Int)<(n:Int):=by omega
 have HL:=aa M
 generalize S.getD (q+k) 0=aI at*
 clear m V X A D Z h d z K N q2 F M hg
 go_enter Tryz.func52,Tryz.ntmps52
 go_wp2_with(at_builtin;refine aW _ rfl _ _ 22 rfl _ _ _ _ rfl rfl (uH t) ?_;clear t)
 exact bodyPost_ret (v:=.agg #[.int .i64 r,.int .i64 c,.slice (some ⟨g,0,none⟩) n l]) (by simp[results,Tryz.results52,go_sem,z0,z1,z2]) rfl ⟨_,rfl,⟨some ⟨g,0,none⟩,l,by rw[List.length_set,uH HL],uH HN,uH Q⟩,uH BP⟩
theorem oC{P:Program}(w:World){l:Array Oper}{o:Oper}{a:Act}{K:Act→World→Prop}{Q:Exit→Act→World→Prop}{E:Prop}(z:o.guard=none)(s x:Operand)(t:TypeId)
  (G:o.op=.call {callee:=.builtin .append,args:=#[s,x],argTypes:=#[t,t]}) (A D:Value) (n:Nat) (F:Option Addr→Nat→World→Prop) (H:a.eval s=A) (L:a.eval x=D)
  (M:∃d f w',(Builtin.append_ #[t,t] o.type #[A,D]).run P w=.ok (.slice d n f) w'∧F d f w') (h:∀d f w',F d f w'→K (a.put o.dst (.slice d n f)) w'):
  if Region.wanted o (yielded l a.tmps)=true then Oper.wp P o a w K Q else E:=by
 have N:Region.wanted o (yielded l a.tmps)=true:=by simp[Region.wanted,z]
 rw[if_pos N]
 obtain⟨d,f,w',m,hF⟩:=M
 unfold Oper.wp execOp
 simp only[G,resolve,invoke,builtin,Sem.run_bind,Sem.run_pure,Result.andThen_ok,List.map_toArray,List.map_cons,List.map_nil,H,L,m]
 exact h d f w' hF
theorem ic(r c d i k x:Nat)(f:Option Addr)(S:List Nat)(w:World)(h:Mx w f d r c S)(M:i<r)(N:k<c)(O:x<18446744073709551616):
  Calls Tryz.prog 52 #[.agg #[.int .i64 r,.int .i64 c,.slice f S.length d],.int .i64 i,.int .i64 k,.int .u64 x] w fun e w'=>∃v,e=.returned v∧bS w.heap.size w' r c (S.set (i*c+k) x) v∧Below w.heap.size w w':=by
 have H:i*c+k<S.length:=by rw[h.2.1];exact gD M N
 have F:=h.small
 have K:=ac w (.cells #[.int .i64 r,.int .i64 c,.slice f S.length d] 24)
 have z:=an w (.cells #[.int .i64 r,.int .i64 c,.slice f S.length d] 24)
 have Q:=ac (w.alloc (.cells #[.int .i64 r,.int .i64 c,.slice f S.length d] 24)) (.cells #[.int .i64 0,.int .i64 0,.slice none 0 0] 24)
 have A:=an (w.alloc (.cells #[.int .i64 r,.int .i64 c,.slice f S.length d] 24)) (.cells #[.int .i64 0,.int .i64 0,.slice none 0 0] 24)
 have U:=K.trans (Q.mono K.size)
 have L:=ac ((w.alloc (.cells #[.int .i64 r,.int .i64 c,.slice f S.length d] 24)).alloc (.cells #[.int .i64 0,.int .i64 0,.slice none 0 0] 24)) (.cells #[] 31)
 have V:=bL.nil ((w.alloc (.cells #[.int .i64 r,.int .i64 c,.slice f S.length d] 24)).alloc (.cells #[.int .i64 0,.int .i64 0,.slice none 0 0] 24)) (w.heap.size+1+1) (by rw[A,z];omega)
 have l:=(h.1.below U).below L
 obtain⟨X,Y,Z,m,t,gr⟩:=qg _ (w.heap.size+1+1) 22 f d (az S) _ l (by rw[al];omega) V.1 (by simp)
 rw[Cb,al]at*
 have G:=(L.mono (Nat.le_of_eq (by rw[A,z]))).grown gr (by simp) (fun g D=>by cases D;rw[A,z];exact Nat.le_refl _)
 rw[A,z]at m
 obtain⟨g,D,_⟩:=t.at H
 exact Co r c S.length d i k (i*c) x g f X Y S w Z rfl (bY i c) H F O m t G D
theorem qi(r c:Int)(l m:Option Addr)(f d:Nat)(S:List Nat)(w:World)(h:ad w l f (az S))(D:ad w m d (az S))(H:S.length≤1000000):
  Calls Tryz.prog 12 #[.agg #[.int .i64 r,.int .i64 c,.slice l S.length f],.agg #[.int .i64 r,.int .i64 c,.slice m S.length d]] w fun e w'=>e=.returned (.bool true)∧Below w.heap.size w w':=by
 have z:=ac w (.cells #[.int .i64 r,.int .i64 c,.slice l S.length f] 24)
 have F:=ac (w.alloc (.cells #[.int .i64 r,.int .i64 c,.slice l S.length f] 24)) (.cells #[.int .i64 r,.int .i64 c,.slice m S.length d] 24)
 have t:=z.trans (F.mono z.size)
 have K:=aa (BT l m f d (az S) _ (h.below t) (D.below t) (by rw[al];omega))
 rw[al]at K
 have G:=aa t
 clear z F t h D
 generalize S.length=n at*
 go_enter Tryz.func12,Tryz.ntmps12
 go_wp2_with fail
 refine Calls.mono (uH K) ?_
 rintro e L ⟨rfl,A⟩
 clear K
 go_wp2
 go_ret
 exact⟨rfl,(uH G).trans (A.mono (uH G).size)⟩
end Go.Proofs.YtnnfjeieennffaaGreatDoor
namespace Go.Proofs.YtnnfjeieennffaaGreatDoor
open Go.RowKit
structure Nm where
 neg:Bool
 ao:Option Addr
 cap:Nat
 L:List Nat
structure Rw where
 ao:Option Addr
 cap:Nat
 R:List Nm
def Nm.nil:Nm:=⟨false,none,0,[]⟩
def Rw.nil:Rw:=⟨none,0,[]⟩
def JO(R:List Nm)(k:Nat):Nm:=R[k]?.getD Nm.nil
def JP(M:List Rw)(i:Nat):Rw:=M[i]?.getD Rw.nil
def bH(w:World)(ao:Option Addr)(cap:Nat)(I:List Int):Prop:=
 I.length≤cap∧(∀x∈I,-9223372036854775808≤x∧x≤9223372036854775807)∧(I= []∨∃b off,ao=some ⟨b,off,none⟩∧b<w.heap.size∧∀i,i<I.length→w.cell? ⟨b,off+i,none⟩=some (.int .i64 (I[i]?.getD 0)))
theorem bH.below{w w':World}{l:Option Addr}{d:Nat}{I:List Int}(h:bH w l d I)(m:Below w.heap.size w w'):bH w' l d I:=by
 refine⟨h.1,h.2.1,?_⟩
 rcases h.2.2 with h|⟨b,f,A,t,D⟩
 ·exact .inl h
 ·refine .inr ⟨b,f,A,Nat.lt_of_lt_of_le t m.size,fun i z=>?_⟩
  rw[m.cell (p:=⟨b,f+i,none⟩) t]
  exact D i z
theorem bH.ne{w:World}{l:Option Addr}{f:Nat}{I:List Int}(h:bH w l f I)(m:0<I.length):∃b d,l=some ⟨b,d,none⟩∧b<w.heap.size∧∀i,i<I.length→w.cell? ⟨b,d+i,none⟩=some (.int .i64 (I[i]?.getD 0)):=by
 rcases h.2.2 with e|e
 ·rw[e]at m;simp at m
 ·exact e
end Go.Proofs.YtnnfjeieennffaaGreatDoor
namespace Go.Proofs.YtnnfjeieennffaaGreatDoor
def Fw(a:Nat→Nat→Int)(t:Nat→Int):Nat→Nat→Int
 |0=>fun _=>0
 |k+1=>fun c=>1*Fw a t k c+t k*a k c
def Gi:Nat→Nat
 |0=>1
 |n+1=>(n+1)*Gi n
end Go.Proofs.YtnnfjeieennffaaGreatDoor
