/- Part 29 of the texts. -/
import Derived.Test.YtnnfjeieennffaaGreatDoorPartc28
set_option maxHeartbeats 2000000
set_option maxRecDepth 20000
namespace Go.Proofs.YtnnfjeieennffaaGreatDoor
open Go.RowKit
theorem aW{P:Program}(w:World){d:Array Oper}{rest:List Oper}{o:Oper}{a:Act}{Q:Exit→Act→World→Prop}(f:o.guard=none)(s x:Operand)(t:TypeId)
  (A:o.op=.call {callee:=.builtin .append,args:=#[s,x],argTypes:=#[t,t]}) (l m z:Value) (w':World) (D:a.eval s=l) (F:a.eval x=m)
  (G:(Builtin.append_ #[t,t] o.type #[l,m]).run P w=.ok z w') (h:wpList P d Q rest (a.put o.dst z) w'):wpList P d Q (o::rest) a w:=
 wpList_plain f fun _ H=>by
  unfold Oper.wp execOp
  simp only[A,resolve,invoke,builtin,Sem.run_bind,Sem.run_pure,Result.andThen_ok,List.map_toArray,List.map_cons,List.map_nil,D,F,G]
  exact H _ _ h
def BU(v u:Value):Prop:=∀g,v.ownBlock=some g→u.ownBlock≠some g
theorem bL.push{d:Nat}{w:World}{v:Value}{S:List Nat}(h:bL d w v S)(x:Nat)(Y:x<18446744073709551616)(hl:S.length≤1000000)(Z:d≤w.heap.size)(Q:TypeId):
  ∃m w',(Builtin.append_ #[22,22] Q #[v,.slice (some ⟨w.heap.size,0,none⟩) 1 1]).run Tryz.prog (w.alloc (.cells #[.int .u64 (x:Int)] 31))=.ok m w'∧bL d w' m (S++[x])∧Below d w w'∧
   (∀u T,bL d w u T→BU v u→bL d w' u T∧BU m u)∧(∀D c I,ad w D c I→(I= []∨∃b f,D=some ⟨b,f,none⟩∧v.ownBlock≠some b)→ad w' D c I):=by
 obtain⟨i0,G,K,L,M⟩:=info_parts kG
 obtain⟨m,w',e1,e2,F,e4,t⟩:=run_append_own_at (P:=Tryz.prog) (w.alloc (.cells #[.int .u64 (x:Int)] 31)) d 22 Q 31 i0 (.int .u64 0) 1 8 Tryz.underlying22 G K L M rfl (by decide) v S.length (S.map ib) (h.1.alloc _) ⟨w.heap.size,0,none⟩ 1 1 [.int .u64 (x:Int)] rfl (cell_one_new _ _ _) (fun u l=>by simp at l;subst l;rfl) (by unfold maxLen;omega) (by omega) (by simp;omega)
 have hn:bL d w' m (S++[x]):=bL.snoc rfl e2 h.2 Y
 refine⟨m,w',e1,hn,((ac w _).mono Z).grown F (by simp;omega) (fun g A=>(h.1.lt g A).1),?_,?_⟩
 ·intro u T l U
  refine⟨⟨(l.1.alloc _).kept F ?_,l.2⟩,?_⟩
  ·cases hv:u.ownBlock with
   |none=>exact .inl rfl
   |some g=>
    right
    intro e
    exact U g e.symm hv
  ·intro g A z
   rcases t with t|t
   ·exact U g (by rw[←t];exact A) z
   ·rw[A]at t
    have h1:=(l.1.lt g z).2
    simp at t
    omega
 ·intro D c I hI N
  have H:=hI.below (ac w (.cells #[.int .u64 (x:Int)] 31))
  refine⟨H.1,H.2.1,?_⟩
  rcases H.2.2 with e|⟨b,f,V,f2,f3⟩
  ·exact .inl e
  rcases N with e|⟨b',X,O,g2⟩
  ·exact .inl e
  rw[V]at O
  simp only[Option.some.injEq,Addr.mk.injEq]at O
  obtain⟨rfl,rfl,_⟩:=O
  refine .inr ⟨b,f,V,Nat.lt_of_lt_of_le f2 F.size,fun i G=>?_⟩
  exact F.cell (f3 i G) (fun e=>g2 e.symm)
def fu(r c:Nat)(f:Nat→Nat→Nat):List Nat:=(List.range (r*c)).map (fun p=>f (p/c) (p%c))
theorem gD{r c i k:Nat}(d:i<r)(h:k<c):i*c+k<r*c:=by
 have f:(i+1)*c≤r*c:=Nat.mul_le_mul_right c d
 rw[Nat.add_mul,Nat.one_mul]at f
 omega
theorem jq{c i k:Nat}(d:k<c):(i*c+k)/c=i:=by
 rw[Nat.add_comm,Nat.add_mul_div_right _ _ (by omega),Nat.div_eq_of_lt d,Nat.zero_add]
theorem jr{c i k:Nat}(d:k<c):(i*c+k)%c=k:=by
 rw[Nat.add_comm,Nat.add_mul_mod_self_right,Nat.mod_eq_of_lt d]
theorem kJ{r c p:Nat}(h:p<r*c):p/c<r∧p%c<c∧p/c*c+p%c=p:=by
 have d:0<c:=by
  rcases Nat.eq_zero_or_pos c with e|e
  ·subst e;omega
  ·exact e
 refine⟨(Nat.div_lt_iff_lt_mul d).2 h,Nat.mod_lt _ d,?_⟩
 have:=Nat.div_add_mod p c
 rw[Nat.mul_comm]at this
 exact this
theorem yS{c i k x y:Nat}(d:k<c)(f:y<c):i*c+k=x*c+y↔i=x∧k=y:=by
 constructor
 ·intro h
  have l:=jq (i:=i) d
  have m:=jr (i:=i) d
  rw[h,jq f]at l
  rw[h,jr f]at m
  exact⟨l.symm,m.symm⟩
 ·rintro⟨rfl,rfl⟩;rfl
theorem cT(r c:Nat)(f:Nat→Nat→Nat):(fu r c f).length=r*c:=by simp[fu]
theorem kK(r c:Nat)(f:Nat→Nat→Nat)(p:Nat)(h:p<r*c):(fu r c f)[p]? =some (f (p/c) (p%c)):=by simp[fu,h]
theorem vA(r c:Nat)(f:Nat→Nat→Nat){i k:Nat}(h:i<r)(d:k<c):(fu r c f)[i*c+k]? =some (f i k):=by
 rw[kK _ _ _ _ (gD h d),jq d,jr d]
theorem Fm(r c:Nat)(f:Nat→Nat→Nat){i k:Nat}(d:i<r)(h:k<c):(fu r c f).getD (i*c+k) 0=f i k:=by
 rw[List.getD_eq_getElem?_getD,vA r c f d h];rfl
theorem bC{r c:Nat}{f g:Nat→Nat→Nat}(h:∀i k,i<r→k<c→f i k=g i k):fu r c f=fu r c g:=by
 unfold fu
 refine List.map_congr_left (fun p d=>?_)
 obtain⟨l,m,_⟩:=kJ (List.mem_range.1 d)
 exact h _ _ l m
theorem lG(r c:Nat)(S:List Nat)(h:S.length=r*c):fu r c (fun i k=>S.getD (i*c+k) 0)=S:=by
 refine List.ext_getElem? (fun p=>?_)
 rcases Nat.lt_or_ge p (r*c)with g|g
 ·rw[kK _ _ _ _ g,(kJ g).2.2,List.getD_eq_getElem?_getD,List.getElem?_eq_getElem (by omega)];rfl
 ·rw[List.getElem?_eq_none (by rw[cT];exact g),List.getElem?_eq_none (by omega)]
theorem mj(r c:Nat):List.replicate (r*c) 0=fu r c (fun _ _=>0):=by
 refine List.ext_getElem? (fun p=>?_)
 rcases Nat.lt_or_ge p (r*c)with g|g
 ·rw[kK _ _ _ _ g,List.getElem?_replicate,if_pos g]
 ·rw[List.getElem?_eq_none (by simpa using g),List.getElem?_eq_none (by rw[cT];exact g)]
theorem iH(r c:Nat)(g:Nat→Nat→Nat)(v:Nat){i k:Nat}(_:i<r)(f:k<c):(fu r c g).set (i*c+k) v=fu r c (fun x y=>if x=i∧y=k then v else g x y):=by
 refine List.ext_getElem? (fun p=>?_)
 rcases Nat.lt_or_ge p (r*c)with h|h
 ·obtain⟨m,l,d⟩:=kJ h
  rw[kK _ _ _ _ h,List.getElem?_set]
  have e:(i*c+k=p)↔(p/c=i∧p%c=k):=by
   rw[←d,yS f l,d]
   exact⟨fun⟨a,b⟩=>⟨a.symm,b.symm⟩,fun⟨a,b⟩=>⟨a.symm,b.symm⟩⟩
  by_cases q:i*c+k=p
  ·rw[if_pos q,if_pos (by rw[cT];omega),if_pos (e.1 q)]
  ·rw[if_neg q,if_neg (fun z=>q (e.2 z)),kK _ _ _ _ h]
 ·rw[List.getElem?_eq_none (by simpa[cT]using h),List.getElem?_eq_none (by rw[cT];exact h)]
def pm(f:Nat→Nat→Nat)(i k:Nat):Nat→Nat→Nat:=fun x y=>if x<i∨(x=i∧y<k)then f x y else 0
theorem BV(r c:Nat)(f:Nat→Nat→Nat):fu r c (pm f 0 0)=List.replicate (r*c) 0:=by
 rw[mj]
 exact bC (fun i k _ _=>by unfold pm;exact if_neg (by omega))
theorem Ca(r c:Nat)(f:Nat→Nat→Nat){i k:Nat}(d:i<r)(l:k<c):(fu r c (pm f i k)).set (i*c+k) (f i k)=fu r c (pm f i (k+1)):=by
 rw[iH r c _ _ d l]
 refine bC (fun x y _ _=>?_)
 unfold pm
 by_cases h:x=i∧y=k
 ·obtain⟨rfl,rfl⟩:=h
  rw[if_pos ⟨rfl,rfl⟩,if_pos (by omega)]
 ·rw[if_neg h]
  by_cases g:x<i∨(x=i∧y<k)
  ·rw[if_pos g,if_pos (by omega)]
  ·rw[if_neg g,if_neg (by omega)]
theorem Fn(r c:Nat)(f:Nat→Nat→Nat)(i:Nat):fu r c (pm f i c)=fu r c (pm f (i+1) 0):=by
 refine bC (fun x y _ d=>?_)
 unfold pm
 by_cases g:x<i+1
 ·rw[if_pos (by omega),if_pos (by omega)]
 ·rw[if_neg (by omega),if_neg (by omega)]
theorem Fo(r c:Nat)(f:Nat→Nat→Nat):fu r c (pm f r 0)=fu r c f:=
 bC (fun x y d _=>by unfold pm;exact if_pos (.inl d))
def gJ(c:Nat)(S:List Nat)(i k:Nat):Nat:=S.getD (i*c+k) 0
def IL(c:Nat)(S:List Nat)(i k p q:Nat):List Nat:=fu p q (fun x y=>gJ c S (i+x) (k+y))
theorem Gh(r c:Nat)(f:Nat→Nat→Nat){i k:Nat}(d:i<r)(h:k<c):gJ c (fu r c f) i k=f i k:=Fm r c f d h
def yT(n:Nat):List Nat:=fu n n (fun i k=>if k=i then 4607182418800017408 else 0)
attribute [local go_sem ↓] Go.wp_at_zero Go.wp_at_succ
def aw(w:World)(b:Nat)(x y z:Value):Prop:=w.heap[b]? =some (.cells #[x,y,z] 24 (0,0))
theorem aw.c0{w:World}{b:Nat}{x y z:Value}(h:aw w b x y z):w.cell? ⟨b,0,none⟩=some x:=by rw[cell_of_row w b 0 _ _ _ h];rfl
theorem aw.c1{w:World}{b:Nat}{x y z:Value}(h:aw w b x y z):w.cell? ⟨b,1,none⟩=some y:=by rw[cell_of_row w b 1 _ _ _ h];rfl
theorem aw.c2{w:World}{b:Nat}{x y z:Value}(h:aw w b x y z):w.cell? ⟨b,2,none⟩=some z:=by rw[cell_of_row w b 2 _ _ _ h];rfl
theorem aw.free{w:World}{b:Nat}{x y z:Value}(h:aw w b x y z)(j:Nat):w.frozen? ⟨b,j,none⟩=false:=frozen_of_row w b j _ _ h
theorem aw.lt{w:World}{b:Nat}{x y z:Value}(h:aw w b x y z):b<w.heap.size:=(Array.getElem?_eq_some_iff.1 h).1
theorem aw.below{w w':World}{b:Nat}{x y z:Value}(h:aw w b x y z){B:Nat}(f:Below B w w')(d:b<B):aw w' b x y z:=(f.block b d).trans h
theorem aw.new(w:World)(x y z:Value):aw (w.alloc (.cells #[x,y,z] 24)) w.heap.size x y z:=heap_alloc_new w _
theorem aw.all{w w':World}{b:Nat}{x y z:Value}(h:aw w b x y z)(d:Below w.heap.size w w'):aw w' b x y z:=h.below d h.lt
theorem aw.other{w:World}{b:Nat}{x y z:Value}(h:aw w b x y z){p:Addr}(d:b≠p.block)(u:Value):aw (w.setCell p u) b x y z:=(Below.heap_setCell w p u b d).trans h
theorem aw.put{w:World}{b:Nat}{x y z:Value}(h:aw w b x y z)(u u' u'':Value):aw (((w.setCell ⟨b,0,none⟩ u).setCell ⟨b,1,none⟩ u').setCell ⟨b,2,none⟩ u'') b u u' u'':=by
 have d:=heap_setCell_same w b 0 _ _ u h
 have f:=heap_setCell_same (w.setCell ⟨b,0,none⟩ u) b 1 _ _ u' d
 have l:=heap_setCell_same ((w.setCell ⟨b,0,none⟩ u).setCell ⟨b,1,none⟩ u') b 2 _ _ u'' f
 unfold aw
 rw[l]
 simp
theorem aA{w w':World}{B b:Nat}(h:Below B w w')(d:B≤b)(u u' u'':Value):Below B w (((w'.setCell ⟨b,0,none⟩ u).setCell ⟨b,1,none⟩ u').setCell ⟨b,2,none⟩ u''):=
 ((h.setCell d _).setCell d _).setCell d _
theorem aw.grown{w w':World}{b:Nat}{x y z:Value}(h:aw w b x y z){o:Option Nat}(d:w.grownBy w' o)(f:o≠some b):aw w' b x y z:=
 (d.block b h.lt f.symm).trans h
def Dw(r c:Int):Bool:=decide (0≤r∧r≤6∧0≤c∧c≤6)
def lH(r c:Int)(n:Nat):Bool:=decide ((0≤r∧r≤6∧0≤c∧c≤6)∧(n:Int)=r*c)
theorem ml(r c:Int)(w:World):
  Calls Tryz.prog 94 #[.int .i64 r,.int .i64 c] w fun e w'=>e=.returned (.bool (Dw r c))∧w=w':=by
 rcases(show(r<0∧Dw r c=false)∨(0≤r∧6<r∧Dw r c=false)∨(0≤r∧r≤6∧c<0∧Dw r c=false)∨(0≤r∧r≤6∧0≤c∧6<c∧Dw r c=false)∨(0≤r∧r≤6∧0≤c∧c≤6∧Dw r c=true) by
  unfold Dw
  by_cases h:0≤r∧r≤6∧0≤c∧c≤6
  ·rw[decide_eq_true h];simp;omega
  ·rw[decide_eq_false h];simp;omega)with⟨h1,e⟩|⟨h1,h2,e⟩|⟨h1,h2,h3,e⟩|⟨h1,h2,h3,h4,e⟩|⟨h1,h2,h3,h4,e⟩
 all_goals
  rw[e]
  clear e
  go_enter Tryz.func94,Tryz.ntmps94
  go_wp2
  go_ret
  refine⟨?_,rfl⟩
  first|rfl|(simp;omega)
theorem jX(r c:Int)(G:Option Addr)(n A:Nat)(w:World)(M:n≤35184372088830):
  Calls Tryz.prog 51 #[.agg #[.int .i64 r,.int .i64 c,.slice G n A]] w fun e w'=>e=.returned (.int .i64 (if lH r c n=true then 0 else 1))∧Below w.heap.size w w':=by
 have f:=aa (fun w'=>ml r c w')
 have t:=aa (ac w (.cells #[.int .i64 r,.int .i64 c,.slice G n A] 24))
 by_cases d:0≤r∧r≤6∧0≤c∧c≤6
 ·have z:Dw r c=true:=decide_eq_true d
  rw[z]at f
  have D:∃m:Nat,r*c=(m:Int)∧m≤36:=by
   obtain⟨a,rfl⟩:=Int.eq_ofNat_of_zero_le d.1
   obtain⟨b,rfl⟩:=Int.eq_ofNat_of_zero_le d.2.2.1
   refine⟨a*b,by simp,?_⟩
   have:a*b≤6*6:=Nat.mul_le_mul (by omega) (by omega)
   omega
  obtain⟨m,D,L⟩:=D
  by_cases F:n=m
  ·have l:lH r c n=true:=decide_eq_true ⟨d,by rw[D,F]⟩
   rw[if_pos l]
   subst F
   clear z l d
   go_enter Tryz.func51,Tryz.ntmps51
   go_wp2_with fail
   refine(uH f _).mono ?_
   rintro e H ⟨rfl,rfl⟩
   clear f
   go_wp2
   go_ret
   exact⟨rfl,uH t⟩
  ·have l:lH r c n=false:=decide_eq_false (fun h=>F (by have:=h.2;omega))
   rw[if_neg (by rw[l];decide)]
   have K:decide ((n:Int)=(m:Int))=false:=decide_eq_false (by omega)
   clear z l d
   go_enter Tryz.func51,Tryz.ntmps51
   go_wp2_with fail
   refine(uH f _).mono ?_
   rintro e H ⟨rfl,rfl⟩
   clear f
   go_wp2
   go_ret
   exact⟨rfl,uH t⟩
 ·have z:Dw r c=false:=decide_eq_false d
  rw[z]at f
  have l:lH r c n=false:=decide_eq_false (fun h=>d h.1)
  rw[if_neg (by rw[l];decide)]
  clear z l d
  go_enter Tryz.func51,Tryz.ntmps51
  go_wp2_with fail
  refine(uH f _).mono ?_
  rintro e H ⟨rfl,rfl⟩
  clear f
  go_wp2
  go_ret
  exact⟨rfl,uH t⟩
end Go.Proofs.YtnnfjeieennffaaGreatDoor
namespace Go.Proofs.YtnnfjeieennffaaGreatDoor
open Go.RowKit
def az(S:List Nat):List Int:=S.map (fun x:Nat=>(x:Int))
theorem al(S:List Nat):(az S).length=S.length:=by simp[az]
theorem fG(S:List Nat)(j:Nat):aL (az S) j=S.getD j 0:=by
 unfold az aL
 rw[List.getElem?_map,List.getD_eq_getElem?_getD]
 cases S[j]? <;>simp
theorem ow{w:World}{d:Option Addr}{c:Nat}{I:List Int}(h:ad w d c I):az (df I)=I:=qf h
theorem Cb(S:List Nat):df (az S)=S:=by
 unfold df az
 rw[List.map_map]
 refine(List.map_congr_left fun x _=>?_).trans (List.map_id S)
 simp
theorem ad.nat{w:World}{d:Option Addr}{c:Nat}{S:List Nat}(h:ad w d c (az S)):∀x∈S,x<18446744073709551616:=by
 intro x f
 have:=h.2.1 (x:Int) (List.mem_map.2 ⟨x,f,rfl⟩)
 omega
theorem ad.none(w:World)(c:Nat):ad w .none c (az []):=⟨by simp[az],by simp[az],.inl rfl⟩
theorem ad.nilAt(w:World)(d:Option Addr)(c:Nat):ad w d c (az []):=⟨by simp[az],by simp[az],.inl rfl⟩
theorem ad.putM{w:World}{t:Option Addr}{c:Nat}{I:List Int}(h:ad w t c I){g:Nat}{x y:Int}{a:Option Addr}{n d:Nat}(D:aw w g (.int .i64 x) (.int .i64 y) (.slice a n d))(u u' u'':Value):
  ad (((w.setCell ⟨g,0,.none⟩ u).setCell ⟨g,1,.none⟩ u').setCell ⟨g,2,.none⟩ u'') t c I:=by
 refine⟨h.1,h.2.1,?_⟩
 rcases h.2.2 with H|⟨b,f,K,L,A⟩
 ·exact .inl H
 ·by_cases z:I= []
  ·exact .inl z
  ·have G:0<I.length:=List.length_pos_iff.2 z
   have l:b≠g:=by
    rintro rfl
    have m:=A 0 G
    rw[cell_of_row w b (f+0) _ _ _ D]at m
    rcases(show f=0∨f=1∨f=2∨3≤f by omega)with e|e|e|e
    ·subst e;simp at m
    ·subst e;simp at m
    ·subst e;simp at m
    ·rw[Array.getElem?_eq_none (by simp;omega)]at m;simp at m
   refine .inr ⟨b,f,K,by simpa[World.setCell]using L,fun i F=>?_⟩
   rw[ah _ _ _ _ (by simpa using l),ah _ _ _ _ (by simpa using l),ah _ _ _ _ (by simpa using l)]
   exact A i F
def Mx(w:World)(ao:Option Addr)(cap r c:Nat)(S:List Nat):Prop:=ad w ao cap (az S)∧S.length=r*c∧r≤6∧c≤6
theorem Mx.below{w w':World}{f:Option Addr}{d r c:Nat}{S:List Nat}(h:Mx w f d r c S)(l:Below w.heap.size w w'):Mx w' f d r c S:=⟨h.1.below l,h.2⟩
theorem Mx.small{w:World}{f:Option Addr}{d r c:Nat}{S:List Nat}(h:Mx w f d r c S):S.length≤36:=by
 rw[h.2.1]
 exact Nat.mul_le_mul h.2.2.1 h.2.2.2
theorem Mx.el_lt{w:World}{f:Option Addr}{d r c:Nat}{S:List Nat}(h:Mx w f d r c S)(i k:Nat):gJ c S i k<18446744073709551616:=by
 unfold gJ
 rw[List.getD_eq_getElem?_getD]
 by_cases g:i*c+k<S.length
 ·rw[List.getElem?_eq_getElem g];exact h.1.nat _ (List.getElem_mem g)
 ·rw[List.getElem?_eq_none (by omega)];decide
theorem Mx.cells{w:World}{l:Option Addr}{f r c:Nat}{S:List Nat}(h:Mx w l f r c S){i k:Nat}(t:i<r)(z:k<c):∃b d,l=some ⟨b,d,.none⟩∧b<w.heap.size∧w.cell? ⟨b,d+(i*c+k),.none⟩=some (.int .u64 (gJ c S i k:Nat))∧i*c+k<S.length:=by
 have m:i*c+k<S.length:=by rw[h.2.1];exact gD t z
 obtain⟨b,d,A,D,F⟩:=h.1.ne (by rw[al];omega)
 refine⟨b,d,A,D,?_,m⟩
 rw[F _ (by rw[al];exact m),fG]
 rfl
theorem Cc{w:World}{f:Option Addr}{d r c:Nat}{S:List Nat}(h:Mx w f d r c S):lH (r:Int) (c:Int) S.length=true:=by
 refine decide_eq_true ⟨⟨by omega,?_,by omega,?_⟩,?_⟩
 ·have:=h.2.2.1;omega
 ·have:=h.2.2.2;omega
 ·rw[h.2.1];simp
theorem Mx.of{w:World}{f:Option Addr}{d:Nat}{I:List Int}{r c:Int}(h:ad w f d I)(l:lH r c I.length=true):∃p q:Nat,r=(p:Int)∧c=(q:Int)∧Mx w f d p q (df I)∧az (df I)=I:=by
 obtain⟨⟨m,z,t,A⟩,D⟩:=of_decide_eq_true l
 obtain⟨p,rfl⟩:=Int.eq_ofNat_of_zero_le m
 obtain⟨q,rfl⟩:=Int.eq_ofNat_of_zero_le t
 refine⟨p,q,rfl,rfl,⟨by rw[ow h];exact h,?_,by omega,by omega⟩,ow h⟩
 rw[gC]
 have:((p*q:Nat):Int)=(p:Int)*(q:Int):=by simp
 omega
def bS(H:Nat)(w':World)(r c:Nat)(S:List Nat)(v:Value):Prop:=∃ao cap,v=.agg #[.int .i64 r,.int .i64 c,.slice ao S.length cap]∧bD H ao (az S)∧ad w' ao cap (az S)
theorem bS.zero(H:Nat)(w:World):bS H w 0 0 [] (.agg #[.int .i64 0,.int .i64 0,.slice .none 0 0]):=⟨.none,0,rfl,.inl rfl,ad.none w 0⟩
theorem bS.least{H H':Nat}{w:World}{r c:Nat}{S:List Nat}{v:Value}(h:bS H w r c S v)(l:H'≤H):bS H' w r c S v:=by
 obtain⟨m,d,t,z,A⟩:=h
 refine⟨m,d,t,?_,A⟩
 rcases z with e|⟨b,f,D,F⟩
 ·exact .inl e
 ·exact .inr ⟨b,f,D,Nat.le_trans l F⟩
structure Mr where
 ao:Option Addr
 cap:Nat
 V:List Nat
 tau:Nat
 beta:Nat
def Mr.cells(x:Mr):List Value:=[.slice x.ao x.V.length x.cap,.int .u64 (x.tau:Nat),.int .u64 (x.beta:Nat)]
def eG(R:List Mr):List Value:=R.flatMap Mr.cells
def bO(R:List Mr)(k:Nat):Mr:=R[k]?.getD ⟨none,0,[],0,0⟩
theorem mn:∀(R:List Mr) (k:Nat),k<R.length→(eG R)[k*3]? =some (.slice (bO R k).ao (bO R k).V.length (bO R k).cap)∧(eG R)[k*3+1]? =some (.int .u64 ((bO R k).tau:Nat))∧(eG R)[k*3+2]? =some (.int .u64 ((bO R k).beta:Nat))
 |x::R,0,_=>by simp[eG,bO,Mr.cells]
 |x::R,k+1,h=>by
  have:=mn R k (by simpa using h)
  have e:eG (x::R)=.slice x.ao x.V.length x.cap::.int .u64 (x.tau:Nat)::.int .u64 (x.beta:Nat)::eG R:=rfl
  rw[e,show(k+1)*3=k*3+1+1+1 by omega]
  simpa[bO]using this
def yU(g:Option Nat)(x:Mr):Prop:=x.V= []∨∃b off,x.ao=some ⟨b,off,none⟩∧some b≠g
theorem yU.new{w:World}{x:Mr}(h:ad w x.ao x.cap (az x.V)){g:Nat}(f:w.heap.size≤g):yU (some g) x:=by
 rcases h.2.2 with e|⟨b,d,e,l,_⟩
 ·exact .inl (by cases hV:x.V with
   |nil=>rfl
   |cons y ys=>rw[hV]at e;cases e)
 ·exact .inr ⟨b,d,e,by intro e;cases e;omega⟩
theorem iI{w w':World}{x:Mr}{g:Option Nat}(h:ad w x.ao x.cap (az x.V))(A:yU g x)(m:w.grownBy w' g):ad w' x.ao x.cap (az x.V):=by
 refine⟨h.1,h.2.1,?_⟩
 rcases h.2.2 with e|⟨b,d,e,t,F⟩
 ·exact .inl e
 ·rcases A with f|⟨G,z,f,l⟩
  ·exact .inl (by rw[f];rfl)
  ·rw[e]at f
   simp only[Option.some.injEq,Addr.mk.injEq]at f
   obtain⟨rfl,rfl,_⟩:=f
   refine .inr ⟨b,d,e,Nat.lt_of_lt_of_le t m.size,fun i D=>?_⟩
   rw[World.cell?_of_block (a:=⟨b,d+i,none⟩) (m.block b t l)]
   exact F i D
theorem gE{w w':World}{d e f n:Nat}{v:Value}{z:List Value}{g:Option Nat}(h:w.ownsRow d e f v n z)(F:w.grownBy w' g)(l:∀k,v.ownBlock=some k→some k≠g):w'.ownsRow d e f v n z:=by
 refine⟨h.1,?_⟩
 rcases h.2 with h|⟨k,m,t,A,H,D,K⟩
 ·exact .inl h
 ·have G:k<w.heap.size:=(Array.getElem?_eq_some_iff.1 D).1
  exact .inr ⟨k,m,t,A,H,(F.block k G (l k (by rw[A];rfl))).trans D,K⟩
def dr(base:Nat)(w:World)(v:Value)(R:List Mr):Prop:=w.ownsRow base 74 3 v R.length (eG R)∧∀x∈R,ad w x.ao x.cap (az x.V)∧yU v.ownBlock x
theorem dr.start(w:World)(d:Nat)(f:d≤w.heap.size):dr d (w.alloc (.cells #[] 74)) (.slice (some ⟨w.heap.size,0,none⟩) 0 0) []:=
 ⟨World.ownsRow_made w #[] 0 f (by simp[maxLen]) (by simp),by simp⟩
theorem dr.below{d:Nat}{w w':World}{v:Value}{R:List Mr}(h:dr d w v R)(f:Below w.heap.size w w'):dr d w' v R:=
 ⟨gE h.1 ⟨f.os,f.tape,f.output,f.size,fun k m _=>f.block k m⟩ (fun k _=>by simp:∀k,v.ownBlock=some k→some k≠none),fun x l=>⟨((h.2 x l).1).below f,(h.2 x l).2⟩⟩
theorem Ih:(Tryz.prog.info? 74).map (fun i=>(i.zero,i.size,i.bytes))=some (some (.agg #[.slice none 0 0,.int .u64 0,.int .u64 0]),3,40):=by kernel_rfl
theorem dr.push{d:Nat}{w:World}{v:Value}{R:List Mr}(h:dr d w v R)(x:Mr)(N:ad w x.ao x.cap (az x.V))(O:yU v.ownBlock x)(hl:R.length≤1000000)(Q:d≤w.heap.size)(H:TypeId):
  ∃m w',(Builtin.append_ #[70,70] H #[v,.slice (some ⟨w.heap.size,0,none⟩) 1 1]).run Tryz.prog (w.alloc (.cells #[.slice x.ao x.V.length x.cap,.int .u64 (x.tau:Nat),.int .u64 (x.beta:Nat)] 74))=.ok m w'∧dr d w' m (R++[x])∧Below d w w'∧(w.alloc (.cells #[.slice x.ao x.V.length x.cap,.int .u64 (x.tau:Nat),.int .u64 (x.beta:Nat)] 74)).grownBy w' v.ownBlock∧(m.ownBlock=v.ownBlock∨m.ownBlock=some (w.heap.size+1)):=by
 obtain⟨i0,hi,A,D,F⟩:=info_parts Ih
 have t:=ac w (.cells #[.slice x.ao x.V.length x.cap,.int .u64 (x.tau:Nat),.int .u64 (x.beta:Nat)] 74)
 have Y:=heap_alloc_new w (.cells #[.slice x.ao x.V.length x.cap,.int .u64 (x.tau:Nat),.int .u64 (x.beta:Nat)] 74)
 have Z:=an w (.cells #[.slice x.ao x.V.length x.cap,.int .u64 (x.tau:Nat),.int .u64 (x.beta:Nat)] 74)
 have L:=h.below t
 have z:=N.below t
 generalize w.alloc (.cells #[.slice x.ao x.V.length x.cap,.int .u64 (x.tau:Nat),.int .u64 (x.beta:Nat)] 74)=W at*
 obtain⟨m,w',e1,e2,G,e4,M⟩:=run_append_own_at (P:=Tryz.prog) W d 70 H 74 i0 (.agg #[.slice none 0 0,.int .u64 0,.int .u64 0]) 3 40 Tryz.underlying70 hi A D F rfl (by decide) v R.length (eG R) L.1 ⟨w.heap.size,0,none⟩ 1 1 x.cells rfl (fun j u U=>by
   rw[show(⟨w.heap.size,0,none⟩:Addr).add j=⟨w.heap.size,j,none⟩from by unfold Addr.add;split<;>simp_all,cell_of_row _ w.heap.size j _ _ _ Y]
   simpa[Mr.cells]using U) (fun u K=>by
   simp[Mr.cells]at K
   rcases K with rfl|rfl|rfl<;>rfl) (by unfold maxLen;omega) (by omega) (by omega)
 ·refine⟨m,w',e1,⟨?_,fun y l=>?_⟩,(t.mono Q).grown G (by omega) (fun g X=>(h.1.lt g X).1),G,by rw[←Z];exact M⟩
  ·rw[List.length_append,show eG (R++[x])=eG R++x.cells by simp[eG]]
   exact e2
  ·have f:ad W y.ao y.cap (az y.V)∧yU v.ownBlock y:=by
    rcases List.mem_append.1 l with l|l
    ·exact L.2 y l
    ·simp at l;subst l;exact⟨z,O⟩
   refine⟨iI f.1 f.2 G,?_⟩
   rcases M with e|e
   ·rw[e];exact f.2
   ·rw[e];exact yU.new f.1 (Nat.le_refl _)
theorem dr.putM{f:Nat}{w:World}{v:Value}{R:List Mr}(h:dr f w v R){g:Nat}{x y:Int}{o:Option Addr}{n d:Nat}(D:aw w g (.int .i64 x) (.int .i64 y) (.slice o n d))(K:g<f)(u u' u'':Value):dr f (((w.setCell ⟨g,0,none⟩ u).setCell ⟨g,1,none⟩ u').setCell ⟨g,2,none⟩ u'') v R:=by
 refine⟨⟨h.1.1,?_⟩,fun z A=>⟨(h.2 z A).1.putM D u u' u'',(h.2 z A).2⟩⟩
 rcases h.1.2 with e|⟨k,m,t,F,G,H,rest⟩
 ·exact .inl e
 ·have l:k≠g:=by omega
  exact .inr ⟨k,m,t,F,G,(Below.heap_setCell _ ⟨g,2,none⟩ u'' k l).trans ((Below.heap_setCell _ ⟨g,1,none⟩ u' k l).trans ((Below.heap_setCell _ ⟨g,0,none⟩ u k l).trans H)),rest⟩
theorem dr.at{d:Nat}{w:World}{v:Value}{R:List Mr}(h:dr d w v R){k:Nat}(t:k<R.length):∃g f,v=.slice (some ⟨g,0,none⟩) R.length f∧d≤g∧g<w.heap.size∧w.cell? ⟨g,k*3,none⟩=some (.slice (bO R k).ao (bO R k).V.length (bO R k).cap)∧w.cell? ⟨g,k*3+1,none⟩=some (.int .u64 ((bO R k).tau:Nat))∧ad w (bO R k).ao (bO R k).cap (az (bO R k).V):=by
 rcases h.1.2 with⟨A,H⟩|⟨g,f,D,A,F,z,K,L,M,G⟩
 ·omega
 ·obtain⟨l,m,_⟩:=mn R k t
  rw[←G,List.getElem?_take]at l m
  rw[if_pos (by omega)]at l m
  simp only[Array.getElem?_toList]at l m
  refine⟨g,f,A,F,(Array.getElem?_eq_some_iff.1 z).1,?_,?_,(h.2 (bO R k) ?_).1⟩
  ·rw[cell_of_row w g _ _ _ _ z];exact l
  ·rw[cell_of_row w g _ _ _ _ z];exact m
  ·unfold bO
   rw[List.getElem?_eq_getElem t]
   exact List.getElem_mem t
end Go.Proofs.YtnnfjeieennffaaGreatDoor
