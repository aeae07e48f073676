/- Part 21 of the texts. -/
import Derived.Test.YtdhmglmccafbnaaGreatDoorPartw20
set_option maxHeartbeats 4000000
set_option maxRecDepth 20000
namespace Go.Proofs.YtdhmglmccafbnaaGreatDoor
open Go.RowKit
attribute [local go_sem ↓] Go.wp_at_zero Go.wp_at_succ
theorem nZ(z:Option Addr)(n c m:Nat)(f:Bool)(w:World)(G:m=0∨(m≠0∧f=false))
  (D:Calls Tryz.prog 91 #[.slice z n c] w fun e d=>e=.returned (.int .u64 (m:Nat))∧Below w.heap.size w d)
  (F:∀w',Calls Tryz.prog 85 #[.int .u64 m] w' fun e d=>e=.returned (.bool f)∧w'=d):
  Calls Tryz.prog 94 #[.slice z n c] w fun e w'=>e=.returned (.int .u64 (m:Nat))∧Below w.heap.size w w':=by
 have l:=aa D;have u:=aa F
 clear D F
 rcases G with rfl|⟨J,rfl⟩
 ·go_enter Tryz.func94,Tryz.ntmps94
  go_wp2_with fail
  refine Calls.mono (uH l) ?_
  rintro e H ⟨rfl,h⟩
  clear l u
  go_wp2
  go_ret
  exact⟨rfl,h⟩
 ·have K:((m:Int)==0)=false:=by rw[beq_eq_false_iff_ne];omega
  clear J
  go_enter Tryz.func94,Tryz.ntmps94
  go_wp2_with fail
  refine Calls.mono (uH l) ?_
  rintro e H ⟨rfl,h⟩
  clear l
  go_wp2_with fail
  refine(uH u _).mono ?_
  rintro e L ⟨rfl,rfl⟩
  clear u
  go_wp2
  go_ret
  exact⟨rfl,h⟩
theorem s9(M:Option Addr)(c m:Nat)(k:Int)(I:List Int)(w:World)(Y:af w M c I)(hn:I.length≤35184372088830)(h0:m≠0)(N:-5000≤k∧k≤5000)
  (Z:Calls Tryz.prog 91 #[.slice M I.length c] w fun e d=>e=.returned (.int .u64 (m:Nat))∧Below w.heap.size w d)
  (C2:∀w',Calls Tryz.prog 85 #[.int .u64 m] w' fun e d=>e=.returned (.bool true)∧w'=d)
  (C3:∀w',Calls Tryz.prog 90 #[.int .u64 m] w' fun e d=>e=.returned (.int .i64 k)∧Below w'.heap.size w' d):
  Calls Tryz.prog 94 #[.slice M I.length c] w fun e w'=>e=.returned (.int .u64 (xV (sV (eM (tL k I) (tL k I) I.length)) k:Nat))∧Below w.heap.size w w':=by
 have HI:=aa Y
 have O:=aa Z;have K2:=aa C2;have K3:=aa C3
 have g0:((m:Int)==0)=false:=by rw[beq_eq_false_iff_ne];omega
 have hw:IntKind.i64.wrap (-k)= -k:=by simp only[IntKind.wrap_i64];omega
 have ae:(0:Int)-k= -k:=by omega
 have HK:=aa N
 have Q:=aa (fun w'=>jJ (eM (tL k I) (tL k I) I.length) w' (ei _ _ _))
 have U:=aa (fun w'=>dY (sV (eM (tL k I) (tL k I) I.length)) k w' (lO _ (ei _ _ _)) N)
 have HD:Hid (eM (tL k I) (tL k I) 0=0):=rfl
 have HS:=aa (fun j (hj:j<I.length)=>show eM (tL k I) (tL k I) (j+1)=aV (eM (tL k I) (tL k I) j) (mV (xV (cd I j) (-k)) (xV (cd I j) (-k))) by
  show aV (eM (tL k I) (tL k I) j) (mV (cd (tL k I) j) (cd (tL k I) j))=_
  rw[show cd (tL k I) j=xV (cd I j) (-k)from AU _ _ j hj])
 have HL:=aa (fun j=>ei (tL k I) (tL k I) j)
 generalize eM (tL k I) (tL k I)=F at*
 obtain⟨n,z⟩:∃n,I.length=n:=⟨_,rfl⟩
 rw[z]at hn O HS Q U⊢
 have HN:=aa z
 clear Y z Z C2 C3 h0 N
 generalize xV (sV (F n)) k=rr at*
 generalize sV (F n)=ss at*
 go_enter Tryz.func94,Tryz.ntmps94
 go_wp2_with fail
 refine Calls.mono (uH O) ?_
 rintro e w1 ⟨rfl,J⟩
 have B:=aa J
 clear O J
 go_wp2_with fail
 refine(uH K2 _).mono ?_
 rintro e w2 ⟨rfl,rfl⟩
 clear K2
 go_wp2_with fail
 refine(uH K3 _).mono ?_
 rintro e w2 ⟨rfl,K⟩
 have B2:=aa ((uH B).trans (K.mono (uH B).size))
 clear K3 K B
 go_wp2_with fail
 go_loopw[5,6] (fun t i wr=>∃j:Nat,j≤n∧i=.int .i64 j∧t=.int .u64 (F j:Nat)∧Hid (Below w.heap.size w wr)) (fun _ i _=>n-(intOf i).toNat)
 case atStart=>exact⟨0,Nat.zero_le _,rfl,by rw[uH HD];rfl,B2⟩
 case round=>
  clear B2
  obtain⟨j,hj,rfl,rfl,D⟩:=hrel
  by_cases G:j<n
  ·have am:(j:Int)<(n:Int):=by omega
   obtain⟨b,ax,X,hb,hc⟩:=((uH HI).below D.out).ne (by rw[uH HN];omega)
   have ap:=hc j (by rw[uH HN];exact G)
   have l:=(uH HI).lt j
   have D1:=aa (fun w'=>dY (cd I j) (-k) w' l (by have:=uH HK;omega))
   have D2:=aa (fun w'=>cT (xV (cd I j) (-k)) (xV (cd I j) (-k)) w' (gV _ _ l) (gV _ _ l))
   have D3:=aa (fun w'=>fJ (F j) (mV (xV (cd I j) (-k)) (xV (cd I j) (-k))) w' (uH HL j) (bM _ _))
   have eV:=aa (uH HS j G)
   subst X
   clear hc l
   generalize aV (F j) (mV (xV (cd I j) (-k)) (xV (cd I j) (-k)))=o at*
   generalize mV (xV (cd I j) (-k)) (xV (cd I j) (-k))=p at*
   generalize xV (cd I j) (-k)=t at*
   generalize cd I j=x at*
   go_wp2_with fail
   refine(uH D1 _).mono ?_
   rintro e w3 ⟨rfl,f⟩
   have u:=aa (D.out.trans (f.mono D.out.size))
   clear f D1 D
   go_wp2_with fail
   refine(uH D2 _).mono ?_
   rintro e w4 ⟨rfl,h⟩
   have H:=aa ((uH u).trans (h.mono (uH u).size))
   clear h D2 u
   go_wp2_with fail
   refine(uH D3 _).mono ?_
   rintro e w5 ⟨rfl,L⟩
   have B5:=aa ((uH H).trans (L.mono (uH H).size))
   clear L D3 H
   go_wp2_with fail
   go_round
   case rel=>exact⟨j+1,by omega,by go_num,by rw[uH eV],B5⟩
   case measure=>simp[intOf];omega
  ·have V:j=n:=by omega
   subst V
   go_wp2_with fail
   refine(uH Q _).mono ?_
   rintro e w3 ⟨rfl,f⟩
   have u:=aa (D.out.trans (f.mono D.out.size))
   clear f Q D
   go_wp2_with fail
   refine(uH U _).mono ?_
   rintro e w4 ⟨rfl,h⟩
   have H:=aa ((uH u).trans (h.mono (uH u).size))
   clear h U u
   go_wp2
   exact bodyPost_ret (v:=.int .u64 (rr:Nat)) (by simp[results,Tryz.results94,go_sem]) rfl ⟨rfl,uH H⟩
theorem io(d:Option Addr)(c:Nat)(I:List Int)(w:World)(z:af w d c I)(D:I.length≤35184372088830):
  Calls Tryz.prog 94 #[.slice d I.length c] w fun e w'=>e=.returned (.int .u64 (nX I:Nat))∧Below w.heap.size w w':=by
 have l:=jt d c I w z D
 have u:=im I I.length
 have f:=fun w'=>gi (gD I I.length) w' u
 unfold nX
 by_cases h:gD I I.length=0
 ·rw[if_pos (.inl h)]
  exact nZ d _ c _ _ w (.inl h) l f
 cases hf:aA (gD I I.length)
 ·rw[hf]at f
  rw[if_pos (.inr rfl)]
  exact nZ d _ c _ _ w (.inr ⟨h,rfl⟩) l f
 ·rw[hf]at f
  rw[if_neg (fun e=>e.elim h (fun e=>by cases e))]
  have F:=iT _ u
  exact s9 d c _ _ I w z D h (by omega) l f (fun w'=>pL _ w' u)
def IM(I:List Int):Nat→Int
 |0=>0
 |k+1=>IM I k+fZ (cd I k)*fZ (cd I k)
end Go.Proofs.YtdhmglmccafbnaaGreatDoor
namespace Go.Proofs.YtdhmglmccafbnaaGreatDoor
open Go.RowKit
def yi(I:List Int):List Nat:=I.map Int.toNat
theorem vV(I:List Int):(yi I).length=I.length:=by simp[yi]
theorem GK(I:List Int)(j:Nat)(d:j<I.length):(yi I)[j]? =some (cd I j):=by simp[yi,cd,d]
theorem tc(I:List Int)(j:Nat)(d:j<I.length):(yi I).take (j+1)=(yi I).take j++[cd I j]:=by
 rw[List.take_add_one,GK I j d]
 rfl
theorem Bc(x:Nat):∀(d:List Nat) (m:Nat),iA m (d++[x])=mx (iA m d) (fR x):=by
 intro d
 induction d with
 |nil=>intro m;rfl
 |cons y ys ih=>intro m;exact ih _
theorem Bd(k:Int)(x:Nat):∀(d:List Nat) (s:Nat),yC k s (d++[x])=Gf k (yC k s d) x:=by
 intro d
 induction d with
 |nil=>intro m;rfl
 |cons y ys ih=>intro m;exact ih _
theorem Be(I:List Int):∀j,j≤I.length→gD I j=iA 0 ((yi I).take j):=by
 intro j
 induction j with
 |zero=>intro _;rfl
 |succ j ih=>
  intro d
  rw[tc I j (by omega),Bc,←ih (by omega)]
  rfl
theorem Eu(I:List Int):gD I I.length=iA 0 (yi I):=by
 rw[Be I _ (Nat.le_refl _),List.take_of_length_le (by rw[vV];exact Nat.le_refl _)]
theorem Bf(k:Int)(I:List Int):∀j,j≤I.length→eM (tL k I) (tL k I) j=yC k 0 ((yi I).take j):=by
 intro j
 induction j with
 |zero=>intro _;rfl
 |succ j ih=>
  intro d
  rw[tc I j (by omega),Bd,←ih (by omega)]
  show aV (eM (tL k I) (tL k I) j) (mV (cd (tL k I) j) (cd (tL k I) j))=_
  rw[show cd (tL k I) j=xV (cd I j) (-k)from AU _ _ j (by omega)]
  rfl
theorem Ev(k:Int)(I:List Int):eM (tL k I) (tL k I) I.length=yC k 0 (yi I):=by
 rw[Bf k I _ (Nat.le_refl _),List.take_of_length_le (by rw[vV];exact Nat.le_refl _)]
theorem Ew(I:List Int):nX I=Fj (yi I):=by
 unfold nX Fj
 rw[Ev,Eu]
attribute [local go_sem ↓] Go.wp_at_zero Go.wp_at_succ
theorem ky:(Tryz.prog.info? 28).map (fun i=>(i.zero,i.size,i.bytes))=some (some (.int .u64 0),1,8):=by kernel_rfl
def br(base:Nat)(w:World)(v:Value)(S:List Nat):Prop:=w.ownsRow base 28 1 v S.length (S.map gW)∧∀x∈S,x<18446744073709551616
theorem br.below{d:Nat}{w w':World}{v:Value}{S:List Nat}(h:br d w v S)(f:Below w.heap.size w w'):br d w' v S:=
 ⟨h.1.kept (row:=none) ⟨f.os,f.tape,f.output,f.size,fun k l _=>f.block k l⟩ (by cases hv:v.ownBlock<;>simp),h.2⟩
theorem br.bits{f:Nat}{w:World}{v:Value}{S:List Nat}(h:br f w v S):∃z d,v=.slice z S.length d∧af w z d (S.map (fun x:Nat=>(x:Int))):=by
 have M:(S.map gW).length=S.length:=by simp
 have G:∀x∈S.map (fun x:Nat=>(x:Int)),0≤x∧x≤18446744073709551615:=by
  intro x J
  obtain⟨y,H,rfl⟩:=List.mem_map.1 J
  have:=h.2 y H
  omega
 rcases h.1.2 with⟨u,N⟩|⟨g,d,K,u,O,D,Q,U,V,L⟩
 ·have:S= []:=List.length_eq_zero_iff.1 (by omega)
  subst this
  exact⟨none,0,u,⟨by simp,by simp,.inl rfl⟩⟩
 ·refine⟨some ⟨g,0,none⟩,d,u,⟨by simp;omega,G,.inr ⟨g,0,rfl,(Array.getElem?_eq_some_iff.1 D).1,fun i F=>?_⟩⟩⟩
  have l:i<S.length:=by simpa using F
  have q:(S.map gW)[i]? =some (.int .u64 ((S[i]:Nat):Int)):=by
   rw[List.getElem?_map,List.getElem?_eq_getElem l];rfl
  rw[←L,List.getElem?_take,if_pos (by omega)]at q
  rw[cell_of_row w g _ _ _ _ D,Nat.zero_add]
  have e:(S.map (fun x:Nat=>(x:Int)))[i]?.getD 0=((S[i]:Nat):Int):=by simp[l]
  rw[e]
  simpa using q
theorem br.nil(w:World)(d:Nat)(h:d≤w.heap.size):br d (w.alloc (.cells #[] 28)) (.slice (some ⟨w.heap.size,0,none⟩) 0 0) []:=
 ⟨World.ownsRow_made w #[] 0 h (by simp[maxLen]) (by simp),by simp⟩
theorem br.snoc{d:Nat}{w:World}{v:Value}{S:List Nat}{x n:Nat}(l:n=S.length)(h:w.ownsRow d 28 1 v (n+1) (S.map gW++[.int .u64 (x:Int)]))(u:∀x∈S,x<18446744073709551616)(z:x<18446744073709551616):br d w v (S++[x]):=by
 subst l
 refine⟨by simpa[gW]using h,fun y D=>?_⟩
 rcases List.mem_append.1 D with f|f
 ·exact u y f
 ·simp at f;subst f;exact z
def jK(f:Nat→Nat)(k:Nat):List Nat:=(List.range k).map f
theorem eO(f:Nat→Nat)(k:Nat):(jK f k).length=k:=by simp[jK]
theorem kz(f:Nat→Nat)(k:Nat):jK f (k+1)=jK f k++[f k]:=by simp[jK,List.range_succ]
end Go.Proofs.YtdhmglmccafbnaaGreatDoor
namespace Go.Proofs.YtdhmglmccafbnaaGreatDoor
open Go.RowKit
theorem aS{P:Program}(w:World){d:Array Oper}{rest:List Oper}{o:Oper}{a:Act}{Q:Exit→Act→World→Prop}(f:o.guard=none)(s x:Operand)(t:TypeId)
  (D:o.op=.call {callee:=.builtin .append,args:=#[s,x],argTypes:=#[t,t]}) (l u z:Value) (w':World) (F:a.eval s=l) (G:a.eval x=u)
  (H:(Builtin.append_ #[t,t] o.type #[l,u]).run P w=.ok z w') (h:wpList P d Q rest (a.put o.dst z) w'):wpList P d Q (o::rest) a w:=
 wpList_plain f fun _ J=>by
  unfold Oper.wp execOp
  simp only[D,resolve,invoke,builtin,Sem.run_bind,Sem.run_pure,Result.andThen_ok,List.map_toArray,List.map_cons,List.map_nil,F,G,H]
  exact J _ _ h
def n6(v u:Value):Prop:=∀g,v.ownBlock=some g→u.ownBlock≠some g
theorem br.push{d:Nat}{w:World}{v:Value}{S:List Nat}(h:br d w v S)(x:Nat)(hx:x<18446744073709551616)(hl:S.length≤1000000)(hb:d≤w.heap.size)(V:TypeId):
  ∃z w',(Builtin.append_ #[23,23] V #[v,.slice (some ⟨w.heap.size,0,none⟩) 1 1]).run Tryz.prog (w.alloc (.cells #[.int .u64 (x:Int)] 28))=.ok z w'∧br d w' z (S++[x])∧Below d w w'∧
   (∀u T,br d w u T→n6 v u→br d w' u T∧n6 z u)∧(∀H c I,af w H c I→(I= []∨∃b f,H=some ⟨b,f,none⟩∧v.ownBlock≠some b)→af w' H c I):=by
 obtain⟨i0,K,M,N,O⟩:=info_parts ky
 obtain⟨z,w',e1,e2,J,e4,D⟩:=run_append_own_at (P:=Tryz.prog) (w.alloc (.cells #[.int .u64 (x:Int)] 28)) d 23 V 28 i0 (.int .u64 0) 1 8 Tryz.underlying23 K M N O rfl (by decide) v S.length (S.map gW) (h.1.alloc _) ⟨w.heap.size,0,none⟩ 1 1 [.int .u64 (x:Int)] rfl (cell_one_new _ _ _) (fun u l=>by simp at l;subst l;rfl) (by unfold maxLen;omega) (by omega) (by simp;omega)
 have hn:br d w' z (S++[x]):=br.snoc rfl e2 h.2 hx
 refine⟨z,w',e1,hn,((ac w _).mono hb).grown J (by simp;omega) (fun g G=>(h.1.lt g G).1),?_,?_⟩
 ·intro u T l X
  refine⟨⟨(l.1.alloc _).kept J ?_,l.2⟩,?_⟩
  ·cases hv:u.ownBlock with
   |none=>exact .inl rfl
   |some g=>
    right
    intro e
    exact X g e.symm hv
  ·intro g G F
   rcases D with D|D
   ·exact X g (by rw[←D];exact G) F
   ·rw[G]at D
    have h1:=(l.1.lt g F).2
    simp at D
    omega
 ·intro H c I hI Q
  have L:=hI.below (ac w (.cells #[.int .u64 (x:Int)] 28))
  refine⟨L.1,L.2.1,?_⟩
  rcases L.2.2 with e|⟨b,f,Y,f2,f3⟩
  ·exact .inl e
  rcases Q with e|⟨b',Z,U,g2⟩
  ·exact .inl e
  rw[Y]at U
  simp only[Option.some.injEq,Addr.mk.injEq]at U
  obtain⟨rfl,rfl,_⟩:=U
  refine .inr ⟨b,f,Y,Nat.lt_of_lt_of_le f2 J.size,fun i K=>?_⟩
  exact J.cell (f3 i K) (fun e=>g2 e.symm)
def cG(r c:Nat)(f:Nat→Nat→Nat):List Nat:=(List.range (r*c)).map (fun p=>f (p/c) (p%c))
theorem bW{r c i k:Nat}(d:i<r)(h:k<c):i*c+k<r*c:=by
 have f:(i+1)*c≤r*c:=Nat.mul_le_mul_right c d
 rw[Nat.add_mul,Nat.one_mul]at f
 omega
theorem gX{c i k:Nat}(d:k<c):(i*c+k)/c=i:=by
 rw[Nat.add_comm,Nat.add_mul_div_right _ _ (by omega),Nat.div_eq_of_lt d,Nat.zero_add]
theorem gY{c i k:Nat}(d:k<c):(i*c+k)%c=k:=by
 rw[Nat.add_comm,Nat.add_mul_mod_self_right,Nat.mod_eq_of_lt d]
theorem n8{r c p:Nat}(h:p<r*c):p/c<r∧p%c<c∧p/c*c+p%c=p:=by
 have d:0<c:=by
  rcases Nat.eq_zero_or_pos c with e|e
  ·subst e;omega
  ·exact e
 refine⟨(Nat.div_lt_iff_lt_mul d).2 h,Nat.mod_lt _ d,?_⟩
 have:=Nat.div_add_mod p c
 rw[Nat.mul_comm]at this
 exact this
theorem yj{c i k x y:Nat}(d:k<c)(f:y<c):i*c+k=x*c+y↔i=x∧k=y:=by
 constructor
 ·intro h
  have l:=gX (i:=i) d
  have u:=gY (i:=i) d
  rw[h,gX f]at l
  rw[h,gY f]at u
  exact⟨l.symm,u.symm⟩
 ·rintro⟨rfl,rfl⟩;rfl
theorem bH(r c:Nat)(f:Nat→Nat→Nat):(cG r c f).length=r*c:=by simp[cG]
theorem kA(r c:Nat)(f:Nat→Nat→Nat)(p:Nat)(h:p<r*c):(cG r c f)[p]? =some (f (p/c) (p%c)):=by simp[cG,h]
theorem GL(r c:Nat)(f:Nat→Nat→Nat){i k:Nat}(h:i<r)(d:k<c):(cG r c f)[i*c+k]? =some (f i k):=by
 rw[kA _ _ _ _ (bW h d),gX d,gY d]
theorem Ex(r c:Nat)(f:Nat→Nat→Nat){i k:Nat}(d:i<r)(h:k<c):(cG r c f).getD (i*c+k) 0=f i k:=by
 rw[List.getD_eq_getElem?_getD,GL r c f d h];rfl
theorem bh{r c:Nat}{f g:Nat→Nat→Nat}(h:∀i k,i<r→k<c→f i k=g i k):cG r c f=cG r c g:=by
 unfold cG
 refine List.map_congr_left (fun p d=>?_)
 obtain⟨l,u,_⟩:=n8 (List.mem_range.1 d)
 exact h _ _ l u
theorem qR(r c:Nat)(S:List Nat)(h:S.length=r*c):cG r c (fun i k=>S.getD (i*c+k) 0)=S:=by
 refine List.ext_getElem? (fun p=>?_)
 rcases Nat.lt_or_ge p (r*c)with g|g
 ·rw[kA _ _ _ _ g,(n8 g).2.2,List.getD_eq_getElem?_getD,List.getElem?_eq_getElem (by omega)];rfl
 ·rw[List.getElem?_eq_none (by rw[bH];exact g),List.getElem?_eq_none (by omega)]
theorem iU(r c:Nat):List.replicate (r*c) 0=cG r c (fun _ _=>0):=by
 refine List.ext_getElem? (fun p=>?_)
 rcases Nat.lt_or_ge p (r*c)with g|g
 ·rw[kA _ _ _ _ g,List.getElem?_replicate,if_pos g]
 ·rw[List.getElem?_eq_none (by simpa using g),List.getElem?_eq_none (by rw[bH];exact g)]
theorem ip(r c:Nat)(g:Nat→Nat→Nat)(v:Nat){i k:Nat}(_:i<r)(f:k<c):(cG r c g).set (i*c+k) v=cG r c (fun x y=>if x=i∧y=k then v else g x y):=by
 refine List.ext_getElem? (fun p=>?_)
 rcases Nat.lt_or_ge p (r*c)with h|h
 ·obtain⟨u,l,d⟩:=n8 h
  rw[kA _ _ _ _ h,List.getElem?_set]
  have e:(i*c+k=p)↔(p/c=i∧p%c=k):=by
   rw[←d,yj f l,d]
   exact⟨fun⟨a,b⟩=>⟨a.symm,b.symm⟩,fun⟨a,b⟩=>⟨a.symm,b.symm⟩⟩
  by_cases q:i*c+k=p
  ·rw[if_pos q,if_pos (by rw[bH];omega),if_pos (e.1 q)]
  ·rw[if_neg q,if_neg (fun z=>q (e.2 z)),kA _ _ _ _ h]
 ·rw[List.getElem?_eq_none (by simpa[bH]using h),List.getElem?_eq_none (by rw[bH];exact h)]
def pa(f:Nat→Nat→Nat)(i k:Nat):Nat→Nat→Nat:=fun x y=>if x<i∨(x=i∧y<k)then f x y else 0
theorem Bg(r c:Nat)(f:Nat→Nat→Nat):cG r c (pa f 0 0)=List.replicate (r*c) 0:=by
 rw[iU]
 exact bh (fun i k _ _=>by unfold pa;exact if_neg (by omega))
theorem Bh(r c:Nat)(f:Nat→Nat→Nat){i k:Nat}(d:i<r)(l:k<c):(cG r c (pa f i k)).set (i*c+k) (f i k)=cG r c (pa f i (k+1)):=by
 rw[ip r c _ _ d l]
 refine bh (fun x y _ _=>?_)
 unfold pa
 by_cases h:x=i∧y=k
 ·obtain⟨rfl,rfl⟩:=h
  rw[if_pos ⟨rfl,rfl⟩,if_pos (by omega)]
 ·rw[if_neg h]
  by_cases g:x<i∨(x=i∧y<k)
  ·rw[if_pos g,if_pos (by omega)]
  ·rw[if_neg g,if_neg (by omega)]
theorem Ey(r c:Nat)(f:Nat→Nat→Nat)(i:Nat):cG r c (pa f i c)=cG r c (pa f (i+1) 0):=by
 refine bh (fun x y _ d=>?_)
 unfold pa
 by_cases g:x<i+1
 ·rw[if_pos (by omega),if_pos (by omega)]
 ·rw[if_neg (by omega),if_neg (by omega)]
theorem Ez(r c:Nat)(f:Nat→Nat→Nat):cG r c (pa f r 0)=cG r c f:=
 bh (fun x y d _=>by unfold pa;exact if_pos (.inl d))
def pd(f:Nat→Nat→Nat)(i k:Nat):Nat→Nat→Nat:=fun x y=>if y<i∨(y=i∧x<k)then f x y else 0
theorem Bi(r c:Nat)(f:Nat→Nat→Nat):cG r c (pd f 0 0)=List.replicate (r*c) 0:=by
 rw[iU]
 exact bh (fun i k _ _=>by unfold pd;exact if_neg (by omega))
theorem Bj(r c:Nat)(f:Nat→Nat→Nat){i k:Nat}(d:i<c)(l:k<r):(cG r c (pd f i k)).set (k*c+i) (f k i)=cG r c (pd f i (k+1)):=by
 rw[ip r c _ _ l d]
 refine bh (fun x y _ _=>?_)
 unfold pd
 by_cases h:x=k∧y=i
 ·obtain⟨rfl,rfl⟩:=h
  rw[if_pos ⟨rfl,rfl⟩,if_pos (by omega)]
 ·rw[if_neg h]
  by_cases g:y<i∨(y=i∧x<k)
  ·rw[if_pos g,if_pos (by omega)]
  ·rw[if_neg g,if_neg (by omega)]
theorem EA(r c:Nat)(f:Nat→Nat→Nat)(i:Nat):cG r c (pd f i r)=cG r c (pd f (i+1) 0):=by
 refine bh (fun x y d _=>?_)
 unfold pd
 by_cases g:y<i+1
 ·rw[if_pos (by omega),if_pos (by omega)]
 ·rw[if_neg (by omega),if_neg (by omega)]
theorem EB(r c:Nat)(f:Nat→Nat→Nat):cG r c (pd f c 0)=cG r c f:=
 bh (fun x y _ d=>by unfold pd;exact if_pos (.inl d))
def bJ(c:Nat)(S:List Nat)(i k:Nat):Nat:=S.getD (i*c+k) 0
def ru(r c:Nat)(S:List Nat):List Nat:=cG c r (fun k i=>bJ c S i k)
def GM(c:Nat)(S:List Nat)(i k p q:Nat):List Nat:=cG p q (fun x y=>bJ c S (i+x) (k+y))
theorem og(r c:Nat)(f:Nat→Nat→Nat){i k:Nat}(d:i<r)(h:k<c):bJ c (cG r c f) i k=f i k:=Ex r c f d h
def gE(n:Nat):List Nat:=cG n n (fun i k=>if k=i then 4607182418800017408 else 0)
def IP(f:Nat→Int):Nat→Int
 |0=>0
 |n+1=>IP f n+f n
end Go.Proofs.YtdhmglmccafbnaaGreatDoor
