/- Part 24 of the texts. -/
import Derived.Test.YtcbcmlaogehimaaGreatDoorPartu23
set_option maxHeartbeats 2000000
set_option maxRecDepth 20000
namespace Go.Proofs.YtcbcmlaogehimaaGreatDoor
open Go.RowKit
def kY:Value->Bool
 | .int .u32 _=>false
 |_=>true
def jU(w:World)(v:Value):Prop:=∀g,v.ownBlock=some g->∃cur e,w.heap[g]? =some (.cells cur e (0,0))/\∀u∈cur.toList,kY u=true
theorem jU.below{w t:World}{v:Value}(h:jU w v)(F:H8 w t):jU t v:=by
 intro g H;obtain⟨l,e,D,G⟩:=h g H;exact⟨l,e,(F.block g (Array.getElem?_eq_some_iff.1 D).1).trans D,G⟩
theorem jU.limbs{w:World}{v:Value}(h:jU w v){ao:GY}{cap:Nat}{L:H3}(G:ai w ao cap L):L= []\/∃b l,ao=some ⟨b,l,none⟩/\b<w.heap.size/\some b≠v.ownBlock/\∀i,i<L.length->w.cell? ⟨b,l+i,none⟩=some (.int .u32 ((L[i]?.getD 0:Nat):Int)):=by
 rcases G.2.2 with e|⟨b,l,O,Q,F⟩
 ·exact .inl e
 ·by_cases t:L= []
  ·exact .inl t
  ·refine .inr ⟨b,l,O,Q,fun H=>?_,F⟩
   obtain⟨K,e,M,N⟩:=h b H.symm;have I:0<L.length:=List.length_pos_iff.2 t;have D:=F 0 I;rw[cell_of_row w b (l+0) _ _ _ M]at D;have J:=Array.mem_of_getElem? D;have:=N _ (Array.mem_toList_iff.2 J)
   cases this
theorem ai.grownClear{w D:World}{v:Value}{ao:GY}{cap:Nat}{L:H3}(t:ai w ao cap L)(h:jU w v)(F:w.grownBy D v.ownBlock):ai D ao cap L:=by
 refine⟨t.1,t.2.1,?_⟩;rcases h.limbs t with e|⟨b,l,I,G,J,K⟩
 ·exact .inl e
 ·refine .inr ⟨b,l,I,Nat.lt_of_lt_of_le G F.size,fun i H=>?_⟩
  rw[World.cell?_of_block (a:=⟨b,l+i,none⟩) (F.block b G J)];exact K i H
theorem aA.grownClear{B:Nat}{w l:World}{v u:Value}{z:Int}(t:aA B w u z)(h:jU w v)(D:w.grownBy l v.ownBlock):aA B l u z:=by
 obtain⟨neg,ao,cap,L,F,G,H⟩:=t;exact⟨neg,ao,cap,L,F,G.grownClear h D,H⟩
theorem aN.grownClear{w l:World}{v u:Value}{lo z:Int}(t:aN w u lo z)(h:jU w v)(D:w.grownBy l v.ownBlock):aN l u lo z:=by
 obtain⟨neg,ao,cap,L,F,G⟩:=t;exact⟨neg,ao,cap,L,F,G.grownClear h D⟩
theorem oY(z:Array Value)(n:Nat)(h:∀u∈z.toList,kY u=true):∀u∈(Builtin.zeroCells z n).toList,kY u=true:=by
 intro u D;unfold Builtin.zeroCells at D;rw[Array.mem_toList_iff,Array.mem_map]at D;obtain⟨i,G,rfl⟩:=D;have l:i<n*z.size:=by simpa using G
 have F:0<z.size:=by
  rcases Nat.eq_zero_or_pos z.size with e|e
  ·rw[e]at l;simp at l
  ·exact e
 have t:i%z.size<z.size:=Nat.mod_lt _ F;rw[getElem!_pos z (i%z.size) t];exact h _ (Array.mem_toList_iff.2 (Array.getElem_mem t))
theorem oZ{P:Program}(w:World)(J:Nat)(t ty e:TypeId)(i:TypeInfo)(z:Value)(D I:Nat)(ht:P.underlying t=some (.slice e))(hi:P.info? e=some i)(hz:i.zero=some z)
  (K:i.size=D) (ae:i.bytes=I) (a2:z.cells.size=D) (a3:0<D)
  (v:Value) (n:Nat) (Q:List Value) (F:w.ownsRow J e D v n Q)
  (a:Addr) (m c:Nat) (h:List Value) (hl:h.length=m*D) (G:∀j u,h[j]? =some u->w.cell? (a.add j)=some u) (h1:∀u∈h,u.oneCell'=true)
  (am:n+m<=maxLen) (H:(n+m)*I<=140737488355328) (U:J<=w.heap.size) (hm:0<m)
  (ap:jU w v) (a4:∀u∈z.cells.toList,kY u=true) (Z:∀u∈h,kY u=true):
  ∃v' w',(Builtin.append_ #[t,t] ty #[v,.slice (some a) m c]).run P w=.ok v' w'/\w'.ownsRow J e D v' (n+m) (Q++h)/\w.grownBy w' v.ownBlock/\
   (v'.ownBlock=v.ownBlock\/v'.ownBlock=some w.heap.size)/\jU w' v':=by
 obtain⟨v',w',e1,e2,e3,_,e5⟩:=run_append_own_at (P:=P) w J t ty e i z D I ht hi hz K ae a2 a3 v n Q F a m c h hl G h1 am H U;refine⟨v',w',e1,e2,e3,e5,?_⟩;subst K;subst ae;have a1:n+m<=9223372036854775807:=by simp only[maxLen]at am;omega
 have ax:=fun k=>oY z.cells k a4
 have hx:∀u∈Q,kY u=true:=by
  rcases F.2 with⟨rfl,rfl⟩|⟨g,cap,N,rfl,_,hg,_,_,_,M⟩
  ·intro u l
   have:Q= []:=List.eq_nil_of_length_eq_zero (by simpa using F.1);rw[this]at l
   cases l
  ·intro u l
   obtain⟨a0,e',g1,g2⟩:=ap g rfl;rw[hg]at g1
   cases g1
   rw[<-M]at l;exact g2 u (List.mem_of_mem_take l)
 rcases F.2 with⟨rfl,rfl⟩|⟨g,cap,N,rfl,a7,hg,a6,a9,a5,M⟩
 ·have O:=run_append_nil (P:=P) w t ty e i z ht hi hz a m c h hl G hm (by omega) (by have hb:=H;simp only[Nat.zero_add]at hb;omega)
  rw[e1]at O
  cases O
  intro g hg
  cases hg
  refine⟨_,e,heap_alloc_new w.drew _,fun u l=>?_⟩;simp only[Array.toList_append,List.mem_append]at l;rcases l with l|l
  ·exact Z u (by simpa using l)
  ·exact ax _ u l
 ·by_cases L:n+m<=cap
  ·have aI:n*i.size+h.length<=N.size:=by rw[hl,a5,<-Nat.add_mul];exact Nat.mul_le_mul_right _ L
   have O:=run_append_room (P:=P) w t ty e i ht hi g n cap N hg a m c h hl G h1 L aI;rw[e1]at O
   cases O
   intro k hk
   cases hk
   refine⟨_,e,setRow_heap w g N _ e _ hg,fun u l=>?_⟩;obtain⟨a0,e',g1,g2⟩:=ap g rfl;rw[hg]at g1
   cases g1
   simp only[List.mem_append]at l;rcases l with(l|l)|l
   ·exact g2 u (List.mem_of_mem_take l)
   ·exact Z u l
   ·exact g2 u (List.mem_of_mem_drop l)
  ·have aa:∀j u,Q[j]? =some u->w.cell? ((⟨g,0,none⟩:Addr).add j)=some u:=F.cells (g:=g) rfl
   have O:=run_append_grow (P:=P) w t ty e i z ht hi hz ⟨g,0,none⟩ n cap Q F.1 aa a m c h hl G (by omega) (by omega) (growslice_fits (by omega) H);rw[e1]at O
   cases O
   intro k hk
   cases hk
   refine⟨_,e,heap_alloc_new w.drew _,fun u l=>?_⟩;simp only[Array.toList_append,List.mem_append]at l;rcases l with(l|l)|l
   ·exact hx u (by simpa using l)
   ·exact Z u (by simpa using l)
   ·exact ax _ u l
def kZ(r c:Nat)(f:Nat->Nat->Nat):H3:=(List.range (r*c)).map (fun p=>f (p/c) (p%c))
theorem dK{r c i k:Nat}(h:i<r)(t:k<c):i*c+k<r*c:=by
 have l:(i+1)*c<=r*c:=Nat.mul_le_mul_right c h;rw[Nat.add_mul,Nat.one_mul]at l;omega
theorem jV{c i k:Nat}(h:k<c):(i*c+k)/c=i:=by
 rw[Nat.add_comm,Nat.add_mul_div_right _ _ (by omega),Nat.div_eq_of_lt h,Nat.zero_add]
theorem jW{c i k:Nat}(h:k<c):(i*c+k)%c=k:=by
 rw[Nat.add_comm,Nat.add_mul_mod_self_right,Nat.mod_eq_of_lt h]
theorem iE{r c p:Nat}(h:p<r*c):p/c<r/\p%c<c/\p/c*c+p%c=p:=by
 have l:0<c:=by
  rcases Nat.eq_zero_or_pos c with e|e
  ·subst e;omega
  ·exact e
 refine⟨(Nat.div_lt_iff_lt_mul l).2 h,Nat.mod_lt _ l,?_⟩;have:=Nat.div_add_mod p c;rw[Nat.mul_comm]at this;exact this
theorem Dy{c i k x y:Nat}(l:k<c)(t:y<c):i*c+k=x*c+y↔i=x/\k=y:=by
 constructor
 ·intro h
  have D:=jV (i:=i) l;have F:=jW (i:=i) l;rw[h,jV t]at D;rw[h,jW t]at F;exact⟨D.symm,F.symm⟩
 ·rintro⟨rfl,rfl⟩;rfl
theorem cQ(r c:Nat)(f:Nat->Nat->Nat):(kZ r c f).length=r*c:=by simp[kZ]
theorem qj(r c:Nat)(f:Nat->Nat->Nat)(p:Nat)(h:p<r*c):(kZ r c f)[p]? =some (f (p/c) (p%c)):=by simp[kZ,h]
theorem OB(r c:Nat)(f:Nat->Nat->Nat){i k:Nat}(l:i<r)(h:k<c):(kZ r c f)[i*c+k]? =some (f i k):=by
 rw[qj _ _ _ _ (dK l h),jV h,jW h]
theorem qk(r c:Nat)(f:Nat->Nat->Nat){i k:Nat}(h:i<r)(l:k<c):(kZ r c f).getD (i*c+k) 0=f i k:=by
 rw[List.getD_eq_getElem?_getD,OB r c f h l];rfl
theorem dL{r c:Nat}{f g:Nat->Nat->Nat}(h:∀i k,i<r->k<c->f i k=g i k):kZ r c f=kZ r c g:=by
 unfold kZ;refine List.map_congr_left (fun p l=>?_);obtain⟨t,D,_⟩:=iE (List.mem_range.1 l);exact h _ _ t D
theorem uT(r c:Nat)(S:H3)(h:S.length=r*c):kZ r c (fun i k=>S.getD (i*c+k) 0)=S:=by
 refine List.ext_getElem? (fun p=>?_);rcases Nat.lt_or_ge p (r*c)with g|g
 ·rw[qj _ _ _ _ g,(iE g).2.2,List.getD_eq_getElem?_getD,List.getElem?_eq_getElem (by omega)];rfl
 ·rw[List.getElem?_eq_none (by rw[cQ];exact g),List.getElem?_eq_none (by omega)]
theorem ql(r c:Nat)(g:Nat->Nat->Nat)(v:Nat){i k:Nat}(_:i<r)(t:k<c):(kZ r c g).set (i*c+k) v=kZ r c (fun x y=>if x=i/\y=k then v else g x y):=by
 refine List.ext_getElem? (fun p=>?_);rcases Nat.lt_or_ge p (r*c)with h|h
 ·obtain⟨F,D,l⟩:=iE h
  rw[qj _ _ _ _ h,List.getElem?_set];have e:(i*c+k=p)↔(p/c=i/\p%c=k):=by
   rw[<-l,Dy t D,l];exact⟨fun⟨a,b⟩=>⟨a.symm,b.symm⟩,fun⟨a,b⟩=>⟨a.symm,b.symm⟩⟩
  by_cases q:i*c+k=p
  ·rw[if_pos q,if_pos (by rw[cQ];omega),if_pos (e.1 q)]
  ·rw[if_neg q,if_neg (fun z=>q (e.2 z)),qj _ _ _ _ h]
 ·rw[List.getElem?_eq_none (by simpa[cQ]using h),List.getElem?_eq_none (by rw[cQ];exact h)]
def a8(c:Nat)(S:H3)(i k:Nat):Nat:=S.getD (i*c+k) 0
def sG(r c:Nat)(S:H3):H3:=kZ c r (fun k i=>a8 c S i k)
def t5(c:Nat)(S:H3)(i k p q:Nat):H3:=kZ p q (fun x y=>a8 c S (i+x) (k+y))
theorem kw(r c:Nat)(f:Nat->Nat->Nat){i k:Nat}(h:i<r)(l:k<c):a8 c (kZ r c f) i k=f i k:=qk r c f h l
def Em:Nat->(Nat->Nat)->(Nat->Nat)->Nat
 |0,_,_=>0
 |n+1,x,y=>aV (Em n x y) (mV (x n) (y n))
theorem KE(I J:List Int)(n:Nat):uR I J n=Em n (bg I) (bg J):=by
 induction n with
 |zero=>rfl
 |succ n ih=>show aV (uR I J n) _=aV (Em n _ _) _;rw[ih]
theorem Dz{x y l t:Nat->Nat}(n:Nat)(h:∀i,i<n->x i=l i)(k:∀i,i<n->y i=t i):Em n x y=Em n l t:=by
 induction n with
 |zero=>rfl
 |succ n ih=>show aV (Em n x y) _=aV (Em n l t) _;rw[ih (fun i D=>h i (by omega)) (fun i D=>k i (by omega)),h n (by omega),k n (by omega)]
theorem GH(x y:Nat->Nat)(n:Nat):Em n x y<18446744073709551616:=by
 induction n with
 |zero=>show 0<18446744073709551616;omega
 |succ n ih=>exact jc _ _ ih (iQ _ _)
def IH(r n c:Nat)(A B:H3):H3:=kZ r c (fun i k=>Em n (fun j=>a8 n A i j) (fun j=>a8 c B j k))
def ML(n:Nat):H3:=kZ n n (fun i k=>if k=i then 4607182418800017408 else 0)
def dN(f:Nat->Int):Nat->Int
 |0=>0
 |n+1=>dN f n+f n
theorem t6{f g:Nat->Int}(n:Nat)(h:∀i,i<n->f i=g i):dN f n=dN g n:=by
 induction n with
 |zero=>rfl
 |succ n ih=>unfold dN;rw[ih (fun i l=>h i (by omega)),h n (by omega)]
theorem KG(f g:Nat->Int)(n:Nat):dN (fun i=>f i+g i) n=dN f n+dN g n:=by
 induction n with
 |zero=>rfl
 |succ n ih=>unfold dN;rw[ih];omega
theorem xm(n:Nat):dN (fun _=>0) n=0:=by
 induction n with
 |zero=>rfl
 |succ n ih=>unfold dN;rw[ih];rfl
theorem GI(f:Nat->Nat->Int)(r c:Nat):dN (fun i=>dN (f i) c) r=dN (fun k=>dN (fun i=>f i k) r) c:=by
 induction r with
 |zero=>
  rw[t6 (f:=fun k=>dN (fun i=>f i k) 0) (g:=fun _=>0) c (fun _ _=>rfl),xm];rfl
 |succ r ih=>
  have e:dN (fun i=>dN (f i) c) (r+1)=dN (fun i=>dN (f i) c) r+dN (f r) c:=rfl;rw[e,ih,<-KG];rfl
theorem KH(f:Nat->Int)(m n:Nat):dN f (m+n)=dN f m+dN (fun i=>f (m+i)) n:=by
 induction n with
 |zero=>show dN f m=dN f m+0;omega
 |succ n ih=>
  have h:dN f (m+(n+1))=dN f (m+n)+f (m+n):=rfl;have l:dN (fun i=>f (m+i)) (n+1)=dN (fun i=>f (m+i)) n+f (m+n):=rfl;rw[h,l,ih];omega
theorem GJ(f:Nat->Int)(r c:Nat):dN f (r*c)=dN (fun i=>dN (fun k=>f (i*c+k)) c) r:=by
 induction r with
 |zero=>rw[Nat.zero_mul];rfl
 |succ r ih=>
  have e:dN (fun i=>dN (fun k=>f (i*c+k)) c) (r+1)=dN (fun i=>dN (fun k=>f (i*c+k)) c) r+dN (fun k=>f (r*c+k)) c:=rfl;rw[e,<-ih,Nat.succ_mul,KH]
theorem KI{f:Nat->Int}{B:Nat}(n:Nat)(h:∀i,i<n->(f i).natAbs<=B):(dN f n).natAbs<=n*B:=by
 induction n with
 |zero=>rw[Nat.zero_mul];exact Nat.le_refl 0
 |succ n ih=>
  have a:=ih (fun i l=>h i (by omega));have b:=h n (by omega);rw[Nat.succ_mul];unfold dN;have:=Int.natAbs_add_le (dN f n) (f n);omega
def jy(S:H3):Int:=dN (fun p=>fZ (S.getD p 0)*fZ (S.getD p 0)) S.length
theorem xn(r c:Nat)(S:H3)(h:S.length=r*c):jy S=dN (fun i=>dN (fun k=>fZ (a8 c S i k)*fZ (a8 c S i k)) c) r:=by
 unfold jy;rw[h,GJ];rfl
def Bq(n:Nat)(x y:Nat->Nat):Int:=dN (fun j=>fZ (x j)*fZ (y j)) n
def KL(n c:Nat)(A B C:H3)(i k:Nat):Int:=fZ (a8 c A i k)*2^1074-Bq n (fun j=>a8 n B i j) (fun j=>a8 c C j k)
def Rb(r n c:Nat)(A B C:H3):Int:=dN (fun i=>dN (fun k=>KL n c A B C i k*KL n c A B C i k) c) r
def zL(r n c:Nat)(A X B:H3)(j k:Nat):Int:=dN (fun i=>fZ (a8 n A i j)*(Bq n (fun l=>a8 n A i l) (fun l=>a8 c X l k)-fZ (a8 c B i k)*2^1074)) r
def KM(r n c:Nat)(A X B:H3):Int:=dN (fun k=>dN (fun j=>zL r n c A X B j k*zL r n c A X B j k) n) c
def DA(f:Nat->Nat->Int)(c i k:Nat):Int:=dN (fun i=>dN (f i) c) i+dN (f i) k
theorem xt(f:Nat->Nat->Int)(c i k:Nat):DA f c i (k+1)=DA f c i k+f i k:=by
 unfold DA;have e:dN (f i) (k+1)=dN (f i) k+f i k:=rfl;rw[e,Int.add_assoc]
theorem Br(f:Nat->Nat->Int)(c i:Nat):DA f c i c=DA f c (i+1) 0:=by
 unfold DA;have e:dN (fun i=>dN (f i) c) (i+1)=dN (fun i=>dN (f i) c) i+dN (f i) c:=rfl;have h:dN (f (i+1)) 0=0:=rfl;rw[e,h,Int.add_zero]
theorem Bs(f:Nat->Nat->Int)(c r:Nat):DA f c r 0=dN (fun i=>dN (f i) c) r:=by
 unfold DA;have h:dN (f r) 0=0:=rfl;rw[h,Int.add_zero]
theorem uU{f:Nat->Int}{W:Nat}(n:Nat)(l:n<=8)(h:∀i,i<n->(f i).natAbs<2^W):(dN f n).natAbs<2^(W+3):=by
 have a:=KI (f:=f) (B:=2^W-1) n (fun i t=>Nat.le_sub_one_of_lt (h i t));have p:=Nat.two_pow_pos W;have e:(2:Nat)^(W+3)=8*2^W:=by rw[Nat.pow_add];omega
 rw[e];generalize (2:Nat)^W=P at*;have:n*(P-1)<=8*(P-1):=Nat.mul_le_mul_right _ l;omega
theorem OC{f:Nat->Nat->Int}{W:Nat}(r c i k:Nat)(I:i<=r)(J:r<=8)(t:k<=c)(D:c<=8)(h:∀i k,k<c->(f i k).natAbs<2^W):(DA f c i k).natAbs<2^(W+7):=by
 unfold DA;have a:(dN (fun i=>dN (f i) c) i).natAbs<2^(W+3+3):=uU i (by omega) (fun j _=>uU c D (fun k t=>h j k t));have b:(dN (f i) k).natAbs<2^(W+3):=uU k (by omega) (fun l K=>h i l (by omega));have F:(2:Nat)^(W+3+3)=64*2^W:=by rw[Nat.pow_add,Nat.pow_add];omega
 have G:(2:Nat)^(W+3)=8*2^W:=by rw[Nat.pow_add];omega
 have H:(2:Nat)^(W+7)=128*2^W:=by rw[Nat.pow_add];omega
 rw[F]at a;rw[G]at b;rw[H];have:=Int.natAbs_add_le (dN (fun i=>dN (f i) c) i) (dN (f i) k);generalize (2:Nat)^W=P at*;omega
theorem de(c:Nat)(S:H3)(i k:Nat)(h:∀x∈S,ah x=true):ah (a8 c S i k)=true:=by
 unfold a8;rw[List.getD_eq_getElem?_getD]
 by_cases g:i*c+k<S.length
 ·rw[List.getElem?_eq_getElem g]
  exact h _ (List.getElem_mem g)
 ·rw[List.getElem?_eq_none (by omega)]
  decide+kernel
theorem iU{j k V:Nat}{x y:Int}(h:j+k=V)(l:x.natAbs<2^j)(t:y.natAbs<2^k):(x*y).natAbs<2^V:=by
 subst h;rw[Int.natAbs_mul];exact mL l t
theorem kq{f:Nat->Int}{W V:Nat}(l:W+3=V)(n:Nat)(t:n<=8)(h:∀i,i<n->(f i).natAbs<2^W):(dN f n).natAbs<2^V:=by
 subst l;exact uU n t h
theorem Bt{x y:Int}{W V:Nat}(h:W+1=V)(l:x.natAbs<2^W)(t:y.natAbs<2^W):(x-y).natAbs<2^V:=by
 subst h;rw[Nat.pow_succ];omega
theorem Bu{f:Nat->Nat->Int}{W V:Nat}(l:W+7=V)(r c i k:Nat)(t:i<=r)(D:r<=8)(F:k<=c)(G:c<=8)(h:∀i k,k<c->(f i k).natAbs<2^W):(DA f c i k).natAbs<2^V:=by
 subst l;exact OC r c i k t D F G h
theorem zM{x:Int}{j k V:Nat}(h:j+k<=V)(l:x.natAbs<2^j):(x*2^k).natAbs<2^V:=by
 rw[Int.natAbs_mul,Int.natAbs_pow];refine Nat.lt_of_lt_of_le ((Nat.mul_lt_mul_right (Nat.two_pow_pos k)).2 l) ?_;rw[<-Nat.pow_add];exact Nat.pow_le_pow_right (by decide) h
theorem zN(n:Nat)(l:n<=8)(x y:Nat->Nat)(t:∀j,j<n->ah (x j)=true)(D:∀j,j<n->ah (y j)=true):(Bq n x y).natAbs<2^4199:=
 kq (W:=4196) (V:=4199) (by decide) n l (fun j h=>iU (j:=2098) (k:=2098) (V:=4196) (by decide) (ew _ (t j h)) (ew _ (D j h)))
theorem KQ(n:Nat)(h:n<=8)(x y:Nat->Nat)(l:∀j,j<n->ah (x j)=true)(t:∀j,j<n->ah (y j)=true):ga (-2148) 4199 (Bq n x y):=
 ⟨zN n h x y l t,by decide,by decide,by decide⟩
theorem OD(n c:Nat)(A B C:H3)(i k:Nat)(h:n<=8)(fA:∀x∈A,ah x=true)(l:∀x∈B,ah x=true)(t:∀x∈C,ah x=true):(KL n c A B C i k).natAbs<2^4200:=
 Bt (W:=4199) (V:=4200) (by decide) (zM (j:=2098) (k:=1074) (V:=4199) (by decide) (ew _ (de c A i k fA))) (zN n h _ _ (fun j _=>de n B i j l) (fun j _=>de c C j k t))
theorem Bv(n c:Nat)(A X B:H3)(i k:Nat)(h:n<=8)(fA:∀x∈A,ah x=true)(fX:∀x∈X,ah x=true)(t:∀x∈B,ah x=true):(Bq n (fun l=>a8 n A i l) (fun l=>a8 c X l k)-fZ (a8 c B i k)*2^1074).natAbs<2^4200:=
 Bt (W:=4199) (V:=4200) (by decide) (zN n h _ _ (fun j _=>de n A i j fA) (fun j _=>de c X j k fX)) (zM (j:=2098) (k:=1074) (V:=4199) (by decide) (ew _ (de c B i k t)))
theorem zO(r n c:Nat)(A X B:H3)(j k:Nat)(h:r<=8)(l:n<=8)(fA:∀x∈A,ah x=true)(fX:∀x∈X,ah x=true)(t:∀x∈B,ah x=true):(zL r n c A X B j k).natAbs<2^6301:=
 kq (W:=6298) (V:=6301) (by decide) r h (fun i _=>iU (j:=2098) (k:=4200) (V:=6298) (by decide) (ew _ (de n A i j fA)) (Bv n c A X B i k l fA fX t))
attribute [local go_sem ↓] Go.wp_at_zero Go.wp_at_succ
def cq(I:List Int):H3:=I.map Int.toNat
theorem rL(I:List Int):(cq I).length=I.length:=by simp[cq]
theorem DB{w:World}{ao:GY}{c:Nat}{I:List Int}(h:ag w ao c I):(cq I).map (fun x:Nat=>(x:Int))=I:=by
 unfold cq;rw[List.map_map];refine(List.map_congr_left fun x l=>?_).trans (List.map_id I);have:=h.2.1 x l
 simp
 omega
theorem append_nil(w:World)(h:TypeId)(g c:Nat):
  (Builtin.append_ #[22,22] h #[.slice (some ⟨g,0,none⟩) 0 0,.slice none 0 c]).run Tryz.prog w=.ok (.slice (some ⟨g,0,none⟩) 0 0) w:=by
 simp[Builtin.append_,go_sem]
theorem ag.other{w:World}{ao:GY}{c:Nat}{I:List Int}(h:ag w ao c I){p:Addr}(G:I= []\/∃b l,ao=some ⟨b,l,none⟩/\b≠p.block)(u:Value):ag (w.setCell p u) ao c I:=by
 refine⟨h.1,h.2.1,?_⟩;rcases h.2.2 with e|⟨b,l,D,J,K⟩
 ·exact .inl e
 rcases G with e|⟨M,F,t,L⟩
 ·exact .inl e
 rw[D]at t;simp only[Option.some.injEq,Addr.mk.injEq]at t;obtain⟨rfl,rfl,_⟩:=t;refine .inr ⟨b,l,D,by simpa[World.setCell]using J,fun i H=>?_⟩;rw[au _ _ _ _ L];exact K i H
def dw(H:Nat)(ao:GY)(I:List Int):Prop:=I= []\/∃b off,ao=some ⟨b,off,none⟩/\H<=b
theorem ag.far{H:Nat}{w:World}{ao:GY}{c:Nat}{I:List Int}(h:ag w ao c I)(D:dw H ao I){b:Nat}(G:b<H)(j:Nat)(u:Value):ag (w.setCell ⟨b,j,none⟩ u) ao c I:=by
 refine h.other ?_ u;rcases D with e|⟨t,l,F,J⟩
 ·exact .inl e
 ·exact .inr ⟨t,l,F,by show t≠b;omega⟩
def aE(w:World)(b:Nat)(x y z:Value):Prop:=w.heap[b]? =some (.cells #[x,y,z] 24 (0,0))
theorem aE.c0{w:World}{b:Nat}{x y z:Value}(h:aE w b x y z):w.cell? ⟨b,0,none⟩=some x:=by rw[cell_of_row w b 0 _ _ _ h];rfl
theorem aE.c1{w:World}{b:Nat}{x y z:Value}(h:aE w b x y z):w.cell? ⟨b,1,none⟩=some y:=by rw[cell_of_row w b 1 _ _ _ h];rfl
theorem aE.c2{w:World}{b:Nat}{x y z:Value}(h:aE w b x y z):w.cell? ⟨b,2,none⟩=some z:=by rw[cell_of_row w b 2 _ _ _ h];rfl
theorem aE.free{w:World}{b:Nat}{x y z:Value}(h:aE w b x y z)(j:Nat):w.frozen? ⟨b,j,none⟩=false:=frozen_of_row w b j _ _ h
theorem aE.lt{w:World}{b:Nat}{x y z:Value}(h:aE w b x y z):b<w.heap.size:=(Array.getElem?_eq_some_iff.1 h).1
theorem aE.below{w t:World}{b:Nat}{x y z:Value}(h:aE w b x y z){B:Nat}(D:Below B w t)(l:b<B):aE t b x y z:=(D.block b l).trans h
theorem aE.new(w:World)(x y z:Value):aE (w.alloc (.cells #[x,y,z] 24)) w.heap.size x y z:=heap_alloc_new w _
theorem aE.all{w l:World}{b:Nat}{x y z:Value}(h:aE w b x y z)(t:H8 w l):aE l b x y z:=h.below t h.lt
theorem aE.other{w:World}{b:Nat}{x y z:Value}(h:aE w b x y z){p:Addr}(l:b≠p.block)(u:Value):aE (w.setCell p u) b x y z:=(Below.heap_setCell w p u b l).trans h
theorem aE.put{w:World}{b:Nat}{x y z:Value}(h:aE w b x y z)(u u' u'':Value):aE (((w.setCell ⟨b,0,none⟩ u).setCell ⟨b,1,none⟩ u').setCell ⟨b,2,none⟩ u'') b u u' u'':=by
 have l:=heap_setCell_same w b 0 _ _ u h;have t:=heap_setCell_same (w.setCell ⟨b,0,none⟩ u) b 1 _ _ u' l;have D:=heap_setCell_same ((w.setCell ⟨b,0,none⟩ u).setCell ⟨b,1,none⟩ u') b 2 _ _ u'' t;unfold aE;rw[D]
 simp
theorem az{w t:World}{B b:Nat}(h:Below B w t)(l:B<=b)(u u' u'':Value):Below B w (((t.setCell ⟨b,0,none⟩ u).setCell ⟨b,1,none⟩ u').setCell ⟨b,2,none⟩ u''):=
 ((h.setCell l _).setCell l _).setCell l _
theorem aE.grown{w l:World}{b:Nat}{x y z:Value}(h:aE w b x y z){o:Option Nat}(t:w.grownBy l o)(D:o≠some b):aE l b x y z:=
 (t.block b h.lt D.symm).trans h
def En(r c:Int):Bool:=decide (0<=r/\r<=6/\0<=c/\c<=6)
def kx(r c:Int)(n:Nat):Bool:=decide ((0<=r/\r<=6/\0<=c/\c<=6)/\(n:Int)=r*c)
theorem js(r c:Int)(w:World):
  GF 167 #[C0 r,C0 c] w fun e l=>e=.returned (.bool (En r c))/\w=l:=by
 rcases(show(r<0/\En r c=false)\/(0<=r/\6<r/\En r c=false)\/(0<=r/\r<=6/\c<0/\En r c=false)\/(0<=r/\r<=6/\0<=c/\6<c/\En r c=false)\/(0<=r/\r<=6/\0<=c/\c<=6/\En r c=true) by
  unfold En
  by_cases h:0<=r/\r<=6/\0<=c/\c<=6
  ·rw[decide_eq_true h];simp;omega
  ·rw[decide_eq_false h];simp;omega)with⟨h1,e⟩|⟨h1,h2,e⟩|⟨h1,h2,h3,e⟩|⟨h1,h2,h3,h4,e⟩|⟨h1,h2,h3,h4,e⟩
 all_goals
  rw[e];clear e
  go_enter Tryz.func167,Tryz.ntmps167
  go_wp2
  go_ret
  refine⟨?_,rfl⟩
  first|rfl|(simp;omega)
theorem mW(r c:Int)(ao:GY)(n cap:Nat)(w:World)(N:n<=35184372088830):
  BS 117 #[.agg #[C0 r,C0 c,.slice ao n cap]] w (C0 (if kx r c n=true then 0 else 1)):=by
 have t:=ac (fun H=>js r c H);have F:=ac (ad w (.cells #[C0 r,C0 c,.slice ao n cap] 24))
 by_cases l:0<=r/\r<=6/\0<=c/\c<=6
 ·have G:En r c=true:=decide_eq_true l
  rw[G]at t;have I:∃m:Nat,r*c=(m:Int)/\m<=36:=by
   obtain⟨a,rfl⟩:=Int.eq_ofNat_of_zero_le l.1;obtain⟨b,rfl⟩:=Int.eq_ofNat_of_zero_le l.2.2.1;refine⟨a*b,by simp,?_⟩;have:a*b<=6*6:=Nat.mul_le_mul (by omega) (by omega);omega
  obtain⟨m,I,M⟩:=I
  by_cases J:n=m
  ·have D:kx r c n=true:=decide_eq_true ⟨l,by rw[I,J]⟩
   rw[if_pos D];subst J;clear G D l
   go_enter Tryz.func117,Tryz.ntmps117
   go_wp2_with fail;refine(uH t _).mono ?_;rintro e K ⟨rfl,rfl⟩;clear t
   go_wp2
   go_ret
   exact⟨rfl,uH F⟩
  ·have D:kx r c n=false:=decide_eq_false (fun h=>J (by have:=h.2;omega))
   rw[if_neg (by rw[D];decide)];have L:decide ((n:Int)=(m:Int))=false:=decide_eq_false (by omega);clear G D l
   go_enter Tryz.func117,Tryz.ntmps117
   go_wp2_with fail;refine(uH t _).mono ?_;rintro e K ⟨rfl,rfl⟩;clear t
   go_wp2
   go_ret
   exact⟨rfl,uH F⟩
 ·have G:En r c=false:=decide_eq_false l
  rw[G]at t;have D:kx r c n=false:=decide_eq_false (fun h=>l h.1);rw[if_neg (by rw[D];decide)];clear G D l
  go_enter Tryz.func117,Tryz.ntmps117
  go_wp2_with fail;refine(uH t _).mono ?_;rintro e K ⟨rfl,rfl⟩;clear t
  go_wp2
  go_ret
  exact⟨rfl,uH F⟩
end Go.Proofs.YtcbcmlaogehimaaGreatDoor
