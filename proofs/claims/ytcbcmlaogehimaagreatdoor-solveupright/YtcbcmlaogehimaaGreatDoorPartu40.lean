/- Part 40 of the texts. -/
import Derived.Test.YtcbcmlaogehimaaGreatDoorPartu39
namespace Go.Proofs.YtcbcmlaogehimaaGreatDoor
open Go.RowKit
theorem Mk(r c:Nat)(S:H3){j:Nat}(l:j<r):∀t,j<t->t<=bZ r c->cv c (kB r c S t) r j j=cv c (kB r c S (j+1)) r j j:=by
 intro t
 induction t with
 |zero=>intro h _;omega
 |succ t ih=>
  intro F G;rcases Nat.lt_or_ge j t with g|g
  ·have D:=(jz r c t).1 (by omega)
   rw[<-ih g (by omega)];exact ni (kB r c S t) g (by omega) l
  ·rw[show t=j by omega]
theorem sC(r c:Nat)(S:H3){j:Nat}(l:j<bZ r c):fQ (a8 c (dy r c S) j j)=fQ (mX (gZ r c (kB r c S j) j)):=by
 have t:=(jz r c j).1 l;have h:=Mk r c S (show j<r by omega) (bZ r c) l (Nat.le_refl _);rw[dP _ _ _ _ (show j<r by omega)]at h;refine h.trans ?_;exact Ef (kB r c S j) (by omega) (by omega)
def mz(r c:Nat)(S:H3):Nat->List ((Nat->Rat)×Rat)
 |0=>[]
 |j+1=>if mf (ei r c S j).tail=true then mz r c S j else mz r c S j++[(vl j (kt (ei r c S j)),fQ (kA (ei r c S j)))]
theorem AG.vals{n c j:Nat}{A:Nat->Nat->Rat}{ms:List ((Nat->Rat)×Rat)}{C D:Nat->H3}(h:AG n c A ms C j)(K:∀k,k<c->(D k).length=n/\∀y∈D k,y<18446744073709551616/\ah y=true)
  (F:∀k,k<c->∀i,i<n->fc (D k) i=fc (C k) i):AG n c A ms D j:=by
 refine⟨h.mirs,h.len,K,fun k t G=>mh n _ ms _ _ _ (h.rest k t G) (fun i l=>(F k t i l).symm),fun k t H=>?_⟩;obtain⟨N,J,O,z,Q,U,Z,d5⟩:=h.done k t H;refine⟨fun i l I=>by rw[F k t i l];exact N i l I,J,O,z,Q,U,fun q L=>(Z q L).congr (fun i l=>by rw[F k t i l]),fun m M=>?_⟩;rw[d8 (fun _ _=>rfl) (fun i l=>F k t i l)];exact d5 m M
theorem Ca{r c:Nat}(W:H3){j k:Nat}(I:j<r)(D:j<k)(l:k<c){i:Nat}(h:i<r):
  cv c (yA r c W j) r k i=fc ((bH c W 0 r k).take j++lP (mV (kA (gZ r c W j)) (cH 0 (kt (gZ r c W j)) ((bH c W 0 r k).drop j))) (kt (gZ r c W j)) ((bH c W 0 r k).drop j)) i:=by
 have F:(gZ r c W j).length=r-j:=bD _ _ _ _ _;have lV:(kt (gZ r c W j)).length=r-j:=by rw[iW,F]
 have G:(bH c W 0 r k).length=r:=bD _ _ _ _ _;rw[dP _ _ _ _ h];unfold yA;rw[xB r c _ j _ h l,if_neg (fun e=>by omega),t7 r c W j j _ _ h l,sw c W k (by omega)];have H:((bH c W 0 r k).take j).length=j:=by rw[List.length_take,G];omega
 rcases Nat.lt_or_ge i j with g|g
 ·rw[if_neg (fun e=>by omega),jr _ _ i (by omega),lZ _ j i g]
  exact(dP c W r k h).symm
 ·rw[if_pos ⟨by omega,g,by rw[lV];omega⟩]
  have t:=gT ((bH c W 0 r k).take j) (lP (mV (kA (gZ r c W j)) (cH 0 (kt (gZ r c W j)) (bH c W j (r-j) k))) (kt (gZ r c W j)) (bH c W j (r-j) k)) (i-j);rw[H,show j+(i-j)=i by omega]at t;rw[t];unfold BI fc;rw[lV]
theorem AK{r c:Nat}(W:H3){j:Nat}(_hj:j<r)(l:j<c){i:Nat}(h:i<r):
  cv c (yA r c W j) r j i=if i<j then cv c W r j i else if i=j then fQ (mX (gZ r c W j))else 0:=by
 rw[dP _ _ _ _ h];unfold yA;rw[xB r c _ j _ h l];rcases Nat.lt_trichotomy i j with g|g|g
 ·rw[if_neg (fun e=>by omega),t7 r c W j j _ _ h l,if_neg (fun e=>by omega),if_pos g,dP _ _ _ _ h]
 ·rw[if_pos ⟨rfl,by omega,h⟩,if_pos g,if_neg (by omega),if_pos g]
 ·rw[if_pos ⟨rfl,by omega,h⟩,if_neg (by omega),if_neg (by omega),if_neg (by omega),jk]
theorem iP.cols{Z:Rat}{r c:Nat}{S:H3}(h:iP Z r c S){k:Nat}(l:k<c):(bH c S 0 r k).length=r/\∀y∈bH c S 0 r k,y<18446744073709551616/\ah y=true:=
 ⟨bD _ _ _ _ _,fun y t=>by have:=h.col (i:=0) (n:=r) (by omega) l y t;exact⟨this.1,this.2.1⟩⟩
theorem ym(j:Nat)(t l:H3)(hl:l.length<=6)(M:j+t.length=l.length)(K:∀v∈t,ah v=true/\1000*ab (fQ v)<=1001)(O:gh (p2 290) l){i:Nat}(hi:i<l.length):
  fc (l.take j++lP (mV 0 (cH 0 t (l.drop j))) t (l.drop j)) i=fc l i:=by
 have G:gh (p2 290) (l.drop j):=O.drop j;have Q:(l.drop j).length=t.length:=by rw[List.length_drop];omega
 have P:=av 290;have U:16*p2 290<=p2 900/\p2 900<=p2 1000/\p2 900<=p2 1023:=by
  have Z:=aq (show(290+1+1+1+1:Int)<=900 by decide);simp only[bu]at Z;exact⟨by grind,aq (by decide),aq (by decide)⟩
 have s1:gz (l.drop j)<=6*p2 290:=by
  have L:∀D:H3,(∀x∈D,ab (fQ x)<=p2 290)->gz D<=(D.length:Rat)*p2 290:=by
   intro D
   induction D with
   |nil=>intro _;show(0:Rat)<=((0:Nat):Rat)*_;have:((0:Nat):Rat)=0:=rfl;rw[this];grind
   |cons x D ih=>
    intro H;have i1:=ih (fun y F=>H y (List.mem_cons_of_mem _ F));have i2:=H x List.mem_cons_self;have I:gz (x::D)=ab (fQ x)+gz D:=rfl;have J:((x::D).length:Rat)=(D.length:Rat)+1:=by rw[List.length_cons,Rat.natCast_add];rfl
    rw[I,J]
    grind
  have k1:=L _ (fun x H=>(G x H).2.2);have l6:(l.drop j).length<=6:=by omega
  have k2:((l.drop j).length:Rat)<=((6:Nat):Rat):=Rat.natCast_le_natCast.2 l6;have e6:((6:Nat):Rat)=6:=rfl;rw[e6]at k2;have:=Rat.mul_nonneg (show 0<=6-((l.drop j).length:Rat) by grind) (Rat.le_of_lt P)
  grind
 have da:=FX t (l.drop j) (fun v h=>(K v h).2);have hη:=oU 0 (by decide);have P0:=aq (show(0:Int)<=290 by decide);obtain⟨d1,_⟩:=nP (7*p2 290) t (l.drop j) (by omega) (by grind) (by have:=av (-1075);grind) (fun v h=>(K v h).1) (fun y F=>(G y F).2.1) (by grind);obtain⟨t1,t2⟩:=gH 0 (cH 0 t (l.drop j)) (by decide) d1 (by rw[jk];grind);have ls:=Mh (mV 0 (cH 0 t (l.drop j))) t1 t2 t (l.drop j) Q.symm (fun v h=>(K v h).1) (fun y F=>⟨(G y F).1,(G y F).2.1,by have:=(G y F).2.2;grind⟩);obtain⟨l1,l2⟩:=Eg _ _ _ ls;have tl:(l.take j).length=j:=by rw[List.length_take];omega
 rcases Nat.lt_or_ge i j with N|N
 ·rw[jr _ _ i (by omega),lZ _ j i N]
 ·have I:=gT (l.take j) (lP (mV 0 (cH 0 t (l.drop j))) t (l.drop j)) (i-j)
  rw[tl,show j+(i-j)=i by omega]at I;rw[I,l2 (i-j) (by omega)];have J:=nW l j (i-j);rw[show j+(i-j)=i by omega]at J;exact J.symm
theorem Eh{r c:Nat}{W:H3}(h:iP (p2 290) r c W)(r6:r<=6){j:Nat}(J:j<r)(D:j<c)(K:mf (gZ r c W j).tail=true):∀k,k<c->∀i,i<r->cv c (yA r c W j) r k i=cv c W r k i:=by
 have G:(gZ r c W j).length=r-j:=bD _ _ _ _ _;have Q:gh (p2 290) (gZ r c W j):=h.col (by omega) D;obtain⟨a,l,t⟩:∃a l,gZ r c W j=a::l:=by
  cases hq:gZ r c W j with
  |nil=>rw[hq]at G;simp at G;omega
  |cons a l=>exact⟨a,l,rfl⟩
 have U:l.length+1=r-j:=by rw[<-G,t];rfl
 have F:mf l=true:=by rw[t]at K;exact K
 have Z:mX (gZ r c W j)=a:=by rw[t];exact if_pos F
 have eT:kA (gZ r c W j)=0:=by rw[t];exact if_pos F
 intro k N i H;rcases Nat.lt_trichotomy k j with g|g|g
 ·exact ni W g D H
 ·subst g
  rw[AK W J D H]
  split
  ·rfl
  ·rename_i g1
   have L:∀p,p<r-k->cv c W r k (k+p)=fc (a::l) p:=fun p I=>by
    rw[dP _ _ _ _ (show k+p<r by omega),<-t];unfold fc gZ;rw[gU c W k (r-k) k I]
   split
   ·rename_i O
    have:=L 0 (by omega);rw[Nat.add_zero]at this;rw[O,this,Z];rfl
   ·rename_i O
    have:=L (i-k) (by omega);rw[show k+(i-k)=i by omega]at this;rw[this];obtain⟨p,I⟩:∃p,i-k=p+1:=⟨i-k-1,by omega⟩;rw[I];have e4:fc (a::l) (p+1)=fQ (l.getD p 0):=rfl;rw[e4];have hm:l.getD p 0∈l:=by
     rw[List.getD_eq_getElem?_getD,List.getElem?_eq_getElem (by omega)];exact List.getElem_mem _
    exact(bf _ (rQ F _ hm)).symm
 ·rw[Ca W J g N H,eT]
  obtain⟨c1,c2,c3,c4,c5,c6⟩:=ji (gZ r c W j) (by omega) (Q.mono (aq (by decide)));have M:(bH c W 0 r k).length=r:=bD _ _ _ _ _;exact ym j (kt (gZ r c W j)) (bH c W 0 r k) (by omega) (by rw[M,iW,G];omega) c4 (h.col (i:=0) (n:=r) (by omega) N) (by rw[M];exact H)
theorem Pi{r c:Nat}{S:H3}(U:r<=6)(Z:iP (p2 200) r c S)(hC:AF r c (fun k=>cv c S r k))(J:Nat)(hJ:J<=bZ r c)(hd:∀j,j<J->p2 (-101)<=ab (fQ (mX (gZ r c (kB r c S j) j)))):
  ∀j,j<=J->AG r c (fun k=>cv c S r k) (mz r c S j) (fun k=>bH c (kB r c S j) 0 r k) j:=by
 intro j
 induction j with
 |zero=>
  intro _;exact⟨fun m hm=>(by cases hm),Nat.le_refl _,fun k G=>Z.cols G,fun k _ _ i _=>rfl,fun k _ h=>absurd h (Nat.not_lt_zero k)⟩
 |succ j ih=>
  intro hj;have F:=ih (by omega);have am:=(jz r c j).1 (by omega);have ap:j+1<r:=by omega
  have D:j<c:=by omega
  have E:=(Z.qall U j (by omega)).1.mono (Y:=p2 290) (aq (by have:bZ r c<=6:=(by unfold bZ;omega);omega))
  have E1:=(Z.qall U (j+1) (by omega)).1;have lX:(gZ r c (kB r c S j) j).length=r-j:=bD _ _ _ _ _;have eR:kB r c S (j+1)=yA r c (kB r c S j) j:=rfl
  by_cases O:mf (ei r c S j).tail=true
  ·have em:mz r c S (j+1)=mz r c S j:=if_pos O
   rw[em];have st:=Eh E U (by omega) D O;refine F.same (fun k G=>by rw[eR]at E1;exact E1.cols G) (fun k G i H=>st k G i H) (fun _ i H ae=>?_);have:=st j D i H;rw[AK _ (by omega) D H,if_neg (by omega),if_neg (by omega)]at this;exact this.symm
  ·have em:mz r c S (j+1)=mz r c S j++[(vl j (kt (ei r c S j)),fQ (kA (ei r c S j)))]:=if_neg O
   obtain⟨a,l,L⟩:∃a l,ei r c S j=a::l:=by
    cases hq:ei r c S j with
    |nil=>rw[show ei r c S j=gZ r c (kB r c S j) j from rfl]at hq;rw[hq]at lX;simp at lX;omega
    |cons a l=>exact⟨a,l,rfl⟩
   have K:¬mf l=true:=by rw[L]at O;exact O
   have t:gZ r c (kB r c S j) j=a::l:=L;have eB:mX (a::l)=g9 a l:=if_neg K;have eT:kA (a::l)=dV (aV (g9 a l) (fN a)) (g9 a l):=if_neg K;have eV:kt (a::l)=4607182418800017408::l.map (fun x=>dV x (mw a l)):=by
    show 4607182418800017408::l.map (fun x=>if mf l=true then 0 else dV x (mw a l))=_
    congr 1
    exact List.map_congr_left (fun x _=>if_neg K)
   have hX:gh (p2 290) (a::l):=by rw[<-t];exact E.col (by omega) D
   have l6:(a::l).length<=6:=by rw[<-t,lX];omega
   obtain⟨c1,c2,c3,c4,c5,c6⟩:=ji (a::l) l6 (hX.mono (aq (by decide)));rw[eB]at c6;have nl:=rP (a::l);obtain⟨s1,s2⟩:=BH a l;have hs:(fQ (g9 a l)=fQ (bM (a::l))/\fQ a<=0)\/(fQ (g9 a l)= -fQ (bM (a::l))/\0<=fQ a):=by
    unfold g9
    by_cases e:uX (a::l)=true
    ·rw[if_pos e];exact .inl ⟨rfl,s1 e⟩
    ·rw[if_neg e];exact .inr ⟨jR _ nl,s2 (by simpa using e)⟩
   have I:=hd j (by omega);rw[t,eB]at I;have aa:(bH c (kB r c S j) 0 r j).drop j=a::l:=by rw[sw c _ j (by omega)];exact t
   have M:=F.mirror hC D a (g9 a l) (mw a l) (dV (aV (g9 a l) (fN a)) (g9 a l)) l (l.map (fun x=>dV x (mw a l))) aa (jg a l) c6 I hs rfl rfl rfl;rw[em,L,eV,eT];refine M.vals (fun k G=>E1.cols G) (fun k G i H=>?_);have ax:cv c (yA r c (kB r c S j) j) r k i=_:=rfl;show cv c (yA r c (kB r c S j) j) r k i=_;unfold M7;rcases Nat.lt_trichotomy k j with g|g|g
   ·rw[if_pos g]
    exact ni _ g D H
   ·rw[if_neg (by omega),if_pos g]
    subst g;rw[AK _ (by omega) D H,t,eB];have lC:(bH c (kB r c S k) 0 r k).length=r:=bD _ _ _ _ _;have tl:((bH c (kB r c S k) 0 r k).take k).length=k:=by rw[List.length_take,lC];omega
    rcases Nat.lt_trichotomy i k with N|N|N
    ·rw[if_pos N,jr _ _ i (by show i<((bH c (kB r c S k) 0 r k).take k).length;omega),lZ _ k i N];rfl
    ·rw[if_neg (by omega),if_pos N]
     have Q:=gT ((bH c (kB r c S k) 0 r k).take k) (g9 a l::List.replicate ((4607182418800017408::l.map (fun x=>dV x (mw a l))).length-1) 0) 0;rw[tl,Nat.add_zero]at Q;rw[N,Q];rfl
    ·rw[if_neg (by omega),if_neg (by omega)]
     obtain⟨p,hp⟩:∃p,i=k+(p+1):=⟨i-k-1,by omega⟩;have Q:=gT ((bH c (kB r c S k) 0 r k).take k) (g9 a l::List.replicate ((4607182418800017408::l.map (fun x=>dV x (mw a l))).length-1) 0) (p+1);rw[tl]at Q;rw[hp,Q];unfold fc;rw[List.getD_eq_getElem?_getD,List.getElem?_cons_succ,List.getElem?_replicate]
     split<;>exact jk.symm
   ·rw[if_neg (by omega),if_neg (by omega),Ca _ (by omega) g G H,t,eT,eV]
def vG(r c:Nat)(S:H3)(K:Nat):Nat->List ((Nat->Rat)×Rat)
 |0=>[]
 |t+1=>if mf (ei r c S (K-1-t)).tail=true then vG r c S K t else vG r c S K t++[(vl (K-1-t) (kt (ei r c S (K-1-t))),fQ (kA (ei r c S (K-1-t))))]
theorem o9(r c:Nat)(S:H3)(K:Nat):∀t,t<=K->mz r c S K=mz r c S (K-t)++(vG r c S K t).reverse:=by
 intro t
 induction t with
 |zero=>intro _;show _=_++[];rw[List.append_nil];rfl
 |succ t ih=>
  intro l;rw[ih (by omega)];obtain⟨j,h⟩:∃j,K-1-t=j:=⟨_,rfl⟩;rw[show K-t=j+1 by omega,show K-(t+1)=j by omega];show(if _ then _ else _)++_=_++(if _ then _ else _:List _).reverse;rw[h]
  by_cases g:mf (ei r c S j).tail=true
  ·rw[if_pos g,if_pos g]
  ·rw[if_neg g,if_neg g,List.reverse_append,List.append_assoc]
   rfl
theorem Cb{r c:Nat}{S:H3}{K t:Nat}(h:t<=K):∀m∈vG r c S K t,m∈mz r c S K:=fun m l=>by
 rw[o9 r c S K t h];exact List.mem_append_right _ (List.mem_reverse.2 l)
theorem yp(r c:Nat)(S:H3)(K:Nat):(vG r c S K K).reverse=mz r c S K:=by
 have h:=o9 r c S K K (Nat.le_refl K);rw[Nat.sub_self]at h;exact h.symm
theorem Nb{r c:Nat}(W:H3){j k:Nat}(h:H3)(l:Nat)(D:j+h.length=r)(G:k<c){i:Nat}(t:i<r):
  cv c (rR r c W j 0 h l) r k i=fc ((bH c W 0 r k).take j++lP (mV l (cH 0 h ((bH c W 0 r k).drop j))) h ((bH c W 0 r k).drop j)) i:=by
 have H:(bH c W 0 r k).length=r:=bD _ _ _ _ _;rw[dP _ _ _ _ t,t7 r c W j 0 _ _ t G,sw c W k (by omega)];have I:((bH c W 0 r k).take j).length=j:=by rw[List.length_take,H];omega
 rcases Nat.lt_or_ge i j with g|g
 ·rw[if_neg (fun e=>by omega),jr _ _ i (by omega),lZ _ j i g]
  exact(dP c W r k t).symm
 ·rw[if_pos ⟨by omega,g,by omega⟩]
  have F:=gT ((bH c W 0 r k).take j) (lP (mV l (cH 0 h (bH c W j (r-j) k))) h (bH c W j (r-j) k)) (i-j);rw[I,show j+(i-j)=i by omega]at F;rw[F,show r-j=h.length by omega];unfold BI fc;rfl
theorem Ml{r c:Nat}{S:H3}(Q:r<=6)(U:iP (p2 200) r c S)(hm:kl r (1/8796093022208) (mz r c S (bZ r c)))(hl:(mz r c S (bZ r c)).length<=bZ r c){i:Nat}(D:i<r):
  ∀t,t<=bZ r c->jT r (288/9007199254740992) (vG r c S (bZ r c) t) (uv i) (cv r (sH r c S (bZ r c) t) r i):=by
 have q6:bZ r c<=6:=by unfold bZ;omega
 intro t
 induction t with
 |zero=>
  intro _ p l;rw[dP _ _ _ _ l];have e:a8 r (ML r) p i=if i=p then 4607182418800017408 else 0:=kw r r _ l D;show uv i p=fQ (a8 r (ML r) p i);rw[e];unfold uv
  by_cases g:p=i
  ·rw[if_pos g,if_pos g.symm,jx]
  ·rw[if_neg g,if_neg (fun h=>g h.symm),jk]
 |succ t ih=>
  intro ht;have H:=ih (by omega);obtain⟨j,J⟩:∃j,bZ r c-1-t=j:=⟨_,rfl⟩;have ae:=(jz r c j).1 (by omega);have E:=(U.qQ Q t (by omega)).mono (Y:=p2 290) (aq (by omega));have L:=(U.qall Q j (by omega)).1;have hX:gh (p2 300) (ei r c S j):=(L.col (i:=j) (n:=r-j) (by omega) (by omega)).mono (aq (by omega));obtain⟨c1,c2,c3,c4,c5,c6⟩:=ji (ei r c S j) (by rw[ku];omega) hX;have Z:sH r c S (bZ r c) (t+1)=rR r r (sH r c S (bZ r c) t) (bZ r c-1-t) 0 (kt (ei r c S (bZ r c-1-t))) (kA (ei r c S (bZ r c-1-t))):=rfl;have lV:j+(kt (ei r c S j)).length=r:=by rw[iW,ku];omega
  have F:(bH r (sH r c S (bZ r c) t) 0 r i).length=r:=bD _ _ _ _ _;have hC:gh (p2 290) (bH r (sH r c S (bZ r c) t) 0 r i):=E.col (i:=0) (n:=r) (by omega) D;have G:kl r (1/8796093022208) (vG r c S (bZ r c) t):=fun m h=>hm m (Cb (by omega) m h)
  have M:(vG r c S (bZ r c) t).length<=6:=by
   have e:=congrArg List.length (o9 r c S (bZ r c) t (by omega));rw[List.length_append,List.length_reverse]at e;omega
  by_cases I:mf (ei r c S j).tail=true
  ·have N:vG r c S (bZ r c) (t+1)=vG r c S (bZ r c) t:=by
    show(if _ then _ else _)=_;rw[J,if_pos I]
   rw[N,Z,J];refine mh r _ _ _ _ _ H (fun p l=>?_);rw[Nb _ _ _ lV D l];have eT:kA (ei r c S j)=0:=by
    cases hq:ei r c S j with
    |nil=>rfl
    |cons a xs=>
     rw[hq]at I;exact if_pos I
   rw[eT];exact(ym j _ _ (by omega) (by rw[F];exact lV) c4 hC (by rw[F];exact l)).symm
  ·have N:vG r c S (bZ r c) (t+1)=vG r c S (bZ r c) t++[(vl j (kt (ei r c S j)),fQ (kA (ei r c S j)))]:=by
    show(if _ then _ else _)=_;rw[J,if_neg I]
   rw[N,Z,J];have P0:=aq (show(0:Int)<=62 by decide);rw[oR]at P0;have b:=oz G M H ((Im r i D).mono P0);have P:=av 62;have aa:16*p2 62<=p2 900:=by
    have h1:=aq (show(62+1+1+1+1:Int)<=900 by decide);simp only[bu]at h1
    grind
   have s2:gz ((bH r (sH r c S (bZ r c) t) 0 r i).drop j)<=p2 900:=by
    have k:=F3 (bH r (sH r c S (bZ r c) t) 0 r i) j (by omega) _ (by rw[F];exact b)
    grind
   have s3:∀a,Bd (bH r (sH r c S (bZ r c) t) 0 r i).length (fc (bH r (sH r c S (bZ r c) t) 0 r i)) a->1267650600228229401496703205376*p2 (-1075)<=a:=fun a K=>by
    rw[F]at K;have lo:=uh (by grind) (by grind) (by grind) _ _ _ a G H K;have k:=lo.at D;unfold uv at k;rw[if_pos rfl,show ab (1:Rat)=1 by unfold ab;grind]at k;have p6:=aq (show(((vG r c S (bZ r c) t).length:Nat):Int)<=6 by omega);have m:=Rat.mul_le_mul_of_nonneg_left p6 K.1;have O:p2 6=64:=by rw[show(6:Int)=((6:Nat):Int) by rfl,cN];rfl
    have et:=oU (-30) (by decide);have e:1073741824*p2 (-30)=1:=by have:=kv (-30) 30;rw[show(-30:Int)+((30:Nat):Int)=0 by rfl,oR]at this;have e2:((2^30:Nat):Rat)=1073741824:=rfl;rw[e2]at this;exact this.symm
    rw[O]at m
    grind
   obtain⟨_,_,f3⟩:=tX j (kA (ei r c S j)) (kt (ei r c S j)) (bH r (sH r c S (bZ r c) t) 0 r i) (by omega) (by rw[F];exact lV) c2 c3 c4 (fun y hy=>(hC y hy).2.1) s2 (.inr s3);rw[F]at f3;refine mh r _ _ _ _ _ (nh r _ (vl j (kt (ei r c S j)),fQ (kA (ei r c S j))) _ _ _ _ H f3) (fun p l=>?_);exact(Nb _ _ _ lV D l).symm
theorem Pj{r c:Nat}{S:H3}(I:r<=6)(J:iP (p2 200) r c S)(F:kl r (1/8796093022208) (mz r c S (bZ r c)))(K:(mz r c S (bZ r c)).length<=bZ r c){i:Nat}(D:i<r):
  Bd r (cv r (iG r c S) r i) (1001/1000)/\Bd r (fun p=>cv r (iG r c S) r i p+(-1)*kS r (mz r c S (bZ r c)) (uv i) p) (1730/9007199254740992):=by
 have N:bZ r c<=6:=by unfold bZ;omega
 have G:=Ml I J F K D (bZ r c) (Nat.le_refl _);have t:kl r (1/8796093022208) (vG r c S (bZ r c) (bZ r c)):=fun m h=>F m (Cb (Nat.le_refl _) m h)
 have l:(vG r c S (bZ r c) (bZ r c)).length<=6:=by
  have e:=congrArg List.length (yp r c S (bZ r c));rw[List.length_reverse]at e;omega
 have L:=oz t l G (Im r i D);have H:=lW _ _ _ 1 t G (Im r i D);refine⟨L.mono (by grind),?_⟩;have e:bB r (vG r c S (bZ r c) (bZ r c)) (uv i)=kS r (mz r c S (bZ r c)) (uv i):=by
  rw[<-yp r c S (bZ r c),<-yh,List.reverse_reverse]
 rw[e]at H;refine H.mono ?_;have O:=AH _ l;have M:((vG r c S (bZ r c) (bZ r c)).length:Rat)<=6:=Rat.natCast_le_natCast.2 l;generalize er (1/8796093022208) (288/9007199254740992) (vG r c S (bZ r c) (bZ r c)).length=E at*
 grind
theorem yq:∀(rs l:H3) (s r x:Nat),rs.length=l.length->oy s (rs++[r]) (l++[x])=aV (oy s rs l) (fN (mV r x))
 | [],[],_,_,_,_=>rfl
 | [],_::_,_,_,_,h=>by simp at h
 |_::_,[],_,_,_,h=>by simp at h
 |a::rs,b::l,s,r,x,h=>by
  show oy _ (rs++[r]) (l++[x])=aV (oy _ rs l) _;exact yq rs l _ r x (by simpa using h)
theorem Pk(T:Nat->Nat->Nat)(X:Nat->Nat)(i s:Nat):∀q,IJ T X Hw i s (i+1+q)=oy s (nk T i q) ((List.range q).map (fun p=>X (i+1+p))):=by
 intro q
 induction q with
 |zero=>
  rw[Nat.add_zero,xO T X Hw i s (i+1) (fun p h=>decide_eq_false (by omega))];rfl
 |succ q ih=>
  show(if Hw i (i+1+q)=true then aV (IJ T X Hw i s (i+1+q)) (fN (mV (T i (i+1+q)) (X (i+1+q))))else IJ T X Hw i s (i+1+q))=_;rw[if_pos (show Hw i (i+1+q)=true from decide_eq_true (show i<i+1+q by omega)),ih];unfold nk;rw[List.range_succ,List.map_append,List.map_append];exact(yq _ _ s _ _ (by simp)).symm
theorem QA(n:Nat)(T:Nat->Nat->Nat)(b:Nat->Nat):∀m,m<=n->∀i,i<n->DY n T b (fun m=>n-1-m) Hw m i=if n-m<=i then(dj n T b m).getD (i-(n-m)) 0 else 0:=by
 intro m
 induction m with
 |zero=>intro _ i D;rw[if_neg (by omega)];rfl
 |succ m ih=>
  intro I i D;have h:=ih (by omega);show(if i=n-1-m then _ else _)=_
  by_cases g:i=n-1-m
  ·rw[if_pos g,if_pos (by omega)]
   have e:(dj n T b (m+1)).getD (i-(n-(m+1))) 0=dV (oy (b (n-m-1)) (nk T (n-m-1) m) (dj n T b m)) (T (n-m-1) (n-m-1)):=by
    rw[show i-(n-(m+1))=0 by omega];rfl
   rw[e,show n-m-1=n-1-m by omega];have l:=Pk T (DY n T b (fun m=>n-1-m) Hw m) (n-1-m) (b (n-1-m)) m;rw[show n-1-m+1+m=n by omega]at l;rw[l]
   congr 2
   refine List.ext_getElem (by rw[List.length_map,List.length_range,vw]) (fun p F G=>?_);rw[List.length_map,List.length_range]at F;rw[List.getElem_map,List.getElem_range,h (n-1-m+1+p) (by omega),if_pos (by omega),show n-1-m+1+p-(n-m)=p by omega,List.getD_eq_getElem?_getD,List.getElem?_eq_getElem G];rfl
  ·rw[if_neg g,h i D]
   by_cases t:n-m<=i
   ·rw[if_pos t,if_pos (by omega)]
    have e:(dj n T b (m+1)).getD (i-(n-(m+1))) 0=(dj n T b m).getD (i-(n-(m+1))-1) 0:=by
     obtain⟨p,H⟩:∃p,i-(n-(m+1))=p+1:=⟨i-(n-(m+1))-1,by omega⟩;rw[H];rfl
    rw[e,show i-(n-(m+1))-1=i-(n-m) by omega]
   ·rw[if_neg t,if_neg (by omega)]
theorem Nc{n q:Nat}(R B:H3){i k:Nat}(h:i<n)(l:k<q):a8 q (LW n q R B) i k=(dj n (a8 n R) (fun p=>a8 q B p k) n).getD i 0:=by
 unfold LW xN;rw[kw n q _ h l,QA n _ _ n (Nat.le_refl n) i h,if_pos (by omega),show i-(n-n)=i by omega]
def ti(r c q:Nat)(S B:H3):H3:=IH c r q (sG r c (t5 r (iG r c S) 0 0 r c)) B
def It(r c:Nat)(S:H3):H3:=t5 c (dy r c S) 0 0 c c
def ui(r c q:Nat)(S B:H3):H3:=LW c q (It r c S) (ti r c q S B)
theorem li{r c:Nat}(S:H3){i k:Nat}(h:i<c)(l:k<c):a8 c (It r c S) i k=a8 c (dy r c S) i k:=by
 unfold It t5;rw[kw c c _ h l,Nat.zero_add,Nat.zero_add]
theorem Mm:∀(n:Nat) (x y:Nat->Nat),Em n x y=cH 0 ((List.range n).map x) ((List.range n).map y):=by
 have D:∀(t l:H3) (s a b:Nat),t.length=l.length->cH s (t++[a]) (l++[b])=aV (cH s t l) (mV a b):=by
  intro t
  induction t with
  |nil=>intro l s a b h;cases l with|nil=>rfl|cons y l=>simp at h
  |cons x t ih=>intro l s a b h;cases l with
   |nil=>simp at h
   |cons y l=>exact ih l _ a b (by simpa using h)
 intro n x y
 induction n with
 |zero=>rfl
 |succ n ih=>
  rw[List.range_succ,List.map_append,List.map_append];show aV (Em n x y) (mV (x n) (y n))=_;rw[ih];exact(D _ _ 0 _ _ (by simp)).symm
theorem QE{r c q:Nat}(S B:H3)(_hcr:c<=r){i k:Nat}(h:i<c)(l:k<q):a8 q (ti r c q S B) i k=cH 0 (bH r (iG r c S) 0 r i) (bH q B 0 r k):=by
 unfold ti IH;rw[kw c q _ h l,Mm];have D:(List.range r).map (fun j=>a8 r (sG r c (t5 r (iG r c S) 0 0 r c)) i j)=bH r (iG r c S) 0 r i:=by
  unfold bH;refine List.map_congr_left (fun p t=>?_);have:=List.mem_range.1 t;unfold sG t5;rw[kw c r _ h this,kw r c _ this h,Nat.zero_add,Nat.zero_add]
 have F:(List.range r).map (fun j=>a8 q B j k)=bH q B 0 r k:=by
  unfold bH;exact List.map_congr_left (fun p _=>by rw[Nat.zero_add])
 rw[D,F]
def iI(r c:Nat)(S:H3):Prop:=iP (p2 60) r c S/\∀p q,p<r->q<c->fQ (a8 c S p q)=0\/p2 (-60)<=ab (fQ (a8 c S p q))
theorem iI.bd{r c:Nat}{S:H3}(h:iI r c S)(t:r<=6){k:Nat}(D:k<c):Bd r (cv c S r k) (p2 62):=by
 have P:=av 60;have e:4*p2 60=p2 62:=by rw[show(62:Int)=60+((2:Nat):Int) by rfl,kv];rfl
 exact(l8 r t _ (p2 60) (Rat.le_of_lt P) (fun i l=>by rw[dP _ _ _ _ l];exact(h.1 i k l D).2.2)).mono (by grind)
theorem iI.low{r c:Nat}{S:H3}(h:iI r c S){k:Nat}(t:k<c):(∀i,i<r->cv c S r k i=0)\/∃i,i<r/\p2 (-60)<=ab (cv c S r k i):=by
 by_cases g:∃i,i<r/\p2 (-60)<=ab (cv c S r k i)
 ·exact .inr g
 ·refine .inl (fun i l=>?_)
  rcases h.2 i k l t with e|e
  ·rw[dP _ _ _ _ l];exact e
  ·exact absurd ⟨i,l,by rw[dP _ _ _ _ l];exact e⟩ g
theorem iI.cols{r c:Nat}{S:H3}(h:iI r c S)(t:r<=6):AF r c (fun k=>cv c S r k):=⟨t,fun _ l=>h.bd t l,fun _ l=>h.low l⟩
theorem uj{c:Nat}{R R':Nat->Nat->Nat}{d h:Nat->Nat}(l:∀i k,i<=k->k<c->R i k=R' i k)(t:∀i,i<c->d i=h i):∀m,m<=c->dj c R d m=dj c R' h m:=by
 intro m
 induction m with
 |zero=>intro _;rfl
 |succ m ih=>
  intro F;show dV (oy (d (c-m-1)) (nk R (c-m-1) m) (dj c R d m)) (R (c-m-1) (c-m-1))::dj c R d m=dV (oy (h (c-m-1)) (nk R' (c-m-1) m) (dj c R' h m)) (R' (c-m-1) (c-m-1))::dj c R' h m;have e:nk R (c-m-1) m=nk R' (c-m-1) m:=List.map_congr_left (fun q D=>by
   have:=List.mem_range.1 D;exact l _ _ (by omega) (by omega))
  rw[ih (by omega),e,t _ (by omega),l _ _ (Nat.le_refl _) (by omega)]
theorem Ei{c:Nat}{A:Nat->Nat->Rat}{x y:Nat->Rat}(h:∀k,k<c->x k=y k)(i:Nat):iH c A x i=iH c A y i:=bN (fun k l=>by rw[h k l])
theorem pa{r c q:Nat}{S B:H3}(H:r<=6)(Q:c<=r)(U:iI r c S)(Z:iI r q B)(hd:∀j,j<c->p2 (-101)<=ab (fQ (a8 c (dy r c S) j j))){k:Nat}(K:k<q):
  AG r c (fun k=>cv c S r k) (mz r c S (bZ r c)) (fun k=>bH c (dy r c S) 0 r k) (bZ r c)/\
  Pv c (fun i l=>(bH c (dy r c S) 0 r l).getD i 0) (fun p=>a8 q (ti r c q S B) p k)/\
  (∀β,Bd r (cv q B r k) β->p2 (-900)<=β->β<=p2 900->∀i,i<c->ab (fQ (a8 q (ti r c q S B) i k)-bB r (mz r c S (bZ r c)) (cv q B r k) i)<=1760/9007199254740992*β)/\
  ((∀i,i<r->cv q B r k i=0)->∀i,i<c->fQ (a8 q (ti r c q S B) i k)=0):=by
 have q6:bZ r c<=6:=by unfold bZ;omega
 have O:iP (p2 200) r c S:=U.1.mono (aq (by decide));have hC:=U.cols H;have F:=Pi H O hC (bZ r c) (Nat.le_refl _) (fun j hj=>by rw[<-sC r c S hj];exact hd j (by have:=(jz r c j).1 hj;omega)) (bZ r c) (Nat.le_refl _);have hl:=F.len;have eF:kB r c S (bZ r c)=dy r c S:=rfl;rw[eF]at F;have ER:iP (p2 290) r c (dy r c S):=(O.qall H (bZ r c) (Nat.le_refl _)).1.mono (aq (by omega));have EQ:iP (p2 290) r r (iG r c S):=(O.qQ H (bZ r c) (Nat.le_refl _)).mono (aq (by omega));have D:=av 60;have ap:4*p2 60=p2 62:=by rw[show(62:Int)=60+((2:Nat):Int) by rfl,kv];rfl
 have bb:=l8 r H (cv q B r k) (p2 60) (Rat.le_of_lt D) (fun i h=>by rw[dP _ _ _ _ h];exact(Z.1 i k h K).2.2);have ax:16*p2 60<=p2 900/\p2 (-900)<=p2 60:=by
  have h1:=aq (show(60+1+1+1+1:Int)<=900 by decide);simp only[bu]at h1;exact⟨by grind,aq (by decide)⟩
 have M:∀i,i<c->a8 q (ti r c q S B) i k=cH 0 (bH r (iG r c S) 0 r i) (bH q B 0 r k):=fun i h=>QE S B Q h K
 have ae:∀i,i<c->a8 q (ti r c q S B) i k<18446744073709551616:=fun i h=>by
  unfold ti IH;rw[kw c q _ h K];exact GH _ _ _
 have I:∀β,Bd r (cv q B r k) β->p2 (-900)<=β->β<=p2 900->∀i,i<c->ah (a8 q (ti r c q S B) i k)=true/\ab (fQ (a8 q (ti r c q S B) i k)-bB r (mz r c S (bZ r c)) (cv q B r k) i)<=1760/9007199254740992*β:=fun β J b1 b2 i h=>by
  obtain⟨n1,n2⟩:=Pj H O F.mirs hl (show i<r by omega);rw[M i h];exact Pg r H (mz r c S (bZ r c)) (bH r (iG r c S) 0 r i) (bH q B 0 r k) i (by omega) (bD _ _ _ _ _) (fun x L=>(EQ.col (i:=0) (n:=r) (by omega) (show i<r by omega) x L).2.1) n1 n2 (bD _ _ _ _ _) (fun x L=>(Z.1.col (i:=0) (n:=r) (by omega) K x L).2.1) β J b1 b2
 have gm:=vu _ (show(mz r c S (bZ r c)).length<=6 by omega);refine⟨F,⟨by omega,fun i h=>?_,fun i l am t=>?_,fun i h=>?_⟩,fun β J b1 b2 i h=>(I β J b1 b2 i h).2,fun h0 i h=>?_⟩
 ·obtain⟨s1,s2⟩:=I _ bb (by grind) (by grind) i h
  refine⟨ae i h,s1,?_⟩;have rb:=(km (mz r c S (bZ r c)) (cv q B r k) _ F.mirs bb).at (show i<r by omega);have l1:=aw (fQ (a8 q (ti r c q S B) i k)-bB r (mz r c S (bZ r c)) (cv q B r k) i);have l2:=aw (bB r (mz r c S (bZ r c)) (cv q B r k) i);have tt:=bP (x:=fQ (a8 q (ti r c q S B) i k)) (y:=ab (fQ (a8 q (ti r c q S B) i k)-bB r (mz r c S (bZ r c)) (cv q B r k) i)+ab (bB r (mz r c S (bZ r c)) (cv q B r k) i)) (by grind) (by grind);have m:=Rat.mul_le_mul_of_nonneg_right gm (Rat.le_of_lt D);generalize gw (1/8796093022208) (mz r c S (bZ r c)).length=G at*;have e1:G*(5/2*p2 60)=5/2*(G*p2 60):=by grind
  rw[e1]at rb;have e2:1000000*G*p2 60=1000000*(G*p2 60):=by grind
  rw[e2]at m;generalize G*p2 60=z at*
  grind
 ·have ba:=l8 r H (cv c S r l) (p2 60) (Rat.le_of_lt D) (fun i h=>by rw[dP _ _ _ _ h];exact(U.1 i l h t).2.2)
  have f:=(F.final hC q6 (fun k K aa=>by unfold bZ at aa;omega) l t _ ba).1;have rb:=km (mz r c S (bZ r c)) (cv c S r l) _ F.mirs ba;have tb:=((f.add rb).congr (fun i _=>(by grind:(fc (bH c (dy r c S) 0 r l) i+(-1)*bB r (mz r c S (bZ r c)) (cv c S r l) i)+bB r (mz r c S (bZ r c)) (cv c S r l) i=fc (bH c (dy r c S) 0 r l) i))).at (show i<r by omega);have ec:(bH c (dy r c S) 0 r l).getD i 0=a8 c (dy r c S) i l:=by
   rw[gU c _ 0 r l (by omega),Nat.zero_add]
  refine⟨by rw[ec];exact(ER i l (by omega) t).1,by rw[ec];exact(ER i l (by omega) t).2.1,?_⟩;show ab (fc (bH c (dy r c S) 0 r l) i)<=_;have m:=Rat.mul_le_mul_of_nonneg_right gm (Rat.le_of_lt D);generalize gw (1/8796093022208) (mz r c S (bZ r c)).length=G at*;have e1:G*(5/2*p2 60)=5/2*(G*p2 60):=by grind
  rw[e1]at tb;have e2:1000000*G*p2 60=1000000*(G*p2 60):=by grind
  rw[e2]at m;generalize G*p2 60=z at*
  grind
 ·show p2 (-101)<=ab (fQ ((bH c (dy r c S) 0 r i).getD i 0))
  rw[gU c _ 0 r i (by omega),Nat.zero_add];exact hd i h
 ·rw[M i h]
  refine(pr _ _ 0 (by decide) jk (fun x L=>(EQ.col (i:=0) (n:=r) (by omega) (show i<r by omega) x L).2.1) (fun y hy=>⟨(Z.1.col (i:=0) (n:=r) (by omega) K y hy).2.1,?_⟩)).2;obtain⟨p,hp,rfl⟩:=List.mem_map.1 hy;have N:=List.mem_range.1 hp;have:=h0 p N;rw[dP _ _ _ _ N]at this;rw[Nat.zero_add];exact this
theorem QG{r c q:Nat}(S B:H3)(h:c<=r){i k:Nat}(t:i<c)(D:k<q):fQ (a8 q (ui r c q S B) i k)=fc (dj c (fun i l=>(bH c (dy r c S) 0 r l).getD i 0) (fun p=>a8 q (ti r c q S B) p k) c) i:=by
 unfold ui;rw[Nc _ _ t D];unfold fc;rw[uj (R:=a8 c (It r c S)) (R':=fun i l=>(bH c (dy r c S) 0 r l).getD i 0) (fun i l F G=>by
  rw[li S (by omega) G,gU c _ 0 r l (by omega),Nat.zero_add]) (fun _ _=>rfl) c (Nat.le_refl c)]
theorem Ej{r c q:Nat}{S B:H3}(M:r<=6)(D:c<=r)(Z:iI r c S)(N:iI r q B)(hd:∀j,j<c->p2 (-101)<=ab (fQ (a8 c (dy r c S) j j))){k:Nat}(I:k<q):
  1180591620717411303424*sm c (fun l=>dt r (cv c S r l) (fun i=>cv q B r k i+(-1)*iH c (fun l=>cv c S r l) (fun i=>fQ (a8 q (ui r c q S B) i k)) i)*dt r (cv c S r l) (fun i=>cv q B r k i+(-1)*iH c (fun l=>cv c S r l) (fun i=>fQ (a8 q (ui r c q S B) i k)) i))
   <=sm c (fun l=>dt r (cv c S r l) (cv c S r l))*(sm c (fun l=>dt r (cv c S r l) (cv c S r l))*sm c (fun i=>fQ (a8 q (ui r c q S B) i k)*fQ (a8 q (ui r c q S B) i k))+dt r (cv q B r k) (cv q B r k)):=by
 have q6:bZ r c<=6:=by unfold bZ;omega
 have L:=Z.cols M;obtain⟨F,hT,H,hz⟩:=pa M D Z N hd I;have hl:=F.len;obtain⟨x,U⟩:∃x,fc (dj c (fun i l=>(bH c (dy r c S) 0 r l).getD i 0) (fun p=>a8 q (ti r c q S B) p k) c)=x:=⟨_,rfl⟩;have J:∀i,i<c->fQ (a8 q (ui r c q S B) i k)=x i:=fun i h=>by rw[QG S B D h I,U]
 have e1:∀i,iH c (fun l=>cv c S r l) (fun i=>fQ (a8 q (ui r c q S B) i k)) i=iH c (fun l=>cv c S r l) x i:=fun i=>Ei J i
 have e2:sm c (fun i=>fQ (a8 q (ui r c q S B) i k)*fQ (a8 q (ui r c q S B) i k))=dt c x x:=bN (fun i h=>by rw[J i h]);rw[e2];have e3:(fun i=>cv q B r k i+(-1)*iH c (fun l=>cv c S r l) (fun i=>fQ (a8 q (ui r c q S B) i k)) i)=fun i=>cv q B r k i+(-1)*iH c (fun l=>cv c S r l) x i:=by
  funext i
  rw[e1 i]
 rw[e3];rcases N.low I with h0|K
 ·have Q:=yk hT (fun i h=>hz h0 i h) c (Nat.le_refl c)
  have x0:∀i,x i=0:=fun i=>by
   rw[<-U];unfold fc
   by_cases g:i<(dj c (fun i l=>(bH c (dy r c S) 0 r l).getD i 0) (fun p=>a8 q (ti r c q S B) p k) c).length
   ·rw[List.getD_eq_getElem?_getD,List.getElem?_eq_getElem g]
    exact(Q _ (List.getElem_mem g)).2
   ·rw[List.getD_eq_getElem?_getD,List.getElem?_eq_none (by omega)]
    exact jk
  have g0:∀l,l<c->dt r (cv c S r l) (fun i=>cv q B r k i+(-1)*iH c (fun l=>cv c S r l) x i)=0:=fun l _=>by
   refine dz _ _ (fun i h=>?_);have:iH c (fun l=>cv c S r l) x i=0:=dz _ _ (fun p _=>by rw[x0 p];grind);show cv c S r l i*(cv q B r k i+(-1)*iH c (fun l=>cv c S r l) x i)=0;rw[h0 i h,this]
   grind
  rw[dz c _ (fun l hl=>by rw[g0 l hl];grind)];have s1:0<=sm c (fun l=>dt r (cv c S r l) (cv c S r l)):=eh (fun l _=>je r _);have s2:=je c x;have s3:=je r (cv q B r k);have m:=Rat.mul_nonneg s1 s2;have m2:=Rat.mul_nonneg s1 (show 0<=sm c (fun l=>dt r (cv c S r l) (cv c S r l))*dt c x x+dt r (cv q B r k) (cv q B r k) by grind)
  grind
 ·exact vz L D F.mirs (by omega) (fun l t y hy=>(F.final L q6 (fun k I G=>by unfold bZ at G;omega) l t y hy).1) (fun l i t O h=>(F.final L q6 (fun k I G=>by unfold bZ at G;omega) l t _ (L.size l t)).2 i h O) (N.bd M I) K H hT x U.symm
theorem Pl{r c q:Nat}{S B:H3}(H:r<=6)(h:c<=r)(I:iI r c S)(J:iI r q B)(K:∀j,j<c->p2 (-101)<=ab (fQ (a8 c (dy r c S) j j))):∀i k,i<c->k<q->ah (a8 q (ui r c q S B) i k)=true:=by
 intro i k D G;obtain⟨F,N,t,Q⟩:=pa H h I J K G;obtain⟨O,_⟩:=BQ N c (Nat.le_refl c);unfold ui;rw[Nc _ _ D G,uj (R:=a8 c (It r c S)) (R':=fun i l=>(bH c (dy r c S) 0 r l).getD i 0) (fun i l L M=>by
  rw[li S (by omega) M,gU c _ 0 r l (by omega),Nat.zero_add]) (fun _ _=>rfl) c (Nat.le_refl c)]
 have g:i<(dj c (fun i l=>(bH c (dy r c S) 0 r l).getD i 0) (fun p=>a8 q (ti r c q S B) p k) c).length:=by rw[vw];exact D
 rw[List.getD_eq_getElem?_getD,List.getElem?_eq_getElem g];exact(O _ (List.getElem_mem g)).2
theorem Iu(a:Nat)(h:ah a=true):ah (fR a)=true/\fQ (fR a)=ab (fQ a):=by
 have D:=kN a h;have l:=kQ (fR a) (kL a);have t:fS (fR a)=false:=decide_eq_false (by have:=kL a;omega);refine⟨?_,?_⟩
 ·unfold ah fP
  refine decide_eq_true ?_;omega
 ·rw[dD,t,jp,l.2.1]
  simp
theorem Pm{a b:Nat}:fZ a<fZ b↔fQ a<fQ b:=by
 constructor
 ·intro h
  unfold fQ;exact Rat.mul_lt_mul_of_pos_right (Rat.intCast_lt_intCast.2 h) (av _)
 ·intro h
  rcases Int.lt_or_le (fZ a) (fZ b)with g|g
  ·exact g
  ·exfalso
   have:=Pe g
   grind
theorem Cc{a b:Nat}(h:ah a=true)(l:ah b=true):cO a b<0↔fQ a<fQ b:=by
 have t:=(cI h).2;have D:=(cI l).2;rw[<-Pm];unfold cO bY;rw[if_neg (fun e=>e.elim t D)]
 repeat' split
 all_goals omega
theorem Iv{r c:Nat}{S:H3}(h:iP (p2 290) r c S):ah (bT 0 (gI r c S))=true/\bT 0 (gI r c S)<18446744073709551616/\0<=fQ (bT 0 (gI r c S))/\(∀i,i<r->i<c->ab (fQ (a8 c S i i))<=fQ (bT 0 (gI r c S)))/\(fQ (bT 0 (gI r c S))=0\/∃i,i<r/\i<c/\ab (fQ (a8 c S i i))=fQ (bT 0 (gI r c S))):=by
 have G:∀x∈gI r c S,∃i,i<r/\i<c/\x=a8 c S i i:=fun x D=>by
  obtain⟨i,J,rfl⟩:=List.mem_map.1 D;have:=List.mem_range.1 J;exact⟨i,by omega,by omega,rfl⟩
 obtain⟨K,O,L,M⟩:=nO (gI r c S) 0 (by decide) (fun x D=>by obtain⟨i,l,t,rfl⟩:=G x D;exact(h i i l t).2.1);obtain⟨z1,z2,N⟩:=kQ (bT 0 (gI r c S)) (by omega);have I:ah (bT 0 (gI r c S))=true:=(cY _).2.2.2 (by rw[z2];exact K);have F:∀i,i<r->i<c->ab (fQ (a8 c S i i))=(rv (fR (a8 c S i i)):Rat)*p2 (-1074):=fun i _ _=>jp _
 have H:fQ (bT 0 (gI r c S))=(rv (bT 0 (gI r c S)):Rat)*p2 (-1074):=by
  unfold fQ;rw[z1];rfl
 refine⟨I,by omega,iM _ N,fun i l t=>?_,?_⟩
 ·rw[F i l t,H]
  have k:a8 c S i i∈gI r c S:=List.mem_map.2 ⟨i,List.mem_range.2 (by omega),rfl⟩;have:=j0 (L _ k);exact Rat.mul_le_mul_of_nonneg_right (Rat.natCast_le_natCast.2 this) (Rat.le_of_lt (av _))
 ·rcases M with e|⟨x,D,e⟩
  ·left;rw[e];exact jk
  ·obtain⟨i,l,t,rfl⟩:=G x D
   right
   refine⟨i,l,t,?_⟩;rw[F i l t,H,e]
theorem Iw{r c:Nat}{S:H3}(_h:iP (p2 290) r c S):Aq r c S=false↔∀i,i<r->i<c->cO (xV (bT 0 (gI r c S)) (-40)) (fR (a8 c S i i))<0:=by
 unfold Aq;rw[List.any_eq_false]
 constructor
 ·intro g i t D
  have:=g (a8 c S i i) (List.mem_map.2 ⟨i,List.mem_range.2 (by omega),rfl⟩);unfold Qq at this
  simpa using this
 ·intro g x l
  obtain⟨i,h,rfl⟩:=List.mem_map.1 l;have:=List.mem_range.1 h;have k:=g i (by omega) (by omega);unfold Qq
  simp[k]
theorem Pn:p2 (-40)*1099511627776=1:=by have:=kv (-40) 40;rw[show(-40:Int)+((40:Nat):Int)=0 by rfl,oR]at this;have h:((2^40:Nat):Rat)=1099511627776:=rfl;rw[h]at this;grind
theorem yr{r c:Nat}{S:H3}(h:iP (p2 290) r c S):ah (xV (bT 0 (gI r c S)) (-40))=true/\(p2 (-900)<=fQ (bT 0 (gI r c S))->fQ (xV (bT 0 (gI r c S)) (-40))=fQ (bT 0 (gI r c S))*p2 (-40))/\0<=fQ (xV (bT 0 (gI r c S)) (-40)):=by
 obtain⟨F,J,K,g4,Q⟩:=Iv h;have l:=av (-40);have Ra:fQ (bT 0 (gI r c S))<=p2 290:=by
  rcases Q with e|⟨i,Z,h2,e⟩
  ·rw[e];exact Rat.le_of_lt (av _)
  ·rw[<-e];exact(h i i Z h2).2.2
 have G:ab (fQ (bT 0 (gI r c S)))=fQ (bT 0 (gI r c S)):=aQ K;have H:p2 290*p2 (-40)<p2 1023:=by
  rw[<-bR];exact PV (by decide)
 have m1:=Rat.mul_le_mul_of_nonneg_right Ra (Rat.le_of_lt l);have t:ab (fQ (bT 0 (gI r c S)))*p2 (-40)<p2 1023:=by rw[G];grind
 have M:=jP (bT 0 (gI r c S)) (-40) J F t;refine⟨M,fun D=>?_,?_⟩
 ·refine(pn (bT 0 (gI r c S)) (-40) J F t ?_).2
  rw[G];have m2:=Rat.mul_le_mul_of_nonneg_right D (Rat.le_of_lt l);have e:p2 (-900)*p2 (-40)=p2 (-940):=by rw[<-bR];rfl
  have:=aq (show(-1022:Int)<=-940 by decide)
  grind
 ·by_cases I:fK (bT 0 (gI r c S))=0
  ·rw[oT _ _ I];exact K
  ·have N:fS (bT 0 (gI r c S))=false:=by
    obtain⟨b1,_⟩:=nO (gI r c S) 0 (by decide) (fun x L=>by
     obtain⟨i,U,rfl⟩:=List.mem_map.1 L;have:=List.mem_range.1 U;exact(h i i (by omega) (by omega)).2.1)
    exact(kQ _ (by omega)).2.2
   rw[ru _ _ F I];refine iM _ ?_;have O:=ej (fD (bT 0 (gI r c S))).natAbs (fX (bT 0 (gI r c S))+-40);rw[kg _ _ (by omega)];exact N
theorem QH{r c:Nat}{S:H3}(h:iP (p2 290) r c S)(L:Aq r c S=false){i j:Nat}(G:i<r)(l:i<c)(H:j<r)(t:j<c)(F:p2 (-900)<=ab (fQ (a8 c S j j))):ab (fQ (a8 c S j j))<1099511627776*ab (fQ (a8 c S i i)):=by
 obtain⟨U,Z,g3,K,g5⟩:=Iv h;obtain⟨M,N,b3⟩:=yr h;have k:=(Iw h).1 L i G l;obtain⟨O,Q⟩:=Iu _ (h i i G l).2.1;rw[Cc M O,Q,N (Rat.le_trans F (K j H t))]at k;have e:=Pn;have:=K j H t;have J:=av (-40);have m:=Rat.mul_le_mul_of_nonneg_right this (Rat.le_of_lt J);clear h L U Z g3 K g5 M N b3 O Q F this G l H t;have e2:ab (fQ (a8 c S j j))*p2 (-40)*1099511627776=ab (fQ (a8 c S j j)):=by rw[Rat.mul_assoc,e,Rat.mul_one]
 generalize ab (fQ (a8 c S j j))=D at*;generalize ab (fQ (a8 c S i i))=I at*;generalize fQ (bT 0 (gI r c S))=B at*;generalize p2 (-40)=p at*
 grind
theorem Ix{r c:Nat}{S:H3}(h:iP (p2 290) r c S)(D:Aq r c S=false){i:Nat}(t:i<r)(l:i<c):0<ab (fQ (a8 c S i i)):=by
 obtain⟨F,I,J⟩:=yr h;have k:=(Iw h).1 D i t l;obtain⟨G,H⟩:=Iu _ (h i i t l).2.1;rw[Cc F G,H]at k
 grind
theorem Iy{r c:Nat}{S:H3}(h:iP (p2 200) r c S)(H:0<r)(I:0<c)(G:∀i,i<r->fQ (a8 c S i 0)=0):fQ (a8 c (dy r c S) 0 0)=0:=by
 by_cases t:0<bZ r c
 ·rw[sC r c S t]
  have M:(gZ r c S 0).length=r:=by rw[uZ];rfl
  have D:gh (p2 200) (gZ r c S 0):=h.col (i:=0) (n:=r-0) (by omega) I;have F:∀x∈gZ r c S 0,fQ x=0:=by
   intro x l;obtain⟨p,L,rfl⟩:=List.mem_map.1 l;have J:=List.mem_range.1 L;rw[Nat.zero_add];exact G p (by omega)
  show fQ (mX (gZ r c S 0))=0
  cases t:gZ r c S 0 with
  |nil=>exact jk
  |cons a xs=>
   rw[t]at D F;have K:mf xs=true:=List.all_eq_true.2 (fun x l=>decide_eq_true (BG (D x (List.mem_cons_of_mem _ l)).1 (D x (List.mem_cons_of_mem _ l)).2.1 (F x (List.mem_cons_of_mem _ l))));have e:mX (a::xs)=a:=if_pos K;rw[e];exact F a List.mem_cons_self
 ·have e:bZ r c=0:=by omega
  unfold dy;rw[e];exact G 0 H
end Go.Proofs.YtcbcmlaogehimaaGreatDoor
