/- Part 38 of the texts. -/
import Derived.Test.YtcbcmlaogehimaaGreatDoorPartu37
namespace Go.Proofs.YtcbcmlaogehimaaGreatDoor
open Go.RowKit
def iP(Z:Rat)(r c:Nat)(S:H3):Prop:=∀p q,p<r->q<c->a8 c S p q<18446744073709551616/\ah (a8 c S p q)=true/\ab (fQ (a8 c S p q))<=Z
theorem iP.mono{Z Y:Rat}{r c:Nat}{S:H3}(h:iP Z r c S)(D:Z<=Y):iP Y r c S:=fun p q l t=>⟨(h p q l t).1,(h p q l t).2.1,Rat.le_trans (h p q l t).2.2 D⟩
theorem iP.col{Z:Rat}{r c:Nat}{S:H3}(h:iP Z r c S){i n q:Nat}(F:i+n<=r)(l:q<c):gh Z (bH c S i n q):=by
 intro x D;obtain⟨j,t,rfl⟩:=List.mem_map.1 D;have:=List.mem_range.1 t;exact h (i+j) q (by omega) l
theorem iP.fins{Z:Rat}{r c:Nat}{S:H3}(h:iP Z r c S)(t:S.length=r*c):cF S=true:=by
 rw[jh];intro k l;rw[t]at l;obtain⟨D,F,G⟩:=iE l;have:=(h (k/c) (k%c) D F).2.1;unfold a8 at this
 rwa[G]at this
theorem iP.ap{Z:Rat}{r c:Nat}{S:H3}(h:iP Z r c S)(i k:Nat)(t:H3)(l:Nat)(M:t.length<=6)(N:i+t.length<=r)(O:ah l=true)(Q:1000*ab (fQ l)<=2001)(U:∀v∈t,ah v=true/\1000*ab (fQ v)<=1001)(hZ:6*Z<=p2 900)(G:1267650600228229401496703205376*p2 (-1075)<=Z):iP (24*Z) r c (rR r c S i k t l):=by
 intro p q L F;have Z0:0<=Z:=by have:=av (-1075);grind
 rw[t7 r c S i k t l L F]
 split
 ·rename_i g
  have J:=h.col (n:=t.length) N F;have K:p-i<t.length:=by omega
  have H:=Eb l Z t (bH c S i t.length q) M (bD _ _ _ _ _).symm O Q U (fun y I=>⟨(J y I).2.1,(J y I).2.2⟩) hZ G;have D:(BI c S i q t l).getD (p-i) 0∈BI c S i q t l:=by
   rw[List.getD_eq_getElem?_getD,List.getElem?_eq_getElem (by rw[Lk];exact K)];exact List.getElem_mem _
  have:=H _ D;refine⟨?_,this.1,this.2⟩;rw[uY c S i q t l K];exact jc _ _ (h (i+(p-i)) q (by omega) F).1 (iY _ (iQ _ _))
 ·have:=h p q L F
  exact⟨this.1,this.2.1,by grind⟩
theorem iP.cl{Z:Rat}{r c:Nat}{S:H3}(h:iP Z r c S)(j:Nat)(b:Nat)(F:0<=Z)(D:b<18446744073709551616/\ah b=true/\ab (fQ b)<=Z):iP Z r c (MO r c S j b):=by
 intro p q l t;rw[xB r c S j b l t]
 repeat' split
 ·exact D
 ·rw[jk];exact⟨by decide,by decide,by unfold ab;grind⟩
 ·exact h p q l t
theorem Ik(X:H3)(Z:Rat)(D:X.length<=6)(F:gh Z X)(I:Z<=p2 290)(J:p2 (-800)<=Z):mX X<18446744073709551616/\ah (mX X)=true/\ab (fQ (mX X))<=24*Z:=by
 have t:gh (p2 300) X:=F.mono (Rat.le_trans I (aq (by decide)));obtain⟨c1,c2,c3,c4,O,Q⟩:=ji X D t;obtain⟨x1,x2,x3,x4⟩:=Ie X D t;have p0:=av (-800);have Z0:0<Z:=by grind
 refine⟨GZ X (fun x K=>(F x K).1),Q,?_⟩
 by_cases H:X= []
 ·rw[H]
  show ab (fQ 0)<=_;rw[jk];unfold ab;grind
 have S0:=bW X;have hS:aL X<=6*(Z*Z):=by
  have L:=qg Z X (fun x h=>(F x h).2.2);have M:(X.length:Rat)<=6:=Rat.natCast_le_natCast.2 D;have:=Rat.mul_nonneg (show 0<=6-(X.length:Rat) by grind) (ak Z)
  grind
 have N:p2 (-1700)<=Z*Z:=by
  have q0:=av (-800);have L:=Rat.mul_nonneg (show 0<=Z-p2 (-800) by grind) (show 0<=Z+p2 (-800) by grind);have h2:p2 (-1600)=p2 (-800)*p2 (-800):=by rw[<-AC];rfl
  have h3:=aq (show(-1700:Int)<=-1600 by decide)
  grind
 have l:=aw (fQ (bM X)*fQ (bM X)-aL X);have G:fQ (mX X)*fQ (mX X)<=24*Z*(24*Z):=by
  have e:24*Z*(24*Z)=576*(Z*Z):=by grind
  rw[e];rcases O H with g|g
  ·rw[g]
   generalize fQ (bM X)*fQ (bM X)=U at*;generalize Z*Z=ZZ at*;generalize aL X=SS at*;generalize ab (U-SS)=z at*
   grind
  ·rw[g]
   generalize Z*Z=ZZ at*
   grind
 refine dr (by grind) ?_;rw[show ab (fQ (mX X))*ab (fQ (mX X))=fQ (mX X)*fQ (mX X) by rw[<-aM];exact aQ (ak _)];exact G
theorem iP.eye(r:Nat):iP (p2 0) r r (ML r):=by
 intro p q h l;rw[show a8 r (ML r) p q=if q=p then 4607182418800017408 else 0 from kw r r _ h l,oR]
 split
 ·rw[jx];exact⟨by decide,by decide,by unfold ab;grind⟩
 ·rw[jk];exact⟨by decide,by decide,by unfold ab;grind⟩
theorem Pe{a b:Nat}(h:fZ a<=fZ b):fQ a<=fQ b:=by
 unfold fQ;have l:(fZ a:Rat)<=(fZ b:Rat):=Rat.intCast_le_intCast.2 h;exact Rat.mul_le_mul_of_nonneg_right l (Rat.le_of_lt (av _))
def cv(c:Nat)(T:H3)(r k:Nat):Nat->Rat:=fc (bH c T 0 r k)
theorem dP(c:Nat)(T:H3)(r k:Nat){i:Nat}(h:i<r):cv c T r k i=fQ (a8 c T i k):=by
 unfold cv fc;rw[gU c T 0 r k h,Nat.zero_add]
theorem sw(c:Nat)(T:H3){j r:Nat}(k:Nat)(D:j<=r):(bH c T 0 r k).drop j=bH c T j (r-j) k:=by
 refine List.ext_getElem (by rw[List.length_drop,bD,bD]) (fun i F h=>?_);rw[bD]at h;have l:=gU c T 0 r k (j:=j+i) (by omega);have t:=gU c T j (r-j) k h;rw[List.getD_eq_getElem?_getD,List.getElem?_eq_getElem (by rw[bD];omega)]at l;rw[List.getD_eq_getElem?_getD,List.getElem?_eq_getElem (by rw[bD];exact h)]at t;simp only[Option.getD_some]at l t;rw[List.getElem_drop,l,t,Nat.zero_add]
theorem Mg(c:Nat)(T:H3){j r:Nat}(k:Nat)(D:j<=r):dt r (MZ j (cv c T r k)) (MZ j (cv c T r k))=aL (bH c T j (r-j) k):=by
 have e:=F1 j (r-j) (bH c T j (r-j) k) (vl j (bH c T j (r-j) k));rw[show j+(r-j)=r by omega]at e;rw[<-rB,bD];have t:dt r (MZ j (cv c T r k)) (MZ j (cv c T r k))=dt r (vl j (bH c T j (r-j) k)) (vl j (bH c T j (r-j) k)):=by
  have h:∀i,i<r->MZ j (cv c T r k) i=vl j (bH c T j (r-j) k) i:=fun i l=>by
   unfold MZ vl
   split
   ·rfl
   ·rename_i g
    rw[dP c T r k l];unfold fc;rw[gU c T j (r-j) k (by omega),show j+(i-j)=i by omega]
  exact d8 h h
 rw[t,e];refine d8 (fun _ _=>rfl) (fun i l=>?_);unfold vl;rw[if_neg (by omega),show j+i-j=i by omega]
theorem ni{r c:Nat}(W:H3){j k:Nat}(t:k<j)(l:j<c){i:Nat}(h:i<r):cv c (yA r c W j) r k i=cv c W r k i:=by
 rw[dP _ _ _ _ h,dP _ _ _ _ h];unfold yA;rw[xB r c _ j _ h (by omega),if_neg (fun e=>by omega),t7 r c W j j _ _ h (by omega),if_neg (fun e=>by omega)]
theorem M6(x:Rat):ab x*ab x=x*x:=by rw[<-aM];exact aQ (ak _)
theorem Ef{r c:Nat}(W:H3){j:Nat}(h:j<r)(l:j<c):cv c (yA r c W j) r j j=fQ (mX (gZ r c W j)):=by
 rw[dP _ _ _ _ h];unfold yA;rw[xB r c _ j _ h l,if_pos ⟨rfl,Nat.le_refl _,h⟩,if_pos rfl]
structure AF (n c:Nat) (A:Nat->Nat->Rat):Prop where
 six:n<=6
 size:∀k,k<c->Bd n (A k) (p2 62)
 low:∀k,k<c->(∀i,i<n->A k i=0)\/∃i,i<n/\p2 (-60)<=ab (A k i)
structure AG (n c:Nat) (A:Nat->Nat->Rat) (ms:List ((Nat->Rat)×Rat)) (C:Nat->H3) (j:Nat):Prop where
 mirs:kl n (1/8796093022208) ms
 len:ms.length<=j
 cols:∀k,k<c->(C k).length=n/\∀y∈C k,y<18446744073709551616/\ah y=true
 rest:∀k,k<c->j<=k->jT n (288/9007199254740992) ms (A k) (fc (C k))
 done:∀k,k<c->k<j->(∀i,i<n->k<i->fc (C k) i=0)/\∃ms1 ns z,ms=ms1++ns/\jT n (288/9007199254740992) ms1 (A k) z/\(∀q,Bd n (A k) q->Bd n (fun i=>fc (C k) i+(-1)*z i) (2300/9007199254740992*q))/\∀m∈ns,dt n m.1 (fc (C k))=0
theorem vu:∀k,k<=6->1000000*gw (1/8796093022208) k<=1000001:=by
 intro k l;have h:k=0\/k=1\/k=2\/k=3\/k=4\/k=5\/k=6:=by omega
 rcases h with rfl|rfl|rfl|rfl|rfl|rfl|rfl<;>decide+kernel
theorem AH:∀k,k<=6->1000*er (1/8796093022208) (288/9007199254740992) k<=1000*(k:Rat)+1:=by
 intro k l;have h:k=0\/k=1\/k=2\/k=3\/k=4\/k=5\/k=6:=by omega
 rcases h with rfl|rfl|rfl|rfl|rfl|rfl|rfl<;>decide+kernel
theorem oz{n:Nat}{ms:List ((Nat->Rat)×Rat)}{y z:Nat->Rat}{q:Rat}(t:kl n (1/8796093022208) ms)(h:ms.length<=6)(F:jT n (288/9007199254740992) ms y z)(l:Bd n y q):Bd n z (1001/1000*q):=by
 have H:=lW ms y z q t F l;have I:=km ms y q t l;have D:=l.1;have g:=vu _ h;have e:=AH _ h;have O:(ms.length:Rat)<=6:=Rat.natCast_le_natCast.2 h;have J:=Rat.mul_nonneg (show 0<=1000001-1000000*gw (1/8796093022208) ms.length by grind) D;have K:=Rat.mul_nonneg (show 0<=7-er (1/8796093022208) (288/9007199254740992) ms.length by grind) D;refine((H.add I).congr (fun i _=>(by grind:(z i+(-1)*bB n ms y i)+bB n ms y i=z i))).mono ?_;have L:er (1/8796093022208) (288/9007199254740992) ms.length*(288/9007199254740992*q)=288/9007199254740992*(er (1/8796093022208) (288/9007199254740992) ms.length*q):=by grind
 rw[L];generalize er (1/8796093022208) (288/9007199254740992) ms.length=E at*;generalize gw (1/8796093022208) ms.length=G at*;have M:(7-E)*q=7*q-E*q:=by grind
 have N:(1000001-1000000*G)*q=1000001*q-1000000*(G*q):=by grind
 rw[M]at K;rw[N]at J;generalize E*q=z1 at*;generalize G*q=z2 at*
 grind
theorem Il(l:H3)(x:Nat)(h:x∈l):∃i,i<l.length/\fc l i=fQ x:=by
 obtain⟨i,t,rfl⟩:=List.mem_iff_getElem.1 h;refine⟨i,t,?_⟩;unfold fc;rw[List.getD_eq_getElem?_getD,List.getElem?_eq_getElem t];rfl
theorem AG.sizes{n c j:Nat}{A:Nat->Nat->Rat}{ms:List ((Nat->Rat)×Rat)}{C:Nat->H3}(D:AF n c A)(h:AG n c A ms C j)(Q:j<=6)(k:Nat)(t:k<c)(F:j<=k):
  (∀y∈C k,ab (fQ y)<=p2 100)/\gz ((C k).drop j)<=p2 900/\((∀y∈C k,fQ y=0)\/∀a,Bd (C k).length (fc (C k)) a->1267650600228229401496703205376*p2 (-1075)<=a):=by
 have U:=h.len;obtain⟨L,c2⟩:=h.cols k t;have I:=h.rest k t F;have b:=oz h.mirs (by omega) I (D.size k t);have P:=av 62;have K:16*p2 62<=p2 100/\p2 100<=p2 900:=by
  have M:=aq (show(62+1+1+1+1:Int)<=100 by decide);simp only[bu]at M;exact⟨by grind,aq (by decide)⟩
 refine⟨fun y G=>?_,?_,?_⟩
 ·obtain⟨i,J,e⟩:=Il _ _ G
  have k:=b.at (k:=i) (by omega);rw[e]at k
  grind
 ·have Z:=D.six
  have k:=F3 (C k) j (by omega) _ (by rw[L];exact b)
  grind
 ·rcases D.low k t with z|⟨i,J,z⟩
  ·refine .inl (fun y G=>?_)
   obtain⟨i,J,e⟩:=Il _ _ G;rw[<-e];exact tg ms _ _ h.mirs I z i (by omega)
  ·refine .inr (fun a H=>?_)
   rw[L]at H;have lo:=uh (by grind) (by grind) (by grind) ms _ _ a h.mirs I H;have k:=lo.at J;have N:=aq (show((ms.length:Nat):Int)<=6 by omega);have m:=Rat.mul_le_mul_of_nonneg_left N H.1;have l:p2 6=64:=by rw[show(6:Int)=((6:Nat):Int) by rfl,cN];rfl
   have O:p2 (-60)=64*p2 (-66):=by rw[show(-60:Int)=6+-66 by rfl,bR,l]
   have et:=oU (-202) (by decide);have m2:=aq (show(-202:Int)<=-66 by decide);rw[l]at m
   grind
def M7(C:Nat->H3)(j t b:Nat)(v:H3)(k:Nat):H3:=
 if k<j then C k else if k=j then(C k).take j++b::List.replicate (v.length-1) 0 else(C k).take j++lP (mV t (cH 0 v ((C k).drop j))) v ((C k).drop j)
theorem Qx(t:Nat):∀(F l:H3),(∀y∈l,y<18446744073709551616)->∀u∈lP t F l,u<18446744073709551616:=by
 intro F
 induction F with
 |nil=>intro l _ u D;cases l<;>cases D
 |cons v F ih=>
  intro l h u D
  cases l with
  |nil=>cases D
  |cons y l=>
   rcases List.mem_cons.1 D with rfl|D
   ·exact jc _ _ (h y List.mem_cons_self) (iY _ (iQ _ _))
   ·exact ih l (fun w G=>h w (List.mem_cons_of_mem _ G)) u D
theorem AG.mirror{n c j:Nat}{A:Nat->Nat->Rat}{ms:List ((Nat->Rat)×Rat)}{C:Nat->H3}(hC:AF n c A)(h:AG n c A ms C j)(hj:j<c)(a b d t:Nat)(G D:H3)(hX:(C j).drop j=a::G)
  (hb:b<18446744073709551616) (fb:ah b=true) (K:p2 (-101)<=ab (fQ b))
  (hs:(fQ b=fQ (bM (a::G))/\fQ a<=0)\/(fQ b= -fQ (bM (a::G))/\0<=fQ a)) (hd:d=aV a (fN b)) (ht:t=dV (aV b (fN a)) b) (hv:D=G.map (fun x=>dV x d)):
  AG n c A (ms++[(vl j (4607182418800017408::D),fQ t)]) (M7 C j t b (4607182418800017408::D)) (j+1):=by
 have h6:=hC.six;obtain⟨O,Q⟩:=h.cols j hj;have aI:j<n:=by
  have k:((C j).drop j).length=G.length+1:=by rw[hX];rfl
  rw[List.length_drop]at k;omega
 obtain⟨z1,z2,z3⟩:=h.sizes hC (by omega) j hj (Nat.le_refl _);obtain⟨q1,q2,q3,q4,q5,u,Z,q6,q7,q8⟩:=Ee n j a b d t (C j) G D O h6 hX (fun y F=>⟨(Q y F).1,(Q y F).2,z1 y F⟩) hb fb K hs hd ht hv;have hl:=h.len;have N:(4607182418800017408::D).length-1=G.length:=by rw[hv];simp
 --the columns that come out
 have S1:∀k,k<j->M7 C j t b (4607182418800017408::D) k=C k:=fun k l=>by unfold M7;rw[if_pos l]
 have S2:M7 C j t b (4607182418800017408::D) j=(C j).take j++b::List.replicate Z.length 0:=by
  unfold M7;rw[if_neg (by omega),if_pos rfl,N,q7]
 have S3:∀k,j<k->M7 C j t b (4607182418800017408::D) k=(C k).take j++lP (mV t (cH 0 (4607182418800017408::D) ((C k).drop j))) (4607182418800017408::D) ((C k).drop j):=fun k l=>by
  unfold M7;rw[if_neg (by omega),if_neg (by omega)]
 generalize ae:4607182418800017408::D=v at*;have H:=fun k (l:k<c) (L:j<=k)=>by
  obtain⟨s1,s2,s3⟩:=h.sizes hC (by omega) k l L;obtain⟨J,I⟩:=h.cols k l;exact tX j t v (C k) (by omega) (by rw[J];exact q5) q2 q3 q4 (fun y F=>(I y F).2) s2 s3
 refine⟨?_,?_,?_,?_,?_⟩
 ·intro m M
  rcases List.mem_append.1 M with g|g
  ·exact h.mirs m g
  ·rw[List.mem_singleton.1 g]
   exact q1
 ·rw[List.length_append,List.length_singleton]
  omega
 ·intro k l
  obtain⟨J,I⟩:=h.cols k l;rcases Nat.lt_trichotomy k j with g|g|g
  ·rw[S1 k g]
   exact⟨J,I⟩
  ·subst g
   rw[S2];have tl:((C k).take k).length=k:=by rw[List.length_take];omega
   have a0:k+v.length=n:=q5;have am:v.length=Z.length+1:=by
    rw[q7,<-N,<-ae];simp
   refine⟨by rw[List.length_append,tl,List.length_cons,List.length_replicate];omega,fun y F=>?_⟩;rcases List.mem_append.1 F with g|g
   ·exact I y (List.mem_of_mem_take g)
   ·rcases List.mem_cons.1 g with rfl|g
    ·exact⟨hb,fb⟩
    ·rw[(List.mem_replicate.1 g).2]
     exact⟨by decide,by decide⟩
  ·rw[S3 k g]
   obtain⟨f1,f2,_⟩:=H k l (by omega);refine⟨by rw[f2];exact J,fun y F=>⟨?_,f1 y F⟩⟩;rcases List.mem_append.1 F with g|g
   ·exact(I y (List.mem_of_mem_take g)).1
   ·exact Qx _ _ _ (fun w hw=>(I w (List.mem_of_mem_drop hw)).1) y g
 ·intro k l L
  rw[S3 k (by omega)];obtain⟨J,I⟩:=h.cols k l;obtain⟨_,_,U⟩:=H k l (by omega);rw[J]at U;exact nh n _ (vl j v,fQ t) ms _ _ _ (h.rest k l (by omega)) U
 ·intro k l a1
  rcases Nat.lt_or_ge k j with g|g
  ·rw[S1 k g]
   obtain⟨d1,aa,ns,z,d2,d3,d4,d5⟩:=h.done k l g;refine⟨d1,aa,ns++[(vl j v,fQ t)],z,by rw[d2,List.append_assoc],d3,d4,fun m M=>?_⟩;rcases List.mem_append.1 M with g2|g2
   ·exact d5 m g2
   ·rw[List.mem_singleton.1 g2]
    exact Ih n j v _ (fun i hi ap=>d1 i hi (by omega))
  ·have e:k=j:=by omega
   subst e;rw[S2];obtain⟨_,_,U⟩:=H k l (Nat.le_refl _);rw[O,hX,q6]at U;have tl:((C k).take k).length=k:=by rw[List.length_take];omega
   refine⟨fun i hi ax=>?_,ms++[(vl k v,fQ t)],[],fc ((C k).take k++u::Z),by rw[List.append_nil],nh n _ (vl k v,fQ t) ms _ _ _ (h.rest k l (Nat.le_refl _)) U,fun q hq=>?_,fun m M=>by cases M⟩
   ·obtain⟨p,rfl⟩:∃p,i=k+(p+1):=⟨i-k-1,by omega⟩
    have e2:=gT ((C k).take k) (b::List.replicate Z.length 0) (p+1);rw[tl]at e2;rw[e2];unfold fc;rw[List.getD_eq_getElem?_getD,List.getElem?_cons_succ,List.getElem?_replicate]
    split<;>exact jk
   ·have b1:=oz h.mirs (by omega) (h.rest k l (Nat.le_refl _)) hq
    have q0:=hq.1;exact(q8 _ b1).mono (by grind)
theorem AG.same{n c j:Nat}{A:Nat->Nat->Rat}{ms:List ((Nat->Rat)×Rat)}{C D:Nat->H3}(h:AG n c A ms C j)(K:∀k,k<c->(D k).length=n/\∀y∈D k,y<18446744073709551616/\ah y=true)
  (G:∀k,k<c->∀i,i<n->fc (D k) i=fc (C k) i) (L:j<c->∀i,i<n->j<i->fc (C j) i=0):AG n c A ms D (j+1):=by
 refine⟨h.mirs,by have:=h.len;omega,K,fun k t M=>?_,fun k t N=>?_⟩
 ·exact mh n _ ms _ _ _ (h.rest k t (by omega)) (fun i l=>(G k t i l).symm)
 ·rcases Nat.lt_or_ge k j with g|g
  ·obtain⟨O,J,Q,z,U,Z,d4,d5⟩:=h.done k t g
   refine⟨fun i l F=>by rw[G k t i l];exact O i l F,J,Q,z,U,Z,fun q H=>(d4 q H).congr (fun i l=>by rw[G k t i l]),fun m I=>?_⟩;rw[<-d5 m I];exact d8 (fun _ _=>rfl) (fun i l=>G k t i l)
  ·have e:k=j:=by omega
   subst e;refine⟨fun i l F=>by rw[G k t i l];exact L t i l F,ms,[],fc (C k),by rw[List.append_nil],h.rest k t (Nat.le_refl _),fun q H=>?_,fun m I=>by cases I⟩;have q0:=H.1;exact((Bd.nought n).congr (fun i l=>(by rw[G k t i l];grind:(0:Rat)=fc (D k) i+(-1)*fc (C k) i))).mono (by grind)
theorem Mh(t:Nat)(I:ah t=true)(J:fQ t=0):∀(D l:H3),D.length=l.length->(∀v∈D,ah v=true)->(∀y∈l,y<18446744073709551616/\ah y=true/\ab (fQ y)<p2 1023)->cr 0 0 D l (lP t D l):=by
 intro D
 induction D with
 |nil=>
  intro l h _ _
  cases l with
  |nil=>exact trivial
  |cons y l=>simp at h
 |cons v D ih=>
  intro l h G H
  cases l with
  |nil=>simp at h
  |cons y l=>
   obtain⟨M,N,O⟩:=H y List.mem_cons_self;obtain⟨Q,U⟩:=gH t v I (G v List.mem_cons_self) (by rw[J];grind);have pl:=iQ t v;have K:ah (fN (mV t v))=true:=by rw[gu _ pl];exact Q
   have L:=jR _ pl;obtain⟨Z,a2⟩:=Ii y (fN (mV t v)) M N K (by rw[L,U];grind) O;show cr 0 0 (v::D) (y::l) (aV y (fN (mV t v))::lP t D l);unfold cr;refine⟨⟨Z,?_⟩,ih l (by simpa using h) (fun w F=>G w (List.mem_cons_of_mem _ F)) (fun w F=>H w (List.mem_cons_of_mem _ F))⟩;rw[a2,show fQ y-(fQ y-0*fQ v)=0 by grind,show ab (0:Rat)=0 by unfold ab;grind]
   grind
theorem Eg(F t D:H3)(h:cr 0 0 F t D):D.length=t.length/\∀i,i<t.length->fc D i=fc t i:=by
 obtain⟨H,I⟩:=qi 0 0 F t D h;refine⟨H,fun i G=>?_⟩;have k:=I i G;have l:=aw (fc D i-(fc t i-0*fc F i))
 grind
theorem AG.final{n c j:Nat}{A:Nat->Nat->Rat}{ms:List ((Nat->Rat)×Rat)}{C:Nat->H3}(O:AF n c A)(h:AG n c A ms C j)(hj:j<=6)(t:∀k,k<c->j<=k->n<=k+1)(k:Nat)(I:k<c)(q:Rat)(J:Bd n (A k) q):
  Bd n (fun i=>fc (C k) i+(-1)*bB n ms (A k) i) (4040/9007199254740992*q)/\∀i,i<n->k<i->fc (C k) i=0:=by
 have M:=h.len;have h6:=O.six;have U:=J.1;have H:∀l,l<=6->er (1/8796093022208) (288/9007199254740992) l*(288/9007199254740992*q)<=1730/9007199254740992*q:=fun l F=>by
  have e:=AH l F;have I:(l:Rat)<=6:=Rat.natCast_le_natCast.2 F;have m2:=Rat.mul_nonneg (show 0<=6001-1000*er (1/8796093022208) (288/9007199254740992) l by grind) U;generalize er (1/8796093022208) (288/9007199254740992) l=E at*;have K:(6001-1000*E)*q=6001*q-1000*(E*q):=by grind
  rw[K]at m2;have e2:E*(288/9007199254740992*q)=288/9007199254740992*(E*q):=by grind
  rw[e2];generalize E*q=z1 at*
  grind
 rcases Nat.lt_or_ge k j with g|g
 ·obtain⟨d1,D,L,z,d2,d3,d4,d5⟩:=h.done k I g
  refine⟨?_,d1⟩;have N:=h.mirs;rw[d2]at N M⊢;rw[List.length_append]at M;refine(yj N d3 J (d4 q J) d5).mono ?_;have n1:=H D.length (by omega);have g1:=vu L.length (by omega);have e0:=Q6 (1/8796093022208) (288/9007199254740992) (by grind) (by grind) D.length;have w0:=Rat.mul_nonneg e0 (show 0<=288/9007199254740992*q by grind);generalize er (1/8796093022208) (288/9007199254740992) D.length*(288/9007199254740992*q)=W at*;have m:=Rat.mul_nonneg (show 0<=1000001-1000000*gw (1/8796093022208) L.length by grind) (show 0<=2300/9007199254740992*q+W by grind);generalize gw (1/8796093022208) L.length=G at*;have K:(1000001-1000000*G)*(2300/9007199254740992*q+W)=1000001*(2300/9007199254740992*q+W)-1000000*(G*(2300/9007199254740992*q+W)):=by grind
  rw[K]at m;generalize G*(2300/9007199254740992*q+W)=Z at*
  grind
 ·refine⟨(lW ms _ _ q h.mirs (h.rest k I g) J).mono ?_,fun i hi Q=>?_⟩
  ·have n1:=H ms.length (by omega)
   grind
  ·have:=t k I g
   omega
end Go.Proofs.YtcbcmlaogehimaaGreatDoor
