/- Part 39 of the texts. -/
import Derived.Test.YtcbcmlaogehimaaGreatDoorPartu38
namespace Go.Proofs.YtcbcmlaogehimaaGreatDoor
open Go.RowKit
def uv(k:Nat):Nat->Rat:=fun i=>if i=k then 1 else 0
theorem M8(n k:Nat)(h:k<n)(y:Nat->Rat):dt n (uv k) y=y k:=by
 obtain⟨r,rfl⟩:∃r,n=k+(r+1):=⟨n-k-1,by omega⟩;unfold dt;rw[kU,kT,dz k _ (fun i l=>by show uv k i*y i=0;unfold uv;rw[if_neg (by omega)];grind),
  dz r _ (fun i _=>by show uv k (k+(i+1))*y (k+(i+1))=0;unfold uv;rw[if_neg (by omega)];grind)]
 show(0:Rat)+(uv k (k+0)*y (k+0)+0)=y k;rw[Nat.add_zero];unfold uv;rw[if_pos rfl]
 grind
theorem Im(n k:Nat)(h:k<n):Bd n (uv k) 1:=by
 refine⟨by grind,?_⟩;rw[M8 n k h];unfold uv;rw[if_pos rfl]
 grind
def nk(R:Nat->Nat->Nat)(i m:Nat):H3:=(List.range m).map (fun q=>R i (i+1+q))
def dj(c:Nat)(R:Nat->Nat->Nat)(d:Nat->Nat):Nat->H3
 |0=>[]
 |m+1=>dV (oy (d (c-m-1)) (nk R (c-m-1) m) (dj c R d m)) (R (c-m-1) (c-m-1))::dj c R d m
theorem vv(R:Nat->Nat->Nat)(i m:Nat):(nk R i m).length=m:=by simp[nk]
theorem vw(c:Nat)(R:Nat->Nat->Nat)(d:Nat->Nat)(m:Nat):(dj c R d m).length=m:=by
 induction m with
 |zero=>rfl
 |succ m ih=>show(_::dj c R d m).length=m+1;rw[List.length_cons,ih]
theorem Pf(G:Rat):∀(rs l:H3),(∀r∈rs,ab (fQ r)<=G)->0<=G->mQ rs l<=G*gz l:=by
 intro rs
 induction rs with
 |nil=>
  intro l _ F;have t:mQ [] l=0:=by cases l<;>rfl
  rw[t];exact Rat.mul_nonneg F (ry l)
 |cons r rs ih=>
  intro l h F
  cases l with
  |nil=>
   have t:mQ (r::rs) []=0:=rfl;have D:gz []=0:=rfl;rw[t,D]
   grind
  |cons x l=>
   have i:=ih l (fun w H=>h w (List.mem_cons_of_mem _ H)) F;have t:mQ (r::rs) (x::l)=ab (fQ r*fQ x)+mQ rs l:=rfl;have D:gz (x::l)=ab (fQ x)+gz l:=rfl;have m:=Rat.mul_le_mul_of_nonneg_left (h r List.mem_cons_self) (bK (fQ x));rw[t,D,aM]
   grind
structure Pv (c:Nat) (R:Nat->Nat->Nat) (d:Nat->Nat):Prop where
 six:c<=6
 side:∀i,i<c->d i<18446744073709551616/\ah (d i)=true/\ab (fQ (d i))<=p2 62
 nums:∀i k,i<=k->k<c->R i k<18446744073709551616/\ah (R i k)=true/\ab (fQ (R i k))<=p2 62
 diag:∀i,i<c->p2 (-101)<=ab (fQ (R i i))
theorem sz:p2 62*p2 (-900)<=p2 (-830)/\9007199254740992*(4*p2 (-1075))<=p2 (-900)/\9007199254740992*(p2 (-1075)*p2 62)<=p2 (-900):=by
 have h:(9007199254740992:Rat)=p2 53:=by
  rw[show(53:Int)=((53:Nat):Int) by rfl,cN];rfl
 have l:(4:Rat)=p2 2:=by rw[show(2:Int)=((2:Nat):Int) by rfl,cN];rfl
 refine⟨?_,?_,?_⟩
 ·rw[<-bR];exact aq (by decide)
 ·rw[h,l,<-bR,<-bR];exact aq (by decide)
 ·rw[h,<-bR,<-bR];exact aq (by decide)
theorem BQ{c:Nat}{R:Nat->Nat->Nat}{d:Nat->Nat}(h:Pv c R d):∀m,m<=c->
  (∀x∈dj c R d m,x<18446744073709551616/\ah x=true)/\gz (dj c R d m)<=p2 (166*m)/\
  (∀q x,q<m->(dj c R d (q+1)).head? =some x->9007199254740992*ab (fQ (d (c-q-1))-(fQ x*fQ (R (c-q-1) (c-q-1))+cG (nk R (c-q-1) q) (dj c R d q)))<=23*(ab (fQ (d (c-q-1)))+mQ (nk R (c-q-1) q) (dj c R d q)+p2 (-900))):=by
 intro m
 induction m with
 |zero=>
  intro _;refine⟨fun x l=>(by cases l),?_,fun q x J=>(by omega)⟩;show(0:Rat)<=_;exact Rat.le_of_lt (av _)
 |succ m ih=>
  intro hm;obtain⟨Z,i2,i3⟩:=ih (by omega);have h6:=h.six;obtain⟨i,hi⟩:∃i,c-m-1=i:=⟨_,rfl⟩;have t:i<c:=by omega
  obtain⟨d1,d2,d3⟩:=h.side i t;obtain⟨r1,r2,r3⟩:=h.nums i i (Nat.le_refl _) t;have K:=h.diag i t;have pd:=av (-101);have r0:fK (R i i)≠0:=fun e=>by
   rw[bf _ e]at K;unfold ab at K
   grind
  have D:∀x∈nk R i m,ah x=true/\ab (fQ x)<=p2 62:=fun x l=>by
   obtain⟨q,J,rfl⟩:=List.mem_map.1 l;have J:=List.mem_range.1 J;exact(h.nums i (i+1+q) (by omega) (by omega)).2
  have aa:=Pf (p2 62) (nk R i m) (dj c R d m) (fun x l=>(D x l).2) (Rat.le_of_lt (av _));have ae:=FU (nk R i m) (dj c R d m);obtain⟨c1,c2,c3⟩:=sz;have L:=av 62;have Q:=av (-900);have B0:=ry (dj c R d m)
  --powers of two
  have U:=Rat.mul_le_mul_of_nonneg_left i2 (Rat.le_of_lt L);rw[<-bR]at U;have pA:=aq (show(62:Int)<=62+166*(m:Nat) by omega);have pB:=aq (show(-900:Int)<=62+166*(m:Nat) by omega);have pT:=av (62+166*((m:Nat):Int));obtain⟨W,hW⟩:∃W,ab (fQ (d i))+mQ (nk R i m) (dj c R d m)+p2 (-900)=W:=⟨_,rfl⟩;have d0:=bK (fQ (d i));have am:W<=3*p2 (62+166*(m:Nat)):=by grind
  have F:16*p2 (62+166*((m:Nat):Int))<=p2 898:=by
   have:=aq (show(62+166*((m:Nat):Int))+1+1+1+1<=898 by omega);simp only[bu]at this
   grind
  have G:p2 898<=p2 1000:=aq (by decide);have H:p2 898<=p2 1000*ab (fQ (R i i)):=by
   have k:=Rat.mul_le_mul_of_nonneg_left K (Rat.le_of_lt (av 1000));rw[<-bR]at k;exact Rat.le_trans (aq (by decide)) k
  have I:9007199254740992*(p2 (-1075)*ab (fQ (R i i)))<=W:=by
   have k:=Rat.mul_le_mul_of_nonneg_left r3 (Rat.le_of_lt (av (-1075)));generalize p2 (-1075)*ab (fQ (R i i))=z at*;generalize p2 (-1075)*p2 62=z2 at*;clear F G H pA pB U
   grind
  obtain⟨t1,t2,t3,t4⟩:=Md (d i) (R i i) W (nk R i m) (dj c R d m) (by rw[vv];omega) d1 r1 d2 r2 r0 (fun x l=>(D x l).1) (fun x l=>(Z x l).2)
   (by grind) (by grind) I (by grind) (by grind)
  have M:dj c R d (m+1)=dV (oy (d i) (nk R i m) (dj c R d m)) (R i i)::dj c R d m:=by rw[<-hi];rfl
  refine⟨?_,?_,?_⟩
  ·rw[M]
   intro x l;rcases List.mem_cons.1 l with rfl|l
   ·exact⟨t2,t1⟩
   ·exact Z x l
  ·rw[M]
   have e2:∀x O,gz (x::O)=ab (fQ x)+gz O:=fun _ _=>rfl
   rw[e2];generalize dV (oy (d i) (nk R i m) (dj c R d m)) (R i i)=x at*;have k:=Rat.mul_le_mul_of_nonneg_left K (bK (fQ x));rw[<-aM]at k;have k2:ab (fQ x)*p2 (-101)<=6*p2 (62+166*(m:Nat)):=by grind
   have k3:=Rat.mul_le_mul_of_nonneg_left k2 (Rat.le_of_lt (av 101));have e3:p2 101*(ab (fQ x)*p2 (-101))=ab (fQ x):=by
    rw[Rat.mul_comm (ab (fQ x)),<-Rat.mul_assoc,<-bR,show(101+-101:Int)=0 by rfl,oR,Rat.one_mul]
   have e4:p2 101*(6*p2 (62+166*(m:Nat)))=6*p2 (163+166*(m:Nat)):=by
    rw[show p2 101*(6*p2 (62+166*(m:Nat)))=6*(p2 101*p2 (62+166*(m:Nat))) by grind,<-bR,show(101+(62+166*((m:Nat):Int)):Int)=163+166*(m:Nat) by omega]
   rw[e3,e4]at k3;have p1:=aq (show 166*((m:Nat):Int)<=163+166*(m:Nat) by omega);have p3:8*p2 (163+166*((m:Nat):Int))=p2 (166*((m+1:Nat):Int)):=by
    have e:(166*((m+1:Nat):Int))=163+166*((m:Nat):Int)+1+1+1:=by omega
    rw[e];simp only[bu]
    grind
   have p4:=av (163+166*((m:Nat):Int))
   grind
  ·intro q x J l
   rcases Nat.lt_or_ge q m with g|g
   ·exact i3 q x g l
   ·have N:q=m:=by omega
    subst N;rw[M]at l;simp only[List.head?_cons,Option.some.injEq]at l;subst l;rw[hi,hW];exact t3
theorem AJ:∀(rs h:H3) (s:Nat),ah s=true->fQ s=0->(∀r∈rs,ah r=true)->(∀x∈h,ah x=true/\fQ x=0)->ah (oy s rs h)=true/\fQ (oy s rs h)=0:=by
 intro rs
 induction rs with
 |nil=>
  intro h s l t _ _;have e:oy s [] h=s:=by cases h<;>rfl
  rw[e];exact⟨l,t⟩
 |cons r rs ih=>
  intro h s l t F G
  cases h with
  |nil=>exact⟨l,t⟩
  |cons x h=>
   obtain⟨J,K⟩:=G x List.mem_cons_self;obtain⟨L,M⟩:=gH r x (F r List.mem_cons_self) J (by rw[K];grind);have pl:=iQ r x;have H:ah (fN (mV r x))=true:=by rw[gu _ pl];exact L
   have I:=jR _ pl;obtain⟨N,O⟩:=kV s (fN (mV r x)) l H (by rw[t,I,M];grind);exact ih h _ N O (fun w D=>F w (List.mem_cons_of_mem _ D)) (fun w D=>G w (List.mem_cons_of_mem _ D))
theorem yk{c:Nat}{R:Nat->Nat->Nat}{d:Nat->Nat}(h:Pv c R d)(I:∀i,i<c->fQ (d i)=0):∀m,m<=c->∀x∈dj c R d m,ah x=true/\fQ x=0:=by
 intro m
 induction m with
 |zero=>intro _ x D;cases D
 |succ m ih=>
  intro hm x D;have F:=ih (by omega);obtain⟨i,O⟩:∃i,c-m-1=i:=⟨_,rfl⟩;have l:i<c:=by omega
  have K:dj c R d (m+1)=dV (oy (d i) (nk R i m) (dj c R d m)) (R i i)::dj c R d m:=by rw[<-O];rfl
  rw[K]at D;rcases List.mem_cons.1 D with rfl|D
  ·obtain⟨Q,U,d3⟩:=h.side i l
   obtain⟨r1,Z,r3⟩:=h.nums i i (Nat.le_refl _) l;have G:=h.diag i l;have pd:=av (-101);have r0:fK (R i i)≠0:=fun e=>by
    rw[bf _ e]at G;unfold ab at G
    grind
   obtain⟨s1,s2⟩:=AJ (nk R i m) (dj c R d m) (d i) U (I i l) (fun r J=>by
    obtain⟨q,H,rfl⟩:=List.mem_map.1 J;have H:=List.mem_range.1 H;have:=h.six;exact(h.nums i (i+1+q) (by omega) (by omega)).2.1) F
   have L:=M4 (nk R i m) (dj c R d m) (d i) Q;generalize oy (d i) (nk R i m) (dj c R d m)=s at*;have M:fK s=0:=by
    rcases Int.lt_trichotomy (fK s) 0 with g|g|g
    ·exfalso
     unfold fK at g
     repeat' split at g
     all_goals omega
    ·exact g
    ·exfalso
     have N:fK s≠0:=by omega
     have t:=iN s L s1 N;have:=av (eX s);rw[s2]at t;unfold ab at t
     grind
   obtain⟨b3,b4⟩:=cI Z;have e:dV s (R i i)=iJ (fS s^^fS (R i i)) 0:=by
    unfold dV;rw[if_neg (by rintro(k|k);omega;exact b4 k),if_neg (by rintro⟨k,_⟩;omega),if_neg (by omega),if_pos (.inr M)]
   rw[e]
   cases fS s^^fS (R i i)
   ·rw[cJ];exact⟨by decide,jk⟩
   ·rw[gc];exact⟨by decide,bf _ (by decide)⟩
  ·exact F x D
def iH(c:Nat)(A:Nat->Nat->Rat)(x:Nat->Rat):Nat->Rat:=fun i=>sm c (fun k=>x k*A k i)
theorem Io(n:Nat)(A:Nat->Nat->Rat)(x al:Nat->Rat):∀(c:Nat),(∀k,k<c->Bd n (A k) (al k))->Bd n (iH c A x) (sm c (fun k=>ab (x k)*al k)):=by
 intro c
 induction c with
 |zero=>intro _;exact Bd.nought n
 |succ c ih=>
  intro h;exact(ih (fun k l=>h k (by omega))).add ((h c (by omega)).mul (x c))
theorem Mi(n:Nat)(ms:List ((Nat->Rat)×Rat))(A:Nat->Nat->Rat)(x:Nat->Rat):∀(c:Nat) (i:Nat),i<n->bB n ms (iH c A x) i=iH c (fun k=>bB n ms (A k)) x i:=by
 intro c
 induction c with
 |zero=>
  intro i h;show bB n ms (fun _=>0) i=0;have:=nV n 0 ms (fun _=>0) i h;rw[jS n ms (fun i=>0*(fun _=>(0:Rat)) i) (fun _=>0) (fun k _=>by grind) i h]at this;rw[this]
  grind
 |succ c ih=>
  intro i h;show bB n ms (fun i=>iH c A x i+x c*A c i) i=iH c (fun k=>bB n ms (A k)) x i+x c*bB n ms (A c) i;rw[qh n ms _ _ i h,nV n (x c) ms _ i h,ih i h]
theorem Qy(n:Nat)(f:Nat->Rat):ab (sm n f)<=sm n (fun i=>ab (f i)):=by
 induction n with
 |zero=>show ab 0<=0;unfold ab;grind
 |succ n ih=>
  have:=zf (sm n f) (f n);show ab (sm n f+f n)<=sm n (fun i=>ab (f i))+ab (f n)
  grind
theorem Ip(n:Nat)(c:Rat):sm n (fun _=>c)=(n:Rat)*c:=by
 induction n with
 |zero=>show(0:Rat)=((0:Nat):Rat)*c;have:((0:Nat):Rat)=0:=rfl;rw[this];grind
 |succ n ih=>
  show sm n (fun _=>c)+c=((n+1:Nat):Rat)*c;rw[ih,Rat.natCast_add];have:((1:Nat):Rat)=1:=rfl;rw[this]
  grind
theorem Iq{n:Nat}{ε a b:Rat}{ms:List ((Nat->Rat)×Rat)}{y z:Nat->Rat}(l:kl n ε ms)(t:Bd n y a)(D:Bd n z b):
  ab (dt n (bB n ms y) (bB n ms z)-dt n y z)<=a*(bk ε ms.length*(ε*b)):=by
 have h:=t.dot (JW ms z b l D);rw[jq,iR]at h;rw[Bk];have e:dt n y (kS n ms (bB n ms z))-dt n y z=dt n y (kS n ms (bB n ms z))+-1*dt n y z:=by grind
 rw[e];exact h
theorem vx{n c:Nat}{ε η γ β:Rat}{ms:List ((Nat->Rat)×Rat)}{A R:Nat->Nat->Rat}{b d x al:Nat->Rat}(hc:c<=n)(Z:c<=6)(U:kl n ε ms)(L:0<=η)(hγ:0<=γ)
  (M:∀k,k<c->Bd n (A k) (al k)) (hb:Bd n b β)
  (hR:∀k,k<c->Bd n (fun i=>R k i+(-1)*bB n ms (A k) i) (η*al k)) (h0:∀k i,k<c->k<i->i<n->R k i=0)
  (hd:∀i,i<c->ab (d i-bB n ms b i)<=η*β)
  (hx:∀i,i<c->ab (d i-iH c R x i)<=γ*(β+sm c (fun k=>ab (x k)*al k))) (l:Nat) (K:l<c):
  ab (dt n (A l) (fun i=>b i+(-1)*iH c A x i))<=al l*(β+sm c (fun k=>ab (x k)*al k))*(bk ε ms.length*ε+η*gw ε ms.length+6*((gw ε ms.length+η)*(γ+2*η))):=by
 obtain⟨ρ,J⟩:∃ρ,ρ=β+sm c (fun k=>ab (x k)*al k):=⟨_,rfl⟩;rw[<-J]at hx⊢;have ae:=(M l K).1;have β0:=hb.1;have s0:0<=sm c (fun k=>ab (x k)*al k):=eh (fun k hk=>Rat.mul_nonneg (bK _) (M k hk).1);have ρ0:0<=ρ:=by grind
 have g1:=fun h=>N8 ε h ms.length
 have G:=Io n A x al c M
 --what is left
 have D:Bd n (fun i=>b i+(-1)*iH c A x i) ρ:=by
  refine(hb.add (G.mul (-1))).mono ?_;have:ab (-1)=1:=by unfold ab;grind
  rw[this,J]
  grind
 obtain⟨t,hr⟩:∃r,r=(fun i=>b i+(-1)*iH c A x i):=⟨_,rfl⟩;rw[<-hr]at D⊢;have k1:=Iq U (M l K) D;have N:=km ms t ρ U D;have k2:=(hR l K).dot N;rw[oW,kj]at k2
 --places of what is left,mirrored
 have H:∀i,i<c->ab (bB n ms t i)<=(γ+2*η)*ρ:=by
  intro i hi;have F:i<n:=by omega
  have e:bB n ms t i=bB n ms b i+(-1)*iH c (fun k=>bB n ms (A k)) x i:=by
   rw[hr,qh n ms _ _ i F,nV n (-1) ms _ i F,Mi n ms A x c i F]
  have am:ab (iH c R x i+(-1)*iH c (fun k=>bB n ms (A k)) x i)<=η*sm c (fun k=>ab (x k)*al k):=by
   have hE:=Io n (fun k i=>R k i+(-1)*bB n ms (A k) i) x (fun k=>η*al k) c hR;have O:=hE.at F;have e1:iH c (fun k i=>R k i+(-1)*bB n ms (A k) i) x i=iH c R x i+(-1)*iH c (fun k=>bB n ms (A k)) x i:=by
    show sm c _=sm c _+(-1)*sm c _;rw[<-iO,<-zq];exact bN (fun k _=>by grind)
   have e2:sm c (fun k=>ab (x k)*(η*al k))=η*sm c (fun k=>ab (x k)*al k):=by
    rw[<-iO];exact bN (fun k _=>by grind)
   rw[e1,e2]at O;exact O
  have t1:=hd i hi;have t2:=hx i hi;have t3:=Rat.mul_nonneg L s0;have t4:=Rat.mul_nonneg L β0;rw[e];have q:ab (bB n ms b i+-1*iH c (fun k=>bB n ms (A k)) x i)<=ab (d i-bB n ms b i)+ab (d i-iH c R x i)+ab (iH c R x i+-1*iH c (fun k=>bB n ms (A k)) x i):=by
   unfold ab
   grind
  have q2:(γ+2*η)*ρ=γ*ρ+2*(η*β)+2*(η*sm c (fun k=>ab (x k)*al k)):=by rw[J];grind
  rw[q2]
  grind
 --the triangle's column against it
 have ε0:0<=ε\/ms= []:=by
  cases ms with
  |nil=>exact .inr rfl
  |cons m ms=>exact .inl (U m List.mem_cons_self).eps
 have ap:1<=gw ε ms.length:=by
  rcases ε0 with h|h
  ·exact g1 h
  ·rw[h];exact Rat.le_refl
 have I:Bd n (R l) ((gw ε ms.length+η)*al l):=by
  refine(((km ms (A l) (al l) U (M l K)).add (hR l K)).congr (fun i _=>?_)).mono ?_
  ·show bB n ms (A l) i+(R l i+(-1)*bB n ms (A l) i)=R l i
   grind
  ·grind
 have k3:ab (dt n (R l) (bB n ms t))<=6*((gw ε ms.length+η)*al l*((γ+2*η)*ρ)):=by
  have W0:0<=(gw ε ms.length+η)*al l*((γ+2*η)*ρ):=Rat.mul_nonneg I.1 (Rat.mul_nonneg (by grind) ρ0)
  --only the first c places count
  have aa:∀m,c<=m->m<=n->ab (dt m (R l) (bB n ms t))<=(c:Rat)*((gw ε ms.length+η)*al l*((γ+2*η)*ρ)):=by
   have Q:∀m,m<=c->ab (dt m (R l) (bB n ms t))<=(m:Rat)*((gw ε ms.length+η)*al l*((γ+2*η)*ρ)):=by
    intro m ax;have O:=Qy m (fun i=>R l i*bB n ms t i);have h2:sm m (fun i=>ab (R l i*bB n ms t i))<=sm m (fun _=>(gw ε ms.length+η)*al l*((γ+2*η)*ρ)):=by
     refine wP (fun i hi=>?_);rw[aM];have u1:=I.at (show i<n by omega);have u2:=H i (by omega);have v1:=Rat.mul_nonneg (show 0<=(gw ε ms.length+η)*al l-ab (R l i) by grind) (bK (bB n ms t i));have v2:=Rat.mul_nonneg I.1 (show 0<=(γ+2*η)*ρ-ab (bB n ms t i) by grind)
     grind
    rw[Ip]at h2;unfold dt
    grind
   intro m
   induction m with
   |zero=>intro O _;omega
   |succ m ih=>
    intro O h2
    by_cases e:c=m+1
    ·rw[<-e];exact Q c (Nat.le_refl _)
    ·have h3:=ih (by omega) (by omega)
     have h4:dt (m+1) (R l) (bB n ms t)=dt m (R l) (bB n ms t):=by
      show dt m (R l) (bB n ms t)+R l m*bB n ms t m=_;rw[h0 l m K (by omega) (by omega)]
      grind
     rw[h4];exact h3
  have h5:=aa n hc (Nat.le_refl _);have h6:(c:Rat)<=6:=Rat.natCast_le_natCast.2 Z;have h7:=Rat.mul_nonneg (show 0<=6-(c:Rat) by grind) W0
  grind
 have f1:ab (dt n (A l) t)<=ab (dt n (bB n ms (A l)) (bB n ms t)-dt n (A l) t)+ab (dt n (R l) (bB n ms t)+-1*dt n (bB n ms (A l)) (bB n ms t))+ab (dt n (R l) (bB n ms t)):=by
  generalize dt n (A l) t=p at*;generalize dt n (bB n ms (A l)) (bB n ms t)=q at*;generalize dt n (R l) (bB n ms t)=r at*;unfold ab
  grind
 have f2:al l*ρ*(bk ε ms.length*ε+η*gw ε ms.length+6*((gw ε ms.length+η)*(γ+2*η)))=al l*(bk ε ms.length*(ε*ρ))+η*al l*(gw ε ms.length*ρ)+6*((gw ε ms.length+η)*al l*((γ+2*η)*ρ)):=by grind
 rw[f2]
 grind
theorem BR(c:Nat)(R:Nat->Nat->Nat)(d:Nat->Nat)(M:Nat):∀k,k<=M->(dj c R d M).drop k=dj c R d (M-k):=by
 intro k
 induction k with
 |zero=>intro _;rfl
 |succ k ih=>
  intro l;obtain⟨j,h⟩:∃j,M-k=j+1:=⟨M-k-1,by omega⟩;have e:(dj c R d M).drop (k+1)=((dj c R d M).drop k).drop 1:=by rw[List.drop_drop]
  rw[e,ih (by omega),h,show M-(k+1)=j by omega];rfl
theorem M9(R:Nat->Nat->Nat)(i m p:Nat)(h:p<m):fc (nk R i m) p=fQ (R i (i+1+p)):=by
 unfold fc nk;rw[List.getD_eq_getElem?_getD]
 simp[h]
theorem Na:∀(rs l:H3),rs.length=l.length->mQ rs l=sm rs.length (fun i=>ab (fc rs i*fc l i)):=by
 intro rs
 induction rs with
 |nil=>
  intro l h;have:l= []:=by cases l with|nil=>rfl|cons y ys=>simp at h
  subst this;rfl
 |cons r rs ih=>
  intro l h
  cases l with
  |nil=>simp at h
  |cons x l=>
   have e:=ih l (by simpa using h);have t:mQ (r::rs) (x::l)=ab (fQ r*fQ x)+mQ rs l:=rfl;rw[t,e];show _=sm (rs.length+1) _;rw[kT];rfl
def BT(R:Nat->Nat->Nat)(k i:Nat):Rat:=if i<=k then fQ (R i k)else 0
theorem Mj{c:Nat}{R:Nat->Nat->Nat}{d:Nat->Nat}(h:Pv c R d)(al:Nat->Rat)(β:Rat)(l:∀k,k<c->0<=al k)(N:∀i k,i<=k->k<c->ab (fQ (R i k))<=2*al k)(O:∀i,i<c->ab (fQ (d i))<=2*β)(Q:p2 (-900)<=β)(i:Nat)(H:i<c):
  ab (fQ (d i)-iH c (BT R) (fc (dj c R d c)) i)<=69/9007199254740992*(β+sm c (fun k=>ab (fc (dj c R d c) k)*al k)):=by
 obtain⟨_,_,t3⟩:=BQ h c (Nat.le_refl _);obtain⟨q,M⟩:∃q,c=i+1+q:=⟨c-i-1,by omega⟩;have G:c-q-1=i:=by omega
 have U:(dj c R d c).drop (i+1)=dj c R d q:=by rw[BR c R d c (i+1) (by omega),show c-(i+1)=q by omega]
 have Z:(dj c R d c).drop i=dj c R d (q+1):=by rw[BR c R d c i (by omega),show c-i=q+1 by omega]
 have hx:(dj c R d (q+1)).head? =some ((dj c R d c).getD i 0):=by
  rw[<-Z,List.head?_drop,List.getD_eq_getElem?_getD,List.getElem?_eq_getElem (by rw[vw];exact H)];rfl
 have t:=t3 q _ (by omega) hx;rw[G]at t;have I:(nk R i q).length=(dj c R d q).length:=by rw[vv,vw]
 have J:∀p,fc (dj c R d q) p=fc (dj c R d c) (i+1+p):=fun p=>by rw[nW,U]
 --the exact sums
 have e1:cG (nk R i q) (dj c R d q)=sm q (fun p=>fc (dj c R d c) (i+1+p)*BT R (i+1+p) i):=by
  rw[<-F0 _ _ I,vv];refine bN (fun p D=>?_);rw[M9 R i q p D,J p];unfold BT;rw[if_pos (by omega),Rat.mul_comm]
 have e2:iH c (BT R) (fc (dj c R d c)) i=fQ ((dj c R d c).getD i 0)*fQ (R i i)+cG (nk R i q) (dj c R d q):=by
  unfold iH;rw[e1,show sm c (fun k=>fc (dj c R d c) k*BT R k i)=sm (i+1+q) (fun k=>fc (dj c R d c) k*BT R k i) by rw[<-M],kU];have K:sm (i+1) (fun k=>fc (dj c R d c) k*BT R k i)=fQ ((dj c R d c).getD i 0)*fQ (R i i):=by
   show sm i _+fc (dj c R d c) i*BT R i i=_;rw[dz i _ (fun k F=>by unfold BT;rw[if_neg (by omega)];grind)];have L:BT R i i=fQ (R i i):=by unfold BT;exact if_pos (Nat.le_refl _)
   rw[L];show(0:Rat)+fQ ((dj c R d c).getD i 0)*fQ (R i i)=_
   grind
  rw[K]
 have K:mQ (nk R i q) (dj c R d q)<=2*sm c (fun k=>ab (fc (dj c R d c) k)*al k):=by
  rw[Na _ _ I,vv,<-iO];have s0:0<=sm (i+1) (fun k=>2*(ab (fc (dj c R d c) k)*al k)):=eh (fun k F=>by
   have:=Rat.mul_nonneg (bK (fc (dj c R d c) k)) (l k (by omega))
   grind)
  have e4:sm c (fun k=>2*(ab (fc (dj c R d c) k)*al k))=sm (i+1) (fun k=>2*(ab (fc (dj c R d c) k)*al k))+sm q (fun p=>2*(ab (fc (dj c R d c) (i+1+p))*al (i+1+p))):=by
   rw[show sm c (fun k=>2*(ab (fc (dj c R d c) k)*al k))=sm (i+1+q) (fun k=>2*(ab (fc (dj c R d c) k)*al k)) by rw[<-M],kU]
  rw[e4];have L:sm q (fun p=>ab (fc (nk R i q) p*fc (dj c R d q) p))<=sm q (fun p=>2*(ab (fc (dj c R d c) (i+1+p))*al (i+1+p))):=wP (fun p D=>by
   rw[M9 R i q p D,J p,aM];have m:=Rat.mul_le_mul_of_nonneg_left (N i (i+1+p) (by omega) (by omega)) (bK (fc (dj c R d c) (i+1+p)))
   grind)
  grind
 rw[e2];have aa:=O i H;have S0:0<=sm c (fun k=>ab (fc (dj c R d c) k)*al k):=eh (fun k F=>Rat.mul_nonneg (bK _) (l k F));generalize sm c (fun k=>ab (fc (dj c R d c) k)*al k)=S at*;generalize ab (fQ (d i)-(fQ ((dj c R d c).getD i 0)*fQ (R i i)+cG (nk R i q) (dj c R d q)))=z at*
 grind
theorem Bd.abs{n:Nat}{x:Nat->Rat}{a:Rat}(h:Bd n x a):Bd n (fun i=>ab (x i)) a:=by
 refine⟨h.1,?_⟩;have e:dt n (fun i=>ab (x i)) (fun i=>ab (x i))=dt n x x:=bN (fun i _=>by
  show ab (x i)*ab (x i)=x i*x i;rw[<-aM];exact aQ (ak _))
 rw[e];exact h.2
theorem Qz(n:Nat)(Q B:H3)(h:Q.length=n)(F:B.length=n)(a b:Rat)(t:Bd n (fc Q) a)(D:Bd n (fc B) b):mQ Q B<=a*b:=by
 have e:mQ Q B=dt n (fun i=>ab (fc Q i)) (fun i=>ab (fc B i)):=by
  rw[Na Q B (by omega),h];exact bN (fun i _=>aM _ _)
 rw[e];have k:=(t.abs).dot (D.abs);have l:=aw (dt n (fun i=>ab (fc Q i)) (fun i=>ab (fc B i)))
 grind
theorem Pg(n:Nat)(h6:n<=6)(ms:List ((Nat->Rat)×Rat))(Q B:H3)(i:Nat)(L:i<n)(I:Q.length=n)(h:∀x∈Q,ah x=true)(l:Bd n (fc Q) (1001/1000))(D:Bd n (fun k=>fc Q k+(-1)*kS n ms (uv i) k) (1730/9007199254740992))
  (M:B.length=n) (F:∀x∈B,ah x=true) (β:Rat) (J:Bd n (fc B) β) (b1:p2 (-900)<=β) (b2:β<=p2 900):
  ah (cH 0 Q B)=true/\ab (fQ (cH 0 Q B)-bB n ms (fc B) i)<=1760/9007199254740992*β:=by
 have G:=Qz n Q B I M _ _ l J;have P:=av (-900);have N:16*p2 900<=p2 1000:=by
  have O:=aq (show(900+1+1+1+1:Int)<=1000 by decide);simp only[bu]at O
  grind
 obtain⟨c1,c2,c3⟩:=sz;obtain⟨f1,e1⟩:=nP (1001/1000*β) Q B (by omega) (by grind) (by grind) h F G;refine⟨f1,?_⟩;have U:(Q.length:Rat)<=6:=Rat.natCast_le_natCast.2 (by omega:Q.length<=6);have H:=Rat.mul_nonneg (show 0<=6-(Q.length:Rat) by grind) (show 0<=1001/1000*β by grind);have Z:cG Q B=dt n (fc Q) (fc B):=by rw[<-F0 Q B (by omega),I]
 have e3:bB n ms (fc B) i=dt n (kS n ms (uv i)) (fc B):=by
  rw[ij,<-Bk,ij,M8 n i L]
 have k:=D.dot J;rw[oW,kj]at k;rw[Z]at e1;rw[e3];have l1:=aw (fQ (cH 0 Q B)-dt n (fc Q) (fc B));have l2:=aw (dt n (fc Q) (fc B)+-1*dt n (kS n ms (uv i)) (fc B));have t:=bP (x:=fQ (cH 0 Q B)-dt n (kS n ms (uv i)) (fc B)) (y:=ab (fQ (cH 0 Q B)-dt n (fc Q) (fc B))+ab (dt n (fc Q) (fc B)+-1*dt n (kS n ms (uv i)) (fc B))) (by grind) (by grind);have K:(6-(Q.length:Rat))*(1001/1000*β)=6*(1001/1000*β)-(Q.length:Rat)*(1001/1000*β):=by grind
 rw[K]at H;generalize (Q.length:Rat)*(1001/1000*β)=z0 at*;generalize ab (fQ (cH 0 Q B)-dt n (fc Q) (fc B))=z1 at*;generalize ab (dt n (fc Q) (fc B)+-1*dt n (kS n ms (uv i)) (fc B))=z2 at*;clear l1 l2 K
 grind
theorem Ph:∀k,k<=6->1000*bk (1/8796093022208) k<=18001:=by
 intro k l;have h:k=0\/k=1\/k=2\/k=3\/k=4\/k=5\/k=6:=by omega
 rcases h with rfl|rfl|rfl|rfl|rfl|rfl|rfl<;>decide+kernel
theorem th{n c:Nat}{A:Nat->Nat->Rat}{ms:List ((Nat->Rat)×Rat)}{C:Nat->H3}{d:Nat->Nat}{al:Nat->Rat}{b:Nat->Rat}{β:Rat}(hC:AF n c A)(hc:c<=n)(M:kl n (1/8796093022208) ms)(hl:ms.length<=6)
  (hR:∀k,k<c->∀q,Bd n (A k) q->Bd n (fun i=>fc (C k) i+(-1)*bB n ms (A k) i) (4040/9007199254740992*q)) (h0:∀k i,k<c->k<i->i<n->fc (C k) i=0)
  (H:∀k,k<c->Bd n (A k) (al k)) (hb:Bd n b β) (N:p2 (-900)<=β) (hd:∀i,i<c->ab (fQ (d i)-bB n ms b i)<=1760/9007199254740992*β)
  (hT:Pv c (fun i k=>(C k).getD i 0) d) (l:Nat) (I:l<c):
  ab (dt n (A l) (fun i=>b i+(-1)*iH c A (fc (dj c (fun i k=>(C k).getD i 0) d c)) i))<=al l*(β+sm c (fun k=>ab (fc (dj c (fun i k=>(C k).getD i 0) d c) k)*al k))*(71400/9007199254740992):=by
 have h6:=hC.six;have P:=av (-900);have g1:=vu ms.length hl;have k1:=Ph ms.length hl;have g0:=N8 (1/8796093022208) (by grind) ms.length;have F:∀k,k<c->0<=al k:=fun k h=>(H k h).1
 have O:∀i k,i<=k->k<c->ab (fQ ((C k).getD i 0))<=2*al k:=fun i k aa h=>by
  have r1:=(hR k h _ (H k h)).add (km ms (A k) (al k) M (H k h));have r2:=(r1.congr (fun i _=>(by grind:(fc (C k) i+(-1)*bB n ms (A k) i)+bB n ms (A k) i=fc (C k) i))).at (k:=i) (by omega);have Q:=F k h;have m:=Rat.mul_nonneg (show 0<=1000001-1000000*gw (1/8796093022208) ms.length by grind) Q;show ab (fc (C k) i)<=_;generalize gw (1/8796093022208) ms.length=G at*;have U:(1000001-1000000*G)*al k=1000001*al k-1000000*(G*al k):=by grind
  rw[U]at m;generalize G*al k=z2 at*
  grind
 have Z:∀i,i<c->ab (fQ (d i))<=2*β:=fun i D=>by
  have r:=(km ms b β M hb).at (k:=i) (by omega);have e:=hd i D;have l1:=aw (fQ (d i)-bB n ms b i);have l2:=aw (bB n ms b i);have t:=bP (x:=fQ (d i)) (y:=ab (fQ (d i)-bB n ms b i)+ab (bB n ms b i)) (by grind) (by grind);have m:=Rat.mul_nonneg (show 0<=1000001-1000000*gw (1/8796093022208) ms.length by grind) (show 0<=β by grind);generalize gw (1/8796093022208) ms.length=G at*;have U:(1000001-1000000*G)*β=1000001*β-1000000*(G*β):=by grind
  rw[U]at m;clear l1 l2;generalize G*β=z2 at*
  grind
 have hx:=fun i (D:i<c)=>Mj hT al β F O Z N i D
 have J:∀i,i<c->iH c (BT (fun i k=>(C k).getD i 0)) (fc (dj c (fun i k=>(C k).getD i 0) d c)) i=iH c (fun k=>fc (C k)) (fc (dj c (fun i k=>(C k).getD i 0) d c)) i:=fun i D=>by
  unfold iH;refine bN (fun k h=>?_);have e:BT (fun i k=>(C k).getD i 0) k i=fc (C k) i:=by
   unfold BT
   split
   ·rfl
   ·exact(h0 k i h (by omega) (by omega)).symm
  rw[e]
 have L:=vx (n:=n) (c:=c) (ε:=1/8796093022208) (η:=4040/9007199254740992) (γ:=69/9007199254740992) (β:=β) (ms:=ms) (A:=A) (R:=fun k=>fc (C k)) (b:=b) (d:=fun i=>fQ (d i)) (x:=fc (dj c (fun i k=>(C k).getD i 0) d c)) (al:=al)
  hc (by omega) M (by grind) (by grind) H hb (fun k h=>hR k h _ (H k h)) h0 (fun i D=>by have:=hd i D;grind) (fun i D=>by have:=hx i D;rw[J i D]at this;exact this) l I
 refine Rat.le_trans L ?_;have S0:0<=sm c (fun k=>ab (fc (dj c (fun i k=>(C k).getD i 0) d c) k)*al k):=eh (fun k h=>Rat.mul_nonneg (bK _) (F k h));have Q:=F l I;refine Rat.mul_le_mul_of_nonneg_left ?_ (Rat.mul_nonneg Q (by grind));generalize gw (1/8796093022208) ms.length=G at*;generalize bk (1/8796093022208) ms.length=K at*
 grind
theorem vy(n:Nat)(y:Nat->Rat):∃a,Bd n y a/\1000*(a*a)<=1001*dt n y y:=by
 have h:=je n y;rcases Rat.le_iff_lt_or_eq.1 h with g|g
 ·obtain⟨a,l,t,D⟩:=Ed _ g
  exact⟨a,⟨l,t⟩,D⟩
 ·exact⟨0,⟨by grind,by rw[<-g];grind⟩,by rw[<-g];grind⟩
theorem Ir(n:Nat)(A:Nat->Nat->Rat):∃al:Nat->Rat,∀k,Bd n (A k) (al k)/\1000*(al k*al k)<=1001*dt n (A k) (A k):=
 ⟨fun k=>Classical.choose (vy n (A k)),fun k=>Classical.choose_spec (vy n (A k))⟩
theorem vz{n c:Nat}{A:Nat->Nat->Rat}{ms:List ((Nat->Rat)×Rat)}{C:Nat->H3}{d:Nat->Nat}{b:Nat->Rat}(hC:AF n c A)(hc:c<=n)(hm:kl n (1/8796093022208) ms)(hl:ms.length<=6)
  (hR:∀k,k<c->∀q,Bd n (A k) q->Bd n (fun i=>fc (C k) i+(-1)*bB n ms (A k) i) (4040/9007199254740992*q)) (h0:∀k i,k<c->k<i->i<n->fc (C k) i=0)
  (aa:Bd n b (p2 62)) (ae:∃i,i<n/\p2 (-60)<=ab (b i)) (hd:∀β,Bd n b β->p2 (-900)<=β->β<=p2 900->∀i,i<c->ab (fQ (d i)-bB n ms b i)<=1760/9007199254740992*β)
  (hT:Pv c (fun i k=>(C k).getD i 0) d) (x:Nat->Rat) (hx:x=fc (dj c (fun i k=>(C k).getD i 0) d c)):
  1180591620717411303424*sm c (fun l=>dt n (A l) (fun i=>b i+(-1)*iH c A x i)*dt n (A l) (fun i=>b i+(-1)*iH c A x i))<=sm c (fun k=>dt n (A k) (A k))*(sm c (fun k=>dt n (A k) (A k))*dt c x x+dt n b b):=by
 obtain⟨al,t⟩:=Ir n A;obtain⟨β,D,ap⟩:=vy n b;have β0:=D.1;have lo:p2 (-900)<=β:=by
  obtain⟨i,hi,z⟩:=ae;have k:=D.at hi;have:=aq (show(-900:Int)<=-60 by decide)
  grind
 have hi:β<=p2 900:=by
  have P:=av 62;have k:β<=2*p2 62:=dr (by grind) (by have:=aa.2;have:=ak (p2 62);grind);have:=aq (show(62+1:Int)<=900 by decide);rw[bu]at this
  grind
 have up:=fun l (G:l<c)=>th hC hc hm hl hR h0 (fun k _=>(t k).1) D lo (hd β D lo hi) hT l G
 rw[<-hx]at up;obtain⟨S,hS⟩:∃S,sm c (fun k=>ab (x k)*al k)=S:=⟨_,rfl⟩;obtain⟨h,I⟩:∃h,sm c (fun k=>dt n (A k) (A k))=h:=⟨_,rfl⟩;rw[hS]at up;have K:∀k,0<=al k:=fun k=>(t k).1.1
 have S0:0<=S:=by rw[<-hS];exact eh (fun k _=>Rat.mul_nonneg (bK _) (K k))
 have H:0<=h:=by rw[<-I];exact eh (fun k _=>je n (A k))
 --sizes of all columns
 have M:1000*sm c (fun k=>al k*al k)<=1001*h:=by
  rw[<-I,<-iO,<-iO];exact wP (fun k _=>(t k).2)
 have L0:0<=sm c (fun k=>al k*al k):=eh (fun k _=>ak _);have N:=je c x;have ax:1000*(S*S)<=1001*(h*dt c x x):=by
  have cs:=wQ c (fun k=>ab (x k)) al;have J:dt c (fun k=>ab (x k)) al=S:=hS;have F:dt c (fun k=>ab (x k)) (fun k=>ab (x k))=dt c x x:=bN (fun i _=>by
   show ab (x i)*ab (x i)=x i*x i;rw[<-aM];exact aQ (ak _))
  have O:dt c al al=sm c (fun k=>al k*al k):=rfl;rw[J,F,O]at cs;have m:=Rat.mul_le_mul_of_nonneg_left M N;generalize sm c (fun k=>al k*al k)=L at*;generalize dt c x x=X at*;have U:X*(1000*L)=1000*(X*L):=by grind
  have Z:X*(1001*h)=1001*(h*X):=by grind
  rw[U,Z]at m;generalize S*S=z1 at*;generalize X*L=z2 at*
  grind
 have am:1000*((β+S)*(β+S))<=2002*(dt n b b+h*dt c x x):=by
  have s1:=ak (β-S);have J:(β-S)*(β-S)=β*β-2*(β*S)+S*S:=by grind
  have F:(β+S)*(β+S)=β*β+2*(β*S)+S*S:=by grind
  rw[J]at s1;rw[F];generalize h*dt c x x=z0 at*;generalize dt n b b=z4 at*;generalize β*β=z1 at*;generalize β*S=z2 at*;generalize S*S=z3 at*
  grind
 have hg:sm c (fun l=>dt n (A l) (fun i=>b i+(-1)*iH c A x i)*dt n (A l) (fun i=>b i+(-1)*iH c A x i))<=(β+S)*(β+S)*(5097960000/81129638414606681695789005144064)*sm c (fun k=>al k*al k):=by
  rw[<-iO];refine wP (fun l G=>?_);have u:=up l G;have g0:=bK (dt n (A l) (fun i=>b i+(-1)*iH c A x i));have e:dt n (A l) (fun i=>b i+(-1)*iH c A x i)*dt n (A l) (fun i=>b i+(-1)*iH c A x i)=ab (dt n (A l) (fun i=>b i+(-1)*iH c A x i))*ab (dt n (A l) (fun i=>b i+(-1)*iH c A x i)):=by
   rw[<-aM];exact(aQ (ak _)).symm
  rw[e];generalize ab (dt n (A l) (fun i=>b i+(-1)*iH c A x i))=g at*;have k:=Rat.mul_nonneg (show 0<=al l*(β+S)*(71400/9007199254740992)-g by grind) (show 0<=al l*(β+S)*(71400/9007199254740992)+g by
   have:=Rat.mul_nonneg (K l) (show 0<=β+S by grind)
   grind)
  have F:(al l*(β+S)*(71400/9007199254740992)-g)*(al l*(β+S)*(71400/9007199254740992)+g)=(β+S)*(β+S)*(5097960000/81129638414606681695789005144064)*(al l*al l)-g*g:=by grind
  rw[F]at k
  grind
 rw[I];have T0:=ak (β+S);have Q0:0<=dt n b b+h*dt c x x:=by
  have:=je n b;have:=Rat.mul_nonneg H N
  grind
 have m1:=Rat.mul_le_mul_of_nonneg_left M T0;have m2:=Rat.mul_le_mul_of_nonneg_left am H;have mm:=Rat.mul_nonneg H Q0;rw[show dt n b b+h*dt c x x=h*dt c x x+dt n b b by grind]at*;generalize h*dt c x x+dt n b b=Q at*;generalize sm c (fun l=>dt n (A l) (fun i=>b i+(-1)*iH c A x i)*dt n (A l) (fun i=>b i+(-1)*iH c A x i))=Gg at*;generalize sm c (fun k=>al k*al k)=L at*;generalize (β+S)*(β+S)=T at*;have J:T*(1000*L)=1000*(T*L):=by grind
 have F:T*(1001*h)=1001*(T*h):=by grind
 have O:h*(1000*T)=1000*(T*h):=by grind
 have U:h*(2002*Q)=2002*(h*Q):=by grind
 have Z:T*(5097960000/81129638414606681695789005144064)*L=5097960000/81129638414606681695789005144064*(T*L):=by grind
 rw[J,F]at m1;rw[O,U]at m2;rw[Z]at hg;generalize T*L=z1 at*;generalize T*h=z2 at*;generalize h*Q=z3 at*;clear up hd hR h0 hC hT t J F O U Z
 grind
theorem iP.qstep{Z:Rat}{r c:Nat}{S:H3}(h:iP Z r c S){j:Nat}(r6:r<=6)(K:j<r)(D:j<c)(I:Z<=p2 290)(l:p2 (-800)<=Z):
  QN r c S j=true/\iP (24*Z) r c (yA r c S j):=by
 have p0:=av (-800);have Z0:0<Z:=by grind
 have t:1267650600228229401496703205376*p2 (-1075)<=Z:=Rat.le_trans (oU (-800) (by decide)) l;have F:6*Z<=p2 900:=by
  have:=aq (show(290+1+1+1:Int)<=900 by decide);simp only[bu]at this;have:=av 290
  grind
 have G:gh Z (gZ r c S j):=h.col (by omega) D;have J:(gZ r c S j).length=r-j:=bD _ _ _ _ _;obtain⟨M,N,O,Q,c5,c6⟩:=ji (gZ r c S j) (by omega) (G.mono (Rat.le_trans I (aq (by decide))));refine⟨?_,?_⟩
 ·unfold QN
  rw[M,Bool.and_true,jh];intro k U;have L:(gZ r c S j).getD k 0∈gZ r c S j:=by
   rw[List.getD_eq_getElem?_getD,List.getElem?_eq_getElem U];exact List.getElem_mem _
  exact(G _ L).2.1
 ·unfold yA
  have H:=h.ap j j (kt (gZ r c S j)) (kA (gZ r c S j)) (by rw[iW,J];omega) (by rw[iW,J];omega) N O Q F t;exact H.cl j _ (by grind) (Ik _ Z (by omega) G I l)
theorem BU(K:Int)(j:Nat):p2 (K+5*((j+1:Nat):Int))=32*p2 (K+5*(j:Int)):=by
 rw[show(K+5*((j+1:Nat):Int))=K+5*(j:Int)+((5:Nat):Int) by omega,kv];rfl
theorem iP.qall{r c:Nat}{S:H3}(h:iP (p2 200) r c S)(l:r<=6):∀j,j<=bZ r c->iP (p2 (200+5*j)) r c (kB r c S j)/\Lr r c S j=true:=by
 intro j
 induction j with
 |zero=>intro _;exact⟨h,rfl⟩
 |succ j ih=>
  intro I;obtain⟨D,F⟩:=ih (by omega);have t:=(jz r c j).1 (by omega);obtain⟨G,H⟩:=D.qstep (j:=j) l (by omega) (by omega) (aq (by omega)) (aq (by omega));refine⟨H.mono ?_,?_⟩
  ·rw[BU]
   have:=av (200+5*(j:Int))
   grind
  ·show(Lr r c S j&&QN r c (kB r c S j) j)=true
   rw[F,G];rfl
theorem iP.qQ{r c:Nat}{S:H3}(h:iP (p2 200) r c S)(H:r<=6):∀t,t<=bZ r c->iP (p2 (0+5*t)) r r (sH r c S (bZ r c) t):=by
 have I:=h.qall H;have O:bZ r c<=6:=by unfold bZ;omega
 intro t
 induction t with
 |zero=>intro _;exact iP.eye r
 |succ t ih=>
  intro ht;have i:=ih (by omega);have l:=(jz r c (bZ r c-1-t)).1 (by omega);obtain⟨j,G⟩:∃j,bZ r c-1-t=j:=⟨_,rfl⟩;rw[G]at l;have D:=(I j (by omega)).1;have J:gh (p2 300) (ei r c S j):=(D.col (i:=j) (n:=r-j) (by omega) (by omega)).mono (aq (by omega));obtain⟨Q,L,M,N,U,Z⟩:=ji (ei r c S j) (by rw[ku];omega) J;show iP _ r r (rR r r (sH r c S (bZ r c) t) (bZ r c-1-t) 0 (kt (ei r c S (bZ r c-1-t))) (kA (ei r c S (bZ r c-1-t))));rw[G];have F:6*p2 (0+5*(t:Int))<=p2 900:=by
   have K:=aq (show(0+5*(t:Int)+1+1+1:Int)<=900 by omega);simp only[bu]at K;have:=av (0+5*(t:Int))
   grind
  refine(i.ap j 0 _ _ (by rw[iW,ku];omega) (by rw[iW,ku];omega) L M N F (oU _ (by omega))).mono ?_;rw[BU];have:=av (0+5*(t:Int))
  grind
theorem Is{r c:Nat}{S:H3}(h:iP (p2 200) r c S)(G:S.length=r*c)(l:r<=6):mY r c S=true/\iP (p2 290) r r (iG r c S)/\iP (p2 290) r c (dy r c S):=by
 have t:=h.qall l;have I:bZ r c<=6:=by unfold bZ;omega
 have D:iP (p2 290) r c (dy r c S):=(t (bZ r c) (Nat.le_refl _)).1.mono (aq (by omega));have H:=h.qQ l;have F:iP (p2 290) r r (iG r c S):=(H (bZ r c) (Nat.le_refl _)).mono (aq (by omega));refine⟨?_,F,D⟩;unfold mY;rw[(t (bZ r c) (Nat.le_refl _)).2,F.fins (gV _ _ _ _ _),D.fins (jt r c S G _)];rfl
end Go.Proofs.YtcbcmlaogehimaaGreatDoor
