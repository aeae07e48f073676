/- Part 10 of the texts. -/
import Derived.Test.YtmpkkhackbpflaaGreatDoorPartg09
namespace Go.Proofs.YtmpkkhackbpflaaGreatDoor
def cG(r:Nat→Int):List Nat→(List Nat→Int)→Int
 | [],_=>0
 |c::cs,D=>r c*D cs-cG r cs (fun l=>D (c::l))
def bg:List (Nat→Int)→List Nat→Int
 | [],_=>1
 |r::rs,cs=>cG r cs (bg rs)
theorem gn(r:Nat→Int):∀(d:List Nat) (D E:List Nat→Int),(∀l,l.Sublist d→l.length+1=d.length→D l=E l)→cG r d D=cG r d E
 | [],_,_,_=>rfl
 |c::d,D,E,h=>by
  unfold cG
  rw[h d (List.sublist_cons_self c d) rfl,gn r d (fun l=>D (c::l)) (fun l=>E (c::l)) (fun l t z=>h (c::l) (t.cons_cons c) (by simp;omega))]
theorem oG(r s:Nat→Int):∀(d:List Nat) (D:List Nat→Int),(∀c∈d,r c=s c)→cG r d D=cG s d D
 | [],_,_=>rfl
 |c::d,D,h=>by
  unfold cG
  rw[h c (by simp),oG r s d _ (fun c l=>h c (by simp[l]))]
theorem lU(r:Nat→Int)(p q:Int):∀(d:List Nat) (D E:List Nat→Int),cG r d (fun l=>p*D l+q*E l)=p*cG r d D+q*cG r d E
 | [],_,_=>by simp[cG]
 |c::d,D,E=>by
  unfold cG
  rw[lU r p q d (fun l=>D (c::l)) (fun l=>E (c::l))]
  grind
theorem uh(r:Nat→Int)(p:Int)(d:List Nat)(D:List Nat→Int):cG r d (fun l=>p*D l)=p*cG r d D:=by
 have:=lU r p 0 d D D
 simpa using this
theorem kU(r s:Nat→Int)(p q:Int):∀(d:List Nat) (D:List Nat→Int),cG (fun c=>p*r c+q*s c) d D=p*cG r d D+q*cG s d D
 | [],_=>by simp[cG]
 |c::d,D=>by
  unfold cG
  rw[kU r s p q d (fun l=>D (c::l))]
  grind
theorem ui(r:Nat→Int)(d:List Nat):cG r d (fun _=>0)=0:=by
 have:=uh r 0 d (fun _=>0)
 simpa using this
theorem o9(r s:Nat→Int):∀(d t:List Nat) (F:List Nat→List Nat→Int),cG r d (fun l=>cG s t (fun m=>F l m))=cG s t (fun m=>cG r d (fun l=>F l m))
 | [],t,F=>(ui s t).symm
 |c::d,t,F=>by
  have h:=lU s (r c) (-1) t (fun m=>F d m) (fun m=>cG r d (fun l=>F (c::l) m))
  have e:cG s t (fun m=>cG r (c::d) (fun l=>F l m))=cG s t (fun m=>r c*F d m+-1*cG r d (fun l=>F (c::l) m)):=by
   congr 1
   funext m
   show r c*F d m-cG r d (fun l=>F (c::l) m)=_
   omega
  rw[e,h,←o9 r s d t (fun l m=>F (c::l) m)]
  show r c*cG s t (fun m=>F d m)-cG r d (fun l=>cG s t (fun m=>F (c::l) m))=_
  omega
theorem uj(r s:Nat→Int):∀(d:List Nat) (D:List Nat→Int),cG r d (fun l=>cG s l D)= -cG s d (fun l=>cG r l D)
 | [],_=>by simp[cG]
 |c::d,D=>by
  have h:∀r s:Nat→Int,cG r (c::d) (fun l=>cG s l D)=r c*cG s d D-s c*cG r d D+cG r d (fun l=>cG s l (fun m=>D (c::m))):=by
   intro r s
   have e:cG r d (fun l=>cG s (c::l) D)=s c*cG r d D+-1*cG r d (fun l=>cG s l (fun m=>D (c::m))):=by
    rw[←lU]
    congr 1
    funext l
    show s c*D l-cG s l (fun m=>D (c::m))=_
    omega
   show r c*cG s d D-cG r d (fun l=>cG s (c::l) D)=_
   rw[e]
   omega
  rw[h r s,h s r,uj r s d (fun m=>D (c::m))]
  omega
theorem ru(r:Nat→Int)(rs:List (Nat→Int))(d:List Nat):bg (r::rs) d=cG r d (bg rs):=rfl
theorem rx(r s:Nat→Int)(rs:List (Nat→Int))(d:List Nat):bg (r::s::rs) d= -bg (s::r::rs) d:=by
 show cG r d (fun l=>cG s l (bg rs))= -cG s d (fun l=>cG r l (bg rs))
 exact uj r s d (bg rs)
theorem At(r:Nat→Int)(rs:List (Nat→Int))(d:List Nat):bg (r::r::rs) d=0:=by
 have:=rx r r rs d
 omega
theorem uk(p:Int)(rs z:List (Nat→Int))(h:∀t,bg rs t=p*bg z t):∀(d:List (Nat→Int)) (t:List Nat),bg (d++rs) t=p*bg (d++z) t
 | [],t=>h t
 |r::d,t=>by
  show cG r t (bg (d++rs))=p*cG r t (bg (d++z))
  rw[←uh]
  congr 1
  funext l
  exact uk p rs z h d l
theorem nv{rs z:List (Nat→Int)}(h:rs.Perm z):∃p:Int,(p=1∨p= -1)∧∀d,bg rs d=p*bg z d:=by
 induction h with
 |nil=>exact⟨1,.inl rfl,fun d=>by simp⟩
 |cons r _ ih=>
  obtain⟨p,t,h⟩:=ih
  exact⟨p,t,fun d=>uk p _ _ h [r] d⟩
 |swap r s l=>exact⟨-1,.inr rfl,fun d=>by rw[rx s r l d];omega⟩
 |trans _ _ ih1 ih2=>
  obtain⟨p,t,h⟩:=ih1
  obtain⟨q,D,g⟩:=ih2
  refine⟨p*q,?_,fun d=>by rw[h d,g d,Int.mul_assoc]⟩
  rcases t with rfl|rfl<;>rcases D with rfl|rfl<;>simp
theorem pa(r:Nat→Int)(rs:List (Nat→Int))(l d:List (Nat→Int))(t:List Nat):bg (l++r::(d++r::rs)) t=0:=by
 have z:(l++r::(d++r::rs)).Perm (r::r::(l++(d++rs))):=by
  have D:(d++r::rs).Perm (r::(d++rs)):=List.perm_middle
  have F:(l++r::(d++r::rs)).Perm (r::(l++(d++r::rs))):=List.perm_middle
  refine F.trans (List.Perm.cons r ?_)
  refine(List.Perm.append_left l D).trans ?_
  exact List.perm_middle
 obtain⟨p,_,h⟩:=nv z
 rw[h t,At]
 simp
theorem fw(r s:Nat→Int)(p q:Int)(rs:List (Nat→Int)):∀(d:List (Nat→Int)) (h:List Nat),bg (d++(fun c=>p*r c+q*s c)::rs) h=p*bg (d++r::rs) h+q*bg (d++s::rs) h
 | [],h=>kU r s p q h (bg rs)
 |t::d,h=>by
  show cG t h (bg (d++(fun c=>p*r c+q*s c)::rs))=p*cG t h (bg (d++r::rs))+q*cG t h (bg (d++s::rs))
  rw[←lU]
  congr 1
  funext l
  exact fw r s p q rs d l
theorem eC(a:Nat→Nat→Int):∀(n:Nat) (R C:List Nat),R.length=n→C.length=n→bg (R.map (fun i=>fun j=>a i j)) C=bg (C.map (fun j=>fun i=>a i j)) R
 |0,R,C,hR,hC=>by
  obtain rfl:=List.length_eq_zero_iff.1 hR
  obtain rfl:=List.length_eq_zero_iff.1 hC
  rfl
 |1,[i],[j],_,_=>by simp[bg,cG]
 |n+2,i::R,j::C,hR,hC=>by
  have d:∀R C:List Nat,R.length=n+1→C.length=n+1→bg (R.map (fun i=>fun j=>a i j)) C=bg (C.map (fun j=>fun i=>a i j)) R:=eC a (n+1)
  have t:∀R C:List Nat,R.length=n→C.length=n→bg (R.map (fun i=>fun j=>a i j)) C=bg (C.map (fun j=>fun i=>a i j)) R:=eC a n
  simp only[List.length_cons]at hR hC
  show cG (a i) (j::C) (bg (R.map (fun i=>fun j=>a i j)))=cG (fun i=>a i j) (i::R) (bg (C.map (fun j=>fun i=>a i j)))
  unfold cG
  have F:cG (a i) C (fun l=>bg (R.map (fun i=>fun j=>a i j)) (j::l))=cG (a i) C (fun l=>cG (fun i=>a i j) R (fun k=>bg (k.map (fun i=>fun j=>a i j)) l)):=by
   refine gn _ _ _ _ (fun l H z=>?_)
   rw[d R (j::l) (by omega) (by simp;omega)]
   show cG (fun i=>a i j) R (bg (l.map (fun j=>fun i=>a i j)))=_
   refine gn _ _ _ _ (fun k D h=>?_)
   exact(t k l (by omega) (by omega)).symm
  have G:cG (fun i=>a i j) R (fun l=>bg (C.map (fun j=>fun i=>a i j)) (i::l))=cG (fun i=>a i j) R (fun k=>cG (a i) C (fun l=>bg (k.map (fun i=>fun j=>a i j)) l)):=by
   refine gn _ _ _ _ (fun k D h=>?_)
   rw[←d (i::k) C (by simp;omega) (by omega)]
   rfl
  rw[F,G,o9,d R C (by omega) (by omega)]
def qK(m:Nat)(I:List Nat):Prop:=I.Pairwise (·< ·)∧∀i∈I,i<m
def fz(a:Nat→Nat→Int)(I C:List Nat):Int:=bg (I.map a) C
def kE(k:Nat)(a:Nat→Nat→Int)(m n:Nat):Prop:=∀I C,qK m I→qK n C→I.length=k→C.length=k→fz a I C=0
def dw(r:Nat)(a:Nat→Nat→Int)(m n:Nat):Prop:=¬kE r a m n∧kE (r+1) a m n
theorem qK.sub{m:Nat}{I J:List Nat}(h:qK m I)(d:J.Sublist I):qK m J:=⟨h.1.sublist d,fun i l=>h.2 i (d.subset l)⟩
theorem kE.succ{k:Nat}{a:Nat→Nat→Int}{m n:Nat}(h:kE k a m n):kE (k+1) a m n:=by
 intro I C D F t G
 cases I with
 |nil=>simp at t
 |cons i I=>
  show cG (a i) C (bg (I.map a))=0
  rw[gn (a i) C (bg (I.map a)) (fun _=>0) (fun l z d=>?_),ui]
  simp only[List.length_cons]at t
  exact h I l (D.sub (List.sublist_cons_self i I)) (F.sub z) (by omega) (by omega)
theorem kE.le{k j:Nat}{a:Nat→Nat→Int}{m n:Nat}(h:kE k a m n)(l:k≤j):kE j a m n:=by
 obtain⟨d,rfl⟩:∃d,j=k+d:=⟨j-k,by omega⟩
 clear l
 induction d with
 |zero=>exact h
 |succ d ih=>exact ih.succ
theorem dw.unique{r s:Nat}{a:Nat→Nat→Int}{m n:Nat}(h:dw r a m n)(g:dw s a m n):r=s:=by
 rcases Nat.lt_trichotomy r s with d|e|d
 ·exact absurd (h.2.le d) g.1
 ·exact e
 ·exact absurd (g.2.le d) h.1
theorem ry:∀(I:List Nat),¬I.Nodup→∃l i z d,I=l++i::(z++i::d)
 | [],h=>absurd List.nodup_nil h
 |i::I,h=>by
  by_cases D:i∈I
  ·obtain⟨s,t,rfl⟩:=List.append_of_mem D
   exact⟨[],i,s,t,rfl⟩
  ·have:¬I.Nodup:=fun F=>h (List.nodup_cons.2 ⟨D,F⟩)
   obtain⟨l,j,z,d,e⟩:=ry I this
   exact⟨i::l,j,z,d,by rw[e];rfl⟩
theorem kE.all{k:Nat}{a:Nat→Nat→Int}{m n:Nat}(h:kE k a m n)(I C:List Nat)(M:∀i∈I,i<m)(N:qK n C)(O:I.length=k)(Q:C.length=k):fz a I C=0:=by
 by_cases J:I.Nodup
 ·have l:(I.mergeSort (fun x y=>decide (x≤y))).Perm I:=List.mergeSort_perm I _
  have U:(I.mergeSort (fun x y=>decide (x≤y))).Pairwise (fun x y=>decide (x≤y)=true):=List.pairwise_mergeSort (fun x y z G H=>by simp at*;omega) (fun x y=>by simp;omega) I
  have t:(I.mergeSort (fun x y=>decide (x≤y))).Nodup:=l.nodup_iff.2 J
  have V:qK m (I.mergeSort (fun x y=>decide (x≤y))):=by
   refine⟨?_,fun i T=>M i (l.mem_iff.1 T)⟩
   have H:=List.Pairwise.and U t
   exact H.imp (fun h=>by simp at h;omega)
  obtain⟨p,_,X⟩:=nv (l.map a)
  have L:=h _ C V N (by rw[l.length_eq];exact O) Q
  unfold fz at L⊢
  have G:=X C
  rw[L]at G
  rcases(show p=1∨p= -1 by assumption)with rfl|rfl<;>omega
 ·obtain⟨D,i,F,d,rfl⟩:=ry I J
  unfold fz
  simp only[List.map_append,List.map_cons]
  exact pa (a i) (d.map a) (D.map a) (F.map a) C
theorem CQ{k m n d:Nat}{a b:Nat→Nat→Int}(M:d<m)(p q:Nat→Int)(h:∀i,i<m→∀c,b i c=p i*a i c+q i*a d c)(N:kE k a m n):kE k b m n:=by
 intro I C Q T U V
 have G:∀(J t:List Nat),(∀i∈t,i<m)→(∀i∈J,i<m)→t.length+J.length=k→bg (t.map a++J.map b) C=0:=by
  intro J
  induction J with
  |nil=>
   intro t z _ D
   simp only[List.map_nil,List.append_nil]
   exact N.all t C z T (by simpa using D) V
  |cons i J ih=>
   intro t z F D
   have O:b i=fun c=>p i*a i c+q i*a d c:=by funext c;exact h i (F i (by simp)) c
   rw[List.map_cons,O,fw]
   have H:=ih (t++[i]) (fun j l=>by rcases List.mem_append.1 l with l|l;exact z j l;simp at l;subst l;exact F j (by simp)) (fun j l=>F j (by simp[l])) (by simp at D⊢;omega)
   have L:=ih (t++[d]) (fun j l=>by rcases List.mem_append.1 l with l|l;exact z j l;simp at l;subst l;exact M) (fun j l=>F j (by simp[l])) (by simp at D⊢;omega)
   simp only[List.map_append,List.map_cons,List.map_nil,List.append_assoc,List.singleton_append]at H L
   rw[H,L]
   simp
 have:=G I [] (by simp) Q.2 (by simpa using U)
 simpa[fz]using this
theorem CU{k m n d:Nat}{a b:Nat→Nat→Int}(Q:d<m)(p q:Nat→Int)(h:∀i,i<m→∀c,p i*a i c=b i c+q i*b d c)(G:∀i,i<m→p i≠0)(T:kE k b m n):kE k a m n:=by
 intro I C Y Z lI lC
 have H:∀(J l:List Nat),(∀i∈l,i<m)→(∀i∈J,i<m)→l.length+J.length=k→bg (l.map b++J.map a) C=0:=by
  intro J
  induction J with
  |nil=>
   intro l D _ F
   simp only[List.map_nil,List.append_nil]
   exact T.all l C D Z (by simpa using F) lC
  |cons i J ih=>
   intro l D M F
   have L:i<m:=M i (by simp)
   have N:=ih (l++[i]) (fun j t=>by rcases List.mem_append.1 t with t|t;exact D j t;simp at t;subst t;exact L) (fun j t=>M j (by simp[t])) (by simp at F⊢;omega)
   have O:=ih (l++[d]) (fun j t=>by rcases List.mem_append.1 t with t|t;exact D j t;simp at t;subst t;exact Q) (fun j t=>M j (by simp[t])) (by simp at F⊢;omega)
   simp only[List.map_append,List.map_cons,List.map_nil,List.append_assoc,List.singleton_append]at N O
   have U:=fw (b i) (b d) 1 (q i) (J.map a) (l.map b) C
   have V:=fw (a i) (a i) (p i) 0 (J.map a) (l.map b) C
   have z:(fun c=>p i*a i c+0*a i c)=(fun c=>1*b i c+q i*b d c):=by
    funext c
    have:=h i L c
    omega
   rw[z,U,N,O]at V
   have X:p i*bg (l.map b++a i::J.map a) C=0:=by omega
   rcases Int.mul_eq_zero.1 X with e|e
   ·exact absurd e (G i L)
   ·simpa using e
 have:=H I [] (by simp) Y.2 (by simpa using lI)
 simpa[fz]using this
theorem lY{k m n:Nat}{a b:Nat→Nat→Int}(s:Nat→Nat)(t:∀i,i<m→s i<m)(h:∀i,i<m→b i=a (s i))(z:kE k a m n):kE k b m n:=by
 intro I C l F G H
 have e:I.map b=(I.map s).map a:=by
  rw[List.map_map]
  exact List.map_congr_left (fun i d=>h i (l.2 i d))
 unfold fz
 rw[e]
 exact z.all (I.map s) C (fun i d=>by obtain⟨j,D,rfl⟩:=List.mem_map.1 d;exact t j (l.2 j D)) F (by simpa using G) H
theorem pd{k m n:Nat}{a:Nat→Nat→Int}(l:kE k a m n):kE k (fun j i=>a i j) n m:=by
 intro I C t z d h
 have:=eC a k C I h d
 unfold fz
 rw[←this]
 exact l C I z t h d
theorem Au{r m n:Nat}{a:Nat→Nat→Int}(h:dw r a m n):dw r (fun j i=>a i j) n m:=
 ⟨fun d=>h.1 (pd d),pd h.2⟩
theorem jh(r:Nat→Int)(d:List Nat)(D:List Nat→Int)(h:∀c∈d,r c=0):cG r d D=0:=by
 rw[oG r (fun _=>0) d D h]
 induction d generalizing D with
 |nil=>rfl
 |cons c d ih=>
  unfold cG
  rw[ih _ (fun c l=>h c (by simp[l]))]
  simp
theorem jM(r:Nat→Int)(rs:List (Nat→Int))(l:List Nat)(h:∀c∈l,r c=0):∀d:List (Nat→Int),bg (d++r::rs) l=0:=by
 intro d
 have t:(d++r::rs).Perm (r::(d++rs)):=List.perm_middle
 obtain⟨p,_,z⟩:=nv t
 rw[z l]
 show p*cG r l (bg (d++rs))=0
 rw[jh r l _ h]
 simp
theorem rA{m r:Nat}:∀(I:List Nat) (b:Nat),I.Pairwise (·< ·)→(∀i∈I,b≤i)→r<b+I.length→I≠ []→∃i∈I,r≤i
 | [],_,_,_,_,h=>absurd rfl h
 | [i],b,_,hb,hl,_=>⟨i,by simp,by have:=hb i (by simp);simp at hl;omega⟩
 |i::j::I,b,hp,hb,hl,_=>by
  have d:=List.pairwise_cons.1 hp
  obtain⟨k,z,D⟩:=rA (m:=m) (r:=r) (j::I) (b+1) d.2 (fun t l=>by have:=d.1 t l;have:=hb i (by simp);omega) (by simp at hl⊢;omega) (by simp)
  exact⟨k,by simp[z],D⟩
theorem F6{m n r:Nat}{a:Nat→Nat→Int}(h:∀i,r≤i→i<m→∀c,c<n→a i c=0):kE (r+1) a m n:=by
 intro I C l F G _
 obtain⟨i,d,D⟩:=rA (m:=m) (r:=r) I 0 l.1 (fun _ _=>Nat.zero_le _) (by omega) (by intro e;subst e;simp at G)
 obtain⟨s,t,rfl⟩:=List.append_of_mem d
 unfold fz
 simp only[List.map_append,List.map_cons]
 exact jM (a i) _ C (fun c z=>h i D (l.2 i d) c (F.2 c z)) _
def nw(a:Nat→Nat→Int):List Nat→List Nat→Int
 |i::I,c::C=>a i c*nw a I C
 |_,_=>1
theorem lZ(a:Nat→Nat→Int):∀(I C:List Nat),I.length=C.length→(∀l i t z c D,I=l++i::t→C=z++c::D→l.length=z.length→∀j∈t,a j c=0)→bg (C.map (fun c i=>a i c)) I=nw a I C
 | [],[],_,_=>rfl
 |i::I,c::C,hl,h=>by
  simp only[List.length_cons,Nat.add_right_cancel_iff]at hl
  have J:=h [] i I [] c C rfl rfl rfl
  show cG (fun i=>a i c) (i::I) (bg (C.map (fun c i=>a i c)))=a i c*nw a I C
  unfold cG
  rw[jh (fun i=>a i c) I _ J,lZ a I C hl (fun l j t z d D F G H=>h (i::l) j t (c::z) d D (by rw[F];rfl) (by rw[G];rfl) (by simp[H]))]
  omega
theorem rB(a:Nat→Nat→Int):∀(I C:List Nat),I.length=C.length→(∀l i z t c D,I=l++i::z→C=t++c::D→l.length=t.length→a i c≠0)→nw a I C≠0
 | [],[],_,_=>by simp[nw]
 |i::I,c::C,hl,h=>by
  simp only[List.length_cons,Nat.add_right_cancel_iff]at hl
  have J:=h [] i I [] c C rfl rfl rfl
  have L:=rB a I C hl (fun l j z t d D F G H=>h (i::l) j z (c::t) d D (by rw[F];rfl) (by rw[G];rfl) (by simp[H]))
  intro e
  rcases Int.mul_eq_zero.1 (show a i c*nw a I C=0 from e)with e|e
  ·exact J e
  ·exact L e
theorem kV(n:Nat):qK n (List.range n):=⟨List.pairwise_lt_range,fun _ d=>List.mem_range.1 d⟩
theorem ul{m n:Nat}{a:Nat→Nat→Int}(P:List Nat)(Z:qK n P)(hm:P.length≤m)(h0:∀j,j<P.length→a j (P[j]?.getD 0)≠0)(h1:∀j i,j<P.length→j<i→i<m→a i (P[j]?.getD 0)=0)(h2:∀i,P.length≤i→i<m→∀c,c<n→a i c=0):dw P.length a m n:=by
 refine⟨fun hv=>?_,F6 h2⟩
 have hr:qK m (List.range P.length):=⟨(kV _).1,fun i L=>by have:=(kV P.length).2 i L;omega⟩
 have M:=hv (List.range P.length) P hr Z (by simp) rfl
 unfold fz at M
 rw[eC a P.length (List.range P.length) P (by simp) rfl]at M
 have l:∀d i t z c F,List.range P.length=d++i::t→P=z++c::F→d.length=z.length→i=d.length∧d.length<P.length∧P[d.length]?.getD 0=c∧∀j∈t,d.length<j∧j<P.length:=by
  intro d i t z c F D H I
  have L:(List.range P.length)[d.length]? =some i:=by rw[D];simp
  have N:P[d.length]? =some c:=by rw[H,I];simp
  have J:d.length<P.length:=by
   rcases Nat.lt_or_ge d.length P.length with h|h
   ·exact h
   ·rw[List.getElem?_eq_none h]at N;simp at N
  have O:i=d.length:=by
   rw[List.getElem?_range J]at L
   exact(Option.some.inj L).symm
  refine⟨O,J,by rw[N];rfl,fun j G=>?_⟩
  have X:=(kV P.length).1
  rw[D,List.pairwise_append]at X
  have:=(List.pairwise_cons.1 X.2.1).1 j G
  have Q:j∈List.range P.length:=by rw[D];simp[G]
  exact⟨by omega,List.mem_range.1 Q⟩
 rw[lZ a (List.range P.length) P (by simp) (fun d i t z c F D H I j G=>by
  obtain⟨Y,T,U,V⟩:=l d i t z c F D H I
  rw[←U]
  exact h1 d.length j T (V j G).1 (by have:=(V j G).2;omega))]at M
 refine rB a (List.range P.length) P (by simp) (fun d i t z c F D H I=>?_) M
 obtain⟨Y,T,U,V⟩:=l d i t z c F D H I
 rw[Y,←U]
 exact h0 d.length T
def F7(a:Nat→Nat→Int)(t:Nat→Int):Nat→Nat→Int
 |0=>fun _=>0
 |k+1=>fun c=>1*F7 a t k c+t k*a k c
theorem sG{n:Nat}:∀(I:List Nat) (b:Nat),I.Pairwise (·< ·)→(∀i∈I,b≤i∧i<n)→b+I.length≤n∨I= []
 | [],_,_,_=>.inr rfl
 | [i],b,_,h=>.inl (by have:=h i (by simp);simp;omega)
 |i::j::I,b,hp,h=>by
  have d:=List.pairwise_cons.1 hp
  have z:=h i (by simp)
  rcases sG (n:=n) (j::I) (b+1) d.2 (fun t l=>by have:=d.1 t l;have:=h t (by simp[l]);omega)with e|e
  ·left;simp at e⊢;omega
  ·simp at e
theorem um{k m n:Nat}{a:Nat→Nat→Int}(h:m<k∨n<k):kE k a m n:=by
 intro I C l t F G
 exfalso
 have z:=sG (n:=m) I 0 l.1 (fun i d=>⟨Nat.zero_le _,l.2 i d⟩)
 have D:=sG (n:=n) C 0 t.1 (fun i d=>⟨Nat.zero_le _,t.2 i d⟩)
 rcases h with h|h
 ·rcases z with e|e
  ·omega
  ·subst e;simp at F;omega
 ·rcases D with e|e
  ·omega
  ·subst e;simp at G;omega
def Jc:Nat→Nat
 |0=>1
 |n+1=>(n+1)*Jc n
theorem pe(r:Nat→Int)(k:Nat):∀(d:List Nat) (F:List Nat→Int),cG r (d++[k]) F=cG r d (fun l=>F (l++[k]))+(-1)^d.length*(r k*F d)
 | [],F=>by simp[cG]
 |c::cs,F=>by
  show r c*F (cs++[k])-cG r (cs++[k]) (fun l=>F (c::l))=r c*F (cs++[k])-cG r cs (fun l=>F (c::(l++[k])))+(-1)^(cs.length+1)*(r k*F (c::cs))
  rw[pe r k cs (fun l=>F (c::l)),Int.pow_succ]
  grind
theorem CX(m:Nat):((-1:Int)^m=1∧m%2=0)∨((-1:Int)^m= -1∧m%2=1):=by
 induction m with
 |zero=>simp
 |succ m ih=>
  rw[Int.pow_succ]
  rcases ih with⟨d,h⟩|⟨d,h⟩
  ·right;rw[d];constructor
   ·rfl
   ·omega
  ·left;rw[d];constructor
   ·rfl
   ·omega
def NH:Nat:=80
def Ny:Nat:=4294967296^NH
def NB(k:Nat):Nat:=Jc k*Ny^k
open Go.RowKit
attribute [local go_sem ↓] Go.wp_at_zero Go.wp_at_succ
def l6(M:List Rw)(i j:Nat):Int:=aj (lM M i j).neg (lM M i j).L
def dm(M:List Rw)(s:Nat):Int:=bg ((List.range (sz s)).map (l6 M)) (elems s)
def Jd(M:List Rw)(n:Nat):Prop:=M.length≤6∧n≤6∧(∀i,i<M.length→(aY M i).R.length=n)∧(∀i j,i<M.length→j<n→nh (lM M i j)=true∧(l6 M i j).natAbs≤Ny)
end Go.Proofs.YtmpkkhackbpflaaGreatDoor
