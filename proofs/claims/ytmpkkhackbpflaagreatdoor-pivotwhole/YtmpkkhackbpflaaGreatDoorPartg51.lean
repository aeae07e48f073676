/- Part 51 of the texts. -/
import Derived.Test.YtmpkkhackbpflaaGreatDoorPartg50
namespace Go.Proofs.YtmpkkhackbpflaaGreatDoor
open Go.RowKit
theorem yO{a b:Nat}(h:fZ a≤fZ b):fQ a≤fQ b:=by
 unfold fQ
 have d:(fZ a:Rat)≤(fZ b:Rat):=Rat.intCast_le_intCast.2 h
 exact Rat.mul_le_mul_of_nonneg_right d (Rat.le_of_lt (aw _))
theorem Fy(r c:Nat)(S:List Nat)(j:Nat):∀t,tW r c S j t=true→∀k,j≤k→k<j+t→fZ (eK r c S j k)≤fZ (eK r c S j (ot r c S j t)):=by
 intro t
 induction t with
 |zero=>intro _ k l G;omega
 |succ t ih=>
  intro H k l G
  have d:(tW r c S j t&&ah (eK r c S j (j+t)))=true:=H
  rw[Bool.and_eq_true]at d
  show _≤fZ (eK r c S j (if cO (eK r c S j (ot r c S j t)) (eK r c S j (j+t))<0 then j+t else ot r c S j t))
  rcases Nat.eq_zero_or_pos t with e|e
  ·subst e
   obtain rfl:k=j:=by omega
   have D:ot r c S k 0=k:=rfl
   rw[D]
   split<;>exact Int.le_refl _
  ·have F:=Fv r c S j t d.1 (ot r c S j t) (yr r c S j t) (yt r c S j t e)
   have h:=si F d.2
   by_cases g:k=j+t
   ·subst g
    split
    ·exact Int.le_refl _
    ·rename_i q
     have:¬fZ (eK r c S j (ot r c S j t))<fZ (eK r c S j (j+t)):=fun z=>q (h.2 z)
     omega
   ·have i:=ih d.1 k l (by omega)
    split
    ·rename_i q
     have:=h.1 q
     omega
    ·exact i
theorem yP{j a q:Nat}(d:j≤a)(h:j≤q):j≤jJ j a q:=by
 unfold jJ
 repeat' split
 all_goals omega
theorem lH{j a q c:Nat}(d:j<c)(h:a<c)(l:q<c):jJ j a q<c:=by
 unfold jJ
 repeat' split
 all_goals omega
theorem Fz(r c:Nat)(S:List Nat){j a k:Nat}(d:j<c)(h:a<c)(l:k<c)(t:j≤r):bf c (BJ r c S j a) j (r-j) k=bf c S j (r-j) (jJ j a k):=by
 unfold bf
 refine List.map_congr_left (fun p z=>?_)
 have:=List.mem_range.1 z
 exact rX r c S d h (by omega) l
theorem I4{r c:Nat}{T:List Nat}(h:gD (p2 290) r c T){j:Nat}(O:r≤6)(t:j<r)(d:j<c):
  9007199254740992*ab (fQ (cj c (mX r c T j) j j)*fQ (cj c (mX r c T j) j j)-fQ (eK r c T j (jB r c T j))*fQ (eK r c T j (jB r c T j)))≤136*(fQ (eK r c T j (jB r c T j))*fQ (eK r c T j (jB r c T j)))+p2 (-520):=by
 have J:=gU r c T d
 have L:gD (p2 290) r c (eP r c T j):=h.sw d J
 have eX:=Ml r c T t d
 have F:(bD r c (eP r c T j) j).length=r-j:=aL _ _ _ _ _
 have D:cI (p2 300) (bD r c (eP r c T j) j):=(L.col (i:=j) (n:=r-j) (by omega) d).mono (aA (by decide))
 have H:fQ (eK r c T j (jB r c T j))=fQ (aX (bD r c (eP r c T j) j)):=by rw[eX];rfl
 obtain⟨X,Y,Z,x4⟩:=io _ (by rw[F];omega) D
 have I:fQ (cj c (mX r c T j) j j)*fQ (cj c (mX r c T j) j j)=fQ (aX (bD r c (eP r c T j) j))*fQ (aX (bD r c (eP r c T j) j))∨fQ (cj c (mX r c T j) j j)*fQ (cj c (mX r c T j) j j)=aJ (bD r c (eP r c T j) j):=by
  unfold mX
  by_cases g:j+1<r
  ·rw[if_pos g]
   have e:cj c (jI r c (eP r c T j) j) j j=gv (bD r c (eP r c T j) j):=by
    unfold jI
    rw[j5 r c _ j _ t d,if_pos ⟨rfl,Nat.le_refl _,t⟩,if_pos rfl]
   rw[e]
   exact(gO _ (by rw[F];omega) D).2.2.2.2.1 (fun e=>by rw[e]at F;simp at F;omega)
  ·rw[if_neg g]
   right
   have e:bD r c (eP r c T j) j= [cj c (eP r c T j) j j]:=by
    unfold bD bf
    rw[show r-j=1 by omega]
    rfl
   rw[e]
   show _=fQ _*fQ _+0
   grind
 rw[H]
 have M:=aA (show(-1700+1:Int)≤-520 by decide)
 rw[bR]at M
 have Q:=aw (-1700)
 have U:=al (fQ (aX (bD r c (eP r c T j) j)))
 have V:=bw (bD r c (eP r c T j) j)
 have l:=au (fQ (aX (bD r c (eP r c T j) j))*fQ (aX (bD r c (eP r c T j) j))-aJ (bD r c (eP r c T j) j))
 rcases I with e|e
 ·rw[e]
  generalize fQ (aX (bD r c (eP r c T j) j))*fQ (aX (bD r c (eP r c T j) j))=G at*
  have:G-G=0:=by grind
  rw[this]
  unfold ab
  grind
 ·rw[e]
  rw[pI (aJ (bD r c (eP r c T j) j))]
  generalize fQ (aX (bD r c (eP r c T j) j))*fQ (aX (bD r c (eP r c T j) j))=G at*
  generalize aJ (bD r c (eP r c T j) j)=N at*
  generalize ab (G-N)=z at*
  grind
theorem nR(r c:Nat)(S:List Nat){j:Nat}:∀t,j<t→t≤min c r→cj c (dN r c S t) j j=cj c (dN r c S (j+1)) j j:=by
 intro t
 induction t with
 |zero=>intro h _;omega
 |succ t ih=>
  intro D F
  by_cases g:t=j
  ·rw[g]
  ·rw[←ih (by omega) (by omega)]
   have z:=yu r c (dN r c S t) t
   have l:=gU r c (dN r c S t) (show t<c by omega)
   have d:cj c (eP r c (dN r c S t) t) j j=cj c (dN r c S t) j j:=by
    unfold eP
    rw[rX r c _ (show t<c by omega) l (show j<r by omega) (show j<c by omega)]
    unfold jJ
    rw[if_neg (by omega),if_neg (by omega)]
   show cj c (mX r c (dN r c S t) t) j j=_
   unfold mX
   split
   ·unfold jI
    rw[j5 r c _ t _ (show j<r by omega) (show j<c by omega),if_neg (fun e=>by omega),mH r c _ t t _ _ (show j<r by omega) (show j<c by omega),if_neg (fun e=>by omega)]
    exact d
   ·exact d
theorem gD.ap0{r c:Nat}{S:List Nat}(h:gD 0 r c S)(i k:Nat)(d:List Nat)(l:Nat)(O:i+d.length≤r)(Q:ah l=true)(J:∀v∈d,ah v=true):gD 0 r c (qE r c S i k d l):=by
 intro p q N F
 rw[mH r c S i k d l N F]
 split
 ·rename_i g
  have M:=h.col (n:=d.length) O F
  have G:d.length=(bf c S i d.length q).length:=(aL _ _ _ _ _).symm
  have H:∀y∈bf c S i d.length q,ah y=true∧fQ y=0:=fun y L=>⟨(M y L).2.1,by have:=(M y L).2.2;have:=au (fQ y);grind⟩
  have D:p-i<d.length:=by omega
  obtain⟨U,V⟩:=vy d (bf c S i d.length q) 0 (by decide) ix J H
  obtain⟨X,Y⟩:=jW l _ Q U (by rw[V];grind)
  have t:=xL _ X Y d (bf c S i d.length q) G J H 0 Rat.le_refl
  obtain⟨l1,Z⟩:=zO _ _ _ _ _ t
  have e:=Z (p-i) (by rw[←G];exact D)
  have z:(wK c S i q d l).getD (p-i) 0∈wK c S i q d l:=by
   rw[List.getD_eq_getElem?_getD,List.getElem?_eq_getElem (by rw[zV];exact D)]
   exact List.getElem_mem _
  have T:=GY _ _ _ _ _ t _ z
  refine⟨?_,T,?_⟩
  ·rw[qi c S i q d l D]
   exact jT _ _ (h (i+(p-i)) q (by omega) F).1 (jF _ (kL _ _))
  ·have I:fc (bf c S i d.length q) (p-i)=0:=by
    unfold fc
    rw[List.getD_eq_getElem?_getD,List.getElem?_eq_getElem (by rw[←G];exact D)]
    exact(H _ (List.getElem_mem _)).2
   rw[I]at e
   show ab (fc (mU (mV l (eh 0 d (bf c S i d.length q))) d (bf c S i d.length q)) (p-i))≤0
   generalize fc (mU (mV l (eh 0 d (bf c S i d.length q))) d (bf c S i d.length q)) (p-i)=x at*
   have:x-(0-0*fc d (p-i))=x:=by grind
   rw[this]at e
   grind
 ·exact h p q N F
theorem gD.step0{r c:Nat}{S:List Nat}(h:gD 0 r c S){j:Nat}(Y:r≤6)(I:j<r)(l:j<c):gD 0 r c (mX r c S j):=by
 have L:=gU r c S l
 have G:gD 0 r c (eP r c S j):=h.sw l L
 have t:cI 0 (bD r c (eP r c S j) j):=G.col (by omega) l
 have F:(bD r c (eP r c S j) j).length=r-j:=aL _ _ _ _ _
 have D:cI (p2 300) (bD r c (eP r c S j) j):=t.mono (Rat.le_of_lt (aw _))
 have H:∀x∈bD r c (eP r c S j) j,fQ x=0:=fun x d=>by have:=(t x d).2.2;have:=au (fQ x);grind
 obtain⟨c1,Q,c3,T,U,V⟩:=gO (bD r c (eP r c S j) j) (by omega) D
 unfold mX
 split
 ·refine(G.ap0 j j _ _ (by rw[eH,F];omega) Q (fun v J=>(T v J).1)).cl j _ Rat.le_refl ⟨yh _ (fun x d=>(t x d).1),V,?_⟩
  have M:=qh H
  obtain⟨x1,x2,x3,x4⟩:=io _ (by rw[F];omega) D
  have N:fQ (aX (bD r c (eP r c S j) j))=0:=by
   have O:bS 0 (bD r c (eP r c S j) j)=0:=by
    obtain⟨g1,g2,g3,X⟩:=mu (bD r c (eP r c S j) j) 0 (by decide) (fun x d=>(t x d).2.1)
    rcases X with e|⟨x,d,e⟩
    ·exact e
    ·have:=tE (t x d).1 (t x d).2.1 (H x d)
     rw[←e]
     exact(cP x).1 this
   rw[kw O,ix]
  have Z:fQ (gv (bD r c (eP r c S j) j))*fQ (gv (bD r c (eP r c S j) j))=0:=by
   rcases U (fun e=>by rw[e]at F;simp at F;omega)with e|e
   ·rw[e,N];grind
   ·rw[e,M]
  have z:fQ (gv (bD r c (eP r c S j) j))=0:=by
   rcases Rat.le_total (a:=fQ (gv (bD r c (eP r c S j) j))) (b:=0)with g|g
   ·have:=bW (x:=-fQ (gv (bD r c (eP r c S j) j))) (y:=0) Rat.le_refl (by grind)
    grind
   ·have:=bW (x:=fQ (gv (bD r c (eP r c S j) j))) (y:=0) Rat.le_refl (by grind)
    grind
  rw[z];unfold ab;grind
 ·exact G
def Ck(c:Rat):List Nat→List Nat→Rat
 |v::vs,x::xs=>(c*fQ v-fQ x)*(c*fQ v-fQ x)+Ck c vs xs
 |_,_=>0
theorem Cc(c d D μ κ:Rat)(G:0<μ)(H:0≤κ)(hκ:17592186044416*κ≤μ)(V:9007199254740992*ab (c-D)≤300*ab D)(Y:9007199254740992*ab (d-D)≤ab D):
  ∀(F l:List Nat),gJ d κ F l→(∀x∈l,1000*ab (fQ x)≤1001*μ)→81129638414606681695789005144064*Ck c F l≤92416*aJ l+(l.length:Rat)*(1/1000*(μ*μ)):=by
 intro F
 induction F with
 |nil=>
  intro l h _
  cases l with
  |nil=>
   have I:Ck c [] []=0:=rfl
   have J:aJ []=0:=rfl
   have L:(([]:List Nat).length:Rat)=0:=rfl
   rw[I,J,L];grind
  |cons x l=>exact absurd h (by unfold gJ;exact id)
 |cons v F ih=>
  intro l h O
  cases l with
  |nil=>exact absurd h (by unfold gJ;exact id)
  |cons x l=>
   unfold gJ at h
   have i:=ih l h.2 (fun y hy=>O y (List.mem_cons_of_mem _ hy))
   have aa:=O x List.mem_cons_self
   have h1:=h.1
   have I:Ck c (v::F) (x::l)=(c*fQ v-fQ x)*(c*fQ v-fQ x)+Ck c F l:=rfl
   have J:aJ (x::l)=fQ x*fQ x+aJ l:=rfl
   have L:((x::l).length:Rat)*(1/1000*(μ*μ))=(l.length:Rat)*(1/1000*(μ*μ))+1/1000*(μ*μ):=by
    rw[List.length_cons,Rat.natCast_add]
    have:((1:Nat):Rat)=1:=rfl
    rw[this];grind
   rw[I,J,L]
   have Z:=bK (fQ x)
   --the size of v D
   have Q:9007199254740992*ab (c-d)≤301*ab D:=by
    have M:=au (c-D);have N:=au (d-D)
    have t:=bU (x:=c-d) (y:=ab (c-D)+ab (d-D)) (by grind) (by grind)
    grind
   have vd:ab (fQ v)*ab d≤ab (fQ v*d-fQ x)+ab (fQ x):=by
    rw[←aK]
    have M:=au (fQ v*d-fQ x);have N:=au (fQ x)
    exact bU (by grind) (by grind)
   have T:9007199254740991*ab D≤9007199254740992*ab d:=by
    have M:=au (d-D);have N:=au d
    have t:=bU (x:=D) (y:=ab (d-D)+ab d) (by grind) (by grind)
    grind
   have v0:=bK (fQ v)
   have vD:=Rat.mul_le_mul_of_nonneg_left T v0
   have cv:=Rat.mul_le_mul_of_nonneg_left Q v0
   have w:c*fQ v-fQ x=(c-d)*fQ v+(fQ v*d-fQ x):=by grind
   have M:=au ((c-d)*fQ v);have N:=au (fQ v*d-fQ x)
   have t:=bU (x:=c*fQ v-fQ x) (y:=ab ((c-d)*fQ v)+ab (fQ v*d-fQ x)) (by grind) (by grind)
   have U:ab ((c-d)*fQ v)=ab (fQ v)*ab (c-d):=by rw[aK];grind
   rw[U]at t
   have hu:9007199254740992*ab (c*fQ v-fQ x)≤304*ab (fQ x)+304*κ:=by
    have z0:=bK (fQ v*d-fQ x)
    have q1:ab (fQ v)*(9007199254740991*ab D)=9007199254740991*(ab (fQ v)*ab D):=by grind
    have q2:ab (fQ v)*(9007199254740992*ab d)=9007199254740992*(ab (fQ v)*ab d):=by grind
    have q3:ab (fQ v)*(9007199254740992*ab (c-d))=9007199254740992*(ab (fQ v)*ab (c-d)):=by grind
    have q4:ab (fQ v)*(301*ab D)=301*(ab (fQ v)*ab D):=by grind
    rw[q1,q2]at vD
    rw[q3,q4]at cv
    clear M N w U q1 q2 q3 q4 i ih O I J L V Y Q T
    generalize ab (fQ v)*ab D=VD at*
    generalize ab (fQ v)*ab d=Vd at*
    generalize ab (fQ v)*ab (c-d)=Vc at*
    generalize ab (fQ v*d-fQ x)=z at*
    generalize ab (c*fQ v-fQ x)=y at*
    generalize ab (fQ x)=X at*
    grind
   have y0:=bK (c*fQ v-fQ x)
   have ey:(c*fQ v-fQ x)*(c*fQ v-fQ x)=ab (c*fQ v-fQ x)*ab (c*fQ v-fQ x):=by rw[←aK];exact(aQ (al _)).symm
   have ex:fQ x*fQ x=ab (fQ x)*ab (fQ x):=by rw[←aK];exact(aQ (al _)).symm
   rw[ey,ex]
   clear vD cv t vd w U M N h1 I J L ey ex ih O Q T V Y
   generalize ab (c*fQ v-fQ x)=y at*
   generalize ab (fQ x)=X at*
   have m1:=Rat.mul_nonneg (show 0≤304*X+304*κ-9007199254740992*y by grind) (show 0≤304*X+304*κ+9007199254740992*y by grind)
   have m2:=Rat.mul_nonneg (show 0≤μ-17592186044416*κ by grind) Z
   have m3:=Rat.mul_nonneg (show 0≤1001*μ-1000*X by grind) (Rat.le_of_lt G)
   have m4:=Rat.mul_nonneg (show 0≤μ-17592186044416*κ by grind) H
   have m5:=Rat.mul_nonneg (show 0≤μ-17592186044416*κ by grind) (Rat.le_of_lt G)
   have m6:=Rat.mul_nonneg H Z
   have m7:=al μ
   have m8:=al κ
   generalize Ck c F l=E at*
   generalize aJ l=SS at*
   generalize (l.length:Rat)*(1/1000*(μ*μ))=LL at*
   grind
theorem I5(a:Nat)(d:List Nat)(hl:(a::d).length≤6)(J:cI (p2 290) (a::d))(t:p2 (-290)≤fQ (aX (a::d)))(hn:kP d=false):
  ∃I,cu (a::d)=4607182418800017408::I∧I.length=d.length∧
   81129638414606681695789005144064*((fQ (gv (a::d))-(fQ a-fQ (dr (a::d))*(fQ a+dC I d)))*(fQ (gv (a::d))-(fQ a-fQ (dr (a::d))*(fQ a+dC I d)))+Ck (fQ (dr (a::d))*(fQ a+dC I d)) I d)≤372100*(fQ (aX (a::d))*fQ (aX (a::d))):=by
 have L:cI (p2 300) (a::d):=J.mono (aA (by decide))
 have U:bS 0 (a::d)≠0:=by
  intro e
  rw[kw e,ix]at t
  have:=aw (-290)
  grind
 obtain⟨k,F⟩:∃k,eX (bS 0 (a::d))=k:=⟨_,rfl⟩
 have V:jV (k.natAbs+1) (a::d):=⟨fun x h=>⟨(J x h).1,(J x h).2.1⟩,.inr ⟨by rw[F];omega,by rw[F];omega⟩⟩
 obtain⟨b1,b2,b3,b4,b5,b6,b7,b8,y,hy,b9,ap⟩:=gz _ (a::d) V U
 have hM:=jv _ (by omega) b2 b3
 rw[F,aQ (ju _ b4)]at hM
 have M:=(J y hy).2.2
 rw[b9]at M
 have k1:k≤290:=mz (Rat.le_trans hM.1 M)
 obtain⟨nf,up⟩:=jy _ (a::d) (by omega) V U (by rw[F];omega)
 rw[F]at up
 have ad:-296≤k:=by
  rcases Int.lt_or_le k (-296)with g|g
  ·exfalso
   have q1:=aA (show k≤-297 by omega)
   have q2:p2 (-290)=128*p2 (-297):=by rw[show(-290:Int)= -297+((7:Nat):Int) by rfl,dG];rfl
   have q3:=aA (show(-1074:Int)≤-297 by decide)
   have q4:=aw (-297)
   have l:=au (fQ (aX (a::d)))
   grind
  ·exact g
 have N:jV 300 (a::d):=⟨V.1,.inr ⟨by rw[F];omega,by rw[F];omega⟩⟩
 have nl:=lu (a::d)
 obtain⟨s1,s2⟩:=tG a d
 have pν:=aw (-290)
 have nk:fK (aX (a::d))≠0:=fun e=>by rw[bu _ e]at t;grind
 have aa:ah (da a d)=true∧fK (da a d)≠0∧((fQ (da a d)=fQ (aX (a::d))∧fQ a≤0)∨(fQ (da a d)= -fQ (aX (a::d))∧0≤fQ a)):=by
  unfold da
  by_cases e:rW (a::d)=true
  ·rw[if_pos e];exact⟨nf,nk,.inl ⟨rfl,s1 e⟩⟩
  ·rw[if_neg e]
   exact⟨(gY _ nl).trans nf,fun g=>nk ((Jk _ nl).symm.trans g),.inr ⟨mv _ nl,s2 (by simpa using e)⟩⟩
 obtain⟨q1,q2,q3⟩:=aa
 obtain⟨f1,f2,f3,f4,f5,f6,f7,f8,X,G,T⟩:=kO a (da a d) (gS a d) (dV (aV (da a d) (fN a)) (da a d)) d (d.map (fun x=>dV x (gS a d))) (by omega) N U (gT a d) q1 q2 q3 rfl rfl rfl
 have D:¬kP d=true:=by rw[hn];decide
 have e1:dr (a::d)=dV (aV (da a d) (fN a)) (da a d):=if_neg D
 have e2:cu (a::d)=4607182418800017408::d.map (fun x=>dV x (gS a d)):=by
  show 4607182418800017408::d.map (fun x=>if kP d=true then 0 else dV x (gS a d))=_
  congr 1
  exact List.map_congr_left (fun x _=>if_neg D)
 have e3:gv (a::d)=da a d:=if_neg D
 refine⟨_,e2,by simp,?_⟩
 rw[e1,e3]
 obtain⟨n1,n2,n3,Z⟩:=io (a::d) hl L
 obtain⟨μ,hμ⟩:∃μ,fQ (aX (a::d))=μ:=⟨_,rfl⟩
 rw[hμ]at G n2 n3 Z t⊢
 have O:0<μ:=by grind
 have a1:=Z a List.mem_cons_self
 have ae:ab (fQ a-fQ (da a d))≤3*μ:=by rw[X,G];grind
 obtain⟨κ,H⟩:∃κ,18014398509481984*(p2 (-1075)*ab (fQ (gS a d)))=κ:=⟨_,rfl⟩
 have ai:ab (fQ (gS a d))≤4*μ:=by
  have l:=au (fQ (gS a d)-(fQ a-fQ (da a d)));have l2:=au (fQ a-fQ (da a d))
  have tt:=bU (x:=fQ (gS a d)) (y:=ab (fQ (gS a d)-(fQ a-fQ (da a d)))+ab (fQ a-fQ (da a d))) (by grind) (by grind)
  generalize ab (fQ (gS a d)-(fQ a-fQ (da a d)))=z at*
  generalize ab (fQ a-fQ (da a d))=z2 at*
  clear l l2 X
  grind
 have κ0:0≤κ:=by
  rw[←H]
  have:=Rat.mul_nonneg (Rat.le_of_lt (aw (-1075))) (bK (fQ (gS a d)))
  grind
 have κs:17592186044416*κ≤μ:=by
  obtain⟨g1,g2,g3⟩:=fm
  have m:=Rat.mul_le_mul_of_nonneg_left g1 (bK (fQ (gS a d)))
  rw[←H]
  have e:ab (fQ (gS a d))*(1267650600228229401496703205376*p2 (-1075))=1267650600228229401496703205376*(p2 (-1075)*ab (fQ (gS a d))):=by grind
  rw[e]at m
  have z0:=Rat.mul_nonneg (Rat.le_of_lt g2) (bK (fQ (gS a d)))
  generalize p2 (-1075)*ab (fQ (gS a d))=K at*
  grind
 rw[H]at f7
 have rest:=Cc (fQ (dV (aV (da a d) (fN a)) (da a d))*(fQ a+dC (d.map (fun x=>dV x (gS a d))) d)) (fQ (gS a d)) (fQ a-fQ (da a d)) μ κ O κ0 κs T f8 _ d f7 (fun x hx=>Z x (List.mem_cons_of_mem _ hx))
 --the first
 generalize hc:fQ (dV (aV (da a d) (fN a)) (da a d))*(fQ a+dC (d.map (fun x=>dV x (gS a d))) d)=c at*
 have eF:fQ (da a d)-(fQ a-c)=c-(fQ a-fQ (da a d)):=by grind
 rw[eF]
 have Q:(c-(fQ a-fQ (da a d)))*(c-(fQ a-fQ (da a d)))=ab (c-(fQ a-fQ (da a d)))*ab (c-(fQ a-fQ (da a d))):=by rw[←aK];exact(aQ (al _)).symm
 rw[Q]
 rw[X,G]at T
 have y0:=bK (c-(fQ a-fQ (da a d)))
 have A0:=bK (fQ a)
 have es:aJ (a::d)=ab (fQ a)*ab (fQ a)+aJ d:=by
  show fQ a*fQ a+aJ d=_
  rw[←aK,aQ (al _)]
 rw[es]at n3
 have S0:=bw d
 have l:=au (μ*μ-(ab (fQ a)*ab (fQ a)+aJ d))
 have am:(d.length:Rat)*(1/1000*(μ*μ))≤6*(1/1000*(μ*μ)):=by
  have ao:(d.length:Rat)≤6:=Rat.natCast_le_natCast.2 (show d.length≤6 by rw[List.length_cons]at hl;omega)
  have:=Rat.mul_nonneg (show 0≤6-(d.length:Rat) by grind) (al μ)
  grind
 have tz:1000000*p2 (-1700)≤μ*μ:=by
  have h1:=Rat.mul_nonneg (show 0≤μ-p2 (-290) by grind) (show 0≤μ+p2 (-290) by grind)
  have e5:p2 (-580)=p2 (-290)*p2 (-290):=by rw[←nO];rfl
  have e6:p2 (-1680)=1048576*p2 (-1700):=by rw[show(-1680:Int)= -1700+((20:Nat):Int) by rfl,dG];rfl
  have e7:=aA (show(-1680:Int)≤-580 by decide)
  have e8:=aw (-1700)
  grind
 clear V N J L hM b7 b8 Z f5 f7 q3 s1 s2 up Q eF es hc X f8 U
 generalize ab (c-(fQ a-fQ (da a d)))=Y at*
 generalize ab (fQ a)=A at*
 generalize Ck c (d.map (fun x=>dV x (gS a d))) d=E at*
 generalize aJ d=SS at*
 generalize (d.length:Rat)*(1/1000*(μ*μ))=LL at*
 generalize ab (μ*μ-(A*A+SS))=z at*
 have m1:=Rat.mul_nonneg (show 0≤300*(A+μ)-9007199254740992*Y by grind) (show 0≤300*(A+μ)+9007199254740992*Y by grind)
 have m2:=Rat.mul_nonneg (show 0≤1001*μ-1000*A by grind) (Rat.le_of_lt O)
 have m3:=al μ
 have m4:=al A
 generalize p2 (-1700)=tt at*
 grind
theorem FA{n:Nat}{d:List ((Nat→Rat)×Rat)}(D:xC n (1/8796093022208) d)(v:Nat→Rat)(t:Rat)(h:zF n v t (1/8796093022208)∨t=0):
  ∃z,xC n (1/8796093022208) z∧z.length≤d.length+1∧∀x i,bJ n z x i=dE n v t (bJ n d x) i:=by
 rcases h with h|h
 ·refine⟨d++[(v,t)],fun m l=>?_,by simp,fun x i=>by rw[yj];rfl⟩
  rcases List.mem_append.1 l with g|g
  ·exact D m g
  ·rw[List.mem_singleton.1 g];exact h
 ·refine⟨d,D,Nat.le_succ _,fun x i=>?_⟩
  unfold dE
  rw[h]
  grind
theorem I6{n:Nat}{v:Nat→Rat}{t a:Rat}{y:Nat→Rat}(h:zF n v t (1/8796093022208)∨t=0)(d:Bd n y a):Bd n (dE n v t y) ((1+2*(1/8796093022208))*a):=by
 rcases h with h|h
 ·exact h.bd d
 ·have l:=d.1
  refine(d.congr (fun i _=>?_)).mono (by grind)
  unfold dE
  rw[h]
  grind
theorem tM{n:Nat}{v:Nat→Rat}{t e δ:Rat}{d l:List ((Nat→Rat)×Rat)}{x y z:Nat→Rat}(h:zF n v t (1/8796093022208)∨t=0)(D:∀x i,bJ n l x i=dE n v t (bJ n d x) i)
  (F:Bd n (fun i=>y i+(-1)*bJ n d x i) e) (G:Bd n (fun i=>z i+(-1)*dE n v t y i) δ):Bd n (fun i=>z i+(-1)*bJ n l x i) (δ+(1+2*(1/8796093022208))*e):=by
 refine(G.add (I6 h F)).congr (fun i H=>?_)
 rw[D,zD,zE]
 grind
def cv(c:Nat)(T:List Nat)(r k:Nat):Nat→Rat:=fc (bf c T 0 r k)
theorem gh(c:Nat)(T:List Nat)(r k:Nat){i:Nat}(d:i<r):cv c T r k i=fQ (cj c T i k):=by
 unfold cv fc
 rw[iE c T 0 r k d,Nat.zero_add]
theorem yQ(c:Nat)(T:List Nat)(r k:Nat){i:Nat}(d:r≤i):cv c T r k i=0:=by
 unfold cv fc
 rw[List.getD_eq_getElem?_getD,List.getElem?_eq_none (by rw[aL];exact d)]
 exact ix
theorem FB(c:Nat)(T:List Nat){j r:Nat}(k:Nat)(t:j≤r):(bf c T 0 r k).drop j=bf c T j (r-j) k:=by
 refine List.ext_getElem (by rw[List.length_drop,aL,aL]) (fun i z d=>?_)
 rw[aL]at d
 have h:=iE c T 0 r k (j:=j+i) (by omega)
 have l:=iE c T j (r-j) k d
 rw[List.getD_eq_getElem?_getD,List.getElem?_eq_getElem (by rw[aL];omega)]at h
 rw[List.getD_eq_getElem?_getD,List.getElem?_eq_getElem (by rw[aL];exact d)]at l
 simp only[Option.getD_some]at h l
 rw[List.getElem_drop,h,l,Nat.zero_add]
theorem tN(c:Nat)(T:List Nat){j r:Nat}(k:Nat)(t:j≤r):dt r (xH j (cv c T r k)) (xH j (cv c T r k))=aJ (bf c T j (r-j) k):=by
 have e:=vu j (r-j) (bf c T j (r-j) k) (vl j (bf c T j (r-j) k))
 rw[show j+(r-j)=r by omega]at e
 rw[←k9,aL]
 have l:dt r (xH j (cv c T r k)) (xH j (cv c T r k))=dt r (vl j (bf c T j (r-j) k)) (vl j (bf c T j (r-j) k)):=by
  have d:∀i,i<r→xH j (cv c T r k) i=vl j (bf c T j (r-j) k) i:=fun i h=>by
   unfold xH vl
   split
   ·rfl
   ·rename_i g
    rw[gh c T r k h]
    unfold fc
    rw[iE c T j (r-j) k (by omega),show j+(i-j)=i by omega]
  exact dp d d
 rw[l,e]
 refine dp (fun _ _=>rfl) (fun i h=>?_)
 unfold vl
 rw[if_neg (by omega),show j+i-j=i by omega]
theorem yR{r c:Nat}{W:List Nat}(h:gD (p2 290) r c W)(Y:r≤6){j k:Nat}(Z:j+1<r)(t:j<c)(G:j<k)(z:k<c){B:Rat}(H:Bd r (cv c W r k) B)(I:1/100≤B)(J:B≤100):
  Bd r (fun i=>cv c (jI r c W j) r k i+(-1)*dE r (vl j (cu (bD r c W j))) (fQ (dr (bD r c W j))) (cv c W r k) i) (288/9007199254740992*B):=by
 have M:(bD r c W j).length=r-j:=aL _ _ _ _ _
 have lV:(cu (bD r c W j)).length=r-j:=by rw[eH,M]
 have N:cI (p2 290) (bD r c W j):=h.col (by omega) t
 obtain⟨c1,U,V,X,c5,c6⟩:=gO (bD r c W j) (by omega) (N.mono (aA (by decide)))
 have l:(bf c W 0 r k).length=r:=aL _ _ _ _ _
 have O:=Jq (bf c W 0 r k) j (by omega) B (by rw[l];exact H)
 have D:=vx j (dr (bD r c W j)) (5/2*B) (cu (bD r c W j)) (bf c W 0 r k) (by omega) (by rw[l,lV];omega) U V X (fun y L=>((h.col (i:=0) (n:=r) (by omega) z) y L).2.1) O
  (by have:=aA (show(8:Int)≤900 by decide);have e:p2 8=256:=(by rw[show(8:Int)=((8:Nat):Int) by rfl,cR];rfl);grind)
  (by have:=pP (-10) (by decide)
      have e:1024*p2 (-10)=1:=by have:=dG (-10) 10;rw[show(-10:Int)+((10:Nat):Int)=0 by rfl,kF]at this;have Q:((2^10:Nat):Rat)=1024:=rfl;rw[Q]at this;exact this.symm
      grind)
 rw[l]at D
 refine(D.congr (fun i d=>?_)).mono (by grind)
 have e:fc ((bf c W 0 r k).take j++mU (mV (dr (bD r c W j)) (eh 0 (cu (bD r c W j)) ((bf c W 0 r k).drop j))) (cu (bD r c W j)) ((bf c W 0 r k).drop j)) i=cv c (jI r c W j) r k i:=by
  rw[gh _ _ _ _ d]
  unfold jI
  rw[j5 r c _ j _ d z,if_neg (fun e=>by omega),mH r c W j j _ _ d z,FB c W k (by omega)]
  have T:((bf c W 0 r k).take j).length=j:=by rw[List.length_take,l];omega
  rcases Nat.lt_or_ge i j with g|g
  ·rw[if_neg (fun e=>by omega),zM _ _ i (by omega),zN _ j i g]
   exact gh c W r k d
  ·rw[if_pos ⟨by omega,g,by rw[lV];omega⟩]
   have F:=vw ((bf c W 0 r k).take j) (mU (mV (dr (bD r c W j)) (eh 0 (cu (bD r c W j)) (bf c W j (r-j) k))) (cu (bD r c W j)) (bf c W j (r-j) k)) (i-j)
   rw[T,show j+(i-j)=i by omega]at F
   rw[F]
   unfold wK fc
   rw[lV]
 rw[e]
 rfl
theorem qt{r c:Nat}(W:List Nat){j k:Nat}(l:k<j)(h:j<c){i:Nat}(d:i<r):cv c (jI r c W j) r k i=cv c W r k i:=by
 rw[gh _ _ _ _ d,gh _ _ _ _ d]
 unfold jI
 rw[j5 r c _ j _ d (by omega),if_neg (fun e=>by omega),mH r c W j j _ _ d (by omega),if_neg (fun e=>by omega)]
theorem FC(q:Rat):∀(l d:List Nat),l.length=d.length→Ck q l d=sm d.length (fun i=>(q*fc l i-fc d i)*(q*fc l i-fc d i))
 | [],[],_=>rfl
 | [],_::_,h=>by simp at h
 |_::_,[],h=>by simp at h
 |v::l,x::d,h=>by
  show(q*fQ v-fQ x)*(q*fQ v-fQ x)+Ck q l d=sm (d.length+1) _
  rw[FC q l d (by simpa using h),mA]
  rfl
theorem FD{r c:Nat}{W:List Nat}(h:gD (p2 290) r c W)(r6:r≤6){j:Nat}(hj:j+1<r)(H:j<c)(L:p2 (-290)≤fQ (aX (bD r c W j))):
  Bd r (fun i=>cv c (jI r c W j) r j i+(-1)*dE r (vl j (cu (bD r c W j))) (fQ (dr (bD r c W j))) (cv c W r j) i) (610/9007199254740992*fQ (aX (bD r c W j))):=by
 have O:(bD r c W j).length=r-j:=aL _ _ _ _ _
 have Q:cI (p2 290) (bD r c W j):=h.col (by omega) H
 have T:0<fQ (aX (bD r c W j)):=by have:=aw (-290);grind
 obtain⟨a,d,G⟩:∃a d,bD r c W j=a::d:=by
  cases hq:bD r c W j with
  |nil=>rw[hq]at O;simp at O;omega
  |cons a d=>exact⟨a,d,rfl⟩
 have aa:d.length+1=r-j:=by rw[←O,G];rfl
 --the column from row j on
 have M:∀i,i<r-j→cv c W r j (j+i)=fc (a::d) i:=fun i t=>by
  rw[gh _ _ _ _ (show j+i<r by omega),←G]
  unfold fc bD
  rw[iE c W j (r-j) j t]
 have U:∀i,i<r-j→cv c (jI r c W j) r j (j+i)=if i=0 then fQ (gv (a::d))else 0:=fun i t=>by
  rw[gh _ _ _ _ (show j+i<r by omega)]
  unfold jI
  rw[j5 r c _ j _ (show j+i<r by omega) H,if_pos ⟨rfl,by omega,by omega⟩,G]
  rcases Nat.eq_zero_or_pos i with g|g
  ·rw[if_pos (by omega),if_pos g]
  ·rw[if_neg (by omega),if_neg (by omega),ix]
 have nb:∀i,i<j→cv c (jI r c W j) r j i=cv c W r j i:=fun i t=>by
  rw[gh _ _ _ _ (show i<r by omega),gh _ _ _ _ (show i<r by omega)]
  unfold jI
  rw[j5 r c _ j _ (show i<r by omega) H,if_neg (fun e=>by omega),mH r c W j j _ _ (show i<r by omega) H,if_neg (fun e=>by omega)]
 rw[G]at L T Q⊢
 have V:dt r (vl j (cu (a::d))) (cv c W r j)=dC (cu (a::d)) (a::d):=by
  have e:=vu j (r-j) (cu (a::d)) (cv c W r j)
  rw[show j+(r-j)=r by omega]at e
  rw[e,←Jp _ _ (eH _),eH]
  have:(a::d).length=r-j:=by rw[List.length_cons];omega
  rw[this]
  exact dp (fun _ _=>rfl) (fun i t=>M i t)
 have I:∀i,i<j→cv c (jI r c W j) r j i+(-1)*dE r (vl j (cu (a::d))) (fQ (dr (a::d))) (cv c W r j) i=0:=fun i t=>by
  rw[nb i t]
  unfold dE vl
  rw[if_pos t]
  grind
 have F:dt r (fun i=>cv c (jI r c W j) r j i+(-1)*dE r (vl j (cu (a::d))) (fQ (dr (a::d))) (cv c W r j) i) (fun i=>cv c (jI r c W j) r j i+(-1)*dE r (vl j (cu (a::d))) (fQ (dr (a::d))) (cv c W r j) i)
   =sm (d.length+1) (fun i=>(cv c (jI r c W j) r j (j+i)+(-1)*dE r (vl j (cu (a::d))) (fQ (dr (a::d))) (cv c W r j) (j+i))*(cv c (jI r c W j) r j (j+i)+(-1)*dE r (vl j (cu (a::d))) (fQ (dr (a::d))) (cv c W r j) (j+i))):=by
  unfold dt
  have hr:r=j+(d.length+1):=by omega
  have e:=vt j (fun i=>(cv c (jI r c W j) r j i+(-1)*dE r (vl j (cu (a::d))) (fQ (dr (a::d))) (cv c W r j) i)*(cv c (jI r c W j) r j i+(-1)*dE r (vl j (cu (a::d))) (fQ (dr (a::d))) (cv c W r j) i)) (d.length+1)
  rw[←hr]at e
  rw[e,k8 j _ (fun i t=>by rw[I i t];grind)]
  grind
 refine⟨by grind,?_⟩
 rw[F,mA,U 0 (by omega),if_pos rfl]
 have J:∀i,vl j (cu (a::d)) (j+i)=fc (cu (a::d)) i:=fun i=>by unfold vl;rw[if_neg (by omega),show j+i-j=i by omega]
 have rest:sm d.length (fun i=>(cv c (jI r c W j) r j (j+(i+1))+(-1)*dE r (vl j (cu (a::d))) (fQ (dr (a::d))) (cv c W r j) (j+(i+1)))*(cv c (jI r c W j) r j (j+(i+1))+(-1)*dE r (vl j (cu (a::d))) (fQ (dr (a::d))) (cv c W r j) (j+(i+1))))
   =sm d.length (fun i=>(fQ (dr (a::d))*dC (cu (a::d)) (a::d)*fc (cu (a::d)) (i+1)-fc d i)*(fQ (dr (a::d))*dC (cu (a::d)) (a::d)*fc (cu (a::d)) (i+1)-fc d i)):=gI (fun i t=>by
  have N:=U (i+1) (by omega)
  rw[if_neg (by omega)]at N
  have X:=M (i+1) (by omega)
  have Y:=J (i+1)
  have Z:fc (a::d) (i+1)=fc d i:=rfl
  unfold dE
  rw[N,X,Y,Z,V]
  grind)
 rw[rest]
 have top:dE r (vl j (cu (a::d))) (fQ (dr (a::d))) (cv c W r j) (j+0)=fQ a-fQ (dr (a::d))*dC (cu (a::d)) (a::d):=by
  unfold dE
  have N:=J 0
  have X:=M 0 (by omega)
  have Y:fc (cu (a::d)) 0=1:=by
   have:cu (a::d)=4607182418800017408::(d.map (fun x=>if kP d=true then 0 else dV x (gS a d))):=rfl
   rw[this]
   exact k7
  have Z:fc (a::d) 0=fQ a:=rfl
  rw[N,X,Y,Z,V]
  grind
 rw[top]
 cases hn:kP d with
 |true=>
  have t0:dr (a::d)=0:=if_pos hn
  have b0:gv (a::d)=a:=if_pos hn
  have z:sm d.length (fun i=>(fQ (dr (a::d))*dC (cu (a::d)) (a::d)*fc (cu (a::d)) (i+1)-fc d i)*(fQ (dr (a::d))*dC (cu (a::d)) (a::d)*fc (cu (a::d)) (i+1)-fc d i))=aJ d:=by
   rw[←k9]
   exact gI (fun i _=>by rw[t0,ix];grind)
  rw[z,zU hn,t0,b0,ix]
  have:=al (610/9007199254740992*fQ (aX (a::d)))
  grind
 |false=>
  obtain⟨l,v1,v2,v3⟩:=I5 a d (by rw[List.length_cons];omega) Q L hn
  have ed:dC (cu (a::d)) (a::d)=fQ a+dC l d:=by
   rw[v1]
   show fQ 4607182418800017408*fQ a+dC l d=_
   rw[k7]
   grind
  have es:=FC (fQ (dr (a::d))*(fQ a+dC l d)) l d v2
  have ez:sm d.length (fun i=>(fQ (dr (a::d))*dC (cu (a::d)) (a::d)*fc (cu (a::d)) (i+1)-fc d i)*(fQ (dr (a::d))*dC (cu (a::d)) (a::d)*fc (cu (a::d)) (i+1)-fc d i))=Ck (fQ (dr (a::d))*(fQ a+dC l d)) l d:=by
   rw[es]
   refine gI (fun i _=>?_)
   have:fc (cu (a::d)) (i+1)=fc l i:=by rw[v1];rfl
   rw[ed,this]
  rw[ez,ed]
  clear es ez ed F rest top I
  generalize fQ (aX (a::d))=ν at*
  generalize Ck (fQ (dr (a::d))*(fQ a+dC l d)) l d=Es at*
  have hD:fQ (gv (a::d))+(-1)*(fQ a-fQ (dr (a::d))*(fQ a+dC l d))=fQ (gv (a::d))-(fQ a-fQ (dr (a::d))*(fQ a+dC l d)):=by grind
  rw[hD]
  clear hD
  generalize fQ (gv (a::d))-(fQ a-fQ (dr (a::d))*(fQ a+dC l d))=D at*
  clear M U nb V J h Q G
  grind
def ej(j k:Nat):Rat:=if k<j then(290*(k:Rat)+612+((j-k:Nat):Rat))/9007199254740992 else 290*(j:Rat)/9007199254740992
theorem Nt:∀k,k≤4→gw (1/8796093022208) k≤100001/100000
 |0,_=>by show(1:Rat)≤_;grind
 |1,_=>by show(1+2*(1/8796093022208))*1≤(100001/100000:Rat);grind
 |2,_=>by show(1+2*(1/8796093022208))*((1+2*(1/8796093022208))*1)≤(100001/100000:Rat);grind
 |3,_=>by show(1+2*(1/8796093022208))*((1+2*(1/8796093022208))*((1+2*(1/8796093022208))*1))≤(100001/100000:Rat);grind
 |4,_=>by show(1+2*(1/8796093022208))*((1+2*(1/8796093022208))*((1+2*(1/8796093022208))*((1+2*(1/8796093022208))*1)))≤(100001/100000:Rat);grind
theorem kA{j:Nat}(h:j≤4):(j:Rat)≤4:=Rat.natCast_le_natCast.2 h
theorem kB(j:Nat):(0:Rat)≤(j:Rat):=Rat.natCast_le_natCast.2 (Nat.zero_le j)
theorem Nu{j:Nat}(h:j≤4)(k:Nat):0≤ej j k∧9007199254740992*ej j k≤1800:=by
 unfold ej
 split
 ·rename_i g
  have d:=kA (show k≤4 by omega);have l:=kA (show j-k≤4 by omega);have t:=kB k;have z:=kB (j-k)
  grind
 ·have d:=kA h;have l:=kB j
  grind
structure sl (r c j:Nat) (v:Nat→Nat→Int) (T:List Nat) (ms:List ((Nat→Rat)×Rat)) (B:Rat):Prop where
 mirs:xC r (1/8796093022208) ms
 len:ms.length≤j
 err:∀k,k<c→Bd r (fun i=>cv c T r k i+(-1)*bJ r ms (fun i=>(v k i:Rat)) i) (ej j k*B)
 up:∀p k,p<j→p<k→k<c→1000*ab (cv c T r k p)≤1001*ab (cv c T r p p)
 big:∀p,p<j→1≤8388608*ab (cv c T r p p)
 vb:∀k,k<c→Bd r (fun i=>(v k i:Rat)) B
 low:∀k i,k<j→k<i→cv c T r k i=0
 top:0<j→1000*B≤1001*ab (cv c T r 0 0)
theorem sn(r c:Nat)(T:List Nat){j a k:Nat}(d:j<c)(h:a<c)(l:k<c):cv c (BJ r c T j a) r k=cv c T r (jJ j a k):=by
 funext i
 rcases Nat.lt_or_ge i r with g|g
 ·rw[gh _ _ _ _ g,gh _ _ _ _ g,rX r c T d h g l]
 ·rw[yQ _ _ _ _ g,yQ _ _ _ _ g]
theorem ip{j a k:Nat}(h:j≤a)(d:k<j):jJ j a k=k:=by
 unfold jJ
 rw[if_neg (by omega),if_neg (by omega)]
theorem Nv{j a k:Nat}(h:j≤a):ej j (jJ j a k)=ej j k:=by
 rcases Nat.lt_or_ge k j with g|g
 ·rw[ip h g]
 ·have:=yP h g
  unfold ej
  rw[if_neg (by omega),if_neg (by omega)]
theorem sl.swap{r c j a:Nat}{v:Nat→Nat→Int}{T:List Nat}{z:List ((Nat→Rat)×Rat)}{B:Rat}(h:sl r c j v T z B)(l:j<c)(d:j≤a)(t:a<c):sl r c j (fun k=>v (jJ j a k)) (BJ r c T j a) z B where
 mirs:=h.mirs
 len:=h.len
 err k hk:=by
  rw[sn r c T l t hk]
  have:=h.err (jJ j a k) (lH l t hk)
  rw[Nv d]at this
  exact this
 up p k hp hpk hk:=by
  rw[sn r c T l t hk,sn r c T l t (show p<c by omega),ip d hp]
  rcases Nat.lt_or_ge k j with g|g
  ·rw[ip d g];exact h.up p k hp hpk hk
  ·have:=yP d g
   exact h.up p _ hp (by omega) (lH l t hk)
 big p hp:=by rw[sn r c T l t (show p<c by omega),ip d hp];exact h.big p hp
 vb k hk:=h.vb _ (lH l t hk)
 low k i hk hi:=by rw[sn r c T l t (show k<c by omega),ip d hk];exact h.low k i hk hi
 top h0:=by rw[sn r c T l t (show 0<c by omega),ip d h0];exact h.top h0
theorem sl.size{r c j:Nat}{v:Nat→Nat→Int}{T:List Nat}{d:List ((Nat→Rat)×Rat)}{B:Rat}(h:sl r c j v T d B)(z:j≤4){k:Nat}(l:k<c):Bd r (cv c T r k) (10001/10000*B):=by
 have D:=Kv d _ _ h.mirs (h.vb k l)
 have F:=(h.err k l).add D
 have t:=(h.vb k l).1
 have g:=Nt d.length (by have:=h.len;omega)
 have e:=Nu z k
 have G:=Rat.mul_le_mul_of_nonneg_right g t
 have H:=Rat.mul_le_mul_of_nonneg_right e.2 t
 refine(F.congr (fun i _=>?_)).mono ?_
 ·show(cv c T r k i+(-1)*bJ r d (fun i=>(v k i:Rat)) i)+bJ r d (fun i=>(v k i:Rat)) i=cv c T r k i
  grind
 ·grind
theorem sl.norm{r c j:Nat}{v:Nat→Nat→Int}{T:List Nat}{J:List ((Nat→Rat)×Rat)}{B:Rat}(h:sl r c j v T J B)(L:gD (p2 290) r c T)(V:r≤6)(M:j≤4)(D:j≤r)(X:1/2≤B){k:Nat}(F:k<c):
  fQ (aX (bf c T j (r-j) k))≤10002/10000*B:=by
 have G:=Ea (j:=j) (h.size M F)
 have e:=tN c T (j:=j) (r:=r) k D
 obtain⟨n1,n2,n3,N⟩:=io (bf c T j (r-j) k) (by rw[aL];omega) ((L.col (i:=j) (n:=r-j) (by omega) F).mono (aA (by decide)))
 have d:=G.2
 rw[e]at d
 have t:p2 (-1700)≤1:=by rw[←kF];exact aA (by decide)
 have l:=au (fQ (aX (bf c T j (r-j) k))*fQ (aX (bf c T j (r-j) k))-aJ (bf c T j (r-j) k))
 have Y:=bw (bf c T j (r-j) k)
 have Z:1/4≤B*B:=by have:=Rat.mul_nonneg (show 0≤B-1/2 by grind) (show 0≤B+1/2 by grind);grind
 refine bW (by grind) ?_
 have H:10001/10000*B*(10001/10000*B)=10001/10000*(10001/10000)*(B*B):=by grind
 have I:10002/10000*B*(10002/10000*B)=10002/10000*(10002/10000)*(B*B):=by grind
 rw[H]at d
 rw[I]
 clear H I e G N
 generalize fQ (aX (bf c T j (r-j) k))*fQ (aX (bf c T j (r-j) k))=O at*
 generalize aJ (bf c T j (r-j) k)=Q at*
 generalize B*B=U at*
 generalize ab (O-Q)=z at*
 grind
theorem FF(X:List Nat)(t:X.length≤6)(F:cI (p2 290) X)(G:X≠ [])(H:p2 (-290)≤fQ (aX X)):
  1000000*(fQ (aX X)*fQ (aX X))≤1000001*(fQ (gv X)*fQ (gv X))∧1000000*(fQ (gv X)*fQ (gv X))≤1000001*(fQ (aX X)*fQ (aX X)):=by
 have d:cI (p2 300) X:=F.mono (aA (by decide))
 obtain⟨I,J,L,M,N,O⟩:=gO X t d
 obtain⟨x1,x2,x3,Q⟩:=io X t d
 have U:=aw (-290)
 have h:p2 (-580)≤fQ (aX X)*fQ (aX X):=by
  rw[show(-580:Int)= -290+-290 by rfl,nO]
  have:=Rat.mul_nonneg (show 0≤fQ (aX X)-p2 (-290) by grind) (show 0≤fQ (aX X)+p2 (-290) by grind)
  grind
 have V:p2 (-1700)≤p2 (-580):=aA (by decide)
 have Y:=aw (-1700)
 have Z:=bw X
 have l:=au (fQ (aX X)*fQ (aX X)-aJ X)
 clear Q I J L M O
 rcases N G with e|e
 ·rw[e]
  generalize fQ (aX X)*fQ (aX X)=D at*
  grind
 ·rw[e]
  generalize fQ (aX X)*fQ (aX X)=D at*
  generalize aJ X=T at*
  generalize ab (D-T)=z at*
  grind
theorem Ag(x:Rat):ab x*ab x=x*x:=by rw[←aK];exact aQ (al _)
theorem kC{r c:Nat}(W:List Nat){j k p:Nat}(l:p<j)(d:p<r)(h:k<c):cv c (jI r c W j) r k p=cv c W r k p:=by
 rw[gh _ _ _ _ d,gh _ _ _ _ d]
 unfold jI
 rw[j5 r c _ j _ d h,if_neg (fun e=>by omega),mH r c W j j _ _ d h,if_neg (fun e=>by omega)]
theorem nU{r c:Nat}(W:List Nat){j:Nat}(d:j<r)(h:j<c):cv c (jI r c W j) r j j=fQ (gv (bD r c W j)):=by
 rw[gh _ _ _ _ d]
 unfold jI
 rw[j5 r c _ j _ d h,if_pos ⟨rfl,Nat.le_refl _,d⟩,if_pos rfl]
theorem sl.step{r c j:Nat}{v:Nat→Nat→Int}{W:List Nat}{ms:List ((Nat→Rat)×Rat)}{B:Rat}(h:sl r c j v W ms B)(L:gD (p2 290) r c W)(X:r≤6)(hj:j≤3)(M:j+1<r)(l:j<c)(Y:1/2≤B)(am:B≤9)
  (Z:1≤4194400*fQ (aX (bD r c W j))) (F:∀k,j<k→k<c→fQ (aX (bf c W j (r-j) k))≤fQ (aX (bD r c W j))) (h0:j=0→10000*B≤10001*fQ (aX (bD r c W j))):
  ∃ns,sl r c (j+1) v (jI r c W j) ns B:=by
 have O:(bD r c W j).length=r-j:=aL _ _ _ _ _
 have U:cI (p2 290) (bD r c W j):=L.col (by omega) l
 have D:p2 (-290)≤fQ (aX (bD r c W j)):=by
  have e:p2 (-30)*1073741824=1:=by have:=dG (-30) 30;rw[show(-30:Int)+((30:Nat):Int)=0 by rfl,kF]at this;have H:((2^30:Nat):Rat)=1073741824:=rfl;rw[H]at this;grind
  have:=aA (show(-290:Int)≤-30 by decide)
  grind
 have aa:=h.norm L X (by omega) (by omega) Y l
 have ai:fQ (aX (bD r c W j))≤10002/10000*B:=aa
 have V:zF r (vl j (cu (bD r c W j))) (fQ (dr (bD r c W j))) (1/8796093022208)∨fQ (dr (bD r c W j))=0:=by
  rcases zW (bD r c W j) (by omega) U D with g|g
  ·left
   have sq:∀n,dt n (vl 0 (cu (bD r c W j))) (vl 0 (cu (bD r c W j)))=dt n (fc (cu (bD r c W j))) (fc (cu (bD r c W j))):=fun n=>dp (fun i _=>by unfold vl;rw[if_neg (by omega),Nat.sub_zero]) (fun i _=>by unfold vl;rw[if_neg (by omega),Nat.sub_zero])
   have e:=vu j (r-j) (cu (bD r c W j)) (vl j (cu (bD r c W j)))
   rw[show j+(r-j)=r by omega]at e
   have H:dt r (vl j (cu (bD r c W j))) (vl j (cu (bD r c W j)))=dt (bD r c W j).length (vl 0 (cu (bD r c W j))) (vl 0 (cu (bD r c W j))):=by
    rw[e,sq,O]
    exact dp (fun _ _=>rfl) (fun i _=>by unfold vl;rw[if_neg (by omega),show j+i-j=i by omega])
   obtain⟨g1,g2,g3,g4⟩:=g
   rw[←H]at g3
   exact⟨g1,g2,g3,g4⟩
  ·exact .inr g
 obtain⟨ns,n1,n2,n3⟩:=FA h.mirs (vl j (cu (bD r c W j))) (fQ (dr (bD r c W j))) V
 have jc:=kA (show j≤4 by omega)
 have j0:=kB j
 have ad:((j+1:Nat):Rat)=(j:Rat)+1:=by rw[Rat.natCast_add];rfl
 have Bp:0≤B:=by grind
 have Q:bD r c W j≠ []:=fun e=>by rw[e]at O;simp at O;omega
 have G:∀x f g:Rat,0<f→1000001*f≤1000000*g→x≤f*fQ (aX (bD r c W j))→x≤g*ab (fQ (gv (bD r c W j))):=fun x f g f0 ao hx=>by
  obtain⟨b1,_⟩:=FF (bD r c W j) (by omega) U Q D
  rw[←Ag (fQ (gv (bD r c W j)))]at b1
  have A0:=bK (fQ (gv (bD r c W j)))
  have q0:=aw (-290)
  have hc:1000000*fQ (aX (bD r c W j))≤1000001*ab (fQ (gv (bD r c W j))):=bW (by grind) (by
   have:=Rat.mul_nonneg A0 A0
   grind)
  generalize ab (fQ (gv (bD r c W j)))=A at*
  generalize fQ (aX (bD r c W j))=ν at*
  have m1:=Rat.mul_nonneg (Rat.le_of_lt f0) (show 0≤1000001*A-1000000*ν by grind)
  have m2:=Rat.mul_nonneg (show 0≤1000000*g-1000001*f by grind) A0
  grind
 refine⟨ns,n1,by have:=h.len;omega,fun k z=>?_,fun p k hp N z=>?_,fun p hp=>?_,h.vb,fun k i z hi=>?_,fun _=>?_⟩
 ·rcases Nat.lt_trichotomy k j with g|g|g
  ·have hz:Bd r (fun i=>cv c (jI r c W j) r k i+(-1)*dE r (vl j (cu (bD r c W j))) (fQ (dr (bD r c W j))) (cv c W r k) i) 0:=(Bd.nought r).congr (fun i hi=>by
    rw[Ij (EX r j _ _ (fun i _ ap=>h.low k i g (by omega))) i,qt W g l hi]
    grind)
   refine(tM V n3 (h.err k z) hz).mono ?_
   have k0:=kB k;have k4:=kA (show k≤4 by omega)
   have d0:=kB (j-k);have d4:=kA (show j-k≤4 by omega)
   have I:((j+1-k:Nat):Rat)=((j-k:Nat):Rat)+1:=by rw[show j+1-k=(j-k)+1 by omega,Rat.natCast_add];rfl
   unfold ej
   rw[if_pos g,if_pos (by omega),I]
   generalize ((j-k:Nat):Rat)=d at*
   generalize (k:Rat)=T at*
   have m:=Rat.mul_nonneg (show 0≤(290*T+612+(d+1))/9007199254740992-(1+2*(1/8796093022208))*((290*T+612+d)/9007199254740992) by grind) Bp
   grind
  ·subst g
   refine(tM V n3 (h.err k z) (FD L X M l D)).mono ?_
   unfold ej
   have I:((k+1-k:Nat):Rat)=1:=by rw[show k+1-k=1 by omega];rfl
   rw[if_neg (by omega),if_pos (by omega),I]
   generalize (k:Rat)=T at*
   have m:=Rat.mul_nonneg (show 0≤(290*T+612+1)/9007199254740992-610/9007199254740992*(10002/10000)-(1+2*(1/8796093022208))*(290*T/9007199254740992) by grind) Bp
   generalize fQ (aX (bD r c W k))=ν at*
   grind
  ·have ae:=h.size (by omega) z
   refine(tM V n3 (h.err k z) (yR L X M l g z ae (by grind) (by grind))).mono ?_
   unfold ej
   rw[if_neg (by omega),if_neg (by omega),ad]
   generalize (j:Rat)=jj at*
   have m:=Rat.mul_nonneg (show 0≤290*(jj+1)/9007199254740992-288/9007199254740992*(10001/10000)-(1+2*(1/8796093022208))*(290*jj/9007199254740992) by grind) Bp
   grind
 ·rcases Nat.lt_or_ge p j with g|g
  ·rw[kC W g (by omega) z,kC W g (by omega) (by omega)]
   exact h.up p k g N z
  ·obtain rfl:p=j:=by omega
   rw[nU W (by omega) l]
   have hY:cI (p2 290) (bf c W p (r-p) k):=L.col (by omega) z
   obtain⟨_,s2,_⟩:=Ii (bD r c W p) (bf c W p (r-p) k) (by omega) (by rw[aL,O]) U hY (F k N z)
   have s3:=s2 D
   have e:cv c (jI r c W p) r k p=fc (mU (mV (dr (bD r c W p)) (eh 0 (cu (bD r c W p)) (bf c W p (r-p) k))) (cu (bD r c W p)) (bf c W p (r-p) k)) 0:=by
    have lV:(cu (bD r c W p)).length=r-p:=by rw[eH,O]
    rw[gh _ _ _ _ (by omega)]
    unfold jI
    rw[j5 r c _ p _ (by omega) z,if_neg (fun e=>by omega),mH r c W p p _ _ (by omega) z,if_pos ⟨by omega,Nat.le_refl _,by rw[lV];omega⟩,Nat.sub_self]
    unfold wK fc
    rw[lV]
   rw[e]
   obtain⟨b1,_⟩:=FF (bD r c W p) (by omega) U Q D
   have hq:∀t:List Nat,fc t 0*fc t 0≤aJ t:=fun t=>by
    cases t with
    |nil=>show fQ 0*fQ 0≤0;rw[ix];grind
    |cons u t=>have:=bw t;show fQ u*fQ u≤fQ u*fQ u+aJ t;grind
   have q1:=hq (mU (mV (dr (bD r c W p)) (eh 0 (cu (bD r c W p)) (bf c W p (r-p) k))) (cu (bD r c W p)) (bf c W p (r-p) k))
   refine bW (by have:=bK (fQ (gv (bD r c W p)));grind) ?_
   generalize mU (mV (dr (bD r c W p)) (eh 0 (cu (bD r c W p)) (bf c W p (r-p) k))) (cu (bD r c W p)) (bf c W p (r-p) k)=t at*
   have a1:=Ag (fc t 0)
   have a2:=Ag (fQ (gv (bD r c W p)))
   have I:1000*ab (fc t 0)*(1000*ab (fc t 0))=1000000*(ab (fc t 0)*ab (fc t 0)):=by grind
   have H:1001*ab (fQ (gv (bD r c W p)))*(1001*ab (fQ (gv (bD r c W p))))=1002001*(ab (fQ (gv (bD r c W p)))*ab (fQ (gv (bD r c W p)))):=by grind
   rw[I,H,a1,a2]
   have V0:=al (fQ (aX (bD r c W p)))
   clear I H a1 a2 hq e s2 F h0
   generalize fc t 0*fc t 0=UU at*
   generalize aJ t=SS at*
   generalize fQ (gv (bD r c W p))*fQ (gv (bD r c W p))=BB at*
   generalize fQ (aX (bD r c W p))*fQ (aX (bD r c W p))=NN at*
   grind
 ·rcases Nat.lt_or_ge p j with g|g
  ·rw[kC W g (by omega) (by omega)]
   exact h.big p g
  ·obtain rfl:p=j:=by omega
   rw[nU W (by omega) l]
   exact G 1 4194400 8388608 (by grind) (by grind) Z
 ·rcases Nat.lt_or_ge i r with J|J
  ·rcases Nat.lt_or_ge k j with g|g
   ·rw[qt W g l J];exact h.low k i g hi
   ·obtain rfl:k=j:=by omega
    rw[gh _ _ _ _ J]
    unfold jI
    rw[j5 r c _ k _ J l,if_pos ⟨rfl,by omega,J⟩,if_neg (by omega),ix]
  ·exact yQ _ _ _ _ J
 ·rcases Nat.eq_zero_or_pos j with g|g
  ·subst g
   rw[nU W (by omega) l]
   have:=G (10000*B) 10001 (10010:Rat) (by grind) (by grind) (h0 rfl)
   grind
  ·rw[kC W g (by omega) (by omega)]
   exact h.top g
attribute [local go_sem ↓] Go.wp_at_zero Go.wp_at_succ
def Cl(c:Nat)(S:List Nat)(k:Nat):Bool:=NI (xV (fR (cj c S 0 0)) (-40)) (fR (cj c S k k))
def FG(r c:Nat)(S:List Nat):Nat:=((List.range (min r c)).takeWhile (Cl c S)).length
theorem eT(f:Nat→Bool):∀m k,k≤m→(∀j,j<k→f j=true)→(k=m∨f k=false)→((List.range m).takeWhile f).length=k:=by
 intro m k D t z
 have e:List.range m=List.range k++(List.range (m-k)).map (k+·):=by
  rw[←List.range_add]
  congr 1
  omega
 rw[e,List.takeWhile_append_of_pos (fun x h=>t x (List.mem_range.1 h)),List.length_append,List.length_range]
 rcases Nat.eq_zero_or_pos (m-k)with g|g
 ·rw[g];rfl
 ·obtain⟨d,l⟩:∃d,m-k=d+1:=⟨m-k-1,by omega⟩
  rw[l,List.range_succ_eq_map,List.map_cons,List.takeWhile_cons,Nat.add_zero,z.resolve_left (by omega)]
  rfl
theorem I7(a:Nat):fR a<18446744073709551616:=by unfold fR;omega
end Go.Proofs.YtmpkkhackbpflaaGreatDoor
