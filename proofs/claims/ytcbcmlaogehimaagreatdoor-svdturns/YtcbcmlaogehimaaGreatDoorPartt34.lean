/- Part 34 of the texts. -/
import Derived.Test.YtcbcmlaogehimaaGreatDoorPartt33
namespace Go.Proofs.YtcbcmlaogehimaaGreatDoor
theorem uQ(d:List Nat)(J:d.length≤64)(F:∀x∈d,x<18446744073709551616∧aj x=true)(X:∀x∈d,ab (fQ x)≤64)(h:p2 (-50)≤fQ (dj d)):rz 200 d∧bB 0 d≠0:=by
 have Y:=aE (-50)
 have D:bB 0 d≠0:=fun e=>by
  have Z:dj d=0:=by unfold dj;rw[if_pos (.inl e)];exact e
  rw[Z,bm 0 (by decide)]at h
  grind
 have K:=jV d F
 obtain⟨b1,b2,b3,b4,b5,b6,b7,b8,y,hy,b9,ao⟩:=gy 5000 d K D
 obtain⟨k,u⟩:∃k,eX (bB 0 d)=k:=⟨_,rfl⟩
 obtain⟨t1,t2⟩:=gx (bB 0 d) (by omega) b2 b3
 have aa:ab (fQ (bB 0 d))=fQ (bB 0 d):=aY (gu _ b4)
 have P6:p2 6=64:=by rw[show(6:Int)=((6:Nat):Int) by rfl,bu];rfl
 have ae:k<7:=by
  have:=X y hy
  have m:=aS (show(6:Int)≤6 by decide)
  have:p2 k<p2 7:=by
   rw[show(7:Int)=6+1 by rfl,cX,P6]
   rw[u]at t1
   grind
  exact kY this
 refine⟨⟨F,.inr ?_⟩,D⟩
 rw[u]
 refine⟨?_,by omega⟩
 rcases Int.lt_or_le k (-200)with g|g
 rotate_left
 ·exact g
 exfalso
 have ah:=aS (show(-1074:Int)≤-60 by decide)
 have am:p2 (-50)=1024*p2 (-60):=by
  rw[show(-50:Int)=10+-60 by rfl,aU,show p2 10=1024 by rw[show(10:Int)=((10:Nat):Int) by rfl,bu];rfl]
 have an:=aE (-60)
 rcases Int.lt_or_le k (-900)with g2|g2
 ·obtain⟨s,s1,s2,N,I,O,s6,s7,s8,Q⟩:=kB 5000 d J K D (by omega)
  obtain⟨r1,r2,r3,r4,r5,r6,r7⟩:=gM s N O I
  have L:s<18446744073709551616:=by
   have:=of_decide_eq_false I
   omega
  obtain⟨u1,u2⟩:=gx s L N O
  have u3:=(lh s L).2
  have u4:=aS (show eX s+1≤1026 by omega)
  have u5:ab (fQ s)=fQ s:=aY (gu _ I)
  have w:fQ (sV s)≤p2 520:=by
   rcases Rat.le_total (a:=fQ (sV s)) (b:=p2 520)with h|h
   ·exact h
   ·have v:=Rat.mul_le_mul_of_nonneg_left h r5
    have v2:=Rat.mul_le_mul_of_nonneg_left h (Rat.le_of_lt (aE 520))
    have e:p2 520*p2 520=16384*p2 1026:=by
     rw[←aU,show(520:Int)+520=14+1026 by rfl,aU,show p2 14=16384 by rw[show(14:Int)=((14:Nat):Int) by rfl,bu];rfl]
    have:=aE 1026
    rw[e]at v2
    generalize fQ (sV s)*fQ (sV s)=z at*
    grind
  have w2:=aE k
  have G:=Rat.mul_le_mul_of_nonneg_right w (Rat.le_of_lt w2)
  rw[←aU]at G
  have w4:=aS (show 520+k≤-60 by omega)
  rw[u]at Q
  have l:=br (fQ (dj d)-fQ (sV s)*p2 k)
  generalize fQ (sV s)*p2 k=z at*
  rcases Q with e|e<;>grind
 ·have H:rz 900 d:=⟨F,.inr (by rw[u];omega)⟩
  obtain⟨-,-,-,-,-,-,-,-,-,-,A,-,-,U⟩:=qA 900 (by decide) d J H D
  have w4:=aS (show k≤-60 by omega)
  have G:=Rat.mul_le_mul_of_nonneg_right A (Rat.le_of_lt (aE k))
  rw[u]at U A G
  rw[U]at h
  grind
theorem qN{x y:Rat}(D:0≤x)(z:0≤y)(h:x*x≤y*y):x≤y:=by
 rcases Rat.le_total (a:=x) (b:=y)with g|g
 ·exact g
 ·have u:=Rat.mul_le_mul_of_nonneg_left g D
  have v:=Rat.mul_le_mul_of_nonneg_right g z
  rcases Rat.le_total (a:=x) (b:=y)with A|A
  ·exact A
  ·by_cases e:x=y
   ·rw[e];exact Rat.le_refl
   ·exfalso
    have d:0<x-y:=by
     rcases Rat.le_total (a:=x-y) (b:=0)with k|k
     ·exact absurd (by grind) e
     ·by_cases F:x-y=0
      ·exact absurd (by grind) e
      ·grind
    have w:=Rat.mul_pos d (show 0<x by grind)
    have G:=Rat.mul_nonneg (Rat.le_of_lt d) z
    grind
theorem Ir(a:Nat)(h:aj a=true):aj (fR a)=true∧fQ (fR a)=ab (fQ a):=by
 have u:=iY a h
 have d:=i9 (fR a) (jg a)
 have z:fS (fR a)=false:=d.2.2
 have A:aj (fR a)=true:=(cf _).2.2.2 (by rw[d.2.1];exact u)
 refine⟨A,?_⟩
 rw[←aY (gu _ z),ge,ge,d.2.1]
theorem Av(h:Nat)(D:h<18446744073709551616)(F:aj h=true)(G:8/10≤fQ h):aj (dV 4607182418800017408 h)=true∧ab (fQ (dV 4607182418800017408 h))≤13/10:=by
 obtain⟨Y,Z,n3⟩:=dH
 have d:ab (1:Rat)=1:=aY (by grind)
 have u:ab (fQ h)=fQ h:=aY (by grind)
 have H:fK h≠0:=(pr h (by grind)).2
 have N:=aS (show(1:Int)≤1000 by decide)
 have O:p2 1=2:=by rw[show(1:Int)=((1:Nat):Int) by rfl,bu];rfl
 have Q:=Rat.mul_le_mul_of_nonneg_right (show 2≤p2 1000 by grind) (show 0≤fQ h by grind)
 obtain⟨f,e⟩:=pp 4607182418800017408 h (by decide) D jS F H (by rw[gQ,u,d];grind)
 rw[gQ,u,d]at e
 refine⟨f,?_⟩
 have k:=br (fQ (dV 4607182418800017408 h)*fQ h-1)
 have z:=cS (fQ (dV 4607182418800017408 h))
 have I:ab (fQ (dV 4607182418800017408 h))*fQ h=ab (fQ (dV 4607182418800017408 h)*fQ h):=by rw[bJ,u]
 have J:=dZ (fQ (dV 4607182418800017408 h)*fQ h-1) 1
 rw[show fQ (dV 4607182418800017408 h)*fQ h-1+1=fQ (dV 4607182418800017408 h)*fQ h by grind,←I,d]at J
 have U:=Rat.mul_le_mul_of_nonneg_left G z
 have K:=Rat.mul_le_mul_of_nonneg_right (show 1000*p2 (-1075)≤1/1000 by grind) (show 0≤fQ h by grind)
 --p2 (-1075)*h is small beside h times the number
 generalize ab (fQ (dV 4607182418800017408 h)*fQ h-1)=x1 at*
 generalize ab (fQ (dV 4607182418800017408 h))=A at*
 rcases Rat.le_total (a:=A) (b:=13/10)with g|g
 ·exact g
 ·exfalso
  have X:=Rat.mul_le_mul_of_nonneg_right g (show 0≤fQ h by grind)
  have L:1000*p2 (-1075)*fQ h=1000*(p2 (-1075)*fQ h):=by grind
  rw[L]at K
  generalize p2 (-1075)*fQ h=x3 at*
  generalize A*fQ h=x4 at*
  generalize fQ h=x5 at*
  grind
theorem Aw(z:Nat)(D:aj z=true)(K:ab (fQ z)≤p2 220):aj (uD z)=true∧ab (fQ (uD z))≤13/10:=by
 obtain⟨n1,n2,n3⟩:=dH
 have L:=gQ
 have d:=aE 220
 have B1:1000≤p2 220:=by
  have:=aS (show(10:Int)≤220 by decide)
  rw[show p2 10=1024 by rw[show(10:Int)=((10:Nat):Int) by rfl,bu];rfl]at this
  grind
 have F:p2 440=p2 220*p2 220:=by rw[←aU];rfl
 have B3:16*p2 440≤p2 1023:=by
  have:=aS (show(4+440:Int)≤1023 by decide)
  rw[aU,show p2 4=16 by rw[show(4:Int)=((4:Nat):Int) by rfl,bu];rfl]at this
  exact this
 have B4:1000≤p2 440:=by
  have:=Rat.mul_le_mul_of_nonneg_left B1 (Rat.le_of_lt d)
  rw[F];grind
 have z0:=cS (fQ z)
 have zz:=aw (fQ z)
 have z2:fQ z*fQ z≤p2 440:=by
  have u:=Rat.mul_le_mul_of_nonneg_left K z0
  have v:=Rat.mul_le_mul_of_nonneg_right K (Rat.le_of_lt d)
  rw[cH]at u
  rw[F]
  grind
 obtain⟨m,Y⟩:∃m,m=mV z z:=⟨_,rfl⟩
 obtain⟨b,A⟩:∃b,b=aV 4607182418800017408 m:=⟨_,rfl⟩
 obtain⟨r,Z⟩:∃r,r=sV b:=⟨_,rfl⟩
 have N:ab (fQ z*fQ z)=fQ z*fQ z:=aY zz
 obtain⟨G,e1⟩:=iE z z D D (by rw[N];grind)
 rw[←Y]at G e1
 rw[N]at e1
 have k1:=br (fQ m-fQ z*fQ z)
 have m1:0≤1+fQ m:=by generalize fQ z*fQ z=q at*;grind
 have m2:1+fQ m≤2*p2 440:=by generalize fQ z*fQ z=q at*;grind
 have O:ab (1+fQ m)=1+fQ m:=aY m1
 have Q:aj b=true:=by rw[A];exact g7 _ _ jS G (by rw[L,O];grind)
 have e2:=gZ _ _ jS G (by rw[←A];exact Q)
 rw[←A,L,O]at e2
 have k2:=br (fQ b-(1+fQ m))
 have b1:99/100≤fQ b∧fQ b≤3*p2 440:=by
  generalize fQ z*fQ z=q at*
  constructor<;>grind
 obtain⟨s1,s2⟩:=pr b (by grind)
 obtain⟨H,s3,l3,p3,I,e3,e4⟩:=gM b Q s2 s1
 rw[←Z]at H s3 l3 p3 I e3 e4
 have r1:9/10≤fQ r:=qN (by grind) I (by grind)
 have r2:fQ r≤2*p2 220:=qN I (by grind) (by
  rw[show 2*p2 220*(2*p2 220)=4*p2 440 by rw[F];grind]
  grind)
 obtain⟨f4,J⟩:=Ir z D
 have h:ab (fQ (fR z)+fQ r)=fQ (fR z)+fQ r:=aY (by rw[J];grind)
 have U:aj (aV (fR z) r)=true:=g7 _ _ f4 H (by
  rw[h,J]
  have:=aS (show(2+220:Int)≤1023 by decide)
  have h3:4*p2 220≤p2 1023:=by
   rw[aU,show p2 2=4 by rw[show(2:Int)=((2:Nat):Int) by rfl,bu];rfl]at this
   exact this
  grind)
 have X:=gZ _ _ f4 H U
 rw[h]at X
 have k3:=br (fQ (aV (fR z) r)-(fQ (fR z)+fQ r))
 have h8:8/10≤fQ (aV (fR z) r):=by
  rw[J]at X k3
  grind
 have hl:aV (fR z) r<18446744073709551616:=gY _ _ (by have:=jg z;omega) l3
 have:=Av _ hl U h8
 have eU:uD z=dV 4607182418800017408 (aV (fR z) r):=by unfold uD;rw[←Y,←A,←Z]
 rw[eU]
 exact this
theorem Ax(z:Nat)(D:aj z=true)(F:ab (fQ z)≤p2 220):aj (Ih z)=true∧fQ (Ih z)*fQ (Ih z)≤4:=by
 obtain⟨A,G⟩:=Aw z D F
 have d:uD z<18446744073709551616:=xO _ _
 have h:fQ (uD z)*fQ (uD z)≤4:=by
  have u:=Rat.mul_le_mul_of_nonneg_left G (cS (fQ (uD z)))
  rw[cH]at u
  grind
 unfold Ih
 split
 ·rw[jO _ d,nJ _ d]
  exact⟨A,by rw[show-fQ (uD z)* -fQ (uD z)=fQ (uD z)*fQ (uD z) by grind];exact h⟩
 ·exact⟨A,h⟩
theorem Et{a b:Nat}(d:aj a=true)(u:aj b=true)(h:kD a b=true):fQ a<fQ b:=by
 have z:=(LP d u).1 (of_decide_eq_true h)
 unfold fQ
 have A:(fZ a:Rat)<(fZ b:Rat):=Rat.intCast_lt_intCast.2 z
 exact Rat.mul_lt_mul_of_pos_right A (aE _)
theorem yI{r c:Nat}{S:List Nat}{k x:Nat}(d:x∈di r c S k):∃i,i<r∧x=aQ c S i k:=by
 unfold di Ku mz at d
 obtain⟨p,u,rfl⟩:=List.mem_map.1 d
 have h:=List.mem_range.1 u
 refine⟨p/1,by rw[Nat.div_one];omega,?_⟩
 show aQ c S (0+p/1) (k+p%1)=aQ c S (p/1) k
 rw[Nat.zero_add,Nat.mod_one,Nat.add_zero]
theorem qO:∀(d h:List Nat),(∀x∈d,ab (fQ x)≤10)→(∀y∈h,ab (fQ y)≤10)→yc d h≤(d.length:Rat)*100
 | [],_,_,_=>by
  show(0:Rat)≤((0:Nat):Rat)*100
  have:((0:Nat):Rat)=0:=rfl
  rw[this];grind
 |x::d,[],_,_=>by
  have A:yc (x::d) []=0:=rfl
  rw[A]
  exact Rat.mul_nonneg Rat.natCast_nonneg (by grind)
 |x::d,y::h,hx,hy=>by
  have F:=qO d h (fun z u=>hx z (List.mem_cons_of_mem _ u)) (fun z u=>hy z (List.mem_cons_of_mem _ u))
  have A:yc (x::d) (y::h)=ab (fQ x*fQ y)+yc d h:=rfl
  have D:((x::d).length:Rat)=(d.length:Rat)+1:=by rw[List.length_cons,Rat.natCast_add];rfl
  rw[A,D,bJ]
  have a:=Rat.mul_le_mul_of_nonneg_right (hx x List.mem_cons_self) (cS (fQ y))
  have b:=hy y List.mem_cons_self
  generalize ab (fQ x)*ab (fQ y)=z at*
  generalize (d.length:Rat)=n at*
  grind
theorem He(r c:Nat)(S:List Nat)(p q:Nat):p8 r c S p q=sJ 0 (di r c S p) (di r c S q):=by
 unfold p8
 rw[GN _ _ r (by rw[aH,bM];omega) (by rw[aH,bM];omega),lq,lq,List.take_of_length_le (by rw[bM];omega),List.take_of_length_le (by rw[bM];omega)]
theorem cn.col{r c:Nat}{S:List Nat}{B:Rat}(h:cn r c S B)(A:B≤100){k:Nat}(u:k<c):(∀x∈di r c S k,x<18446744073709551616∧aj x=true)∧∀x∈di r c S k,ab (fQ x)≤10:=by
 refine⟨fun x z=>?_,fun x z=>?_⟩
 ·obtain⟨i,d,rfl⟩:=yI z
  exact⟨h.lt i k d u,h.fin i k d u⟩
 ·obtain⟨i,d,rfl⟩:=yI z
  exact h.small A d u
theorem pu{r c:Nat}{S:List Nat}{B:Rat}(h:cn r c S B)(u:B≤100)(z:r≤6){p q:Nat}(A:p<c)(D:q<c):
  aj (p8 r c S p q)=true∧ab (fQ (p8 r c S p q))≤700∧9007199254740992*ab (fQ (p8 r c S p q)-nD (di r c S p) (di r c S q))≤12600:=by
 obtain⟨Q,U,X⟩:=dH
 obtain⟨I,J⟩:=h.col u A
 obtain⟨K,L⟩:=h.col u D
 have d:=qO _ _ J L
 rw[bM]at d
 have H:(r:Rat)≤6:=Rat.natCast_le_natCast.2 z
 have N:=aS (show(10:Int)≤1000 by decide)
 have O:p2 10=1024:=by rw[show(10:Int)=((10:Nat):Int) by rfl,bu];rfl
 obtain⟨f,e⟩:=Cs 700 (di r c S p) (di r c S q) (by rw[bM];omega) (by grind) (by grind) (fun x F=>(I x F).2) (fun y G=>(K y G).2) (by grind)
 rw[bM]at e
 rw[He]
 have l:=Jn (di r c S p) (di r c S q)
 have k:=dZ (fQ (sJ 0 (di r c S p) (di r c S q))-nD (di r c S p) (di r c S q)) (nD (di r c S p) (di r c S q))
 rw[show fQ (sJ 0 (di r c S p) (di r c S q))-nD (di r c S p) (di r c S q)+nD (di r c S p) (di r c S q)=fQ (sJ 0 (di r c S p) (di r c S q)) by grind]at k
 generalize ab (fQ (sJ 0 (di r c S p) (di r c S q))-nD (di r c S p) (di r c S q))=Y at*
 generalize ab (fQ (sJ 0 (di r c S p) (di r c S q)))=Z at*
 generalize yc (di r c S p) (di r c S q)=v3 at*
 generalize ab (nD (di r c S p) (di r c S q))=v4 at*
 generalize (r:Rat)=v5 at*
 exact⟨f,by grind,by grind⟩
theorem uR{r c low:Nat}{S:List Nat}{B:Rat}(h:cn r c S B)(H:B≤100)(hr:r≤6){k:Nat}(I:k<c)(J:aj low=true)(hl:p2 (-50)≤fQ low)(z:kD low (iI r c S k)=true):
  aj (iI r c S k)=true∧fQ low<fQ (iI r c S k)∧fQ (iI r c S k)≤p2 204∧9007199254740992*ab (fQ (iI r c S k)*fQ (iI r c S k)-bT (di r c S k))≤135*bT (di r c S k):=by
 obtain⟨F,G⟩:=h.col H I
 have e:iI r c S k=dj (di r c S k):=by unfold iI;rw[yj,lq]
 have d:(di r c S k).length≤64:=by rw[bM];omega
 have A:aj (dj (di r c S k))=true:=by
  by_cases u:bB 0 (di r c S k)=0
  ·have L:dj (di r c S k)=0:=by unfold dj;rw[if_pos (.inl u)];exact u
   rw[L];decide+kernel
  ·have D:=jV _ F
   obtain⟨b1,U,X,Y,b5,b6,b7,b8,y,Z,b9,aa⟩:=gy 5000 _ D u
   obtain⟨t1,t2⟩:=gx (bB 0 (di r c S k)) (by omega) U X
   have N:ab (fQ (bB 0 (di r c S k)))=fQ (bB 0 (di r c S k)):=aY (gu _ Y)
   have P1:=aS (show(10:Int)≤901 by decide)
   have P2:p2 10=1024:=by rw[show(10:Int)=((10:Nat):Int) by rfl,bu];rfl
   have O:eX (bB 0 (di r c S k))<901:=kY (by have:=G y Z;grind)
   obtain⟨s,-,-,-,-,-,-,-,f,-⟩:=kB 5000 _ d D u (by omega)
   exact f
 rw[e]at z⊢
 have Q:=Et J A z
 obtain⟨T,u⟩:=uQ _ d F (fun x K=>by have:=G x K;grind) (by grind)
 obtain⟨s1,s2,s3,s4,s5,s6,s7⟩:=tY _ d T u
 exact⟨A,Q,s5,s4⟩
theorem Kh{r c low:Nat}{S:List Nat}{p q:Nat}(h:uE r c low S p q=false):kD low (iI r c S p)=true∧kD low (iI r c S q)=true∧kD (xV (mV (iI r c S p) (iI r c S q)) (-44)) (fR (p8 r c S p q))=true:=by
 unfold uE at h
 revert h
 cases kD low (iI r c S p)<;>cases kD low (iI r c S q)<;>cases kD (xV (mV (iI r c S p) (iI r c S q)) (-44)) (fR (p8 r c S p q))<;>simp
theorem Eu(a b:Nat)(O:aj a=true)(Q:aj b=true)(G:p2 (-50)≤fQ a∧fQ a≤p2 204)(H:p2 (-50)≤fQ b∧fQ b≤p2 204):
  aj (xV (mV a b) (-44))=true∧p2 (-200)≤fQ (xV (mV a b) (-44))∧fQ (xV (mV a b) (-44))=fQ (mV a b)*p2 (-44)∧9007199254740992*ab (fQ (mV a b)-fQ a*fQ b)≤2*(fQ a*fQ b)∧aj (mV a b)=true:=by
 obtain⟨n1,n2,n3⟩:=dH
 have z:=aE (-50);have h:=aE 204
 have u:=Rat.mul_le_mul_of_nonneg_left G.2 (show 0≤fQ b by grind)
 have v:=Rat.mul_le_mul_of_nonneg_right H.2 (Rat.le_of_lt h)
 have w:=Rat.mul_le_mul_of_nonneg_left G.1 (show 0≤fQ b by grind)
 have x:=Rat.mul_le_mul_of_nonneg_right H.1 (Rat.le_of_lt z)
 have U:p2 204*p2 204=p2 408:=by rw[←aU];rfl
 have X:p2 (-50)*p2 (-50)=p2 (-100):=by rw[←aU];rfl
 rw[U]at v;rw[X]at x
 have lo:p2 (-100)≤fQ a*fQ b:=by rw[Rat.mul_comm (fQ a)];exact Rat.le_trans x w
 have hi:fQ a*fQ b≤p2 408:=by rw[Rat.mul_comm (fQ a)];exact Rat.le_trans u v
 have I:=aE (-100)
 have J:ab (fQ a*fQ b)=fQ a*fQ b:=aY (by grind)
 have Y:=aS (show(2+408:Int)≤1023 by decide)
 rw[aU,show p2 2=4 by rw[show(2:Int)=((2:Nat):Int) by rfl,bu];rfl]at Y
 have K:=aE 408
 obtain⟨f,e⟩:=iE a b O Q (by rw[J];grind)
 rw[J]at e
 have m2:=aS (show(-1075:Int)≤-53+-100-53 by decide)
 have A:9007199254740992*p2 (-1075)≤p2 (-100):=by
  have L:=aS (show(53+-1075:Int)≤-100 by decide)
  rw[aU,show p2 53=9007199254740992 by rw[show(53:Int)=((53:Nat):Int) by rfl,bu];rfl]at L
  exact L
 have Z:9007199254740992*ab (fQ (mV a b)-fQ a*fQ b)≤2*(fQ a*fQ b):=by grind
 have l:=br (fQ (mV a b)-fQ a*fQ b)
 have g1:p2 (-100)≤2*fQ (mV a b):=by grind
 have g2:fQ (mV a b)≤2*p2 408:=by grind
 have D:p2 (-100)*p2 (-44)=p2 (-144):=by rw[←aU];rfl
 have F:=aE (-44)
 have y1:=Rat.mul_le_mul_of_nonneg_right g1 (Rat.le_of_lt F)
 rw[D]at y1
 have d:=aS (show(-44:Int)≤0 by decide)
 rw[ji]at d
 have y2:=Rat.mul_le_mul_of_nonneg_left d (show 0≤fQ (mV a b) by grind)
 have N:ab (fQ (mV a b))=fQ (mV a b):=aY (by grind)
 have m4:=aS (show(1+-1022:Int)≤-144 by decide)
 have m5:=aS (show(1+-200:Int)≤-144 by decide)
 rw[aU,zH]at m4 m5
 obtain⟨z1,z2⟩:=g6 (mV a b) (-44) (de _ _) f (by rw[N];grind) (by rw[N];grind)
 exact⟨z1,by rw[z2];grind,z2,Z,f⟩
theorem yJ{r c low:Nat}(z:r≤6)(Q:aj low=true)(U:p2 (-50)≤fQ low):ig r c low:=by
 intro S p q h J K hB
 obtain⟨B1,B2,B3⟩:=Kh hB
 have H:=(Rat.le_refl:(100:Rat)≤100)
 obtain⟨f1,n1,u1,_⟩:=uR h H z J Q U B1
 obtain⟨f2,n2,u2,_⟩:=uR h H z K Q U B2
 obtain⟨f3,l3,_⟩:=Eu _ _ f1 f2 ⟨by grind,u1⟩ ⟨by grind,u2⟩
 obtain⟨I,g2,_⟩:=pu h H z J K
 obtain⟨x1,x2,_⟩:=pu h H z J J
 obtain⟨y1,y2,_⟩:=pu h H z K K
 obtain⟨a1,a2⟩:=Ir _ I
 have b3:=Et f3 a1 B3
 rw[a2]at b3
 unfold iJ
 have L:=pi r c S p p;have ly:=pi r c S q q;have X:=pi r c S p q
 generalize p8 r c S p q=g at*
 generalize p8 r c S p p=d at*
 generalize p8 r c S q q=u at*
 clear f1 f2 f3 n1 n2 B1 B2 B3 hB
 have A:p2 10=1024:=by rw[show(10:Int)=((10:Nat):Int) by rfl,bu];rfl
 have P1:=aS (show(2+10:Int)≤1023 by decide)
 rw[aU,A,show p2 2=4 by rw[show(2:Int)=((2:Nat):Int) by rfl,bu];rfl]at P1
 --what stands above
 have N:fQ (fN d)= -fQ d:=nJ d L
 have Y:aj (fN d)=true:=by rw[jO _ L];exact x1
 have t1:=dZ (fQ u) (fQ (fN d))
 rw[N,kt]at t1
 have Z:=g7 u (fN d) y1 Y (by rw[N];grind)
 have ea:=gZ u (fN d) y1 Y Z
 rw[N]at ea
 have t2:=dZ (fQ (aV u (fN d))-(fQ u+-fQ d)) (fQ u+-fQ d)
 rw[show fQ (aV u (fN d))-(fQ u+-fQ d)+(fQ u+-fQ d)=fQ (aV u (fN d)) by grind]at t2
 have sa:ab (fQ (aV u (fN d)))≤2000:=by
  generalize ab (fQ (aV u (fN d))-(fQ u+-fQ d))=v1 at*
  generalize ab (fQ u+-fQ d)=v2 at*
  generalize ab (fQ u)=v3 at*
  generalize ab (fQ d)=v4 at*
  generalize ab (fQ (aV u (fN d)))=v5 at*
  grind
 --and below
 have t3:=dZ (fQ g) (fQ g)
 have fd:=g7 g g I I (by grind)
 have ed:=gZ g g I I fd
 have t4:=dZ ((fQ g+fQ g)-fQ (aV g g)) (fQ (aV g g))
 rw[show fQ g+fQ g-fQ (aV g g)+fQ (aV g g)=2*fQ g by grind,bJ,show ab 2=2 from aY (by grind),vZ]at t4
 have sd:ab (fQ g)≤ab (fQ (aV g g)):=by
  have e:ab (fQ g+fQ g)=2*ab (fQ g):=by rw[show fQ g+fQ g=2*fQ g by grind,bJ,show ab 2=2 from aY (by grind)]
  rw[e]at ed
  have:=cS (fQ g)
  generalize ab (fQ (aV g g)-(fQ g+fQ g))=v1 at*
  generalize ab (fQ (aV g g))=v2 at*
  generalize ab (fQ g)=v3 at*
  grind
 have aa:=aE (-200)
 have O:p2 (-200)≤ab (fQ (aV g g)):=by grind
 have kd:fK (aV g g)≠0:=fun e=>by
  rw[bm _ e,jT]at O
  grind
 have ld:aV g g<18446744073709551616:=gY _ _ X X
 have la:aV u (fN d)<18446744073709551616:=gY _ _ ly (nQ _ L)
 have D:p2 1000*p2 (-200)=p2 800:=by rw[←aU];rfl
 have F:=aS (show(1+10:Int)≤800 by decide)
 rw[aU,A,zH]at F
 have w1:=Rat.mul_le_mul_of_nonneg_left O (Rat.le_of_lt (aE 1000))
 rw[D]at w1
 obtain⟨fz,ez⟩:=pp (aV u (fN d)) (aV g g) la ld Z fd kd (by grind)
 have zz:LN d u g=dV (aV u (fN d)) (aV g g):=rfl
 rw[zz]
 refine Ax _ fz ?_
 have t5:=dZ (fQ (dV (aV u (fN d)) (aV g g))*fQ (aV g g)-fQ (aV u (fN d))) (fQ (aV u (fN d)))
 rw[show fQ (dV (aV u (fN d)) (aV g g))*fQ (aV g g)-fQ (aV u (fN d))+fQ (aV u (fN d))=fQ (dV (aV u (fN d)) (aV g g))*fQ (aV g g) by grind,bJ]at t5
 have s2:ab (fQ (aV g g))≤2000:=by
  have t6:=dZ (fQ (aV g g)-(fQ g+fQ g)) (fQ g+fQ g)
  rw[show fQ (aV g g)-(fQ g+fQ g)+(fQ g+fQ g)=fQ (aV g g) by grind]at t6
  grind
 have s3:=Rat.mul_le_mul_of_nonneg_left s2 (show 0≤p2 (-1075) by exact Rat.le_of_lt (aE _))
 obtain⟨k1,k2,k3⟩:=dH
 have s4:=Rat.mul_le_mul_of_nonneg_left O (cS (fQ (dV (aV u (fN d)) (aV g g))))
 have s5:ab (fQ (dV (aV u (fN d)) (aV g g)))*p2 (-200)≤3000:=by
  generalize ab (fQ (dV (aV u (fN d)) (aV g g))*fQ (aV g g)-fQ (aV u (fN d)))=v1 at*
  generalize ab (fQ (dV (aV u (fN d)) (aV g g)))*ab (fQ (aV g g))=v2 at*
  generalize ab (fQ (dV (aV u (fN d)) (aV g g)))*p2 (-200)=v3 at*
  generalize p2 (-1075)*ab (fQ (aV g g))=v4 at*
  generalize ab (fQ (aV u (fN d)))=v5 at*
  generalize p2 (-1075)=v6 at*
  clear k2
  grind
 have s6:=Rat.mul_le_mul_of_nonneg_right s5 (Rat.le_of_lt (aE 200))
 have e0:p2 (-200)*p2 200=1:=by rw[←aU];exact ji
 rw[Rat.mul_assoc,e0,Rat.mul_one]at s6
 have G:p2 220=1048576*p2 200:=by rw[show(220:Int)=20+200 by rfl,aU,show p2 20=1048576 by rw[show(20:Int)=((20:Nat):Int) by rfl,bu];rfl]
 have:=aE 200
 rw[G]
 grind
open Go.RowKit
theorem uS(n:Nat)(c:Rat):sm n (fun _=>c)=(n:Rat)*c:=by
 induction n with
 |zero=>show(0:Rat)=((0:Nat):Rat)*c;have:((0:Nat):Rat)=0:=rfl;rw[this];grind
 |succ n ih=>
  show sm n (fun _=>c)+c=((n+1:Nat):Rat)*c
  rw[ih,Rat.natCast_add]
  have:((1:Nat):Rat)=1:=rfl
  rw[this]
  grind
end Go.Proofs.YtcbcmlaogehimaaGreatDoor
namespace Go.Proofs.YtcbcmlaogehimaaGreatDoor
theorem Hf(h:List Nat):bT h=dt h.length (fc h) (fc h):=by
 have e:∀d:List Nat,bT d=nD d d:=by
  intro d
  induction d with
  |nil=>rfl
  |cons y d ih=>
   show fQ y*fQ y+bT d=fQ y*fQ y+nD d d
   rw[ih]
 rw[e,←Lq h h rfl]
structure bZ (A:List Nat) (k:Int):Prop where
 fin:∀x∈A,x<18446744073709551616∧aj x=true∧(fK x=0∨-100≤eX x)
 top:bB 0 A≠0
 ek:eX (bB 0 A)=k
 up:-100≤k∧k<100
theorem bZ.one{A:List Nat}{k:Int}(h:bZ A k){x:Nat}(z:x∈A):aj (xV x (-k))=true∧fQ (xV x (-k))=fQ x*p2 (-k)∧ab (fQ x*p2 (-k))≤2:=by
 obtain⟨D,u,I⟩:=h.fin x z
 have F:=jV A (fun x d=>⟨(h.fin x d).1,(h.fin x d).2.1⟩)
 obtain⟨X,J,K,L,Y,Z,N,b8,_⟩:=gy 5000 A F h.top
 have P:=aE (-k)
 by_cases d:fK x=0
 ·rw[iC x _ d,bm x d,Rat.zero_mul,jT]
  exact⟨u,rfl,by grind⟩
 ·obtain⟨t1,t2⟩:=gx x D u d
  obtain⟨u1,u2⟩:=gx (bB 0 A) (by omega) J K
  rw[h.ek]at u1 u2
  have O:=N x z
  have G:ab (fQ (bB 0 A))=fQ (bB 0 A):=aY (gu _ L)
  have e:ab (fQ x*p2 (-k))=ab (fQ x)*p2 (-k):=by rw[bJ,aY (Rat.le_of_lt P)]
  have H:ab (fQ x)*p2 (-k)≤2:=by
   have v:=Rat.mul_le_mul_of_nonneg_right (show ab (fQ x)≤p2 (k+1) by grind) (Rat.le_of_lt P)
   rw[←aU,show k+1+-k=1 by omega,zH]at v
   exact v
  have lo:p2 (-1022)≤ab (fQ x)*p2 (-k):=by
   have Q:=aS (show-100≤eX x by exact I.resolve_left d)
   have v:=Rat.mul_le_mul_of_nonneg_right (show p2 (-100)≤ab (fQ x) by grind) (Rat.le_of_lt P)
   rw[←aU]at v
   have U:=aS (show(-1022:Int)≤-100+-k by have:=h.up;omega)
   grind
  have B:=ms
  obtain⟨z1,z2⟩:=g6 x (-k) D u (by grind) lo
  exact⟨z1,z2,by rw[e];exact H⟩
theorem Hg{A:List Nat}{k:Int}{y:Nat}(d:y∈fY A k):∃x∈A,y=xV x k:=by
 unfold fY at d
 obtain⟨i,h,rfl⟩:=List.mem_map.1 d
 have:=List.mem_range.1 h
 exact⟨A.getD i 0,by rw[List.getD_eq_getElem?_getD,List.getElem?_eq_getElem this];exact List.getElem_mem this,rfl⟩
theorem rZ(A:List Nat)(k:Int):fY A k=A.map (fun x=>xV x k):=by
 unfold fY
 refine List.ext_getElem (by simp) (fun i d u=>?_)
 have h:i<A.length:=by simpa using d
 simp[List.getD_eq_getElem?_getD,List.getElem?_eq_getElem h]
theorem bZ.size{A:List Nat}{k:Int}(h:bZ A k){y:Nat}(u:y∈fY A (-k)):y<18446744073709551616∧aj y=true∧ab (fQ y)≤2:=by
 obtain⟨x,d,rfl⟩:=Hg u
 obtain⟨a,b,c⟩:=h.one d
 exact⟨oO _ _ (h.fin x d).1,a,by rw[b];exact c⟩
theorem bZ.sum{A:List Nat}{k:Int}(h:bZ A k):∀B:List Nat,(∀x∈B,x∈A)→bT (B.map (fun x=>xV x (-k)))=bT B*(p2 (-k)*p2 (-k))
 | [],_=>by
  show(0:Rat)=0*_
  rw[Rat.zero_mul]
 |x::B,hB=>by
  have u:=bZ.sum h B (fun y d=>hB y (List.mem_cons_of_mem _ d))
  obtain⟨_,b,_⟩:=h.one (hB x List.mem_cons_self)
  have z:bT ((x::B).map (fun x=>xV x (-k)))=fQ (xV x (-k))*fQ (xV x (-k))+bT (B.map (fun x=>xV x (-k))):=rfl
  have D:bT (x::B)=fQ x*fQ x+bT B:=rfl
  rw[z,D,u,b,Rat.add_mul]
  grind
theorem bZ.sumS{A:List Nat}{k:Int}(h:bZ A k):bT (fY A (-k))=bT A*(p2 (-k)*p2 (-k)):=by
 rw[rZ]
 exact h.sum A (fun _ h=>h)
theorem Hh{d:List Nat}{x:Nat}(h:x∈d):fQ x*fQ x≤bT d:=by
 induction d with
 |nil=>cases h
 |cons y ys ih=>
  have e:bT (y::ys)=fQ y*fQ y+bT ys:=rfl
  have n:=jx ys
  have s:=aw (fQ y)
  rw[e]
  rcases List.mem_cons.1 h with g|g
  ·rw[g];grind
  ·have:=ih g
   grind
theorem Hi{a b c:Rat}(h:a≤b)(e:2*b=1)(n:99/100≤c):a≤c:=by grind
theorem Ki{a:Rat}(h:a≤2):a≤64:=by grind
theorem Ev{N P U M:Rat}(y:N*P≤N*1)(v:N≤U)(m:2*U≤M)(u:0<U):N*P<M:=by grind
theorem uT{N P L:Rat}(y:99/100*P≤N*P)(m:2*L≤P)(p:0<P):L≤N*P:=by grind
theorem bZ.low{A:List Nat}{k:Int}(h:bZ A k)(hl:A.length≤64):
  1≤bT (fY A (-k))∧aj (xV (nG (bF (fY A (-k)))) (-44))=true∧p2 (-50)≤fQ (xV (nG (bF (fY A (-k)))) (-44))∧
  100*(fQ (xV (nG (bF (fY A (-k)))) (-44))*fQ (xV (nG (bF (fY A (-k)))) (-44)))≤101*(p2 (-88)*bT (fY A (-k))):=by
 have hT:=jV A (fun x u=>⟨(h.fin x u).1,(h.fin x u).2.1⟩)
 obtain⟨b1,b2,b3,b4,b5,b6,b7,b8,y,hy,b9,ao⟩:=gy 5000 A hT h.top
 obtain⟨u1,u2⟩:=gx (bB 0 A) (by omega) b2 b3
 rw[h.ek]at u1
 have ae:ab (fQ (bB 0 A))=fQ (bB 0 A):=aY (gu _ b4)
 obtain⟨z1,z2,z3⟩:=h.one hy
 have P:=aE (-k)
 have N:1≤ab (fQ (xV y (-k))):=by
  rw[z2,bJ,aY (Rat.le_of_lt P)]
  have v:=Rat.mul_le_mul_of_nonneg_right (show p2 k≤ab (fQ y) by grind) (Rat.le_of_lt P)
  rw[←aU,show k+-k=0 by omega,ji]at v
  exact v
 have D:=fun z (hz:z∈fY A (-k))=>h.size hz
 have F:xV y (-k)∈fY A (-k):=by rw[rZ];exact List.mem_map.2 ⟨y,hy,rfl⟩
 have G:(fY A (-k)).length≤64:=by rw[jU];exact hl
 generalize fY A (-k)=S at*
 generalize xV y (-k)=t at*
 have s1:1≤bT S:=by
  have v:=Hh F
  have w:=Rat.mul_le_mul_of_nonneg_left N (cS (fQ t))
  rw[cH]at w
  grind
 have J:=jV S (fun x u=>⟨(D x u).1,(D x u).2.1⟩)
 obtain⟨d1,d2,d3,d4⟩:=kZ S 0 (by decide) (fun x I=>(D x I).2.1)
 have u:bB 0 S≠0:=fun e=>by
  have h1:=d3 t F
  rw[e]at h1
  rw[ge,show fR t=0 by omega,dK]at N
  have:((0:Nat):Rat)=0:=rfl
  rw[this]at N
  grind
 obtain⟨c1,c2,c3,c4,c5,c6,c7,c8,q,hq,c9,ar⟩:=gy 5000 S J u
 obtain⟨w1,w2⟩:=gx (bB 0 S) (by omega) c2 c3
 have ah:ab (fQ (bB 0 S))=fQ (bB 0 S):=aY (gu _ c4)
 have P1:=aS (show(10:Int)≤901 by decide)
 have P2:p2 10=1024:=by rw[show(10:Int)=((10:Nat):Int) by rfl,bu];rfl
 have am:eX (bB 0 S)<901:=kY (by have:=(D q hq).2.2;grind)
 have g:=Es 5000 S G J u (by omega)
 have O:=aS (show(-50:Int)≤-1 by decide)
 have Q:2*p2 (-1)=1:=by have:=cX (-1);rw[show(-1:Int)+1=0 by rfl,ji]at this;exact this.symm
 have t1:=c7 t F
 have n1:99/100≤fQ (dj S):=by grind
 obtain⟨T,_⟩:=uQ S G (fun x I=>⟨(D x I).1,(D x I).2.1⟩) (fun x I=>Ki (D x I).2.2) (Hi O Q n1)
 obtain⟨v1,v2,v3,v4,v5,v6,v7⟩:=tY S G T u
 have en:nG (bF S)=dj S:=by rw[yj,lq]
 have ln:dj S<18446744073709551616:=by rw[←en];exact wF _
 rw[en]
 have an:ab (fQ (dj S))=fQ (dj S):=aY (by grind)
 have H:=aE (-44)
 have d:=aS (show(-44:Int)≤0 by decide)
 rw[ji]at d
 have y2:=Rat.mul_le_mul_of_nonneg_left d (show 0≤fQ (dj S) by grind)
 have U:=Rat.mul_le_mul_of_nonneg_right n1 (Rat.le_of_lt H)
 have X:=aS (show(1+-1022:Int)≤-44 by decide)
 have Y:=aS (show(1+-50:Int)≤-44 by decide)
 have Z:=aS (show(1+204:Int)≤1023 by decide)
 rw[aU,zH]at X Y Z
 have K:=aE 204
 obtain⟨f1,f2⟩:=g6 (dj S) (-44) ln v2 (by rw[an];exact Ev y2 v5 Z K) (by rw[an];exact uT U X H)
 refine⟨s1,f1,by rw[f2];exact uT U Y H,?_⟩
 rw[f2]
 have aa:p2 (-44)*p2 (-44)=p2 (-88):=by rw[←aU];rfl
 rw[show fQ (dj S)*p2 (-44)*(fQ (dj S)*p2 (-44))=fQ (dj S)*fQ (dj S)*(p2 (-44)*p2 (-44)) by grind,aa]
 have l:=br (fQ (dj S)*fQ (dj S)-bT S)
 have L:=Rat.mul_le_mul_of_nonneg_right (show 100*(fQ (dj S)*fQ (dj S))≤101*bT S by clear v1 y2 U X Y Z;generalize fQ (dj S)*fQ (dj S)=a at*;generalize ab (a-bT S)=b at*;grind) (Rat.le_of_lt (aE (-88)))
 have Q:100*(fQ (dj S)*fQ (dj S))*p2 (-88)=100*(fQ (dj S)*fQ (dj S)*p2 (-88)):=by rw[Rat.mul_assoc]
 have e2:101*bT S*p2 (-88)=101*(p2 (-88)*bT S):=by rw[Rat.mul_assoc,Rat.mul_comm (bT S)]
 rw[Q,e2]at L
 exact L
theorem yK{f:Nat→Rat}{M:Rat}:∀n,(∀j,j<n→f j≤M)→d7 f n≤(n:Rat)*M
 |0,_=>by
  show(0:Rat)≤((0:Nat):Rat)*M
  have:((0:Nat):Rat)=0:=rfl
  rw[this];grind
 |n+1,h=>by
  have z:=yK n (fun j u=>h j (by omega))
  have d:((n+1:Nat):Rat)=(n:Rat)+1:=by rw[Rat.natCast_add];rfl
  have:=h n (by omega)
  show d7 f n+f n≤_
  rw[d,Rat.add_mul,Rat.one_mul]
  grind
theorem bZ.rows{A:List Nat}{k:Int}(h:bZ A k){r c:Nat}(G:A.length=r*c)(H:c≤6):cn r c (fY A (-k)) 24:=by
 have D:∀i j,i<r→j<c→aQ c (fY A (-k)) i j∈fY A (-k):=fun i j d z=>by
  have F:i*c+j<(fY A (-k)).length:=by rw[jU,G];exact dg d z
  unfold aQ
  rw[List.getD_eq_getElem?_getD,List.getElem?_eq_getElem F]
  exact List.getElem_mem F
 refine⟨fun i j d z=>(h.size (D i j d z)).2.1,fun i j d z=>(h.size (D i j d z)).1,fun i d=>?_⟩
 have u:=yK (f:=fun j=>fQ (aQ c (fY A (-k)) i j)*fQ (aQ c (fY A (-k)) i j)) (M:=4) c (fun j z=>by
  have v:=(h.size (D i j d z)).2.2
  have w:=Rat.mul_le_mul_of_nonneg_left v (cS (fQ (aQ c (fY A (-k)) i j)))
  show fQ (aQ c (fY A (-k)) i j)*fQ (aQ c (fY A (-k)) i j)≤4
  rw[cH]at w
  grind)
 have I:(c:Rat)≤6:=Rat.natCast_le_natCast.2 H
 grind
theorem px(c:Nat):cn c c (iM c) 1:=by
 have e:∀i j,i<c→j<c→aQ c (iM c) i j=if j=i then 4607182418800017408 else 0:=fun i j d h=>lm c c _ d h
 refine⟨fun i j d h=>?_,fun i j d h=>?_,fun i d=>?_⟩
 ·rw[e i j d h];split<;>decide+kernel
 ·rw[e i j d h];split<;>decide
 ·have z:=gr (f:=fun j=>fQ (aQ c (iM c) i j)*fQ (aQ c (iM c) i j)) (g:=fun _=>0) (p:=i) (q:=c) (by omega) c (fun j h u _=>by
   show fQ (aQ c (iM c) i j)*fQ (aQ c (iM c) i j)=0
   rw[e i j d h,if_neg u,bm 0 (by decide)]
   grind)
  have A:∀n,d7 (fun _=>0) n=0:=fun n=>by
   induction n with
   |zero=>rfl
   |succ n ih=>show d7 (fun _=>0) n+0=0;rw[ih];grind
  rw[z,A,if_pos d,if_neg (by omega)]
  show 0+(fQ (aQ c (iM c) i i)*fQ (aQ c (iM c) i i)-0)+0≤1
  rw[e i i d d,if_pos rfl,gQ]
  grind
theorem Hj{a P Q M:Rat}(v:a*P≤10*P)(m:1024*P≤Q)(d:2*Q≤M)(p:0<P):a*P<M:=by
 generalize a*P=z at*
 grind
theorem Ew{a b:Rat}(h:2*a≤2*b):a≤b:=by grind
theorem Ex(x:Nat)(k:Int)(u:x<18446744073709551616)(z:aj x=true)(D:ab (fQ x)≤10)(F:-100≤k∧k<100):
  aj (xV x k)=true∧ab (fQ (xV x k)-fQ x*p2 k)≤p2 (-1075):=by
 have P:=aE k
 have m:=aS (show 10+k≤120 by omega)
 have d:p2 10=1024:=by rw[show(10:Int)=((10:Nat):Int) by rfl,bu];rfl
 have v:=Rat.mul_le_mul_of_nonneg_right D (Rat.le_of_lt P)
 have e:p2 (10+k)=1024*p2 k:=by rw[aU,d]
 have A:=aS (show(1+120:Int)≤1023 by decide)
 rw[aU,zH]at A
 have f:=jP x k u z (Hj v (by rw[←e];exact m) A P)
 refine⟨f,?_⟩
 rcases jQ x k u z f with g|⟨_,_,g⟩
 ·rw[g,show fQ x*p2 k-fQ x*p2 k=0 by grind,jT]
  exact Rat.le_of_lt (aE _)
 ·have h:=cX (-1075)
  rw[show(-1075:Int)+1= -1074 by rfl]at h
  rw[h]at g
  exact Ew g
theorem dP(f:Nat→Rat):∀n,d7 f n=sm n f
 |0=>rfl
 |n+1=>by
  show d7 f n+f n=sm n f+f n
  rw[dP f n]
def jh(p q:Nat)(c s:Rat)(x:Nat→Rat)(j:Nat):Rat:=if j=p then c*x p-s*x q else if j=q then s*x p+c*x q else x j
theorem uU{m p q:Nat}(z:p<m)(A:q<m)(u:p≠q)(c s e f:Rat)(v d x:Nat→Rat)(D:d p=c*v p+s*v q+e)(F:d q=c*v q-s*v p+f)(G:∀j,j<m→j≠p→j≠q→d j=v j):
  dt m d x=dt m v (jh p q c s x)+(e*x p+f*x q):=by
 have k:=gr (f:=fun j=>d j*x j) (g:=fun j=>v j*jh p q c s x j) u m (fun j H a b=>by
  show d j*x j=v j*jh p q c s x j
  unfold jh
  rw[G j H a b,if_neg a,if_neg b])
 rw[if_pos z,if_pos A,dP,dP]at k
 have I:jh p q c s x p=c*x p-s*x q:=by unfold jh;rw[if_pos rfl]
 have J:jh p q c s x q=s*x p+c*x q:=by unfold jh;rw[if_neg (fun h=>u h.symm),if_pos rfl]
 show sm m (fun j=>d j*x j)=sm m (fun j=>v j*jh p q c s x j)+_
 rw[k]
 show _+(d p*x p-v p*jh p q c s x p)+(d q*x q-v q*jh p q c s x q)=_
 rw[I,J,D,F]
 grind
theorem Is{m p q:Nat}(u:p<m)(z:q<m)(d:p≠q)(c s:Rat)(x:Nat→Rat):dt m (jh p q c s x) (jh p q c s x)=dt m x x+(c*c+s*s-1)*(x p*x p+x q*x q):=by
 have k:=gr (f:=fun j=>jh p q c s x j*jh p q c s x j) (g:=fun j=>x j*x j) d m (fun j _ a b=>by
  show jh p q c s x j*jh p q c s x j=x j*x j
  unfold jh
  rw[if_neg a,if_neg b])
 rw[if_pos u,if_pos z,dP,dP]at k
 have A:jh p q c s x p=c*x p-s*x q:=by unfold jh;rw[if_pos rfl]
 have D:jh p q c s x q=s*x p+c*x q:=by unfold jh;rw[if_neg (fun h=>d h.symm),if_pos rfl]
 show sm m (fun j=>jh p q c s x j*jh p q c s x j)=sm m (fun j=>x j*x j)+_
 rw[k]
 show _+(jh p q c s x p*jh p q c s x p-x p*x p)+(jh p q c s x q*jh p q c s x q-x q*x q)=_
 rw[A,D]
 grind
theorem Ey{m p q:Nat}(u:p<m)(A:q<m)(d:p≠q)(x:Nat→Rat):x p*x p+x q*x q≤dt m x x:=by
 have k:=gr (f:=fun j=>x j*x j) (g:=fun j=>if j=p∨j=q then 0 else x j*x j) d m (fun j _ a b=>by
  show x j*x j=if j=p∨j=q then 0 else x j*x j
  rw[if_neg (fun h=>h.elim a b)])
 rw[if_pos u,if_pos A]at k
 have z:=xj (f:=fun j=>if j=p∨j=q then 0 else x j*x j) m (fun j _=>by
  show 0≤if j=p∨j=q then 0 else x j*x j
  split
  ·exact Rat.le_refl
  ·exact aw _)
 have e:d7 (fun j=>x j*x j) m=dt m x x:=dP _ m
 rw[←e,k]
 show _≤_+(x p*x p-if p=p∨p=q then 0 else x p*x p)+(x q*x q-if q=p∨q=q then 0 else x q*x q)
 rw[if_pos (.inl rfl),if_pos (.inr rfl)]
 grind
theorem Kj(n:Nat)(l:Rat)(u d:Nat→Rat):l*(2*ab (dt n u d))≤l*l*dt n u u+dt n d d:=by
 have h:∀t:Rat,t*t=l*l→-(2*(t*dt n u d))≤l*l*dt n u u+dt n d d:=by
  intro t A
  have z:=k7 n (fun i=>t*u i+d i)
  rw[oS,ej,ej,jz,jz,f6,f6,gz n d u]at z
  rw[show t*(t*dt n u u)=t*t*dt n u u by grind,A]at z
  grind
 have a:=h l rfl
 have b:=h (-l) (by grind)
 unfold ab
 split<;>grind
def uV(n m:Nat)(v:Nat→Nat→Rat)(ε:Rat):Prop:=∀x:Nat→Rat,ab (dt n (fun i=>dt m (v i) x) (fun i=>dt m (v i) x)-dt m x x)≤ε*dt m x x
theorem Hk{U D G X Z θ ε:Rat}(h:ab (U-G)≤ε*G)(z:G=X+Z)(F:562949953421312*ab Z≤X)(hD:81129638414606681695789005144064*D≤108*X)(H:0≤D)(I:0≤X)(u:1000*ε≤1)(d:0≤ε)
  (J:11*(2*ab θ)≤11*(11/9007199254740992)*U+9007199254740992*D):ab (U+(2*θ+D)-X)≤(ε+40/9007199254740992)*X:=by
 have A:=br Z
 have lU:=br (U-G)
 have K:=br θ
 have L:ε*G=ε*X+ε*Z:=by rw[z];grind
 have N:=Rat.mul_le_mul_of_nonneg_right u I
 have O:=Rat.mul_le_mul_of_nonneg_left F d
 have e4:=Rat.mul_le_mul_of_nonneg_left A.1 d
 have Q:=Rat.mul_le_mul_of_nonneg_left A.2 d
 rw[L]at h
 rw[Rat.add_mul]
 have Y:ε* -Z= -(ε*Z):=by grind
 rw[Y]at Q
 rw[show ε*(562949953421312*ab Z)=562949953421312*(ε*ab Z) by grind]at O
 rw[show 1000*ε*X=1000*(ε*X) by grind]at N
 subst z
 generalize ε*ab Z=w1 at*
 generalize ε*Z=w2 at*
 generalize ε*X=w3 at*
 generalize ab (U-(X+Z))=w4 at*
 generalize ab Z=w5 at*
 generalize ab θ=w6 at*
 refine mQ ?_ ?_ <;>grind
theorem mI{f:Nat→Rat}{M:Rat}:∀n,(∀j,j<n→f j≤M)→d7 f n≤(n:Rat)*M
 |0,_=>by
  show(0:Rat)≤((0:Nat):Rat)*M
  have:((0:Nat):Rat)=0:=rfl
  rw[this];grind
 |n+1,h=>by
  have z:=mI n (fun j u=>h j (by omega))
  have d:((n+1:Nat):Rat)=(n:Rat)+1:=by rw[Rat.natCast_add];rfl
  have:=h n (by omega)
  show d7 f n+f n≤_
  rw[d,Rat.add_mul,Rat.one_mul]
  grind
theorem Kk{e f a b X:Rat}(d:9007199254740992*ab e≤3)(u:9007199254740992*ab f≤3)(h:a*a+b*b≤X):81129638414606681695789005144064*((e*a+f*b)*(e*a+f*b))≤18*X:=by
 have A:=cS e;have D:=cS f
 have F:=Rat.mul_le_mul_of_nonneg_left d A
 have G:=Rat.mul_le_mul_of_nonneg_left u D
 have I:81129638414606681695789005144064*(e*e)≤9:=by
  rw[←cH e]
  rw[show ab e*(9007199254740992*ab e)=9007199254740992*(ab e*ab e) by grind]at F
  generalize ab e*ab e=w at*
  grind
 have J:81129638414606681695789005144064*(f*f)≤9:=by
  rw[←cH f]
  rw[show ab f*(9007199254740992*ab f)=9007199254740992*(ab f*ab f) by grind]at G
  generalize ab f*ab f=w at*
  grind
 have z:=aw (e*b-f*a)
 have H:0≤a*a+b*b:=by have:=aw a;have:=aw b;grind
 have k:(e*a+f*b)*(e*a+f*b)+(e*b-f*a)*(e*b-f*a)=(e*e+f*f)*(a*a+b*b):=by grind
 have m:=Rat.mul_le_mul_of_nonneg_right (show 81129638414606681695789005144064*(e*e+f*f)≤18 by grind) H
 rw[show 81129638414606681695789005144064*(e*e+f*f)*(a*a+b*b)=81129638414606681695789005144064*((e*e+f*f)*(a*a+b*b)) by grind,←k]at m
 generalize (e*a+f*b)*(e*a+f*b)=K at*
 generalize (e*b-f*a)*(e*b-f*a)=L at*
 generalize a*a+b*b=N at*
 grind
theorem uV.turn{n m p q:Nat}(hn:n≤6)(G:p<m)(H:q<m)(A:p≠q){c s ε:Rat}{v z:Nat→Nat→Rat}(h:uV n m v ε)(I:1000*ε≤1)(D:0≤ε)(J:562949953421312*ab (c*c+s*s-1)≤1)
  (he:∀i,i<n→9007199254740992*ab (z i p-(c*v i p+s*v i q))≤3) (hf:∀i,i<n→9007199254740992*ab (z i q-(c*v i q-s*v i p))≤3)
  (h3:∀i,i<n→∀j,j<m→j≠p→j≠q→z i j=v i j):uV n m z (ε+40/9007199254740992):=by
 intro x
 obtain⟨u,Z⟩:∃u:Nat→Rat,u=fun i=>dt m (v i) (jh p q c s x):=⟨_,rfl⟩
 obtain⟨d,hd⟩:∃d:Nat→Rat,d=fun i=>(z i p-(c*v i p+s*v i q))*x p+(z i q-(c*v i q-s*v i p))*x q:=⟨_,rfl⟩
 have N:∀i,i<n→dt m (z i) x=u i+d i:=fun i F=>by
  rw[Z,hd]
  exact uU G H A c s (z i p-(c*v i p+s*v i q)) (z i q-(c*v i q-s*v i p)) (v i) (z i) x (by grind) (by grind) (h3 i F)
 have O:dt n (fun i=>dt m (z i) x) (fun i=>dt m (z i) x)=dt n u u+(2*dt n u d+dt n d d):=by
  rw[df N N,oS,ej,ej,gz n d u]
  grind
 have X0:=k7 m x
 have Q:=Ey G H A x
 have D0:=k7 n d
 have U:81129638414606681695789005144064*dt n d d≤108*dt m x x:=by
  have k:=mI (f:=fun i=>81129638414606681695789005144064*(d i*d i)) (M:=18*dt m x x) n (fun i F=>by
   show 81129638414606681695789005144064*(d i*d i)≤18*dt m x x
   rw[hd]
   exact Kk (he i F) (hf i F) Q)
  have e:d7 (fun i=>81129638414606681695789005144064*(d i*d i)) n=81129638414606681695789005144064*dt n d d:=by
   have g:∀k,d7 (fun i=>81129638414606681695789005144064*(d i*d i)) k=81129638414606681695789005144064*dt k d d:=by
    intro k
    induction k with
    |zero=>show(0:Rat)=_*0;grind
    |succ k ih=>
     show d7 (fun i=>81129638414606681695789005144064*(d i*d i)) k+81129638414606681695789005144064*(d k*d k)=81129638414606681695789005144064*(dt k d d+d k*d k)
     rw[ih]
     grind
   exact g n
  rw[e]at k
  have K:(n:Rat)≤6:=Rat.natCast_le_natCast.2 hn
  have u:=Rat.mul_le_mul_of_nonneg_right K (show 0≤18*dt m x x by grind)
  rw[show 6*(18*dt m x x)=108*dt m x x by grind]at u
  exact Rat.le_trans k u
 have T:=Kj n (11/9007199254740992) u d
 have L:=h (jh p q c s x)
 rw[O]
 have eu:dt n (fun i=>dt m (v i) (jh p q c s x)) (fun i=>dt m (v i) (jh p q c s x))=dt n u u:=by rw[Z]
 rw[eu]at L
 refine Hk L (Is G H A c s x) ?_ U D0 X0 I D ?_
 ·have X:0≤x p*x p+x q*x q:=by have:=aw (x p);have:=aw (x q);grind
  rw[bJ,aY X]
  have Y:=Rat.mul_le_mul_of_nonneg_right J X
  rw[Rat.mul_assoc,Rat.one_mul]at Y
  exact Rat.le_trans Y Q
 ·generalize dt n u u=w1 at*
  generalize dt n d d=w2 at*
  generalize ab (dt n u d)=w3 at*
  clear O U L
  grind
end Go.Proofs.YtcbcmlaogehimaaGreatDoor
