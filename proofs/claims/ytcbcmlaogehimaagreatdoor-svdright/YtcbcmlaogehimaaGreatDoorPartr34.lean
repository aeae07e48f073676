/- Part 34 of the texts. -/
import Derived.Test.YtcbcmlaogehimaaGreatDoorPartr33
namespace Go.Proofs.YtcbcmlaogehimaaGreatDoor
theorem uu(d:List Nat)(J:d.length≤64)(F:∀x∈d,x<18446744073709551616∧aj x=true)(X:∀x∈d,ab (fQ x)≤64)(h:p2 (-50)≤fQ (de d)):qY 200 d∧bB 0 d≠0:=by
 have Y:=aE (-50)
 have D:bB 0 d≠0:=fun e=>by
  have Z:de d=0:=by unfold de;rw[if_pos (.inl e)];exact e
  rw[Z,bm 0 (by decide)]at h
  grind
 have K:=jL d F
 obtain⟨b1,b2,b3,b4,b5,b6,b7,b8,y,hy,b9,ao⟩:=gr 5000 d K D
 obtain⟨k,u⟩:∃k,eX (bB 0 d)=k:=⟨_,rfl⟩
 obtain⟨t1,t2⟩:=gl (bB 0 d) (by omega) b2 b3
 have aa:ab (fQ (bB 0 d))=fQ (bB 0 d):=aX (gj _ b4)
 have P6:p2 6=64:=by rw[show(6:Int)=((6:Nat):Int) by rfl,bu];rfl
 have ae:k<7:=by
  have:=X y hy
  have m:=aR (show(6:Int)≤6 by decide)
  have:p2 k<p2 7:=by
   rw[show(7:Int)=6+1 by rfl,cT,P6]
   rw[u]at t1
   grind
  exact kO this
 refine⟨⟨F,.inr ?_⟩,D⟩
 rw[u]
 refine⟨?_,by omega⟩
 rcases Int.lt_or_le k (-200)with g|g
 rotate_left
 ·exact g
 exfalso
 have ah:=aR (show(-1074:Int)≤-60 by decide)
 have am:p2 (-50)=1024*p2 (-60):=by
  rw[show(-50:Int)=10+-60 by rfl,aT,show p2 10=1024 by rw[show(10:Int)=((10:Nat):Int) by rfl,bu];rfl]
 have an:=aE (-60)
 rcases Int.lt_or_le k (-900)with g2|g2
 ·obtain⟨s,s1,s2,N,I,O,s6,s7,s8,Q⟩:=ks 5000 d J K D (by omega)
  obtain⟨r1,r2,r3,r4,r5,r6,r7⟩:=gI s N O I
  have L:s<18446744073709551616:=by
   have:=of_decide_eq_false I
   omega
  obtain⟨u1,u2⟩:=gl s L N O
  have u3:=(kU s L).2
  have u4:=aR (show eX s+1≤1026 by omega)
  have u5:ab (fQ s)=fQ s:=aX (gj _ I)
  have w:fQ (sV s)≤p2 520:=by
   rcases Rat.le_total (a:=fQ (sV s)) (b:=p2 520)with h|h
   ·exact h
   ·have v:=Rat.mul_le_mul_of_nonneg_left h r5
    have v2:=Rat.mul_le_mul_of_nonneg_left h (Rat.le_of_lt (aE 520))
    have e:p2 520*p2 520=16384*p2 1026:=by
     rw[←aT,show(520:Int)+520=14+1026 by rfl,aT,show p2 14=16384 by rw[show(14:Int)=((14:Nat):Int) by rfl,bu];rfl]
    have:=aE 1026
    rw[e]at v2
    generalize fQ (sV s)*fQ (sV s)=z at*
    grind
  have w2:=aE k
  have G:=Rat.mul_le_mul_of_nonneg_right w (Rat.le_of_lt w2)
  rw[←aT]at G
  have w4:=aR (show 520+k≤-60 by omega)
  rw[u]at Q
  have l:=br (fQ (de d)-fQ (sV s)*p2 k)
  generalize fQ (sV s)*p2 k=z at*
  rcases Q with e|e<;>grind
 ·have H:qY 900 d:=⟨F,.inr (by rw[u];omega)⟩
  obtain⟨-,-,-,-,-,-,-,-,-,-,A,-,-,U⟩:=qh 900 (by decide) d J H D
  have w4:=aR (show k≤-60 by omega)
  have G:=Rat.mul_le_mul_of_nonneg_right A (Rat.le_of_lt (aE k))
  rw[u]at U A G
  rw[U]at h
  grind
theorem qt{x y:Rat}(D:0≤x)(z:0≤y)(h:x*x≤y*y):x≤y:=by
 rcases Rat.le_total (a:=x) (b:=y)with g|g
 ·exact g
 ·have u:=Rat.mul_le_mul_of_nonneg_left g D
  have v:=Rat.mul_le_mul_of_nonneg_right g z
  rcases Rat.le_total (a:=x) (b:=y)with A|A
  ·exact A
  ·by_cases e:x=y
   ·rw[e];exact Rat.le_refl
   ·exfalso
    have d:0<x-y:=by
     rcases Rat.le_total (a:=x-y) (b:=0)with k|k
     ·exact absurd (by grind) e
     ·by_cases F:x-y=0
      ·exact absurd (by grind) e
      ·grind
    have w:=Rat.mul_pos d (show 0<x by grind)
    have G:=Rat.mul_nonneg (Rat.le_of_lt d) z
    grind
theorem Hx(a:Nat)(h:aj a=true):aj (fR a)=true∧fQ (fR a)=ab (fQ a):=by
 have u:=iT a h
 have d:=iW (fR a) (i8 a)
 have z:fS (fR a)=false:=d.2.2
 have A:aj (fR a)=true:=(bZ _).2.2.2 (by rw[d.2.1];exact u)
 refine⟨A,?_⟩
 rw[←aX (gj _ z),f8,f8,d.2.1]
theorem zM(h:Nat)(D:h<18446744073709551616)(F:aj h=true)(G:8/10≤fQ h):aj (dV 4607182418800017408 h)=true∧ab (fQ (dV 4607182418800017408 h))≤13/10:=by
 obtain⟨Y,Z,n3⟩:=dz
 have d:ab (1:Rat)=1:=aX (by grind)
 have u:ab (fQ h)=fQ h:=aX (by grind)
 have H:fK h≠0:=(o7 h (by grind)).2
 have N:=aR (show(1:Int)≤1000 by decide)
 have O:p2 1=2:=by rw[show(1:Int)=((1:Nat):Int) by rfl,bu];rfl
 have Q:=Rat.mul_le_mul_of_nonneg_right (show 2≤p2 1000 by grind) (show 0≤fQ h by grind)
 obtain⟨f,e⟩:=o6 4607182418800017408 h (by decide) D jI F H (by rw[gM,u,d];grind)
 rw[gM,u,d]at e
 refine⟨f,?_⟩
 have k:=br (fQ (dV 4607182418800017408 h)*fQ h-1)
 have z:=cL (fQ (dV 4607182418800017408 h))
 have I:ab (fQ (dV 4607182418800017408 h))*fQ h=ab (fQ (dV 4607182418800017408 h)*fQ h):=by rw[bJ,u]
 have J:=dO (fQ (dV 4607182418800017408 h)*fQ h-1) 1
 rw[show fQ (dV 4607182418800017408 h)*fQ h-1+1=fQ (dV 4607182418800017408 h)*fQ h by grind,←I,d]at J
 have U:=Rat.mul_le_mul_of_nonneg_left G z
 have K:=Rat.mul_le_mul_of_nonneg_right (show 1000*p2 (-1075)≤1/1000 by grind) (show 0≤fQ h by grind)
 --p2 (-1075)*h is small beside h times the number
 generalize ab (fQ (dV 4607182418800017408 h)*fQ h-1)=x1 at*
 generalize ab (fQ (dV 4607182418800017408 h))=A at*
 rcases Rat.le_total (a:=A) (b:=13/10)with g|g
 ·exact g
 ·exfalso
  have X:=Rat.mul_le_mul_of_nonneg_right g (show 0≤fQ h by grind)
  have L:1000*p2 (-1075)*fQ h=1000*(p2 (-1075)*fQ h):=by grind
  rw[L]at K
  generalize p2 (-1075)*fQ h=x3 at*
  generalize A*fQ h=x4 at*
  generalize fQ h=x5 at*
  grind
theorem zN(z:Nat)(D:aj z=true)(K:ab (fQ z)≤p2 220):aj (uf z)=true∧ab (fQ (uf z))≤13/10:=by
 obtain⟨n1,n2,n3⟩:=dz
 have L:=gM
 have d:=aE 220
 have B1:1000≤p2 220:=by
  have:=aR (show(10:Int)≤220 by decide)
  rw[show p2 10=1024 by rw[show(10:Int)=((10:Nat):Int) by rfl,bu];rfl]at this
  grind
 have F:p2 440=p2 220*p2 220:=by rw[←aT];rfl
 have B3:16*p2 440≤p2 1023:=by
  have:=aR (show(4+440:Int)≤1023 by decide)
  rw[aT,show p2 4=16 by rw[show(4:Int)=((4:Nat):Int) by rfl,bu];rfl]at this
  exact this
 have B4:1000≤p2 440:=by
  have:=Rat.mul_le_mul_of_nonneg_left B1 (Rat.le_of_lt d)
  rw[F];grind
 have z0:=cL (fQ z)
 have zz:=aw (fQ z)
 have z2:fQ z*fQ z≤p2 440:=by
  have u:=Rat.mul_le_mul_of_nonneg_left K z0
  have v:=Rat.mul_le_mul_of_nonneg_right K (Rat.le_of_lt d)
  rw[cD]at u
  rw[F]
  grind
 obtain⟨m,Y⟩:∃m,m=mV z z:=⟨_,rfl⟩
 obtain⟨b,A⟩:∃b,b=aV 4607182418800017408 m:=⟨_,rfl⟩
 obtain⟨r,Z⟩:∃r,r=sV b:=⟨_,rfl⟩
 have N:ab (fQ z*fQ z)=fQ z*fQ z:=aX zz
 obtain⟨G,e1⟩:=ir z z D D (by rw[N];grind)
 rw[←Y]at G e1
 rw[N]at e1
 have k1:=br (fQ m-fQ z*fQ z)
 have m1:0≤1+fQ m:=by generalize fQ z*fQ z=q at*;grind
 have m2:1+fQ m≤2*p2 440:=by generalize fQ z*fQ z=q at*;grind
 have O:ab (1+fQ m)=1+fQ m:=aX m1
 have Q:aj b=true:=by rw[A];exact gV _ _ jI G (by rw[L,O];grind)
 have e2:=gT _ _ jI G (by rw[←A];exact Q)
 rw[←A,L,O]at e2
 have k2:=br (fQ b-(1+fQ m))
 have b1:99/100≤fQ b∧fQ b≤3*p2 440:=by
  generalize fQ z*fQ z=q at*
  constructor<;>grind
 obtain⟨s1,s2⟩:=o7 b (by grind)
 obtain⟨H,s3,l3,p3,I,e3,e4⟩:=gI b Q s2 s1
 rw[←Z]at H s3 l3 p3 I e3 e4
 have r1:9/10≤fQ r:=qt (by grind) I (by grind)
 have r2:fQ r≤2*p2 220:=qt I (by grind) (by
  rw[show 2*p2 220*(2*p2 220)=4*p2 440 by rw[F];grind]
  grind)
 obtain⟨f4,J⟩:=Hx z D
 have h:ab (fQ (fR z)+fQ r)=fQ (fR z)+fQ r:=aX (by rw[J];grind)
 have U:aj (aV (fR z) r)=true:=gV _ _ f4 H (by
  rw[h,J]
  have:=aR (show(2+220:Int)≤1023 by decide)
  have h3:4*p2 220≤p2 1023:=by
   rw[aT,show p2 2=4 by rw[show(2:Int)=((2:Nat):Int) by rfl,bu];rfl]at this
   exact this
  grind)
 have X:=gT _ _ f4 H U
 rw[h]at X
 have k3:=br (fQ (aV (fR z) r)-(fQ (fR z)+fQ r))
 have h8:8/10≤fQ (aV (fR z) r):=by
  rw[J]at X k3
  grind
 have hl:aV (fR z) r<18446744073709551616:=gS _ _ (by have:=i8 z;omega) l3
 have:=zM _ hl U h8
 have eU:uf z=dV 4607182418800017408 (aV (fR z) r):=by unfold uf;rw[←Y,←A,←Z]
 rw[eU]
 exact this
theorem zO(z:Nat)(D:aj z=true)(F:ab (fQ z)≤p2 220):aj (Ho z)=true∧fQ (Ho z)*fQ (Ho z)≤4:=by
 obtain⟨A,G⟩:=zN z D F
 have d:uf z<18446744073709551616:=xf _ _
 have h:fQ (uf z)*fQ (uf z)≤4:=by
  have u:=Rat.mul_le_mul_of_nonneg_left G (cL (fQ (uf z)))
  rw[cD]at u
  grind
 unfold Ho
 split
 ·rw[jF _ d,nw _ d]
  exact⟨A,by rw[show-fQ (uf z)* -fQ (uf z)=fQ (uf z)*fQ (uf z) by grind];exact h⟩
 ·exact⟨A,h⟩
theorem DU{a b:Nat}(d:aj a=true)(u:aj b=true)(h:ku a b=true):fQ a<fQ b:=by
 have z:=(Lr d u).1 (of_decide_eq_true h)
 unfold fQ
 have A:(fZ a:Rat)<(fZ b:Rat):=Rat.intCast_lt_intCast.2 z
 exact Rat.mul_lt_mul_of_pos_right A (aE _)
theorem xX{r c:Nat}{S:List Nat}{k x:Nat}(d:x∈dc r c S k):∃i,i<r∧x=aS c S i k:=by
 unfold dc J8 mj at d
 obtain⟨p,u,rfl⟩:=List.mem_map.1 d
 have h:=List.mem_range.1 u
 refine⟨p/1,by rw[Nat.div_one];omega,?_⟩
 show aS c S (0+p/1) (k+p%1)=aS c S (p/1) k
 rw[Nat.zero_add,Nat.mod_one,Nat.add_zero]
theorem qu:∀(d h:List Nat),(∀x∈d,ab (fQ x)≤10)→(∀y∈h,ab (fQ y)≤10)→xz d h≤(d.length:Rat)*100
 | [],_,_,_=>by
  show(0:Rat)≤((0:Nat):Rat)*100
  have:((0:Nat):Rat)=0:=rfl
  rw[this];grind
 |x::d,[],_,_=>by
  have A:xz (x::d) []=0:=rfl
  rw[A]
  exact Rat.mul_nonneg Rat.natCast_nonneg (by grind)
 |x::d,y::h,hx,hy=>by
  have F:=qu d h (fun z u=>hx z (List.mem_cons_of_mem _ u)) (fun z u=>hy z (List.mem_cons_of_mem _ u))
  have A:xz (x::d) (y::h)=ab (fQ x*fQ y)+xz d h:=rfl
  have D:((x::d).length:Rat)=(d.length:Rat)+1:=by rw[List.length_cons,Rat.natCast_add];rfl
  rw[A,D,bJ]
  have a:=Rat.mul_le_mul_of_nonneg_right (hx x List.mem_cons_self) (cL (fQ y))
  have b:=hy y List.mem_cons_self
  generalize ab (fQ x)*ab (fQ y)=z at*
  generalize (d.length:Rat)=n at*
  grind
theorem GO(r c:Nat)(S:List Nat)(p q:Nat):pK r c S p q=rY 0 (dc r c S p) (dc r c S q):=by
 unfold pK
 rw[Gs _ _ r (by rw[aH,bM];omega) (by rw[aH,bM];omega),k7,k7,List.take_of_length_le (by rw[bM];omega),List.take_of_length_le (by rw[bM];omega)]
theorem cg.col{r c:Nat}{S:List Nat}{B:Rat}(h:cg r c S B)(A:B≤100){k:Nat}(u:k<c):(∀x∈dc r c S k,x<18446744073709551616∧aj x=true)∧∀x∈dc r c S k,ab (fQ x)≤10:=by
 refine⟨fun x z=>?_,fun x z=>?_⟩
 ·obtain⟨i,d,rfl⟩:=xX z
  exact⟨h.lt i k d u,h.fin i k d u⟩
 ·obtain⟨i,d,rfl⟩:=xX z
  exact h.small A d u
theorem o9{r c:Nat}{S:List Nat}{B:Rat}(h:cg r c S B)(u:B≤100)(z:r≤6){p q:Nat}(A:p<c)(D:q<c):
  aj (pK r c S p q)=true∧ab (fQ (pK r c S p q))≤700∧9007199254740992*ab (fQ (pK r c S p q)-nm (dc r c S p) (dc r c S q))≤12600:=by
 obtain⟨Q,U,X⟩:=dz
 obtain⟨I,J⟩:=h.col u A
 obtain⟨K,L⟩:=h.col u D
 have d:=qu _ _ J L
 rw[bM]at d
 have H:(r:Rat)≤6:=Rat.natCast_le_natCast.2 z
 have N:=aR (show(10:Int)≤1000 by decide)
 have O:p2 10=1024:=by rw[show(10:Int)=((10:Nat):Int) by rfl,bu];rfl
 obtain⟨f,e⟩:=BI 700 (dc r c S p) (dc r c S q) (by rw[bM];omega) (by grind) (by grind) (fun x F=>(I x F).2) (fun y G=>(K y G).2) (by grind)
 rw[bM]at e
 rw[GO]
 have l:=IY (dc r c S p) (dc r c S q)
 have k:=dO (fQ (rY 0 (dc r c S p) (dc r c S q))-nm (dc r c S p) (dc r c S q)) (nm (dc r c S p) (dc r c S q))
 rw[show fQ (rY 0 (dc r c S p) (dc r c S q))-nm (dc r c S p) (dc r c S q)+nm (dc r c S p) (dc r c S q)=fQ (rY 0 (dc r c S p) (dc r c S q)) by grind]at k
 generalize ab (fQ (rY 0 (dc r c S p) (dc r c S q))-nm (dc r c S p) (dc r c S q))=Y at*
 generalize ab (fQ (rY 0 (dc r c S p) (dc r c S q)))=Z at*
 generalize xz (dc r c S p) (dc r c S q)=v3 at*
 generalize ab (nm (dc r c S p) (dc r c S q))=v4 at*
 generalize (r:Rat)=v5 at*
 exact⟨f,by grind,by grind⟩
theorem uv{r c low:Nat}{S:List Nat}{B:Rat}(h:cg r c S B)(H:B≤100)(hr:r≤6){k:Nat}(I:k<c)(J:aj low=true)(hl:p2 (-50)≤fQ low)(z:ku low (iD r c S k)=true):
  aj (iD r c S k)=true∧fQ low<fQ (iD r c S k)∧fQ (iD r c S k)≤p2 204∧9007199254740992*ab (fQ (iD r c S k)*fQ (iD r c S k)-bQ (dc r c S k))≤135*bQ (dc r c S k):=by
 obtain⟨F,G⟩:=h.col H I
 have e:iD r c S k=de (dc r c S k):=by unfold iD;rw[xI,k7]
 have d:(dc r c S k).length≤64:=by rw[bM];omega
 have A:aj (de (dc r c S k))=true:=by
  by_cases u:bB 0 (dc r c S k)=0
  ·have L:de (dc r c S k)=0:=by unfold de;rw[if_pos (.inl u)];exact u
   rw[L];decide+kernel
  ·have D:=jL _ F
   obtain⟨b1,U,X,Y,b5,b6,b7,b8,y,Z,b9,aa⟩:=gr 5000 _ D u
   obtain⟨t1,t2⟩:=gl (bB 0 (dc r c S k)) (by omega) U X
   have N:ab (fQ (bB 0 (dc r c S k)))=fQ (bB 0 (dc r c S k)):=aX (gj _ Y)
   have P1:=aR (show(10:Int)≤901 by decide)
   have P2:p2 10=1024:=by rw[show(10:Int)=((10:Nat):Int) by rfl,bu];rfl
   have O:eX (bB 0 (dc r c S k))<901:=kO (by have:=G y Z;grind)
   obtain⟨s,-,-,-,-,-,-,-,f,-⟩:=ks 5000 _ d D u (by omega)
   exact f
 rw[e]at z⊢
 have Q:=DU J A z
 obtain⟨T,u⟩:=uu _ d F (fun x K=>by have:=G x K;grind) (by grind)
 obtain⟨s1,s2,s3,s4,s5,s6,s7⟩:=tr _ d T u
 exact⟨A,Q,s5,s4⟩
theorem JS{r c low:Nat}{S:List Nat}{p q:Nat}(h:ug r c low S p q=false):ku low (iD r c S p)=true∧ku low (iD r c S q)=true∧ku (xV (mV (iD r c S p) (iD r c S q)) (-44)) (fR (pK r c S p q))=true:=by
 unfold ug at h
 revert h
 cases ku low (iD r c S p)<;>cases ku low (iD r c S q)<;>cases ku (xV (mV (iD r c S p) (iD r c S q)) (-44)) (fR (pK r c S p q))<;>simp
theorem DV(a b:Nat)(O:aj a=true)(Q:aj b=true)(G:p2 (-50)≤fQ a∧fQ a≤p2 204)(H:p2 (-50)≤fQ b∧fQ b≤p2 204):
  aj (xV (mV a b) (-44))=true∧p2 (-200)≤fQ (xV (mV a b) (-44))∧fQ (xV (mV a b) (-44))=fQ (mV a b)*p2 (-44)∧9007199254740992*ab (fQ (mV a b)-fQ a*fQ b)≤2*(fQ a*fQ b)∧aj (mV a b)=true:=by
 obtain⟨n1,n2,n3⟩:=dz
 have z:=aE (-50);have h:=aE 204
 have u:=Rat.mul_le_mul_of_nonneg_left G.2 (show 0≤fQ b by grind)
 have v:=Rat.mul_le_mul_of_nonneg_right H.2 (Rat.le_of_lt h)
 have w:=Rat.mul_le_mul_of_nonneg_left G.1 (show 0≤fQ b by grind)
 have x:=Rat.mul_le_mul_of_nonneg_right H.1 (Rat.le_of_lt z)
 have U:p2 204*p2 204=p2 408:=by rw[←aT];rfl
 have X:p2 (-50)*p2 (-50)=p2 (-100):=by rw[←aT];rfl
 rw[U]at v;rw[X]at x
 have lo:p2 (-100)≤fQ a*fQ b:=by rw[Rat.mul_comm (fQ a)];exact Rat.le_trans x w
 have hi:fQ a*fQ b≤p2 408:=by rw[Rat.mul_comm (fQ a)];exact Rat.le_trans u v
 have I:=aE (-100)
 have J:ab (fQ a*fQ b)=fQ a*fQ b:=aX (by grind)
 have Y:=aR (show(2+408:Int)≤1023 by decide)
 rw[aT,show p2 2=4 by rw[show(2:Int)=((2:Nat):Int) by rfl,bu];rfl]at Y
 have K:=aE 408
 obtain⟨f,e⟩:=ir a b O Q (by rw[J];grind)
 rw[J]at e
 have m2:=aR (show(-1075:Int)≤-53+-100-53 by decide)
 have A:9007199254740992*p2 (-1075)≤p2 (-100):=by
  have L:=aR (show(53+-1075:Int)≤-100 by decide)
  rw[aT,show p2 53=9007199254740992 by rw[show(53:Int)=((53:Nat):Int) by rfl,bu];rfl]at L
  exact L
 have Z:9007199254740992*ab (fQ (mV a b)-fQ a*fQ b)≤2*(fQ a*fQ b):=by grind
 have l:=br (fQ (mV a b)-fQ a*fQ b)
 have g1:p2 (-100)≤2*fQ (mV a b):=by grind
 have g2:fQ (mV a b)≤2*p2 408:=by grind
 have D:p2 (-100)*p2 (-44)=p2 (-144):=by rw[←aT];rfl
 have F:=aE (-44)
 have y1:=Rat.mul_le_mul_of_nonneg_right g1 (Rat.le_of_lt F)
 rw[D]at y1
 have d:=aR (show(-44:Int)≤0 by decide)
 rw[jM]at d
 have y2:=Rat.mul_le_mul_of_nonneg_left d (show 0≤fQ (mV a b) by grind)
 have N:ab (fQ (mV a b))=fQ (mV a b):=aX (by grind)
 have m4:=aR (show(1+-1022:Int)≤-144 by decide)
 have m5:=aR (show(1+-200:Int)≤-144 by decide)
 rw[aT,yT]at m4 m5
 obtain⟨z1,z2⟩:=gU (mV a b) (-44) (cY _ _) f (by rw[N];grind) (by rw[N];grind)
 exact⟨z1,by rw[z2];grind,z2,Z,f⟩
theorem xY{r c low:Nat}(z:r≤6)(Q:aj low=true)(U:p2 (-50)≤fQ low):g8 r c low:=by
 intro S p q h J K hB
 obtain⟨B1,B2,B3⟩:=JS hB
 have H:=(Rat.le_refl:(100:Rat)≤100)
 obtain⟨f1,n1,u1,_⟩:=uv h H z J Q U B1
 obtain⟨f2,n2,u2,_⟩:=uv h H z K Q U B2
 obtain⟨f3,l3,_⟩:=DV _ _ f1 f2 ⟨by grind,u1⟩ ⟨by grind,u2⟩
 obtain⟨I,g2,_⟩:=o9 h H z J K
 obtain⟨x1,x2,_⟩:=o9 h H z J J
 obtain⟨y1,y2,_⟩:=o9 h H z K K
 obtain⟨a1,a2⟩:=Hx _ I
 have b3:=DU f3 a1 B3
 rw[a2]at b3
 unfold iE
 have L:=oW r c S p p;have ly:=oW r c S q q;have X:=oW r c S p q
 generalize pK r c S p q=g at*
 generalize pK r c S p p=d at*
 generalize pK r c S q q=u at*
 clear f1 f2 f3 n1 n2 B1 B2 B3 hB
 have A:p2 10=1024:=by rw[show(10:Int)=((10:Nat):Int) by rfl,bu];rfl
 have P1:=aR (show(2+10:Int)≤1023 by decide)
 rw[aT,A,show p2 2=4 by rw[show(2:Int)=((2:Nat):Int) by rfl,bu];rfl]at P1
 --what stands above
 have N:fQ (fN d)= -fQ d:=nw d L
 have Y:aj (fN d)=true:=by rw[jF _ L];exact x1
 have t1:=dO (fQ u) (fQ (fN d))
 rw[N,kf]at t1
 have Z:=gV u (fN d) y1 Y (by rw[N];grind)
 have ea:=gT u (fN d) y1 Y Z
 rw[N]at ea
 have t2:=dO (fQ (aV u (fN d))-(fQ u+-fQ d)) (fQ u+-fQ d)
 rw[show fQ (aV u (fN d))-(fQ u+-fQ d)+(fQ u+-fQ d)=fQ (aV u (fN d)) by grind]at t2
 have sa:ab (fQ (aV u (fN d)))≤2000:=by
  generalize ab (fQ (aV u (fN d))-(fQ u+-fQ d))=v1 at*
  generalize ab (fQ u+-fQ d)=v2 at*
  generalize ab (fQ u)=v3 at*
  generalize ab (fQ d)=v4 at*
  generalize ab (fQ (aV u (fN d)))=v5 at*
  grind
 --and below
 have t3:=dO (fQ g) (fQ g)
 have fd:=gV g g I I (by grind)
 have ed:=gT g g I I fd
 have t4:=dO ((fQ g+fQ g)-fQ (aV g g)) (fQ (aV g g))
 rw[show fQ g+fQ g-fQ (aV g g)+fQ (aV g g)=2*fQ g by grind,bJ,show ab 2=2 from aX (by grind),vC]at t4
 have sd:ab (fQ g)≤ab (fQ (aV g g)):=by
  have e:ab (fQ g+fQ g)=2*ab (fQ g):=by rw[show fQ g+fQ g=2*fQ g by grind,bJ,show ab 2=2 from aX (by grind)]
  rw[e]at ed
  have:=cL (fQ g)
  generalize ab (fQ (aV g g)-(fQ g+fQ g))=v1 at*
  generalize ab (fQ (aV g g))=v2 at*
  generalize ab (fQ g)=v3 at*
  grind
 have aa:=aE (-200)
 have O:p2 (-200)≤ab (fQ (aV g g)):=by grind
 have kd:fK (aV g g)≠0:=fun e=>by
  rw[bm _ e,jJ]at O
  grind
 have ld:aV g g<18446744073709551616:=gS _ _ X X
 have la:aV u (fN d)<18446744073709551616:=gS _ _ ly (nC _ L)
 have D:p2 1000*p2 (-200)=p2 800:=by rw[←aT];rfl
 have F:=aR (show(1+10:Int)≤800 by decide)
 rw[aT,A,yT]at F
 have w1:=Rat.mul_le_mul_of_nonneg_left O (Rat.le_of_lt (aE 1000))
 rw[D]at w1
 obtain⟨fz,ez⟩:=o6 (aV u (fN d)) (aV g g) la ld Z fd kd (by grind)
 have zz:Lp d u g=dV (aV u (fN d)) (aV g g):=rfl
 rw[zz]
 refine zO _ fz ?_
 have t5:=dO (fQ (dV (aV u (fN d)) (aV g g))*fQ (aV g g)-fQ (aV u (fN d))) (fQ (aV u (fN d)))
 rw[show fQ (dV (aV u (fN d)) (aV g g))*fQ (aV g g)-fQ (aV u (fN d))+fQ (aV u (fN d))=fQ (dV (aV u (fN d)) (aV g g))*fQ (aV g g) by grind,bJ]at t5
 have s2:ab (fQ (aV g g))≤2000:=by
  have t6:=dO (fQ (aV g g)-(fQ g+fQ g)) (fQ g+fQ g)
  rw[show fQ (aV g g)-(fQ g+fQ g)+(fQ g+fQ g)=fQ (aV g g) by grind]at t6
  grind
 have s3:=Rat.mul_le_mul_of_nonneg_left s2 (show 0≤p2 (-1075) by exact Rat.le_of_lt (aE _))
 obtain⟨k1,k2,k3⟩:=dz
 have s4:=Rat.mul_le_mul_of_nonneg_left O (cL (fQ (dV (aV u (fN d)) (aV g g))))
 have s5:ab (fQ (dV (aV u (fN d)) (aV g g)))*p2 (-200)≤3000:=by
  generalize ab (fQ (dV (aV u (fN d)) (aV g g))*fQ (aV g g)-fQ (aV u (fN d)))=v1 at*
  generalize ab (fQ (dV (aV u (fN d)) (aV g g)))*ab (fQ (aV g g))=v2 at*
  generalize ab (fQ (dV (aV u (fN d)) (aV g g)))*p2 (-200)=v3 at*
  generalize p2 (-1075)*ab (fQ (aV g g))=v4 at*
  generalize ab (fQ (aV u (fN d)))=v5 at*
  generalize p2 (-1075)=v6 at*
  clear k2
  grind
 have s6:=Rat.mul_le_mul_of_nonneg_right s5 (Rat.le_of_lt (aE 200))
 have e0:p2 (-200)*p2 200=1:=by rw[←aT];exact jM
 rw[Rat.mul_assoc,e0,Rat.mul_one]at s6
 have G:p2 220=1048576*p2 200:=by rw[show(220:Int)=20+200 by rfl,aT,show p2 20=1048576 by rw[show(20:Int)=((20:Nat):Int) by rfl,bu];rfl]
 have:=aE 200
 rw[G]
 grind
open Go.RowKit
theorem uw(n:Nat)(c:Rat):sm n (fun _=>c)=(n:Rat)*c:=by
 induction n with
 |zero=>show(0:Rat)=((0:Nat):Rat)*c;have:((0:Nat):Rat)=0:=rfl;rw[this];grind
 |succ n ih=>
  show sm n (fun _=>c)+c=((n+1:Nat):Rat)*c
  rw[ih,Rat.natCast_add]
  have:((1:Nat):Rat)=1:=rfl
  rw[this]
  grind
end Go.Proofs.YtcbcmlaogehimaaGreatDoor
namespace Go.Proofs.YtcbcmlaogehimaaGreatDoor
theorem GQ(h:List Nat):bQ h=dt h.length (fc h) (fc h):=by
 have e:∀d:List Nat,bQ d=nm d d:=by
  intro d
  induction d with
  |nil=>rfl
  |cons y d ih=>
   show fQ y*fQ y+bQ d=fQ y*fQ y+nm d d
   rw[ih]
 rw[e,←KG h h rfl]
structure bX (A:List Nat) (k:Int):Prop where
 fin:∀x∈A,x<18446744073709551616∧aj x=true∧(fK x=0∨-100≤eX x)
 top:bB 0 A≠0
 ek:eX (bB 0 A)=k
 up:-100≤k∧k<100
theorem bX.one{A:List Nat}{k:Int}(h:bX A k){x:Nat}(z:x∈A):aj (xV x (-k))=true∧fQ (xV x (-k))=fQ x*p2 (-k)∧ab (fQ x*p2 (-k))≤2:=by
 obtain⟨D,u,I⟩:=h.fin x z
 have F:=jL A (fun x d=>⟨(h.fin x d).1,(h.fin x d).2.1⟩)
 obtain⟨X,J,K,L,Y,Z,N,b8,_⟩:=gr 5000 A F h.top
 have P:=aE (-k)
 by_cases d:fK x=0
 ·rw[ip x _ d,bm x d,Rat.zero_mul,jJ]
  exact⟨u,rfl,by grind⟩
 ·obtain⟨t1,t2⟩:=gl x D u d
  obtain⟨u1,u2⟩:=gl (bB 0 A) (by omega) J K
  rw[h.ek]at u1 u2
  have O:=N x z
  have G:ab (fQ (bB 0 A))=fQ (bB 0 A):=aX (gj _ L)
  have e:ab (fQ x*p2 (-k))=ab (fQ x)*p2 (-k):=by rw[bJ,aX (Rat.le_of_lt P)]
  have H:ab (fQ x)*p2 (-k)≤2:=by
   have v:=Rat.mul_le_mul_of_nonneg_right (show ab (fQ x)≤p2 (k+1) by grind) (Rat.le_of_lt P)
   rw[←aT,show k+1+-k=1 by omega,yT]at v
   exact v
  have lo:p2 (-1022)≤ab (fQ x)*p2 (-k):=by
   have Q:=aR (show-100≤eX x by exact I.resolve_left d)
   have v:=Rat.mul_le_mul_of_nonneg_right (show p2 (-100)≤ab (fQ x) by grind) (Rat.le_of_lt P)
   rw[←aT]at v
   have U:=aR (show(-1022:Int)≤-100+-k by have:=h.up;omega)
   grind
  have B:=mf
  obtain⟨z1,z2⟩:=gU x (-k) D u (by grind) lo
  exact⟨z1,z2,by rw[e];exact H⟩
theorem GR{A:List Nat}{k:Int}{y:Nat}(d:y∈fw A k):∃x∈A,y=xV x k:=by
 unfold fw at d
 obtain⟨i,h,rfl⟩:=List.mem_map.1 d
 have:=List.mem_range.1 h
 exact⟨A.getD i 0,by rw[List.getD_eq_getElem?_getD,List.getElem?_eq_getElem this];exact List.getElem_mem this,rfl⟩
theorem rB(A:List Nat)(k:Int):fw A k=A.map (fun x=>xV x k):=by
 unfold fw
 refine List.ext_getElem (by simp) (fun i d u=>?_)
 have h:i<A.length:=by simpa using d
 simp[List.getD_eq_getElem?_getD,List.getElem?_eq_getElem h]
theorem bX.size{A:List Nat}{k:Int}(h:bX A k){y:Nat}(u:y∈fw A (-k)):y<18446744073709551616∧aj y=true∧ab (fQ y)≤2:=by
 obtain⟨x,d,rfl⟩:=GR u
 obtain⟨a,b,c⟩:=h.one d
 exact⟨oy _ _ (h.fin x d).1,a,by rw[b];exact c⟩
theorem bX.sum{A:List Nat}{k:Int}(h:bX A k):∀B:List Nat,(∀x∈B,x∈A)→bQ (B.map (fun x=>xV x (-k)))=bQ B*(p2 (-k)*p2 (-k))
 | [],_=>by
  show(0:Rat)=0*_
  rw[Rat.zero_mul]
 |x::B,hB=>by
  have u:=bX.sum h B (fun y d=>hB y (List.mem_cons_of_mem _ d))
  obtain⟨_,b,_⟩:=h.one (hB x List.mem_cons_self)
  have z:bQ ((x::B).map (fun x=>xV x (-k)))=fQ (xV x (-k))*fQ (xV x (-k))+bQ (B.map (fun x=>xV x (-k))):=rfl
  have D:bQ (x::B)=fQ x*fQ x+bQ B:=rfl
  rw[z,D,u,b,Rat.add_mul]
  grind
theorem bX.sumS{A:List Nat}{k:Int}(h:bX A k):bQ (fw A (-k))=bQ A*(p2 (-k)*p2 (-k)):=by
 rw[rB]
 exact h.sum A (fun _ h=>h)
theorem GT{d:List Nat}{x:Nat}(h:x∈d):fQ x*fQ x≤bQ d:=by
 induction d with
 |nil=>cases h
 |cons y ys ih=>
  have e:bQ (y::ys)=fQ y*fQ y+bQ ys:=rfl
  have n:=jn ys
  have s:=aw (fQ y)
  rw[e]
  rcases List.mem_cons.1 h with g|g
  ·rw[g];grind
  ·have:=ih g
   grind
theorem GU{a b c:Rat}(h:a≤b)(e:2*b=1)(n:99/100≤c):a≤c:=by grind
theorem JT{a:Rat}(h:a≤2):a≤64:=by grind
theorem DW{N P U M:Rat}(y:N*P≤N*1)(v:N≤U)(m:2*U≤M)(u:0<U):N*P<M:=by grind
theorem ux{N P L:Rat}(y:99/100*P≤N*P)(m:2*L≤P)(p:0<P):L≤N*P:=by grind
theorem bX.low{A:List Nat}{k:Int}(h:bX A k)(hl:A.length≤64):
  1≤bQ (fw A (-k))∧aj (xV (nr (bH (fw A (-k)))) (-44))=true∧p2 (-50)≤fQ (xV (nr (bH (fw A (-k)))) (-44))∧
  100*(fQ (xV (nr (bH (fw A (-k)))) (-44))*fQ (xV (nr (bH (fw A (-k)))) (-44)))≤101*(p2 (-88)*bQ (fw A (-k))):=by
 have hT:=jL A (fun x u=>⟨(h.fin x u).1,(h.fin x u).2.1⟩)
 obtain⟨b1,b2,b3,b4,b5,b6,b7,b8,y,hy,b9,ao⟩:=gr 5000 A hT h.top
 obtain⟨u1,u2⟩:=gl (bB 0 A) (by omega) b2 b3
 rw[h.ek]at u1
 have ae:ab (fQ (bB 0 A))=fQ (bB 0 A):=aX (gj _ b4)
 obtain⟨z1,z2,z3⟩:=h.one hy
 have P:=aE (-k)
 have N:1≤ab (fQ (xV y (-k))):=by
  rw[z2,bJ,aX (Rat.le_of_lt P)]
  have v:=Rat.mul_le_mul_of_nonneg_right (show p2 k≤ab (fQ y) by grind) (Rat.le_of_lt P)
  rw[←aT,show k+-k=0 by omega,jM]at v
  exact v
 have D:=fun z (hz:z∈fw A (-k))=>h.size hz
 have F:xV y (-k)∈fw A (-k):=by rw[rB];exact List.mem_map.2 ⟨y,hy,rfl⟩
 have G:(fw A (-k)).length≤64:=by rw[jK];exact hl
 generalize fw A (-k)=S at*
 generalize xV y (-k)=t at*
 have s1:1≤bQ S:=by
  have v:=GT F
  have w:=Rat.mul_le_mul_of_nonneg_left N (cL (fQ t))
  rw[cD]at w
  grind
 have J:=jL S (fun x u=>⟨(D x u).1,(D x u).2.1⟩)
 obtain⟨d1,d2,d3,d4⟩:=kP S 0 (by decide) (fun x I=>(D x I).2.1)
 have u:bB 0 S≠0:=fun e=>by
  have h1:=d3 t F
  rw[e]at h1
  rw[f8,show fR t=0 by omega,dE]at N
  have:((0:Nat):Rat)=0:=rfl
  rw[this]at N
  grind
 obtain⟨c1,c2,c3,c4,c5,c6,c7,c8,q,hq,c9,ar⟩:=gr 5000 S J u
 obtain⟨w1,w2⟩:=gl (bB 0 S) (by omega) c2 c3
 have ah:ab (fQ (bB 0 S))=fQ (bB 0 S):=aX (gj _ c4)
 have P1:=aR (show(10:Int)≤901 by decide)
 have P2:p2 10=1024:=by rw[show(10:Int)=((10:Nat):Int) by rfl,bu];rfl
 have am:eX (bB 0 S)<901:=kO (by have:=(D q hq).2.2;grind)
 have g:=DT 5000 S G J u (by omega)
 have O:=aR (show(-50:Int)≤-1 by decide)
 have Q:2*p2 (-1)=1:=by have:=cT (-1);rw[show(-1:Int)+1=0 by rfl,jM]at this;exact this.symm
 have t1:=c7 t F
 have n1:99/100≤fQ (de S):=by grind
 obtain⟨T,_⟩:=uu S G (fun x I=>⟨(D x I).1,(D x I).2.1⟩) (fun x I=>JT (D x I).2.2) (GU O Q n1)
 obtain⟨v1,v2,v3,v4,v5,v6,v7⟩:=tr S G T u
 have en:nr (bH S)=de S:=by rw[xI,k7]
 have ln:de S<18446744073709551616:=by rw[←en];exact vT _
 rw[en]
 have an:ab (fQ (de S))=fQ (de S):=aX (by grind)
 have H:=aE (-44)
 have d:=aR (show(-44:Int)≤0 by decide)
 rw[jM]at d
 have y2:=Rat.mul_le_mul_of_nonneg_left d (show 0≤fQ (de S) by grind)
 have U:=Rat.mul_le_mul_of_nonneg_right n1 (Rat.le_of_lt H)
 have X:=aR (show(1+-1022:Int)≤-44 by decide)
 have Y:=aR (show(1+-50:Int)≤-44 by decide)
 have Z:=aR (show(1+204:Int)≤1023 by decide)
 rw[aT,yT]at X Y Z
 have K:=aE 204
 obtain⟨f1,f2⟩:=gU (de S) (-44) ln v2 (by rw[an];exact DW y2 v5 Z K) (by rw[an];exact ux U X H)
 refine⟨s1,f1,by rw[f2];exact ux U Y H,?_⟩
 rw[f2]
 have aa:p2 (-44)*p2 (-44)=p2 (-88):=by rw[←aT];rfl
 rw[show fQ (de S)*p2 (-44)*(fQ (de S)*p2 (-44))=fQ (de S)*fQ (de S)*(p2 (-44)*p2 (-44)) by grind,aa]
 have l:=br (fQ (de S)*fQ (de S)-bQ S)
 have L:=Rat.mul_le_mul_of_nonneg_right (show 100*(fQ (de S)*fQ (de S))≤101*bQ S by clear v1 y2 U X Y Z;generalize fQ (de S)*fQ (de S)=a at*;generalize ab (a-bQ S)=b at*;grind) (Rat.le_of_lt (aE (-88)))
 have Q:100*(fQ (de S)*fQ (de S))*p2 (-88)=100*(fQ (de S)*fQ (de S)*p2 (-88)):=by rw[Rat.mul_assoc]
 have e2:101*bQ S*p2 (-88)=101*(p2 (-88)*bQ S):=by rw[Rat.mul_assoc,Rat.mul_comm (bQ S)]
 rw[Q,e2]at L
 exact L
theorem xZ{f:Nat→Rat}{M:Rat}:∀n,(∀j,j<n→f j≤M)→dU f n≤(n:Rat)*M
 |0,_=>by
  show(0:Rat)≤((0:Nat):Rat)*M
  have:((0:Nat):Rat)=0:=rfl
  rw[this];grind
 |n+1,h=>by
  have z:=xZ n (fun j u=>h j (by omega))
  have d:((n+1:Nat):Rat)=(n:Rat)+1:=by rw[Rat.natCast_add];rfl
  have:=h n (by omega)
  show dU f n+f n≤_
  rw[d,Rat.add_mul,Rat.one_mul]
  grind
theorem bX.rows{A:List Nat}{k:Int}(h:bX A k){r c:Nat}(G:A.length=r*c)(H:c≤6):cg r c (fw A (-k)) 24:=by
 have D:∀i j,i<r→j<c→aS c (fw A (-k)) i j∈fw A (-k):=fun i j d z=>by
  have F:i*c+j<(fw A (-k)).length:=by rw[jK,G];exact cZ d z
  unfold aS
  rw[List.getD_eq_getElem?_getD,List.getElem?_eq_getElem F]
  exact List.getElem_mem F
 refine⟨fun i j d z=>(h.size (D i j d z)).2.1,fun i j d z=>(h.size (D i j d z)).1,fun i d=>?_⟩
 have u:=xZ (f:=fun j=>fQ (aS c (fw A (-k)) i j)*fQ (aS c (fw A (-k)) i j)) (M:=4) c (fun j z=>by
  have v:=(h.size (D i j d z)).2.2
  have w:=Rat.mul_le_mul_of_nonneg_left v (cL (fQ (aS c (fw A (-k)) i j)))
  show fQ (aS c (fw A (-k)) i j)*fQ (aS c (fw A (-k)) i j)≤4
  rw[cD]at w
  grind)
 have I:(c:Rat)≤6:=Rat.natCast_le_natCast.2 H
 grind
theorem pa(c:Nat):cg c c (iH c) 1:=by
 have e:∀i j,i<c→j<c→aS c (iH c) i j=if j=i then 4607182418800017408 else 0:=fun i j d h=>kY c c _ d h
 refine⟨fun i j d h=>?_,fun i j d h=>?_,fun i d=>?_⟩
 ·rw[e i j d h];split<;>decide+kernel
 ·rw[e i j d h];split<;>decide
 ·have z:=gf (f:=fun j=>fQ (aS c (iH c) i j)*fQ (aS c (iH c) i j)) (g:=fun _=>0) (p:=i) (q:=c) (by omega) c (fun j h u _=>by
   show fQ (aS c (iH c) i j)*fQ (aS c (iH c) i j)=0
   rw[e i j d h,if_neg u,bm 0 (by decide)]
   grind)
  have A:∀n,dU (fun _=>0) n=0:=fun n=>by
   induction n with
   |zero=>rfl
   |succ n ih=>show dU (fun _=>0) n+0=0;rw[ih];grind
  rw[z,A,if_pos d,if_neg (by omega)]
  show 0+(fQ (aS c (iH c) i i)*fQ (aS c (iH c) i i)-0)+0≤1
  rw[e i i d d,if_pos rfl,gM]
  grind
theorem GV{a P Q M:Rat}(v:a*P≤10*P)(m:1024*P≤Q)(d:2*Q≤M)(p:0<P):a*P<M:=by
 generalize a*P=z at*
 grind
theorem DX{a b:Rat}(h:2*a≤2*b):a≤b:=by grind
theorem DY(x:Nat)(k:Int)(u:x<18446744073709551616)(z:aj x=true)(D:ab (fQ x)≤10)(F:-100≤k∧k<100):
  aj (xV x k)=true∧ab (fQ (xV x k)-fQ x*p2 k)≤p2 (-1075):=by
 have P:=aE k
 have m:=aR (show 10+k≤120 by omega)
 have d:p2 10=1024:=by rw[show(10:Int)=((10:Nat):Int) by rfl,bu];rfl
 have v:=Rat.mul_le_mul_of_nonneg_right D (Rat.le_of_lt P)
 have e:p2 (10+k)=1024*p2 k:=by rw[aT,d]
 have A:=aR (show(1+120:Int)≤1023 by decide)
 rw[aT,yT]at A
 have f:=jG x k u z (GV v (by rw[←e];exact m) A P)
 refine⟨f,?_⟩
 rcases jH x k u z f with g|⟨_,_,g⟩
 ·rw[g,show fQ x*p2 k-fQ x*p2 k=0 by grind,jJ]
  exact Rat.le_of_lt (aE _)
 ·have h:=cT (-1075)
  rw[show(-1075:Int)+1= -1074 by rfl]at h
  rw[h]at g
  exact DX g
theorem dI(f:Nat→Rat):∀n,dU f n=sm n f
 |0=>rfl
 |n+1=>by
  show dU f n+f n=sm n f+f n
  rw[dI f n]
def i9(p q:Nat)(c s:Rat)(x:Nat→Rat)(j:Nat):Rat:=if j=p then c*x p-s*x q else if j=q then s*x p+c*x q else x j
theorem uy{m p q:Nat}(z:p<m)(A:q<m)(u:p≠q)(c s e f:Rat)(v d x:Nat→Rat)(D:d p=c*v p+s*v q+e)(F:d q=c*v q-s*v p+f)(G:∀j,j<m→j≠p→j≠q→d j=v j):
  dt m d x=dt m v (i9 p q c s x)+(e*x p+f*x q):=by
 have k:=gf (f:=fun j=>d j*x j) (g:=fun j=>v j*i9 p q c s x j) u m (fun j H a b=>by
  show d j*x j=v j*i9 p q c s x j
  unfold i9
  rw[G j H a b,if_neg a,if_neg b])
 rw[if_pos z,if_pos A,dI,dI]at k
 have I:i9 p q c s x p=c*x p-s*x q:=by unfold i9;rw[if_pos rfl]
 have J:i9 p q c s x q=s*x p+c*x q:=by unfold i9;rw[if_neg (fun h=>u h.symm),if_pos rfl]
 show sm m (fun j=>d j*x j)=sm m (fun j=>v j*i9 p q c s x j)+_
 rw[k]
 show _+(d p*x p-v p*i9 p q c s x p)+(d q*x q-v q*i9 p q c s x q)=_
 rw[I,J,D,F]
 grind
theorem Hy{m p q:Nat}(u:p<m)(z:q<m)(d:p≠q)(c s:Rat)(x:Nat→Rat):dt m (i9 p q c s x) (i9 p q c s x)=dt m x x+(c*c+s*s-1)*(x p*x p+x q*x q):=by
 have k:=gf (f:=fun j=>i9 p q c s x j*i9 p q c s x j) (g:=fun j=>x j*x j) d m (fun j _ a b=>by
  show i9 p q c s x j*i9 p q c s x j=x j*x j
  unfold i9
  rw[if_neg a,if_neg b])
 rw[if_pos u,if_pos z,dI,dI]at k
 have A:i9 p q c s x p=c*x p-s*x q:=by unfold i9;rw[if_pos rfl]
 have D:i9 p q c s x q=s*x p+c*x q:=by unfold i9;rw[if_neg (fun h=>d h.symm),if_pos rfl]
 show sm m (fun j=>i9 p q c s x j*i9 p q c s x j)=sm m (fun j=>x j*x j)+_
 rw[k]
 show _+(i9 p q c s x p*i9 p q c s x p-x p*x p)+(i9 p q c s x q*i9 p q c s x q-x q*x q)=_
 rw[A,D]
 grind
theorem DZ{m p q:Nat}(u:p<m)(A:q<m)(d:p≠q)(x:Nat→Rat):x p*x p+x q*x q≤dt m x x:=by
 have k:=gf (f:=fun j=>x j*x j) (g:=fun j=>if j=p∨j=q then 0 else x j*x j) d m (fun j _ a b=>by
  show x j*x j=if j=p∨j=q then 0 else x j*x j
  rw[if_neg (fun h=>h.elim a b)])
 rw[if_pos u,if_pos A]at k
 have z:=wF (f:=fun j=>if j=p∨j=q then 0 else x j*x j) m (fun j _=>by
  show 0≤if j=p∨j=q then 0 else x j*x j
  split
  ·exact Rat.le_refl
  ·exact aw _)
 have e:dU (fun j=>x j*x j) m=dt m x x:=dI _ m
 rw[←e,k]
 show _≤_+(x p*x p-if p=p∨p=q then 0 else x p*x p)+(x q*x q-if q=p∨q=q then 0 else x q*x q)
 rw[if_pos (.inl rfl),if_pos (.inr rfl)]
 grind
theorem JU(n:Nat)(l:Rat)(u d:Nat→Rat):l*(2*ab (dt n u d))≤l*l*dt n u u+dt n d d:=by
 have h:∀t:Rat,t*t=l*l→-(2*(t*dt n u d))≤l*l*dt n u u+dt n d d:=by
  intro t A
  have z:=kQ n (fun i=>t*u i+d i)
  rw[oC,ee,ee,jp,jp,fG,fG,gt n d u]at z
  rw[show t*(t*dt n u u)=t*t*dt n u u by grind,A]at z
  grind
 have a:=h l rfl
 have b:=h (-l) (by grind)
 unfold ab
 split<;>grind
def uU(n m:Nat)(v:Nat→Nat→Rat)(ε:Rat):Prop:=∀x:Nat→Rat,ab (dt n (fun i=>dt m (v i) x) (fun i=>dt m (v i) x)-dt m x x)≤ε*dt m x x
theorem GW{U D G X Z θ ε:Rat}(h:ab (U-G)≤ε*G)(z:G=X+Z)(F:562949953421312*ab Z≤X)(hD:81129638414606681695789005144064*D≤108*X)(H:0≤D)(I:0≤X)(u:1000*ε≤1)(d:0≤ε)
  (J:11*(2*ab θ)≤11*(11/9007199254740992)*U+9007199254740992*D):ab (U+(2*θ+D)-X)≤(ε+40/9007199254740992)*X:=by
 have A:=br Z
 have lU:=br (U-G)
 have K:=br θ
 have L:ε*G=ε*X+ε*Z:=by rw[z];grind
 have N:=Rat.mul_le_mul_of_nonneg_right u I
 have O:=Rat.mul_le_mul_of_nonneg_left F d
 have e4:=Rat.mul_le_mul_of_nonneg_left A.1 d
 have Q:=Rat.mul_le_mul_of_nonneg_left A.2 d
 rw[L]at h
 rw[Rat.add_mul]
 have Y:ε* -Z= -(ε*Z):=by grind
 rw[Y]at Q
 rw[show ε*(562949953421312*ab Z)=562949953421312*(ε*ab Z) by grind]at O
 rw[show 1000*ε*X=1000*(ε*X) by grind]at N
 subst z
 generalize ε*ab Z=w1 at*
 generalize ε*Z=w2 at*
 generalize ε*X=w3 at*
 generalize ab (U-(X+Z))=w4 at*
 generalize ab Z=w5 at*
 generalize ab θ=w6 at*
 refine mE ?_ ?_ <;>grind
theorem mt{f:Nat→Rat}{M:Rat}:∀n,(∀j,j<n→f j≤M)→dU f n≤(n:Rat)*M
 |0,_=>by
  show(0:Rat)≤((0:Nat):Rat)*M
  have:((0:Nat):Rat)=0:=rfl
  rw[this];grind
 |n+1,h=>by
  have z:=mt n (fun j u=>h j (by omega))
  have d:((n+1:Nat):Rat)=(n:Rat)+1:=by rw[Rat.natCast_add];rfl
  have:=h n (by omega)
  show dU f n+f n≤_
  rw[d,Rat.add_mul,Rat.one_mul]
  grind
theorem JV{e f a b X:Rat}(d:9007199254740992*ab e≤3)(u:9007199254740992*ab f≤3)(h:a*a+b*b≤X):81129638414606681695789005144064*((e*a+f*b)*(e*a+f*b))≤18*X:=by
 have A:=cL e;have D:=cL f
 have F:=Rat.mul_le_mul_of_nonneg_left d A
 have G:=Rat.mul_le_mul_of_nonneg_left u D
 have I:81129638414606681695789005144064*(e*e)≤9:=by
  rw[←cD e]
  rw[show ab e*(9007199254740992*ab e)=9007199254740992*(ab e*ab e) by grind]at F
  generalize ab e*ab e=w at*
  grind
 have J:81129638414606681695789005144064*(f*f)≤9:=by
  rw[←cD f]
  rw[show ab f*(9007199254740992*ab f)=9007199254740992*(ab f*ab f) by grind]at G
  generalize ab f*ab f=w at*
  grind
 have z:=aw (e*b-f*a)
 have H:0≤a*a+b*b:=by have:=aw a;have:=aw b;grind
 have k:(e*a+f*b)*(e*a+f*b)+(e*b-f*a)*(e*b-f*a)=(e*e+f*f)*(a*a+b*b):=by grind
 have m:=Rat.mul_le_mul_of_nonneg_right (show 81129638414606681695789005144064*(e*e+f*f)≤18 by grind) H
 rw[show 81129638414606681695789005144064*(e*e+f*f)*(a*a+b*b)=81129638414606681695789005144064*((e*e+f*f)*(a*a+b*b)) by grind,←k]at m
 generalize (e*a+f*b)*(e*a+f*b)=K at*
 generalize (e*b-f*a)*(e*b-f*a)=L at*
 generalize a*a+b*b=N at*
 grind
theorem uU.turn{n m p q:Nat}(hn:n≤6)(G:p<m)(H:q<m)(A:p≠q){c s ε:Rat}{v z:Nat→Nat→Rat}(h:uU n m v ε)(I:1000*ε≤1)(D:0≤ε)(J:562949953421312*ab (c*c+s*s-1)≤1)
  (he:∀i,i<n→9007199254740992*ab (z i p-(c*v i p+s*v i q))≤3) (hf:∀i,i<n→9007199254740992*ab (z i q-(c*v i q-s*v i p))≤3)
  (h3:∀i,i<n→∀j,j<m→j≠p→j≠q→z i j=v i j):uU n m z (ε+40/9007199254740992):=by
 intro x
 obtain⟨u,Z⟩:∃u:Nat→Rat,u=fun i=>dt m (v i) (i9 p q c s x):=⟨_,rfl⟩
 obtain⟨d,hd⟩:∃d:Nat→Rat,d=fun i=>(z i p-(c*v i p+s*v i q))*x p+(z i q-(c*v i q-s*v i p))*x q:=⟨_,rfl⟩
 have N:∀i,i<n→dt m (z i) x=u i+d i:=fun i F=>by
  rw[Z,hd]
  exact uy G H A c s (z i p-(c*v i p+s*v i q)) (z i q-(c*v i q-s*v i p)) (v i) (z i) x (by grind) (by grind) (h3 i F)
 have O:dt n (fun i=>dt m (z i) x) (fun i=>dt m (z i) x)=dt n u u+(2*dt n u d+dt n d d):=by
  rw[d6 N N,oC,ee,ee,gt n d u]
  grind
 have X0:=kQ m x
 have Q:=DZ G H A x
 have D0:=kQ n d
 have U:81129638414606681695789005144064*dt n d d≤108*dt m x x:=by
  have k:=mt (f:=fun i=>81129638414606681695789005144064*(d i*d i)) (M:=18*dt m x x) n (fun i F=>by
   show 81129638414606681695789005144064*(d i*d i)≤18*dt m x x
   rw[hd]
   exact JV (he i F) (hf i F) Q)
  have e:dU (fun i=>81129638414606681695789005144064*(d i*d i)) n=81129638414606681695789005144064*dt n d d:=by
   have g:∀k,dU (fun i=>81129638414606681695789005144064*(d i*d i)) k=81129638414606681695789005144064*dt k d d:=by
    intro k
    induction k with
    |zero=>show(0:Rat)=_*0;grind
    |succ k ih=>
     show dU (fun i=>81129638414606681695789005144064*(d i*d i)) k+81129638414606681695789005144064*(d k*d k)=81129638414606681695789005144064*(dt k d d+d k*d k)
     rw[ih]
     grind
   exact g n
  rw[e]at k
  have K:(n:Rat)≤6:=Rat.natCast_le_natCast.2 hn
  have u:=Rat.mul_le_mul_of_nonneg_right K (show 0≤18*dt m x x by grind)
  rw[show 6*(18*dt m x x)=108*dt m x x by grind]at u
  exact Rat.le_trans k u
 have T:=JU n (11/9007199254740992) u d
 have L:=h (i9 p q c s x)
 rw[O]
 have eu:dt n (fun i=>dt m (v i) (i9 p q c s x)) (fun i=>dt m (v i) (i9 p q c s x))=dt n u u:=by rw[Z]
 rw[eu]at L
 refine GW L (Hy G H A c s x) ?_ U D0 X0 I D ?_
 ·have X:0≤x p*x p+x q*x q:=by have:=aw (x p);have:=aw (x q);grind
  rw[bJ,aX X]
  have Y:=Rat.mul_le_mul_of_nonneg_right J X
  rw[Rat.mul_assoc,Rat.one_mul]at Y
  exact Rat.le_trans Y Q
 ·generalize dt n u u=w1 at*
  generalize dt n d d=w2 at*
  generalize ab (dt n u d)=w3 at*
  clear O U L
  grind
end Go.Proofs.YtcbcmlaogehimaaGreatDoor
