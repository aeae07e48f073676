/- Part 41 of the texts. -/
import Derived.Test.YtcbcmlaogehimaaGreatDoorPartu40
import Derived.Lib.SmallJoins
import Derived.Test.YtcbcmlaogehimaaGreatDoorRows
import Derived.Deep.DeepHandedRow
namespace Go.Proofs.YtcbcmlaogehimaaGreatDoor
open Go.RowKit
theorem AL(n:Nat):∃K:Nat,2^n=K/\0<K:=⟨2^n,rfl,Nat.pow_pos (by decide)⟩
theorem jj(f:Nat->Int):∀n,((dN f n:Int):Rat)=sm n (fun i=>((f i:Int):Rat))
 |0=>rfl
 |n+1=>by
  show((dN f n+f n:Int):Rat)=sm n _+_;rw[Rat.intCast_add,jj f n]
theorem mj(n:Nat)(c:Rat)(f:Nat->Rat):sm n (fun i=>f i*c)=sm n f*c:=by
 rw[Rat.mul_comm,<-iO];exact bN (fun i _=>Rat.mul_comm _ _)
theorem Iz(n:Nat)(f:Nat->Rat):sm n (fun i=>-(f i))= -(sm n f):=by
 have h:=iO n (-1) f;rw[show-(sm n f)=(-1)*sm n f by grind,<-h];exact bN (fun i _=>by grind)
theorem AM{a b:Rat}(h:a=b):a<=b:=h▸Rat.le_refl
theorem yt{n K:Nat}(h:2^n=K):((2:Int)^n:Int)=((K:Nat):Int):=by
 have e:((2^n:Nat):Int)=((K:Nat):Int):=by rw[h]
 rw[Int.natCast_pow]at e;exact e
theorem Mn{n m K:Nat}(h:2^n=K)(e:m=n+n):2^m=K*K:=by rw[e,Nat.pow_add,h]
theorem yu:p2 (-1074)*p2 (-1074)=p2 (-2148):=by rw[<-bR];rfl
theorem Po(r c:Nat)(S:H3)(k:Nat):dt r (cv c S r k) (cv c S r k)=((dN (fun i=>fZ (a8 c S i k)*fZ (a8 c S i k)) r:Int):Rat)*p2 (-2148):=by
 rw[jj,<-mj,<-yu];exact bN (fun i h=>by
  rw[dP _ _ _ _ h,Rat.intCast_mul];unfold fQ
  grind)
theorem AN{r c:Nat}{S:H3}(h:S.length=r*c):sm c (fun k=>dt r (cv c S r k) (cv c S r k))=((jy S:Int):Rat)*p2 (-2148):=by
 rw[xn r c S h,GI,jj,<-mj];exact bN (fun k _=>Po r c S k)
theorem Pp{c q:Nat}{X:H3}(h:X.length=c*q):sm q (fun k=>sm c (fun i=>fQ (a8 q X i k)*fQ (a8 q X i k)))=((jy X:Int):Rat)*p2 (-2148):=by
 rw[<-AN h];exact bN (fun k _=>bN (fun i l=>by rw[dP _ _ _ _ l]))
theorem QI{r c q:Nat}(S X B:H3){l k:Nat}{K:Nat}(t:2^1074=K):dt r (cv c S r l) (fun i=>cv q B r k i+(-1)*iH c (fun l=>cv c S r l) (fun i=>fQ (a8 q X i k)) i)= -(((zL r c q S X B l k:Int):Rat)*(p2 (-1074)*p2 (-1074)*p2 (-1074))):=by
 have I:(K:Rat)*p2 (-1074)=1:=by
  have e:=kv (-1074) 1074;rw[t,show(-1074:Int)+((1074:Nat):Int)=0 by rfl,oR]at e;exact e.symm
 unfold zL;rw[jj,<-mj,<-Iz];refine bN (fun i h=>?_);have F:iH c (fun l=>cv c S r l) (fun i=>fQ (a8 q X i k)) i=((Bq c (fun l=>a8 c S i l) (fun l=>a8 q X l k):Int):Rat)*(p2 (-1074)*p2 (-1074)):=by
  unfold Bq iH;rw[jj,<-mj];exact bN (fun p _=>by
   show fQ (a8 q X p k)*cv c S r p i=((fZ (a8 c S i p)*fZ (a8 q X p k):Int):Rat)*(p2 (-1074)*p2 (-1074));rw[dP _ _ _ _ h,Rat.intCast_mul];unfold fQ
   grind)
 have G:((2:Int)^1074:Int)=((K:Nat):Int):=yt t;show cv c S r l i*(cv q B r k i+(-1)*iH c (fun l=>cv c S r l) (fun i=>fQ (a8 q X i k)) i)= -(((fZ (a8 c S i l)*(Bq c (fun l=>a8 c S i l) (fun l=>a8 q X l k)-fZ (a8 q B i k)*2^1074):Int):Rat)*(p2 (-1074)*p2 (-1074)*p2 (-1074)));rw[dP _ _ _ _ h,dP _ _ _ _ h,F,Rat.intCast_mul,Rat.intCast_sub,Rat.intCast_mul,G];have H:(((K:Nat):Int):Rat)=(K:Rat):=rfl;rw[H];unfold fQ;generalize ((Bq c (fun l=>a8 c S i l) (fun l=>a8 q X l k):Int):Rat)=D at*;generalize p2 (-1074)=p at*
 grind
theorem yv{r c:Nat}{S:H3}(r6:r<=6)(aa:c<=r)(M:iI r c S)(N:Aq c c (It r c S)=false):∀j,j<c->p2 (-101)<=ab (fQ (a8 c (dy r c S) j j)):=by
 have J:iP (p2 200) r c S:=M.1.mono (aq (by decide));have q6:bZ r c<=6:=by unfold bZ;omega
 have ER:iP (p2 290) r c (dy r c S):=(J.qall r6 (bZ r c) (Nat.le_refl _)).1.mono (aq (by omega));have O:iP (p2 290) c c (It r c S):=fun p q hp H=>by rw[li S hp H];exact ER p q (by omega) H
 intro j I;have h:0<c:=by omega
 --the first one
 have h0:p2 (-61)<=ab (fQ (a8 c (dy r c S) 0 0)):=by
  have t:=Ix O N h h;rw[li S h h]at t;have K:∃i,i<r/\p2 (-60)<=ab (cv c S r 0 i):=by
   rcases M.low h with g|g
   ·exfalso
    have:=Iy J (by omega) h (fun i F=>by have:=g i F;rw[dP _ _ _ _ F]at this;exact this);rw[this]at t;unfold ab at t
    grind
   ·exact g
  obtain⟨i,F,D⟩:=K;have L:p2 (-60)=2*p2 (-61):=by rw[show(-60:Int)= -61+1 by rfl,bu]
  have G:=av (-61)
  by_cases H:0<bZ r c
  ·rw[sC r c S H]
   show _<=ab (fQ (mX (gZ r c S 0)));have Q:(gZ r c S 0).length=r:=by rw[uZ];rfl
   have U:gh (p2 290) (gZ r c S 0):=(J.col (i:=0) (n:=r-0) (by omega) h).mono (aq (by decide));obtain⟨_,_,_,_,c5,_⟩:=ji (gZ r c S 0) (by omega) (U.mono (aq (by decide)));obtain⟨n1,n2,n3,n4⟩:=Ie (gZ r c S 0) (by omega) (U.mono (aq (by decide)));have es:aL (gZ r c S 0)=dt r (cv c S r 0) (cv c S r 0):=by
    have:=Mg c S (j:=0) (r:=r) 0 (by omega);exact this.symm.trans (d8 (fun i _=>by unfold MZ;rw[if_neg (by omega)]) (fun i _=>by unfold MZ;rw[if_neg (by omega)]))
   have hm:=FZ (f:=fun i=>cv c S r 0 i*cv c S r 0 i) (fun i _=>ak _) F;have s1:p2 (-60)*p2 (-60)<=aL (gZ r c S 0):=by
    rw[es];have q:=Rat.mul_nonneg (show 0<=ab (cv c S r 0 i)-p2 (-60) by grind) (show 0<=ab (cv c S r 0 i)+p2 (-60) by have:=av (-60);grind);have e2:=M6 (cv c S r 0 i);have:dt r (cv c S r 0) (cv c S r 0)=sm r (fun i=>cv c S r 0 i*cv c S r 0 i):=rfl;rw[this]
    grind
   have t0:p2 (-1700)<=p2 (-61)*p2 (-61):=by rw[<-AC];exact aq (by decide)
   have l:=aw (fQ (bM (gZ r c S 0))*fQ (bM (gZ r c S 0))-aL (gZ r c S 0));refine dr (bK _) ?_;rw[M6];have e3:p2 (-60)*p2 (-60)=4*(p2 (-61)*p2 (-61)):=by rw[L];grind
   rw[e3]at s1;rcases c5 (fun e=>by rw[e]at Q;simp at Q;omega)with g|g
   ·rw[g]
    generalize fQ (bM (gZ r c S 0))*fQ (bM (gZ r c S 0))=NN at*;generalize aL (gZ r c S 0)=SS at*;generalize ab (NN-SS)=z at*;generalize p2 (-61)*p2 (-61)=PP at*
    grind
   ·rw[g]
    have:=Rat.mul_nonneg (Rat.le_of_lt G) (Rat.le_of_lt G)
    grind
  ·have e:bZ r c=0:=by omega
   have ae:r=1:=by unfold bZ at e;omega
   unfold dy;rw[e];show _<=ab (fQ (a8 c S 0 0));rw[dP _ _ _ _ F]at D;rw[show i=0 by omega]at D
   grind
 have k:=QH O N I I h h (by rw[li S h h];have:=aq (show(-900:Int)<=-61 by decide);grind);rw[li S h h,li S I I]at k;have Z:p2 (-61)=1099511627776*p2 (-101):=by rw[show(-61:Int)= -101+((40:Nat):Int) by rfl,kv];rfl
 grind
theorem yw{r c q:Nat}{S B:H3}(U:r<=6)(H:c<=r)(Z:iI r c S)(hB:iI r q B)(lS:S.length=r*c)(lB:B.length=r*q)(hf:Aq c c (It r c S)=false):
  KM r c q S (ui r c q S B) B*2^70<=jy S*(jy S*jy (ui r c q S B)+jy B*2^2148):=by
 obtain⟨K,Q,aa⟩:=AL 1074;have hd:=yv U H Z hf;have lX:(ui r c q S B).length=c*q:=qs _ _ _ _ _ _;obtain⟨X,hX⟩:∃X,ui r c q S B=X:=⟨_,rfl⟩;have t:=fun k (J:k<q)=>Ej U H Z hB hd J
 rw[hX]at t lX⊢;obtain⟨p,I⟩:∃p,p2 (-1074)=p:=⟨_,rfl⟩;have G:0<p:=by rw[<-I];exact av _
 have e2:p2 (-2148)=p*p:=by rw[<-yu,I]
 have eK:(K:Rat)*p=1:=by
  have e:=kv (-1074) 1074;rw[Q,show(-1074:Int)+((1074:Nat):Int)=0 by rfl,oR,I]at e;exact e.symm
 obtain⟨D,F⟩:∃D,sm c (fun l=>dt r (cv c S r l) (cv c S r l))=D:=⟨_,rfl⟩;have eA:D=((jy S:Int):Rat)*(p*p):=by rw[<-F,AN lS,e2]
 --each column,then all
 have L:1180591620717411303424*sm q (fun k=>sm c (fun l=>((zL r c q S X B l k:Int):Rat)*((zL r c q S X B l k:Int):Rat)*(p*p*p*(p*p*p))))<=sm q (fun k=>D*(D*sm c (fun i=>fQ (a8 q X i k)*fQ (a8 q X i k))+dt r (cv q B r k) (cv q B r k))):=by
  rw[<-iO];refine wP (fun k J=>?_);have h:=t k J;rw[F]at h;refine Rat.le_trans (AM (congrArg (fun z=>1180591620717411303424*z) (bN (fun l _=>?_)))) h;rw[QI S X B Q,I]
  grind
 have eR:sm q (fun k=>D*(D*sm c (fun i=>fQ (a8 q X i k)*fQ (a8 q X i k))+dt r (cv q B r k) (cv q B r k)))=D*(D*(((jy X:Int):Rat)*(p*p))+((jy B:Int):Rat)*(p*p)):=by
  rw[iO,zq,iO,Pp lX,AN lB,e2]
 have eL:sm q (fun k=>sm c (fun l=>((zL r c q S X B l k:Int):Rat)*((zL r c q S X B l k:Int):Rat)*(p*p*p*(p*p*p))))=((KM r c q S X B:Int):Rat)*(p*p*p*(p*p*p)):=by
  unfold KM;rw[jj,<-mj];refine bN (fun k _=>?_);rw[jj,<-mj];exact bN (fun l _=>by rw[Rat.intCast_mul])
 rw[eL,eR,eA]at L;have P6:0<p*p*p*(p*p*p):=Rat.mul_pos (Rat.mul_pos (Rat.mul_pos G G) G) (Rat.mul_pos (Rat.mul_pos G G) G);have M:((2:Int)^2148:Int)=((K:Nat):Int)*((K:Nat):Int):=by
  have:=@Mn 1074 2148 K Q rfl;rw[<-Int.natCast_mul];exact @yt 2148 (K*K) this
 have N:((2:Int)^70:Int)=1180591620717411303424:=by decide
 rw[N,M];have O:p*p*p*(p*p*p)*(((KM r c q S X B*1180591620717411303424:Int)):Rat)<=p*p*p*(p*p*p)*((jy S*(jy S*jy X+jy B*(((K:Nat):Int)*((K:Nat):Int))):Int):Rat):=by
  rw[Rat.intCast_mul,Rat.intCast_mul,Rat.intCast_add,Rat.intCast_mul,Rat.intCast_mul,Rat.intCast_mul];have c1:((1180591620717411303424:Int):Rat)=1180591620717411303424:=rfl;have c2:(((K:Nat):Int):Rat)=(K:Rat):=rfl;rw[c1,c2];generalize ((KM r c q S X B:Int):Rat)=g at*;generalize ((jy S:Int):Rat)=a at*;generalize ((jy X:Int):Rat)=x at*;generalize ((jy B:Int):Rat)=b at*;have e3:p*p*p*(p*p*p)*(a*(a*x+b*((K:Rat)*(K:Rat))))=a*(p*p)*(a*(p*p)*(x*(p*p))+b*(p*p)*(((K:Rat)*p)*((K:Rat)*p))):=by grind
  rw[e3,eK];clear t F eA eL eR
  grind
 have:=Pa P6 O;exact Rat.intCast_le_intCast.1 this
theorem vA{x:Nat}(l:x<18446744073709551616)(h:xi 60 x=true):x<18446744073709551616/\ah x=true/\ab (fQ x)<=p2 60/\(fQ x=0\/p2 (-60)<=ab (fQ x)):=by
 unfold xi at h;rw[Bool.and_eq_true,Bool.or_eq_true,decide_eq_true_eq,decide_eq_true_eq]at h;obtain⟨D,F⟩:=h
 by_cases t:fK x=0
 ·rw[bf x t]
  refine⟨l,D,?_,.inl rfl⟩;have:=av 60;unfold ab;grind
 ·obtain⟨G,J⟩:=F.resolve_left t
  obtain⟨H,I⟩:=iN x l D t;refine⟨l,D,?_,.inr (Rat.le_trans (aq G) H)⟩;exact Rat.le_trans (Rat.le_of_lt I) (aq (by omega))
theorem Cd{x y:Int}{m n V:Nat}(h:m+n<=V)(l:x.natAbs<2^m)(t:y.natAbs<2^n):(x*y).natAbs<2^V:=by
 refine Nat.lt_of_lt_of_le ?_ (Nat.pow_le_pow_right (by decide) h);rw[Int.natAbs_mul,Nat.pow_add];exact Nat.mul_lt_mul'' l t
theorem QJ{x:Int}{m k V:Nat}(h:m+k<=V)(l:x.natAbs<2^m):(x*2^k).natAbs<2^V:=by
 refine Nat.lt_of_lt_of_le ?_ (Nat.pow_le_pow_right (by decide) h);rw[Int.natAbs_mul,Nat.pow_add];have e:((2:Int)^k).natAbs=2^k:=by rw[Int.natAbs_pow];rfl
 rw[e];exact Nat.mul_lt_mul_of_pos_right l (Nat.pow_pos (by decide))
theorem Nd{x y:Int}{m V:Nat}(h:m+1<=V)(l:x.natAbs<2^m)(t:y.natAbs<2^m):(x+y).natAbs<2^V:=by
 refine Nat.lt_of_lt_of_le ?_ (Nat.pow_le_pow_right (by decide) h);rw[Nat.pow_succ];omega
theorem Mo{x:Int}{m V:Nat}(h:m<=V)(l:x.natAbs<2^m):x.natAbs<2^V:=Nat.lt_of_lt_of_le l (Nat.pow_le_pow_right (by decide) h)
theorem QK{x y:Int}(h:x<=y):bY x y<=0:=by
 unfold bY
 repeat' split
 all_goals omega
theorem sD{r c:Nat}{S:H3}(h:S.length=r*c)(l:r<=6)(t:c<=6)(fS:∀x∈S,ah x=true):(jy S).natAbs<2^4202:=by
 rw[xn r c S h];exact kq (W:=4199) (V:=4202) (by decide) r (by omega) (fun i _=>kq (W:=4196) (V:=4199) (by decide) c (by omega) (fun k _=>Cd (m:=2098) (n:=2098) (V:=4196) (by decide) (ew _ (de c S i k fS)) (ew _ (de c S i k fS))))
theorem IC{r n c:Nat}{A X B:H3}(t:r<=6)(D:n<=6)(F:c<=6)(fA:∀x∈A,ah x=true)(fX:∀x∈X,ah x=true)(h:∀x∈B,ah x=true):(KM r n c A X B).natAbs<2^12608:=by
 unfold KM;exact kq (W:=12605) (V:=12608) (by decide) _ (by omega) (fun k _=>kq (W:=12602) (V:=12605) (by decide) _ (by omega) (fun l _=>Cd (m:=6301) (n:=6301) (V:=12602) (by decide) (zO r n c A X B _ _ (by omega) (by omega) fA fX h) (zO r n c A X B _ _ (by omega) (by omega) fA fX h)))
theorem sE{r c:Nat}{S:H3}(l:S.length=r*c)(h:∀i k,i<r->k<c->ah (a8 c S i k)=true):cF S=true:=by
 rw[jh,l];intro x G;obtain⟨t,D,F⟩:=iE G;have:=h _ _ t D;unfold a8 at this
 rwa[F]at this
theorem pb{S:H3}(h:cF S=true):∀x∈S,ah x=true:=by
 rw[jh]at h;intro x t;obtain⟨k,l,e⟩:=List.getElem_of_mem t;have:=h k l;rw[List.getD_eq_getElem?_getD,List.getElem?_eq_getElem l]at this;rw[<-e];exact this
theorem Ek{w:World}{v u:Value}{z1 z2:Int}(I:aN w v (-6444) z1)(J:aN w u (-6444) z2)(K:z1.natAbs<2^12608)(L:z2.natAbs<2^12607)(Z:z1*2^70<=z2):
  BS 20 #[v,u,C0 35] w (.bool true):=by
 obtain⟨t,ht⟩:∃t:Nat,t=2514:=⟨_,rfl⟩;have L1:ga (-6444) 12608 z1:=⟨K,by decide,by decide,by decide⟩;have M:ga (-6444) 12607 z2:=⟨L,by decide,by decide,by decide⟩;have hP:((2:Int)^t).natAbs<2^(t+1):=by
  rw[Int.natAbs_pow];exact Nat.pow_lt_pow_right (by decide) (by omega)
 have aa:(0:Int)<=2^t:=Int.pow_nonneg (by decide);have N:z2.natAbs<2^12699:=Mo (V:=12699) (m:=12607) (by decide) L;have O:((2:Int)^t).natAbs<2^12699:=Mo (V:=12699) (m:=t+1) (by rw[ht];decide) hP;have L3:ga (-6514) 12700 z2:=⟨Mo (V:=12700) (m:=12699) (by decide) N,by decide,by decide,by decide⟩;have L4:ga (-6514) 12700 (2^t):=⟨Mo (V:=12700) (m:=12699) (by decide) O,by decide,by decide,by decide⟩;have L5:ga (-6514) 12700 (z2+2^t):=⟨Nd (V:=12700) (m:=12699) (by decide) N O,by decide,by decide,by decide⟩;have L6:ga (-6514) 12700 (z1*2^70):=⟨QJ (V:=12700) (m:=12608) (by decide) K,by decide,by decide,by decide⟩;have hc:decide (bY (z1*2^70) (z2+2^t)<=0)=true:=decide_eq_true (QK (by omega));obtain⟨na,ao,ca,A,rfl,a1,a2,a3,a4,a5⟩:=aH.right I L1.right.2;obtain⟨nb,bo,cb,B,rfl,b1,ae,b3,b4,b5⟩:=aH.right J M.right.2;have:=Ah na nb ao bo A.length B.length ca cb (oE z1 (-6444)) (oE z2 (-6444)) 35 (oM z2) (oE z2 (-6514)) (oM (2^t)) (oE (2^t) (-6514)) (oM (z2+2^t)) (oE (z2+2^t) (-6514)) (bY (z1*2^70) (z2+2^t)) w (by decide)
  (fun D F=>by
   have h:=Kv (-(2*35)) (J.below F) M (by decide);rw[show(-6444:Int)+-(2*35)= -6514 by decide]at h;exact h)
  (fun D v l=>by
   refine(ic (-4000) (l.toM DP) (by decide) (by decide)).mono ?_;rintro e H ⟨q,k1,k2,k3⟩;refine⟨q,k1,?_,k3⟩;have h4:aN H q (-4000) 1:=k2;have Q:=h4.lower t;rw[show(-4000:Int)-((t:Nat):Int)= -6514 by omega,Int.one_mul]at Q;exact Q)
  (fun D v u l G=>MJ (W:=12700) l G L3 L4)
  (fun D v F l=>by
   have U:=(show aN D _ _ z1 from aN.below I F).lower 70;rw[show(-6444:Int)-((70:Nat):Int)= -6514 by decide]at U;exact Mu U l L6 L5)
 rw[hc]at this;exact this
theorem oA(r c:Int)(ao:GY)(cap:Nat)(I:List Int)(p s:Int)(N:GY)(d:Nat)(J:List Int)(w:World)(hI:ag w ao cap I)(hl:I.length<=17592186043904)(_hr:-9223372036854775808<=r/\r<=9223372036854775807)(_hc:-9223372036854775808<=c/\c<=9223372036854775807)(hJ:ag w N d J)(ax:J.length<=17592186043904)(_hp:-9223372036854775808<=p/\p<=9223372036854775807)(_hs:-9223372036854775808<=s/\s<=9223372036854775807)(hT:cX w):
  BS 3 #[.agg #[C0 r,C0 c,.slice ao I.length cap],.agg #[C0 p,C0 s,.slice N J.length d]] w (.bool true):=by
 have C1:=fun l (D:H8 w l)=>pz r c ao cap I 60 l (hI.below D) (by omega) (by decide)
 have C2:=fun l (D:H8 w l)=>pz p s N d J 60 l (hJ.below D) (by omega) (by decide)
 have CA:=xZ w hT
 cases h1:(kx r c I.length&&xj 60 I I.length)
 ·rw[h1]at C1
  exact o7 r c p s ao N I.length cap J.length d w C1 CA
 rw[h1]at C1
 cases h2:(kx p s J.length&&xj 60 J J.length)
 ·rw[h2]at C2
  exact o8 r c p s ao N I.length cap J.length d w C1 C2 CA
 rw[h2]at C2;rw[Bool.and_eq_true]at h1 h2;obtain⟨n,m,rfl,rfl,M,hS⟩:=Mx.of hI h1.1;obtain⟨F,q,rfl,rfl,G,am⟩:=Mx.of hJ h2.1;have lI:(cq I).length=I.length:=rL I;have lJ:(cq J).length=J.length:=rL J;have r6:=M.2.2.1;have c6:=M.2.2.2;have q6:=G.2.2.2;have T1:iI n m (cq I):=by
  have hE:∀i k,i<n->k<m->xi 60 (a8 m (cq I) i k)=true:=fun i k H K=>by
   have D:=zI 60 I I.length (i*m+k) (by rw[<-lI,M.2.1];exact dK H K) h1.2;rw[<-hS,fW]at D;exact D
  exact⟨fun i k H K=>by obtain⟨a,b,d,_⟩:=vA (M.el_lt i k) (hE i k H K);exact⟨a,b,d⟩,fun i k H K=>(vA (M.el_lt i k) (hE i k H K)).2.2.2⟩
 have T2:iI F q (cq J):=by
  have hE:∀i k,i<F->k<q->xi 60 (a8 q (cq J) i k)=true:=fun i k H K=>by
   have D:=zI 60 J J.length (i*q+k) (by rw[<-lJ,G.2.1];exact dK H K) h2.2;rw[<-am,fW]at D;exact D
  exact⟨fun i k H K=>by obtain⟨a,b,d,_⟩:=vA (G.el_lt i k) (hE i k H K);exact⟨a,b,d⟩,fun i k H K=>(vA (G.el_lt i k) (hE i k H K)).2.2.2⟩
 have fI:cF (cq I)=true:=T1.1.fins M.2.1;have fJ:cF (cq J)=true:=T2.1.fins G.2.1
 by_cases aa:(n:Int)<(m:Int)\/(¬(n:Int)<(m:Int)/\¬(n:Int)=(F:Int))
 ·refine jX 3 n m F q ao N I.length cap J.length d w (.inl rfl) C1 C2 (fun l D=>xW n m F q I.length cap J.length d ao N l aa (fun O L=>?_)) CA
  have:=MW ((M.below D).below L) ((G.below D).below L) fI fJ;rw[lI,lJ]at this;exact this
 have en:F=n:=by omega
 subst en;have Q:m<=F:=by omega
 obtain⟨k1,_,k3⟩:=Is (T1.1.mono (aq (by decide))) M.2.1 r6;have LM:=fun l (D:H8 w l)=>xY F m q cap d ao N (cq I) (cq J) l (M.below D) (G.below D) fI fJ Q (hT.all D)
 cases hf:Aq m m (It F m (cq I))
 rotate_left
 ·have e5:MV F m q (cq I) (cq J)=5:=by
   unfold MV;rw[if_pos k1,if_pos (show Aq m m (pE F m (cq I))=true from hf)]
  rw[e5]at LM;refine jX 5 F m F q ao N I.length cap J.length d w (.inr rfl) C1 C2 (fun l D=>?_) CA;have:=LM l D;rw[lI,lJ]at this;refine this.mono ?_;rintro e O ⟨Z,L⟩;rcases Z with⟨h0,_⟩|⟨_,rfl⟩
  ·cases h0
  ·exact⟨rfl,L⟩
 have hd:=yv r6 Q T1 hf;have EL:iP (p2 290) m m (It F m (cq I)):=fun a b ha D=>by rw[li (cq I) ha D];exact k3 a b (by omega) D
 have lY:(ti F m q (cq I) (cq J)).length=m*q:=by unfold ti IH;exact cQ _ _ _
 have lU:(ui F m q (cq I) (cq J)).length=m*q:=qs _ _ _ _ _ _;have fY:cF (ti F m q (cq I) (cq J))=true:=sE lY (fun i k H K=>by
  obtain⟨_,ap,_,_⟩:=pa r6 Q T1 T2 hd K;exact(ap.side i H).2.1)
 have fU:cF (ui F m q (cq I) (cq J))=true:=sE lU (Pl r6 Q T1 T2 hd);have hz:O7 (gI m m (It F m (cq I)))=false:=Qs (fun i H e=>by
  have:=Ix EL hf H H;rw[bf _ e]at this;unfold ab at this
  grind)
 have e0:MV F m q (cq I) (cq J)=0:=by
  unfold MV;rw[if_pos k1,if_neg (by rw[show Aq m m (pE F m (cq I))=false from hf];decide),if_pos (show cF (vF F m q (cq I) (cq J))=true from fY)];unfold O9;rw[if_neg (by rw[show O7 (gI m m (pE F m (cq I)))=false from hz];decide),if_pos (show cF (MU F m q (cq I) (cq J))=true from fU)]
 rw[e0]at LM;have up:=yw r6 Q T1 T2 M.2.1 G.2.1 hf;obtain⟨U,hU⟩:∃U,ui F m q (cq I) (cq J)=U:=⟨_,rfl⟩;rw[hU]at lU fU up;have ae:=fun l (D:H8 w l)=>(LM l D).mono (fun e O h=>show ov l O 0 m q U e/\H8 l O by rw[<-hU];exact h)
 have sI:=pb fI;have sJ:=pb fJ;have sU:=pb fU;have bI:=sD M.2.1 r6 c6 sI;have bJ:=sD G.2.1 r6 q6 sJ;have bU:=sD lU c6 q6 sU;have bG:=IC (A:=cq I) (X:=U) (B:=cq J) r6 c6 q6 sI sU sJ;have b4:(jy (cq I)*jy U).natAbs<2^8404:=Cd (V:=8404) (m:=4202) (n:=4202) (by decide) bI bU;obtain⟨t,ht⟩:∃t:Nat,t=2148:=⟨_,rfl⟩;rw[<-ht]at up;have b3:(jy (cq J)*2^t).natAbs<2^8404:=QJ (V:=8404) (m:=4202) (k:=t) (by rw[ht];decide) bJ;have b5:(jy (cq I)*jy U+jy (cq J)*2^t).natAbs<2^8405:=Nd (V:=8405) (m:=8404) (by decide) b4 b3;have b6:(jy (cq I)*(jy (cq I)*jy U+jy (cq J)*2^t)).natAbs<2^12607:=Cd (V:=12607) (m:=4202) (n:=8405) (by decide) bI b5;refine pL F m q (m*q) ao N I.length cap J.length d (aX U) (-2148) (-4296) (-6444) (jy (cq I)) (jy U) (jy (cq J)) (jy (cq I)*jy U) (jy (cq I)*jy U+jy (cq J)*2^t) (jy (cq I)*(jy (cq I)*jy U+jy (cq J)*2^t)) (KM F m q (cq I) U (cq J)) w C1 C2 (fun l D=>?_) (fun l xo xc D hx=>?_) (fun l D=>?_) (fun l xo xc D hx=>?_) (fun l D=>?_) (fun l v u hv hu=>?_) (fun l v u hv hu=>?_) (fun l v u hv hu=>?_) (fun l xo xc D hx=>?_) (fun l v u hv hu=>?_) CA
 ·have:=ae l D
  rw[lI,lJ]at this;refine this.mono ?_;rintro e O ⟨Z,L⟩;rcases Z with⟨_,xo,xc,rfl,_,h3,_,_⟩|⟨h0,_⟩
  ·exact⟨⟨xo,xc,rfl,h3⟩,L⟩
  ·exact absurd rfl h0
 ·have hX:Mx l xo xc m q U:=⟨hx,lU,c6,q6⟩
  have:=vf (m:Int) (q:Int) xo xc (aX U) l hx (by rw[aC];have:=hX.small;omega);rw[sf hX fU,aC,lU]at this;exact this
 ·have:=jB F m cap ao (cq I) l (M.below D) sI
  rw[lI]at this;exact this
 ·have:=jB m q xc xo U l ⟨hx,lU,c6,q6⟩ sU
  rw[lU]at this;exact this
 ·have:=jB F q d N (cq J) l (G.below D) sJ
  rw[lJ]at this;exact this
 ·have:=xl (W1:=4202) (W2:=4202) hv hu ⟨bI,by decide,by decide,by decide⟩ ⟨bU,by decide,by decide,by decide⟩ (by decide)
  rw[show(-2148:Int)+-2148= -4296 by decide]at this;exact this
 ·have h5:=hu.lower t
  rw[show(-2148:Int)-((t:Nat):Int)= -4296 by omega]at h5;exact MJ (W:=8404) hv h5 ⟨b4,by decide,by decide,by decide⟩ ⟨b3,by decide,by decide,by decide⟩
 ·have:=xl (W1:=4202) (W2:=8405) hv hu ⟨bI,by decide,by decide,by decide⟩ ⟨b5,by decide,by decide,by decide⟩ (by decide)
  rw[show(-2148:Int)+-4296= -6444 by decide]at this;exact this
 ·have:=DO F m q cap xc d ao xo N (cq I) U (cq J) l (M.below D) ⟨hx,lU,c6,q6⟩ (G.below D) sI sU sJ
  rw[lI,lJ,lU]at this;exact this
 ·exact Ek hv hu bG b6 up
end Go.Proofs.YtcbcmlaogehimaaGreatDoor
namespace Go.Proofs.YtcbcmlaogehimaaGreatDoor
open Go.ChangeShapes Go.WideShapes Go.ChangeAt Go.RowKit Go.Joins
theorem Tryz.own:ownKnob Tryz.prog.godebug=none:=by kernel_rfl
theorem Tryz.laidOut:laidOutB Tryz.prog=true:=by kernel_rfl
end Go.Proofs.YtcbcmlaogehimaaGreatDoor
namespace Go.Proofs.YtcbcmlaogehimaaGreatDoor
theorem mA{x:Int}(h:(Lit.int .i64 x).wf=true):-9223372036854775808<=x/\x<=9223372036854775807:=by
 simp[Lit.wf,IntKind.min,IntKind.max,IntKind.signed,IntKind.bits]at h
 omega
open Go.ChangeShapes Go.WideShapes Go.ChangeAt Go.RowKit Go.Joins
theorem Tryz.tabName:Tryz.prog.globalNamed "math/bits.deBruijn32tab" =some 1:=by kernel_rfl
theorem Tryz.tabType:(Tryz.prog.globals[1]?).map (·.type)=some 240:=by kernel_rfl
theorem Tryz.tabCells:Tryz.prog.cellsOf 240=32:=by kernel_rfl
theorem Tryz.byteCells:Tryz.prog.cellsOf 5=1:=by kernel_rfl
theorem IE:∀j,j<Lib.deBruijn32tab.length->(List.map Int.ofNat Lib.deBruijn32tab).getD j 0=((Lib.deBruijn32tab.getD j 0:Nat):Int):=by decide
theorem yx{W:World}(h:laidMetH Tryz.prog [("math/bits.deBruijn32tab",Rows.laid_math_bits_deBruijn32tab)] W):cX W:=by
 have t:=Lib.tabIs_of_head (zs:=Lib.deBruijn32tab.map Int.ofNat) (rest:=[]) Tryz.tabName Tryz.tabType Tryz.underlying240 Tryz.underlying5 Tryz.byteCells Tryz.tabCells h;intro j l;have:=t.cell Tryz.tabName j (by simpa using l);rw[this]
 congr 2
 exact IE j l
end Go.Proofs.YtcbcmlaogehimaaGreatDoor
namespace Go.Proofs.YtcbcmlaogehimaaGreatDoor
open Go.ChangeShapes Go.WideShapes Go.ChangeAt Go.RowKit Go.Joins Go.Deep
theorem Tryz.cellsBits:Tryz.prog.cellsOf 69=1:=by kernel_rfl
theorem Tryz.bytesBits:Tryz.prog.bytesOf 69=8:=by kernel_rfl
theorem vB{W:World}{a:Addr}{v:Value}(h:W.cell? a=some v):a.spot=none/\a.block<W.heap.size:=⟨World.cell?_spot h,World.block_lt_of_cell? W _ h⟩
theorem yy(b h i:Nat):(⟨b,h,none⟩:Addr).add i=⟨b,h+i,none⟩:=by simp[Addr.add]
theorem tr{x:Int}(h:(Lit.int .u64 x).wf=true):0<=x/\x<=18446744073709551615:=by
 simp[Lit.wf,IntKind.min,IntKind.max,IntKind.signed,IntKind.bits]at h
 omega
end Go.Proofs.YtcbcmlaogehimaaGreatDoor
