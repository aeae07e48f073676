/- Part 3 of the texts. -/
import Derived.Test.YtlnphkioddknfaaGreatDoorParty02
import Derived.Lib.TrailingZeros
set_option maxHeartbeats 4000000
namespace Go.Proofs.YtlnphkioddknfaaGreatDoor
def tz(v:Nat):Nat:=Lib.ctzFrom v v
theorem iF(v:Nat)(h:0<v):∃m,v=2^tz v*(2*m+1):=by
 obtain⟨m,d,_⟩:=Lib.ctzFrom_spec v v h Nat.lt_two_pow_self
 exact⟨m,d⟩
theorem rL(k j m n:Nat)(h:2^k*(2*m+1)=2^j*(2*n+1)):k=j∧m=n:=by
 rcases Nat.lt_trichotomy k j with f|rfl|f
 ·exfalso
  obtain⟨d,rfl⟩:∃d,j=k+(d+1):=⟨j-k-1,by omega⟩
  rw[Nat.pow_add,Nat.mul_assoc]at h
  have:=Nat.eq_of_mul_eq_mul_left (Nat.pow_pos (by decide)) h
  rw[Nat.pow_succ,Nat.mul_assoc,Nat.mul_left_comm]at this
  omega
 ·have:=Nat.eq_of_mul_eq_mul_left (Nat.pow_pos (by decide)) h
  exact⟨rfl,by omega⟩
 ·exfalso
  obtain⟨d,rfl⟩:∃d,k=j+(d+1):=⟨k-j-1,by omega⟩
  rw[Nat.pow_add,Nat.mul_assoc]at h
  have:=Nat.eq_of_mul_eq_mul_left (Nat.pow_pos (by decide)) h
  rw[Nat.pow_succ,Nat.mul_assoc,Nat.mul_left_comm]at this
  omega
theorem Ad(v k m:Nat)(h:v=2^k*(2*m+1)):tz v=k:=by
 have d:0<v:=by rw[h];exact Nat.mul_pos (Nat.pow_pos (by decide)) (by omega)
 obtain⟨m',f⟩:=iF v d
 exact(rL _ _ m' m (by rw[←f,←h])).1
theorem Ae(v k:Nat)(h:0<v):tz (2^k*v)=k+tz v:=by
 obtain⟨m,d⟩:=iF v h
 exact Ad _ _ m (by rw[Nat.pow_add,Nat.mul_assoc,←d])
theorem GD(x:Nat)(d:x≠0)(h:x<4294967296):tz x=Lib.ctz 32 x:=by
 obtain⟨m,f,_⟩:=Lib.ctzFrom_spec 32 x (by omega) (by omega)
 have e:Lib.ctz 32 x=Lib.ctzFrom 32 x:=by simp[Lib.ctz,d]
 rw[e]
 exact Ad _ _ m f
theorem lU(v k:Nat)(f:0<v)(h:v<2^k):tz v<k:=by
 obtain⟨m,y⟩:=iF v f
 apply Nat.lt_of_not_le
 intro d
 have l:2^k≤2^tz v:=Nat.pow_le_pow_right (by decide) d
 have t:2^tz v≤2^tz v*(2*m+1):=Nat.le_mul_of_pos_right _ (by omega)
 omega
theorem Af(L:List Nat)(k x:Nat)(f:an (L.take k)=0)(h:L[k]?.getD 0=x)(A:x≠0)(l:x<4294967296):an L≠0∧tz (an L)=32*k+tz x:=by
 obtain⟨m,z⟩:=iF x (by omega)
 have e:an L=4294967296^k*(x+4294967296*an (L.drop (k+1))):=by
  rw[g7 L (k+1),aH,f,h,Nat.zero_add,Nat.pow_succ,Nat.mul_add,Nat.mul_assoc]
 have D:tz x<32:=lU x 32 (by omega) (by omega)
 have t:x+4294967296*an (L.drop (k+1))=2^tz x*(2*(m+2^(31-tz x)*an (L.drop (k+1)))+1):=by
  have y:4294967296=2^tz x*(2*2^(31-tz x)):=by
   rw[←Nat.pow_succ',←Nat.pow_add,show tz x+(31-tz x).succ=32 by omega]
  rw[Nat.mul_add 2,Nat.add_right_comm,Nat.mul_add (2^tz x),←z,←Nat.mul_assoc 2,←Nat.mul_assoc,←y]
 have d:an L=2^(32*k+tz x)*(2*(m+2^(31-tz x)*an (L.drop (k+1)))+1):=by
  rw[e,t,←Nat.mul_assoc,j0]
 refine⟨?_,Ad _ _ _ d⟩
 have:0<an L:=by rw[d];exact Nat.mul_pos (Nat.pow_pos (by decide)) (by omega)
 omega
def oM(z:Int):Int:=z/2^tz z.natAbs
def oE(z e:Int):Int:=if z=0 then 0 else e+tz z.natAbs
def iY(z m:Int)(k:Nat):Prop:=z=m*2^k∧m%2=1
theorem iY.unique{z m m':Int}{k k':Nat}(h:iY z m k)(l:iY z m' k'):m=m'∧k=k':=by
 obtain⟨d,D⟩:=h
 obtain⟨f,F⟩:=l
 have t:z.natAbs=2^k*(2*(m.natAbs/2)+1):=by
  rw[d,Int.natAbs_mul,Int.natAbs_pow,Nat.mul_comm,show(2:Int).natAbs=2 from rfl,show 2*(m.natAbs/2)+1=m.natAbs by omega]
 have y:z.natAbs=2^k'*(2*(m'.natAbs/2)+1):=by
  rw[f,Int.natAbs_mul,Int.natAbs_pow,Nat.mul_comm,show(2:Int).natAbs=2 from rfl,show 2*(m'.natAbs/2)+1=m'.natAbs by omega]
 obtain⟨rfl,_⟩:=rL _ _ _ _ (t.symm.trans y)
 have A:(2:Int)^k≠0:=Int.pow_ne_zero (by decide)
 exact⟨Int.eq_of_mul_eq_mul_right A (d.symm.trans f),rfl⟩
theorem fG(z:Int)(h:z≠0):iY z (oM z) (tz z.natAbs):=by
 obtain⟨m,y⟩:=iF z.natAbs (by omega)
 unfold oM
 generalize tz z.natAbs=k at*
 have t:(2:Int)^k≠0:=Int.pow_ne_zero (by decide)
 have d:z=2^k*(2*(m:Int)+1)∨z=2^k*(2*(-(m:Int)-1)+1):=by
  have e:(z.natAbs:Int)=2^k*(2*(m:Int)+1):=by rw[y];push_cast;rfl
  rcases Int.natAbs_eq z with l|l
  ·left;rw[l,e]
  ·right;rw[l,e,←Int.mul_neg];congr 1;omega
 rcases d with d|d
 ·have f:z/2^k=2*(m:Int)+1:=by rw[d];exact Int.mul_ediv_cancel_left _ t
  rw[f]
  exact⟨by rw[Int.mul_comm];exact d,by omega⟩
 ·have f:z/2^k=2*(-(m:Int)-1)+1:=by rw[d];exact Int.mul_ediv_cancel_left _ t
  rw[f]
  exact⟨by rw[Int.mul_comm];exact d,by omega⟩
theorem iY.eq{z m:Int}{k:Nat}(h:iY z m k):z≠0∧m=oM z∧k=tz z.natAbs:=by
 have d:z≠0:=by
  rw[h.1]
  intro e
  rcases Int.mul_eq_zero.1 e with e|e
  ·have:=h.2;rw[e]at this;simp at this
  ·exact Int.pow_ne_zero (by decide) e
 obtain⟨a,b⟩:=h.unique (fG z d)
 exact⟨d,a,b⟩
def bl(v:Nat):Nat:=if v=0 then 0 else Nat.log2 v+1
theorem bK(v:Nat)(h:v≠0):1≤bl v∧2^(bl v-1)≤v∧v<2^bl v:=by
 unfold bl
 rw[if_neg h]
 exact⟨by omega,by simpa using Nat.log2_self_le h,Nat.lt_log2_self⟩
theorem cF{a b:Nat}(h:(2:Nat)^a<2^b):a<b:=(Nat.pow_lt_pow_iff_right (by decide)).1 h
theorem e9{a b:Nat}(h:a≤b):(2:Nat)^a≤2^b:=Nat.pow_le_pow_right (by decide) h
theorem pq{v n:Nat}(m:1≤n)(d:2^(n-1)≤v)(f:v<2^n):bl v=n:=by
 have t:0<2^(n-1):=Nat.two_pow_pos _
 obtain⟨A,h,l⟩:=bK v (by omega)
 have y:=cF (Nat.lt_of_le_of_lt h f)
 have z:=cF (Nat.lt_of_le_of_lt d l)
 omega
theorem ks(v k:Nat)(h:v≠0):bl (v*2^k)=bl v+k:=by
 obtain⟨m,f,l⟩:=bK v h
 have d:0<2^k:=Nat.two_pow_pos _
 refine pq (by omega) ?_ ?_
 ·rw[show bl v+k-1=(bl v-1)+k by omega,Nat.pow_add]
  exact Nat.mul_le_mul_right _ f
 ·rw[Nat.pow_add]
  exact Nat.mul_lt_mul_of_pos_right l d
def fh(v k:Nat):Nat:=v/2^k+(if 2^k<2*(v%2^k)∨(2^k=2*(v%2^k)∧v/2^k%2=1)then 1 else 0)
theorem wF(v k:Nat):v/2^k≤fh v k∧fh v k≤v/2^k+1:=by
 unfold fh;split<;>omega
theorem pr{v u:Nat}(k:Nat)(h:v≤u):fh v k≤fh u k:=by
 have l:v/2^k≤u/2^k:=Nat.div_le_div_right h
 by_cases d:v/2^k=u/2^k
 ·have f:=Nat.div_add_mod v (2^k)
  have m:=Nat.div_add_mod u (2^k)
  rw[d]at f
  have t:v%2^k≤u%2^k:=by omega
  unfold fh
  rw[d]
  generalize v%2^k=r at*
  generalize u%2^k=s at*
  generalize u/2^k=q at*
  generalize 2^k=p at*
  split<;>split<;>omega
 ·have:=(wF v k).2
  have:=(wF u k).1
  omega
theorem iG(a k:Nat):fh (a*2^k) k=a:=by
 have d:0<2^k:=Nat.two_pow_pos _
 unfold fh
 rw[Nat.mul_mod_left,Nat.mul_div_cancel _ d,if_neg (by omega)]
 omega
theorem DX{a v k:Nat}(h:a*2^k≤v):a≤fh v k:=by
 have:=pr k h;rwa[iG]at this
theorem xH{a v k:Nat}(h:v≤a*2^k):fh v k≤a:=by
 have:=pr k h;rwa[iG]at this
theorem uA(v i k:Nat):fh (v*2^i) (k+i)=fh v k:=by
 have d:0<2^i:=Nat.two_pow_pos _
 have f:v*2^i/2^(k+i)=v/2^k:=by
  rw[Nat.pow_add,Nat.mul_div_mul_right _ _ d]
 have h:v*2^i%2^(k+i)=v%2^k*2^i:=by
  rw[Nat.pow_add,Nat.mul_mod_mul_right]
 unfold fh
 rw[f,h,Nat.pow_add,←Nat.mul_assoc]
 have l:(2^k*2^i<2*(v%2^k)*2^i)↔2^k<2*(v%2^k):=Nat.mul_lt_mul_right d
 have m:(2^k*2^i=2*(v%2^k)*2^i)↔2^k=2*(v%2^k):=Nat.mul_left_inj (by omega)
 simp only[l,m]
def mS(v:Nat)(j:Int):Nat:=if 0≤j then v*2^j.toNat else fh v (-j).toNat
theorem jQ(v k:Nat):mS v (k:Int)=v*2^k:=by unfold mS;rw[if_pos (by omega)];simp
theorem fH(v k:Nat)(h:1≤k):mS v (-(k:Int))=fh v k:=by unfold mS;rw[if_neg (by omega)];simp
theorem Ag(v i:Nat)(j:Int):mS (v*2^i) j=mS v (j+i):=by
 rcases Int.eq_ofNat_of_zero_le (a:=if 0≤j then j else-j) (by split<;>omega)with⟨k,hk⟩
 by_cases f:0≤j
 ·rw[if_pos f]at hk
  subst hk
  rw[jQ,show((k:Int)+(i:Int))=((i+k:Nat):Int) by omega,jQ,Nat.pow_add,Nat.mul_assoc]
 ·rw[if_neg f]at hk
  obtain rfl:j= -(k:Int):=by omega
  rw[fH _ _ (by omega)]
  by_cases h:k≤i
  ·obtain⟨d,rfl⟩:=Nat.exists_eq_add_of_le h
   rw[show(-(k:Int)+((k+d:Nat):Int))=(d:Int) by omega,jQ,Nat.add_comm k d,Nat.pow_add,←Nat.mul_assoc,iG]
  ·obtain⟨d,rfl⟩:=Nat.exists_eq_add_of_le (show i≤k by omega)
   rw[show(-((i+d:Nat):Int)+(i:Int))= -(d:Int) by omega,fH _ _ (by omega),Nat.add_comm i d,uA]
def pN(v:Nat)(j:Int):Nat:=if 0≤j+1 then v*2^(j+1).toNat else v/2^(-(j+1)).toNat
def IL(v:Nat)(j:Int):Bool:=decide (pN v j%2=1)&&(!decide (j= -1)||decide (pN v j/2%2=1))
def pM(v:Nat)(j:Int):Nat:=(pN v j+(IL v j).toNat)/2
theorem IW(v:Nat)(j:Int)(h:v%2=1):pM v j=mS v j:=by
 by_cases t:0≤j
 ·obtain⟨k,rfl⟩:=Int.eq_ofNat_of_zero_le t
  have f:pN v k=v*2^k*2:=by
   unfold pN
   rw[if_pos (by omega),show((k:Int)+1).toNat=k+1 by omega,Nat.pow_succ,Nat.mul_assoc]
  have y:IL v k=false:=by
   unfold IL
   rw[f,decide_eq_false (by omega)];rfl
  rw[jQ]
  unfold pM
  rw[y,f]
  simp
 ·obtain⟨k,K⟩:=Int.eq_ofNat_of_zero_le (show 0≤-j by omega)
  obtain rfl:j= -(k:Int):=by omega
  obtain⟨i,rfl⟩:∃i,k=i+1:=⟨k-1,by omega⟩
  rw[fH _ _ (by omega)]
  have f:pN v (-((i+1:Nat):Int))=v/2^i:=by
   unfold pN
   by_cases d:i=0
   ·subst d;simp
   ·rw[if_neg (by omega),show(-(-((i+1:Nat):Int)+1)).toNat=i by omega]
  have z:decide (-((i+1:Nat):Int)= -1)=decide (i=0):=by
   by_cases d:i=0
   ·subst d;simp
   ·rw[decide_eq_false d,decide_eq_false (by omega)]
  have A:v/2^(i+1)=v/2^i/2:=by rw[Nat.pow_succ,Nat.div_div_eq_div_mul]
  have D:v%2^(i+1)=v%2^i+2^i*(v/2^i%2):=by rw[Nat.pow_succ,Nat.mod_mul]
  have F:i≠0→0<v%2^i:=by
   intro d
   have:v%2^i%2=v%2:=Nat.mod_mod_of_dvd _ (by obtain⟨m,rfl⟩:∃m,i=m+1:=⟨i-1,by omega⟩;rw[Nat.pow_succ];exact Nat.dvd_mul_left _ _)
   omega
  have I:=Nat.mod_lt v (Nat.two_pow_pos i)
  unfold pM IL fh
  rw[f,z,A,D,Nat.pow_succ]
  by_cases d:i=0
  ·subst d
   simp only[Nat.pow_zero,Nat.div_one,Nat.mod_one,Nat.zero_add,Nat.one_mul,h]
   by_cases l:v/2%2=1
   ·simp[l]<;>omega
   ·simp[l]<;>omega
  ·have G:=F d
   simp only[decide_eq_false d,Bool.not_false,Bool.true_or,Bool.and_true]
   generalize v/2^i=n at*
   generalize v%2^i=s at*
   generalize 2^i=p at*
   by_cases l:n%2=1
   ·rw[l,if_pos (by left;omega)]
    simp;omega
   ·have H:n%2=0:=by omega
    rw[H,if_neg (by omega)]
    simp
def aJ(v:Nat)(E:Int):Int:=max ((bl v:Int)+E-53) (-1074)
def fL(v:Nat)(E:Int):Nat:=mS v (E-aJ v E)
def bX(v:Nat)(E:Int):Nat:=if v=0 then 0 else if 1024<(bl v:Int)+E then 9218868437227405312 else fL v E+(aJ v E+1074).toNat*4503599627370496
def bM(v:Nat)(E:Int):Int:=if v=0 then 0 else if 1024<(bl v:Int)+E then 5 else if aJ v E≤E then 0 else if bX v E=9218868437227405312 then 5 else if bX v E<4503599627370496 then 3 else 1
theorem gd(v:Nat)(E:Int):-1074≤aJ v E∧(bl v:Int)+E-53≤aJ v E∧(aJ v E= -1074∨aJ v E=(bl v:Int)+E-53):=by
 unfold aJ;omega
theorem Ah:(2:Nat)^53=9007199254740992:=by decide
theorem IX:(2:Nat)^52=4503599627370496:=by decide
theorem jb(v:Nat)(E:Int)(h:v≠0):fL v E≤9007199254740992∧(-1074<aJ v E→4503599627370496≤fL v E)∧(aJ v E≤E→fL v E<9007199254740992):=by
 obtain⟨G,H,I⟩:=gd v E
 obtain⟨K,y,z⟩:=bK v h
 unfold fL
 generalize aJ v E=l at*
 rcases Int.le_total l E with A|A
 ·obtain⟨k,D⟩:=Int.eq_ofNat_of_zero_le (show 0≤E-l by omega)
  rw[D,jQ]
  have F:0<2^k:=Nat.two_pow_pos _
  have f:v*2^k<2^53:=by
   have d:v*2^k<2^bl v*2^k:=Nat.mul_lt_mul_of_pos_right z F
   rw[←Nat.pow_add]at d
   exact Nat.lt_of_lt_of_le d (e9 (by omega))
  rw[Ah]at f
  refine⟨by omega,fun m=>?_,fun _=>f⟩
  have d:2^(bl v-1)*2^k≤v*2^k:=Nat.mul_le_mul_right _ y
  rw[←Nat.pow_add,show bl v-1+k=52 by omega,IX]at d
  exact d
 ·obtain⟨k,D⟩:=Int.eq_ofNat_of_zero_le (show 0≤l-E by omega)
  by_cases t:k=0
  ·subst t
   rw[show E-l=((0:Nat):Int) by omega,jQ]
   have f:v<2^53:=Nat.lt_of_lt_of_le z (e9 (by omega))
   rw[Ah]at f
   refine⟨by omega,fun m=>?_,fun _=>by omega⟩
   rw[show bl v-1=52 by omega,IX]at y
   omega
  ·rw[show E-l= -(k:Int) by omega,fH _ _ (by omega)]
   refine⟨?_,fun m=>?_,fun m=>by omega⟩
   ·rw[←Ah]
    refine xH ?_
    rw[←Nat.pow_add]
    exact Nat.le_trans (Nat.le_of_lt z) (e9 (by omega))
   ·rw[←IX]
    refine DX ?_
    rw[←Nat.pow_add,show 52+k=bl v-1 by omega]
    exact y
theorem gI(v:Nat)(E:Int)(h:v≠0)(d:(bl v:Int)+E≤1024):bX v E=fL v E+(aJ v E+1074).toNat*4503599627370496:=by
 unfold bX;rw[if_neg h,if_neg (by omega)]
theorem eM(v:Nat)(E:Int):bX v E≤9218868437227405312:=by
 by_cases h:v=0
 ·subst h;simp[bX]
 ·by_cases d:1024<(bl v:Int)+E
  ·unfold bX;rw[if_neg h,if_pos d];exact Nat.le_refl _
  ·rw[gI v E h (by omega)]
   obtain⟨f,l,m⟩:=gd v E
   have:=(jb v E h).1
   omega
theorem dY(v i:Nat)(E:Int):bX (v*2^i) E=bX v (E+i):=by
 by_cases h:v=0
 ·subst h;simp[bX]
 ·have m:0<2^i:=Nat.two_pow_pos _
  have f:v*2^i≠0:=Nat.mul_ne_zero h (by omega)
  have d:=ks v i h
  have l:aJ (v*2^i) E=aJ v (E+i):=by unfold aJ;rw[d];congr 1;omega
  unfold bX fL
  rw[if_neg h,if_neg f,l,d,Ag,show E-aJ v (E+i)+i=E+i-aJ v (E+i) by omega,show((bl v+i:Nat):Int)+E=(bl v:Int)+(E+i) by omega]
def rv(r:Nat):Nat:=if r<4503599627370496 then r else(4503599627370496+r%4503599627370496)*2^(r/4503599627370496-1)
theorem mP(m k:Nat)(l:m≤9007199254740992)(d:k≠0→4503599627370496≤m):rv (m+k*4503599627370496)=m*2^k:=by
 unfold rv
 by_cases h:m+k*4503599627370496<4503599627370496
 ·rw[if_pos h]
  obtain rfl:k=0:=by omega
  simp
 ·rw[if_neg h]
  by_cases t:m<9007199254740992
  ·have y:4503599627370496≤m:=by
    by_cases f:k=0
    ·omega
    ·exact d f
   rw[show(m+k*4503599627370496)/4503599627370496=k+1 by omega,show(m+k*4503599627370496)%4503599627370496=m-4503599627370496 by omega,show 4503599627370496+(m-4503599627370496)=m by omega]
   rfl
  ·obtain rfl:m=9007199254740992:=by omega
   rw[show(9007199254740992+k*4503599627370496)/4503599627370496=k+2 by omega,show(9007199254740992+k*4503599627370496)%4503599627370496=0 by omega,show k+2-1=k+1 by omega,Nat.pow_succ]
   omega
theorem qn(r:Nat):rv r<rv (r+1):=by
 by_cases h:r<4503599627370496
 ·have d:=mP r 0 (by omega) (by simp)
  have f:=mP (r+1) 0 (by omega) (by simp)
  simp at d f
  rw[d,f];omega
 ·obtain⟨k,y⟩:∃k,r/4503599627370496=k+1:=⟨r/4503599627370496-1,by omega⟩
  have l:r=(4503599627370496+r%4503599627370496)+k*4503599627370496:=by omega
  generalize z:4503599627370496+r%4503599627370496=m at*
  have t:m<9007199254740992:=by omega
  have d:=mP m k (by omega) (fun _=>by omega)
  have f:=mP (m+1) k (by omega) (fun _=>by omega)
  rw[←l]at d
  rw[show m+1+k*4503599627370496=r+1 by omega]at f
  rw[d,f]
  exact Nat.mul_lt_mul_of_pos_right (by omega) (Nat.two_pow_pos _)
theorem qp{r s:Nat}(h:r≤s):rv r≤rv s:=by
 obtain⟨d,rfl⟩:=Nat.exists_eq_add_of_le h
 induction d with
 |zero=>exact Nat.le_refl _
 |succ d ih=>exact Nat.le_trans (ih (by omega)) (Nat.le_of_lt (qn (r+d)))
theorem fO:rv 0=0:=by decide
open Go.RowKit
def fS(b:Nat):Bool:=decide (9223372036854775808≤b)
def fP(b:Nat):Nat:=b%9223372036854775808/4503599627370496
def fF(b:Nat):Nat:=b%4503599627370496
def fN(b:Nat):Nat:=if 9223372036854775808≤b then b-9223372036854775808 else b+9223372036854775808
def fK(b:Nat):Int:=if fP b=2047 then(if fF b=0 then 3 else 4)else if fP b=0 then(if fF b=0 then 0 else 1)else 2
theorem wG(b:Nat)(h:b<18446744073709551616):bits .and .u64 (b:Int) 9223372036854775808=if fS b then 9223372036854775808 else 0:=by
 have l:=bits_and_u64_nat b 9223372036854775808 h (by decide)
 refine l.trans ?_
 have m:(b&&& 2^63)%2^63=0:=by rw[Nat.and_mod_two_pow];simp
 have t:(b&&& 2^63)/2^63=(b/2^63)&&& 1:=by rw[Nat.and_div_two_pow]
 rw[show(9223372036854775808:Nat)=2^63 by decide]
 have d:=Nat.div_add_mod (b&&& 2^63) (2^63)
 rw[m,t]at d
 unfold fS
 by_cases f:9223372036854775808≤b
 ·rw[decide_eq_true f,if_pos rfl]
  rw[show b/2^63=1 by omega]at d
  simp only[Nat.and_self]at d
  omega
 ·rw[decide_eq_false f,if_neg (by simp)]
  rw[show b/2^63=0 by omega]at d
  simp only[Nat.zero_and]at d
  omega
theorem DY(b:Nat)(h:b<18446744073709551616):bits .and .u64 (b:Int) 4503599627370495=(fF b:Int):=by
 have d:=bits_and_u64_nat b 4503599627370495 h (by decide)
 refine d.trans ?_
 have f:b&&& 2^52-1=b%2^52:=Nat.and_two_pow_sub_one_eq_mod b 52
 rw[show(4503599627370495:Nat)=2^52-1 by decide,f]
 rfl
theorem DZ(b:Nat)(h:b<18446744073709551616):bits .and .u64 ((b:Int)/4503599627370496) 2047=(fP b:Int):=by
 have d:=bits_and_u64_nat (b/4503599627370496) 2047 (by omega) (by decide)
 refine d.trans ?_
 have f:(b/4503599627370496)&&& 2^11-1=(b/4503599627370496)%2^11:=Nat.and_two_pow_sub_one_eq_mod _ 11
 rw[show(2047:Nat)=2^11-1 by decide,f]
 unfold fP
 omega
theorem D0(b:Nat)(h:b<18446744073709551616):bits .xor .u64 (b:Int) 9223372036854775808=(fN b:Int):=by
 have l:=bits_xor_u64_nat b 9223372036854775808 h (by decide)
 refine l.trans ?_
 have m:(b ^^^ 2^63)%2^63=b%2^63:=by rw[Nat.xor_mod_two_pow];simp
 have t:(b ^^^ 2^63)/2^63=(b/2^63) ^^^ 1:=by rw[Nat.xor_div_two_pow]
 rw[show(9223372036854775808:Nat)=2^63 by decide]
 unfold fN
 have d:=Nat.div_add_mod (b ^^^ 2^63) (2^63)
 rw[m,t]at d
 by_cases f:9223372036854775808≤b
 ·rw[if_pos f]
  rw[show b/2^63=1 by omega]at d
  simp only[Nat.xor_self]at d
  omega
 ·rw[if_neg f]
  rw[show b/2^63=0 by omega]at d
  simp only[Nat.zero_xor]at d
  omega
theorem mQ(b:Nat):fP b<2048:=by unfold fP;omega
theorem rM(b:Nat):fF b<4503599627370496:=by unfold fF;omega
theorem jR(b:Nat)(h:b<18446744073709551616):fN b<18446744073709551616:=by unfold fN;split<;>omega
def ch(w:World)(b:Nat)(x y z:Value):Prop:=w.heap[b]? =some (.cells #[x,y,z] 162 (0,0))
theorem ch.c0{w:World}{b:Nat}{x y z:Value}(h:ch w b x y z):w.cell? ⟨b,0,none⟩=some x:=by rw[cell_of_row w b 0 _ _ _ h];rfl
theorem ch.c1{w:World}{b:Nat}{x y z:Value}(h:ch w b x y z):w.cell? ⟨b,1,none⟩=some y:=by rw[cell_of_row w b 1 _ _ _ h];rfl
theorem ch.c2{w:World}{b:Nat}{x y z:Value}(h:ch w b x y z):w.cell? ⟨b,2,none⟩=some z:=by rw[cell_of_row w b 2 _ _ _ h];rfl
theorem ch.lt{w:World}{b:Nat}{x y z:Value}(h:ch w b x y z):b<w.heap.size:=(Array.getElem?_eq_some_iff.1 h).1
theorem ch.below{w f:World}{b:Nat}{x y z:Value}(h:ch w b x y z){B:Nat}(l:Below B w f)(d:b<B):ch f b x y z:=(l.block b d).trans h
theorem ch.new(w:World)(x y z:Value):ch (w.alloc (.cells #[x,y,z] 162)) w.heap.size x y z:=heap_alloc_new w _
theorem ch.all{w d:World}{b:Nat}{x y z:Value}(h:ch w b x y z)(f:Below w.heap.size w d):ch d b x y z:=h.below f h.lt
def fV(b:Nat):Value:=.agg #[.bool (fS b),.int .u64 (fP b),.int .u64 (fF b)]
theorem eO(b:Nat)(w:World)(h:b<18446744073709551616):
  Calls Tryz.prog 162 #[.int .u64 b] w fun e t=>e=.returned (fV b)∧Below w.heap.size w t:=by
 have d:=wG b h
 have l:=DY b h
 have m:=DZ b h
 unfold fV
 generalize fF b=f at*
 generalize fP b=p at*
 generalize fS b=s at*
 have z:(0:Int)≤b:=by omega
 have y:(b:Int)<18446744073709551616:=by omega
 clear h
 cases s
 ·simp only[Bool.false_eq_true,if_false]at d
  go_enter Tryz.func162,Tryz.ntmps162
  go_wp2_with(simp only[d,l,m])
  refine bodyPost_ret (v:=.agg #[.bool false,.int .u64 p,.int .u64 f]) (by simp[results,Tryz.results162,go_sem]) rfl ⟨rfl,(Below.refl _ _).alloc (Nat.le_refl _) _⟩
 ·simp only[if_true]at d
  go_enter Tryz.func162,Tryz.ntmps162
  go_wp2_with(simp only[d,l,m])
  refine bodyPost_ret (v:=.agg #[.bool true,.int .u64 p,.int .u64 f]) (by simp[results,Tryz.results162,go_sem]) rfl ⟨rfl,(Below.refl _ _).alloc (Nat.le_refl _) _⟩
theorem ge(b:Nat)(w:World)(h:b<18446744073709551616):
  Calls Tryz.prog 119 #[.int .u64 b] w fun e d=>e=.returned (.int .u64 (fN b))∧w=d:=by
 have l:=D0 b h
 generalize fN b=f at*
 clear h
 go_enter Tryz.func119,Tryz.ntmps119
 go_wp2_with(simp only[l])
 go_ret
 exact⟨rfl,rfl⟩
theorem uB(s:Bool)(p f:Int)(W:World):(Instr.field 162 (.agg #[.bool s,.int .u64 p,.int .u64 f]) 0).run Tryz.prog W=.ok (.bool s) W:=by kernel_rfl
theorem dZ(b:Nat)(w:World)(h:b<18446744073709551616):
  Calls Tryz.prog 118 #[.int .u64 b] w fun e d=>e=.returned (.bool (fS b))∧Below w.heap.size w d:=by
 have m:=aa (fun d=>eO b d h)
 unfold fV at m
 generalize fF b=f at*
 generalize fP b=p at*
 generalize fS b=s at*
 have t:=fun W=>uB s p f W
 clear h
 go_enter Tryz.func118,Tryz.ntmps118
 go_wp2_with(go_at_call 162;refine(uH m _).mono ?_;rintro r y ⟨rfl,l⟩)
 go_ret
 exact⟨rfl,l⟩
theorem fY(b:Nat)(w:World)(h:b<18446744073709551616):
  Calls Tryz.prog 120 #[.int .u64 b] w fun e l=>e=.returned (.bool (fS b))∧w=l:=by
 unfold fS
 by_cases d:9223372036854775808≤b
 ·rw[decide_eq_true d]
  have f:(b:Int)/9223372036854775808=1:=by omega
  clear d h
  go_enter Tryz.func120,Tryz.ntmps120
  go_wp2_with(simp only[f])
  go_ret
  exact⟨rfl,rfl⟩
 ·rw[decide_eq_false d]
  have f:(b:Int)/9223372036854775808=0:=by omega
  clear d h
  go_enter Tryz.func120,Tryz.ntmps120
  go_wp2_with(simp only[f])
  go_ret
  exact⟨rfl,rfl⟩
theorem j3(b:Nat)(w:World)(_h:b<18446744073709551616):
  Calls Tryz.prog 105 #[.int .u64 b] w fun e d=>e=.returned (.int .i64 (fP b))∧w=d:=by
 have f:(b:Int)%9223372036854775808/4503599627370496=(fP b:Int):=by unfold fP;omega
 have h:=mQ b
 generalize fP b=p at*
 go_enter Tryz.func105,Tryz.ntmps105
 go_wp2_with(simp only[f])
 go_ret
 exact⟨rfl,rfl⟩
theorem ps(b:Nat)(w:World)(_h:b<18446744073709551616):
  Calls Tryz.prog 106 #[.int .u64 b] w fun e d=>e=.returned (.int .u64 (fF b))∧w=d:=by
 have f:(b:Int)%4503599627370496=(fF b:Int):=by unfold fF;omega
 have h:=rM b
 generalize fF b=p at*
 go_enter Tryz.func106,Tryz.ntmps106
 go_wp2_with(simp only[f])
 go_ret
 exact⟨rfl,rfl⟩
theorem bY{d:World}{g:Nat}{x y z:Value}(l:ch d g x y z):∀f,Below d.heap.size d f→Below d.heap.size d f∧f.cell? ⟨g,0,none⟩=some x∧f.cell? ⟨g,1,none⟩=some y∧f.cell? ⟨g,2,none⟩=some z:=fun _ h=>⟨h,(l.all h).c0,(l.all h).c1,(l.all h).c2⟩
theorem es{f l d:World}{p:Prop}(h:Below f.heap.size f l∧p)(m:Below l.heap.size l d):Below f.heap.size f d:=h.1.trans (m.mono h.1.size)
theorem cL{w d f:World}{p:Prop}(l:Hid (Below w.heap.size w d))(h:Below d.heap.size d f∧p):Below w.heap.size w f:=l.out.trans (h.1.mono l.out.size)
theorem dH(w:World):Calls Tryz.prog 162 #[.int .u64 0] w fun e d=>e=.returned (.agg #[.bool false,.int .u64 0,.int .u64 0])∧Below w.heap.size w d:=by
 have h:=eO 0 w (by decide)
 simpa[fV,fS,fP,fF]using h
theorem eu(w:World):Calls Tryz.prog 162 #[.int .u64 9223372036854775808] w fun e d=>e=.returned (.agg #[.bool true,.int .u64 0,.int .u64 0])∧Below w.heap.size w d:=by
 have h:=eO 9223372036854775808 w (by decide)
 simpa[fV,fS,fP,fF]using h
theorem fi(w:World):Calls Tryz.prog 162 #[.int .u64 9218868437227405312] w fun e d=>e=.returned (.agg #[.bool false,.int .u64 2047,.int .u64 0])∧Below w.heap.size w d:=by
 have h:=eO 9218868437227405312 w (by decide)
 simpa[fV,fS,fP,fF]using h
theorem gf(w:World):Calls Tryz.prog 162 #[.int .u64 18442240474082181120] w fun e d=>e=.returned (.agg #[.bool true,.int .u64 2047,.int .u64 0])∧Below w.heap.size w d:=by
 have h:=eO 18442240474082181120 w (by decide)
 simpa[fV,fS,fP,fF]using h
theorem D6(b:Nat)(w:World)(C:∀f,Calls Tryz.prog 162 #[.int .u64 b] f fun e h=>e=.returned (.agg #[.bool false,.int .u64 0,.int .u64 0])∧Below f.heap.size f h):
  Calls Tryz.prog 103 #[.int .u64 b] w fun e f=>e=.returned (.int .i64 0)∧Below w.heap.size w f:=by
 have D:=aa dH
 have m:=aa C
 clear C
 go_enter Tryz.func103,Tryz.ntmps103
 go_wp2_with fail
 refine(uH m _).mono ?_
 rintro e y ⟨rfl,d⟩
 clear m
 go_wp2
 refine au (fun W=>Below w.heap.size w W∧ch W y.heap.size (.bool false) (.int .u64 0) (.int .u64 0)) ⟨d.alloc d.size _,ch.new _ _ _ _⟩ ?_
 rintro z ⟨A,l⟩
 clear d
 generalize y.heap.size=g at*
 have t:=aa (bY l);have F:=aa A;have G:=aa l;clear l A
 go_region_held3(fun f=>Below z.heap.size z f∧f.cell? ⟨g,0,none⟩=some (.bool false)∧f.cell? ⟨g,1,none⟩=some (.int .u64 0)∧f.cell? ⟨g,2,none⟩=some (.int .u64 0))
  (first|exact uH t _ (Below.refl _ _).drew|exact uH t _ (by assumption)|fail "NO KEEP")
  (first|(go_at_call 162;refine(uH D _).mono ?_;rintro e I ⟨rfl,d⟩;have H:=es (by assumption) d;clear d)|fail "NO ARM")
 go_wp2
 go_ret
 exact⟨rfl,cL F (by assumption)⟩
theorem D7(b:Nat)(w:World)(C:∀f,Calls Tryz.prog 162 #[.int .u64 b] f fun e F=>e=.returned (.agg #[.bool false,.int .u64 2047,.int .u64 0])∧Below f.heap.size f F):
  Calls Tryz.prog 103 #[.int .u64 b] w fun e f=>e=.returned (.int .i64 3)∧Below w.heap.size w f:=by
 have y:=aa dH
 have z:=aa eu
 have A:=aa fi
 have H:=aa C
 clear C
 go_enter Tryz.func103,Tryz.ntmps103
 go_wp2_with fail
 refine(uH H _).mono ?_
 rintro e I ⟨rfl,d⟩
 clear H
 go_wp2
 refine au (fun W=>Below w.heap.size w W∧ch W I.heap.size (.bool false) (.int .u64 2047) (.int .u64 0)) ⟨d.alloc d.size _,ch.new _ _ _ _⟩ ?_
 rintro m ⟨t,h⟩
 clear d
 generalize I.heap.size=g at*
 have l:=aa (bY h);have D:=aa t;have G:=aa h;clear h t
 iterate 2 (go_region_held3(fun f=>Below m.heap.size m f∧f.cell? ⟨g,0,none⟩=some (.bool false)∧f.cell? ⟨g,1,none⟩=some (.int .u64 2047)∧f.cell? ⟨g,2,none⟩=some (.int .u64 0))
  (first|exact uH l _ (Below.refl _ _).drew|exact uH l _ (by assumption)|fail "NO KEEP")
  (first|(go_at_call 162;(first|(refine(uH y _).mono ?_;clear y)|(refine(uH z _).mono ?_;clear z)|(refine(uH A _).mono ?_;clear A));rintro e L ⟨rfl,d⟩;have K:=es (by assumption) d;clear d)|fail "NO ARM");go_wp2;refine au (fun W=>Below w.heap.size w W∧ch W g (.bool false) (.int .u64 2047) (.int .u64 0)) ⟨cL D (by assumption),(uH G).all (And.left (by assumption))⟩ ?_;clear l D G;rintro m ⟨t,h⟩;have l:=aa (bY h);have D:=aa t;have G:=aa h;clear h t)
 go_region_held3(fun f=>Below m.heap.size m f∧f.cell? ⟨g,0,none⟩=some (.bool false)∧f.cell? ⟨g,1,none⟩=some (.int .u64 2047)∧f.cell? ⟨g,2,none⟩=some (.int .u64 0))
  (first|exact uH l _ (Below.refl _ _).drew|exact uH l _ (by assumption)|fail "NO KEEP")
  (first|(go_at_call 162;(first|(refine(uH y _).mono ?_;clear y)|(refine(uH z _).mono ?_;clear z)|(refine(uH A _).mono ?_;clear A));rintro e L ⟨rfl,d⟩;have K:=es (by assumption) d;clear d)|fail "NO ARM")
 go_wp2
 go_ret
 exact⟨rfl,cL D (by assumption)⟩
theorem D8(b:Nat)(f:Nat)(w:World)(C:∀h,Calls Tryz.prog 162 #[.int .u64 b] h fun e H=>e=.returned (.agg #[.bool false,.int .u64 0,.int .u64 f])∧Below h.heap.size h H)(O:((f:Int)==0)=false):
  Calls Tryz.prog 103 #[.int .u64 b] w fun e h=>e=.returned (.int .i64 1)∧Below w.heap.size w h:=by
 have z:=aa dH
 have A:=aa eu
 have D:=aa fi
 have F:=aa gf
 have K:=aa C
 clear C
 go_enter Tryz.func103,Tryz.ntmps103
 go_wp2_with fail
 refine(uH K _).mono ?_
 rintro e L ⟨rfl,d⟩
 clear K
 go_wp2
 refine au (fun W=>Below w.heap.size w W∧ch W L.heap.size (.bool false) (.int .u64 0) (.int .u64 f)) ⟨d.alloc d.size _,ch.new _ _ _ _⟩ ?_
 rintro t ⟨y,l⟩
 clear d
 generalize L.heap.size=g at*
 have m:=aa (bY l);have G:=aa y;have I:=aa l;clear l y
 iterate 3 (go_region_held3(fun h=>Below t.heap.size t h∧h.cell? ⟨g,0,none⟩=some (.bool false)∧h.cell? ⟨g,1,none⟩=some (.int .u64 0)∧h.cell? ⟨g,2,none⟩=some (.int .u64 f))
  (first|exact uH m _ (Below.refl _ _).drew|exact uH m _ (by assumption)|fail "NO KEEP")
  (first|(go_at_call 162;(first|(refine(uH z _).mono ?_;clear z)|(refine(uH A _).mono ?_;clear A)|(refine(uH D _).mono ?_;clear D)|(refine(uH F _).mono ?_;clear F));rintro e N ⟨rfl,d⟩;have M:=es (by assumption) d;clear d)|fail "NO ARM");go_wp2;refine au (fun W=>Below w.heap.size w W∧ch W g (.bool false) (.int .u64 0) (.int .u64 f)) ⟨cL G (by assumption),(uH I).all (And.left (by assumption))⟩ ?_;clear m G I;rintro t ⟨y,l⟩;have m:=aa (bY l);have G:=aa y;have I:=aa l;clear l y)
 go_region_held3(fun h=>Below t.heap.size t h∧h.cell? ⟨g,0,none⟩=some (.bool false)∧h.cell? ⟨g,1,none⟩=some (.int .u64 0)∧h.cell? ⟨g,2,none⟩=some (.int .u64 f))
  (first|exact uH m _ (Below.refl _ _).drew|exact uH m _ (by assumption)|fail "NO KEEP")
  (first|(go_at_call 162;(first|(refine(uH z _).mono ?_;clear z)|(refine(uH A _).mono ?_;clear A)|(refine(uH D _).mono ?_;clear D)|(refine(uH F _).mono ?_;clear F));rintro e N ⟨rfl,d⟩;have M:=es (by assumption) d;clear d)|fail "NO ARM")
 go_wp2
 go_ret
 exact⟨rfl,cL G (by assumption)⟩
theorem D9(b:Nat)(f:Nat)(w:World)(C:∀h,Calls Tryz.prog 162 #[.int .u64 b] h fun e H=>e=.returned (.agg #[.bool false,.int .u64 2047,.int .u64 f])∧Below h.heap.size h H)(O:((f:Int)==0)=false):
  Calls Tryz.prog 103 #[.int .u64 b] w fun e h=>e=.returned (.int .i64 4)∧Below w.heap.size w h:=by
 have z:=aa dH
 have A:=aa eu
 have D:=aa fi
 have F:=aa gf
 have K:=aa C
 clear C
 go_enter Tryz.func103,Tryz.ntmps103
 go_wp2_with fail
 refine(uH K _).mono ?_
 rintro e L ⟨rfl,d⟩
 clear K
 go_wp2
 refine au (fun W=>Below w.heap.size w W∧ch W L.heap.size (.bool false) (.int .u64 2047) (.int .u64 f)) ⟨d.alloc d.size _,ch.new _ _ _ _⟩ ?_
 rintro t ⟨y,l⟩
 clear d
 generalize L.heap.size=g at*
 have m:=aa (bY l);have G:=aa y;have I:=aa l;clear l y
 iterate 3 (go_region_held3(fun h=>Below t.heap.size t h∧h.cell? ⟨g,0,none⟩=some (.bool false)∧h.cell? ⟨g,1,none⟩=some (.int .u64 2047)∧h.cell? ⟨g,2,none⟩=some (.int .u64 f))
  (first|exact uH m _ (Below.refl _ _).drew|exact uH m _ (by assumption)|fail "NO KEEP")
  (first|(go_at_call 162;(first|(refine(uH z _).mono ?_;clear z)|(refine(uH A _).mono ?_;clear A)|(refine(uH D _).mono ?_;clear D)|(refine(uH F _).mono ?_;clear F));rintro e N ⟨rfl,d⟩;have M:=es (by assumption) d;clear d)|fail "NO ARM");go_wp2;refine au (fun W=>Below w.heap.size w W∧ch W g (.bool false) (.int .u64 2047) (.int .u64 f)) ⟨cL G (by assumption),(uH I).all (And.left (by assumption))⟩ ?_;clear m G I;rintro t ⟨y,l⟩;have m:=aa (bY l);have G:=aa y;have I:=aa l;clear l y)
 go_region_held3(fun h=>Below t.heap.size t h∧h.cell? ⟨g,0,none⟩=some (.bool false)∧h.cell? ⟨g,1,none⟩=some (.int .u64 2047)∧h.cell? ⟨g,2,none⟩=some (.int .u64 f))
  (first|exact uH m _ (Below.refl _ _).drew|exact uH m _ (by assumption)|fail "NO KEEP")
  (first|(go_at_call 162;(first|(refine(uH z _).mono ?_;clear z)|(refine(uH A _).mono ?_;clear A)|(refine(uH D _).mono ?_;clear D)|(refine(uH F _).mono ?_;clear F));rintro e N ⟨rfl,d⟩;have M:=es (by assumption) d;clear d)|fail "NO ARM")
 go_wp2
 go_ret
 exact⟨rfl,cL G (by assumption)⟩
theorem Ea(b:Nat)(p:Nat)(f:Nat)(w:World)(C:∀h,Calls Tryz.prog 162 #[.int .u64 b] h fun e H=>e=.returned (.agg #[.bool false,.int .u64 p,.int .u64 f])∧Below h.heap.size h H)(O:((p:Int)==0)=false)(Q:((p:Int)==2047)=false):
  Calls Tryz.prog 103 #[.int .u64 b] w fun e h=>e=.returned (.int .i64 2)∧Below w.heap.size w h:=by
 have z:=aa dH
 have A:=aa eu
 have D:=aa fi
 have F:=aa gf
 have K:=aa C
 clear C
 go_enter Tryz.func103,Tryz.ntmps103
 go_wp2_with fail
 refine(uH K _).mono ?_
 rintro e L ⟨rfl,d⟩
 clear K
 go_wp2
 refine au (fun W=>Below w.heap.size w W∧ch W L.heap.size (.bool false) (.int .u64 p) (.int .u64 f)) ⟨d.alloc d.size _,ch.new _ _ _ _⟩ ?_
 rintro t ⟨y,l⟩
 clear d
 generalize L.heap.size=g at*
 have m:=aa (bY l);have G:=aa y;have I:=aa l;clear l y
 iterate 3 (go_region_held3(fun h=>Below t.heap.size t h∧h.cell? ⟨g,0,none⟩=some (.bool false)∧h.cell? ⟨g,1,none⟩=some (.int .u64 p)∧h.cell? ⟨g,2,none⟩=some (.int .u64 f))
  (first|exact uH m _ (Below.refl _ _).drew|exact uH m _ (by assumption)|fail "NO KEEP")
  (first|(go_at_call 162;(first|(refine(uH z _).mono ?_;clear z)|(refine(uH A _).mono ?_;clear A)|(refine(uH D _).mono ?_;clear D)|(refine(uH F _).mono ?_;clear F));rintro e N ⟨rfl,d⟩;have M:=es (by assumption) d;clear d)|fail "NO ARM");go_wp2;refine au (fun W=>Below w.heap.size w W∧ch W g (.bool false) (.int .u64 p) (.int .u64 f)) ⟨cL G (by assumption),(uH I).all (And.left (by assumption))⟩ ?_;clear m G I;rintro t ⟨y,l⟩;have m:=aa (bY l);have G:=aa y;have I:=aa l;clear l y)
 go_region_held3(fun h=>Below t.heap.size t h∧h.cell? ⟨g,0,none⟩=some (.bool false)∧h.cell? ⟨g,1,none⟩=some (.int .u64 p)∧h.cell? ⟨g,2,none⟩=some (.int .u64 f))
  (first|exact uH m _ (Below.refl _ _).drew|exact uH m _ (by assumption)|fail "NO KEEP")
  (first|(go_at_call 162;(first|(refine(uH z _).mono ?_;clear z)|(refine(uH A _).mono ?_;clear A)|(refine(uH D _).mono ?_;clear D)|(refine(uH F _).mono ?_;clear F));rintro e N ⟨rfl,d⟩;have M:=es (by assumption) d;clear d)|fail "NO ARM")
 go_wp2
 go_ret
 exact⟨rfl,cL G (by assumption)⟩
theorem Eb(b:Nat)(w:World)(C:∀f,Calls Tryz.prog 162 #[.int .u64 b] f fun e D=>e=.returned (.agg #[.bool true,.int .u64 0,.int .u64 0])∧Below f.heap.size f D):
  Calls Tryz.prog 103 #[.int .u64 b] w fun e f=>e=.returned (.int .i64 0)∧Below w.heap.size w f:=by
 have y:=aa dH
 have z:=aa eu
 have G:=aa C
 clear C
 go_enter Tryz.func103,Tryz.ntmps103
 go_wp2_with fail
 refine(uH G _).mono ?_
 rintro e H ⟨rfl,d⟩
 clear G
 go_wp2
 refine au (fun W=>Below w.heap.size w W∧ch W H.heap.size (.bool true) (.int .u64 0) (.int .u64 0)) ⟨d.alloc d.size _,ch.new _ _ _ _⟩ ?_
 rintro m ⟨t,h⟩
 clear d
 generalize H.heap.size=g at*
 have l:=aa (bY h);have A:=aa t;have F:=aa h;clear h t
 iterate 1 (go_region_held3(fun f=>Below m.heap.size m f∧f.cell? ⟨g,0,none⟩=some (.bool true)∧f.cell? ⟨g,1,none⟩=some (.int .u64 0)∧f.cell? ⟨g,2,none⟩=some (.int .u64 0))
  (first|exact uH l _ (Below.refl _ _).drew|exact uH l _ (by assumption)|fail "NO KEEP")
  (first|(go_at_call 162;(first|(refine(uH y _).mono ?_;clear y)|(refine(uH z _).mono ?_;clear z));rintro e K ⟨rfl,d⟩;have I:=es (by assumption) d;clear d)|fail "NO ARM");go_wp2;refine au (fun W=>Below w.heap.size w W∧ch W g (.bool true) (.int .u64 0) (.int .u64 0)) ⟨cL A (by assumption),(uH F).all (And.left (by assumption))⟩ ?_;clear l A F;rintro m ⟨t,h⟩;have l:=aa (bY h);have A:=aa t;have F:=aa h;clear h t)
 go_region_held3(fun f=>Below m.heap.size m f∧f.cell? ⟨g,0,none⟩=some (.bool true)∧f.cell? ⟨g,1,none⟩=some (.int .u64 0)∧f.cell? ⟨g,2,none⟩=some (.int .u64 0))
  (first|exact uH l _ (Below.refl _ _).drew|exact uH l _ (by assumption)|fail "NO KEEP")
  (first|(go_at_call 162;(first|(refine(uH y _).mono ?_;clear y)|(refine(uH z _).mono ?_;clear z));rintro e K ⟨rfl,d⟩;have I:=es (by assumption) d;clear d)|fail "NO ARM")
 go_wp2
 go_ret
 exact⟨rfl,cL A (by assumption)⟩
theorem Ec(b:Nat)(w:World)(C:∀f,Calls Tryz.prog 162 #[.int .u64 b] f fun e G=>e=.returned (.agg #[.bool true,.int .u64 2047,.int .u64 0])∧Below f.heap.size f G):
  Calls Tryz.prog 103 #[.int .u64 b] w fun e f=>e=.returned (.int .i64 3)∧Below w.heap.size w f:=by
 have y:=aa dH
 have z:=aa eu
 have A:=aa fi
 have D:=aa gf
 have I:=aa C
 clear C
 go_enter Tryz.func103,Tryz.ntmps103
 go_wp2_with fail
 refine(uH I _).mono ?_
 rintro e K ⟨rfl,d⟩
 clear I
 go_wp2
 refine au (fun W=>Below w.heap.size w W∧ch W K.heap.size (.bool true) (.int .u64 2047) (.int .u64 0)) ⟨d.alloc d.size _,ch.new _ _ _ _⟩ ?_
 rintro m ⟨t,h⟩
 clear d
 generalize K.heap.size=g at*
 have l:=aa (bY h);have F:=aa t;have H:=aa h;clear h t
 iterate 3 (go_region_held3(fun f=>Below m.heap.size m f∧f.cell? ⟨g,0,none⟩=some (.bool true)∧f.cell? ⟨g,1,none⟩=some (.int .u64 2047)∧f.cell? ⟨g,2,none⟩=some (.int .u64 0))
  (first|exact uH l _ (Below.refl _ _).drew|exact uH l _ (by assumption)|fail "NO KEEP")
  (first|(go_at_call 162;(first|(refine(uH y _).mono ?_;clear y)|(refine(uH z _).mono ?_;clear z)|(refine(uH A _).mono ?_;clear A)|(refine(uH D _).mono ?_;clear D));rintro e M ⟨rfl,d⟩;have L:=es (by assumption) d;clear d)|fail "NO ARM");go_wp2;refine au (fun W=>Below w.heap.size w W∧ch W g (.bool true) (.int .u64 2047) (.int .u64 0)) ⟨cL F (by assumption),(uH H).all (And.left (by assumption))⟩ ?_;clear l F H;rintro m ⟨t,h⟩;have l:=aa (bY h);have F:=aa t;have H:=aa h;clear h t)
 go_region_held3(fun f=>Below m.heap.size m f∧f.cell? ⟨g,0,none⟩=some (.bool true)∧f.cell? ⟨g,1,none⟩=some (.int .u64 2047)∧f.cell? ⟨g,2,none⟩=some (.int .u64 0))
  (first|exact uH l _ (Below.refl _ _).drew|exact uH l _ (by assumption)|fail "NO KEEP")
  (first|(go_at_call 162;(first|(refine(uH y _).mono ?_;clear y)|(refine(uH z _).mono ?_;clear z)|(refine(uH A _).mono ?_;clear A)|(refine(uH D _).mono ?_;clear D));rintro e M ⟨rfl,d⟩;have L:=es (by assumption) d;clear d)|fail "NO ARM")
 go_wp2
 go_ret
 exact⟨rfl,cL F (by assumption)⟩
theorem Ed(b:Nat)(f:Nat)(w:World)(C:∀h,Calls Tryz.prog 162 #[.int .u64 b] h fun e H=>e=.returned (.agg #[.bool true,.int .u64 0,.int .u64 f])∧Below h.heap.size h H)(O:((f:Int)==0)=false):
  Calls Tryz.prog 103 #[.int .u64 b] w fun e h=>e=.returned (.int .i64 1)∧Below w.heap.size w h:=by
 have z:=aa dH
 have A:=aa eu
 have D:=aa fi
 have F:=aa gf
 have K:=aa C
 clear C
 go_enter Tryz.func103,Tryz.ntmps103
 go_wp2_with fail
 refine(uH K _).mono ?_
 rintro e L ⟨rfl,d⟩
 clear K
 go_wp2
 refine au (fun W=>Below w.heap.size w W∧ch W L.heap.size (.bool true) (.int .u64 0) (.int .u64 f)) ⟨d.alloc d.size _,ch.new _ _ _ _⟩ ?_
 rintro t ⟨y,l⟩
 clear d
 generalize L.heap.size=g at*
 have m:=aa (bY l);have G:=aa y;have I:=aa l;clear l y
 iterate 3 (go_region_held3(fun h=>Below t.heap.size t h∧h.cell? ⟨g,0,none⟩=some (.bool true)∧h.cell? ⟨g,1,none⟩=some (.int .u64 0)∧h.cell? ⟨g,2,none⟩=some (.int .u64 f))
  (first|exact uH m _ (Below.refl _ _).drew|exact uH m _ (by assumption)|fail "NO KEEP")
  (first|(go_at_call 162;(first|(refine(uH z _).mono ?_;clear z)|(refine(uH A _).mono ?_;clear A)|(refine(uH D _).mono ?_;clear D)|(refine(uH F _).mono ?_;clear F));rintro e N ⟨rfl,d⟩;have M:=es (by assumption) d;clear d)|fail "NO ARM");go_wp2;refine au (fun W=>Below w.heap.size w W∧ch W g (.bool true) (.int .u64 0) (.int .u64 f)) ⟨cL G (by assumption),(uH I).all (And.left (by assumption))⟩ ?_;clear m G I;rintro t ⟨y,l⟩;have m:=aa (bY l);have G:=aa y;have I:=aa l;clear l y)
 go_region_held3(fun h=>Below t.heap.size t h∧h.cell? ⟨g,0,none⟩=some (.bool true)∧h.cell? ⟨g,1,none⟩=some (.int .u64 0)∧h.cell? ⟨g,2,none⟩=some (.int .u64 f))
  (first|exact uH m _ (Below.refl _ _).drew|exact uH m _ (by assumption)|fail "NO KEEP")
  (first|(go_at_call 162;(first|(refine(uH z _).mono ?_;clear z)|(refine(uH A _).mono ?_;clear A)|(refine(uH D _).mono ?_;clear D)|(refine(uH F _).mono ?_;clear F));rintro e N ⟨rfl,d⟩;have M:=es (by assumption) d;clear d)|fail "NO ARM")
 go_wp2
 go_ret
 exact⟨rfl,cL G (by assumption)⟩
theorem Ee(b:Nat)(f:Nat)(w:World)(C:∀h,Calls Tryz.prog 162 #[.int .u64 b] h fun e H=>e=.returned (.agg #[.bool true,.int .u64 2047,.int .u64 f])∧Below h.heap.size h H)(O:((f:Int)==0)=false):
  Calls Tryz.prog 103 #[.int .u64 b] w fun e h=>e=.returned (.int .i64 4)∧Below w.heap.size w h:=by
 have z:=aa dH
 have A:=aa eu
 have D:=aa fi
 have F:=aa gf
 have K:=aa C
 clear C
 go_enter Tryz.func103,Tryz.ntmps103
 go_wp2_with fail
 refine(uH K _).mono ?_
 rintro e L ⟨rfl,d⟩
 clear K
 go_wp2
 refine au (fun W=>Below w.heap.size w W∧ch W L.heap.size (.bool true) (.int .u64 2047) (.int .u64 f)) ⟨d.alloc d.size _,ch.new _ _ _ _⟩ ?_
 rintro t ⟨y,l⟩
 clear d
 generalize L.heap.size=g at*
 have m:=aa (bY l);have G:=aa y;have I:=aa l;clear l y
 iterate 3 (go_region_held3(fun h=>Below t.heap.size t h∧h.cell? ⟨g,0,none⟩=some (.bool true)∧h.cell? ⟨g,1,none⟩=some (.int .u64 2047)∧h.cell? ⟨g,2,none⟩=some (.int .u64 f))
  (first|exact uH m _ (Below.refl _ _).drew|exact uH m _ (by assumption)|fail "NO KEEP")
  (first|(go_at_call 162;(first|(refine(uH z _).mono ?_;clear z)|(refine(uH A _).mono ?_;clear A)|(refine(uH D _).mono ?_;clear D)|(refine(uH F _).mono ?_;clear F));rintro e N ⟨rfl,d⟩;have M:=es (by assumption) d;clear d)|fail "NO ARM");go_wp2;refine au (fun W=>Below w.heap.size w W∧ch W g (.bool true) (.int .u64 2047) (.int .u64 f)) ⟨cL G (by assumption),(uH I).all (And.left (by assumption))⟩ ?_;clear m G I;rintro t ⟨y,l⟩;have m:=aa (bY l);have G:=aa y;have I:=aa l;clear l y)
 go_region_held3(fun h=>Below t.heap.size t h∧h.cell? ⟨g,0,none⟩=some (.bool true)∧h.cell? ⟨g,1,none⟩=some (.int .u64 2047)∧h.cell? ⟨g,2,none⟩=some (.int .u64 f))
  (first|exact uH m _ (Below.refl _ _).drew|exact uH m _ (by assumption)|fail "NO KEEP")
  (first|(go_at_call 162;(first|(refine(uH z _).mono ?_;clear z)|(refine(uH A _).mono ?_;clear A)|(refine(uH D _).mono ?_;clear D)|(refine(uH F _).mono ?_;clear F));rintro e N ⟨rfl,d⟩;have M:=es (by assumption) d;clear d)|fail "NO ARM")
 go_wp2
 go_ret
 exact⟨rfl,cL G (by assumption)⟩
theorem Ef(b:Nat)(p:Nat)(f:Nat)(w:World)(C:∀h,Calls Tryz.prog 162 #[.int .u64 b] h fun e H=>e=.returned (.agg #[.bool true,.int .u64 p,.int .u64 f])∧Below h.heap.size h H)(O:((p:Int)==0)=false)(Q:((p:Int)==2047)=false):
  Calls Tryz.prog 103 #[.int .u64 b] w fun e h=>e=.returned (.int .i64 2)∧Below w.heap.size w h:=by
 have z:=aa dH
 have A:=aa eu
 have D:=aa fi
 have F:=aa gf
 have K:=aa C
 clear C
 go_enter Tryz.func103,Tryz.ntmps103
 go_wp2_with fail
 refine(uH K _).mono ?_
 rintro e L ⟨rfl,d⟩
 clear K
 go_wp2
 refine au (fun W=>Below w.heap.size w W∧ch W L.heap.size (.bool true) (.int .u64 p) (.int .u64 f)) ⟨d.alloc d.size _,ch.new _ _ _ _⟩ ?_
 rintro t ⟨y,l⟩
 clear d
 generalize L.heap.size=g at*
 have m:=aa (bY l);have G:=aa y;have I:=aa l;clear l y
 iterate 3 (go_region_held3(fun h=>Below t.heap.size t h∧h.cell? ⟨g,0,none⟩=some (.bool true)∧h.cell? ⟨g,1,none⟩=some (.int .u64 p)∧h.cell? ⟨g,2,none⟩=some (.int .u64 f))
  (first|exact uH m _ (Below.refl _ _).drew|exact uH m _ (by assumption)|fail "NO KEEP")
  (first|(go_at_call 162;(first|(refine(uH z _).mono ?_;clear z)|(refine(uH A _).mono ?_;clear A)|(refine(uH D _).mono ?_;clear D)|(refine(uH F _).mono ?_;clear F));rintro e N ⟨rfl,d⟩;have M:=es (by assumption) d;clear d)|fail "NO ARM");go_wp2;refine au (fun W=>Below w.heap.size w W∧ch W g (.bool true) (.int .u64 p) (.int .u64 f)) ⟨cL G (by assumption),(uH I).all (And.left (by assumption))⟩ ?_;clear m G I;rintro t ⟨y,l⟩;have m:=aa (bY l);have G:=aa y;have I:=aa l;clear l y)
 go_region_held3(fun h=>Below t.heap.size t h∧h.cell? ⟨g,0,none⟩=some (.bool true)∧h.cell? ⟨g,1,none⟩=some (.int .u64 p)∧h.cell? ⟨g,2,none⟩=some (.int .u64 f))
  (first|exact uH m _ (Below.refl _ _).drew|exact uH m _ (by assumption)|fail "NO KEEP")
  (first|(go_at_call 162;(first|(refine(uH z _).mono ?_;clear z)|(refine(uH A _).mono ?_;clear A)|(refine(uH D _).mono ?_;clear D)|(refine(uH F _).mono ?_;clear F));rintro e N ⟨rfl,d⟩;have M:=es (by assumption) d;clear d)|fail "NO ARM")
 go_wp2
 go_ret
 exact⟨rfl,cL G (by assumption)⟩
end Go.Proofs.YtlnphkioddknfaaGreatDoor
