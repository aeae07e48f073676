/- Part 3 of the texts. -/
import Derived.Test.YtnnfjeieennffaaGreatDoorPartc02
import Derived.Lib.TrailingZeros
set_option maxHeartbeats 4000000
namespace Go.Proofs.YtnnfjeieennffaaGreatDoor
def tz(v:Nat):Nat:=Lib.ctzFrom v v
theorem il(v:Nat)(h:0<v):∃m,v=2^tz v*(2*m+1):=by
 obtain⟨m,d,_⟩:=Lib.ctzFrom_spec v v h Nat.lt_two_pow_self
 exact⟨m,d⟩
theorem rM(k j m n:Nat)(h:2^k*(2*m+1)=2^j*(2*n+1)):k=j∧m=n:=by
 rcases Nat.lt_trichotomy k j with f|rfl|f
 ·exfalso
  obtain⟨d,rfl⟩:∃d,j=k+(d+1):=⟨j-k-1,by omega⟩
  rw[Nat.pow_add,Nat.mul_assoc]at h
  have:=Nat.eq_of_mul_eq_mul_left (Nat.pow_pos (by decide)) h
  rw[Nat.pow_succ,Nat.mul_assoc,Nat.mul_left_comm]at this
  omega
 ·have:=Nat.eq_of_mul_eq_mul_left (Nat.pow_pos (by decide)) h
  exact⟨rfl,by omega⟩
 ·exfalso
  obtain⟨d,rfl⟩:∃d,k=j+(d+1):=⟨k-j-1,by omega⟩
  rw[Nat.pow_add,Nat.mul_assoc]at h
  have:=Nat.eq_of_mul_eq_mul_left (Nat.pow_pos (by decide)) h
  rw[Nat.pow_succ,Nat.mul_assoc,Nat.mul_left_comm]at this
  omega
theorem zI(v k m:Nat)(h:v=2^k*(2*m+1)):tz v=k:=by
 have d:0<v:=by rw[h];exact Nat.mul_pos (Nat.pow_pos (by decide)) (by omega)
 obtain⟨m',f⟩:=il v d
 exact(rM _ _ m' m (by rw[←f,←h])).1
theorem zJ(v k:Nat)(h:0<v):tz (2^k*v)=k+tz v:=by
 obtain⟨m,d⟩:=il v h
 exact zI _ _ m (by rw[Nat.pow_add,Nat.mul_assoc,←d])
theorem Gr(x:Nat)(d:x≠0)(h:x<4294967296):tz x=Lib.ctz 32 x:=by
 obtain⟨m,f,_⟩:=Lib.ctzFrom_spec 32 x (by omega) (by omega)
 have e:Lib.ctz 32 x=Lib.ctzFrom 32 x:=by simp[Lib.ctz,d]
 rw[e]
 exact zI _ _ m f
theorem lY(v k:Nat)(f:0<v)(h:v<2^k):tz v<k:=by
 obtain⟨m,z⟩:=il v f
 apply Nat.lt_of_not_le
 intro d
 have l:2^k≤2^tz v:=Nat.pow_le_pow_right (by decide) d
 have t:2^tz v≤2^tz v*(2*m+1):=Nat.le_mul_of_pos_right _ (by omega)
 omega
theorem zK(L:List Nat)(k x:Nat)(f:ak (L.take k)=0)(h:L[k]?.getD 0=x)(D:x≠0)(l:x<4294967296):ak L≠0∧tz (ak L)=32*k+tz x:=by
 obtain⟨m,A⟩:=il x (by omega)
 have e:ak L=4294967296^k*(x+4294967296*ak (L.drop (k+1))):=by
  rw[gS L (k+1),aH,f,h,Nat.zero_add,Nat.pow_succ,Nat.mul_add,Nat.mul_assoc]
 have F:tz x<32:=lY x 32 (by omega) (by omega)
 have t:x+4294967296*ak (L.drop (k+1))=2^tz x*(2*(m+2^(31-tz x)*ak (L.drop (k+1)))+1):=by
  have z:4294967296=2^tz x*(2*2^(31-tz x)):=by
   rw[←Nat.pow_succ',←Nat.pow_add,show tz x+(31-tz x).succ=32 by omega]
  rw[Nat.mul_add 2,Nat.add_right_comm,Nat.mul_add (2^tz x),←A,←Nat.mul_assoc 2,←Nat.mul_assoc,←z]
 have d:ak L=2^(32*k+tz x)*(2*(m+2^(31-tz x)*ak (L.drop (k+1)))+1):=by
  rw[e,t,←Nat.mul_assoc,jN]
 refine⟨?_,zI _ _ _ d⟩
 have:0<ak L:=by rw[d];exact Nat.mul_pos (Nat.pow_pos (by decide)) (by omega)
 omega
def oM(z:Int):Int:=z/2^tz z.natAbs
def oE(z e:Int):Int:=if z=0 then 0 else e+tz z.natAbs
def iN(z m:Int)(k:Nat):Prop:=z=m*2^k∧m%2=1
theorem iN.unique{z m m':Int}{k k':Nat}(h:iN z m k)(l:iN z m' k'):m=m'∧k=k':=by
 obtain⟨d,F⟩:=h
 obtain⟨f,G⟩:=l
 have t:z.natAbs=2^k*(2*(m.natAbs/2)+1):=by
  rw[d,Int.natAbs_mul,Int.natAbs_pow,Nat.mul_comm,show(2:Int).natAbs=2 from rfl,show 2*(m.natAbs/2)+1=m.natAbs by omega]
 have A:z.natAbs=2^k'*(2*(m'.natAbs/2)+1):=by
  rw[f,Int.natAbs_mul,Int.natAbs_pow,Nat.mul_comm,show(2:Int).natAbs=2 from rfl,show 2*(m'.natAbs/2)+1=m'.natAbs by omega]
 obtain⟨rfl,_⟩:=rM _ _ _ _ (t.symm.trans A)
 have D:(2:Int)^k≠0:=Int.pow_ne_zero (by decide)
 exact⟨Int.eq_of_mul_eq_mul_right D (d.symm.trans f),rfl⟩
theorem fL(z:Int)(h:z≠0):iN z (oM z) (tz z.natAbs):=by
 obtain⟨m,A⟩:=il z.natAbs (by omega)
 unfold oM
 generalize tz z.natAbs=k at*
 have t:(2:Int)^k≠0:=Int.pow_ne_zero (by decide)
 have d:z=2^k*(2*(m:Int)+1)∨z=2^k*(2*(-(m:Int)-1)+1):=by
  have e:(z.natAbs:Int)=2^k*(2*(m:Int)+1):=by rw[A];push_cast;rfl
  rcases Int.natAbs_eq z with l|l
  ·left;rw[l,e]
  ·right;rw[l,e,←Int.mul_neg];congr 1;omega
 rcases d with d|d
 ·have f:z/2^k=2*(m:Int)+1:=by rw[d];exact Int.mul_ediv_cancel_left _ t
  rw[f]
  exact⟨by rw[Int.mul_comm];exact d,by omega⟩
 ·have f:z/2^k=2*(-(m:Int)-1)+1:=by rw[d];exact Int.mul_ediv_cancel_left _ t
  rw[f]
  exact⟨by rw[Int.mul_comm];exact d,by omega⟩
theorem iN.eq{z m:Int}{k:Nat}(h:iN z m k):z≠0∧m=oM z∧k=tz z.natAbs:=by
 have d:z≠0:=by
  rw[h.1]
  intro e
  rcases Int.mul_eq_zero.1 e with e|e
  ·have:=h.2;rw[e]at this;simp at this
  ·exact Int.pow_ne_zero (by decide) e
 obtain⟨a,b⟩:=h.unique (fL z d)
 exact⟨d,a,b⟩
def bl(v:Nat):Nat:=if v=0 then 0 else Nat.log2 v+1
theorem aY(v:Nat)(h:v≠0):1≤bl v∧2^(bl v-1)≤v∧v<2^bl v:=by
 unfold bl
 rw[if_neg h]
 exact⟨by omega,by simpa using Nat.log2_self_le h,Nat.lt_log2_self⟩
theorem ch{a b:Nat}(h:(2:Nat)^a<2^b):a<b:=(Nat.pow_lt_pow_iff_right (by decide)).1 h
theorem dP{a b:Nat}(h:a≤b):(2:Nat)^a≤2^b:=Nat.pow_le_pow_right (by decide) h
theorem ke{v n:Nat}(m:1≤n)(d:2^(n-1)≤v)(f:v<2^n):bl v=n:=by
 have t:0<2^(n-1):=Nat.two_pow_pos _
 obtain⟨D,h,l⟩:=aY v (by omega)
 have z:=ch (Nat.lt_of_le_of_lt h f)
 have A:=ch (Nat.lt_of_le_of_lt d l)
 omega
theorem kf(v k:Nat)(h:v≠0):bl (v*2^k)=bl v+k:=by
 obtain⟨m,f,l⟩:=aY v h
 have d:0<2^k:=Nat.two_pow_pos _
 refine ke (by omega) ?_ ?_
 ·rw[show bl v+k-1=(bl v-1)+k by omega,Nat.pow_add]
  exact Nat.mul_le_mul_right _ f
 ·rw[Nat.pow_add]
  exact Nat.mul_lt_mul_of_pos_right l d
theorem DE{v u:Nat}(h:v≤u):bl v≤bl u:=by
 by_cases d:v=0
 ·subst d;simp[bl]
 ·obtain⟨m,f,_⟩:=aY v d
  obtain⟨_,_,l⟩:=aY u (by omega)
  have:=ch (Nat.lt_of_le_of_lt (Nat.le_trans f h) l)
  omega
def cK(v k:Nat):Nat:=v/2^k+(if 2^k<2*(v%2^k)∨(2^k=2*(v%2^k)∧v/2^k%2=1)then 1 else 0)
theorem wu(v k:Nat):v/2^k≤cK v k∧cK v k≤v/2^k+1:=by
 unfold cK;split<;>omega
theorem kY{v u:Nat}(k:Nat)(h:v≤u):cK v k≤cK u k:=by
 have l:v/2^k≤u/2^k:=Nat.div_le_div_right h
 by_cases d:v/2^k=u/2^k
 ·have f:=Nat.div_add_mod v (2^k)
  have m:=Nat.div_add_mod u (2^k)
  rw[d]at f
  have t:v%2^k≤u%2^k:=by omega
  unfold cK
  rw[d]
  generalize v%2^k=r at*
  generalize u%2^k=s at*
  generalize u/2^k=q at*
  generalize 2^k=p at*
  split<;>split<;>omega
 ·have:=(wu v k).2
  have:=(wu u k).1
  omega
theorem im(a k:Nat):cK (a*2^k) k=a:=by
 have d:0<2^k:=Nat.two_pow_pos _
 unfold cK
 rw[Nat.mul_mod_left,Nat.mul_div_cancel _ d,if_neg (by omega)]
 omega
theorem DF{a v k:Nat}(h:a*2^k≤v):a≤cK v k:=by
 have:=kY k h;rwa[im]at this
theorem kZ{a v k:Nat}(h:v≤a*2^k):cK v k≤a:=by
 have:=kY k h;rwa[im]at this
theorem uw(v i k:Nat):cK (v*2^i) (k+i)=cK v k:=by
 have d:0<2^i:=Nat.two_pow_pos _
 have f:v*2^i/2^(k+i)=v/2^k:=by
  rw[Nat.pow_add,Nat.mul_div_mul_right _ _ d]
 have h:v*2^i%2^(k+i)=v%2^k*2^i:=by
  rw[Nat.pow_add,Nat.mul_mod_mul_right]
 unfold cK
 rw[f,h,Nat.pow_add,←Nat.mul_assoc]
 have l:(2^k*2^i<2*(v%2^k)*2^i)↔2^k<2*(v%2^k):=Nat.mul_lt_mul_right d
 have m:(2^k*2^i=2*(v%2^k)*2^i)↔2^k=2*(v%2^k):=Nat.mul_left_inj (by omega)
 simp only[l,m]
theorem xv(v k:Nat):2*(cK v k*2^k)≤2*v+2^k∧2*v≤2*(cK v k*2^k)+2^k:=by
 have h:=Nat.div_add_mod v (2^k)
 have f:=Nat.mod_lt v (Nat.two_pow_pos k)
 unfold cK
 split
 ·rename_i d
  rw[Nat.add_mul,Nat.one_mul,Nat.mul_comm (v/2^k)]
  generalize 2^k*(v/2^k)=x at*
  generalize v/2^k%2=z at*
  generalize v%2^k=r at*
  generalize 2^k=p at*
  omega
 ·rename_i d
  rw[Nat.add_zero,Nat.mul_comm (v/2^k)]
  generalize 2^k*(v/2^k)=x at*
  generalize v/2^k%2=z at*
  generalize v%2^k=r at*
  generalize 2^k=p at*
  omega
def mS(v:Nat)(j:Int):Nat:=if 0≤j then v*2^j.toNat else cK v (-j).toNat
theorem iQ(v k:Nat):mS v (k:Int)=v*2^k:=by unfold mS;rw[if_pos (by omega)];simp
theorem cZ(v k:Nat)(h:1≤k):mS v (-(k:Int))=cK v k:=by unfold mS;rw[if_neg (by omega)];simp
theorem DG{v u:Nat}(j:Int)(h:v≤u):mS v j≤mS u j:=by
 unfold mS
 split
 ·exact Nat.mul_le_mul_right _ h
 ·exact kY _ h
theorem zL(v i:Nat)(j:Int):mS (v*2^i) j=mS v (j+i):=by
 rcases Int.eq_ofNat_of_zero_le (a:=if 0≤j then j else-j) (by split<;>omega)with⟨k,hk⟩
 by_cases f:0≤j
 ·rw[if_pos f]at hk
  subst hk
  rw[iQ,show((k:Int)+(i:Int))=((i+k:Nat):Int) by omega,iQ,Nat.pow_add,Nat.mul_assoc]
 ·rw[if_neg f]at hk
  obtain rfl:j= -(k:Int):=by omega
  rw[cZ _ _ (by omega)]
  by_cases h:k≤i
  ·obtain⟨d,rfl⟩:=Nat.exists_eq_add_of_le h
   rw[show(-(k:Int)+((k+d:Nat):Int))=(d:Int) by omega,iQ,Nat.add_comm k d,Nat.pow_add,←Nat.mul_assoc,im]
  ·obtain⟨d,rfl⟩:=Nat.exists_eq_add_of_le (show i≤k by omega)
   rw[show(-((i+d:Nat):Int)+(i:Int))= -(d:Int) by omega,cZ _ _ (by omega),Nat.add_comm i d,uw]
def pN(v:Nat)(j:Int):Nat:=if 0≤j+1 then v*2^(j+1).toNat else v/2^(-(j+1)).toNat
def IH(v:Nat)(j:Int):Bool:=decide (pN v j%2=1)&&(!decide (j= -1)||decide (pN v j/2%2=1))
def pM(v:Nat)(j:Int):Nat:=(pN v j+(IH v j).toNat)/2
theorem IM(v:Nat)(j:Int)(h:v%2=1):pM v j=mS v j:=by
 by_cases t:0≤j
 ·obtain⟨k,rfl⟩:=Int.eq_ofNat_of_zero_le t
  have f:pN v k=v*2^k*2:=by
   unfold pN
   rw[if_pos (by omega),show((k:Int)+1).toNat=k+1 by omega,Nat.pow_succ,Nat.mul_assoc]
  have z:IH v k=false:=by
   unfold IH
   rw[f,decide_eq_false (by omega)];rfl
  rw[iQ]
  unfold pM
  rw[z,f]
  simp
 ·obtain⟨k,M⟩:=Int.eq_ofNat_of_zero_le (show 0≤-j by omega)
  obtain rfl:j= -(k:Int):=by omega
  obtain⟨i,rfl⟩:∃i,k=i+1:=⟨k-1,by omega⟩
  rw[cZ _ _ (by omega)]
  have f:pN v (-((i+1:Nat):Int))=v/2^i:=by
   unfold pN
   by_cases d:i=0
   ·subst d;simp
   ·rw[if_neg (by omega),show(-(-((i+1:Nat):Int)+1)).toNat=i by omega]
  have A:decide (-((i+1:Nat):Int)= -1)=decide (i=0):=by
   by_cases d:i=0
   ·subst d;simp
   ·rw[decide_eq_false d,decide_eq_false (by omega)]
  have D:v/2^(i+1)=v/2^i/2:=by rw[Nat.pow_succ,Nat.div_div_eq_div_mul]
  have F:v%2^(i+1)=v%2^i+2^i*(v/2^i%2):=by rw[Nat.pow_succ,Nat.mod_mul]
  have G:i≠0→0<v%2^i:=by
   intro d
   have:v%2^i%2=v%2:=Nat.mod_mod_of_dvd _ (by obtain⟨m,rfl⟩:∃m,i=m+1:=⟨i-1,by omega⟩;rw[Nat.pow_succ];exact Nat.dvd_mul_left _ _)
   omega
  have L:=Nat.mod_lt v (Nat.two_pow_pos i)
  unfold pM IH cK
  rw[f,A,D,F,Nat.pow_succ]
  by_cases d:i=0
  ·subst d
   simp only[Nat.pow_zero,Nat.div_one,Nat.mod_one,Nat.zero_add,Nat.one_mul,h]
   by_cases l:v/2%2=1
   ·simp[l]<;>omega
   ·simp[l]<;>omega
  ·have H:=G d
   simp only[decide_eq_false d,Bool.not_false,Bool.true_or,Bool.and_true]
   generalize v/2^i=n at*
   generalize v%2^i=s at*
   generalize 2^i=p at*
   by_cases l:n%2=1
   ·rw[l,if_pos (by left;omega)]
    simp;omega
   ·have K:n%2=0:=by omega
    rw[K,if_neg (by omega)]
    simp
def av(v:Nat)(E:Int):Int:=max ((bl v:Int)+E-53) (-1074)
def cV(v:Nat)(E:Int):Nat:=mS v (E-av v E)
def bw(v:Nat)(E:Int):Nat:=if v=0 then 0 else if 1024<(bl v:Int)+E then 9218868437227405312 else cV v E+(av v E+1074).toNat*4503599627370496
def bF(v:Nat)(E:Int):Int:=if v=0 then 0 else if 1024<(bl v:Int)+E then 5 else if av v E≤E then 0 else if bw v E=9218868437227405312 then 5 else if bw v E<4503599627370496 then 3 else 1
theorem bW(v:Nat)(E:Int):-1074≤av v E∧(bl v:Int)+E-53≤av v E∧(av v E= -1074∨av v E=(bl v:Int)+E-53):=by
 unfold av;omega
theorem zv:(2:Nat)^53=9007199254740992:=by decide
theorem F6:(2:Nat)^52=4503599627370496:=by decide
theorem co(v:Nat)(E:Int)(h:v≠0):cV v E≤9007199254740992∧(-1074<av v E→4503599627370496≤cV v E)∧(av v E≤E→cV v E<9007199254740992):=by
 obtain⟨H,K,L⟩:=bW v E
 obtain⟨M,z,A⟩:=aY v h
 unfold cV
 generalize av v E=l at*
 rcases Int.le_total l E with D|D
 ·obtain⟨k,F⟩:=Int.eq_ofNat_of_zero_le (show 0≤E-l by omega)
  rw[F,iQ]
  have G:0<2^k:=Nat.two_pow_pos _
  have f:v*2^k<2^53:=by
   have d:v*2^k<2^bl v*2^k:=Nat.mul_lt_mul_of_pos_right A G
   rw[←Nat.pow_add]at d
   exact Nat.lt_of_lt_of_le d (dP (by omega))
  rw[zv]at f
  refine⟨by omega,fun m=>?_,fun _=>f⟩
  have d:2^(bl v-1)*2^k≤v*2^k:=Nat.mul_le_mul_right _ z
  rw[←Nat.pow_add,show bl v-1+k=52 by omega,F6]at d
  exact d
 ·obtain⟨k,F⟩:=Int.eq_ofNat_of_zero_le (show 0≤l-E by omega)
  by_cases t:k=0
  ·subst t
   rw[show E-l=((0:Nat):Int) by omega,iQ]
   have f:v<2^53:=Nat.lt_of_lt_of_le A (dP (by omega))
   rw[zv]at f
   refine⟨by omega,fun m=>?_,fun _=>by omega⟩
   rw[show bl v-1=52 by omega,F6]at z
   omega
  ·rw[show E-l= -(k:Int) by omega,cZ _ _ (by omega)]
   refine⟨?_,fun m=>?_,fun m=>by omega⟩
   ·rw[←zv]
    refine kZ ?_
    rw[←Nat.pow_add]
    exact Nat.le_trans (Nat.le_of_lt A) (dP (by omega))
   ·rw[←F6]
    refine DF ?_
    rw[←Nat.pow_add,show 52+k=bl v-1 by omega]
    exact z
theorem cq(v:Nat)(E:Int)(h:v≠0)(d:(bl v:Int)+E≤1024):bw v E=cV v E+(av v E+1074).toNat*4503599627370496:=by
 unfold bw;rw[if_neg h,if_neg (by omega)]
theorem cN(v:Nat)(E:Int):bw v E≤9218868437227405312:=by
 by_cases h:v=0
 ·subst h;simp[bw]
 ·by_cases d:1024<(bl v:Int)+E
  ·unfold bw;rw[if_neg h,if_pos d];exact Nat.le_refl _
  ·rw[cq v E h (by omega)]
   obtain⟨f,l,m⟩:=bW v E
   have:=(co v E h).1
   omega
theorem dy(v i:Nat)(E:Int):bw (v*2^i) E=bw v (E+i):=by
 by_cases h:v=0
 ·subst h;simp[bw]
 ·have m:0<2^i:=Nat.two_pow_pos _
  have f:v*2^i≠0:=Nat.mul_ne_zero h (by omega)
  have d:=kf v i h
  have l:av (v*2^i) E=av v (E+i):=by unfold av;rw[d];congr 1;omega
  unfold bw cV
  rw[if_neg h,if_neg f,l,d,zL,show E-av v (E+i)+i=E+i-av v (E+i) by omega,show((bl v+i:Nat):Int)+E=(bl v:Int)+(E+i) by omega]
theorem rN{v u:Nat}(E:Int)(h:v≤u):bw v E≤bw u E:=by
 by_cases d:v=0
 ·subst d;simp[bw]
 ·have t:=DE h
  by_cases l:1024<(bl u:Int)+E
  ·have:bw u E=9218868437227405312:=by unfold bw;rw[if_neg (by omega),if_pos l]
   rw[this];exact cN v E
  ·rw[cq v E d (by omega),cq u E (by omega) (by omega)]
   obtain⟨z,A,D⟩:=bW v E
   obtain⟨F,G,H⟩:=bW u E
   by_cases f:av v E=av u E
   ·have:cV v E≤cV u E:=by unfold cV;rw[f];exact DG _ h
    rw[f];omega
   ·have m:av v E<av u E:=by omega
    have:=(co v E d).1
    have:=(co u E (by omega)).2.1 (by omega)
    omega
def rv(r:Nat):Nat:=if r<4503599627370496 then r else(4503599627370496+r%4503599627370496)*2^(r/4503599627370496-1)
theorem jC(m k:Nat)(l:m≤9007199254740992)(d:k≠0→4503599627370496≤m):rv (m+k*4503599627370496)=m*2^k:=by
 unfold rv
 by_cases h:m+k*4503599627370496<4503599627370496
 ·rw[if_pos h]
  obtain rfl:k=0:=by omega
  simp
 ·rw[if_neg h]
  by_cases t:m<9007199254740992
  ·have z:4503599627370496≤m:=by
    by_cases f:k=0
    ·omega
    ·exact d f
   rw[show(m+k*4503599627370496)/4503599627370496=k+1 by omega,show(m+k*4503599627370496)%4503599627370496=m-4503599627370496 by omega,show 4503599627370496+(m-4503599627370496)=m by omega]
   rfl
  ·obtain rfl:m=9007199254740992:=by omega
   rw[show(9007199254740992+k*4503599627370496)/4503599627370496=k+2 by omega,show(9007199254740992+k*4503599627370496)%4503599627370496=0 by omega,show k+2-1=k+1 by omega,Nat.pow_succ]
   omega
theorem qu(r:Nat):rv r<rv (r+1):=by
 by_cases h:r<4503599627370496
 ·have d:=jC r 0 (by omega) (by simp)
  have f:=jC (r+1) 0 (by omega) (by simp)
  simp at d f
  rw[d,f];omega
 ·obtain⟨k,z⟩:∃k,r/4503599627370496=k+1:=⟨r/4503599627370496-1,by omega⟩
  have l:r=(4503599627370496+r%4503599627370496)+k*4503599627370496:=by omega
  generalize A:4503599627370496+r%4503599627370496=m at*
  have t:m<9007199254740992:=by omega
  have d:=jC m k (by omega) (fun _=>by omega)
  have f:=jC (m+1) k (by omega) (fun _=>by omega)
  rw[←l]at d
  rw[show m+1+k*4503599627370496=r+1 by omega]at f
  rw[d,f]
  exact Nat.mul_lt_mul_of_pos_right (by omega) (Nat.two_pow_pos _)
theorem kg{r s:Nat}(h:r≤s):rv r≤rv s:=by
 obtain⟨d,rfl⟩:=Nat.exists_eq_add_of_le h
 induction d with
 |zero=>exact Nat.le_refl _
 |succ d ih=>exact Nat.le_trans (ih (by omega)) (Nat.le_of_lt (qu (r+d)))
theorem dR:rv 0=0:=by decide
open Go.RowKit
def fS(b:Nat):Bool:=decide (9223372036854775808≤b)
def fP(b:Nat):Nat:=b%9223372036854775808/4503599627370496
def fF(b:Nat):Nat:=b%4503599627370496
def fN(b:Nat):Nat:=if 9223372036854775808≤b then b-9223372036854775808 else b+9223372036854775808
def fK(b:Nat):Int:=if fP b=2047 then(if fF b=0 then 3 else 4)else if fP b=0 then(if fF b=0 then 0 else 1)else 2
theorem wv(b:Nat)(h:b<18446744073709551616):bits .and .u64 (b:Int) 9223372036854775808=if fS b then 9223372036854775808 else 0:=by
 have l:=bits_and_u64_nat b 9223372036854775808 h (by decide)
 refine l.trans ?_
 have m:(b&&& 2^63)%2^63=0:=by rw[Nat.and_mod_two_pow];simp
 have t:(b&&& 2^63)/2^63=(b/2^63)&&& 1:=by rw[Nat.and_div_two_pow]
 rw[show(9223372036854775808:Nat)=2^63 by decide]
 have d:=Nat.div_add_mod (b&&& 2^63) (2^63)
 rw[m,t]at d
 unfold fS
 by_cases f:9223372036854775808≤b
 ·rw[decide_eq_true f,if_pos rfl]
  rw[show b/2^63=1 by omega]at d
  simp only[Nat.and_self]at d
  omega
 ·rw[decide_eq_false f,if_neg (by simp)]
  rw[show b/2^63=0 by omega]at d
  simp only[Nat.zero_and]at d
  omega
theorem DH(b:Nat)(h:b<18446744073709551616):bits .and .u64 (b:Int) 4503599627370495=(fF b:Int):=by
 have d:=bits_and_u64_nat b 4503599627370495 h (by decide)
 refine d.trans ?_
 have f:b&&& 2^52-1=b%2^52:=Nat.and_two_pow_sub_one_eq_mod b 52
 rw[show(4503599627370495:Nat)=2^52-1 by decide,f]
 rfl
theorem DI(b:Nat)(h:b<18446744073709551616):bits .and .u64 ((b:Int)/4503599627370496) 2047=(fP b:Int):=by
 have d:=bits_and_u64_nat (b/4503599627370496) 2047 (by omega) (by decide)
 refine d.trans ?_
 have f:(b/4503599627370496)&&& 2^11-1=(b/4503599627370496)%2^11:=Nat.and_two_pow_sub_one_eq_mod _ 11
 rw[show(2047:Nat)=2^11-1 by decide,f]
 unfold fP
 omega
theorem DJ(b:Nat)(h:b<18446744073709551616):bits .xor .u64 (b:Int) 9223372036854775808=(fN b:Int):=by
 have l:=bits_xor_u64_nat b 9223372036854775808 h (by decide)
 refine l.trans ?_
 have m:(b ^^^ 2^63)%2^63=b%2^63:=by rw[Nat.xor_mod_two_pow];simp
 have t:(b ^^^ 2^63)/2^63=(b/2^63) ^^^ 1:=by rw[Nat.xor_div_two_pow]
 rw[show(9223372036854775808:Nat)=2^63 by decide]
 unfold fN
 have d:=Nat.div_add_mod (b ^^^ 2^63) (2^63)
 rw[m,t]at d
 by_cases f:9223372036854775808≤b
 ·rw[if_pos f]
  rw[show b/2^63=1 by omega]at d
  simp only[Nat.xor_self]at d
  omega
 ·rw[if_neg f]
  rw[show b/2^63=0 by omega]at d
  simp only[Nat.zero_xor]at d
  omega
theorem mY(b:Nat):fP b<2048:=by unfold fP;omega
theorem rO(b:Nat):fF b<4503599627370496:=by unfold fF;omega
theorem kh(b:Nat)(h:b<18446744073709551616):fN b<18446744073709551616:=by unfold fN;split<;>omega
def cd(w:World)(b:Nat)(x y z:Value):Prop:=w.heap[b]? =some (.cells #[x,y,z] 154 (0,0))
theorem cd.c0{w:World}{b:Nat}{x y z:Value}(h:cd w b x y z):w.cell? ⟨b,0,none⟩=some x:=by rw[cell_of_row w b 0 _ _ _ h];rfl
theorem cd.c1{w:World}{b:Nat}{x y z:Value}(h:cd w b x y z):w.cell? ⟨b,1,none⟩=some y:=by rw[cell_of_row w b 1 _ _ _ h];rfl
theorem cd.c2{w:World}{b:Nat}{x y z:Value}(h:cd w b x y z):w.cell? ⟨b,2,none⟩=some z:=by rw[cell_of_row w b 2 _ _ _ h];rfl
theorem cd.lt{w:World}{b:Nat}{x y z:Value}(h:cd w b x y z):b<w.heap.size:=(Array.getElem?_eq_some_iff.1 h).1
theorem cd.below{w w':World}{b:Nat}{x y z:Value}(h:cd w b x y z){B:Nat}(f:Below B w w')(d:b<B):cd w' b x y z:=(f.block b d).trans h
theorem cd.new(w:World)(x y z:Value):cd (w.alloc (.cells #[x,y,z] 154)) w.heap.size x y z:=heap_alloc_new w _
theorem cd.all{w w':World}{b:Nat}{x y z:Value}(h:cd w b x y z)(d:Below w.heap.size w w'):cd w' b x y z:=h.below d h.lt
def fV(b:Nat):Value:=.agg #[.bool (fS b),.int .u64 (fP b),.int .u64 (fF b)]
theorem eU(b:Nat)(w:World)(h:b<18446744073709551616):
  Calls Tryz.prog 141 #[.int .u64 b] w fun e w'=>e=.returned (fV b)∧Below w.heap.size w w':=by
 have d:=wv b h
 have l:=DH b h
 have m:=DI b h
 unfold fV
 generalize fF b=f at*
 generalize fP b=p at*
 generalize fS b=s at*
 have z:(0:Int)≤b:=by omega
 have t:(b:Int)<18446744073709551616:=by omega
 clear h
 cases s
 ·simp only[Bool.false_eq_true,if_false]at d
  go_enter Tryz.func141,Tryz.ntmps141
  go_wp2_with(simp only[d,l,m])
  refine bodyPost_ret (v:=.agg #[.bool false,.int .u64 p,.int .u64 f]) (by simp[results,Tryz.results141,go_sem]) rfl ⟨rfl,(Below.refl _ _).alloc (Nat.le_refl _) _⟩
 ·simp only[if_true]at d
  go_enter Tryz.func141,Tryz.ntmps141
  go_wp2_with(simp only[d,l,m])
  refine bodyPost_ret (v:=.agg #[.bool true,.int .u64 p,.int .u64 f]) (by simp[results,Tryz.results141,go_sem]) rfl ⟨rfl,(Below.refl _ _).alloc (Nat.le_refl _) _⟩
theorem gg(b:Nat)(w:World)(h:b<18446744073709551616):
  Calls Tryz.prog 132 #[.int .u64 b] w fun e w'=>e=.returned (.int .u64 (fN b))∧w=w':=by
 have d:=DJ b h
 generalize fN b=f at*
 clear h
 go_enter Tryz.func132,Tryz.ntmps132
 go_wp2_with(simp only[d])
 go_ret
 exact⟨rfl,rfl⟩
theorem ux(s:Bool)(p f:Int)(W:World):(Instr.field 154 (.agg #[.bool s,.int .u64 p,.int .u64 f]) 0).run Tryz.prog W=.ok (.bool s) W:=by kernel_rfl
theorem d6(b:Nat)(w:World)(h:b<18446744073709551616):
  Calls Tryz.prog 131 #[.int .u64 b] w fun e w'=>e=.returned (.bool (fS b))∧Below w.heap.size w w':=by
 have l:=aa (fun w'=>eU b w' h)
 unfold fV at l
 generalize fF b=f at*
 generalize fP b=p at*
 generalize fS b=s at*
 have m:=fun W=>ux s p f W
 clear h
 go_enter Tryz.func131,Tryz.ntmps131
 go_wp2_with(go_at_call 141;refine(uH l _).mono ?_;rintro r t ⟨rfl,d⟩)
 go_ret
 exact⟨rfl,d⟩
theorem fY(b:Nat)(w:World)(h:b<18446744073709551616):
  Calls Tryz.prog 81 #[.int .u64 b] w fun e w'=>e=.returned (.bool (fS b))∧w=w':=by
 unfold fS
 by_cases d:9223372036854775808≤b
 ·rw[decide_eq_true d]
  have f:(b:Int)/9223372036854775808=1:=by omega
  clear d h
  go_enter Tryz.func81,Tryz.ntmps81
  go_wp2_with(simp only[f])
  go_ret
  exact⟨rfl,rfl⟩
 ·rw[decide_eq_false d]
  have f:(b:Int)/9223372036854775808=0:=by omega
  clear d h
  go_enter Tryz.func81,Tryz.ntmps81
  go_wp2_with(simp only[f])
  go_ret
  exact⟨rfl,rfl⟩
theorem jO(b:Nat)(w:World)(_h:b<18446744073709551616):
  Calls Tryz.prog 104 #[.int .u64 b] w fun e w'=>e=.returned (.int .i64 (fP b))∧w=w':=by
 have d:(b:Int)%9223372036854775808/4503599627370496=(fP b:Int):=by unfold fP;omega
 have f:=mY b
 generalize fP b=p at*
 go_enter Tryz.func104,Tryz.ntmps104
 go_wp2_with(simp only[d])
 go_ret
 exact⟨rfl,rfl⟩
theorem pF(b:Nat)(w:World)(_h:b<18446744073709551616):
  Calls Tryz.prog 103 #[.int .u64 b] w fun e w'=>e=.returned (.int .u64 (fF b))∧w=w':=by
 have d:(b:Int)%4503599627370496=(fF b:Int):=by unfold fF;omega
 have f:=rO b
 generalize fF b=p at*
 go_enter Tryz.func103,Tryz.ntmps103
 go_wp2_with(simp only[d])
 go_ret
 exact⟨rfl,rfl⟩
theorem bV{d:World}{g:Nat}{x y z:Value}(f:cd d g x y z):∀w',Below d.heap.size d w'→Below d.heap.size d w'∧w'.cell? ⟨g,0,none⟩=some x∧w'.cell? ⟨g,1,none⟩=some y∧w'.cell? ⟨g,2,none⟩=some z:=fun _ h=>⟨h,(f.all h).c0,(f.all h).c1,(f.all h).c2⟩
theorem es{f w' d:World}{p:Prop}(h:Below f.heap.size f w'∧p)(l:Below w'.heap.size w' d):Below f.heap.size f d:=h.1.trans (l.mono h.1.size)
theorem cP{w d w':World}{p:Prop}(f:Hid (Below w.heap.size w d))(h:Below d.heap.size d w'∧p):Below w.heap.size w w':=f.out.trans (h.1.mono f.out.size)
theorem dI(w:World):Calls Tryz.prog 141 #[.int .u64 0] w fun e w'=>e=.returned (.agg #[.bool false,.int .u64 0,.int .u64 0])∧Below w.heap.size w w':=by
 have h:=eU 0 w (by decide)
 simpa[fV,fS,fP,fF]using h
theorem eu(w:World):Calls Tryz.prog 141 #[.int .u64 9223372036854775808] w fun e w'=>e=.returned (.agg #[.bool true,.int .u64 0,.int .u64 0])∧Below w.heap.size w w':=by
 have h:=eU 9223372036854775808 w (by decide)
 simpa[fV,fS,fP,fF]using h
theorem fg(w:World):Calls Tryz.prog 141 #[.int .u64 9218868437227405312] w fun e w'=>e=.returned (.agg #[.bool false,.int .u64 2047,.int .u64 0])∧Below w.heap.size w w':=by
 have h:=eU 9218868437227405312 w (by decide)
 simpa[fV,fS,fP,fF]using h
theorem gh(w:World):Calls Tryz.prog 141 #[.int .u64 18442240474082181120] w fun e w'=>e=.returned (.agg #[.bool true,.int .u64 2047,.int .u64 0])∧Below w.heap.size w w':=by
 have h:=eU 18442240474082181120 w (by decide)
 simpa[fV,fS,fP,fF]using h
theorem DK(b:Nat)(w:World)(C:∀w',Calls Tryz.prog 141 #[.int .u64 b] w' fun e f=>e=.returned (.agg #[.bool false,.int .u64 0,.int .u64 0])∧Below w'.heap.size w' f):
  Calls Tryz.prog 113 #[.int .u64 b] w fun e w'=>e=.returned (.int .i64 0)∧Below w.heap.size w w':=by
 have D:=aa dI
 have l:=aa C
 clear C
 go_enter Tryz.func113,Tryz.ntmps113
 go_wp2_with fail
 refine(uH l _).mono ?_
 rintro e t ⟨rfl,d⟩
 clear l
 go_wp2
 refine aq (fun W=>Below w.heap.size w W∧cd W t.heap.size (.bool false) (.int .u64 0) (.int .u64 0)) ⟨d.alloc d.size _,cd.new _ _ _ _⟩ ?_
 rintro z ⟨A,h⟩
 clear d
 generalize t.heap.size=g at*
 have m:=aa (bV h);have F:=aa A;have G:=aa h;clear h A
 go_region_held3(fun w'=>Below z.heap.size z w'∧w'.cell? ⟨g,0,none⟩=some (.bool false)∧w'.cell? ⟨g,1,none⟩=some (.int .u64 0)∧w'.cell? ⟨g,2,none⟩=some (.int .u64 0))
  (first|exact uH m _ (Below.refl _ _).drew|exact uH m _ (by assumption)|fail "NO KEEP")
  (first|(go_at_call 141;refine(uH D _).mono ?_;rintro e K ⟨rfl,d⟩;have H:=es (by assumption) d;clear d)|fail "NO ARM")
 go_wp2
 go_ret
 exact⟨rfl,cP F (by assumption)⟩
theorem DL(b:Nat)(w:World)(C:∀w',Calls Tryz.prog 141 #[.int .u64 b] w' fun e F=>e=.returned (.agg #[.bool false,.int .u64 2047,.int .u64 0])∧Below w'.heap.size w' F):
  Calls Tryz.prog 113 #[.int .u64 b] w fun e w'=>e=.returned (.int .i64 3)∧Below w.heap.size w w':=by
 have t:=aa dI
 have z:=aa eu
 have A:=aa fg
 have H:=aa C
 clear C
 go_enter Tryz.func113,Tryz.ntmps113
 go_wp2_with fail
 refine(uH H _).mono ?_
 rintro e K ⟨rfl,d⟩
 clear H
 go_wp2
 refine aq (fun W=>Below w.heap.size w W∧cd W K.heap.size (.bool false) (.int .u64 2047) (.int .u64 0)) ⟨d.alloc d.size _,cd.new _ _ _ _⟩ ?_
 rintro l ⟨m,f⟩
 clear d
 generalize K.heap.size=g at*
 have h:=aa (bV f);have D:=aa m;have G:=aa f;clear f m
 iterate 2 (go_region_held3(fun w'=>Below l.heap.size l w'∧w'.cell? ⟨g,0,none⟩=some (.bool false)∧w'.cell? ⟨g,1,none⟩=some (.int .u64 2047)∧w'.cell? ⟨g,2,none⟩=some (.int .u64 0))
  (first|exact uH h _ (Below.refl _ _).drew|exact uH h _ (by assumption)|fail "NO KEEP")
  (first|(go_at_call 141;(first|(refine(uH t _).mono ?_;clear t)|(refine(uH z _).mono ?_;clear z)|(refine(uH A _).mono ?_;clear A));rintro e M ⟨rfl,d⟩;have L:=es (by assumption) d;clear d)|fail "NO ARM");go_wp2;refine aq (fun W=>Below w.heap.size w W∧cd W g (.bool false) (.int .u64 2047) (.int .u64 0)) ⟨cP D (by assumption),(uH G).all (And.left (by assumption))⟩ ?_;clear h D G;rintro l ⟨m,f⟩;have h:=aa (bV f);have D:=aa m;have G:=aa f;clear f m)
 go_region_held3(fun w'=>Below l.heap.size l w'∧w'.cell? ⟨g,0,none⟩=some (.bool false)∧w'.cell? ⟨g,1,none⟩=some (.int .u64 2047)∧w'.cell? ⟨g,2,none⟩=some (.int .u64 0))
  (first|exact uH h _ (Below.refl _ _).drew|exact uH h _ (by assumption)|fail "NO KEEP")
  (first|(go_at_call 141;(first|(refine(uH t _).mono ?_;clear t)|(refine(uH z _).mono ?_;clear z)|(refine(uH A _).mono ?_;clear A));rintro e M ⟨rfl,d⟩;have L:=es (by assumption) d;clear d)|fail "NO ARM")
 go_wp2
 go_ret
 exact⟨rfl,cP D (by assumption)⟩
theorem DM(b:Nat)(f:Nat)(w:World)(C:∀w',Calls Tryz.prog 141 #[.int .u64 b] w' fun e H=>e=.returned (.agg #[.bool false,.int .u64 0,.int .u64 f])∧Below w'.heap.size w' H)(Q:((f:Int)==0)=false):
  Calls Tryz.prog 113 #[.int .u64 b] w fun e w'=>e=.returned (.int .i64 1)∧Below w.heap.size w w':=by
 have z:=aa dI
 have A:=aa eu
 have D:=aa fg
 have F:=aa gh
 have L:=aa C
 clear C
 go_enter Tryz.func113,Tryz.ntmps113
 go_wp2_with fail
 refine(uH L _).mono ?_
 rintro e M ⟨rfl,d⟩
 clear L
 go_wp2
 refine aq (fun W=>Below w.heap.size w W∧cd W M.heap.size (.bool false) (.int .u64 0) (.int .u64 f)) ⟨d.alloc d.size _,cd.new _ _ _ _⟩ ?_
 rintro m ⟨t,h⟩
 clear d
 generalize M.heap.size=g at*
 have l:=aa (bV h);have G:=aa t;have K:=aa h;clear h t
 iterate 3 (go_region_held3(fun w'=>Below m.heap.size m w'∧w'.cell? ⟨g,0,none⟩=some (.bool false)∧w'.cell? ⟨g,1,none⟩=some (.int .u64 0)∧w'.cell? ⟨g,2,none⟩=some (.int .u64 f))
  (first|exact uH l _ (Below.refl _ _).drew|exact uH l _ (by assumption)|fail "NO KEEP")
  (first|(go_at_call 141;(first|(refine(uH z _).mono ?_;clear z)|(refine(uH A _).mono ?_;clear A)|(refine(uH D _).mono ?_;clear D)|(refine(uH F _).mono ?_;clear F));rintro e O ⟨rfl,d⟩;have N:=es (by assumption) d;clear d)|fail "NO ARM");go_wp2;refine aq (fun W=>Below w.heap.size w W∧cd W g (.bool false) (.int .u64 0) (.int .u64 f)) ⟨cP G (by assumption),(uH K).all (And.left (by assumption))⟩ ?_;clear l G K;rintro m ⟨t,h⟩;have l:=aa (bV h);have G:=aa t;have K:=aa h;clear h t)
 go_region_held3(fun w'=>Below m.heap.size m w'∧w'.cell? ⟨g,0,none⟩=some (.bool false)∧w'.cell? ⟨g,1,none⟩=some (.int .u64 0)∧w'.cell? ⟨g,2,none⟩=some (.int .u64 f))
  (first|exact uH l _ (Below.refl _ _).drew|exact uH l _ (by assumption)|fail "NO KEEP")
  (first|(go_at_call 141;(first|(refine(uH z _).mono ?_;clear z)|(refine(uH A _).mono ?_;clear A)|(refine(uH D _).mono ?_;clear D)|(refine(uH F _).mono ?_;clear F));rintro e O ⟨rfl,d⟩;have N:=es (by assumption) d;clear d)|fail "NO ARM")
 go_wp2
 go_ret
 exact⟨rfl,cP G (by assumption)⟩
theorem DN(b:Nat)(f:Nat)(w:World)(C:∀w',Calls Tryz.prog 141 #[.int .u64 b] w' fun e H=>e=.returned (.agg #[.bool false,.int .u64 2047,.int .u64 f])∧Below w'.heap.size w' H)(Q:((f:Int)==0)=false):
  Calls Tryz.prog 113 #[.int .u64 b] w fun e w'=>e=.returned (.int .i64 4)∧Below w.heap.size w w':=by
 have z:=aa dI
 have A:=aa eu
 have D:=aa fg
 have F:=aa gh
 have L:=aa C
 clear C
 go_enter Tryz.func113,Tryz.ntmps113
 go_wp2_with fail
 refine(uH L _).mono ?_
 rintro e M ⟨rfl,d⟩
 clear L
 go_wp2
 refine aq (fun W=>Below w.heap.size w W∧cd W M.heap.size (.bool false) (.int .u64 2047) (.int .u64 f)) ⟨d.alloc d.size _,cd.new _ _ _ _⟩ ?_
 rintro m ⟨t,h⟩
 clear d
 generalize M.heap.size=g at*
 have l:=aa (bV h);have G:=aa t;have K:=aa h;clear h t
 iterate 3 (go_region_held3(fun w'=>Below m.heap.size m w'∧w'.cell? ⟨g,0,none⟩=some (.bool false)∧w'.cell? ⟨g,1,none⟩=some (.int .u64 2047)∧w'.cell? ⟨g,2,none⟩=some (.int .u64 f))
  (first|exact uH l _ (Below.refl _ _).drew|exact uH l _ (by assumption)|fail "NO KEEP")
  (first|(go_at_call 141;(first|(refine(uH z _).mono ?_;clear z)|(refine(uH A _).mono ?_;clear A)|(refine(uH D _).mono ?_;clear D)|(refine(uH F _).mono ?_;clear F));rintro e O ⟨rfl,d⟩;have N:=es (by assumption) d;clear d)|fail "NO ARM");go_wp2;refine aq (fun W=>Below w.heap.size w W∧cd W g (.bool false) (.int .u64 2047) (.int .u64 f)) ⟨cP G (by assumption),(uH K).all (And.left (by assumption))⟩ ?_;clear l G K;rintro m ⟨t,h⟩;have l:=aa (bV h);have G:=aa t;have K:=aa h;clear h t)
 go_region_held3(fun w'=>Below m.heap.size m w'∧w'.cell? ⟨g,0,none⟩=some (.bool false)∧w'.cell? ⟨g,1,none⟩=some (.int .u64 2047)∧w'.cell? ⟨g,2,none⟩=some (.int .u64 f))
  (first|exact uH l _ (Below.refl _ _).drew|exact uH l _ (by assumption)|fail "NO KEEP")
  (first|(go_at_call 141;(first|(refine(uH z _).mono ?_;clear z)|(refine(uH A _).mono ?_;clear A)|(refine(uH D _).mono ?_;clear D)|(refine(uH F _).mono ?_;clear F));rintro e O ⟨rfl,d⟩;have N:=es (by assumption) d;clear d)|fail "NO ARM")
 go_wp2
 go_ret
 exact⟨rfl,cP G (by assumption)⟩
theorem DO(b:Nat)(p:Nat)(f:Nat)(w:World)(C:∀w',Calls Tryz.prog 141 #[.int .u64 b] w' fun e H=>e=.returned (.agg #[.bool false,.int .u64 p,.int .u64 f])∧Below w'.heap.size w' H)(Q:((p:Int)==0)=false)(U:((p:Int)==2047)=false):
  Calls Tryz.prog 113 #[.int .u64 b] w fun e w'=>e=.returned (.int .i64 2)∧Below w.heap.size w w':=by
 have z:=aa dI
 have A:=aa eu
 have D:=aa fg
 have F:=aa gh
 have L:=aa C
 clear C
 go_enter Tryz.func113,Tryz.ntmps113
 go_wp2_with fail
 refine(uH L _).mono ?_
 rintro e M ⟨rfl,d⟩
 clear L
 go_wp2
 refine aq (fun W=>Below w.heap.size w W∧cd W M.heap.size (.bool false) (.int .u64 p) (.int .u64 f)) ⟨d.alloc d.size _,cd.new _ _ _ _⟩ ?_
 rintro m ⟨t,h⟩
 clear d
 generalize M.heap.size=g at*
 have l:=aa (bV h);have G:=aa t;have K:=aa h;clear h t
 iterate 3 (go_region_held3(fun w'=>Below m.heap.size m w'∧w'.cell? ⟨g,0,none⟩=some (.bool false)∧w'.cell? ⟨g,1,none⟩=some (.int .u64 p)∧w'.cell? ⟨g,2,none⟩=some (.int .u64 f))
  (first|exact uH l _ (Below.refl _ _).drew|exact uH l _ (by assumption)|fail "NO KEEP")
  (first|(go_at_call 141;(first|(refine(uH z _).mono ?_;clear z)|(refine(uH A _).mono ?_;clear A)|(refine(uH D _).mono ?_;clear D)|(refine(uH F _).mono ?_;clear F));rintro e O ⟨rfl,d⟩;have N:=es (by assumption) d;clear d)|fail "NO ARM");go_wp2;refine aq (fun W=>Below w.heap.size w W∧cd W g (.bool false) (.int .u64 p) (.int .u64 f)) ⟨cP G (by assumption),(uH K).all (And.left (by assumption))⟩ ?_;clear l G K;rintro m ⟨t,h⟩;have l:=aa (bV h);have G:=aa t;have K:=aa h;clear h t)
 go_region_held3(fun w'=>Below m.heap.size m w'∧w'.cell? ⟨g,0,none⟩=some (.bool false)∧w'.cell? ⟨g,1,none⟩=some (.int .u64 p)∧w'.cell? ⟨g,2,none⟩=some (.int .u64 f))
  (first|exact uH l _ (Below.refl _ _).drew|exact uH l _ (by assumption)|fail "NO KEEP")
  (first|(go_at_call 141;(first|(refine(uH z _).mono ?_;clear z)|(refine(uH A _).mono ?_;clear A)|(refine(uH D _).mono ?_;clear D)|(refine(uH F _).mono ?_;clear F));rintro e O ⟨rfl,d⟩;have N:=es (by assumption) d;clear d)|fail "NO ARM")
 go_wp2
 go_ret
 exact⟨rfl,cP G (by assumption)⟩
theorem DP(b:Nat)(w:World)(C:∀w',Calls Tryz.prog 141 #[.int .u64 b] w' fun e D=>e=.returned (.agg #[.bool true,.int .u64 0,.int .u64 0])∧Below w'.heap.size w' D):
  Calls Tryz.prog 113 #[.int .u64 b] w fun e w'=>e=.returned (.int .i64 0)∧Below w.heap.size w w':=by
 have t:=aa dI
 have z:=aa eu
 have G:=aa C
 clear C
 go_enter Tryz.func113,Tryz.ntmps113
 go_wp2_with fail
 refine(uH G _).mono ?_
 rintro e H ⟨rfl,d⟩
 clear G
 go_wp2
 refine aq (fun W=>Below w.heap.size w W∧cd W H.heap.size (.bool true) (.int .u64 0) (.int .u64 0)) ⟨d.alloc d.size _,cd.new _ _ _ _⟩ ?_
 rintro l ⟨m,f⟩
 clear d
 generalize H.heap.size=g at*
 have h:=aa (bV f);have A:=aa m;have F:=aa f;clear f m
 iterate 1 (go_region_held3(fun w'=>Below l.heap.size l w'∧w'.cell? ⟨g,0,none⟩=some (.bool true)∧w'.cell? ⟨g,1,none⟩=some (.int .u64 0)∧w'.cell? ⟨g,2,none⟩=some (.int .u64 0))
  (first|exact uH h _ (Below.refl _ _).drew|exact uH h _ (by assumption)|fail "NO KEEP")
  (first|(go_at_call 141;(first|(refine(uH t _).mono ?_;clear t)|(refine(uH z _).mono ?_;clear z));rintro e L ⟨rfl,d⟩;have K:=es (by assumption) d;clear d)|fail "NO ARM");go_wp2;refine aq (fun W=>Below w.heap.size w W∧cd W g (.bool true) (.int .u64 0) (.int .u64 0)) ⟨cP A (by assumption),(uH F).all (And.left (by assumption))⟩ ?_;clear h A F;rintro l ⟨m,f⟩;have h:=aa (bV f);have A:=aa m;have F:=aa f;clear f m)
 go_region_held3(fun w'=>Below l.heap.size l w'∧w'.cell? ⟨g,0,none⟩=some (.bool true)∧w'.cell? ⟨g,1,none⟩=some (.int .u64 0)∧w'.cell? ⟨g,2,none⟩=some (.int .u64 0))
  (first|exact uH h _ (Below.refl _ _).drew|exact uH h _ (by assumption)|fail "NO KEEP")
  (first|(go_at_call 141;(first|(refine(uH t _).mono ?_;clear t)|(refine(uH z _).mono ?_;clear z));rintro e L ⟨rfl,d⟩;have K:=es (by assumption) d;clear d)|fail "NO ARM")
 go_wp2
 go_ret
 exact⟨rfl,cP A (by assumption)⟩
theorem DQ(b:Nat)(w:World)(C:∀w',Calls Tryz.prog 141 #[.int .u64 b] w' fun e G=>e=.returned (.agg #[.bool true,.int .u64 2047,.int .u64 0])∧Below w'.heap.size w' G):
  Calls Tryz.prog 113 #[.int .u64 b] w fun e w'=>e=.returned (.int .i64 3)∧Below w.heap.size w w':=by
 have t:=aa dI
 have z:=aa eu
 have A:=aa fg
 have D:=aa gh
 have K:=aa C
 clear C
 go_enter Tryz.func113,Tryz.ntmps113
 go_wp2_with fail
 refine(uH K _).mono ?_
 rintro e L ⟨rfl,d⟩
 clear K
 go_wp2
 refine aq (fun W=>Below w.heap.size w W∧cd W L.heap.size (.bool true) (.int .u64 2047) (.int .u64 0)) ⟨d.alloc d.size _,cd.new _ _ _ _⟩ ?_
 rintro l ⟨m,f⟩
 clear d
 generalize L.heap.size=g at*
 have h:=aa (bV f);have F:=aa m;have H:=aa f;clear f m
 iterate 3 (go_region_held3(fun w'=>Below l.heap.size l w'∧w'.cell? ⟨g,0,none⟩=some (.bool true)∧w'.cell? ⟨g,1,none⟩=some (.int .u64 2047)∧w'.cell? ⟨g,2,none⟩=some (.int .u64 0))
  (first|exact uH h _ (Below.refl _ _).drew|exact uH h _ (by assumption)|fail "NO KEEP")
  (first|(go_at_call 141;(first|(refine(uH t _).mono ?_;clear t)|(refine(uH z _).mono ?_;clear z)|(refine(uH A _).mono ?_;clear A)|(refine(uH D _).mono ?_;clear D));rintro e N ⟨rfl,d⟩;have M:=es (by assumption) d;clear d)|fail "NO ARM");go_wp2;refine aq (fun W=>Below w.heap.size w W∧cd W g (.bool true) (.int .u64 2047) (.int .u64 0)) ⟨cP F (by assumption),(uH H).all (And.left (by assumption))⟩ ?_;clear h F H;rintro l ⟨m,f⟩;have h:=aa (bV f);have F:=aa m;have H:=aa f;clear f m)
 go_region_held3(fun w'=>Below l.heap.size l w'∧w'.cell? ⟨g,0,none⟩=some (.bool true)∧w'.cell? ⟨g,1,none⟩=some (.int .u64 2047)∧w'.cell? ⟨g,2,none⟩=some (.int .u64 0))
  (first|exact uH h _ (Below.refl _ _).drew|exact uH h _ (by assumption)|fail "NO KEEP")
  (first|(go_at_call 141;(first|(refine(uH t _).mono ?_;clear t)|(refine(uH z _).mono ?_;clear z)|(refine(uH A _).mono ?_;clear A)|(refine(uH D _).mono ?_;clear D));rintro e N ⟨rfl,d⟩;have M:=es (by assumption) d;clear d)|fail "NO ARM")
 go_wp2
 go_ret
 exact⟨rfl,cP F (by assumption)⟩
theorem DR(b:Nat)(f:Nat)(w:World)(C:∀w',Calls Tryz.prog 141 #[.int .u64 b] w' fun e H=>e=.returned (.agg #[.bool true,.int .u64 0,.int .u64 f])∧Below w'.heap.size w' H)(Q:((f:Int)==0)=false):
  Calls Tryz.prog 113 #[.int .u64 b] w fun e w'=>e=.returned (.int .i64 1)∧Below w.heap.size w w':=by
 have z:=aa dI
 have A:=aa eu
 have D:=aa fg
 have F:=aa gh
 have L:=aa C
 clear C
 go_enter Tryz.func113,Tryz.ntmps113
 go_wp2_with fail
 refine(uH L _).mono ?_
 rintro e M ⟨rfl,d⟩
 clear L
 go_wp2
 refine aq (fun W=>Below w.heap.size w W∧cd W M.heap.size (.bool true) (.int .u64 0) (.int .u64 f)) ⟨d.alloc d.size _,cd.new _ _ _ _⟩ ?_
 rintro m ⟨t,h⟩
 clear d
 generalize M.heap.size=g at*
 have l:=aa (bV h);have G:=aa t;have K:=aa h;clear h t
 iterate 3 (go_region_held3(fun w'=>Below m.heap.size m w'∧w'.cell? ⟨g,0,none⟩=some (.bool true)∧w'.cell? ⟨g,1,none⟩=some (.int .u64 0)∧w'.cell? ⟨g,2,none⟩=some (.int .u64 f))
  (first|exact uH l _ (Below.refl _ _).drew|exact uH l _ (by assumption)|fail "NO KEEP")
  (first|(go_at_call 141;(first|(refine(uH z _).mono ?_;clear z)|(refine(uH A _).mono ?_;clear A)|(refine(uH D _).mono ?_;clear D)|(refine(uH F _).mono ?_;clear F));rintro e O ⟨rfl,d⟩;have N:=es (by assumption) d;clear d)|fail "NO ARM");go_wp2;refine aq (fun W=>Below w.heap.size w W∧cd W g (.bool true) (.int .u64 0) (.int .u64 f)) ⟨cP G (by assumption),(uH K).all (And.left (by assumption))⟩ ?_;clear l G K;rintro m ⟨t,h⟩;have l:=aa (bV h);have G:=aa t;have K:=aa h;clear h t)
 go_region_held3(fun w'=>Below m.heap.size m w'∧w'.cell? ⟨g,0,none⟩=some (.bool true)∧w'.cell? ⟨g,1,none⟩=some (.int .u64 0)∧w'.cell? ⟨g,2,none⟩=some (.int .u64 f))
  (first|exact uH l _ (Below.refl _ _).drew|exact uH l _ (by assumption)|fail "NO KEEP")
  (first|(go_at_call 141;(first|(refine(uH z _).mono ?_;clear z)|(refine(uH A _).mono ?_;clear A)|(refine(uH D _).mono ?_;clear D)|(refine(uH F _).mono ?_;clear F));rintro e O ⟨rfl,d⟩;have N:=es (by assumption) d;clear d)|fail "NO ARM")
 go_wp2
 go_ret
 exact⟨rfl,cP G (by assumption)⟩
theorem DS(b:Nat)(f:Nat)(w:World)(C:∀w',Calls Tryz.prog 141 #[.int .u64 b] w' fun e H=>e=.returned (.agg #[.bool true,.int .u64 2047,.int .u64 f])∧Below w'.heap.size w' H)(Q:((f:Int)==0)=false):
  Calls Tryz.prog 113 #[.int .u64 b] w fun e w'=>e=.returned (.int .i64 4)∧Below w.heap.size w w':=by
 have z:=aa dI
 have A:=aa eu
 have D:=aa fg
 have F:=aa gh
 have L:=aa C
 clear C
 go_enter Tryz.func113,Tryz.ntmps113
 go_wp2_with fail
 refine(uH L _).mono ?_
 rintro e M ⟨rfl,d⟩
 clear L
 go_wp2
 refine aq (fun W=>Below w.heap.size w W∧cd W M.heap.size (.bool true) (.int .u64 2047) (.int .u64 f)) ⟨d.alloc d.size _,cd.new _ _ _ _⟩ ?_
 rintro m ⟨t,h⟩
 clear d
 generalize M.heap.size=g at*
 have l:=aa (bV h);have G:=aa t;have K:=aa h;clear h t
 iterate 3 (go_region_held3(fun w'=>Below m.heap.size m w'∧w'.cell? ⟨g,0,none⟩=some (.bool true)∧w'.cell? ⟨g,1,none⟩=some (.int .u64 2047)∧w'.cell? ⟨g,2,none⟩=some (.int .u64 f))
  (first|exact uH l _ (Below.refl _ _).drew|exact uH l _ (by assumption)|fail "NO KEEP")
  (first|(go_at_call 141;(first|(refine(uH z _).mono ?_;clear z)|(refine(uH A _).mono ?_;clear A)|(refine(uH D _).mono ?_;clear D)|(refine(uH F _).mono ?_;clear F));rintro e O ⟨rfl,d⟩;have N:=es (by assumption) d;clear d)|fail "NO ARM");go_wp2;refine aq (fun W=>Below w.heap.size w W∧cd W g (.bool true) (.int .u64 2047) (.int .u64 f)) ⟨cP G (by assumption),(uH K).all (And.left (by assumption))⟩ ?_;clear l G K;rintro m ⟨t,h⟩;have l:=aa (bV h);have G:=aa t;have K:=aa h;clear h t)
 go_region_held3(fun w'=>Below m.heap.size m w'∧w'.cell? ⟨g,0,none⟩=some (.bool true)∧w'.cell? ⟨g,1,none⟩=some (.int .u64 2047)∧w'.cell? ⟨g,2,none⟩=some (.int .u64 f))
  (first|exact uH l _ (Below.refl _ _).drew|exact uH l _ (by assumption)|fail "NO KEEP")
  (first|(go_at_call 141;(first|(refine(uH z _).mono ?_;clear z)|(refine(uH A _).mono ?_;clear A)|(refine(uH D _).mono ?_;clear D)|(refine(uH F _).mono ?_;clear F));rintro e O ⟨rfl,d⟩;have N:=es (by assumption) d;clear d)|fail "NO ARM")
 go_wp2
 go_ret
 exact⟨rfl,cP G (by assumption)⟩
theorem DT(b:Nat)(p:Nat)(f:Nat)(w:World)(C:∀w',Calls Tryz.prog 141 #[.int .u64 b] w' fun e H=>e=.returned (.agg #[.bool true,.int .u64 p,.int .u64 f])∧Below w'.heap.size w' H)(Q:((p:Int)==0)=false)(U:((p:Int)==2047)=false):
  Calls Tryz.prog 113 #[.int .u64 b] w fun e w'=>e=.returned (.int .i64 2)∧Below w.heap.size w w':=by
 have z:=aa dI
 have A:=aa eu
 have D:=aa fg
 have F:=aa gh
 have L:=aa C
 clear C
 go_enter Tryz.func113,Tryz.ntmps113
 go_wp2_with fail
 refine(uH L _).mono ?_
 rintro e M ⟨rfl,d⟩
 clear L
 go_wp2
 refine aq (fun W=>Below w.heap.size w W∧cd W M.heap.size (.bool true) (.int .u64 p) (.int .u64 f)) ⟨d.alloc d.size _,cd.new _ _ _ _⟩ ?_
 rintro m ⟨t,h⟩
 clear d
 generalize M.heap.size=g at*
 have l:=aa (bV h);have G:=aa t;have K:=aa h;clear h t
 iterate 3 (go_region_held3(fun w'=>Below m.heap.size m w'∧w'.cell? ⟨g,0,none⟩=some (.bool true)∧w'.cell? ⟨g,1,none⟩=some (.int .u64 p)∧w'.cell? ⟨g,2,none⟩=some (.int .u64 f))
  (first|exact uH l _ (Below.refl _ _).drew|exact uH l _ (by assumption)|fail "NO KEEP")
  (first|(go_at_call 141;(first|(refine(uH z _).mono ?_;clear z)|(refine(uH A _).mono ?_;clear A)|(refine(uH D _).mono ?_;clear D)|(refine(uH F _).mono ?_;clear F));rintro e O ⟨rfl,d⟩;have N:=es (by assumption) d;clear d)|fail "NO ARM");go_wp2;refine aq (fun W=>Below w.heap.size w W∧cd W g (.bool true) (.int .u64 p) (.int .u64 f)) ⟨cP G (by assumption),(uH K).all (And.left (by assumption))⟩ ?_;clear l G K;rintro m ⟨t,h⟩;have l:=aa (bV h);have G:=aa t;have K:=aa h;clear h t)
 go_region_held3(fun w'=>Below m.heap.size m w'∧w'.cell? ⟨g,0,none⟩=some (.bool true)∧w'.cell? ⟨g,1,none⟩=some (.int .u64 p)∧w'.cell? ⟨g,2,none⟩=some (.int .u64 f))
  (first|exact uH l _ (Below.refl _ _).drew|exact uH l _ (by assumption)|fail "NO KEEP")
  (first|(go_at_call 141;(first|(refine(uH z _).mono ?_;clear z)|(refine(uH A _).mono ?_;clear A)|(refine(uH D _).mono ?_;clear D)|(refine(uH F _).mono ?_;clear F));rintro e O ⟨rfl,d⟩;have N:=es (by assumption) d;clear d)|fail "NO ARM")
 go_wp2
 go_ret
 exact⟨rfl,cP G (by assumption)⟩
end Go.Proofs.YtnnfjeieennffaaGreatDoor
