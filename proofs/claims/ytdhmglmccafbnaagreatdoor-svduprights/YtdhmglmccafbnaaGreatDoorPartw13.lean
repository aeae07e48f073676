/- Part 13 of the texts. -/
import Derived.Test.YtdhmglmccafbnaaGreatDoorPartw12
namespace Go.Proofs.YtdhmglmccafbnaaGreatDoor
theorem ii(n:Bool)(s:Nat)(h:s<9223372036854775808):fS (bY n s)=n:=by
 unfold fS
 cases n
 ·rw[aQ];exact decide_eq_false (by omega)
 ·rw[cu];exact decide_eq_true (by omega)
theorem FO(n:Bool)(s:Nat)(h:s<9223372036854775808):fP (bY n s)=s/4503599627370496:=by
 unfold fP
 cases n
 ·rw[aQ];omega
 ·rw[cu];omega
theorem FP(n:Bool)(s:Nat)(_h:s<9223372036854775808):fF (bY n s)=s%4503599627370496:=by
 unfold fF
 cases n
 ·rw[aQ]
 ·rw[cu];omega
theorem FQ(n:Bool)(s:Nat)(h:s<9218868437227405312):∃j:Nat,fE (bY n s)= -1074+(j:Int)∧fM (bY n s)*2^j=sg n (rv s):=by
 have f:=FO n s (by omega)
 have l:=FP n s (by omega)
 have u:=ii n s (by omega)
 unfold fM fE fA rv
 rw[f,l,u]
 by_cases d:s<4503599627370496
 ·rw[if_pos (by omega),if_pos (by omega),if_pos d]
  refine⟨0,by simp,?_⟩
  rw[Nat.mod_eq_of_lt d]
  simp
 ·rw[if_neg (by omega),if_neg (by omega),if_neg d]
  refine⟨s/4503599627370496-1,by omega,?_⟩
  rw[Nat.add_comm 4503599627370496]
  generalize s%4503599627370496+4503599627370496=m
  generalize s/4503599627370496-1=j
  unfold sg
  cases n
  ·simp
  ·simp[Int.neg_mul]
open Go.RowKit
def pv(n:Bool)(r:Nat):Int:=if n=true then-(rv r:Int)else(rv r:Int)
theorem qw:Ieee.double.signWeight=9223372036854775808:=by decide
theorem mD:Ieee.double.binade=4503599627370496:=by decide
theorem ke:Ieee.double.infRung=9218868437227405312:=by decide
theorem qx:Ieee.double.leastPlace= -1074:=by decide
theorem gR(n:Bool)(r:Nat)(h:r<9223372036854775808):(bY n r/9223372036854775808%2==1)=n∧bY n r%9223372036854775808=r:=by
 cases n
 ·rw[aQ];exact⟨by simp;omega,by omega⟩
 ·rw[cu];exact⟨by simp;omega,by omega⟩
theorem iM(n:Bool)(r:Nat)(h:r≤9218868437227405312):
  (r<9218868437227405312∧∃(m:Nat) (k:Nat),Ieee.double.read (bY n r)=.number n m (-1074+(k:Int))∧m*2^k=rv r)∨(r=9218868437227405312∧Ieee.double.read (bY n r)=.infinity n):=by
 obtain⟨l,u⟩:=gR n r (by omega)
 unfold Ieee.Format.read
 rw[qw,mD,ke,qx]
 simp only[l,u]
 by_cases d:r<4503599627370496
 ·left
  refine⟨by omega,r,0,?_,?_⟩
  ·rw[if_pos d];rfl
  ·unfold rv;rw[if_pos d];simp
 ·by_cases f:r<9218868437227405312
  ·left
   refine⟨f,_,_,by rw[if_neg d,if_pos f],?_⟩
   unfold rv;rw[if_neg d]
  ·right
   have:r=9218868437227405312:=by omega
   exact⟨this,by rw[if_neg d,if_neg f,if_pos this]⟩
theorem jh(n:Bool)(m k u:Nat)(r:Nat)(h:m*2^k=rv r)(l:u≤k):Ieee.signed n m u*2^(k-u)=pv n r:=by
 have f:m <<< u*2^(k-u)=rv r:=by
  rw[Nat.shiftLeft_eq,Nat.mul_assoc,←Nat.pow_add,show u+(k-u)=k by omega];exact h
 have d:((m <<< u:Nat):Int)*2^(k-u)=(rv r:Int):=by
  rw[←f,Int.natCast_mul,Int.natCast_pow];rfl
 unfold Ieee.signed pv
 cases n
 ·simp only[Bool.false_eq_true,if_false];exact d
 ·simp only[if_true];rw[Int.neg_mul,d]
theorem oY(a b:Int)(k:Nat):compare (a*2^k) (b*2^k)=compare a b:=by
 have f:(0:Int)<2^k:=Int.pow_pos (by decide)
 rcases Int.lt_trichotomy a b with h|h|h
 ·have d:a*2^k<b*2^k:=Int.mul_lt_mul_of_pos_right h f
  rw[Int.compare_eq_lt.2 h,Int.compare_eq_lt.2 d]
 ·subst h;simp
 ·have d:b*2^k<a*2^k:=Int.mul_lt_mul_of_pos_right h f
  rw[Int.compare_eq_gt.2 h,Int.compare_eq_gt.2 d]
theorem xn(n m:Bool)(r s a b k j:Nat)(h:a*2^k=rv r)(l:b*2^j=rv s):
  Ieee.Datum.order (.number n a (-1074+(k:Int))) (.number m b (-1074+(j:Int)))=some (compare (pv n r) (pv m s)):=by
 unfold Ieee.Datum.order
 simp only
 congr 1
 generalize D:min k j=c
 have u:(-1074+(k:Int)-min (-1074+(k:Int)) (-1074+(j:Int))).toNat=k-c:=by omega
 have z:(-1074+(j:Int)-min (-1074+(k:Int)) (-1074+(j:Int))).toNat=j-c:=by omega
 rw[u,z,←oY _ _ c]
 have d:=jh n a k (k-c) r h (by omega)
 have f:=jh m b j (j-c) s l (by omega)
 rw[show k-(k-c)=c by omega]at d
 rw[show j-(j-c)=c by omega]at f
 rw[d,f]
theorem sm{r s:Nat}(h:r<s):rv r<rv s:=Nat.lt_of_lt_of_le (qh r) (mu h)
theorem pB(n m:Bool)(r s:Nat)(J:r≤9218868437227405312)(D:s≤9218868437227405312):Ieee.double.order (bY n r) (bY m s)=some (compare (pv n r) (pv m s)):=by
 unfold Ieee.Format.order
 rcases iM n r J with⟨G,a,k,h,K⟩|⟨G,h⟩
 ·rcases iM m s D with⟨l,b,j,d,H⟩|⟨l,d⟩
  ·rw[h,d];exact xn n m r s a b k j K H
  ·rw[h,d]
   have u:rv r<rv s:=sm (by omega)
   have f:Ieee.Datum.order (.number n a (-1074+(k:Int))) (.infinity m)=some (if m then .gt else .lt):=rfl
   rw[f]
   congr 1
   unfold pv
   cases m<;>cases n<;>simp only[Bool.false_eq_true,if_true,if_false]<;>symm<;>first|exact Int.compare_eq_lt.2 (by omega)|exact Int.compare_eq_gt.2 (by omega)
 ·rcases iM m s D with⟨l,b,j,d,H⟩|⟨l,d⟩
  ·rw[h,d]
   have u:rv s<rv r:=sm (by omega)
   have f:Ieee.Datum.order (.infinity n) (.number m b (-1074+(j:Int)))=some (if n then .lt else .gt):=rfl
   rw[f]
   congr 1
   unfold pv
   cases m<;>cases n<;>simp only[Bool.false_eq_true,if_true,if_false]<;>symm<;>first|exact Int.compare_eq_lt.2 (by omega)|exact Int.compare_eq_gt.2 (by omega)
  ·rw[h,d]
   have z:rv r=rv s:=by rw[G,l]
   have F:0<rv s:=by have:=sm (r:=0) (s:=s) (by omega);rw[dH]at this;exact this
   have f:Ieee.Datum.order (.infinity n) (.infinity m)=some (compare m.toNat n.toNat):=rfl
   rw[f]
   congr 1
   unfold pv
   rw[z]
   cases n<;>cases m
   ·simp
   ·rw[if_neg (by decide),if_pos rfl]
    rw[Int.compare_eq_gt.2 (by omega)]
    decide
   ·rw[if_pos rfl,if_neg (by decide)]
    rw[Int.compare_eq_lt.2 (by omega)]
    decide
   ·simp
def IE(z l:Int):Int:=pv (decide (z<0)) (bf z.natAbs l)
theorem gS(z lo:Int)(k:Nat)(h:z≠0→lo+k≤oE z lo):up (oM z) (oE z lo) (lo+k)*2^k=z:=by
 by_cases d:z=0
 ·subst d;rw[cl,fr];simp
 ·have f:=h d
  conv=>rhs;rw[←nv z lo d]
  unfold up
  rw[Int.mul_assoc,←Int.pow_add]
  congr 2
  omega
theorem xp{lo:Int}{W:Nat}{z1 z2:Int}(u:lN lo W z1)(J:lN lo W z2)(K:¬(z1=0∧z2=0)):
  ∃k:Nat,bF (oM z1) (oE z1 lo) (oM z2) (oE z2 lo)=lo+k∧up (oM z1) (oE z1 lo) (lo+k)*2^k=z1∧up (oM z2) (oE z2 lo) (lo+k)*2^k=z2∧oE z1 lo-(lo+k)≤16384∧oE z2 lo-(lo+k)≤16384:=by
 have N:=u.2.1
 have O:=u.2.2.1
 have Q:=u.2.2.2
 have F:∀z,lN lo W z→(z=0∧oM z=0∧oE z lo=0)∨(z≠0∧oM z≠0∧oE z lo=lo+(tz z.natAbs:Int)∧tz z.natAbs<W):=fun z L=>by
  by_cases e:z=0
  ·left;subst e;exact⟨rfl,cl,cL _⟩
  ·right;exact⟨e,(gj z e).1,dz z lo e,L.tzs e⟩
 rcases F z1 u with⟨G,D,H⟩|⟨G,D,H,U⟩
 ·rcases F z2 J with⟨d,f,l⟩|⟨d,f,l,M⟩
  ·exact absurd ⟨G,d⟩ K
  ·refine⟨tz z2.natAbs,?_,gS z1 lo _ (fun h=>absurd G h),gS z2 lo _ (fun _=>by omega),by omega,by omega⟩
   unfold bF;rw[if_pos D];exact l
 ·rcases F z2 J with⟨d,f,l⟩|⟨d,f,l,M⟩
  ·refine⟨tz z1.natAbs,?_,gS z1 lo _ (fun _=>by omega),gS z2 lo _ (fun h=>absurd d h),by omega,by omega⟩
   unfold bF;rw[if_neg D,if_pos f];exact H
  ·refine⟨min (tz z1.natAbs) (tz z2.natAbs),?_,gS z1 lo _ (fun _=>by omega),gS z2 lo _ (fun _=>by omega),by omega,by omega⟩
   rw[ic _ _ _ _ D f,H,l];omega
theorem um(u v:Int)(k:Nat):bc (u*2^k) (v*2^k)=bc u v:=by
 rw[nm,nm,←Int.sub_mul,ie]
theorem Hn{w:World}{v u:Value}{lo:Int}{W:Nat}{z1 z2:Int}(l:aC w v (oM z1) (oE z1 lo))(z:aC w u (oM z2) (oE z2 lo))(d:lN lo W z1)(f:lN lo W z2):
  Calls Tryz.prog 51 #[v,u] w fun r w'=>r=.returned (.int .i64 (bc z1 z2))∧Below w.heap.size w w':=by
 obtain⟨F,G,H,A,rfl,J,a2,K,a4,L⟩:=l.right d.right.2
 obtain⟨M,N,O,B,rfl,Q,b2,U,b4,V⟩:=z.right f.right.2
 have:=qv F M G N H O A B _ _ w J Q (L.trans d.right.1) (V.trans f.right.1)
 rw[K,U]at this
 have D:j8 (oM z1) (oE z1 lo) (oM z2) (oE z2 lo)=bc z1 z2:=by
  by_cases h:z1=0∧z2=0
  ·obtain⟨rfl,rfl⟩:=h
   rw[cl,cL];rfl
  ·obtain⟨k,X,Y,Z,_,_⟩:=xp d f h
   unfold j8
   rw[X,←um _ _ k,Y,Z]
 rwa[D]at this
def fR(b:Nat):Nat:=b%9223372036854775808
def fZ(b:Nat):Int:=pv (fS b) (fR b)
theorem fW(b:Nat)(h:b<18446744073709551616):bY (fS b) (fR b)=b:=by
 unfold fS fR
 by_cases c:9223372036854775808≤b
 ·rw[decide_eq_true c,cu];omega
 ·rw[decide_eq_false c,aQ];omega
theorem kf(b:Nat):fR b<9223372036854775808:=by unfold fR;omega
theorem iN(b:Nat)(d:aA b=true):fR b<9218868437227405312:=by
 have f:=of_decide_eq_true d
 unfold fP at f
 unfold fR
 omega
theorem Ho(n:Bool)(s:Nat):sg n (rv s)=pv n s:=rfl
theorem dC(b:Nat)(h:b<18446744073709551616)(u:aA b=true):oM (fZ b)=fD b∧oE (fZ b) (-1074)=fX b:=by
 obtain⟨j,f,l⟩:=FQ (fS b) (fR b) (iN b u)
 rw[fW b h]at f l
 have d:=kd (fM b) j (-1074)
 rw[l,Ho,←f]at d
 exact d
theorem zB:rv 9218868437227405312=2^2098:=by decide+kernel
theorem FR(n:Bool)(r:Nat):(pv n r).natAbs=rv r:=by unfold pv;split<;>omega
theorem fY(b:Nat):(fZ b).natAbs=rv (fR b):=FR _ _
theorem js(b:Nat)(d:aA b=true):(fZ b).natAbs<2^2098:=by
 rw[fY,←zB];exact sm (iN b d)
def aZ(a b:Nat):Int:=fZ a+fZ b
def aV(a b:Nat):Nat:=
 if fK a=4∨fK b=4 then 9221120237041090560
 else if fK a=3 then(if fK b=3∧a≠b then 9221120237041090560 else a)
 else if fK b=3 then b
 else if aZ a b=0 then(if(fS a&&fS b)=true then 9223372036854775808 else 0)
 else bY (decide (aZ a b<0)) (bf (aZ a b).natAbs (-1074))
def aF(a b:Nat):Int:=
 if fK a=4∨fK b=4 then 0
 else if fK a=3 then(if fK b=3∧a≠b then 16 else 0)
 else if fK b=3 then 0
 else if aZ a b=0 then 0
 else bj (oM (aZ a b)).natAbs (oE (aZ a b) (-1074))
theorem Fe:(2:Nat)^2098+2^2098=2^2099:=by decide+kernel
theorem kX(b:Nat)(d:aA b=true):lN (-1074) 2099 (fZ b):=by
 have h:=js b d
 have f:=Fe
 have l:=Nat.two_pow_pos 2098
 generalize (2:Nat)^2098=P at*
 exact⟨by rw[←f];omega,by decide,by decide,by decide⟩
theorem FT(a b:Nat)(d:aA a=true)(f:aA b=true):lN (-1074) 2099 (fZ a+fZ b):=by
 have l:=js a d
 have u:=js b f
 have h:=Fe
 generalize (2:Nat)^2098=P at*
 exact⟨by rw[←h];omega,by decide,by decide,by decide⟩
theorem ee(n:Bool)(r:Nat)(h:r<9223372036854775808):bY n r<18446744073709551616:=by unfold bY;split<;>omega
theorem dR(a b:Nat)(d:a<18446744073709551616)(f:b<18446744073709551616):aV a b<18446744073709551616:=by
 unfold aV
 split
 ·omega
 ·split
  ·split<;>omega
  ·split
   ·omega
   ·split
    ·split<;>omega
    ·have:=cH (aZ a b).natAbs (-1074)
     exact ee _ _ (by omega)
theorem sn(a b:Nat)(d:fK a≠3)(l:fK a≠4)(f:fK b≠3)(u:fK b≠4):
  aV a b=(if aZ a b=0 then(if(fS a&&fS b)=true then 9223372036854775808 else 0)else bY (decide (aZ a b<0)) (bf (aZ a b).natAbs (-1074)))∧aF a b=(if aZ a b=0 then 0 else bj (oM (aZ a b)).natAbs (oE (aZ a b) (-1074))):=by
 have h:¬(fK a=4∨fK b=4):=by omega
 unfold aV aF
 simp only[if_neg h,if_neg d,if_neg f,and_self]
theorem kg(E:Int):bf 0 E=0:=by unfold bf;exact if_pos rfl
theorem nA(n:Bool)(r:Nat):Ieee.double.word n r=bY n r:=by
 unfold Ieee.Format.word;rw[qw];unfold bY
 cases n
 ·simp
 ·simp[Nat.add_comm]
theorem sq(n:Bool)(v k:Nat)(h:v≠0):Ieee.Toward.even.cut n v k=cF v k:=by
 have F:=aU v h
 have f:bl v=v.log2+1:=by unfold bl;rw[if_neg h]
 rw[f]at F
 unfold Ieee.Toward.cut
 simp only[Nat.one_shiftLeft]
 by_cases c:k≤v.log2+2
 ·rw[Nat.min_eq_left c]
  unfold cF
  congr 1
  generalize 2^k=g
  by_cases l:g<2*(v%g)
  ·simp[l]
  ·by_cases d:g=2*(v%g)∧v/g%2=1
   ·rw[if_pos (Or.inr d)]
    rw[decide_eq_false l,Bool.false_or,beq_iff_eq.2 d.1,beq_iff_eq.2 d.2];rfl
   ·rw[if_neg (by rintro(h|h)<;>contradiction),decide_eq_false l,Bool.false_or]
    have:(g==2*(v%g)&&v/g%2==1)=false:=by
     rw[Bool.eq_false_iff]
     intro D
     rw[Bool.and_eq_true,beq_iff_eq,beq_iff_eq]at D
     exact d D
    rw[this];rfl
 ·rw[Nat.min_eq_right (by omega)]
  have G:(2:Nat)^(v.log2+2)=2^(v.log2+1)*2:=Nat.pow_succ 2 _
  have H:(2:Nat)^(v.log2+2)≤2^k:=dG (by omega)
  unfold cF
  generalize (2:Nat)^(v.log2+2)=g at*
  generalize (2:Nat)^k=q at*
  have u:v<g:=by omega
  have z:v<q:=by omega
  rw[Nat.div_eq_of_lt u,Nat.mod_eq_of_lt u,Nat.div_eq_of_lt z,Nat.mod_eq_of_lt z,if_neg (by omega),decide_eq_false (by omega)]
  have:(g==2*v)=false:=by simp;omega
  rw[this];rfl
theorem xq(v:Nat):cF v 0=v:=by have:=g8 v 0;simpa using this
theorem FU(m k r:Nat)(d:r=m+k*4503599627370496)(f:r≤9218868437227405312):min (k*4503599627370496+m) 9218868437227405312=r:=by omega
theorem Dv(m k:Nat)(d:4503599627370496≤m)(f:2046≤k):min (k*4503599627370496+m) 9218868437227405312=9218868437227405312:=by omega
theorem zC(n:Bool)(v:Nat)(E:Int)(h:v≠0):bY n (min ((ar v E- -1074).toNat*4503599627370496+cQ v E) 9218868437227405312)=bY n (bf v E):=by
 have d:=(ch v E h).2.1
 have z:=(bU v E).2.1
 have f:=cH v E
 rw[show ar v E- -1074=ar v E+1074 by omega]
 by_cases l:(bl v:Int)+E≤1024
 ·rw[FU _ _ _ (cj v E h l) f]
 ·have u:bf v E=9218868437227405312:=by unfold bf;rw[if_neg h,if_pos (by omega)]
  rw[u,Dv _ _ (d (by omega)) (by omega)]
theorem dg(n:Bool)(v:Nat)(E:Int):Ieee.double.nearest n v E=bY n (bf v E):=by
 unfold Ieee.Format.nearest
 by_cases h:v=0
 ·rw[if_pos h,nA];unfold bf;rw[if_pos h]
 ·rw[if_neg h]
  simp only[qx,mD,ke,nA]
  have d:(Ieee.double.fractionBits:Int)=52:=rfl
  rw[d]
  have f:bl v=v.log2+1:=by unfold bl;rw[if_neg h]
  have l:max (E+(v.log2:Int)-52) (-1074)=ar v E:=by unfold ar;rw[f];omega
  rw[l]
  have u:Ieee.Toward.even.cut n (v <<< (E-ar v E).toNat) (ar v E-E).toNat=cQ v E:=by
   unfold cQ mS
   split
   ·rename_i z
    rw[show(ar v E-E).toNat=0 by omega,Nat.shiftLeft_eq]
    rw[sq _ _ _ (Nat.mul_ne_zero h (Nat.pos_iff_ne_zero.1 (Nat.two_pow_pos _))),xq]
   ·rename_i z
    rw[show(E-ar v E).toNat=0 by omega,Nat.shiftLeft_zero,sq _ _ _ h,show(-(E-ar v E)).toNat=(ar v E-E).toNat by omega]
  rw[u]
  exact zC n v E h
theorem aP(b:Nat):(fK b=4↔9218868437227405312<fR b)∧(fK b=3↔fR b=9218868437227405312)∧(aA b=true↔fR b<9218868437227405312):=by
 have h:=kf b
 have hF:fF b=fR b%4503599627370496:=by unfold fF fR;omega
 have d:fP b=fR b/4503599627370496:=rfl
 unfold fK aA
 rw[hF,d]
 generalize fR b=r at*
 refine⟨?_,?_,?_⟩
 ·split
  ·split<;>constructor<;>intro _<;>omega
  ·split
   ·split<;>constructor<;>intro _<;>omega
   ·constructor<;>intro _<;>omega
 ·split
  ·split<;>constructor<;>intro _<;>omega
  ·split
   ·split<;>constructor<;>intro _<;>omega
   ·constructor<;>intro _<;>omega
 ·rw[decide_eq_true_iff];omega
theorem dD(b:Nat)(_h:b<18446744073709551616)(d:fK b=4):∃s f,Ieee.double.read b=.nan s f:=by
 have h:=(aP b).1.1 d
 unfold Ieee.Format.read
 rw[qw,mD,ke,qx]
 simp only
 have:b%9223372036854775808=fR b:=rfl
 rw[this,if_neg (by omega),if_neg (by omega),if_neg (by omega)]
 exact⟨_,_,rfl⟩
theorem bP(b:Nat)(h:b<18446744073709551616)(d:fK b=3):Ieee.double.read b=.infinity (fS b):=by
 have f:=(aP b).2.1.1 d
 rcases iM (fS b) (fR b) (by omega)with⟨c,_⟩|⟨_,e⟩
 ·omega
 ·rw[fW b h]at e;exact e
theorem bV(b:Nat)(h:b<18446744073709551616)(d:aA b=true):∃(m:Nat) (k:Nat),Ieee.double.read b=.number (fS b) m (-1074+(k:Int))∧m*2^k=rv (fR b):=by
 have l:=iN b d
 rcases iM (fS b) (fR b) (by omega)with⟨_,m,k,e,f⟩|⟨c,_⟩
 ·rw[fW b h]at e;exact⟨m,k,e,f⟩
 ·omega
theorem FW(a b:Nat)(d:a<18446744073709551616)(f:b<18446744073709551616)(l:fK a=3)(u:fK b=3):a=b↔fS a=fS b:=by
 have z:=(aP a).2.1.1 l
 have D:=(aP b).2.1.1 u
 constructor
 ·intro h;rw[h]
 ·intro h;rw[←fW a d,←fW b f,h,z,D]
theorem aY(b:Nat)(d:fK b≠3)(f:fK b≠4):aA b=true:=by
 rcases eT b with⟨_,h|h⟩|⟨h,_⟩
 ·exact absurd h d
 ·exact absurd h f
 ·exact h
theorem Dw(n m:Bool)(r s a b k j:Nat)(D:a*2^k=rv r)(F:b*2^j=rv s):
  (Ieee.Datum.sum (.number n a (-1074+(k:Int))) (.number m b (-1074+(j:Int)))).map Ieee.double.write=some (if pv n r+pv m s=0 then(if(n&&m)=true then 9223372036854775808 else 0)else bY (decide (pv n r+pv m s<0)) (bf (pv n r+pv m s).natAbs (-1074))):=by
 unfold Ieee.Datum.sum
 simp only[Option.map_some]
 congr 1
 generalize L:min k j=c
 have G:(-1074+(k:Int)-min (-1074+(k:Int)) (-1074+(j:Int))).toNat=k-c:=by omega
 have H:(-1074+(j:Int)-min (-1074+(k:Int)) (-1074+(j:Int))).toNat=j-c:=by omega
 have J:min (-1074+(k:Int)) (-1074+(j:Int))= -1074+(c:Int):=by omega
 rw[G,H,J]
 have l:=jh n a k (k-c) r D (by omega)
 have u:=jh m b j (j-c) s F (by omega)
 rw[show k-(k-c)=c by omega]at l
 rw[show j-(j-c)=c by omega]at u
 have K:(Ieee.signed n a (k-c)+Ieee.signed m b (j-c))*2^c=pv n r+pv m s:=by rw[Int.add_mul,l,u]
 generalize Ieee.signed n a (k-c)+Ieee.signed m b (j-c)=t at*
 rw[←K]
 have z:(0:Int)<2^c:=Int.pow_pos (by decide)
 show Ieee.double.nearest (if t=0 then n&&m else decide (t<0)) t.natAbs (-1074+(c:Int))=_
 rw[dg]
 by_cases d:t=0
 ·subst d
  rw[if_pos rfl,if_pos (by simp)]
  have:bf (0:Int).natAbs (-1074+(c:Int))=0:=kg _
  rw[this]
  unfold bY
  split<;>rfl
 ·have f:t*2^c≠0:=Int.mul_ne_zero d (by omega)
  rw[if_neg d,if_neg f,Int.natAbs_mul,Int.natAbs_pow,show(2:Int).natAbs=2 from rfl,dk]
  congr 1
  by_cases h:t<0
  ·rw[decide_eq_true h,decide_eq_true (Int.mul_neg_of_neg_of_pos h z)]
  ·rw[decide_eq_false h,decide_eq_false (by have:=Int.mul_nonneg (show 0≤t by omega) (Int.le_of_lt z);omega)]
def aN(a b:Nat):Bool:=decide ((fK a=4∨fK b=4)∨(fK a=3∧fK b=3∧a≠b))
theorem pC(a b:Nat)(d:a<18446744073709551616)(l:b<18446744073709551616)(h:aN a b=true):Ieee.double.add a b=none∧aV a b=9221120237041090560:=by
 unfold Ieee.Format.add
 rcases of_decide_eq_true h with(h|h)|⟨u,z,D⟩
 ·obtain⟨s,f,e⟩:=dD a d h
  refine⟨by rw[e];rfl,?_⟩
  unfold aV;rw[if_pos (Or.inl h)]
 ·obtain⟨s,f,e⟩:=dD b l h
  refine⟨?_,?_⟩
  ·rw[e];cases Ieee.double.read a<;>rfl
  ·unfold aV;rw[if_pos (Or.inr h)]
 ·rw[bP a d u,bP b l z]
  have F:fS a≠fS b:=fun e=>D ((FW a b d l u z).2 e)
  refine⟨?_,?_⟩
  ·show Option.map Ieee.double.write (if fS a=fS b then some (.infinity (fS a))else none)=none
   rw[if_neg F];rfl
  ·unfold aV;rw[if_neg (by omega),if_pos u,if_pos ⟨z,D⟩]
theorem dp(n:Bool):Ieee.double.write (.infinity n)=bY n 9218868437227405312:=by
 show Ieee.double.word n Ieee.double.infRung=_
 rw[nA,ke]
theorem pD(a b:Nat)(z:a<18446744073709551616)(u:b<18446744073709551616)(h:aN a b=false):Ieee.double.add a b=some (aV a b):=by
 have F:=of_decide_eq_false h
 have N:fK a≠4:=fun e=>F (Or.inl (Or.inl e))
 have J:fK b≠4:=fun e=>F (Or.inl (Or.inr e))
 have K:fK a=3→fK b=3→a=b:=fun L D=>Decidable.byContradiction fun M=>F (Or.inr ⟨L,D,M⟩)
 unfold Ieee.Format.add aV
 rw[if_neg (by omega)]
 by_cases f:fK a=3
 ·have G:=(aP a).2.1.1 f
  have l:=fW a z
  rw[G]at l
  rw[if_pos f,if_neg (by rintro⟨V,X⟩;exact X (K f V)),bP a z f]
  by_cases d:fK b=3
  ·rw[bP b u d]
   have:=K f d
   subst this
   show Option.map Ieee.double.write (if fS a=fS a then some (.infinity (fS a))else none)=some a
   rw[if_pos rfl,Option.map_some,dp,l]
  ·obtain⟨m,k,e,_⟩:=bV b u (aY b d J)
   rw[e]
   unfold Ieee.Datum.sum;simp only
   rw[Option.map_some,dp,l]
 ·obtain⟨m,k,e,O⟩:=bV a z (aY a f N)
  rw[if_neg f,e]
  by_cases d:fK b=3
  ·have G:=(aP b).2.1.1 d
   have l:=fW b u
   rw[G]at l
   rw[if_pos d,bP b u d]
   unfold Ieee.Datum.sum;simp only
   rw[Option.map_some,dp,l]
  ·obtain⟨Q,U,D,H⟩:=bV b u (aY b d J)
   rw[if_neg d,D]
   exact Dw (fS a) (fS b) (fR a) (fR b) m Q k U O H
theorem Dx(b:Nat)(h:b<18446744073709551616):fN b=bY (!fS b) (fR b):=by
 unfold fN fS fR
 by_cases c:9223372036854775808≤b
 ·rw[if_pos c,decide_eq_true c];show _=bY false _;rw[aQ];omega
 ·rw[if_neg c,decide_eq_false c];show _=bY true _;rw[cu];omega
theorem zD(b:Nat)(h:b<18446744073709551616):Ieee.double.read (fN b)=(Ieee.double.read b).opposite:=by
 have d:=kf b
 have f:=Dx b h
 have l:=(fW b h).symm
 obtain⟨u,p2⟩:=gR (!fS b) (fR b) d
 obtain⟨z,D⟩:=gR (fS b) (fR b) d
 rw[f]
 conv=>rhs;rw[l]
 unfold Ieee.Format.read
 rw[qw,mD,ke,qx]
 simp only[u,p2,z,D]
 generalize fR b=r
 split
 ·rfl
 ·split
  ·rfl
  ·split<;>rfl
theorem zE(a b:Nat)(d:b<18446744073709551616):Ieee.double.sub a b=Ieee.double.add a (fN b):=by
 unfold Ieee.Format.sub Ieee.Format.add
 rw[zD b d]
theorem ef(n:Bool)(r:Nat)(h:r<9223372036854775808):fR (bY n r)=r:=(gR n r h).2
theorem zF(n:Bool)(r:Nat)(h:r<9223372036854775808):fZ (bY n r)=pv n r:=by
 unfold fZ;rw[ii n r h,ef n r h]
theorem Dy{a b:Nat}(h:fR a=fR b):fK a=fK b:=by
 have hF:∀b,fF b=fR b%4503599627370496:=fun b=>by unfold fF fR;omega
 have d:∀b,fP b=fR b/4503599627370496:=fun b=>rfl
 unfold fK
 rw[hF,d,hF b,d b,h]
theorem bD{b:Nat}(d:aA b=true):fK b≠3∧fK b≠4:=by
 rcases eT b with⟨h,_⟩|⟨_,h⟩
 ·rw[d]at h;cases h
 ·omega
theorem qy(a b:Nat)(h:aA a=true)(l:aA b=true):fR (aV a b)=bf (aZ a b).natAbs (-1074)∧fZ (aV a b)=IE (aZ a b) (-1074):=by
 obtain⟨z,D⟩:=bD h
 obtain⟨F,G⟩:=bD l
 rw[(sn a b z D F G).1]
 by_cases d:aZ a b=0
 ·rw[if_pos d,d]
  have e:(if(fS a&&fS b)=true then 9223372036854775808 else 0)=bY (fS a&&fS b) 0:=by unfold bY;split<;>rfl
  have f:bf (0:Int).natAbs (-1074)=0:=kg _
  rw[e,ef _ _ (by decide),zF _ _ (by decide),f]
  refine⟨rfl,?_⟩
  unfold IE pv
  rw[f,dH]
  split<;>simp
 ·rw[if_neg d]
  have u:=cH (aZ a b).natAbs (-1074)
  rw[ef _ _ (by omega),zF _ _ (by omega)]
  exact⟨rfl,rfl⟩
theorem nB(a b:Nat)(d:a<18446744073709551616)(f:b<18446744073709551616)(l:fK a≠4)(u:fK b≠4):Ieee.double.order a b=some (compare (fZ a) (fZ b)):=by
 have z:fR a≤9218868437227405312:=Nat.le_of_not_lt fun h=>l ((aP a).1.2 h)
 have D:fR b≤9218868437227405312:=Nat.le_of_not_lt fun h=>u ((aP b).1.2 h)
 have:=pB (fS a) (fS b) (fR a) (fR b) z D
 rw[fW a d,fW b f]at this
 exact this
theorem kY(a b:Nat)(d:a<18446744073709551616)(l:b<18446744073709551616)(h:fK a=4∨fK b=4):Ieee.double.order a b=none:=by
 unfold Ieee.Format.order
 rcases h with h|h
 ·obtain⟨s,f,e⟩:=dD a d h
  rw[e];rfl
 ·obtain⟨s,f,e⟩:=dD b l h
  rw[e];cases Ieee.double.read a<;>rfl
end Go.Proofs.YtdhmglmccafbnaaGreatDoor
namespace Go.Proofs.YtdhmglmccafbnaaGreatDoor
def cq(N d:Nat):Nat:=2*(N/d)+(if N%d=0 then 0 else 1)
def zG(N D:Nat):Nat:=N/D+(if D<2*(N%D)∨(D=2*(N%D)∧N/D%2=1)then 1 else 0)
theorem uo(N D i:Nat):zG (N*2^i) (D*2^i)=zG N D:=by
 have d:0<2^i:=Nat.two_pow_pos _
 unfold zG
 rw[Nat.mul_div_mul_right _ _ d,Nat.mul_mod_mul_right]
 have f:(D*2^i<2*(N%D*2^i))↔D<2*(N%D):=by
  rw[←Nat.mul_assoc];exact Nat.mul_lt_mul_right d
 have l:(D*2^i=2*(N%D*2^i))↔D=2*(N%D):=by
  rw[←Nat.mul_assoc];exact⟨fun h=>Nat.eq_of_mul_eq_mul_right d h,fun h=>by rw[←h]⟩
 simp only[f,l]
theorem vG(N d k:Nat)(G:0<d)(O:1≤k):cF (cq N d) (k+1)=zG N (d*2^k):=by
 obtain⟨j,rfl⟩:∃j,k=j+1:=⟨k-1,by omega⟩
 have Q:=Nat.div_add_mod N d
 have U:=Nat.mod_lt N G
 have V:0<2^j:=Nat.two_pow_pos _
 have u:(2:Nat)^(j+1)=2*2^j:=by rw[Nat.pow_succ,Nat.mul_comm]
 have H:(2:Nat)^(j+1+1)=2*(2*2^j):=by rw[Nat.pow_succ,u,Nat.mul_comm]
 have X:(if N%d=0 then 0 else 1)≤1:=by split<;>omega
 have f:(if N%d=0 then 0 else 1)=0↔N%d=0:=by split<;>simp_all
 unfold cF zG cq
 rw[H,u]
 generalize (2:Nat)^j=g at*
 generalize (if N%d=0 then 0 else 1)=t at*
 have z:=Nat.div_add_mod (N/d) (2*g)
 have Y:=Nat.mod_lt (N/d) (show 0<2*g by omega)
 have J:N/(d*(2*g))=N/d/(2*g):=(Nat.div_div_eq_div_mul N d (2*g)).symm
 have K:N%(d*(2*g))=d*(N/d%(2*g))+N%d:=by
  rw[Nat.mod_mul];omega
 rw[J,K]
 generalize N%d=r at*
 generalize N/d=q at*
 generalize Z:q%(2*g)=a at*
 generalize hQ:q/(2*g)=b at*
 have L:(2*q+t)/(2*(2*g))=b:=by
  rw[←z,Nat.mul_add,←Nat.mul_assoc 2 (2*g) b,Nat.add_assoc]
  rw[Nat.mul_add_div (by omega),Nat.div_eq_of_lt (by omega),Nat.add_zero]
 have M:(2*q+t)%(2*(2*g))=2*a+t:=by
  rw[←z,Nat.mul_add,←Nat.mul_assoc 2 (2*g) b,Nat.add_assoc,Nat.mul_add_mod,Nat.mod_eq_of_lt (by omega)]
 rw[L,M]
 congr 1
 --where a stands beside half
 rcases Nat.lt_trichotomy a g with h|h|h
 ·have:d*a+d≤d*g:=by rw[←Nat.mul_succ];exact Nat.mul_le_mul_left d h
  have l:d*(2*g)=2*(d*g):=by rw[Nat.mul_left_comm]
  rw[l]
  rw[if_neg (by omega),if_neg (by omega)]
 ·subst h
  have l:d*(2*a)=2*(d*a):=by rw[Nat.mul_left_comm]
  rw[l]
  by_cases D:r=0
  ·have:=f.2 D
   by_cases F:b%2=1
   ·rw[if_pos (Or.inr ⟨by omega,F⟩),if_pos (Or.inr ⟨by omega,F⟩)]
   ·rw[if_neg (by omega),if_neg (by omega)]
  ·have:t≠0:=fun e=>D (f.1 e)
   rw[if_pos (Or.inl (by omega)),if_pos (Or.inl (by omega))]
 ·have:d*g+d≤d*a:=by rw[←Nat.mul_succ];exact Nat.mul_le_mul_left d h
  have l:d*(2*g)=2*(d*g):=by rw[Nat.mul_left_comm]
  rw[l]
  rw[if_pos (Or.inl (by omega)),if_pos (Or.inl (by omega))]
theorem FX(N d i:Nat)(f:0<d)(Q:0<N/d):bl (cq (N*2^i) d)=bl (cq N d)+i:=by
 have z:0<2^i:=Nat.two_pow_pos _
 have D:cq N d≠0:=by unfold cq;omega
 obtain⟨Y,u,l⟩:=aU (cq N d) D
 have U:2≤cq N d:=by unfold cq;omega
 have F:2≤bl (cq N d):=by
  rcases Nat.lt_or_ge (bl (cq N d)) 2 with h|h
  ·have:bl (cq N d)=1:=by omega
   rw[this]at l;omega
  ·exact h
 obtain⟨c,O⟩:∃c,bl (cq N d)=c+2:=⟨bl (cq N d)-2,by omega⟩
 rw[O]at u l⊢
 --of whole quotients:2^c≤N/d<2^(c+1)
 have G:2^(c+1)≤N/d*2:=by
  rw[show c+2-1=c+1 by omega,Nat.pow_succ]at u
  unfold cq at u
  rw[Nat.pow_succ]
  have H:(if N%d=0 then 0 else 1)≤1:=by split<;>omega
  omega
 have J:N/d<2^(c+1):=by
  rw[Nat.pow_succ]at l
  unfold cq at l
  omega
 have K:2^c≤N/d:=by rw[Nat.pow_succ]at G;omega
 have L:2^c*d≤N:=(Nat.le_div_iff_mul_le f).1 K
 have M:N<2^(c+1)*d:=(Nat.div_lt_iff_lt_mul f).1 J
 have V:2^(c+i)≤N*2^i/d:=(Nat.le_div_iff_mul_le f).2 (by
  rw[Nat.pow_add,Nat.mul_right_comm];exact Nat.mul_le_mul_right _ L)
 have X:N*2^i/d<2^(c+1+i):=(Nat.div_lt_iff_lt_mul f).2 (by
  rw[Nat.pow_add,Nat.mul_right_comm];exact(Nat.mul_lt_mul_right z).2 M)
 refine jV (by omega) ?_ ?_
 ·rw[show c+2+i-1=c+i+1 by omega,Nat.pow_succ]
  unfold cq
  omega
 ·rw[show c+2+i=c+1+i+1 by omega,Nat.pow_succ]
  unfold cq
  have H:(if N*2^i%d=0 then 0 else 1)≤1:=by split<;>omega
  omega
theorem Dz{N d:Nat}(u:9007199254740992≤N/d):55≤bl (cq N d):=by
 have f:cq N d≠0:=by unfold cq;omega
 obtain⟨z,D,l⟩:=aU (cq N d) f
 have h:2^54≤cq N d:=by
  have:(2:Nat)^54=2*9007199254740992:=by decide
  rw[this];unfold cq;omega
 have:=cf (Nat.lt_of_le_of_lt h l)
 omega
theorem kh(N d i:Nat)(E:Int)(l:0<d)(F:9007199254740992≤N/d):
  bf (cq (N*2^i) d) (E-i)=bf (cq N d) E∧ar (cq (N*2^i) d) (E-i)=ar (cq N d) E∧(bl (cq (N*2^i) d):Int)+(E-i)=(bl (cq N d):Int)+E∧E+2≤ar (cq N d) E:=by
 have u:=FX N d i l (by omega)
 have G:=Dz F
 have H:cq N d≠0:=by unfold cq;omega
 have z:cq (N*2^i) d≠0:=fun h=>by
  rw[h]at u
  have:bl 0=0:=rfl
  omega
 have D:ar (cq (N*2^i) d) (E-i)=ar (cq N d) E:=by unfold ar;rw[u];omega
 have f:(bl (cq (N*2^i) d):Int)+(E-i)=(bl (cq N d):Int)+E:=by rw[u];omega
 have J:E+2≤ar (cq N d) E:=by have:=(bU (cq N d) E).2.1;omega
 refine⟨?_,D,f,J⟩
 have K:cQ (cq (N*2^i) d) (E-i)=cQ (cq N d) E:=by
  unfold cQ
  rw[D]
  obtain⟨k,L⟩:∃k:Nat,ar (cq N d) E=E+k+1∧1≤k:=⟨(ar (cq N d) E-E-1).toNat,by omega,by omega⟩
  rw[show E-i-ar (cq N d) E= -((k+i+1:Nat):Int) by omega,show E-ar (cq N d) E= -((k+1:Nat):Int) by omega]
  rw[cW _ _ (by omega),cW _ _ (by omega),vG _ _ _ l (by omega),vG _ _ _ l (by omega)]
  rw[Nat.pow_add,←Nat.mul_assoc]
  exact uo _ _ _
 unfold bf
 rw[if_neg H,if_neg z,f,K,D]
theorem sr(N d i:Nat)(E:Int)(hd:d%2=1)(J:9007199254740992≤N/d):
  bj (oM (cq (N*2^i) d:Nat)).natAbs (oE (cq (N*2^i) d:Nat) (E-i))=bj (oM (cq N d:Nat)).natAbs (oE (cq N d:Nat) E):=by
 have f:0<d:=by omega
 obtain⟨X,Y,Z,s4⟩:=kh N d i E f J
 by_cases l:N%d=0
 ·have K:N=N/d*d:=by have:=Nat.div_add_mod N d;rw[l,Nat.add_zero,Nat.mul_comm]at this;exact this.symm
  have z:N*2^i%d=0:=by rw[Nat.mul_mod,l];simp
  have L:N*2^i/d=N/d*2^i:=by
   conv=>lhs;rw[K,Nat.mul_right_comm]
   exact Nat.mul_div_cancel _ f
  have e:cq (N*2^i) d=cq N d*2^i:=by
   unfold cq;rw[if_pos l,if_pos z,L];rw[Nat.add_zero,Nat.add_zero,Nat.mul_assoc]
  have M:((cq (N*2^i) d:Nat):Int)=((cq N d:Nat):Int)*2^i:=by rw[e,Int.natCast_mul,Int.natCast_pow];rfl
  have:=kd ((cq N d:Nat):Int) i (E-i)
  rw[M,this.1,this.2,show E-(i:Int)+i=E by omega]
 ·have z:N*2^i%d≠0:=fun h=>l (by
   have D:d∣N*2^i:=Nat.dvd_of_mod_eq_zero h
   have O:Nat.Coprime d (2^i):=by
    apply Nat.Coprime.pow_right
    unfold Nat.Coprime
    have F:Nat.gcd d 2∣2:=Nat.gcd_dvd_right d 2
    have Q:Nat.gcd d 2∣d:=Nat.gcd_dvd_left d 2
    have h6:Nat.gcd d 2≤2:=Nat.le_of_dvd (by decide) F
    have h7:Nat.gcd d 2≠0:=fun e=>by rw[e]at F;exact absurd (Nat.eq_zero_of_zero_dvd F) (by decide)
    have h8:Nat.gcd d 2≠2:=fun e=>by rw[e]at Q;omega
    omega
   exact Nat.mod_eq_zero_of_dvd (O.dvd_of_dvd_mul_right D))
  have G:((cq N d:Nat):Int)%2=1:=by unfold cq;rw[if_neg l];omega
  have H:((cq (N*2^i) d:Nat):Int)%2=1:=by unfold cq;rw[if_neg z];omega
  have z1:∀(v:Nat) (e:Int),(v:Int)%2=1→oM (v:Int)=v∧oE (v:Int) e=e:=fun v e h=>by
   have u:(v:Int)≠0:=by omega
   have a:=(fq (v:Int) u).unique (m':=(v:Int)) (k':=0) ⟨by simp,h⟩
   exact⟨a.1,by rw[dz _ _ u,a.2];simp⟩
  rw[(z1 _ (E-i) H).1,(z1 _ (E-i) H).2,(z1 _ E G).1,(z1 _ E G).2,Int.natAbs_natCast,Int.natAbs_natCast]
  have U:cq N d≠0:=by omega
  have V:cq (N*2^i) d≠0:=by omega
  unfold bj
  rw[if_neg U,if_neg V,Z,Y,X,if_neg (show¬ar (cq N d) E≤E-i by omega),if_neg (show¬ar (cq N d) E≤E by omega)]
theorem vH(n d p q:Nat)(c:Int)(h:0<d)(u:9007199254740992≤n*2^p/d)(z:9007199254740992≤n*2^q/d):
  bf (cq (n*2^p) d) (c-p)=bf (cq (n*2^q) d) (c-q):=by
 have l:=(kh (n*2^p) d q (c-p) h u).1
 have f:=(kh (n*2^q) d p (c-q) h z).1
 rw[Nat.mul_assoc,←Nat.pow_add]at l f
 rw[Nat.add_comm q p,show c-(q:Int)-p=c-p-q by omega]at f
 rw[←l,←f]
theorem qz(n d p q:Nat)(c:Int)(h:d%2=1)(u:9007199254740992≤n*2^p/d)(z:9007199254740992≤n*2^q/d):
  bj (oM (cq (n*2^p) d:Nat)).natAbs (oE (cq (n*2^p) d:Nat) (c-p))=bj (oM (cq (n*2^q) d:Nat)).natAbs (oE (cq (n*2^q) d:Nat) (c-q)):=by
 have l:=sr (n*2^p) d q (c-p) h u
 have f:=sr (n*2^q) d p (c-q) h z
 rw[Nat.mul_assoc,←Nat.pow_add]at l f
 rw[Nat.add_comm q p,show c-(q:Int)-p=c-p-q by omega]at f
 rw[←l,←f]
theorem nC(N d c:Nat):cq (N*2^c) (d*2^c)=cq N d:=by
 have f:0<2^c:=Nat.two_pow_pos _
 unfold cq
 rw[Nat.mul_div_mul_right _ _ f,Nat.mul_mod_mul_right]
 have:N%d*2^c=0↔N%d=0:=by
  constructor
  ·intro h;rcases Nat.mul_eq_zero.1 h with h|h<;>omega
  ·intro h;rw[h,Nat.zero_mul]
 simp only[this]
end Go.Proofs.YtdhmglmccafbnaaGreatDoor
