/- Part 20 of the texts. -/
import Derived.Test.YtmpkkhackbpflaaGreatDoorPartg19
namespace Go.Proofs.YtmpkkhackbpflaaGreatDoor
open Go.RowKit
theorem JU(b:Nat):(fM b).natAbs=fA b:=by unfold fM sg;split<;>simp
theorem JV(b:Nat)(d:ah b=true):fP b<2047:=by
 have:=rD b
 unfold ah at d
 simp at d
 omega
theorem Du(b:Nat)(F:ah b=true):cC (fA b) (fE b)=b%9223372036854775808∧aB (fA b) (fE b)=fE b∧(bl (fA b):Int)+fE b≤1024:=by
 have J:=JV b F
 have G:b%9223372036854775808=fF b+fP b*4503599627370496:=by unfold fF fP;omega
 have H:=ux b
 rw[G]
 by_cases h:fP b=0
 ·have t:fA b=fF b:=by unfold fA;rw[if_pos h]
  have z:fE b= -1074:=by unfold fE;rw[if_pos h]
  rw[t,z,h]
  generalize fF b=f at*
  by_cases D:f=0
  ·subst D
   exact⟨by simp[cC],by decide,by decide⟩
  ·obtain⟨L,M,N⟩:=bQ f D
   have d:bl f≤52:=by
    have I:(2:Nat)^(bl f-1)<2^52:=by rw[Je];omega
    have:=dh I
    omega
   have l:aB f (-1074)= -1074:=by unfold aB;omega
   refine⟨?_,l,by omega⟩
   rw[cY f _ D (by omega)]
   unfold dY
   rw[l]
   have:=mc f 0
   simp at this
   simp[this]
 ·have t:fA b=fF b+4503599627370496:=by unfold fA;rw[if_neg h]
  have z:fE b=(fP b:Int)-1075:=by unfold fE;rw[if_neg h]
  rw[t,z]
  generalize fF b=f at*
  generalize fP b=p at*
  have d:bl (f+4503599627370496)=53:=oc (by decide) (by show 2^52≤_;rw[Je];omega) (by rw[Df];omega)
  have l:aB (f+4503599627370496) ((p:Int)-1075)=(p:Int)-1075:=by unfold aB;rw[d];omega
  refine⟨?_,l,by rw[d];omega⟩
  rw[cY _ _ (by omega) (by rw[d];omega)]
  unfold dY
  rw[l]
  have:=mc (f+4503599627370496) 0
  simp at this
  rw[show(p:Int)-1075-((p:Int)-1075)=0 by omega,this]
  omega
theorem Dv(z:Int)(h:z≠0):z.natAbs=(oM z).natAbs*2^tz z.natAbs:=by
 have l:=(gW z h).1
 have d:=congrArg Int.natAbs l
 rw[Int.natAbs_mul,Int.natAbs_pow]at d
 exact d
theorem km(z:Int):decide (oM z<0)=decide (z<0):=by
 have h:=Gx z
 unfold sP at h
 by_cases l:oM z<0
 ·rw[if_pos l]at h
  by_cases d:z<0
  ·rw[decide_eq_true l,decide_eq_true d]
  ·rw[if_neg d]at h
   split at h<;>omega
 ·rw[if_neg l]at h
  by_cases d:z<0
  ·rw[if_pos d]at h
   split at h<;>omega
  ·rw[decide_eq_false l,decide_eq_false d]
theorem jr(z e:Int):cC (oM z).natAbs (oE z e)=cC z.natAbs e∧(z≠0→aB (oM z).natAbs (oE z e)=aB z.natAbs e∧(bl (oM z).natAbs:Int)+oE z e=(bl z.natAbs:Int)+e):=by
 by_cases h:z=0
 ·subst h
  refine⟨by rw[de];simp[cC],fun h=>absurd rfl h⟩
 ·have t:=Dv z h
  have d:(oM z).natAbs≠0:=by have:=(iB z h).1;omega
  rw[d9 z e h]
  generalize tz z.natAbs=k at*
  rw[t,nC]
  refine⟨rfl,fun _=>?_⟩
  have l:=l9 (oM z).natAbs k d
  refine⟨?_,by rw[l];omega⟩
  unfold aB
  rw[l]
  congr 1
  omega
end Go.Proofs.YtmpkkhackbpflaaGreatDoor
namespace Go.Proofs.YtmpkkhackbpflaaGreatDoor
theorem js(n:Bool)(s:Nat)(h:s<9223372036854775808):fS (gc n s)=n:=by
 unfold fS
 cases n
 ·rw[cn];exact decide_eq_false (by omega)
 ·rw[fI];exact decide_eq_true (by omega)
theorem JW(n:Bool)(s:Nat)(h:s<9223372036854775808):fP (gc n s)=s/4503599627370496:=by
 unfold fP
 cases n
 ·rw[cn];omega
 ·rw[fI];omega
theorem JX(n:Bool)(s:Nat)(_h:s<9223372036854775808):fF (gc n s)=s%4503599627370496:=by
 unfold fF
 cases n
 ·rw[cn]
 ·rw[fI];omega
theorem JY(n:Bool)(s:Nat)(h:s<9218868437227405312):∃j:Nat,fE (gc n s)= -1074+(j:Int)∧fM (gc n s)*2^j=sg n (rv s):=by
 have l:=JW n s (by omega)
 have t:=JX n s (by omega)
 have z:=js n s (by omega)
 unfold fM fE fA rv
 rw[l,t,z]
 by_cases d:s<4503599627370496
 ·rw[if_pos (by omega),if_pos (by omega),if_pos d]
  refine⟨0,by simp,?_⟩
  rw[Nat.mod_eq_of_lt d]
  simp
 ·rw[if_neg (by omega),if_neg (by omega),if_neg d]
  refine⟨s/4503599627370496-1,by omega,?_⟩
  rw[Nat.add_comm 4503599627370496]
  generalize s%4503599627370496+4503599627370496=m
  generalize s/4503599627370496-1=j
  unfold sg
  cases n
  ·simp
  ·simp[Int.neg_mul]
open Go.RowKit
def pv(n:Bool)(r:Nat):Int:=if n=true then-(rv r:Int)else(rv r:Int)
theorem JZ:Ieee.double.signWeight=9223372036854775808:=by decide
theorem GC:Ieee.double.binade=4503599627370496:=by decide
theorem GD:Ieee.double.infRung=9218868437227405312:=by decide
theorem J0:Ieee.double.leastPlace= -1074:=by decide
theorem A2(n:Bool)(r:Nat)(h:r<9223372036854775808):(gc n r/9223372036854775808%2==1)=n∧gc n r%9223372036854775808=r:=by
 cases n
 ·rw[cn];exact⟨by simp;omega,by omega⟩
 ·rw[fI];exact⟨by simp;omega,by omega⟩
theorem Jh{r s:Nat}(h:r<s):rv r<rv s:=Nat.lt_of_lt_of_le (sI r) (jl h)
def A3(z l:Int):Int:=pv (decide (z<0)) (cC z.natAbs l)
theorem uW{z y l:Int}(h:z≤y):A3 z l≤A3 y l:=by
 unfold A3 pv
 by_cases d:z<0
 ·rw[decide_eq_true d,if_pos rfl]
  by_cases t:y<0
  ·rw[decide_eq_true t,if_pos rfl]
   have:=jl (me l (show y.natAbs≤z.natAbs by omega))
   omega
  ·rw[decide_eq_false t,if_neg (by decide)]
   omega
 ·rw[decide_eq_false d,decide_eq_false (show¬y<0 by omega),if_neg (by decide),if_neg (by decide)]
  have:=jl (me l (show z.natAbs≤y.natAbs by omega))
  omega
def fR(b:Nat):Nat:=b%9223372036854775808
def fZ(b:Nat):Int:=pv (fS b) (fR b)
theorem Ji(b:Nat)(h:b<18446744073709551616):gc (fS b) (fR b)=b:=by
 unfold fS fR
 by_cases c:9223372036854775808≤b
 ·rw[decide_eq_true c,fI];omega
 ·rw[decide_eq_false c,cn];omega
theorem jG(b:Nat):fR b<9223372036854775808:=by unfold fR;omega
theorem jt(b:Nat)(d:ah b=true):fR b<9218868437227405312:=by
 have h:=of_decide_eq_true d
 unfold fP at h
 unfold fR
 omega
theorem ME(n:Bool)(s:Nat):sg n (rv s)=pv n s:=rfl
theorem fJ(b:Nat)(h:b<18446744073709551616)(z:ah b=true):oM (fZ b)=fD b∧oE (fZ b) (-1074)=fX b:=by
 obtain⟨j,l,t⟩:=JY (fS b) (fR b) (jt b z)
 rw[Ji b h]at l t
 have d:=mp (fM b) j (-1074)
 rw[t,ME,←l]at d
 exact d
theorem J5:rv 9218868437227405312=2^2098:=by decide+kernel
theorem J6(n:Bool)(r:Nat):(pv n r).natAbs=rv r:=by unfold pv;split<;>omega
theorem gR(b:Nat):(fZ b).natAbs=rv (fR b):=J6 _ _
theorem jR(b:Nat)(d:ah b=true):(fZ b).natAbs<2^2098:=by
 rw[gR,←J5];exact Jh (jt b d)
def aZ(a b:Nat):Int:=fZ a+fZ b
def aV(a b:Nat):Nat:=
 if fK a=4∨fK b=4 then 9221120237041090560
 else if fK a=3 then(if fK b=3∧a≠b then 9221120237041090560 else a)
 else if fK b=3 then b
 else if aZ a b=0 then(if(fS a&&fS b)=true then 9223372036854775808 else 0)
 else gc (decide (aZ a b<0)) (cC (aZ a b).natAbs (-1074))
def aF(a b:Nat):Int:=
 if fK a=4∨fK b=4 then 0
 else if fK a=3 then(if fK b=3∧a≠b then 16 else 0)
 else if fK b=3 then 0
 else if aZ a b=0 then 0
 else bX (oM (aZ a b)).natAbs (oE (aZ a b) (-1074))
theorem Jj:(2:Nat)^2098+2^2098=2^2099:=by decide+kernel
theorem sR(b:Nat)(d:ah b=true):qQ (-1074) 2099 (fZ b):=by
 have l:=jR b d
 have h:=Jj
 have t:=Nat.two_pow_pos 2098
 generalize (2:Nat)^2098=P at*
 exact⟨by rw[←h];omega,by decide,by decide,by decide⟩
theorem J7(a b:Nat)(d:ah a=true)(h:ah b=true):qQ (-1074) 2099 (fZ a+fZ b):=by
 have t:=jR a d
 have z:=jR b h
 have l:=Jj
 generalize (2:Nat)^2098=P at*
 exact⟨by rw[←l];omega,by decide,by decide,by decide⟩
theorem jS(n:Bool)(r:Nat)(h:r<9223372036854775808):gc n r<18446744073709551616:=by unfold gc;split<;>omega
theorem jT(a b:Nat)(d:a<18446744073709551616)(h:b<18446744073709551616):aV a b<18446744073709551616:=by
 unfold aV
 split
 ·omega
 ·split
  ·split<;>omega
  ·split
   ·omega
   ·split
    ·split<;>omega
    ·have:=di (aZ a b).natAbs (-1074)
     exact jS _ _ (by omega)
theorem zg(a b:Nat)(d:fK a≠3)(t:fK a≠4)(l:fK b≠3)(z:fK b≠4):
  aV a b=(if aZ a b=0 then(if(fS a&&fS b)=true then 9223372036854775808 else 0)else gc (decide (aZ a b<0)) (cC (aZ a b).natAbs (-1074)))∧aF a b=(if aZ a b=0 then 0 else bX (oM (aZ a b)).natAbs (oE (aZ a b) (-1074))):=by
 have h:¬(fK a=4∨fK b=4):=by omega
 unfold aV aF
 simp only[if_neg h,if_neg d,if_neg l,and_self]
theorem uX(E:Int):cC 0 E=0:=by unfold cC;exact if_pos rfl
theorem uY(n:Bool)(r:Nat):Ieee.double.word n r=gc n r:=by
 unfold Ieee.Format.word;rw[JZ];unfold gc
 cases n
 ·simp
 ·simp[Nat.add_comm]
theorem uZ(n:Bool)(v k:Nat)(h:v≠0):Ieee.Toward.even.cut n v k=dq v k:=by
 have G:=bQ v h
 have l:bl v=v.log2+1:=by unfold bl;rw[if_neg h]
 rw[l]at G
 unfold Ieee.Toward.cut
 simp only[Nat.one_shiftLeft]
 by_cases c:k≤v.log2+2
 ·rw[Nat.min_eq_left c]
  unfold dq
  congr 1
  generalize 2^k=g
  by_cases t:g<2*(v%g)
  ·simp[t]
  ·by_cases d:g=2*(v%g)∧v/g%2=1
   ·rw[if_pos (Or.inr d)]
    rw[decide_eq_false t,Bool.false_or,beq_iff_eq.2 d.1,beq_iff_eq.2 d.2];rfl
   ·rw[if_neg (by rintro(h|h)<;>contradiction),decide_eq_false t,Bool.false_or]
    have:(g==2*(v%g)&&v/g%2==1)=false:=by
     rw[Bool.eq_false_iff]
     intro F
     rw[Bool.and_eq_true,beq_iff_eq,beq_iff_eq]at F
     exact d F
    rw[this];rfl
 ·rw[Nat.min_eq_right (by omega)]
  have H:(2:Nat)^(v.log2+2)=2^(v.log2+1)*2:=Nat.pow_succ 2 _
  have I:(2:Nat)^(v.log2+2)≤2^k:=gX (by omega)
  unfold dq
  generalize (2:Nat)^(v.log2+2)=g at*
  generalize (2:Nat)^k=q at*
  have z:v<g:=by omega
  have D:v<q:=by omega
  rw[Nat.div_eq_of_lt z,Nat.mod_eq_of_lt z,Nat.div_eq_of_lt D,Nat.mod_eq_of_lt D,if_neg (by omega),decide_eq_false (by omega)]
  have:(g==2*v)=false:=by simp;omega
  rw[this];rfl
theorem A4(v:Nat):dq v 0=v:=by have:=jk v 0;simpa using this
theorem J8(m k r:Nat)(d:r=m+k*4503599627370496)(h:r≤9218868437227405312):min (k*4503599627370496+m) 9218868437227405312=r:=by omega
theorem GE(m k:Nat)(d:4503599627370496≤m)(h:2046≤k):min (k*4503599627370496+m) 9218868437227405312=9218868437227405312:=by omega
theorem Dw(n:Bool)(v:Nat)(E:Int)(h:v≠0):gc n (min ((aB v E- -1074).toNat*4503599627370496+dY v E) 9218868437227405312)=gc n (cC v E):=by
 have d:=(cE v E h).2.1
 have D:=(cD v E).2.1
 have l:=di v E
 rw[show aB v E- -1074=aB v E+1074 by omega]
 by_cases t:(bl v:Int)+E≤1024
 ·rw[J8 _ _ _ (cY v E h t) l]
 ·have z:cC v E=9218868437227405312:=by unfold cC;rw[if_neg h,if_pos (by omega)]
  rw[z,GE _ _ (d (by omega)) (by omega)]
theorem u4(n:Bool)(v:Nat)(E:Int):Ieee.double.nearest n v E=gc n (cC v E):=by
 unfold Ieee.Format.nearest
 by_cases h:v=0
 ·rw[if_pos h,uY];unfold cC;rw[if_pos h]
 ·rw[if_neg h]
  simp only[J0,GC,GD,uY]
  have d:(Ieee.double.fractionBits:Int)=52:=rfl
  rw[d]
  have l:bl v=v.log2+1:=by unfold bl;rw[if_neg h]
  have t:max (E+(v.log2:Int)-52) (-1074)=aB v E:=by unfold aB;rw[l];omega
  rw[t]
  have z:Ieee.Toward.even.cut n (v <<< (E-aB v E).toNat) (aB v E-E).toNat=dY v E:=by
   unfold dY mS
   split
   ·rename_i D
    rw[show(aB v E-E).toNat=0 by omega,Nat.shiftLeft_eq]
    rw[uZ _ _ _ (Nat.mul_ne_zero h (Nat.pos_iff_ne_zero.1 (Nat.two_pow_pos _))),A4]
   ·rename_i D
    rw[show(E-aB v E).toNat=0 by omega,Nat.shiftLeft_zero,uZ _ _ _ h,show(-(E-aB v E)).toNat=(aB v E-E).toNat by omega]
  rw[z]
  exact Dw n v E h
theorem cF(b:Nat):(fK b=4↔9218868437227405312<fR b)∧(fK b=3↔fR b=9218868437227405312)∧(ah b=true↔fR b<9218868437227405312):=by
 have h:=jG b
 have hF:fF b=fR b%4503599627370496:=by unfold fF fR;omega
 have d:fP b=fR b/4503599627370496:=rfl
 unfold fK ah
 rw[hF,d]
 generalize fR b=r at*
 refine⟨?_,?_,?_⟩
 ·split
  ·split<;>constructor<;>intro _<;>omega
  ·split
   ·split<;>constructor<;>intro _<;>omega
   ·constructor<;>intro _<;>omega
 ·split
  ·split<;>constructor<;>intro _<;>omega
  ·split
   ·split<;>constructor<;>intro _<;>omega
   ·constructor<;>intro _<;>omega
 ·rw[decide_eq_true_iff];omega
theorem gt(b:Nat)(d:fK b≠3)(l:fK b≠4):ah b=true:=by
 rcases iS b with⟨_,h|h⟩|⟨h,_⟩
 ·exact absurd h d
 ·exact absurd h l
 ·exact h
theorem zh(b:Nat)(h:b<18446744073709551616):fN b=gc (!fS b) (fR b):=by
 unfold fN fS fR
 by_cases c:9223372036854775808≤b
 ·rw[if_pos c,decide_eq_true c];show _=gc false _;rw[cn];omega
 ·rw[if_neg c,decide_eq_false c];show _=gc true _;rw[fI];omega
theorem MF(b:Nat)(h:b<18446744073709551616):fS (fN b)= !fS b:=by rw[zh b h,js _ _ (jG b)]
theorem Dx(b:Nat)(h:b<18446744073709551616):fR (fN b)=fR b:=by
 have:=jG b
 rw[zh b h]
 unfold fR at*
 cases (!fS b)
 ·rw[cn];omega
 ·rw[fI];omega
end Go.Proofs.YtmpkkhackbpflaaGreatDoor
