/- Part 18 of the texts. -/
import Derived.Test.YtlnphkioddknfaaGreatDoorParty17
namespace Go.Proofs.YtlnphkioddknfaaGreatDoor
open Go.RowKit
def pv(n:Bool)(r:Nat):Int:=if n=true then-(rv r:Int)else(rv r:Int)
theorem qE:Ieee.double.signWeight=9223372036854775808:=by decide
theorem mC:Ieee.double.binade=4503599627370496:=by decide
theorem kD:Ieee.double.infRung=9218868437227405312:=by decide
theorem qG:Ieee.double.leastPlace= -1074:=by decide
theorem ii(n:Bool)(r:Nat)(h:r<9223372036854775808):(cr n r/9223372036854775808%2==1)=n∧cr n r%9223372036854775808=r:=by
 cases n
 ·rw[a8];exact⟨by simp;omega,by omega⟩
 ·rw[cI];exact⟨by simp;omega,by omega⟩
theorem ji(n:Bool)(r:Nat)(h:r≤9218868437227405312):
  (r<9218868437227405312∧∃(m:Nat) (k:Nat),Ieee.double.read (cr n r)=.number n m (-1074+(k:Int))∧m*2^k=rv r)∨(r=9218868437227405312∧Ieee.double.read (cr n r)=.infinity n):=by
 obtain⟨l,t⟩:=ii n r (by omega)
 unfold Ieee.Format.read
 rw[qE,mC,kD,qG]
 simp only[l,t]
 by_cases d:r<4503599627370496
 ·left
  refine⟨by omega,r,0,?_,?_⟩
  ·rw[if_pos d];rfl
  ·unfold rv;rw[if_pos d];simp
 ·by_cases f:r<9218868437227405312
  ·left
   refine⟨f,_,_,by rw[if_neg d,if_pos f],?_⟩
   unfold rv;rw[if_neg d]
  ·right
   have:r=9218868437227405312:=by omega
   exact⟨this,by rw[if_neg d,if_neg f,if_pos this]⟩
theorem jH(n:Bool)(m k u:Nat)(r:Nat)(h:m*2^k=rv r)(l:u≤k):Ieee.signed n m u*2^(k-u)=pv n r:=by
 have f:m <<< u*2^(k-u)=rv r:=by
  rw[Nat.shiftLeft_eq,Nat.mul_assoc,←Nat.pow_add,show u+(k-u)=k by omega];exact h
 have d:((m <<< u:Nat):Int)*2^(k-u)=(rv r:Int):=by
  rw[←f,Int.natCast_mul,Int.natCast_pow];rfl
 unfold Ieee.signed pv
 cases n
 ·simp only[Bool.false_eq_true,if_false];exact d
 ·simp only[if_true];rw[Int.neg_mul,d]
theorem oW(a b:Int)(k:Nat):compare (a*2^k) (b*2^k)=compare a b:=by
 have f:(0:Int)<2^k:=Int.pow_pos (by decide)
 rcases Int.lt_trichotomy a b with h|h|h
 ·have d:a*2^k<b*2^k:=Int.mul_lt_mul_of_pos_right h f
  rw[Int.compare_eq_lt.2 h,Int.compare_eq_lt.2 d]
 ·subst h;simp
 ·have d:b*2^k<a*2^k:=Int.mul_lt_mul_of_pos_right h f
  rw[Int.compare_eq_gt.2 h,Int.compare_eq_gt.2 d]
theorem yp(n m:Bool)(r s a b k j:Nat)(h:a*2^k=rv r)(l:b*2^j=rv s):
  Ieee.Datum.order (.number n a (-1074+(k:Int))) (.number m b (-1074+(j:Int)))=some (compare (pv n r) (pv m s)):=by
 unfold Ieee.Datum.order
 simp only
 congr 1
 generalize z:min k j=c
 have t:(-1074+(k:Int)-min (-1074+(k:Int)) (-1074+(j:Int))).toNat=k-c:=by omega
 have y:(-1074+(j:Int)-min (-1074+(k:Int)) (-1074+(j:Int))).toNat=j-c:=by omega
 rw[t,y,←oW _ _ c]
 have d:=jH n a k (k-c) r h (by omega)
 have f:=jH m b j (j-c) s l (by omega)
 rw[show k-(k-c)=c by omega]at d
 rw[show j-(j-c)=c by omega]at f
 rw[d,f]
theorem sD{r s:Nat}(h:r<s):rv r<rv s:=Nat.lt_of_lt_of_le (qn r) (qp h)
theorem pE(n m:Bool)(r s:Nat)(G:r≤9218868437227405312)(z:s≤9218868437227405312):Ieee.double.order (cr n r) (cr m s)=some (compare (pv n r) (pv m s)):=by
 unfold Ieee.Format.order
 rcases ji n r G with⟨D,a,k,h,H⟩|⟨D,h⟩
 ·rcases ji m s z with⟨l,b,j,d,F⟩|⟨l,d⟩
  ·rw[h,d];exact yp n m r s a b k j H F
  ·rw[h,d]
   have t:rv r<rv s:=sD (by omega)
   have f:Ieee.Datum.order (.number n a (-1074+(k:Int))) (.infinity m)=some (if m then .gt else .lt):=rfl
   rw[f]
   congr 1
   unfold pv
   cases m<;>cases n<;>simp only[Bool.false_eq_true,if_true,if_false]<;>symm<;>first|exact Int.compare_eq_lt.2 (by omega)|exact Int.compare_eq_gt.2 (by omega)
 ·rcases ji m s z with⟨l,b,j,d,F⟩|⟨l,d⟩
  ·rw[h,d]
   have t:rv s<rv r:=sD (by omega)
   have f:Ieee.Datum.order (.infinity n) (.number m b (-1074+(j:Int)))=some (if n then .lt else .gt):=rfl
   rw[f]
   congr 1
   unfold pv
   cases m<;>cases n<;>simp only[Bool.false_eq_true,if_true,if_false]<;>symm<;>first|exact Int.compare_eq_lt.2 (by omega)|exact Int.compare_eq_gt.2 (by omega)
  ·rw[h,d]
   have y:rv r=rv s:=by rw[D,l]
   have A:0<rv s:=by have:=sD (r:=0) (s:=s) (by omega);rw[fO]at this;exact this
   have f:Ieee.Datum.order (.infinity n) (.infinity m)=some (compare m.toNat n.toNat):=rfl
   rw[f]
   congr 1
   unfold pv
   rw[y]
   cases n<;>cases m
   ·simp
   ·rw[if_neg (by decide),if_pos rfl]
    rw[Int.compare_eq_gt.2 (by omega)]
    decide
   ·rw[if_pos rfl,if_neg (by decide)]
    rw[Int.compare_eq_lt.2 (by omega)]
    decide
   ·simp
def JN(z l:Int):Int:=pv (decide (z<0)) (bX z.natAbs l)
theorem ik(z lo:Int)(k:Nat)(h:z≠0→lo+k≤oE z lo):up (oM z) (oE z lo) (lo+k)*2^k=z:=by
 by_cases d:z=0
 ·subst d;rw[cw,fU];simp
 ·have f:=h d
  conv=>rhs;rw[←nk z lo d]
  unfold up
  rw[Int.mul_assoc,←Int.pow_add]
  congr 2
  omega
theorem yq{lo:Int}{W:Nat}{z1 z2:Int}(m:l9 lo W z1)(F:l9 lo W z2)(G:¬(z1=0∧z2=0)):
  ∃k:Nat,bO (oM z1) (oE z1 lo) (oM z2) (oE z2 lo)=lo+k∧up (oM z1) (oE z1 lo) (lo+k)*2^k=z1∧up (oM z2) (oE z2 lo) (lo+k)*2^k=z2∧oE z1 lo-(lo+k)≤16384∧oE z2 lo-(lo+k)≤16384:=by
 have K:=m.2.1
 have L:=m.2.2.1
 have M:=m.2.2.2
 have y:∀z,l9 lo W z→(z=0∧oM z=0∧oE z lo=0)∨(z≠0∧oM z≠0∧oE z lo=lo+(tz z.natAbs:Int)∧tz z.natAbs<W):=fun z H=>by
  by_cases e:z=0
  ·left;subst e;exact⟨rfl,cw,cQ _⟩
  ·right;exact⟨e,(gJ z e).1,dI z lo e,H.tzs e⟩
 rcases y z1 m with⟨A,t,D⟩|⟨A,t,D,N⟩
 ·rcases y z2 F with⟨d,f,l⟩|⟨d,f,l,I⟩
  ·exact absurd ⟨A,d⟩ G
  ·refine⟨tz z2.natAbs,?_,ik z1 lo _ (fun h=>absurd A h),ik z2 lo _ (fun _=>by omega),by omega,by omega⟩
   unfold bO;rw[if_pos t];exact l
 ·rcases y z2 F with⟨d,f,l⟩|⟨d,f,l,I⟩
  ·refine⟨tz z1.natAbs,?_,ik z1 lo _ (fun _=>by omega),ik z2 lo _ (fun h=>absurd d h),by omega,by omega⟩
   unfold bO;rw[if_neg t,if_pos f];exact D
  ·refine⟨min (tz z1.natAbs) (tz z2.natAbs),?_,ik z1 lo _ (fun _=>by omega),ik z2 lo _ (fun _=>by omega),by omega,by omega⟩
   rw[iL _ _ _ _ t f,D,l];omega
theorem uR(u v:Int)(k:Nat):bJ (u*2^k) (v*2^k)=bJ u v:=by
 rw[nh,nh,←Int.sub_mul,iM]
theorem I6{w:World}{v u:Value}{lo:Int}{W:Nat}{z1 z2:Int}(l:aG w v (oM z1) (oE z1 lo))(m:aG w u (oM z2) (oE z2 lo))(d:l9 lo W z1)(f:l9 lo W z2):
  Calls Tryz.prog 90 #[v,u] w fun r t=>r=.returned (.int .i64 (bJ z1 z2))∧Below w.heap.size w t:=by
 obtain⟨z,ao,D,A,rfl,F,X,G,Y,H⟩:=l.right d.right.2
 obtain⟨I,K,L,B,rfl,M,Z,N,b4,O⟩:=m.right f.right.2
 have:=qD z I ao K D L A B _ _ w F M (H.trans d.right.1) (O.trans f.right.1)
 rw[G,N]at this
 have y:kB (oM z1) (oE z1 lo) (oM z2) (oE z2 lo)=bJ z1 z2:=by
  by_cases h:z1=0∧z2=0
  ·obtain⟨rfl,rfl⟩:=h
   rw[cw,cQ];rfl
  ·obtain⟨k,Q,U,V,_,_⟩:=yq d f h
   unfold kB
   rw[Q,←uR _ _ k,U,V]
 rwa[y]at this
def fR(b:Nat):Nat:=b%9223372036854775808
def fZ(b:Nat):Int:=pv (fS b) (fR b)
theorem gj(b:Nat)(h:b<18446744073709551616):cr (fS b) (fR b)=b:=by
 unfold fS fR
 by_cases c:9223372036854775808≤b
 ·rw[decide_eq_true c,cI];omega
 ·rw[decide_eq_false c,a8];omega
theorem kE(b:Nat):fR b<9223372036854775808:=by unfold fR;omega
theorem np(b:Nat)(d:aC b=true):fR b<9218868437227405312:=by
 have f:=of_decide_eq_true d
 unfold fP at f
 unfold fR
 omega
theorem I7(n:Bool)(s:Nat):sg n (rv s)=pv n s:=rfl
theorem dJ(b:Nat)(h:b<18446744073709551616)(m:aC b=true):oM (fZ b)=fD b∧oE (fZ b) (-1074)=fX b:=by
 obtain⟨j,f,l⟩:=G3 (fS b) (fR b) (np b m)
 rw[gj b h]at f l
 have d:=kC (fM b) j (-1074)
 rw[l,I7,←f]at d
 exact d
theorem AO:rv 9218868437227405312=2^2098:=by decide+kernel
theorem G7(n:Bool)(r:Nat):(pv n r).natAbs=rv r:=by unfold pv;split<;>omega
theorem gU(b:Nat):(fZ b).natAbs=rv (fR b):=G7 _ _
theorem kF(b:Nat)(d:aC b=true):(fZ b).natAbs<2^2098:=by
 rw[gU,←AO];exact sD (np b d)
def aZ(a b:Nat):Int:=fZ a+fZ b
def aV(a b:Nat):Nat:=
 if fK a=4∨fK b=4 then 9221120237041090560
 else if fK a=3 then(if fK b=3∧a≠b then 9221120237041090560 else a)
 else if fK b=3 then b
 else if aZ a b=0 then(if(fS a&&fS b)=true then 9223372036854775808 else 0)
 else cr (decide (aZ a b<0)) (bX (aZ a b).natAbs (-1074))
def aF(a b:Nat):Int:=
 if fK a=4∨fK b=4 then 0
 else if fK a=3 then(if fK b=3∧a≠b then 16 else 0)
 else if fK b=3 then 0
 else if aZ a b=0 then 0
 else bM (oM (aZ a b)).natAbs (oE (aZ a b) (-1074))
theorem Gk:(2:Nat)^2098+2^2098=2^2099:=by decide+kernel
theorem lm(b:Nat)(d:aC b=true):l9 (-1074) 2099 (fZ b):=by
 have h:=kF b d
 have f:=Gk
 have l:=Nat.two_pow_pos 2098
 generalize (2:Nat)^2098=P at*
 exact⟨by rw[←f];omega,by decide,by decide,by decide⟩
theorem G9(a b:Nat)(d:aC a=true)(f:aC b=true):l9 (-1074) 2099 (fZ a+fZ b):=by
 have l:=kF a d
 have m:=kF b f
 have h:=Gk
 generalize (2:Nat)^2098=P at*
 exact⟨by rw[←h];omega,by decide,by decide,by decide⟩
theorem ey(n:Bool)(r:Nat)(h:r<9223372036854775808):cr n r<18446744073709551616:=by unfold cr;split<;>omega
theorem kG(a b:Nat)(d:a<18446744073709551616)(f:b<18446744073709551616):aV a b<18446744073709551616:=by
 unfold aV
 split
 ·omega
 ·split
  ·split<;>omega
  ·split
   ·omega
   ·split
    ·split<;>omega
    ·have:=eM (aZ a b).natAbs (-1074)
     exact ey _ _ (by omega)
theorem wN(a b:Nat)(d:fK a≠3)(l:fK a≠4)(f:fK b≠3)(m:fK b≠4):
  aV a b=(if aZ a b=0 then(if(fS a&&fS b)=true then 9223372036854775808 else 0)else cr (decide (aZ a b<0)) (bX (aZ a b).natAbs (-1074)))∧aF a b=(if aZ a b=0 then 0 else bM (oM (aZ a b)).natAbs (oE (aZ a b) (-1074))):=by
 have h:¬(fK a=4∨fK b=4):=by omega
 unfold aV aF
 simp only[if_neg h,if_neg d,if_neg f,and_self]
theorem pF(E:Int):bX 0 E=0:=by unfold bX;exact if_pos rfl
theorem nr(n:Bool)(r:Nat):Ieee.double.word n r=cr n r:=by
 unfold Ieee.Format.word;rw[qE];unfold cr
 cases n
 ·simp
 ·simp[Nat.add_comm]
theorem sE(n:Bool)(v k:Nat)(h:v≠0):Ieee.Toward.even.cut n v k=fh v k:=by
 have z:=bK v h
 have f:bl v=v.log2+1:=by unfold bl;rw[if_neg h]
 rw[f]at z
 unfold Ieee.Toward.cut
 simp only[Nat.one_shiftLeft]
 by_cases c:k≤v.log2+2
 ·rw[Nat.min_eq_left c]
  unfold fh
  congr 1
  generalize 2^k=g
  by_cases l:g<2*(v%g)
  ·simp[l]
  ·by_cases d:g=2*(v%g)∧v/g%2=1
   ·rw[if_pos (Or.inr d)]
    rw[decide_eq_false l,Bool.false_or,beq_iff_eq.2 d.1,beq_iff_eq.2 d.2];rfl
   ·rw[if_neg (by rintro(h|h)<;>contradiction),decide_eq_false l,Bool.false_or]
    have:(g==2*(v%g)&&v/g%2==1)=false:=by
     rw[Bool.eq_false_iff]
     intro y
     rw[Bool.and_eq_true,beq_iff_eq,beq_iff_eq]at y
     exact d y
    rw[this];rfl
 ·rw[Nat.min_eq_right (by omega)]
  have A:(2:Nat)^(v.log2+2)=2^(v.log2+1)*2:=Nat.pow_succ 2 _
  have D:(2:Nat)^(v.log2+2)≤2^k:=e9 (by omega)
  unfold fh
  generalize (2:Nat)^(v.log2+2)=g at*
  generalize (2:Nat)^k=q at*
  have m:v<g:=by omega
  have t:v<q:=by omega
  rw[Nat.div_eq_of_lt m,Nat.mod_eq_of_lt m,Nat.div_eq_of_lt t,Nat.mod_eq_of_lt t,if_neg (by omega),decide_eq_false (by omega)]
  have:(g==2*v)=false:=by simp;omega
  rw[this];rfl
theorem yr(v:Nat):fh v 0=v:=by have:=iG v 0;simpa using this
theorem Ha(m k r:Nat)(d:r=m+k*4503599627370496)(f:r≤9218868437227405312):min (k*4503599627370496+m) 9218868437227405312=r:=by omega
theorem EH(m k:Nat)(d:4503599627370496≤m)(f:2046≤k):min (k*4503599627370496+m) 9218868437227405312=9218868437227405312:=by omega
theorem AQ(n:Bool)(v:Nat)(E:Int)(h:v≠0):cr n (min ((aJ v E- -1074).toNat*4503599627370496+fL v E) 9218868437227405312)=cr n (bX v E):=by
 have d:=(jb v E h).2.1
 have t:=(gd v E).2.1
 have f:=eM v E
 rw[show aJ v E- -1074=aJ v E+1074 by omega]
 by_cases l:(bl v:Int)+E≤1024
 ·rw[Ha _ _ _ (gI v E h l) f]
 ·have m:bX v E=9218868437227405312:=by unfold bX;rw[if_neg h,if_pos (by omega)]
  rw[m,EH _ _ (d (by omega)) (by omega)]
theorem dg(n:Bool)(v:Nat)(E:Int):Ieee.double.nearest n v E=cr n (bX v E):=by
 unfold Ieee.Format.nearest
 by_cases h:v=0
 ·rw[if_pos h,nr];unfold bX;rw[if_pos h]
 ·rw[if_neg h]
  simp only[qG,mC,kD,nr]
  have d:(Ieee.double.fractionBits:Int)=52:=rfl
  rw[d]
  have f:bl v=v.log2+1:=by unfold bl;rw[if_neg h]
  have l:max (E+(v.log2:Int)-52) (-1074)=aJ v E:=by unfold aJ;rw[f];omega
  rw[l]
  have m:Ieee.Toward.even.cut n (v <<< (E-aJ v E).toNat) (aJ v E-E).toNat=fL v E:=by
   unfold fL mS
   split
   ·rename_i t
    rw[show(aJ v E-E).toNat=0 by omega,Nat.shiftLeft_eq]
    rw[sE _ _ _ (Nat.mul_ne_zero h (Nat.pos_iff_ne_zero.1 (Nat.two_pow_pos _))),yr]
   ·rename_i t
    rw[show(E-aJ v E).toNat=0 by omega,Nat.shiftLeft_zero,sE _ _ _ h,show(-(E-aJ v E)).toNat=(aJ v E-E).toNat by omega]
  rw[m]
  exact AQ n v E h
theorem bu(b:Nat):(fK b=4↔9218868437227405312<fR b)∧(fK b=3↔fR b=9218868437227405312)∧(aC b=true↔fR b<9218868437227405312):=by
 have h:=kE b
 have hF:fF b=fR b%4503599627370496:=by unfold fF fR;omega
 have d:fP b=fR b/4503599627370496:=rfl
 unfold fK aC
 rw[hF,d]
 generalize fR b=r at*
 refine⟨?_,?_,?_⟩
 ·split
  ·split<;>constructor<;>intro _<;>omega
  ·split
   ·split<;>constructor<;>intro _<;>omega
   ·constructor<;>intro _<;>omega
 ·split
  ·split<;>constructor<;>intro _<;>omega
  ·split
   ·split<;>constructor<;>intro _<;>omega
   ·constructor<;>intro _<;>omega
 ·rw[decide_eq_true_iff];omega
theorem dK(b:Nat)(_h:b<18446744073709551616)(d:fK b=4):∃s f,Ieee.double.read b=.nan s f:=by
 have h:=(bu b).1.1 d
 unfold Ieee.Format.read
 rw[qE,mC,kD,qG]
 simp only
 have:b%9223372036854775808=fR b:=rfl
 rw[this,if_neg (by omega),if_neg (by omega),if_neg (by omega)]
 exact⟨_,_,rfl⟩
theorem bU(b:Nat)(h:b<18446744073709551616)(d:fK b=3):Ieee.double.read b=.infinity (fS b):=by
 have f:=(bu b).2.1.1 d
 rcases ji (fS b) (fR b) (by omega)with⟨c,_⟩|⟨_,e⟩
 ·omega
 ·rw[gj b h]at e;exact e
theorem b8(b:Nat)(h:b<18446744073709551616)(d:aC b=true):∃(m:Nat) (k:Nat),Ieee.double.read b=.number (fS b) m (-1074+(k:Int))∧m*2^k=rv (fR b):=by
 have l:=np b d
 rcases ji (fS b) (fR b) (by omega)with⟨_,m,k,e,f⟩|⟨c,_⟩
 ·rw[gj b h]at e;exact⟨m,k,e,f⟩
 ·omega
theorem Hb(a b:Nat)(d:a<18446744073709551616)(f:b<18446744073709551616)(l:fK a=3)(m:fK b=3):a=b↔fS a=fS b:=by
 have t:=(bu a).2.1.1 l
 have y:=(bu b).2.1.1 m
 constructor
 ·intro h;rw[h]
 ·intro h;rw[←gj a d,←gj b f,h,t,y]
theorem bh(b:Nat)(d:fK b≠3)(f:fK b≠4):aC b=true:=by
 rcases gg b with⟨_,h|h⟩|⟨h,_⟩
 ·exact absurd h d
 ·exact absurd h f
 ·exact h
theorem EI(n m:Bool)(r s a b k j:Nat)(A:a*2^k=rv r)(D:b*2^j=rv s):
  (Ieee.Datum.sum (.number n a (-1074+(k:Int))) (.number m b (-1074+(j:Int)))).map Ieee.double.write=some (if pv n r+pv m s=0 then(if(n&&m)=true then 9223372036854775808 else 0)else cr (decide (pv n r+pv m s<0)) (bX (pv n r+pv m s).natAbs (-1074))):=by
 unfold Ieee.Datum.sum
 simp only[Option.map_some]
 congr 1
 generalize K:min k j=c
 have F:(-1074+(k:Int)-min (-1074+(k:Int)) (-1074+(j:Int))).toNat=k-c:=by omega
 have G:(-1074+(j:Int)-min (-1074+(k:Int)) (-1074+(j:Int))).toNat=j-c:=by omega
 have H:min (-1074+(k:Int)) (-1074+(j:Int))= -1074+(c:Int):=by omega
 rw[F,G,H]
 have l:=jH n a k (k-c) r A (by omega)
 have y:=jH m b j (j-c) s D (by omega)
 rw[show k-(k-c)=c by omega]at l
 rw[show j-(j-c)=c by omega]at y
 have I:(Ieee.signed n a (k-c)+Ieee.signed m b (j-c))*2^c=pv n r+pv m s:=by rw[Int.add_mul,l,y]
 generalize Ieee.signed n a (k-c)+Ieee.signed m b (j-c)=t at*
 rw[←I]
 have z:(0:Int)<2^c:=Int.pow_pos (by decide)
 show Ieee.double.nearest (if t=0 then n&&m else decide (t<0)) t.natAbs (-1074+(c:Int))=_
 rw[dg]
 by_cases d:t=0
 ·subst d
  rw[if_pos rfl,if_pos (by simp)]
  have:bX (0:Int).natAbs (-1074+(c:Int))=0:=pF _
  rw[this]
  unfold cr
  split<;>rfl
 ·have f:t*2^c≠0:=Int.mul_ne_zero d (by omega)
  rw[if_neg d,if_neg f,Int.natAbs_mul,Int.natAbs_pow,show(2:Int).natAbs=2 from rfl,dY]
  congr 1
  by_cases h:t<0
  ·rw[decide_eq_true h,decide_eq_true (Int.mul_neg_of_neg_of_pos h z)]
  ·rw[decide_eq_false h,decide_eq_false (by have:=Int.mul_nonneg (show 0≤t by omega) (Int.le_of_lt z);omega)]
def aN(a b:Nat):Bool:=decide ((fK a=4∨fK b=4)∨(fK a=3∧fK b=3∧a≠b))
theorem pG(a b:Nat)(d:a<18446744073709551616)(l:b<18446744073709551616)(h:aN a b=true):Ieee.double.add a b=none∧aV a b=9221120237041090560:=by
 unfold Ieee.Format.add
 rcases of_decide_eq_true h with(h|h)|⟨m,t,y⟩
 ·obtain⟨s,f,e⟩:=dK a d h
  refine⟨by rw[e];rfl,?_⟩
  unfold aV;rw[if_pos (Or.inl h)]
 ·obtain⟨s,f,e⟩:=dK b l h
  refine⟨?_,?_⟩
  ·rw[e];cases Ieee.double.read a<;>rfl
  ·unfold aV;rw[if_pos (Or.inr h)]
 ·rw[bU a d m,bU b l t]
  have z:fS a≠fS b:=fun e=>y ((Hb a b d l m t).2 e)
  refine⟨?_,?_⟩
  ·show Option.map Ieee.double.write (if fS a=fS b then some (.infinity (fS a))else none)=none
   rw[if_neg z];rfl
  ·unfold aV;rw[if_neg (by omega),if_pos m,if_pos ⟨t,y⟩]
theorem dt(n:Bool):Ieee.double.write (.infinity n)=cr n 9218868437227405312:=by
 show Ieee.double.word n Ieee.double.infRung=_
 rw[nr,kD]
theorem pH(a b:Nat)(y:a<18446744073709551616)(t:b<18446744073709551616)(h:aN a b=false):Ieee.double.add a b=some (aV a b):=by
 have A:=of_decide_eq_false h
 have L:fK a≠4:=fun e=>A (Or.inl (Or.inl e))
 have G:fK b≠4:=fun e=>A (Or.inl (Or.inr e))
 have H:fK a=3→fK b=3→a=b:=fun I z=>Decidable.byContradiction fun K=>A (Or.inr ⟨I,z,K⟩)
 unfold Ieee.Format.add aV
 rw[if_neg (by omega)]
 by_cases f:fK a=3
 ·have D:=(bu a).2.1.1 f
  have l:=gj a y
  rw[D]at l
  rw[if_pos f,if_neg (by rintro⟨Q,U⟩;exact U (H f Q)),bU a y f]
  by_cases d:fK b=3
  ·rw[bU b t d]
   have:=H f d
   subst this
   show Option.map Ieee.double.write (if fS a=fS a then some (.infinity (fS a))else none)=some a
   rw[if_pos rfl,Option.map_some,dt,l]
  ·obtain⟨m,k,e,_⟩:=b8 b t (bh b d G)
   rw[e]
   unfold Ieee.Datum.sum;simp only
   rw[Option.map_some,dt,l]
 ·obtain⟨m,k,e,M⟩:=b8 a y (bh a f L)
  rw[if_neg f,e]
  by_cases d:fK b=3
  ·have D:=(bu b).2.1.1 d
   have l:=gj b t
   rw[D]at l
   rw[if_pos d,bU b t d]
   unfold Ieee.Datum.sum;simp only
   rw[Option.map_some,dt,l]
  ·obtain⟨N,O,z,F⟩:=b8 b t (bh b d G)
   rw[if_neg d,z]
   exact EI (fS a) (fS b) (fR a) (fR b) m N k O M F
theorem EJ(b:Nat)(h:b<18446744073709551616):fN b=cr (!fS b) (fR b):=by
 unfold fN fS fR
 by_cases c:9223372036854775808≤b
 ·rw[if_pos c,decide_eq_true c];show _=cr false _;rw[a8];omega
 ·rw[if_neg c,decide_eq_false c];show _=cr true _;rw[cI];omega
theorem AR(b:Nat)(h:b<18446744073709551616):Ieee.double.read (fN b)=(Ieee.double.read b).opposite:=by
 have d:=kE b
 have f:=EJ b h
 have l:=(gj b h).symm
 obtain⟨m,p2⟩:=ii (!fS b) (fR b) d
 obtain⟨t,y⟩:=ii (fS b) (fR b) d
 rw[f]
 conv=>rhs;rw[l]
 unfold Ieee.Format.read
 rw[qE,mC,kD,qG]
 simp only[m,p2,t,y]
 generalize fR b=r
 split
 ·rfl
 ·split
  ·rfl
  ·split<;>rfl
theorem AU(a b:Nat)(d:b<18446744073709551616):Ieee.double.sub a b=Ieee.double.add a (fN b):=by
 unfold Ieee.Format.sub Ieee.Format.add
 rw[AR b d]
theorem gV(n:Bool)(r:Nat)(h:r<9223372036854775808):fR (cr n r)=r:=(ii n r h).2
theorem AV(n:Bool)(r:Nat)(h:r<9223372036854775808):fZ (cr n r)=pv n r:=by
 unfold fZ;rw[lk n r h,gV n r h]
theorem EK{a b:Nat}(h:fR a=fR b):fK a=fK b:=by
 have hF:∀b,fF b=fR b%4503599627370496:=fun b=>by unfold fF fR;omega
 have d:∀b,fP b=fR b/4503599627370496:=fun b=>rfl
 unfold fK
 rw[hF,d,hF b,d b,h]
theorem dL{b:Nat}(d:aC b=true):fK b≠3∧fK b≠4:=by
 rcases gg b with⟨h,_⟩|⟨_,h⟩
 ·rw[d]at h;cases h
 ·omega
theorem Hc(a b:Nat)(h:aC a=true)(l:aC b=true):fR (aV a b)=bX (aZ a b).natAbs (-1074)∧fZ (aV a b)=JN (aZ a b) (-1074):=by
 obtain⟨t,y⟩:=dL h
 obtain⟨z,A⟩:=dL l
 rw[(wN a b t y z A).1]
 by_cases d:aZ a b=0
 ·rw[if_pos d,d]
  have e:(if(fS a&&fS b)=true then 9223372036854775808 else 0)=cr (fS a&&fS b) 0:=by unfold cr;split<;>rfl
  have f:bX (0:Int).natAbs (-1074)=0:=pF _
  rw[e,gV _ _ (by decide),AV _ _ (by decide),f]
  refine⟨rfl,?_⟩
  unfold JN pv
  rw[f,fO]
  split<;>simp
 ·rw[if_neg d]
  have m:=eM (aZ a b).natAbs (-1074)
  rw[gV _ _ (by omega),AV _ _ (by omega)]
  exact⟨rfl,rfl⟩
theorem ny(a b:Nat)(d:a<18446744073709551616)(f:b<18446744073709551616)(l:fK a≠4)(m:fK b≠4):Ieee.double.order a b=some (compare (fZ a) (fZ b)):=by
 have t:fR a≤9218868437227405312:=Nat.le_of_not_lt fun h=>l ((bu a).1.2 h)
 have y:fR b≤9218868437227405312:=Nat.le_of_not_lt fun h=>m ((bu b).1.2 h)
 have:=pE (fS a) (fS b) (fR a) (fR b) t y
 rw[gj a d,gj b f]at this
 exact this
theorem lp(a b:Nat)(d:a<18446744073709551616)(l:b<18446744073709551616)(h:fK a=4∨fK b=4):Ieee.double.order a b=none:=by
 unfold Ieee.Format.order
 rcases h with h|h
 ·obtain⟨s,f,e⟩:=dK a d h
  rw[e];rfl
 ·obtain⟨s,f,e⟩:=dK b l h
  rw[e];cases Ieee.double.read a<;>rfl
end Go.Proofs.YtlnphkioddknfaaGreatDoor
