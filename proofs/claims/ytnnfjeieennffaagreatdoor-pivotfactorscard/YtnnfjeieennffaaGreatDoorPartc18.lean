/- Part 18 of the texts. -/
import Derived.Test.YtnnfjeieennffaaGreatDoorPartc17
namespace Go.Proofs.YtnnfjeieennffaaGreatDoor
open Go.RowKit
def pv(n:Bool)(r:Nat):Int:=if n=true then-(rv r:Int)else(rv r:Int)
theorem qG:Ieee.double.signWeight=9223372036854775808:=by decide
theorem mJ:Ieee.double.binade=4503599627370496:=by decide
theorem ku:Ieee.double.infRung=9218868437227405312:=by decide
theorem qH:Ieee.double.leastPlace= -1074:=by decide
theorem g7(n:Bool)(r:Nat)(h:r<9223372036854775808):(bZ n r/9223372036854775808%2==1)=n∧bZ n r%9223372036854775808=r:=by
 cases n
 ·rw[aU];exact⟨by simp;omega,by omega⟩
 ·rw[cI];exact⟨by simp;omega,by omega⟩
theorem iX(n:Bool)(r:Nat)(h:r≤9218868437227405312):
  (r<9218868437227405312∧∃(m:Nat) (k:Nat),Ieee.double.read (bZ n r)=.number n m (-1074+(k:Int))∧m*2^k=rv r)∨(r=9218868437227405312∧Ieee.double.read (bZ n r)=.infinity n):=by
 obtain⟨l,t⟩:=g7 n r (by omega)
 unfold Ieee.Format.read
 rw[qG,mJ,ku,qH]
 simp only[l,t]
 by_cases d:r<4503599627370496
 ·left
  refine⟨by omega,r,0,?_,?_⟩
  ·rw[if_pos d];rfl
  ·unfold rv;rw[if_pos d];simp
 ·by_cases f:r<9218868437227405312
  ·left
   refine⟨f,_,_,by rw[if_neg d,if_pos f],?_⟩
   unfold rv;rw[if_neg d]
  ·right
   have:r=9218868437227405312:=by omega
   exact⟨this,by rw[if_neg d,if_neg f,if_pos this]⟩
theorem jm(n:Bool)(m k u:Nat)(r:Nat)(h:m*2^k=rv r)(l:u≤k):Ieee.signed n m u*2^(k-u)=pv n r:=by
 have f:m <<< u*2^(k-u)=rv r:=by
  rw[Nat.shiftLeft_eq,Nat.mul_assoc,←Nat.pow_add,show u+(k-u)=k by omega];exact h
 have d:((m <<< u:Nat):Int)*2^(k-u)=(rv r:Int):=by
  rw[←f,Int.natCast_mul,Int.natCast_pow];rfl
 unfold Ieee.signed pv
 cases n
 ·simp only[Bool.false_eq_true,if_false];exact d
 ·simp only[if_true];rw[Int.neg_mul,d]
theorem o7(a b:Int)(k:Nat):compare (a*2^k) (b*2^k)=compare a b:=by
 have f:(0:Int)<2^k:=Int.pow_pos (by decide)
 rcases Int.lt_trichotomy a b with h|h|h
 ·have d:a*2^k<b*2^k:=Int.mul_lt_mul_of_pos_right h f
  rw[Int.compare_eq_lt.2 h,Int.compare_eq_lt.2 d]
 ·subst h;simp
 ·have d:b*2^k<a*2^k:=Int.mul_lt_mul_of_pos_right h f
  rw[Int.compare_eq_gt.2 h,Int.compare_eq_gt.2 d]
theorem yb(n m:Bool)(r s a b k j:Nat)(h:a*2^k=rv r)(l:b*2^j=rv s):
  Ieee.Datum.order (.number n a (-1074+(k:Int))) (.number m b (-1074+(j:Int)))=some (compare (pv n r) (pv m s)):=by
 unfold Ieee.Datum.order
 simp only
 congr 1
 generalize A:min k j=c
 have t:(-1074+(k:Int)-min (-1074+(k:Int)) (-1074+(j:Int))).toNat=k-c:=by omega
 have z:(-1074+(j:Int)-min (-1074+(k:Int)) (-1074+(j:Int))).toNat=j-c:=by omega
 rw[t,z,←o7 _ _ c]
 have d:=jm n a k (k-c) r h (by omega)
 have f:=jm m b j (j-c) s l (by omega)
 rw[show k-(k-c)=c by omega]at d
 rw[show j-(j-c)=c by omega]at f
 rw[d,f]
theorem sI{r s:Nat}(h:r<s):rv r<rv s:=Nat.lt_of_lt_of_le (qu r) (kg h)
theorem pQ(n m:Bool)(r s:Nat)(H:r≤9218868437227405312)(A:s≤9218868437227405312):Ieee.double.order (bZ n r) (bZ m s)=some (compare (pv n r) (pv m s)):=by
 unfold Ieee.Format.order
 rcases iX n r H with⟨F,a,k,h,K⟩|⟨F,h⟩
 ·rcases iX m s A with⟨l,b,j,d,G⟩|⟨l,d⟩
  ·rw[h,d];exact yb n m r s a b k j K G
  ·rw[h,d]
   have t:rv r<rv s:=sI (by omega)
   have f:Ieee.Datum.order (.number n a (-1074+(k:Int))) (.infinity m)=some (if m then .gt else .lt):=rfl
   rw[f]
   congr 1
   unfold pv
   cases m<;>cases n<;>simp only[Bool.false_eq_true,if_true,if_false]<;>symm<;>first|exact Int.compare_eq_lt.2 (by omega)|exact Int.compare_eq_gt.2 (by omega)
 ·rcases iX m s A with⟨l,b,j,d,G⟩|⟨l,d⟩
  ·rw[h,d]
   have t:rv s<rv r:=sI (by omega)
   have f:Ieee.Datum.order (.infinity n) (.number m b (-1074+(j:Int)))=some (if n then .lt else .gt):=rfl
   rw[f]
   congr 1
   unfold pv
   cases m<;>cases n<;>simp only[Bool.false_eq_true,if_true,if_false]<;>symm<;>first|exact Int.compare_eq_lt.2 (by omega)|exact Int.compare_eq_gt.2 (by omega)
  ·rw[h,d]
   have z:rv r=rv s:=by rw[F,l]
   have D:0<rv s:=by have:=sI (r:=0) (s:=s) (by omega);rw[dR]at this;exact this
   have f:Ieee.Datum.order (.infinity n) (.infinity m)=some (compare m.toNat n.toNat):=rfl
   rw[f]
   congr 1
   unfold pv
   rw[z]
   cases n<;>cases m
   ·simp
   ·rw[if_neg (by decide),if_pos rfl]
    rw[Int.compare_eq_gt.2 (by omega)]
    decide
   ·rw[if_pos rfl,if_neg (by decide)]
    rw[Int.compare_eq_lt.2 (by omega)]
    decide
   ·simp
def JC(z l:Int):Int:=pv (decide (z<0)) (bw z.natAbs l)
theorem g8(z lo:Int)(k:Nat)(h:z≠0→lo+k≤oE z lo):up (oM z) (oE z lo) (lo+k)*2^k=z:=by
 by_cases d:z=0
 ·subst d;rw[cu,fU];simp
 ·have f:=h d
  conv=>rhs;rw[←nF z lo d]
  unfold up
  rw[Int.mul_assoc,←Int.pow_add]
  congr 2
  omega
theorem ye{lo:Int}{W:Nat}{z1 z2:Int}(m:ma lo W z1)(G:ma lo W z2)(H:¬(z1=0∧z2=0)):
  ∃k:Nat,bK (oM z1) (oE z1 lo) (oM z2) (oE z2 lo)=lo+k∧up (oM z1) (oE z1 lo) (lo+k)*2^k=z1∧up (oM z2) (oE z2 lo) (lo+k)*2^k=z2∧oE z1 lo-(lo+k)≤16384∧oE z2 lo-(lo+k)≤16384:=by
 have M:=m.2.1
 have N:=m.2.2.1
 have O:=m.2.2.2
 have A:∀z,ma lo W z→(z=0∧oM z=0∧oE z lo=0)∨(z≠0∧oM z≠0∧oE z lo=lo+(tz z.natAbs:Int)∧tz z.natAbs<W):=fun z K=>by
  by_cases e:z=0
  ·left;subst e;exact⟨rfl,cu,cS _⟩
  ·right;exact⟨e,(gI z e).1,dJ z lo e,K.tzs e⟩
 rcases A z1 m with⟨D,t,F⟩|⟨D,t,F,Q⟩
 ·rcases A z2 G with⟨d,f,l⟩|⟨d,f,l,L⟩
  ·exact absurd ⟨D,d⟩ H
  ·refine⟨tz z2.natAbs,?_,g8 z1 lo _ (fun h=>absurd D h),g8 z2 lo _ (fun _=>by omega),by omega,by omega⟩
   unfold bK;rw[if_pos t];exact l
 ·rcases A z2 G with⟨d,f,l⟩|⟨d,f,l,L⟩
  ·refine⟨tz z1.natAbs,?_,g8 z1 lo _ (fun _=>by omega),g8 z2 lo _ (fun h=>absurd d h),by omega,by omega⟩
   unfold bK;rw[if_neg t,if_pos f];exact F
  ·refine⟨min (tz z1.natAbs) (tz z2.natAbs),?_,g8 z1 lo _ (fun _=>by omega),g8 z2 lo _ (fun _=>by omega),by omega,by omega⟩
   rw[iw _ _ _ _ t f,F,l];omega
theorem uN(u v:Int)(k:Nat):bs (u*2^k) (v*2^k)=bs u v:=by
 rw[nD,nD,←Int.sub_mul,ix]
theorem IX{w:World}{v u:Value}{lo:Int}{W:Nat}{z1 z2:Int}(l:aG w v (oM z1) (oE z1 lo))(m:aG w u (oM z2) (oE z2 lo))(d:ma lo W z1)(f:ma lo W z2):
  Calls Tryz.prog 25 #[v,u] w fun r w'=>r=.returned (.int .i64 (bs z1 z2))∧Below w.heap.size w w':=by
 obtain⟨z,D,F,A,rfl,G,Z,H,a4,K⟩:=l.right d.right.2
 obtain⟨L,M,N,B,rfl,O,b2,Q,b4,U⟩:=m.right f.right.2
 have:=qE z L D M F N A B _ _ w G O (K.trans d.right.1) (U.trans f.right.1)
 rw[H,Q]at this
 have t:ks (oM z1) (oE z1 lo) (oM z2) (oE z2 lo)=bs z1 z2:=by
  by_cases h:z1=0∧z2=0
  ·obtain⟨rfl,rfl⟩:=h
   rw[cu,cS];rfl
  ·obtain⟨k,V,X,Y,_,_⟩:=ye d f h
   unfold ks
   rw[V,←uN _ _ k,X,Y]
 rwa[t]at this
def fR(b:Nat):Nat:=b%9223372036854775808
def fZ(b:Nat):Int:=pv (fS b) (fR b)
theorem gp(b:Nat)(h:b<18446744073709551616):bZ (fS b) (fR b)=b:=by
 unfold fS fR
 by_cases c:9223372036854775808≤b
 ·rw[decide_eq_true c,cI];omega
 ·rw[decide_eq_false c,aU];omega
theorem jF(b:Nat):fR b<9223372036854775808:=by unfold fR;omega
theorem iA(b:Nat)(d:ap b=true):fR b<9218868437227405312:=by
 have f:=of_decide_eq_true d
 unfold fP at f
 unfold fR
 omega
theorem IY(n:Bool)(s:Nat):sg n (rv s)=pv n s:=rfl
theorem dK(b:Nat)(h:b<18446744073709551616)(m:ap b=true):oM (fZ b)=fD b∧oE (fZ b) (-1074)=fX b:=by
 obtain⟨j,f,l⟩:=GK (fS b) (fR b) (iA b m)
 rw[gp b h]at f l
 have d:=kt (fM b) j (-1074)
 rw[l,IY,←f]at d
 exact d
theorem Ar:rv 9218868437227405312=2^2098:=by decide+kernel
theorem GM(n:Bool)(r:Nat):(pv n r).natAbs=rv r:=by unfold pv;split<;>omega
theorem gu(b:Nat):(fZ b).natAbs=rv (fR b):=GM _ _
theorem jG(b:Nat)(d:ap b=true):(fZ b).natAbs<2^2098:=by
 rw[gu,←Ar];exact sI (iA b d)
def aZ(a b:Nat):Int:=fZ a+fZ b
def aV(a b:Nat):Nat:=
 if fK a=4∨fK b=4 then 9221120237041090560
 else if fK a=3 then(if fK b=3∧a≠b then 9221120237041090560 else a)
 else if fK b=3 then b
 else if aZ a b=0 then(if(fS a&&fS b)=true then 9223372036854775808 else 0)
 else bZ (decide (aZ a b<0)) (bw (aZ a b).natAbs (-1074))
def aF(a b:Nat):Int:=
 if fK a=4∨fK b=4 then 0
 else if fK a=3 then(if fK b=3∧a≠b then 16 else 0)
 else if fK b=3 then 0
 else if aZ a b=0 then 0
 else bF (oM (aZ a b)).natAbs (oE (aZ a b) (-1074))
theorem F9:(2:Nat)^2098+2^2098=2^2099:=by decide+kernel
theorem lf(b:Nat)(d:ap b=true):ma (-1074) 2099 (fZ b):=by
 have h:=jG b d
 have f:=F9
 have l:=Nat.two_pow_pos 2098
 generalize (2:Nat)^2098=P at*
 exact⟨by rw[←f];omega,by decide,by decide,by decide⟩
theorem GN(a b:Nat)(d:ap a=true)(f:ap b=true):ma (-1074) 2099 (fZ a+fZ b):=by
 have l:=jG a d
 have m:=jG b f
 have h:=F9
 generalize (2:Nat)^2098=P at*
 exact⟨by rw[←h];omega,by decide,by decide,by decide⟩
theorem ez(n:Bool)(r:Nat)(h:r<9223372036854775808):bZ n r<18446744073709551616:=by unfold bZ;split<;>omega
theorem nI(a b:Nat)(d:a<18446744073709551616)(f:b<18446744073709551616):aV a b<18446744073709551616:=by
 unfold aV
 split
 ·omega
 ·split
  ·split<;>omega
  ·split
   ·omega
   ·split
    ·split<;>omega
    ·have:=cN (aZ a b).natAbs (-1074)
     exact ez _ _ (by omega)
theorem sJ(a b:Nat)(d:fK a≠3)(l:fK a≠4)(f:fK b≠3)(m:fK b≠4):
  aV a b=(if aZ a b=0 then(if(fS a&&fS b)=true then 9223372036854775808 else 0)else bZ (decide (aZ a b<0)) (bw (aZ a b).natAbs (-1074)))∧aF a b=(if aZ a b=0 then 0 else bF (oM (aZ a b)).natAbs (oE (aZ a b) (-1074))):=by
 have h:¬(fK a=4∨fK b=4):=by omega
 unfold aV aF
 simp only[if_neg h,if_neg d,if_neg f,and_self]
theorem kv(E:Int):bw 0 E=0:=by unfold bw;exact if_pos rfl
theorem nJ(n:Bool)(r:Nat):Ieee.double.word n r=bZ n r:=by
 unfold Ieee.Format.word;rw[qG];unfold bZ
 cases n
 ·simp
 ·simp[Nat.add_comm]
theorem sK(n:Bool)(v k:Nat)(h:v≠0):Ieee.Toward.even.cut n v k=cK v k:=by
 have A:=aY v h
 have f:bl v=v.log2+1:=by unfold bl;rw[if_neg h]
 rw[f]at A
 unfold Ieee.Toward.cut
 simp only[Nat.one_shiftLeft]
 by_cases c:k≤v.log2+2
 ·rw[Nat.min_eq_left c]
  unfold cK
  congr 1
  generalize 2^k=g
  by_cases l:g<2*(v%g)
  ·simp[l]
  ·by_cases d:g=2*(v%g)∧v/g%2=1
   ·rw[if_pos (Or.inr d)]
    rw[decide_eq_false l,Bool.false_or,beq_iff_eq.2 d.1,beq_iff_eq.2 d.2];rfl
   ·rw[if_neg (by rintro(h|h)<;>contradiction),decide_eq_false l,Bool.false_or]
    have:(g==2*(v%g)&&v/g%2==1)=false:=by
     rw[Bool.eq_false_iff]
     intro z
     rw[Bool.and_eq_true,beq_iff_eq,beq_iff_eq]at z
     exact d z
    rw[this];rfl
 ·rw[Nat.min_eq_right (by omega)]
  have D:(2:Nat)^(v.log2+2)=2^(v.log2+1)*2:=Nat.pow_succ 2 _
  have F:(2:Nat)^(v.log2+2)≤2^k:=dP (by omega)
  unfold cK
  generalize (2:Nat)^(v.log2+2)=g at*
  generalize (2:Nat)^k=q at*
  have m:v<g:=by omega
  have t:v<q:=by omega
  rw[Nat.div_eq_of_lt m,Nat.mod_eq_of_lt m,Nat.div_eq_of_lt t,Nat.mod_eq_of_lt t,if_neg (by omega),decide_eq_false (by omega)]
  have:(g==2*v)=false:=by simp;omega
  rw[this];rfl
theorem yf(v:Nat):cK v 0=v:=by have:=im v 0;simpa using this
theorem GO(m k r:Nat)(d:r=m+k*4503599627370496)(f:r≤9218868437227405312):min (k*4503599627370496+m) 9218868437227405312=r:=by omega
theorem El(m k:Nat)(d:4503599627370496≤m)(f:2046≤k):min (k*4503599627370496+m) 9218868437227405312=9218868437227405312:=by omega
theorem As(n:Bool)(v:Nat)(E:Int)(h:v≠0):bZ n (min ((av v E- -1074).toNat*4503599627370496+cV v E) 9218868437227405312)=bZ n (bw v E):=by
 have d:=(co v E h).2.1
 have t:=(bW v E).2.1
 have f:=cN v E
 rw[show av v E- -1074=av v E+1074 by omega]
 by_cases l:(bl v:Int)+E≤1024
 ·rw[GO _ _ _ (cq v E h l) f]
 ·have m:bw v E=9218868437227405312:=by unfold bw;rw[if_neg h,if_pos (by omega)]
  rw[m,El _ _ (d (by omega)) (by omega)]
theorem dn(n:Bool)(v:Nat)(E:Int):Ieee.double.nearest n v E=bZ n (bw v E):=by
 unfold Ieee.Format.nearest
 by_cases h:v=0
 ·rw[if_pos h,nJ];unfold bw;rw[if_pos h]
 ·rw[if_neg h]
  simp only[qH,mJ,ku,nJ]
  have d:(Ieee.double.fractionBits:Int)=52:=rfl
  rw[d]
  have f:bl v=v.log2+1:=by unfold bl;rw[if_neg h]
  have l:max (E+(v.log2:Int)-52) (-1074)=av v E:=by unfold av;rw[f];omega
  rw[l]
  have m:Ieee.Toward.even.cut n (v <<< (E-av v E).toNat) (av v E-E).toNat=cV v E:=by
   unfold cV mS
   split
   ·rename_i t
    rw[show(av v E-E).toNat=0 by omega,Nat.shiftLeft_eq]
    rw[sK _ _ _ (Nat.mul_ne_zero h (Nat.pos_iff_ne_zero.1 (Nat.two_pow_pos _))),yf]
   ·rename_i t
    rw[show(E-av v E).toNat=0 by omega,Nat.shiftLeft_zero,sK _ _ _ h,show(-(E-av v E)).toNat=(av v E-E).toNat by omega]
  rw[m]
  exact As n v E h
theorem aQ(b:Nat):(fK b=4↔9218868437227405312<fR b)∧(fK b=3↔fR b=9218868437227405312)∧(ap b=true↔fR b<9218868437227405312):=by
 have h:=jF b
 have hF:fF b=fR b%4503599627370496:=by unfold fF fR;omega
 have d:fP b=fR b/4503599627370496:=rfl
 unfold fK ap
 rw[hF,d]
 generalize fR b=r at*
 refine⟨?_,?_,?_⟩
 ·split
  ·split<;>constructor<;>intro _<;>omega
  ·split
   ·split<;>constructor<;>intro _<;>omega
   ·constructor<;>intro _<;>omega
 ·split
  ·split<;>constructor<;>intro _<;>omega
  ·split
   ·split<;>constructor<;>intro _<;>omega
   ·constructor<;>intro _<;>omega
 ·rw[decide_eq_true_iff];omega
theorem dL(b:Nat)(_h:b<18446744073709551616)(d:fK b=4):∃s f,Ieee.double.read b=.nan s f:=by
 have h:=(aQ b).1.1 d
 unfold Ieee.Format.read
 rw[qG,mJ,ku,qH]
 simp only
 have:b%9223372036854775808=fR b:=rfl
 rw[this,if_neg (by omega),if_neg (by omega),if_neg (by omega)]
 exact⟨_,_,rfl⟩
theorem bT(b:Nat)(h:b<18446744073709551616)(d:fK b=3):Ieee.double.read b=.infinity (fS b):=by
 have f:=(aQ b).2.1.1 d
 rcases iX (fS b) (fR b) (by omega)with⟨c,_⟩|⟨_,e⟩
 ·omega
 ·rw[gp b h]at e;exact e
theorem bX(b:Nat)(h:b<18446744073709551616)(d:ap b=true):∃(m:Nat) (k:Nat),Ieee.double.read b=.number (fS b) m (-1074+(k:Int))∧m*2^k=rv (fR b):=by
 have l:=iA b d
 rcases iX (fS b) (fR b) (by omega)with⟨_,m,k,e,f⟩|⟨c,_⟩
 ·rw[gp b h]at e;exact⟨m,k,e,f⟩
 ·omega
theorem GR(a b:Nat)(d:a<18446744073709551616)(f:b<18446744073709551616)(l:fK a=3)(m:fK b=3):a=b↔fS a=fS b:=by
 have t:=(aQ a).2.1.1 l
 have z:=(aQ b).2.1.1 m
 constructor
 ·intro h;rw[h]
 ·intro h;rw[←gp a d,←gp b f,h,t,z]
theorem bf(b:Nat)(d:fK b≠3)(f:fK b≠4):ap b=true:=by
 rcases gi b with⟨_,h|h⟩|⟨h,_⟩
 ·exact absurd h d
 ·exact absurd h f
 ·exact h
theorem Em(n m:Bool)(r s a b k j:Nat)(D:a*2^k=rv r)(F:b*2^j=rv s):
  (Ieee.Datum.sum (.number n a (-1074+(k:Int))) (.number m b (-1074+(j:Int)))).map Ieee.double.write=some (if pv n r+pv m s=0 then(if(n&&m)=true then 9223372036854775808 else 0)else bZ (decide (pv n r+pv m s<0)) (bw (pv n r+pv m s).natAbs (-1074))):=by
 unfold Ieee.Datum.sum
 simp only[Option.map_some]
 congr 1
 generalize M:min k j=c
 have G:(-1074+(k:Int)-min (-1074+(k:Int)) (-1074+(j:Int))).toNat=k-c:=by omega
 have H:(-1074+(j:Int)-min (-1074+(k:Int)) (-1074+(j:Int))).toNat=j-c:=by omega
 have K:min (-1074+(k:Int)) (-1074+(j:Int))= -1074+(c:Int):=by omega
 rw[G,H,K]
 have l:=jm n a k (k-c) r D (by omega)
 have z:=jm m b j (j-c) s F (by omega)
 rw[show k-(k-c)=c by omega]at l
 rw[show j-(j-c)=c by omega]at z
 have L:(Ieee.signed n a (k-c)+Ieee.signed m b (j-c))*2^c=pv n r+pv m s:=by rw[Int.add_mul,l,z]
 generalize Ieee.signed n a (k-c)+Ieee.signed m b (j-c)=t at*
 rw[←L]
 have A:(0:Int)<2^c:=Int.pow_pos (by decide)
 show Ieee.double.nearest (if t=0 then n&&m else decide (t<0)) t.natAbs (-1074+(c:Int))=_
 rw[dn]
 by_cases d:t=0
 ·subst d
  rw[if_pos rfl,if_pos (by simp)]
  have:bw (0:Int).natAbs (-1074+(c:Int))=0:=kv _
  rw[this]
  unfold bZ
  split<;>rfl
 ·have f:t*2^c≠0:=Int.mul_ne_zero d (by omega)
  rw[if_neg d,if_neg f,Int.natAbs_mul,Int.natAbs_pow,show(2:Int).natAbs=2 from rfl,dy]
  congr 1
  by_cases h:t<0
  ·rw[decide_eq_true h,decide_eq_true (Int.mul_neg_of_neg_of_pos h A)]
  ·rw[decide_eq_false h,decide_eq_false (by have:=Int.mul_nonneg (show 0≤t by omega) (Int.le_of_lt A);omega)]
def aN(a b:Nat):Bool:=decide ((fK a=4∨fK b=4)∨(fK a=3∧fK b=3∧a≠b))
theorem pR(a b:Nat)(d:a<18446744073709551616)(l:b<18446744073709551616)(h:aN a b=true):Ieee.double.add a b=none∧aV a b=9221120237041090560:=by
 unfold Ieee.Format.add
 rcases of_decide_eq_true h with(h|h)|⟨m,t,z⟩
 ·obtain⟨s,f,e⟩:=dL a d h
  refine⟨by rw[e];rfl,?_⟩
  unfold aV;rw[if_pos (Or.inl h)]
 ·obtain⟨s,f,e⟩:=dL b l h
  refine⟨?_,?_⟩
  ·rw[e];cases Ieee.double.read a<;>rfl
  ·unfold aV;rw[if_pos (Or.inr h)]
 ·rw[bT a d m,bT b l t]
  have A:fS a≠fS b:=fun e=>z ((GR a b d l m t).2 e)
  refine⟨?_,?_⟩
  ·show Option.map Ieee.double.write (if fS a=fS b then some (.infinity (fS a))else none)=none
   rw[if_neg A];rfl
  ·unfold aV;rw[if_neg (by omega),if_pos m,if_pos ⟨t,z⟩]
theorem dD(n:Bool):Ieee.double.write (.infinity n)=bZ n 9218868437227405312:=by
 show Ieee.double.word n Ieee.double.infRung=_
 rw[nJ,ku]
theorem pT(a b:Nat)(z:a<18446744073709551616)(t:b<18446744073709551616)(h:aN a b=false):Ieee.double.add a b=some (aV a b):=by
 have D:=of_decide_eq_false h
 have N:fK a≠4:=fun e=>D (Or.inl (Or.inl e))
 have H:fK b≠4:=fun e=>D (Or.inl (Or.inr e))
 have K:fK a=3→fK b=3→a=b:=fun L A=>Decidable.byContradiction fun M=>D (Or.inr ⟨L,A,M⟩)
 unfold Ieee.Format.add aV
 rw[if_neg (by omega)]
 by_cases f:fK a=3
 ·have F:=(aQ a).2.1.1 f
  have l:=gp a z
  rw[F]at l
  rw[if_pos f,if_neg (by rintro⟨V,X⟩;exact X (K f V)),bT a z f]
  by_cases d:fK b=3
  ·rw[bT b t d]
   have:=K f d
   subst this
   show Option.map Ieee.double.write (if fS a=fS a then some (.infinity (fS a))else none)=some a
   rw[if_pos rfl,Option.map_some,dD,l]
  ·obtain⟨m,k,e,_⟩:=bX b t (bf b d H)
   rw[e]
   unfold Ieee.Datum.sum;simp only
   rw[Option.map_some,dD,l]
 ·obtain⟨m,k,e,O⟩:=bX a z (bf a f N)
  rw[if_neg f,e]
  by_cases d:fK b=3
  ·have F:=(aQ b).2.1.1 d
   have l:=gp b t
   rw[F]at l
   rw[if_pos d,bT b t d]
   unfold Ieee.Datum.sum;simp only
   rw[Option.map_some,dD,l]
  ·obtain⟨Q,U,A,G⟩:=bX b t (bf b d H)
   rw[if_neg d,A]
   exact Em (fS a) (fS b) (fR a) (fR b) m Q k U O G
theorem En(b:Nat)(h:b<18446744073709551616):fN b=bZ (!fS b) (fR b):=by
 unfold fN fS fR
 by_cases c:9223372036854775808≤b
 ·rw[if_pos c,decide_eq_true c];show _=bZ false _;rw[aU];omega
 ·rw[if_neg c,decide_eq_false c];show _=bZ true _;rw[cI];omega
theorem At(b:Nat)(h:b<18446744073709551616):Ieee.double.read (fN b)=(Ieee.double.read b).opposite:=by
 have d:=jF b
 have f:=En b h
 have l:=(gp b h).symm
 obtain⟨m,p2⟩:=g7 (!fS b) (fR b) d
 obtain⟨t,z⟩:=g7 (fS b) (fR b) d
 rw[f]
 conv=>rhs;rw[l]
 unfold Ieee.Format.read
 rw[qG,mJ,ku,qH]
 simp only[m,p2,t,z]
 generalize fR b=r
 split
 ·rfl
 ·split
  ·rfl
  ·split<;>rfl
theorem Au(a b:Nat)(d:b<18446744073709551616):Ieee.double.sub a b=Ieee.double.add a (fN b):=by
 unfold Ieee.Format.sub Ieee.Format.add
 rw[At b d]
theorem eC(n:Bool)(r:Nat)(h:r<9223372036854775808):fR (bZ n r)=r:=(g7 n r h).2
theorem Av(n:Bool)(r:Nat)(h:r<9223372036854775808):fZ (bZ n r)=pv n r:=by
 unfold fZ;rw[gP n r h,eC n r h]
theorem Eo{a b:Nat}(h:fR a=fR b):fK a=fK b:=by
 have hF:∀b,fF b=fR b%4503599627370496:=fun b=>by unfold fF fR;omega
 have d:∀b,fP b=fR b/4503599627370496:=fun b=>rfl
 unfold fK
 rw[hF,d,hF b,d b,h]
theorem bB{b:Nat}(d:ap b=true):fK b≠3∧fK b≠4:=by
 rcases gi b with⟨h,_⟩|⟨_,h⟩
 ·rw[d]at h;cases h
 ·omega
theorem qI(a b:Nat)(h:ap a=true)(l:ap b=true):fR (aV a b)=bw (aZ a b).natAbs (-1074)∧fZ (aV a b)=JC (aZ a b) (-1074):=by
 obtain⟨t,z⟩:=bB h
 obtain⟨A,D⟩:=bB l
 rw[(sJ a b t z A D).1]
 by_cases d:aZ a b=0
 ·rw[if_pos d,d]
  have e:(if(fS a&&fS b)=true then 9223372036854775808 else 0)=bZ (fS a&&fS b) 0:=by unfold bZ;split<;>rfl
  have f:bw (0:Int).natAbs (-1074)=0:=kv _
  rw[e,eC _ _ (by decide),Av _ _ (by decide),f]
  refine⟨rfl,?_⟩
  unfold JC pv
  rw[f,dR]
  split<;>simp
 ·rw[if_neg d]
  have m:=cN (aZ a b).natAbs (-1074)
  rw[eC _ _ (by omega),Av _ _ (by omega)]
  exact⟨rfl,rfl⟩
theorem nK(a b:Nat)(d:a<18446744073709551616)(f:b<18446744073709551616)(l:fK a≠4)(m:fK b≠4):Ieee.double.order a b=some (compare (fZ a) (fZ b)):=by
 have t:fR a≤9218868437227405312:=Nat.le_of_not_lt fun h=>l ((aQ a).1.2 h)
 have z:fR b≤9218868437227405312:=Nat.le_of_not_lt fun h=>m ((aQ b).1.2 h)
 have:=pQ (fS a) (fS b) (fR a) (fR b) t z
 rw[gp a d,gp b f]at this
 exact this
theorem lg(a b:Nat)(d:a<18446744073709551616)(l:b<18446744073709551616)(h:fK a=4∨fK b=4):Ieee.double.order a b=none:=by
 unfold Ieee.Format.order
 rcases h with h|h
 ·obtain⟨s,f,e⟩:=dL a d h
  rw[e];rfl
 ·obtain⟨s,f,e⟩:=dL b l h
  rw[e];cases Ieee.double.read a<;>rfl
end Go.Proofs.YtnnfjeieennffaaGreatDoor
