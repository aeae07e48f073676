/- Part 37 of the texts. -/
import Derived.Test.YtcbcmlaogehimaaGreatDoorPartt36
import Derived.Lib.SmallJoins
import Derived.Test.YtcbcmlaogehimaaGreatDoorRows
import Derived.Deep.DeepHandedRow
set_option maxRecDepth 20000
namespace Go.Proofs.YtcbcmlaogehimaaGreatDoor
open Go.RowKit
theorem qQ{w:World}{v u:Value}{z1 z2:Int}{lo:Int}{W t k2:Nat}(k:Int)(hk:0≤k∧k≤200)(X:2*k=(k2:Nat))(I:aT w v lo z1)(J:aT w u lo z2)(K:z1.natAbs<2^W)(L:z2.natAbs<2^W)
  (Y:-10000≤lo∧lo≤0) (hW:W+k2+2≤16384) (ht:lo-(k2:Int)+(t:Int)= -4000) (Z:t≤W) (aa:z1*2^k2≤z2):
  Calls Tryz.prog 20 #[v,u,.int .i64 k] w fun e z=>e=.returned (.bool true)∧Below w.heap.size w z:=by
 have rt:-16384≤lo-(k2:Int):=by omega
 have L1:eL lo W z1:=⟨K,by omega,by omega,by omega⟩
 have N:eL lo W z2:=⟨L,by omega,by omega,by omega⟩
 have hP:((2:Int)^t).natAbs<2^(t+1):=by
  rw[Int.natAbs_pow]
  exact Nat.pow_lt_pow_right (by decide) (by omega)
 have ae:(0:Int)≤2^t:=Int.pow_nonneg (by decide)
 have O:z2.natAbs<2^(W+1):=xm (V:=W+1) (m:=W) (by omega) L
 have Q:((2:Int)^t).natAbs<2^(W+1):=xm (V:=W+1) (m:=t+1) (by omega) hP
 have L3:eL (lo-(k2:Int)) (W+k2+2) z2:=⟨xm (V:=W+k2+2) (m:=W+1) (by omega) O,by omega,by omega,by omega⟩
 have L4:eL (lo-(k2:Int)) (W+k2+2) (2^t):=⟨xm (V:=W+k2+2) (m:=W+1) (by omega) Q,by omega,by omega,by omega⟩
 have L5:eL (lo-(k2:Int)) (W+k2+2) (z2+2^t):=⟨L8 (V:=W+k2+2) (m:=W+1) (by omega) O Q,by omega,by omega,by omega⟩
 have L6:eL (lo-(k2:Int)) (W+k2+2) (z1*2^k2):=⟨LZ (V:=W+k2+2) (m:=W) (by omega) K,by omega,by omega,by omega⟩
 have hc:decide (bt (z1*2^k2) (z2+2^t)≤0)=true:=decide_eq_true (Ma (by omega))
 obtain⟨na,ao,ca,A,rfl,a1,a2,a3,a4,a5⟩:=aC.right I L1.right.2
 obtain⟨nb,bo,cb,B,rfl,b1,ah,b3,b4,b5⟩:=aC.right J N.right.2
 have:=wP na nb ao bo A.length B.length ca cb (oE z1 lo) (oE z2 lo) k (oM z2) (oE z2 (lo-(k2:Int))) (oM (2^t)) (oE (2^t) (lo-(k2:Int))) (oM (z2+2^t)) (oE (z2+2^t) (lo-(k2:Int))) (bt (z1*2^k2) (z2+2^t)) w (by omega)
  (fun z D=>by
   have h:=Gv (-(2*k)) (J.below D) N (by omega)
   rw[show lo+-(2*k)=lo-(k2:Int) by omega]at h
   exact h)
  (fun z v d=>by
   refine(dO (-4000) (d.toM qI) (by decide) (by decide)).mono ?_
   rintro e G ⟨q,k1,H,k3⟩
   refine⟨q,k1,?_,k3⟩
   have h4:aT G q (-4000) 1:=H
   have U:=h4.lower t
   rw[show(-4000:Int)-((t:Nat):Int)=lo-(k2:Int) by omega,Int.one_mul]at U
   exact U)
  (fun z v u d F=>LF (W:=W+k2+2) d F L3 L4)
  (fun z v D d=>by
   have h7:=(show aT z _ _ z1 from aT.below I D).lower k2
   exact Hv h7 d L6 L5)
 rw[hc]at this
 exact this
theorem yS{a b:Int}(h:p2 a<p2 b):a<b:=by
 rcases Int.lt_or_le a b with g|g
 ·exact g
 ·have:=aS g
  grind
theorem Hp{y:Nat}(A:y<18446744073709551616)(d:aj y=true)(u:fK y≠0):eX (fR y)=eX y:=by
 have e:fR (fR y)=fR y:=by unfold fR;omega
 have z:fP (fR y)=fP y:=by unfold fP fR;omega
 have D:fF (fR y)=fF y:=by unfold fF fR;omega
 have k:fK (fR y)=fK y:=by
  unfold fK
  rw[z,D]
 have f:aj (fR y)=true:=by
  unfold aj at d⊢
  rw[z]
  exact d
 have h:ab (fQ (fR y))=ab (fQ y):=by rw[ge,ge,e]
 obtain⟨F,G⟩:=gx (fR y) (by unfold fR;omega) f (by rw[k];exact u)
 obtain⟨J,K⟩:=gx y A d u
 rw[h]at F G
 have H:=yS (show p2 (eX (fR y))<p2 (eX y+1) by grind)
 have I:=yS (show p2 (eX y)<p2 (eX (fR y)+1) by grind)
 omega
theorem lP{S:List Nat}(h:∀x∈S,aj x=true):gl S=true:=Ar h
theorem Iu(r c N d wc u:Nat)(H z A:Option Addr)(W V:List Nat)(w:World)(D:Mx w z wc r c W)(F:Mx w A u c c V)(I:gl W=true)(fV:gl V=true):
  Calls Tryz.prog 24 #[.agg #[.int .i64 (r:Nat),.int .i64 (c:Nat),.slice H N d],.agg #[.int .i64 (r:Nat),.int .i64 (c:Nat),.slice z W.length wc],.agg #[.int .i64 (c:Nat),.int .i64 (c:Nat),.slice A V.length u]] w fun e h=>e=.returned (.bool true)∧Below w.heap.size w h:=by
 refine As r c N d W.length wc V.length u H z A w (fun h G=>?_) (fun h G=>?_)
 ·have:=lr (r:Int) (c:Int) z wc (bF W) h (D.1.below G) (by rw[aH];have:=D.small;omega)
  rw[Em D I,aH]at this
  exact this
 ·have:=lr (c:Int) (c:Int) A u (bF V) h (F.1.below G) (by rw[aH];have:=F.small;omega)
  rw[Em F fV,aH]at this
  exact this
theorem pB{A:List Nat}(J:∀x∈A,x<18446744073709551616∧sK 100 x=true):(∃k,bZ A k)∨∀x∈A,fK x=0∧x<18446744073709551616:=by
 have T:∀x∈A,x<18446744073709551616∧aj x=true∧(fK x=0∨(-100≤eX x∧eX x<100)):=fun x d=>by
  obtain⟨L,F⟩:=J x d
  unfold sK at F
  rw[Bool.and_eq_true,Bool.or_eq_true,decide_eq_true_eq,decide_eq_true_eq]at F
  exact⟨L,F.1,F.2⟩
 have O:=jV A (fun x d=>⟨(T x d).1,(T x d).2.1⟩)
 by_cases D:bB 0 A=0
 ·refine .inr (fun x d=>⟨?_,(T x d).1⟩)
  have u:∀x∈A,aj x=true:=fun x d=>(T x d).2.1
  obtain⟨_,_,I,_⟩:=kZ A 0 (by decide) u
  have:=I x d
  rw[D]at this
  exact(cr x).2 (Nat.le_zero.1 this)
 ·have u:∀x∈A,aj x=true:=fun x d=>(T x d).2.1
  obtain⟨Q,_,I,N⟩:=kZ A 0 (by decide) u
  obtain⟨y,G,e⟩:=N.resolve_left D
  have H:fK y≠0:=fun h=>D (by rw[←e];exact(cr y).1 h)
  have K:eX (bB 0 A)=eX y:=by rw[←e];exact Hp (T y G).1 (T y G).2.1 H
  obtain⟨_,_,z⟩:=T y G
  have z2:=z.resolve_left H
  exact .inl ⟨eX (bB 0 A),fun x d=>⟨(T x d).1,(T x d).2.1,(T x d).2.2.elim .inl (fun q=>.inr q.1)⟩,D,rfl,by rw[K];exact z2⟩
theorem pC{I:List Int}{n m:Nat}{F:Option Addr}{z:Nat}{w:World}(G:Mx w F z n m (dh I))(H:bF (dh I)=I)(h:sL 100 I I.length=true):∀x∈dh I,x<18446744073709551616∧sK 100 x=true:=by
 intro x J
 obtain⟨i,u,rfl⟩:=List.getElem_of_mem J
 have A:i<I.length:=by rw[gO]at u;exact u
 have D:=Dn 100 I I.length i A h
 have d:=G.1.lt i
 rw[ev,List.getD_eq_getElem?_getD,List.getElem?_eq_getElem u]at d
 rw[←H,ev,List.getD_eq_getElem?_getD,List.getElem?_eq_getElem u]at D
 exact⟨d,D⟩
theorem qR{r c u:Nat}{I:Option Addr}{A:List Nat}{w:World}(J:Mx w I u r c A)(fA:gl A=true)(E:iL r c A)(Q:cq w):
  ∀z,Below w.heap.size w z→Calls Tryz.prog 23 #[.agg #[.int .i64 (r:Nat),.int .i64 (c:Nat),.slice I A.length u]] z fun e d=>
   (((gT r c A).still=false∧e=.returned (.tuple #[.agg #[.int .i64 0,.int .i64 0,.slice none 0 0],.agg #[.int .i64 0,.int .i64 0,.slice none 0 0],.slice none 0 0,.int .i64 6]))∨
    ((gT r c A).still=true∧∃D wc F G U X Y,e=.returned (.tuple #[.agg #[.int .i64 (r:Nat),.int .i64 (c:Nat),.slice D (cG r c A).length wc],.agg #[.int .i64 (c:Nat),.int .i64 (c:Nat),.slice F (cj r c A).length G],.slice U X Y,.int .i64 0])∧al d D wc (bF (cG r c A))∧al d F G (bF (cj r c A))))∧Below z.heap.size z d:=by
 intro z O
 have h:=qb r c I u (bF A) z (J.1.below O) (by rw[aH];have:=J.small;omega) (Q.all O)
 rw[aH]at h
 refine h.mono ?_
 have Z:dh (bF A)=A:=uu A
 rintro e d ⟨⟨hn,_⟩|⟨_,K⟩,L⟩
 ·exact absurd (Em J fA) hn
 ·refine⟨?_,L⟩
  unfold Eg at K
  rw[Z,Int.toNat_natCast,Int.toNat_natCast]at K
  have ff:qa r c A=true:=by unfold qa;rw[E.finW,E.finV];rfl
  rcases K with⟨N,H⟩|⟨_,H,_⟩|⟨N,_,v1,v2,g,h3,⟨D,wc,rfl,_,h4⟩,⟨F,G,rfl,_,h5⟩,_,_⟩
  ·exact .inl ⟨N,H⟩
  ·rw[ff]at H;cases H
  ·exact .inr ⟨N,D,wc,F,G,_,_,_,h3,h4,h5⟩
theorem ER(r c:Int)(G:Option Addr)(d:Nat)(I:List Int)(w:World)(hI:al w G d I)(hl:I.length≤17592186043904)(_hr:-9223372036854775808≤r∧r≤9223372036854775807)(_hc:-9223372036854775808≤c∧c≤9223372036854775807)(hT:cq w):
  Calls Tryz.prog 4 #[.agg #[.int .i64 r,.int .i64 c,.slice G I.length d]] w fun e z=>e=.returned (.bool true)∧Below w.heap.size w z:=by
 have N:=fun z (D:Below w.heap.size w z)=>mX r c G d I 100 z (hI.below D) (by omega) (by decide)
 have CA:=fun z (D:Below w.heap.size w z)=>nf z (hT.all D)
 cases h1:(j5 r c I.length&&sL 100 I I.length)
 ·rw[h1]at N
  exact rT r c I.length d G w N CA
 rw[h1]at N
 rw[Bool.and_eq_true]at h1
 obtain⟨n,m,rfl,rfl,F,hS⟩:=Mx.of hI h1.1
 have Y:(dh I).length=I.length:=gO I
 have O:=F.2.2.1;have H:=F.2.2.2
 have hm:=pC F hS h1.2
 have J:=pB hm
 obtain⟨A,hA⟩:∃A,dh I=A:=⟨_,rfl⟩
 rw[hA]at F Y J hm
 have fm:∀x∈A,aj x=true:=fun x hx=>by
  have:=(hm x hx).2
  unfold sK at this
  rw[Bool.and_eq_true]at this
  exact this.1
 have fA:gl A=true:=lP fm
 have E:iL n m A:=J.elim (fun⟨_,h⟩=>h.end19 F.2.1 O H) (fun h=>j6 h n m)
 have U:=qR F fA E hT
 rw[Y]at U
 cases st:(gT n m A).still
 ·refine rU n m I.length d G w N (fun z D=>(U z D).mono ?_) CA
  rintro e ae ⟨⟨_,h⟩|⟨h,_⟩,K⟩
  ·exact⟨h,K⟩
  ·rw[st]at h;cases h
 have fW:=E.finW;have fV:=E.finV
 have Q:=jW fA;have sW:=jW fW;have sV:=jW fV
 have lW:=xt n m A;have lV:=xn n m A
 have X:=sv F.2.1 O H J
 have bR:(GD n m m (cG n m A) A (cj n m A)).natAbs<2^8420:=by
  unfold GD
  exact xm (V:=8420) (m:=8406) (by decide) (jb (W:=8403) (V:=8406) (by decide) n (by omega) (fun i _=>jb (W:=8400) (V:=8403) (by decide) m (by omega) (fun k _=>EJ (m:=4200) (n:=4200) (V:=8400) (by decide) (wK m m _ _ _ i k (by omega) sW Q sV) (wK m m _ _ _ i k (by omega) sW Q sV))))
 have bA:=EK F.2.1 O H Q
 obtain⟨t,ht⟩:∃t:Nat,t=2148:=⟨_,rfl⟩
 rw[←ht]at X
 have aa:(Ab A*2^t).natAbs<2^8420:=LZ (V:=8420) (m:=4202) (k:=t) (by rw[ht];decide) bA
 refine uN n m I.length d (cG n m A).length (cj n m A).length G (bF (cG n m A)) (bF (cj n m A)) (-4296) (-2148) (GD n m m (cG n m A) A (cj n m A)) (Ab A) w N (fun z D=>(U z D).mono ?_) (fun z Z wc vo vc D hw L=>?_) (fun z Z wc vo vc D hw L=>?_) (fun z D=>?_) (fun z v u L hu=>?_) CA
 ·rintro e ae ⟨⟨h,_⟩|⟨_,h⟩,K⟩
  ·rw[st]at h;cases h
  ·exact⟨h,K⟩
 ·exact Iu n m I.length d wc vc G Z vo (cG n m A) (cj n m A) z ⟨hw,lW,O,H⟩ ⟨L,lV,H,H⟩ fW fV
 ·have:=DT n m m wc d vc Z G vo (cG n m A) A (cj n m A) z ⟨hw,lW,O,H⟩ (F.below D) ⟨L,lV,H,H⟩ sW Q sV
  rw[Y]at this
  exact this
 ·have:=p7 n m d G A z (F.below D) Q
  rw[Y]at this
  exact this
 ·have h5:=hu.lower t
  rw[show(-2148:Int)-((t:Nat):Int)= -4296 by omega]at h5
  exact qQ (W:=8420) (t:=366) (k2:=70) 35 (by decide) (by decide) L h5 bR aa (by decide) (by decide) (by decide) (by decide) X
theorem qc(r c:Int)(F:Option Addr)(z:Nat)(I:List Int)(w:World)(hI:al w F z I)(hl:I.length≤17592186043904)(_hr:-9223372036854775808≤r∧r≤9223372036854775807)(_hc:-9223372036854775808≤c∧c≤9223372036854775807)(hT:cq w):
  Calls Tryz.prog 5 #[.agg #[.int .i64 r,.int .i64 c,.slice F I.length z]] w fun e d=>e=.returned (.bool true)∧Below w.heap.size w d:=by
 have L:=fun d (D:Below w.heap.size w d)=>mX r c F z I 100 d (hI.below D) (by omega) (by decide)
 have Z:=fun d (D:Below w.heap.size w d)=>nf d (hT.all D)
 cases h1:(j5 r c I.length&&sL 100 I I.length)
 ·rw[h1]at L
  exact rV r c I.length z F w L Z
 rw[h1]at L
 rw[Bool.and_eq_true]at h1
 obtain⟨n,m,rfl,rfl,K,hS⟩:=Mx.of hI h1.1
 have lI:(dh I).length=I.length:=gO I
 have r6:=K.2.2.1;have H:=K.2.2.2
 have hm:=pC K hS h1.2
 have N:=pB hm
 obtain⟨A,hA⟩:∃A,dh I=A:=⟨_,rfl⟩
 rw[hA]at K lI N hm
 have fm:∀x∈A,aj x=true:=fun x hx=>by
  have:=(hm x hx).2
  unfold sK at this
  rw[Bool.and_eq_true]at this
  exact this.1
 have fA:gl A=true:=lP fm
 have E:iL n m A:=N.elim (fun⟨_,h⟩=>h.end19 K.2.1 r6 H) (fun h=>j6 h n m)
 have U:=qR K fA E hT
 rw[lI]at U
 cases st:(gT n m A).still
 ·refine rW n m I.length z F w L (fun d D=>(U d D).mono ?_) Z
  rintro e Q ⟨⟨_,h⟩|⟨h,_⟩,J⟩
  ·exact⟨h,J⟩
  ·rw[st]at h;cases h
 have fW:=E.finW;have fV:=E.finV
 have sV:=jW fV
 have lW:=xt n m A;have lV:=xn n m A
 have O:=Az E H
 have bO:(Kv m m (cj n m A)).natAbs<2^8420:=by
  unfold Kv
  exact xm (V:=8420) (m:=8406) (by decide) (jb (W:=8403) (V:=8406) (by decide) m (by omega) (fun i _=>jb (W:=8400) (V:=8403) (by decide) m (by omega) (fun k _=>EJ (m:=4200) (n:=4200) (V:=8400) (by decide) (wL m m _ i k (by omega) sV) (wL m m _ i k (by omega) sV))))
 obtain⟨t,ht⟩:∃t:Nat,t=4296:=⟨_,rfl⟩
 rw[←ht]at O
 have aa:((2:Int)^t).natAbs<2^(t+1):=by
  rw[Int.natAbs_pow]
  exact Nat.pow_lt_pow_right (by decide) (by omega)
 have bP:((2:Int)^t).natAbs<2^8420:=xm (V:=8420) (m:=t+1) (by omega) aa
 refine uO n m I.length z (cG n m A).length (cj n m A).length F (bF (cG n m A)) (bF (cj n m A)) (-4296) 0 (Kv m m (cj n m A)) 1 w L (fun d D=>(U d D).mono ?_) (fun d wo wc X Y D hw G=>?_) (fun d wo wc X Y D hw G=>?_) (fun d B v G=>?_) (fun d v u G hu=>?_) Z
 ·rintro e Q ⟨⟨h,_⟩|⟨_,h⟩,J⟩
  ·rw[st]at h;cases h
  ·exact⟨h,J⟩
 ·exact Iu n m I.length z wc Y F wo X (cG n m A) (cj n m A) d ⟨hw,lW,r6,H⟩ ⟨G,lV,H,H⟩ fW fV
 ·exact Ah m m Y X (cj n m A) d ⟨G,lV,H,H⟩ sV
 ·refine(dO 0 (G.toM qI) (by decide) (by decide)).mono ?_
  rintro e Q ⟨q,k1,k2,k3⟩
  exact⟨q,k1,k2,k3⟩
 ·have h5:=hu.lower t
  rw[show(0:Int)-((t:Nat):Int)= -4296 by omega,Int.one_mul]at h5
  exact qQ (W:=8420) (t:=366) (k2:=70) 35 (by decide) (by decide) G h5 bO bP (by decide) (by decide) (by decide) (by decide) O
end Go.Proofs.YtcbcmlaogehimaaGreatDoor
namespace Go.Proofs.YtcbcmlaogehimaaGreatDoor
open Go.ChangeShapes Go.WideShapes Go.ChangeAt Go.RowKit Go.Joins
theorem Tryz.own:ownKnob Tryz.prog.godebug=none:=by kernel_rfl
theorem Tryz.laidOut:laidOutB Tryz.prog=true:=by kernel_rfl
end Go.Proofs.YtcbcmlaogehimaaGreatDoor
namespace Go.Proofs.YtcbcmlaogehimaaGreatDoor
theorem j7{x:Int}(h:(Lit.int .i64 x).wf=true):-9223372036854775808≤x∧x≤9223372036854775807:=by
 simp[Lit.wf,IntKind.min,IntKind.max,IntKind.signed,IntKind.bits]at h
 omega
open Go.ChangeShapes Go.WideShapes Go.ChangeAt Go.RowKit Go.Joins
theorem Tryz.tabName:Tryz.prog.globalNamed "math/bits.deBruijn32tab" =some 1:=by kernel_rfl
theorem Tryz.tabType:(Tryz.prog.globals[1]?).map (·.type)=some 240:=by kernel_rfl
theorem Tryz.tabCells:Tryz.prog.cellsOf 240=32:=by kernel_rfl
theorem Tryz.byteCells:Tryz.prog.cellsOf 5=1:=by kernel_rfl
theorem EO:∀j,j<Lib.deBruijn32tab.length→(List.map Int.ofNat Lib.deBruijn32tab).getD j 0=((Lib.deBruijn32tab.getD j 0:Nat):Int):=by decide
theorem vg{W:World}(h:laidMetH Tryz.prog [("math/bits.deBruijn32tab",Rows.laid_math_bits_deBruijn32tab)] W):cq W:=by
 have u:=Lib.tabIs_of_head (zs:=Lib.deBruijn32tab.map Int.ofNat) (rest:=[]) Tryz.tabName Tryz.tabType Tryz.underlying240 Tryz.underlying5 Tryz.byteCells Tryz.tabCells h
 intro j d
 have:=u.cell Tryz.tabName j (by simpa using d)
 rw[this]
 congr 2
 exact EO j d
end Go.Proofs.YtcbcmlaogehimaaGreatDoor
namespace Go.Proofs.YtcbcmlaogehimaaGreatDoor
open Go.ChangeShapes Go.WideShapes Go.ChangeAt Go.RowKit Go.Joins Go.Deep
theorem Tryz.cellsBits:Tryz.prog.cellsOf 69=1:=by kernel_rfl
theorem Tryz.bytesBits:Tryz.prog.bytesOf 69=8:=by kernel_rfl
theorem sz{W:World}{a:Addr}{v:Value}(h:W.cell? a=some v):a.spot=none∧a.block<W.heap.size:=⟨World.cell?_spot h,World.block_lt_of_cell? W _ h⟩
theorem vh(b d i:Nat):(⟨b,d,none⟩:Addr).add i=⟨b,d+i,none⟩:=by simp[Addr.add]
theorem qf{x:Int}(h:(Lit.int .u64 x).wf=true):0≤x∧x≤18446744073709551615:=by
 simp[Lit.wf,IntKind.min,IntKind.max,IntKind.signed,IntKind.bits]at h
 omega
theorem Tryz.cellsMx:Tryz.prog.cellsOf 24=3:=by kernel_rfl
theorem vi{H:Type}{enc:TypeId×Value→H}{W:World}{G:Nat}{v:Value}{d:DataW H}{p:List MemPlace}(J:Value.okWide Tryz.prog W .any G 24 v)(h:DataW.Trod enc Tryz.prog W 0 (fun _=>true) true 24 v d p)
  (hs:∀n∈d.weights Tryz.prog 24,n≤reachBytes):
  ∃(r c:Int) (ao:Option Addr) (K:Nat) (I:List Int),v=.agg #[.int .i64 r,.int .i64 c,.slice ao I.length K]∧al W ao K I∧I.length≤17592186043904∧(-9223372036854775808≤r∧r≤9223372036854775807)∧(-9223372036854775808≤c∧c≤9223372036854775807):=by
 obtain⟨c0,c1,c2,y0,y1,y2,m,rfl,rfl,rfl,U,X,Y⟩:=open_agg3 Tryz.underlying24 (by kernel_rfl) Tryz.cellsMx J h
 obtain⟨r,e0,_,w0⟩:=DataW.trod_int Tryz.underlying3 U
 simp at e0
 subst e0
 obtain⟨c,O,_,w1⟩:=DataW.trod_int Tryz.underlying3 X
 simp at O
 subst O
 have b0:=j7 w0
 have b1:=j7 w1
 rcases open_ints Tryz.underlying22 Tryz.underlying69 Tryz.cellsBits Y with⟨z,_⟩|⟨a,u,D,zs,z,_,hl,hm,hz,Q,A,aa⟩
 ·simp at z
  subst z
  exact⟨r,c,none,0,[],rfl,⟨by simp,by simp,.inl rfl⟩,by simp,b0,b1⟩
 ·simp at z
  subst z
  have ae:zs.length=D:=by simpa using hz
  have L:(zs.take u).length=u:=by simp;omega
  refine⟨r,c,some a,D,zs.take u,by rw[L],⟨by omega,fun x Q=>qf (aa x (List.mem_of_mem_take Q)),?_⟩,?_,b0,b1⟩
  ·rcases Nat.eq_zero_or_pos u with rfl|hp
   ·left;simp
   ·right
    obtain⟨b,Z,N⟩:=a
    obtain⟨O,e2⟩:=sz (A 0 (by omega))
    have F:N=none:=by simpa[Addr.add]using O
    subst F
    refine⟨b,Z,rfl,by simpa[Addr.add]using e2,fun i hi=>?_⟩
    have h1:=A i (by omega)
    rw[vh]at h1
    rw[h1,List.getElem?_take,if_pos (by omega),List.getD_eq_getElem?_getD]
  ·rw[Q]at hs
   have hk:=hs ((zs.length)*8) (by
    simp only[DataW.weights,Tryz.underlying24,DataW.weightsEach,List.map,Tryz.underlying22,List.append_nil,List.mem_cons,List.mem_append,Tryz.bytesBits,lits,List.length_map,List.length_take,List.length_drop]
    refine .inr (.inr (.inl ?_))
    omega)
   simp only[reachBytes]at hk
   omega
end Go.Proofs.YtcbcmlaogehimaaGreatDoor
