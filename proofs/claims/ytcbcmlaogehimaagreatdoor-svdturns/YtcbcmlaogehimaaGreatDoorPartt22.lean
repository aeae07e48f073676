/- Part 22 of the texts. -/
import Derived.Test.YtcbcmlaogehimaaGreatDoorPartt21
set_option maxHeartbeats 4000000
set_option maxRecDepth 20000
namespace Go.Proofs.YtcbcmlaogehimaaGreatDoor
open Go.RowKit
theorem oY(z1 z2 lo1 lo2:Int)(A:z1≠0)(D:z2≠0)(F:lo1≤oE z1 lo1)(G:lo2≤oE z2 lo2):
  oM (z1*z2)=oM (oM z1*oM z2)∧oE (z1*z2) (lo1+lo2)=oE (oM z1*oM z2) (oE z1 lo1+oE z2 lo2):=by
 have d:=jr z1 lo1 A
 have h:=jr z2 lo2 D
 obtain⟨i,u⟩:∃i:Nat,oE z1 lo1=lo1+i:=⟨(oE z1 lo1-lo1).toNat,by omega⟩
 obtain⟨j,z⟩:∃j:Nat,oE z2 lo2=lo2+j:=⟨(oE z2 lo2-lo2).toNat,by omega⟩
 rw[u,show(lo1+(i:Int)-lo1).toNat=i by omega]at d
 rw[z,show(lo2+(j:Int)-lo2).toNat=j by omega]at h
 have e:z1*z2=oM z1*oM z2*2^(i+j):=by
  rw[Int.pow_add,show oM z1*oM z2*(2^i*2^j)=oM z1*2^i*(oM z2*2^j) by ac_rfl,d,h]
 have s:=gd (oM z1*oM z2) (i+j) (lo1+lo2)
 rw[←e]at s
 refine⟨s.1,?_⟩
 rw[s.2,u,z]
 congr 1
 omega
theorem yh(z lo:Int)(h:z≠0):lo≤oE z lo:=by
 rw[cu _ _ h];omega
theorem LD{w:World}{v u:Value}{d h z A:Int}(U:aC w v d z)(X:aC w u h A)(H:d.natAbs<1152921504606846976)(I:h.natAbs<1152921504606846976)(b1:-3000≤z∧z≤3000)(b2:-3000≤A∧A≤3000):
  Calls Tryz.prog 18 #[v,u] w fun r J=>∃q,r=.returned q∧aC J q (oM (d*h)) (oE (d*h) (z+A))∧Below w.heap.size w J:=by
 have D:(1152921504606846976:Nat)≤4294967296^30:=by decide+kernel
 obtain⟨n,a,c,L,rfl,K,g2,N,g4,g5⟩:=U.right (cw _ (by omega))
 obtain⟨n',a',c',G,rfl,O,k2,Q,k4,k5⟩:=X.right (cw _ (by omega))
 have Y:ai L=d.natAbs:=by rw[←N,aM]
 have Z:ai G=h.natAbs:=by rw[←Q,aM]
 have l1:L.length≤30:=(ia L K.2.1 (ay g2).2.1 30).2 (by rw[Y];exact Nat.lt_of_lt_of_le H D)
 have l2:G.length≤30:=(ia G O.2.1 (ay k2).2.1 30).2 (by rw[Z];exact Nat.lt_of_lt_of_le I D)
 have:=Bs n n' a a' c c' L G z A w K O l1 l2
 rw[N,Q]at this
 have hm:(d*h).natAbs<2^120:=by
  rw[Int.natAbs_mul]
  have:d.natAbs*h.natAbs<1152921504606846976*1152921504606846976:=Nat.mul_lt_mul_of_lt_of_le H (Nat.le_of_lt I) (by decide)
  exact Nat.lt_of_lt_of_le this (by decide)
 have hE:(if d*h=0 then 0 else IntKind.i64.wrap (IntKind.i64.wrap (z+A)+tz (d*h).natAbs))=oE (d*h) (z+A):=by
  by_cases F:d*h=0
  ·rw[if_pos F,F,bf]
  ·have ht:tz (d*h).natAbs<120:=jZ _ 120 (by omega) hm
   rw[if_neg F,cu _ _ F,a8 (z+A) (by omega),a8 _ (by omega)]
 rwa[hE]at this
def aT(w:World)(v:Value)(lo z:Int):Prop:=aC w v (oM z) (oE z lo)
theorem aT.below{w d:World}{v:Value}{lo z:Int}(h:aT w v lo z)(u:Below w.heap.size w d):aT d v lo z:=aC.below h u
theorem aT.zero(w:World)(lo:Int):aT w (.agg #[.bool false,.slice none 0 0,.int .i64 0]) lo 0:=by
 unfold aT
 rw[aX,bf]
 exact aC.zero w none 0
theorem aT.lower{w:World}{v:Value}{lo z:Int}(h:aT w v lo z)(k:Nat):aT w v (lo-k) (z*2^k):=by
 unfold aT
 have s:=gd z k (lo-k)
 rw[show lo-(k:Int)+k=lo by omega]at s
 rw[s.1,s.2]
 exact h
theorem nH(b:Nat)(w:World)(h:b<18446744073709551616)(z:aj b=true):
  Calls Tryz.prog 60 #[.int .u64 b] w fun r d=>∃u,r=.returned u∧aT d u (-1074) (fZ b)∧Below w.heap.size w d:=by
 obtain⟨A,D⟩:=dc b h z
 unfold aT
 rw[A,D]
 exact iW b w h
theorem LE{b:Nat}(h:fZ b≠0):fK b≠0:=fun e=>h (by
 have:=fU b
 rw[(cr b).1 e,dK]at this
 omega)
theorem Dp(b:Nat)(h:b<18446744073709551616)(d:aj b=true):(oM (fZ b)).natAbs<9007199254740992∧-1074≤oE (fZ b) (-1074)∧oE (fZ b) (-1074)≤1024:=by
 by_cases u:fZ b=0
 ·rw[u,aX,bf];decide
 ·obtain⟨z,A⟩:=dc b h d
  obtain⟨z1,z2,G,H,D,F,I,J,K⟩:=ee b h d (LE u)
  rw[z,A]
  exact⟨z2,D,F⟩
theorem H9{a b:Nat}{w:World}{v u:Value}(D:a<18446744073709551616)(F:b<18446744073709551616)(G:aj a=true)(H:aj b=true)(I:aT w v (-1074) (fZ a))(J:aT w u (-1074) (fZ b)):
  Calls Tryz.prog 18 #[v,u] w fun r z=>∃q,r=.returned q∧aT z q (-2148) (fZ a*fZ b)∧Below w.heap.size w z:=by
 obtain⟨L,N,O⟩:=Dp a D G
 obtain⟨Q,U,X⟩:=Dp b F H
 have:=LD I J (by omega) (by omega) (by omega) (by omega)
 unfold aT
 by_cases d:fZ a=0
 ·rw[d]at this⊢
  rw[aX,Int.zero_mul,aX,bf]at this
  rw[Int.zero_mul,aX,bf]
  exact this
 by_cases h:fZ b=0
 ·rw[h]at this⊢
  rw[aX,Int.mul_zero,aX,bf]at this
  rw[Int.mul_zero,aX,bf]
  exact this
 obtain⟨K,A⟩:=oY (fZ a) (fZ b) (-1074) (-1074) d h (yh _ _ d) (yh _ _ h)
 rw[show(-1074:Int)+-1074= -2148 by decide]at A
 rw[K,A]
 exact this
theorem Gv{w:World}{v:Value}{lo:Int}{W:Nat}{z:Int}(n:Int)(D:aT w v lo z)(h:eL lo W z)(F:-32768≤n∧n≤32768):
  Calls Tryz.prog 29 #[v,.int .i64 n] w fun r u=>∃q,r=.returned q∧aT u q (lo+n) z∧Below w.heap.size w u:=by
 unfold aT at*
 obtain⟨I,J,K,A,rfl,L,N,O,Q,U⟩:=D.right h.right.2
 have G:=oJ h.right.1
 have:=vO I J K A _ n w L N G F
 rw[O,KL]at this
 by_cases d:z=0
 ·subst d
  rw[aX,bf]at*
  exact this
 ·rw[KW _ _ d]at this
  have H:oE z (lo+n)=oE z lo+n:=by rw[cu _ _ d,cu _ _ d];omega
  rw[H]
  exact this
attribute [local go_sem ↓] Go.wp_at_zero Go.wp_at_succ
theorem eL.more{lo:Int}{W d:Nat}{z:Int}(h:eL lo W z)(u:W≤d)(A:lo+d≤16384)(D:d≤16384):eL lo d z:=
 ⟨Nat.lt_of_lt_of_le h.1 (Nat.pow_le_pow_right (by decide) u),h.2.1,A,D⟩
def um(I:List Int):Nat→Int
 |0=>0
 |k+1=>um I k+fZ (bH I k)*fZ (bH I k)
def Ia:Nat:=2^4196
theorem Gw:Ia=2^2098*2^2098:=by decide+kernel
theorem Dq:64*Ia<2^4203:=by decide+kernel
theorem oZ(x:Int):0≤x*x:=by
 rcases Int.le_total 0 x with h|h
 ·exact Int.mul_nonneg h h
 ·exact Int.mul_nonneg_of_nonpos_of_nonpos h h
theorem Dr(b:Nat)(d:aj b=true):(fZ b*fZ b).natAbs<Ia:=by
 rw[Int.natAbs_mul,Gw]
 have h:=e9 b d
 generalize (2:Nat)^2098=P at*
 exact Nat.mul_lt_mul'' h h
theorem JN(I:List Int)(n:Nat)(h:ja I n=true):∀k,k≤n→0≤um I k∧(um I k).natAbs≤k*Ia:=by
 intro k
 induction k with
 |zero=>intro _;exact⟨Int.le_refl _,by rw[Nat.zero_mul];exact Nat.le_refl _⟩
 |succ k ih=>
  intro z
  obtain⟨F,G⟩:=ih (by omega)
  have u:aj (bH I k)=true:=by
   have d:(ja I k&&aj (bH I k))=true:=li I n (k+1) z h
   rw[Bool.and_eq_true]at d
   exact d.2
  have A:=Dr (bH I k) u
  have D:0≤fZ (bH I k)*fZ (bH I k):=oZ _
  show 0≤um I k+fZ (bH I k)*fZ (bH I k)∧(um I k+fZ (bH I k)*fZ (bH I k)).natAbs≤(k+1)*Ia
  generalize fZ (bH I k)*fZ (bH I k)=q at*
  generalize um I k=s at*
  rw[Nat.succ_mul]
  generalize Ia=P at*
  omega
theorem Gx(I:List Int)(n:Nat)(z:n≤64)(h:ja I n=true)(k:Nat)(d:k≤n):eL (-2148) 4203 (um I k):=by
 obtain⟨A,u⟩:=JN I n h k d
 refine⟨?_,by decide,by decide,by decide⟩
 exact Nat.lt_of_le_of_lt (Nat.le_trans u (Nat.mul_le_mul_right _ (by omega))) Dq
theorem Gy(b:Nat)(d:aj b=true):eL (-2148) 4203 (fZ b*fZ b):=by
 have h:=Dr b d
 refine⟨?_,by decide,by decide,by decide⟩
 exact Nat.lt_of_lt_of_le h (Nat.le_trans (show Ia≤64*Ia by omega) (Nat.le_of_lt Dq))
theorem pY(ao:Option Addr)(c:Nat)(I:List Int)(w:World)(hI:al w ao c I)(hn:I.length≤64)(hf:ja I I.length=true):
  Calls Tryz.prog 32 #[.slice ao I.length c] w fun e D=>∃v,e=.returned v∧aT D v (-2148) (um I I.length)∧Below w.heap.size w D:=by
 have HI:=ac hI
 obtain⟨n,an⟩:∃n,I.length=n:=⟨_,rfl⟩
 rw[an]at hn hf⊢
 have HN:=ac an
 have HF:=ac hf
 have HL:=ac (fun k hk=>Gx I n hn hf k hk)
 have XR:=ac ((ak.new w (.bool false) (.slice none 0 0) (.int .i64 0)).old (.cells #[.bool false,.slice none 0 0,.int .i64 0] 35))
 have K:=ak.new (w.alloc (.cells #[.bool false,.slice none 0 0,.int .i64 0] 35)) (.bool false) (.slice none 0 0) (.int .i64 0)
 rw[aq]at K
 have XS:=ac K
 have B0:=ac ((ad w (.cells #[.bool false,.slice none 0 0,.int .i64 0] 35)).alloc (by simp) (.cells #[.bool false,.slice none 0 0,.int .i64 0] 35))
 clear hI an K hf
 go_enter Tryz.func32,Tryz.ntmps32
 go_wp2_with fail
 go_loopw[4] (fun i wr=>∃(k:Nat) (Q:Bool) (U:Option Addr) (Y Z:Nat) (X:Int),k≤n∧i=.int .i64 k∧Hid (ak wr w.heap.size (.bool false) (.slice none 0 0) (.int .i64 0))∧Hid (ak wr (w.heap.size+1) (.bool Q) (.slice U Y Z) (.int .i64 X))∧Hid (aT wr (.agg #[.bool Q,.slice U Y Z,.int .i64 X]) (-2148) (um I k))∧Hid (Below w.heap.size w wr)) (fun i _=>n-(intOf i).toNat)
 case atStart=>exact⟨0,false,none,0,0,0,Nat.zero_le _,rfl,XR,XS,aT.zero _ _,B0⟩
 case round=>
  clear XR XS B0
  obtain⟨k,Q,U,Y,Z,X,hk,rfl,H,K,hs,hB⟩:=hrel
  by_cases aI:k<n
  ·have a7:(k:Int)<(n:Int):=by omega
   obtain⟨b,bb,a6,hb,hc⟩:=((uH HI).below hB.out).ne (by rw[uH HN];omega)
   have a9:=hc k (by rw[uH HN];exact aI)
   have ae:=(uH HI).lt k
   have F:aj (bH I k)=true:=by
    have h2:(ja I k&&aj (bH I k))=true:=li I n (k+1) (by omega) (uH HF)
    rw[Bool.and_eq_true]at h2
    exact h2.2
   have C1:=ac (fun D=>nH (bH I k) D ae F)
   have C2:=ac (fun D v (hv:aT D v (-1074) (fZ (bH I k)))=>H9 ae ae F F hv hv)
   have G:=uH HL k (by omega)
   have C3:=ac (fun D v u (hv:aT D v (-2148) (um I k)) (hu:aT D u (-2148) (fZ (bH I k)*fZ (bH I k)))=>(show Calls Tryz.prog 19 #[v,u] D fun r ar=>∃q,r=.returned q∧aT ar q (-2148) (um I k+fZ (bH I k)*fZ (bH I k))∧Below D.heap.size D ar from t9 hv hu G (Gy _ F)))
   have eV:Hid (um I (k+1)=um I k+fZ (bH I k)*fZ (bH I k)):=rfl
   subst a6
   clear hc ae F G
   generalize um I k+fZ (bH I k)*fZ (bH I k)=s2 at*
   generalize fZ (bH I k)*fZ (bH I k)=p at*
   generalize fZ (bH I k)=z at*
   generalize bH I k=x at*
   go_wp2_with fail
   refine(uH C1 _).mono ?_
   rintro e wv ⟨q,rfl,⟨L,N,O,L1,rfl,i1⟩,A⟩
   have hv:aT wv (.agg #[.bool L,.slice N L1.length O,.int .i64 (oE z (-1074))]) (-1074) z:=⟨L,N,O,L1,rfl,i1⟩
   generalize L1.length=G at*
   generalize oE z (-1074)=X1 at*
   have HV:=ac (hv.below (ad wv (.cells #[.bool L,.slice N G O,.int .i64 X1] 35)))
   have bv:=hB.out.trans (A.mono hB.out.size)
   have BV:=ac (bv.alloc bv.size (.cells #[.bool L,.slice N G O,.int .i64 X1] 35))
   have HS:=ac (((uH hs).below A).below (ad wv (.cells #[.bool L,.slice N G O,.int .i64 X1] 35)))
   have XR:=ac (((uH H).all A).old (.cells #[.bool L,.slice N G O,.int .i64 X1] 35))
   have XS:=ac (((uH K).all A).old (.cells #[.bool L,.slice N G O,.int .i64 X1] 35))
   have XV:=ac (ak.new wv (.bool L) (.slice N G O) (.int .i64 X1))
   clear i1 hv A bv hB hs H K C1
   go_wp2_with fail
   refine ap (fun W=>Below w.heap.size w W∧ak W w.heap.size (.bool false) (.slice none 0 0) (.int .i64 0)∧ak W (w.heap.size+1) (.bool Q) (.slice U Y Z) (.int .i64 X)∧ak W wv.heap.size (.bool L) (.slice N G O) (.int .i64 X1)∧aT W (.agg #[.bool Q,.slice U Y Z,.int .i64 X]) (-2148) (um I k)∧aT W (.agg #[.bool L,.slice N G O,.int .i64 X1]) (-1074) z) ⟨uH BV,uH XR,uH XS,uH XV,uH HS,uH HV⟩ ?_
   rintro W0 ⟨b0,x0,d,x2,h1,h2⟩
   have b0:=b0.drew;have x0:=x0.drew;have d:=d.drew;have x2:=x2.drew
   have h1:=h1.below ((Below.refl W0.heap.size W0).drew);have h2:=h2.below ((Below.refl W0.heap.size W0).drew)
   clear BV XR XS XV HS HV
   have ax:w.heap.size≤w.heap.size+1:=by omega
   have az:w.heap.size≠w.heap.size+1:=by omega
   have HZ:=ac ax;have am:=ac az
   clear ax az
   generalize wv.heap.size=gv at*
   have y0:=d.c0;have y1:=d.c1;have y2:=d.c2;have f0:=d.free 0;have f1:=d.free 1;have f2:=d.free 2
   have v0:=x2.c0;have v1:=x2.c1;have v2:=x2.c2
   have X0:=ac x0;have h:=ac d;have ba:=ac x2;have H1:=ac h1;have H2:=ac h2;have BB:=ac b0
   clear x0 d x2 h1 h2 b0
   go_region_with (first|(go_at_call 18;refine(uH C2 _ _ (uH H2)).mono ?_;rintro e w4 ⟨q,rfl,⟨n4,a4,c4,L4,rfl,i4⟩,J⟩;clear y0 y1 y2 f0 f1 f2 v0 v1 v2;have Q4:=ac (show aT w4 (.agg #[.bool n4,.slice a4 L4.length c4,.int .i64 (oE p (-2148))]) (-2148) p from⟨n4,a4,c4,L4,rfl,i4⟩);generalize L4.length=l4 at*;generalize oE p (-2148)=X4 at*;have d:=(uH h).all J;have BB:=ac ((uH BB).trans (J.mono (uH BB).size));have X0:=ac ((uH X0).all J);have H1:=ac ((uH H1).below J);have h:=ac d;have y0:=d.c0;have y1:=d.c1;have y2:=d.c2;have f0:=d.free 0;have f1:=d.free 1;have f2:=d.free 2;clear i4 J d)|(go_at_call 19;refine(uH C3 _ _ _ (uH H1) (uH Q4)).mono ?_;rintro e w5 ⟨q,rfl,⟨n5,a5,c5,L5,rfl,i5⟩,ah⟩;clear y0 y1 y2 f0 f1 f2;have Q5:=ac (show aT w5 (.agg #[.bool n5,.slice a5 L5.length c5,.int .i64 (oE s2 (-2148))]) (-2148) s2 from⟨n5,a5,c5,L5,rfl,i5⟩);generalize L5.length=l5 at*;generalize oE s2 (-2148)=X5 at*;have d:=(uH h).all ah;have BB:=ac ((uH BB).trans (ah.mono (uH BB).size));have X0:=ac ((uH X0).all ah);have h:=ac d;have y0:=d.c0;have y1:=d.c1;have y2:=d.c2;have f0:=d.free 0;have f1:=d.free 1;have f2:=d.free 2;clear i5 ah d)|fail "NO ARM")
   all_goals
    have a0:=ac ((((uH X0).other (p:=⟨w.heap.size+1,0,none⟩) (uH am) (.bool n5)).other (p:=⟨w.heap.size+1,1,none⟩) (uH am) (.slice a5 l5 c5)).other (p:=⟨w.heap.size+1,2,none⟩) (uH am) (.int .i64 X5))
    have a2:=ac ((uH h).put (.bool n5) (.slice a5 l5 c5) (.int .i64 X5))
    have Q':=ac (aC.put3 (uH Q5) (uH h) (.bool n5) (.slice a5 l5 c5) (.int .i64 X5))
    have B':=ac ((((uH BB).setCell (p:=⟨w.heap.size+1,0,none⟩) (uH HZ) (.bool n5)).setCell (p:=⟨w.heap.size+1,1,none⟩) (uH HZ) (.slice a5 l5 c5)).setCell (p:=⟨w.heap.size+1,2,none⟩) (uH HZ) (.int .i64 X5))
    clear X0 h Q5 BB
    go_wp2_with fail
    go_round
    case rel=>exact⟨k+1,n5,a5,l5,c5,X5,by omega,by go_num,a0,a2,by rw[uH eV];exact Q',B'⟩
    case measure=>simp[intOf];omega
  ·have a3:k=n:=by omega
   subst a3
   have y0:=(uH K).c0
   have y1:=(uH K).c1
   have y2:=(uH K).c2
   have r0:=(uH H).c0
   have r1:=(uH H).c1
   have r2:=(uH H).c2
   have f0:=(uH H).free 0
   have f1:=(uH H).free 1
   have f2:=(uH H).free 2
   have A:w.heap.size+1≠w.heap.size:=by omega
   have HS:=ac (aC.put3 (uH hs) (uH H) (.bool Q) (.slice U Y Z) (.int .i64 X))
   have BE:=ac (((hB.out.setCell (p:=⟨w.heap.size,0,none⟩) (Nat.le_refl _) (.bool Q)).setCell (p:=⟨w.heap.size,1,none⟩) (Nat.le_refl _) (.slice U Y Z)).setCell (p:=⟨w.heap.size,2,none⟩) (Nat.le_refl _) (.int .i64 X))
   have xe:=(uH H).put (.bool Q) (.slice U Y Z) (.int .i64 X)
   have e0:=xe.c0;have e1:=xe.c1;have e2:=xe.c2
   clear xe A H K hs hB
   go_wp2_with fail
   exact bodyPost_ret (v:=.agg #[.bool Q,.slice U Y Z,.int .i64 X]) (by simp[results,Tryz.results32,go_sem,e0,e1,e2]) rfl ⟨_,rfl,uH HS,uH BE⟩
end Go.Proofs.YtcbcmlaogehimaaGreatDoor
namespace Go.Proofs.YtcbcmlaogehimaaGreatDoor
open Go.RowKit
def wH(I:List Int):List Nat:=I.map Int.toNat
theorem rG(I:List Int):(wH I).length=I.length:=by simp[wH]
theorem JO(I:List Int)(j:Nat)(d:j<I.length):(wH I)[j]? =some (bH I j):=by simp[wH,bH,d]
theorem lj(I:List Int)(j:Nat)(d:j<I.length):(wH I).take (j+1)=(wH I).take j++[bH I j]:=by
 rw[List.take_add_one,JO I j d]
 rfl
theorem Ds(x:Nat):∀(d:List Nat) (m:Nat),bB m (d++[x])=mx (bB m d) (fR x):=by
 intro d
 induction d with
 |nil=>intro m;rfl
 |cons y ys ih=>intro m;exact ih _
theorem Dt(k:Int)(x:Nat):∀(d:List Nat) (s:Nat),ry k s (d++[x])=Cm k (ry k s d) x:=by
 intro d
 induction d with
 |nil=>intro m;rfl
 |cons y ys ih=>intro m;exact ih _
theorem Du(I:List Int):∀j,j≤I.length→jj I j=bB 0 ((wH I).take j):=by
 intro j
 induction j with
 |zero=>intro _;rfl
 |succ j ih=>
  intro d
  rw[lj I j (by omega),Ds,←ih (by omega)]
  rfl
theorem yi(I:List Int):jj I I.length=bB 0 (wH I):=by
 rw[Du I _ (Nat.le_refl _),List.take_of_length_le (by rw[rG];exact Nat.le_refl _)]
theorem Dv(k:Int)(I:List Int):∀j,j≤I.length→mu (tL k I) (tL k I) j=ry k 0 ((wH I).take j):=by
 intro j
 induction j with
 |zero=>intro _;rfl
 |succ j ih=>
  intro d
  rw[lj I j (by omega),Dt,←ih (by omega)]
  show aV (mu (tL k I) (tL k I) j) (mV (bH (tL k I) j) (bH (tL k I) j))=_
  rw[show bH (tL k I) j=xV (bH I j) (-k)from JK _ _ j (by omega)]
  rfl
theorem Gz(k:Int)(I:List Int):mu (tL k I) (tL k I) I.length=ry k 0 (wH I):=by
 rw[Dv k I _ (Nat.le_refl _),List.take_of_length_le (by rw[rG];exact Nat.le_refl _)]
theorem yj(I:List Int):nG I=dj (wH I):=by
 unfold nG dj
 rw[Gz,yi]
attribute [local go_sem ↓] Go.wp_at_zero Go.wp_at_succ
theorem zZ(D F:Bool)(G H:Option Addr)(I J:Nat)(A B:List Nat)(x y:Int)(w:World)(hA:ag w G I A)(hB:ag w H J B)(la:A.length≤512)(lb:B.length≤512)(hz:(af D A*af F B).natAbs<du):
  Calls Tryz.prog 18 #[.agg #[.bool D,.slice G A.length I,.int .i64 x],.agg #[.bool F,.slice H B.length J,.int .i64 y]] w fun r d=>∃v,r=.returned v∧aC d v (oM (af D A*af F B)) (if af D A*af F B=0 then 0 else IntKind.i64.wrap (IntKind.i64.wrap (x+y)+tz (af D A*af F B).natAbs))∧Below w.heap.size w d:=by
 have CM:=ac (fun d h h'=>oq D F G H I J A B d h h' (by omega) (by omega))
 have CO:=ac (fun e' d u B' (Y:au B' d u (af D A*af F B)) (he:e'=IntKind.i64.wrap (x+y))=>show Calls Tryz.prog 27 #[u,.int .i64 e'] d fun r Z=>∃u,r=.returned u∧aC Z u (oM (af D A*af F B)) (if af D A*af F B=0 then 0 else IntKind.i64.wrap (IntKind.i64.wrap (x+y)+tz (af D A*af F B).natAbs))∧Below d.heap.size d Z by
  subst he
  exact rg _ (Y.toM hz) (by decide) (oA _))
 clear hz
 generalize af D A*af F B=z at*
 generalize (if z=0 then 0 else IntKind.i64.wrap (IntKind.i64.wrap (x+y)+tz z.natAbs))=ox at*
 generalize oM z=om at*
 have aa:Below w.heap.size w (((w.alloc (.cells #[.bool D,.slice G A.length I,.int .i64 x] 35)).alloc (.cells #[.bool F,.slice H B.length J,.int .i64 y] 35)).alloc (.cells #[.bool false,.slice none 0 0,.int .i64 0] 35)):=
  (((Below.refl _ _).alloc (Nat.le_refl _) _).alloc (by simp) _).alloc (by simp;omega) _
 have O:ak (((w.alloc (.cells #[.bool D,.slice G A.length I,.int .i64 x] 35)).alloc (.cells #[.bool F,.slice H B.length J,.int .i64 y] 35)).alloc (.cells #[.bool false,.slice none 0 0,.int .i64 0] 35)) w.heap.size (.bool D) (.slice G A.length I) (.int .i64 x):=((ak.new _ _ _ _).old _).old _
 have Q:ak (((w.alloc (.cells #[.bool D,.slice G A.length I,.int .i64 x] 35)).alloc (.cells #[.bool F,.slice H B.length J,.int .i64 y] 35)).alloc (.cells #[.bool false,.slice none 0 0,.int .i64 0] 35)) (w.heap.size+1) (.bool F) (.slice H B.length J) (.int .i64 y):=by
  have:=(ak.new (w.alloc (.cells #[.bool D,.slice G A.length I,.int .i64 x] 35)) (.bool F) (.slice H B.length J) (.int .i64 y)).old (.cells #[.bool false,.slice none 0 0,.int .i64 0] 35)
  simpa using this
 have U:ak (((w.alloc (.cells #[.bool D,.slice G A.length I,.int .i64 x] 35)).alloc (.cells #[.bool F,.slice H B.length J,.int .i64 y] 35)).alloc (.cells #[.bool false,.slice none 0 0,.int .i64 0] 35)) (w.heap.size+1+1) (.bool false) (.slice none 0 0) (.int .i64 0):=by
  have:=ak.new ((w.alloc (.cells #[.bool D,.slice G A.length I,.int .i64 x] 35)).alloc (.cells #[.bool F,.slice H B.length J,.int .i64 y] 35)) (.bool false) (.slice none 0 0) (.int .i64 0)
  simpa using this
 have B0:=ac aa;have X0:=ac O;have X1:=ac Q;have X2:=ac U
 clear aa O Q U
 go_enter Tryz.func18,Tryz.ntmps18
 go_wp2_with fail
 refine ap (fun W=>Below w.heap.size w W∧ak W w.heap.size (.bool D) (.slice G A.length I) (.int .i64 x)∧ak W (w.heap.size+1) (.bool F) (.slice H B.length J) (.int .i64 y)∧ak W (w.heap.size+1+1) (.bool false) (.slice none 0 0) (.int .i64 0)) ⟨uH B0,uH X0,uH X1,uH X2⟩ ?_
 clear B0 X0 X1 X2
 rintro X ⟨b0,O,Q,U⟩
 have s0:w.heap.size+1+1<X.heap.size:=U.lt
 have hK:∀d,Below (w.heap.size+1+1) X d→Below (w.heap.size+1+1) X d∧d.cell? ⟨w.heap.size,0,none⟩=some (.bool D)∧d.cell? ⟨w.heap.size,1,none⟩=some (.slice G A.length I)∧d.cell? ⟨w.heap.size,2,none⟩=some (.int .i64 x)∧d.cell? ⟨w.heap.size+1,0,none⟩=some (.bool F)∧d.cell? ⟨w.heap.size+1,1,none⟩=some (.slice H B.length J)∧d.cell? ⟨w.heap.size+1,2,none⟩=some (.int .i64 y):=fun d h=>
  ⟨h,(O.below h (by omega)).c0,(O.below h (by omega)).c1,(O.below h (by omega)).c2,(Q.below h (by omega)).c0,(Q.below h (by omega)).c1,(Q.below h (by omega)).c2⟩
 have HK:=ac hK;have BB:=ac b0;have X2:=ac U
 clear hK b0 O Q U
 go_region_held3(fun d=>Below (w.heap.size+1+1) X d∧d.cell? ⟨w.heap.size,0,none⟩=some (.bool D)∧d.cell? ⟨w.heap.size,1,none⟩=some (.slice G A.length I)∧d.cell? ⟨w.heap.size,2,none⟩=some (.int .i64 x)∧d.cell? ⟨w.heap.size+1,0,none⟩=some (.bool F)∧d.cell? ⟨w.heap.size+1,1,none⟩=some (.slice H B.length J)∧d.cell? ⟨w.heap.size+1,2,none⟩=some (.int .i64 y))
  (first|exact uH HK _ (Below.refl _ _).drew|exact uH HK _ (by assumption)|exact uH HK _ (aA am (by omega) _ _ _))
  (first|(go_at_call 54;refine(uH CM _ (hA.below ((uH BB).trans ((Below.refl _ _).drew))) (hB.below ((uH BB).trans ((Below.refl _ _).drew)))).mono ?_;rintro e w3 ⟨v,rfl,⟨n4,a4,c4,L4,rfl,i4⟩,K⟩;have ae:Below (w.heap.size+1+1) X w3:=((Below.refl _ _).drew).trans (K.mono (by simp;omega));have X3:=ac ((uH X2).drew.below K (by simp;omega));have IZ:=ac (show au 0 w3 (.agg #[.bool n4,.slice a4 L4.length c4]) z from⟨n4,a4,c4,L4,rfl,i4⟩);have s1:=K.size;have ah:=ac ((uH BB).trans (ae.mono (by omega)));clear K i4)|(go_at_call 27;refine(uH CO _ _ _ _ (uH IZ) (by first|rfl|exact(eE _))).mono ?_;rintro e w4 ⟨u,rfl,Y,L⟩;obtain⟨n5,a5,c5,L5,rfl,i5⟩:=Y.num;have am:Below (w.heap.size+1+1) X w4:=ae.trans (L.mono (by simp at s1;omega));have N:=(uH X3).below L (by simp at s1;omega);have y0:=N.c0;have y1:=N.c1;have y2:=N.c2;have f0:=N.free 0;have f1:=N.free 1;have f2:=N.free 2;have IU:=ac Y;have X5:=ac N;have an:=ac ((uH ah).trans (L.mono (by simp at s1;omega)));clear L Y i5 N))
 go_wp2
 refine bodyPost_ret (v:=.agg #[.bool n5,.slice a5 L5.length c5,.int .i64 ox]) (by simp[results,Tryz.results18,go_sem,y0,y1,y2]) rfl ⟨_,rfl,(uH IU).put3 (uH X5) _ _ _,aA (uH an) (by omega) _ _ _⟩
theorem Ib{w:World}{v u:Value}{lo1 lo2:Int}{W1 W2:Nat}{z1 z2:Int}(Q:aT w v lo1 z1)(U:aT w u lo2 z2)(F:eL lo1 W1 z1)(G:eL lo2 W2 z2)(X:W1+W2≤16384):
  Calls Tryz.prog 18 #[v,u] w fun r I=>∃q,r=.returned q∧aT I q (lo1+lo2) (z1*z2)∧Below w.heap.size w I:=by
 unfold aT at*
 have J:∀{z lo:Int} {W:Nat},eL lo W z→-16384≤oE z lo∧oE z lo≤16384:=fun{z lo W} h=>by
  by_cases H:z=0
  ·rw[H,bf];decide
  ·have:=h.tzs H
   have:=h.2
   rw[cu _ _ H];omega
 have b1:=J F
 have b2:=J G
 obtain⟨na,ao,ca,A,rfl,a1,a2,N,a4,a5⟩:=Q.right F.right.2
 obtain⟨nb,bo,cb,B,rfl,c1,c2,O,c4,c5⟩:=U.right G.right.2
 have K:(oM z1*oM z2).natAbs<2^(W1+W2):=by
  rw[Int.natAbs_mul]
  exact Nat.lt_of_le_of_lt (Nat.mul_le_mul (qt z1) (qt z2)) (km F.1 G.1)
 have Y:(oM z1*oM z2).natAbs<du:=jq K X
 have:=zZ na nb ao bo ca cb A B (oE z1 lo1) (oE z2 lo2) w a1 c1 a4 c4 (by rw[N,O];exact Y)
 rw[N,O]at this
 by_cases d:z1=0
 ·subst d
  rw[aX,Int.zero_mul,aX,if_pos rfl]at this
  rw[Int.zero_mul,aX,bf]
  exact this
 by_cases D:z2=0
 ·subst D
  rw[aX,Int.mul_zero,aX,if_pos rfl]at this
  rw[Int.mul_zero,aX,bf]
  exact this
 obtain⟨m1,m2⟩:=oY z1 z2 lo1 lo2 d D (yh _ _ d) (yh _ _ D)
 have Z:=(fw z1 d).1
 have o2:=(fw z2 D).1
 have L:oM z1*oM z2≠0:=Int.mul_ne_zero Z o2
 have ht:tz (oM z1*oM z2).natAbs<W1+W2:=jZ _ (W1+W2) (by omega) K
 rw[if_neg L,a8 (oE z1 lo1+oE z2 lo2) (by omega),a8 _ (by omega),←cu _ (oE z1 lo1+oE z2 lo2) L]at this
 rw[m1,m2]
 exact this
theorem LF{w:World}{v u:Value}{lo:Int}{W:Nat}{z1 z2:Int}(h:aT w v lo z1)(z:aT w u lo z2)(A:eL lo W z1)(D:eL lo W z2):
  Calls Tryz.prog 19 #[v,u] w fun r d=>∃q,r=.returned q∧aT d q lo (z1+z2)∧Below w.heap.size w d:=t9 h z A D
theorem o4:(Tryz.prog.info? 69).map (fun i=>(i.zero,i.size,i.bytes))=some (some (.int .u64 0),1,8):=by kernel_rfl
def d6(base:Nat)(w:World)(v:Value)(S:List Nat):Prop:=w.ownsRow base 69 1 v S.length (S.map kv)∧∀x∈S,x<18446744073709551616
theorem d6.below{d:Nat}{w z:World}{v:Value}{S:List Nat}(h:d6 d w v S)(u:Below w.heap.size w z):d6 d z v S:=
 ⟨h.1.kept (row:=none) ⟨u.os,u.tape,u.output,u.size,fun k A _=>u.block k A⟩ (by cases hv:v.ownBlock<;>simp),h.2⟩
theorem d6.bits{u:Nat}{w:World}{v:Value}{S:List Nat}(h:d6 u w v S):∃D d,v=.slice D S.length d∧al w D d (S.map (fun x:Nat=>(x:Int))):=by
 have N:(S.map kv).length=S.length:=by simp
 have H:∀x∈S.map (fun x:Nat=>(x:Int)),0≤x∧x≤18446744073709551615:=by
  intro x J
  obtain⟨y,I,rfl⟩:=List.mem_map.1 J
  have:=h.2 y I
  omega
 rcases h.1.2 with⟨A,O⟩|⟨g,d,K,A,Q,F,U,X,Y,L⟩
 ·have:S= []:=List.length_eq_zero_iff.1 (by omega)
  subst this
  exact⟨none,0,A,⟨by simp,by simp,.inl rfl⟩⟩
 ·refine⟨some ⟨g,0,none⟩,d,A,⟨by simp;omega,H,.inr ⟨g,0,rfl,(Array.getElem?_eq_some_iff.1 F).1,fun i G=>?_⟩⟩⟩
  have z:i<S.length:=by simpa using G
  have q:(S.map kv)[i]? =some (.int .u64 ((S[i]:Nat):Int)):=by
   rw[List.getElem?_map,List.getElem?_eq_getElem z];rfl
  rw[←L,List.getElem?_take,if_pos (by omega)]at q
  rw[cell_of_row w g _ _ _ _ F,Nat.zero_add]
  have e:(S.map (fun x:Nat=>(x:Int)))[i]?.getD 0=((S[i]:Nat):Int):=by simp[z]
  rw[e]
  simpa using q
theorem d6.nil(w:World)(d:Nat)(h:d≤w.heap.size):d6 d (w.alloc (.cells #[] 69)) (.slice (some ⟨w.heap.size,0,none⟩) 0 0) []:=
 ⟨World.ownsRow_made w #[] 0 h (by simp[maxLen]) (by simp),by simp⟩
theorem d6.snoc{d:Nat}{w:World}{v:Value}{S:List Nat}{x n:Nat}(z:n=S.length)(h:w.ownsRow d 69 1 v (n+1) (S.map kv++[.int .u64 (x:Int)]))(A:∀x∈S,x<18446744073709551616)(D:x<18446744073709551616):d6 d w v (S++[x]):=by
 subst z
 refine⟨by simpa[kv]using h,fun y F=>?_⟩
 rcases List.mem_append.1 F with u|u
 ·exact A y u
 ·simp at u;subst u;exact D
def lX(f:Nat→Nat)(k:Nat):List Nat:=(List.range k).map f
theorem gA(f:Nat→Nat)(k:Nat):(lX f k).length=k:=by simp[lX]
theorem o6(f:Nat→Nat)(k:Nat):lX f (k+1)=lX f k++[f k]:=by simp[lX,List.range_succ]
end Go.Proofs.YtcbcmlaogehimaaGreatDoor
namespace Go.Proofs.YtcbcmlaogehimaaGreatDoor
open Go.RowKit
theorem fj{P:Program}(w:World){d:Array Oper}{rest:List Oper}{o:Oper}{a:Act}{Q:Exit→Act→World→Prop}(u:o.guard=none)(s x:Operand)(t:TypeId)
  (G:o.op=.call {callee:=.builtin .append,args:=#[s,x],argTypes:=#[t,t]}) (z A D:Value) (F:World) (H:a.eval s=z) (I:a.eval x=A)
  (J:(Builtin.append_ #[t,t] o.type #[z,A]).run P w=.ok D F) (h:wpList P d Q rest (a.put o.dst D) F):wpList P d Q (o::rest) a w:=
 wpList_plain u fun _ K=>by
  unfold Oper.wp execOp
  simp only[G,resolve,invoke,builtin,Sem.run_bind,Sem.run_pure,Result.andThen_ok,List.map_toArray,List.map_cons,List.map_nil,H,I,J]
  exact K _ _ h
def Ic(v u:Value):Prop:=∀g,v.ownBlock=some g→u.ownBlock≠some g
theorem d6.push{d:Nat}{w:World}{v:Value}{S:List Nat}(h:d6 d w v S)(x:Nat)(hx:x<18446744073709551616)(hl:S.length≤1000000)(hb:d≤w.heap.size)(ty:TypeId):
  ∃F z,(Builtin.append_ #[22,22] ty #[v,.slice (some ⟨w.heap.size,0,none⟩) 1 1]).run Tryz.prog (w.alloc (.cells #[.int .u64 (x:Int)] 69))=.ok F z∧d6 d z F (S++[x])∧Below d w z∧
   (∀u T,d6 d w u T→Ic v u→d6 d z u T∧Ic F u)∧(∀K c I,al w K c I→(I= []∨∃b A,K=some ⟨b,A,none⟩∧v.ownBlock≠some b)→al z K c I):=by
 obtain⟨i0,N,Q,U,X⟩:=info_parts o4
 obtain⟨F,z,e1,e2,L,e4,G⟩:=run_append_own_at (P:=Tryz.prog) (w.alloc (.cells #[.int .u64 (x:Int)] 69)) d 22 ty 69 i0 (.int .u64 0) 1 8 Tryz.underlying22 N Q U X rfl (by decide) v S.length (S.map kv) (h.1.alloc _) ⟨w.heap.size,0,none⟩ 1 1 [.int .u64 (x:Int)] rfl (cell_one_new _ _ _) (fun u D=>by simp at D;subst D;rfl) (by unfold maxLen;omega) (by omega) (by simp;omega)
 have hn:d6 d z F (S++[x]):=d6.snoc rfl e2 h.2 hx
 refine⟨F,z,e1,hn,((ad w _).mono hb).grown L (by simp;omega) (fun g J=>(h.1.lt g J).1),?_,?_⟩
 ·intro u T D ha
  refine⟨⟨(D.1.alloc _).kept L ?_,D.2⟩,?_⟩
  ·cases hv:u.ownBlock with
   |none=>exact .inl rfl
   |some g=>
    right
    intro e
    exact ha g e.symm hv
  ·intro g J H
   rcases G with G|G
   ·exact ha g (by rw[←G];exact J) H
   ·rw[J]at G
    have h1:=(D.1.lt g H).2
    simp at G
    omega
 ·intro K c I hI Y
  have O:=hI.below (ad w (.cells #[.int .u64 (x:Int)] 69))
  refine⟨O.1,O.2.1,?_⟩
  rcases O.2.2 with e|⟨b,A,f1,f2,f3⟩
  ·exact .inl e
  rcases Y with e|⟨b',aa,Z,g2⟩
  ·exact .inl e
  rw[f1]at Z
  simp only[Option.some.injEq,Addr.mk.injEq]at Z
  obtain⟨rfl,rfl,_⟩:=Z
  refine .inr ⟨b,A,f1,Nat.lt_of_lt_of_le f2 L.size,fun i N=>?_⟩
  exact L.cell (f3 i N) (fun e=>g2 e.symm)
end Go.Proofs.YtcbcmlaogehimaaGreatDoor
