/- Part 24 of the texts. -/
import Derived.Test.YtmpkkhackbpflaaGreatDoorPartg23
set_option maxHeartbeats 2000000
set_option maxRecDepth 20000
namespace Go.Proofs.YtmpkkhackbpflaaGreatDoor
open Go.RowKit
def iV(n:Int):Nat:=gc (decide (n<0)) (cC n.natAbs 0)
theorem DW(n:Int):iV n<18446744073709551616:=jS _ _ (by have:=di n.natAbs 0;omega)
theorem Kn(n:Int)(h:-9223372036854775808≤n∧n≤9223372036854775807)(d:n≠0):tz n.natAbs<64:=kK _ 64 (by omega) (by
 have:(2:Nat)^64=18446744073709551616:=by decide
 omega)
theorem MT(a:Nat)(k:Int)(w:World)(D:k=4∨k=3∨k=0)
  (t:∀d,Calls Tryz.prog 122 #[.int .u64 a] d fun r h=>r=.returned (.int .i64 k)∧Below d.heap.size d h):
  Calls Tryz.prog 186 #[.int .u64 a] w fun r d=>r=.returned (.int .i64 0)∧Below w.heap.size w d:=by
 have z:=ac t
 clear t
 rcases D with rfl|rfl|rfl
 all_goals
  go_enter Tryz.func186,Tryz.ntmps186
  go_wp2_with fail
  refine(uH z _).mono ?_
  rintro e F ⟨rfl,l⟩
  clear z
  go_wp2
  go_ret
  exact⟨rfl,l⟩
theorem MU(a:Nat)(k D X t:Int)(w:World)(h4:(k==4)=false)(h3:(k==3)=false)(h0:(k==0)=false)(ht:-2000≤t∧t≤2000)(O:c8 w)
  (Q:∀h,Calls Tryz.prog 122 #[.int .u64 a] h fun r l=>r=.returned (.int .i64 k)∧Below h.heap.size h l)
  (T:∀h,c8 h→Calls Tryz.prog 193 #[.int .u64 a] h fun r l=>ow l r 0 D X∧Below h.heap.size h l)
  (U:∀h v,bc h v D X→Calls Tryz.prog 214 #[v] h fun r l=>r=.returned (.int .i64 t)∧Below h.heap.size h l):
  Calls Tryz.prog 186 #[.int .u64 a] w fun r h=>r=.returned (.int .i64 (t-1))∧Below w.heap.size w h:=by
 have V:=ac Q;have Y:=ac T;have Z:=ac U;have HT:=ac O
 clear Q T U O
 have hw:=bF (t-1) (by omega)
 go_enter Tryz.func186,Tryz.ntmps186
 go_wp2_with fail
 refine(uH V _).mono ?_
 rintro e w1 ⟨rfl,d⟩
 have H:=ac d
 clear V d
 go_wp2_with fail
 refine(uH Y _ ((uH HT).all (uH H))).mono ?_
 rintro e G ⟨⟨v,rfl,hv⟩,d⟩
 obtain⟨J,L,M,F,rfl,i2⟩:=hv
 have z:Below G.heap.size G (G.alloc (.cells #[.bool J,.slice L F.length M,.int .i64 X] 57)):=(Below.refl _ _).alloc (Nat.le_refl _) _
 have HY:=ac ((show bc G (.agg #[.bool J,.slice L F.length M,.int .i64 X]) D X from⟨J,L,M,F,rfl,i2⟩).below z)
 have N:=ac ((uH H).trans ((d.trans (z.mono d.size)).mono (uH H).size))
 have I:=a8.new G (.bool J) (.slice L F.length M) (.int .i64 X)
 have z0:=I.c0;have z1:=I.c1;have z2:=I.c2
 clear i2 d z Y I H
 generalize F.length=l2 at*
 go_wp2_with fail
 refine(uH Z _ _ (uH HY)).mono ?_
 rintro e w3 ⟨rfl,d⟩
 have B3:=ac ((uH N).trans (d.mono (uH N).size))
 clear d Z N z0 z1 z2 HY
 go_wp2
 go_ret
 exact⟨rfl,uH B3⟩
theorem zt{v:Nat}(h:v<9007199254740992):bl v≤53:=by
 by_cases d:v=0
 ·subst d;decide
 ·obtain⟨t,l,z⟩:=bQ v d
  have:=dh (Nat.lt_of_le_of_lt l (by rw[Df];exact h))
  omega
theorem MV{w:World}{v:Value}{D X:Int}(d:bc w v D X)(t:D%2=1)(z:D.natAbs<9007199254740992)(N:-1074≤X∧X≤1024):
  Calls Tryz.prog 214 #[v] w fun r F=>r=.returned (.int .i64 ((bl D.natAbs:Int)+X))∧Below w.heap.size w F:=by
 obtain⟨h,H,I,A,rfl,l,J,L,T,M⟩:=d.right (dK _ (by omega))
 have:=mj h H I A X w l (by omega)
 have O:oh h A X=true:=M.trans (sY t (by omega))
 have d:val A=D.natAbs:=by rw[←L,bh]
 have G:=jq l.2.1 J
 have Q:bl D.natAbs≤53:=zt z
 rw[G,d,bF _ (by omega)]at this
 exact this
def eX(a:Nat):Int:=if fK a=4∨fK a=3∨fK a=0 then 0 else(bl (fD a).natAbs:Int)+fX a-1
theorem DX(a:Nat)(w:World)(l:a<18446744073709551616)(F:c8 w):
  Calls Tryz.prog 186 #[.int .u64 a] w fun r d=>r=.returned (.int .i64 (eX a))∧Below w.heap.size w d:=by
 have z:=fun d=>dj a d l
 unfold eX
 by_cases h:fK a=4∨fK a=3∨fK a=0
 ·rw[if_pos h]
  exact MT a _ w h z
 ·rw[if_neg h]
  have D:=gt a (by omega) (by omega)
  obtain⟨z1,z2,H,I,J,L,M,N,O⟩:=fL a l D (by omega)
  exact MU a _ (fD a) (fX a) _ w (by simp;omega) (by simp;omega) (by simp;omega) (by omega) F z (fun d t=>ef a d l D t) (fun d v G=>MV G z1 z2 (by omega))
theorem fm:1267650600228229401496703205376*p2 (-1075)≤1∧0<p2 (-1075)∧p2 (-1074)=2*p2 (-1075):=by
 refine⟨?_,aw _,?_⟩
 ·have l:=aA (show(-1075:Int)≤-100 by decide)
  have d:=pz 100
  have h:p2 100=1267650600228229401496703205376:=by rw[show(100:Int)=((100:Nat):Int) by rfl,cR];rfl
  rw[h]at d
  grind
 ·rw[show(-1074:Int)= -1075+1 by rfl,bR]
theorem DY:(1024:Rat)≤p2 1023:=by
 have h:=aA (show(10:Int)≤1023 by decide)
 have d:p2 10=1024:=by rw[show(10:Int)=((10:Nat):Int) by rfl,cR];rfl
 grind
theorem ju(a:Nat)(h:fS a=false):0≤fQ a:=by
 rw[df,h]
 exact pJ _
def DZ(k:Int)(s x:Nat):Nat:=aV s (mV (xV x (-k)) (xV x (-k)))
def dQ(k:Int)(x:Nat):Rat:=fQ x*p2 (-k)
theorem s7(t:Nat)(d:ah t=true):fS (mV t t)=false∧mV t t<9223372036854775808:=by
 have h:=di (rv (fR t)*rv (fR t)) (-2148)
 rw[xx t t d d,Bool.xor_self,cn]
 exact⟨decide_eq_false (by omega),by omega⟩
theorem xz(k:Int)(x:Nat)(D:x<18446744073709551616)(H:ah x=true)(V:ab (dQ k x)≤2):
  ah (mV (xV x (-k)) (xV x (-k)))=true∧fS (mV (xV x (-k)) (xV x (-k)))=false∧
  9007199254740992*ab (fQ (mV (xV x (-k)) (xV x (-k)))-dQ k x*dQ k x)≤dQ k x*dQ k x+9007199254740992*(8*p2 (-1075)):=by
 obtain⟨n1,n2,U⟩:=fm
 have X:=DY
 have I:ab (fQ x)*p2 (-k)=ab (dQ k x):=by
  unfold dQ
  rw[aK,aQ (Rat.le_of_lt (aw _))]
 have h:=kn x (-k) D H (by rw[I];grind)
 have F:=ko x (-k) D H h
 rw[show fQ x*p2 (-k)=dQ k x from rfl]at F
 have N:=zq x (-k) D
 generalize xV x (-k)=t at*
 generalize dQ k x=d at*
 have O:ab (fQ t-d)≤p2 (-1075):=by
  rcases F with e|e
  ·rw[e];unfold ab;grind
  ·have:=e.2.2
   grind
 generalize p2 (-1075)=η at*
 clear F I
 obtain⟨δ,z⟩:∃δ,fQ t=d+δ:=⟨fQ t-d,by grind⟩
 rw[z]at O
 have Y:δ≤η∧-δ≤η:=by
  have:=au (d+δ-d)
  grind
 have l:=au d
 have Z:=Rat.mul_nonneg (show 0≤2-d by grind) (show 0≤η-δ by grind)
 have m2:=Rat.mul_nonneg (show 0≤2-d by grind) (show 0≤η+δ by grind)
 have m3:=Rat.mul_nonneg (show 0≤2+d by grind) (show 0≤η-δ by grind)
 have m4:=Rat.mul_nonneg (show 0≤2+d by grind) (show 0≤η+δ by grind)
 have m5:=Rat.mul_nonneg (show 0≤η-δ by grind) (show 0≤η+δ by grind)
 have m6:=al δ
 have m7:=al d
 have m8:=Rat.mul_nonneg (show 0≤η by grind) (show 0≤1-η by grind)
 have m9:=Rat.mul_nonneg (show 0≤2-d by grind) (show 0≤2+d by grind)
 have G:fQ t*fQ t=d*d+2*(d*δ)+δ*δ:=by rw[z];grind
 have T:fQ t*fQ t≤d*d+5*η∧d*d≤fQ t*fQ t+5*η:=by
  rw[G];constructor<;>grind
 have J:=al (fQ t)
 have L:=s6 t t h h (by rw[aQ J];grind)
 refine⟨L,(s7 t h).1,?_⟩
 have M:=sZ t t h h L
 rw[aQ J,U]at M
 generalize fQ (mV t t)=P at*
 generalize fQ t*fQ t=Q at*
 rcases M with e|e
 ·have:=au (P-Q)
  unfold ab
  grind
 ·have:=au (P-Q)
  have:=e.2
  unfold ab
  grind
theorem zu(k:Int)(s x:Nat)(T H G:Rat)(I:x<18446744073709551616)(J:ah x=true)(L:ab (dQ k x)≤2)(d:ah s=true)(l:fS s=false)
  (hT:T+dQ k x*dQ k x≤G) (M:1≤G) (N:G≤256) (hH:H≤64*G)
  (he:9007199254740992*ab (fQ s-T)≤2*T+2*H):
  ah (DZ k s x)=true∧fS (DZ k s x)=false∧9007199254740992*ab (fQ (DZ k s x)-(T+dQ k x*dQ k x))≤2*(T+dQ k x*dQ k x)+2*(H+G):=by
 obtain⟨h,t,ep⟩:=xz k x I J L
 obtain⟨n1,n2,n3⟩:=fm
 have hB:=DY
 unfold DZ
 generalize mV (xV x (-k)) (xV x (-k))=p at*
 have s0:=ju s l
 have p0:=ju p t
 have m7:=al (dQ k x)
 generalize dQ k x*dQ k x=D at*
 have l1:=au (fQ s-T)
 have l2:=au (fQ p-D)
 have z:ab (fQ s+fQ p)=fQ s+fQ p:=aQ (by grind)
 have F:=iD s p d h (by rw[z];grind)
 have O:=iC s p d h F
 rw[z]at O
 refine⟨F,?_,?_⟩
 ·have h1:=(sT s p d h).2
  have hz:0≤fZ s∧0≤fZ p:=by
   unfold fZ pv;rw[l,t];simp only[Bool.false_eq_true,if_false];omega
  obtain⟨U,V⟩:=bY d
  obtain⟨X,Z⟩:=bY h
  rw[(zg s p U V X Z).1]
  split
  ·rw[l,t];decide
  ·have Q:=di (aZ s p).natAbs (-1074)
   rw[js _ _ (by omega)]
   exact decide_eq_false (by unfold aZ;omega)
 ·have l3:=au (fQ (aV s p)-(fQ s+fQ p))
  generalize fQ (aV s p)=Y at*
  generalize fQ s=S at*
  generalize fQ p=P at*
  generalize p2 (-1075)=η at*
  refine Rat.le_trans (Rat.mul_le_mul_of_nonneg_left (bU (y:=ab (Y-(S+P))+ab (S-T)+ab (P-D)) (by grind) (by grind)) (by decide)) ?_
  grind
def oK(k:Int):Nat→List Nat→Nat
 |s,[]=>s
 |s,x::xs=>oK k (DZ k s x) xs
def eO(k:Int):List Nat→Rat
 | []=>0
 |x::xs=>dQ k x*dQ k x+eO k xs
theorem D2(k:Int)(d:List Nat):0≤eO k d:=by
 induction d with
 |nil=>exact Rat.le_refl
 |cons x d ih=>
  have:=al (dQ k x)
  unfold eO
  grind
theorem s8(k:Int)(G:Rat)(h:1≤G)(l:G≤256):∀(d:List Nat) (s:Nat) (T H:Rat),(∀x∈d,x<18446744073709551616∧ah x=true∧ab (dQ k x)≤2)→ah s=true→fS s=false→
  T+eO k d≤G→H+(d.length:Rat)*G≤64*G→9007199254740992*ab (fQ s-T)≤2*T+2*H→
  ah (oK k s d)=true∧fS (oK k s d)=false∧9007199254740992*ab (fQ (oK k s d)-(T+eO k d))≤2*(T+eO k d)+2*(H+(d.length:Rat)*G):=by
 intro d
 induction d with
 |nil=>
  intro s T H _ D F _ _ I
  refine⟨D,F,?_⟩
  have M:oK k s []=s:=rfl
  have t:eO k []=0:=rfl
  have z:(([]:List Nat).length:Rat)=0:=rfl
  rw[M,t,z,Rat.add_zero]
  grind
 |cons x d ih=>
  intro s T H J D F hT hH I
  obtain⟨O,Q,U⟩:=J x (List.mem_cons_self)
  have t:eO k (x::d)=dQ k x*dQ k x+eO k d:=rfl
  have z:((x::d).length:Rat)=(d.length:Rat)+1:=by rw[List.length_cons,Rat.natCast_add];rfl
  have N:((x::d).length:Rat)*G=(d.length:Rat)*G+G:=by rw[z];grind
  have q0:=D2 k d
  have l0:0≤(d.length:Rat)*G:=Rat.mul_nonneg Rat.natCast_nonneg (by grind)
  rw[t]at hT⊢
  rw[N]at hH⊢
  obtain⟨V,X,Y⟩:=zu k s x T H G O Q U D F (by grind) h l (by grind) I
  obtain⟨Z,i2,i3⟩:=ih (DZ k s x) (T+dQ k x*dQ k x) (H+G) (fun y L=>J y (List.mem_cons_of_mem _ L)) V X (by grind) (by grind) Y
  refine⟨Z,i2,?_⟩
  rw[show T+(dQ k x*dQ k x+eO k d)=T+dQ k x*dQ k x+eO k d by grind,show H+((d.length:Rat)*G+G)=H+G+(d.length:Rat)*G by grind]
  exact i3
def mx(a b:Nat):Nat:=if fK a=4∨fK b=4 then 9221120237041090560 else if fZ a<fZ b then b else a
def bS:Nat→List Nat→Nat
 |m,[]=>m
 |m,x::xs=>bS (mx m (fR x)) xs
theorem iJ(r:Nat)(h:r<9223372036854775808):fZ r=(rv r:Int)∧fR r=r∧fS r=false:=by
 have d:fR r=r:=by unfold fR;omega
 have l:fS r=false:=decide_eq_false (by omega)
 refine⟨?_,d,l⟩
 unfold fZ pv
 rw[d,l]
 rfl
theorem Ko(m r:Nat)(d:m<9218868437227405312)(l:r<9218868437227405312):mx m r=max m r:=by
 obtain⟨t,z,I⟩:=iJ m (by omega)
 obtain⟨D,F,J⟩:=iJ r (by omega)
 have G:=(bY ((cF m).2.2.2 (by rw[z];exact d))).2
 have H:=(bY ((cF r).2.2.2 (by rw[F];exact l))).2
 unfold mx
 rw[if_neg (by omega),t,D]
 rcases Nat.lt_or_ge m r with h|h
 ·have:=pB h
  rw[if_pos (by omega)]
  omega
 ·have:=jl h
  rw[if_neg (by omega)]
  omega
theorem mu:∀(d:List Nat) (m:Nat),m<9218868437227405312→(∀x∈d,ah x=true)→
  bS m d<9218868437227405312∧m≤bS m d∧(∀x∈d,fR x≤bS m d)∧(bS m d=m∨∃x∈d,fR x=bS m d):=by
 intro d
 induction d with
 |nil=>intro m D _;exact⟨D,Nat.le_refl _,(fun x t=>(by cases t)),Or.inl rfl⟩
 |cons x d ih=>
  intro m D t
  have F:=jt x (t x List.mem_cons_self)
  have e:bS m (x::d)=bS (max m (fR x)) d:=by
   show bS (mx m (fR x)) d=_
   rw[Ko m _ D F]
  obtain⟨G,I,H,z⟩:=ih (max m (fR x)) (by omega) (fun y l=>t y (List.mem_cons_of_mem _ l))
  rw[e]
  refine⟨G,by omega,?_,?_⟩
  ·intro y l
   rcases List.mem_cons.1 l with rfl|l
   ·omega
   ·exact H y l
  ·rcases z with z|⟨y,l,z⟩
   ·rcases Nat.lt_or_ge m (fR x)with h|h
    ·exact .inr ⟨x,List.mem_cons_self,by omega⟩
    ·exact .inl (by omega)
   ·exact .inr ⟨y,List.mem_cons_of_mem _ l,z⟩
def aX(xs:List Nat):Nat:=if bS 0 xs=0∨ah (bS 0 xs)=false then bS 0 xs else xV (sV (oK (eX (bS 0 xs)) 0 xs)) (eX (bS 0 xs))
theorem jv(a:Nat)(l:a<18446744073709551616)(d:ah a=true)(t:fK a≠0):p2 (eX a)≤ab (fQ a)∧ab (fQ a)<p2 (eX a+1):=by
 obtain⟨D,F⟩:=bY d
 obtain⟨z1,z2,z,G,H,I,J,L,M⟩:=fL a l d t
 have h:=xy (fD a).natAbs (fX a) z
 have e:=pK a l d t 0
 rw[Int.add_zero,kF,Rat.mul_one,←iW]at e
 rw[e]at h
 unfold eX
 rw[if_neg (by omega),show(bl (fD a).natAbs:Int)+fX a-1+1=(bl (fD a).natAbs:Int)+fX a by omega]
 exact h
def aJ:List Nat→Rat
 | []=>0
 |x::xs=>fQ x*fQ x+aJ xs
theorem GP(k:Int)(d:List Nat):eO k d*(p2 k*p2 k)=aJ d:=by
 have h:=pz k
 induction d with
 |nil=>exact Rat.zero_mul _
 |cons x d ih=>
  have e:dQ k x*dQ k x*(p2 k*p2 k)=fQ x*fQ x:=by
   unfold dQ
   rw[show fQ x*p2 (-k)*(fQ x*p2 (-k))*(p2 k*p2 k)=fQ x*fQ x*((p2 (-k)*p2 k)*(p2 (-k)*p2 k)) by grind,h]
   grind
  unfold eO aJ
  rw[Rat.add_mul,e,ih]
theorem oL(k:Int):∀(h:List Nat) (x:Nat),x∈h→dQ k x*dQ k x≤eO k h:=by
 intro h
 induction h with
 |nil=>intro x d;cases d
 |cons y ys ih=>
  intro x d
  have l:=D2 k ys
  have t:=al (dQ k y)
  have e:eO k (y::ys)=dQ k y*dQ k y+eO k ys:=rfl
  rw[e]
  rcases List.mem_cons.1 d with rfl|d
  ·grind
  ·have:=ih x d
   grind
theorem s9(k:Int):∀(d:List Nat),(∀x∈d,ab (dQ k x)≤2)→eO k d≤4*(d.length:Rat):=by
 intro d
 induction d with
 |nil=>
  intro _
  have e:eO k []=0:=rfl
  have t:(([]:List Nat).length:Rat)=0:=rfl
  rw[e,t]
  grind
 |cons y ys ih=>
  intro h
  have D:=ih (fun x z=>h x (List.mem_cons_of_mem _ z))
  have F:=h y List.mem_cons_self
  have l:=au (dQ k y)
  have m:=Rat.mul_nonneg (show 0≤2-dQ k y by grind) (show 0≤2+dQ k y by grind)
  have e:eO k (y::ys)=dQ k y*dQ k y+eO k ys:=rfl
  have t:((y::ys).length:Rat)=(ys.length:Rat)+1:=by rw[List.length_cons,Rat.natCast_add];rfl
  rw[e,t]
  grind
theorem MW(d:List Nat)(h:∀x∈d,ah x=true)(z:bS 0 d=0):∀x∈d,fQ x=0:=by
 obtain⟨D,F,l,G⟩:=mu d 0 (by decide) h
 intro x t
 have:=l x t
 exact bu x ((cP x).2 (by omega))
theorem D3(a:Nat)(l:a<18446744073709551616)(t:ah a=true):A3 (fZ a) (-1074)=fZ a:=by
 have h:=Ka a l t
 by_cases d:fK a=0
 ·have z:fZ a=0:=by
   have:=gR a
   rw[(cP a).1 d,fC]at this
   omega
  rw[z]
  decide+kernel
 ·obtain⟨z1,z2⟩:=zp a d
  unfold A3
  rw[z2,gR,h]
  rfl
theorem Kp(s p:Nat)(F:s<18446744073709551616)(G:p<18446744073709551616)(d:ah s=true)(h:ah p=true)(H:fS s=false)(I:fS p=false):
  fQ s≤fQ (aV s p)∧fQ p≤fQ (aV s p):=by
 have l:=(sT s p d h).2
 have J:0≤fZ s∧0≤fZ p:=by
  unfold fZ pv;rw[H,I];simp only[Bool.false_eq_true,if_false];omega
 have t:A3 (fZ s) (-1074)≤A3 (aZ s p) (-1074):=uW (by unfold aZ;omega)
 have z:A3 (fZ p) (-1074)≤A3 (aZ s p) (-1074):=uW (by unfold aZ;omega)
 rw[D3 s F d,←l]at t
 rw[D3 p G h,←l]at z
 have D:=Rat.le_of_lt (aw (-1074))
 have L:=Rat.mul_le_mul_of_nonneg_left (Rat.intCast_le_intCast.2 t) D
 have M:=Rat.mul_le_mul_of_nonneg_left (Rat.intCast_le_intCast.2 z) D
 unfold fQ
 constructor<;>grind
theorem MX(k:Int)(G:Rat)(t:1≤G)(z:G≤256):∀(d:List Nat) (s:Nat) (T H:Rat),(∀x∈d,x<18446744073709551616∧ah x=true∧ab (dQ k x)≤2)→s<18446744073709551616→ah s=true→fS s=false→
  T+eO k d≤G→H+(d.length:Rat)*G≤64*G→9007199254740992*ab (fQ s-T)≤2*T+2*H→
  fQ s≤fQ (oK k s d)∧∀x∈d,fQ (mV (xV x (-k)) (xV x (-k)))≤fQ (oK k s d):=by
 intro d
 induction d with
 |nil=>
  intro s T H _ _ F I _ _ Q
  exact⟨Rat.le_refl,fun x l=>(by cases l)⟩
 |cons x d ih=>
  intro s T H l hs F I hT hH Q
  obtain⟨J,L,M⟩:=l x (List.mem_cons_self)
  have U:eO k (x::d)=dQ k x*dQ k x+eO k d:=rfl
  have V:((x::d).length:Rat)=(d.length:Rat)+1:=by rw[List.length_cons,Rat.natCast_add];rfl
  have X:((x::d).length:Rat)*G=(d.length:Rat)*G+G:=by rw[V];grind
  have Y:oK k s (x::d)=oK k (DZ k s x) d:=rfl
  have q0:=D2 k d
  have l0:0≤(d.length:Rat)*G:=Rat.mul_nonneg Rat.natCast_nonneg (by grind)
  rw[U]at hT
  rw[X]at hH
  obtain⟨g1,N,g3⟩:=zu k s x T H G J L M F I (by grind) t z (by grind) Q
  obtain⟨p1,p2,p3⟩:=xz k x J L M
  have D:mV (xV x (-k)) (xV x (-k))<18446744073709551616:=by
   have:=of_decide_eq_false p2
   omega
  obtain⟨a1,a2⟩:=Kp s _ hs D F p1 I p2
  obtain⟨O,i2⟩:=ih (DZ k s x) (T+dQ k x*dQ k x) (H+G) (fun y h=>l y (List.mem_cons_of_mem _ h)) (by have:=of_decide_eq_false N;omega) g1 N (by grind) (by grind) g3
  rw[Y]
  have Z:fQ s≤fQ (DZ k s x):=a1
  have b2:fQ (mV (xV x (-k)) (xV x (-k)))≤fQ (DZ k s x):=a2
  refine⟨Rat.le_trans Z O,fun y h=>?_⟩
  rcases List.mem_cons.1 h with rfl|h
  ·exact Rat.le_trans b2 O
  ·exact i2 y h
theorem GR(N d:Nat)(h:0<d):db N d*d≤2*N+d∧2*N≤db N d*d+d:=by
 have l:=Nat.div_add_mod N d
 have t:=Nat.mod_lt N h
 unfold db
 split
 ·have e:(2*(N/d)+0)*d=2*(d*(N/d)):=by rw[Nat.add_zero,Nat.mul_assoc,Nat.mul_comm d]
  rw[e]
  generalize d*(N/d)=Q at*
  omega
 ·have e:(2*(N/d)+1)*d=2*(d*(N/d))+d:=by rw[Nat.add_mul,Nat.mul_assoc,Nat.one_mul,Nat.mul_comm d]
  rw[e]
  generalize d*(N/d)=Q at*
  omega
theorem pO(a b:Nat)(d:a<18446744073709551616)(h:b<18446744073709551616)(l:ah a=true)(t:ah b=true)(z:fK a≠0)(D:fK b≠0):
  340282366920938463463374607431768211456*(xE (qS a b) (fX a-fX b-181)*ab (fQ b))≤340282366920938463463374607431768211456*ab (fQ a)+ab (fQ a)∧
  340282366920938463463374607431768211456*ab (fQ a)≤340282366920938463463374607431768211456*(xE (qS a b) (fX a-fX b-181)*ab (fQ b))+ab (fQ a):=by
 obtain⟨x1,x2,x3,x4,x5,x6,x7,x8,x9⟩:=fL a d l z
 obtain⟨y1,y2,y3,y4,y5,y6,y7,y8,y9⟩:=fL b h t D
 have I:ab (fQ a)=(((fD a).natAbs*2^180:Nat):Rat)*(2*p2 (fX a-181)):=by
  have e:=pK a d l z 0
  rw[Int.add_zero,kF,Rat.mul_one,←iW]at e
  rw[←e]
  unfold xE
  rw[Rat.natCast_mul,←cR,show fX a=((180:Nat):Int)+(fX a-181+1) by omega,cQ,bR,show((180:Nat):Int)+(fX a-181+1)-181=fX a-181 by omega]
  grind
 have J:ab (fQ b)=((fD b).natAbs:Rat)*p2 (fX b):=by
  have e:=pK b h t D 0
  rw[Int.add_zero,kF,Rat.mul_one,←iW]at e
  exact e.symm
 have eX:xE (qS a b) (fX a-fX b-181)*ab (fQ b)=((qS a b*(fD b).natAbs:Nat):Rat)*p2 (fX a-181):=by
  rw[J]
  unfold xE
  rw[Rat.natCast_mul,show fX a-181=(fX a-fX b-181)+fX b by omega,cQ]
  grind
 obtain⟨s1,s2⟩:=GR ((fD a).natAbs*2^180) (fD b).natAbs (by omega)
 have F:=aw (fX a-181)
 have hd:340282366920938463463374607431768211456*(fD b).natAbs≤2*((fD a).natAbs*2^180):=by
  have L:2^181≤(fD a).natAbs*2^181:=Nat.le_mul_of_pos_left _ (by omega)
  have M:(2:Nat)^181=340282366920938463463374607431768211456*9007199254740992:=by decide
  have O:(2:Nat)^181=2^180*2:=by decide
  have Q:340282366920938463463374607431768211456*(fD b).natAbs≤340282366920938463463374607431768211456*9007199254740992:=Nat.mul_le_mul_left _ (by omega)
  rw[←M]at Q
  rw[O,←Nat.mul_assoc]at L
  omega
 have T:qS a b=db ((fD a).natAbs*2^180) (fD b).natAbs:=rfl
 rw[←T]at s1 s2
 rw[eX,I]
 generalize (fD a).natAbs*2^180=N at*
 generalize qS a b*(fD b).natAbs=Z at*
 have U:340282366920938463463374607431768211456*Z≤340282366920938463463374607431768211456*(2*N)+2*N:=by omega
 have V:340282366920938463463374607431768211456*(2*N)≤340282366920938463463374607431768211456*Z+2*N:=by omega
 have G:=Rat.mul_le_mul_of_nonneg_left (Rat.natCast_le_natCast.2 U) (Rat.le_of_lt F)
 have H:=Rat.mul_le_mul_of_nonneg_left (Rat.natCast_le_natCast.2 V) (Rat.le_of_lt F)
 rw[Rat.natCast_add,Rat.natCast_mul 340282366920938463463374607431768211456,Rat.natCast_mul 340282366920938463463374607431768211456,Rat.natCast_mul 2]at G H
 have X:((340282366920938463463374607431768211456:Nat):Rat)=340282366920938463463374607431768211456:=rfl
 have Y:((2:Nat):Rat)=2:=rfl
 rw[X,Y]at G H
 constructor<;>grind
theorem tc(a b:Nat)(N:a<18446744073709551616)(O:b<18446744073709551616)(z:ah a=true)(D:ah b=true)(F:fK a≠0)(G:fK b≠0)(Q:ah (dV a b)=true):
  10633823966279326983230456482242756608*ab (fQ (dV a b)*fQ b-fQ a)≤1180591620717411303425*ab (fQ a)∨
  (fR (dV a b)≤4503599627370496∧170141183460469231731687303715884105728*ab (fQ (dV a b)*fQ b-fQ a)≤170141183460469231731687303715884105728*(p2 (-1075)*ab (fQ b))+ab (fQ a)):=by
 have H:=jt _ Q
 have I:=(px a b z D F G).1
 have T:qV a b≤9218868437227405312:=di _ _
 have J:fR (dV a b)=qV a b:=by rw[I,gu _ _ (by omega)]
 have U:fS (dV a b)=(fS a^^fS b):=by rw[I,js _ _ (by omega)]
 rw[J]at H
 have e:=mt (qS a b) (fX a-fX b-181) H
 obtain⟨q1,q2⟩:=pO a b N O z D F G
 have V:0≤xE (qS a b) (fX a-fX b-181):=Rat.mul_nonneg Rat.natCast_nonneg (Rat.le_of_lt (aw _))
 have Z:(rv (qV a b):Rat)*p2 (-1074)=yE (qS a b) (fX a-fX b-181):=rfl
 have l:p2 (-1074)=2*p2 (-1075):=by rw[show(-1074:Int)= -1075+1 by rfl,bR]
 have hp:=aw (-1075)
 have n0:=pJ (fR a);have h:=pJ (fR b)
 rw[iW,iW]at*
 rw[df (dV a b),U,J,Z,df a,df b]
 generalize (rv (fR a):Rat)*p2 (-1074)=A at*
 generalize (rv (fR b):Rat)*p2 (-1074)=B at*
 generalize yE (qS a b) (fX a-fX b-181)=Y at*
 generalize xE (qS a b) (fX a-fX b-181)=X at*
 rw[l]at e
 generalize p2 (-1075)=η at*
 have d:10633823966279326983230456482242756608*ab (Y*B-A)≤1180591620717411303425*A∨(qV a b≤4503599627370496∧170141183460469231731687303715884105728*ab (Y*B-A)≤170141183460469231731687303715884105728*(η*B)+A):=by
  rcases e with⟨t,M⟩|⟨t,M,e3,e4⟩
  ·refine .inl ?_
   have c1:=Rat.mul_le_mul_of_nonneg_left t h
   have c2:=Rat.mul_le_mul_of_nonneg_left M h
   unfold ab
   grind
  ·refine .inr ⟨t,?_⟩
   have c1:=Rat.mul_le_mul_of_nonneg_left e3 h
   have c2:=Rat.mul_le_mul_of_nonneg_left e4 h
   unfold ab
   grind
 have L:ab (Y*B-A)=ab (A-Y*B):=pI _ _
 cases fS a<;>cases fS b<;>simp only[Bool.xor_false,Bool.xor_true,Bool.not_true,Bool.not_false,Bool.false_eq_true,if_true,if_false]
 ·exact d
 ·rw[show-Y* -B-A=Y*B-A by grind];exact d
 ·rw[show-Y*B- -A=A-Y*B by grind,←L];exact d
 ·rw[show Y* -B- -A=A-Y*B by grind,←L];exact d
end Go.Proofs.YtmpkkhackbpflaaGreatDoor
