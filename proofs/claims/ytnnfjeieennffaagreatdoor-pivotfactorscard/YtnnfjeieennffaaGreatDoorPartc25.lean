/- Part 25 of the texts. -/
import Derived.Test.YtnnfjeieennffaaGreatDoorPartc24
set_option maxHeartbeats 8000000
set_option maxRecDepth 20000
namespace Go.Proofs.YtnnfjeieennffaaGreatDoor
open Go.RowKit
theorem p8(N p:Nat)(w:World)(h:p<4)(l:aX N<18014398509481984):
  Calls Tryz.prog 219 #[.agg #[.int .u64 (aX N:Nat),.int .u64 (dc N:Nat)],.int .u64 (p:Nat)] w fun e w'=>e=.returned (.agg #[.int .u64 (aX (4*N+p):Nat),.int .u64 (dc (4*N+p):Nat)])∧Below w.heap.size w w':=by
 obtain⟨z,A⟩:=Jk N p h
 have m:=Bm N
 have t:=EV (dc N) p (by omega) h
 have f:=Bq (2*aX N) (by omega)
 have D:=Bq (aX N) (by omega)
 rw[show((2*aX N:Nat):Int)=(aX N:Int)*2 by omega]at f
 by_cases d:4*dc N+p<4*aX N+1
 ·rw[(z d).1,(z d).2]
  exact EW (aX N) (dc N) p (4*dc N+p) (2*(2*aX N)+1) (2*aX N) w l m (by omega) t f (by omega)
 ·rw[(A d).1,(A d).2]
  exact EX (aX N) (dc N) p (4*dc N+p) (2*(2*aX N)+1) (2*aX N+1) (4*dc N+p-(4*aX N+1)) w l m (by omega) (by omega) t f D (by omega)
theorem yD(x:Nat)(h:x<18446744073709551616):bits .and .u64 (x:Int) 3=((x%4:Nat):Int):=by
 have d:=bits_and_u64_nat x 3 h (by decide)
 refine d.trans ?_
 have:x&&& 3=x%4:=by
  have:=Nat.and_two_pow_sub_one_eq_mod x 2
  simpa using this
 rw[this]
theorem vh(n:Nat)(w:World)(d:n<18446744073709551616):
  Calls Tryz.prog 218 #[.int .u64 n] w fun e w'=>e=.returned (.agg #[.int .u64 (aX n:Nat),.int .u64 (dc n:Nat)])∧Below w.heap.size w w':=by
 have h:=tg n (fun i=>n/2^(2*(31-i))%4) (fun i=>aX (lC n i)) (fun i=>dc (lC n i)) w ?_ ?_ ?_
 ·rw[Bo]at h
  exact h
 ·rw[yA n d]
  exact⟨rfl,rfl⟩
 ·intro i f w'
  have:=p8 (lC n i) (n/2^(2*(31-i))%4) w' (by omega) (by have:=Bp n i d;omega)
  rw[←yB n i f]at this
  exact this
 ·intro i f
  have e:(n:Int)/2^(2*(31-i))=((n/2^(2*(31-i)):Nat):Int):=by simp
  rw[e]
  exact yD _ (Nat.lt_of_le_of_lt (Nat.div_le_self _ _) d)
theorem oj(n:Nat)(w:World)(d:n<18446744073709551616):
  Calls Tryz.prog 213 #[.int .u64 n] w fun e w'=>e=.returned (.int .i64 (rS (n*4^22):Nat))∧Below w.heap.size w w':=by
 refine mw n _ (fun i=>aX (n*4^i)) (fun i=>dc (n*4^i)) w ?_ ?_ (oh n 22 d (by decide)) ?_
 ·intro w'
  have:=vh n w' d
  show Calls Tryz.prog 218 #[.int .u64 n] w' fun e f=>e=.returned (.agg #[.int .u64 (aX (n*4^0):Nat),.int .u64 (dc (n*4^0):Nat)])∧Below w'.heap.size w' f
  rw[Nat.pow_zero,Nat.mul_one]
  exact this
 ·intro i l w'
  have:=p8 (n*4^i) 0 w' (by decide) (oh n i d (by omega))
  rw[←yC]at this
  exact this
 ·unfold rS
  have:=vg (n*4^22)
  by_cases h:aX (n*4^22)*aX (n*4^22)=n*4^22
  ·rw[if_pos h,if_pos (this.2 h)]
  ·rw[if_neg h,if_neg (fun e=>h (this.1 e))]
theorem Br(n:Int):bits .and .i64 n 1=n%2:=by
 have f:(BitVec.ofInt 64 1).toNat=2^1-1:=by decide
 have d:(BitVec.ofInt 64 n&&& BitVec.ofInt 64 1).toNat=(n%((2^64:Nat):Int)).toNat%2^1:=by
  rw[BitVec.toNat_and,BitVec.toNat_ofInt,f,Nat.and_two_pow_sub_one_eq_mod]
 show IntKind.i64.wrap ((BitVec.ofInt 64 n&&& BitVec.ofInt 64 1).toNat:Nat)=n%2
 rw[d,IntKind.wrap_i64]
 omega
theorem vi(b m F G d o:Nat)(z1 z H:Int)(w:World)(am:F≤53)(ao:G≤1)(hm:m<9007199254740992)(ht:-3000≤H∧H≤3000)
  (h1:bits .and .i64 H 1=(G:Int)) (hd:d+F+G=64) (ho:IntKind.u64.wrap ((m:Int)*2^d)=(o:Int))
  (C1:∀w',Below w.heap.size w w'→Calls Tryz.prog 156 #[.int .u64 b] w' fun r t=>mu t r 0 z1 z∧Below w'.heap.size w' t)
  (C2:∀w' n a l c,aG w' (.agg #[.bool n,.slice a l c,.int .i64 z]) z1 z→Calls Tryz.prog 211 #[.agg #[.bool n,.slice a l c]] w' fun r t=>r=.returned (.tuple #[.int .i64 (m:Nat),.int .i64 0])∧Below w'.heap.size w' t)
  (C3:∀w' n a l c,aG w' (.agg #[.bool n,.slice a l c,.int .i64 z]) z1 z→Calls Tryz.prog 171 #[.agg #[.bool n,.slice a l c,.int .i64 z]] w' fun r t=>r=.returned (.int .i64 H)∧Below w'.heap.size w' t)
  (C4:∀w' n a l c,aG w' (.agg #[.bool n,.slice a l c,.int .i64 z]) z1 z→Calls Tryz.prog 189 #[.agg #[.bool n,.slice a l c]] w' fun r t=>r=.returned (.int .i64 (F:Nat))∧Below w'.heap.size w' t):
  Calls Tryz.prog 212 #[.int .u64 b] w fun r w'=>r=.returned (.tuple #[.int .u64 (o:Nat),.int .i64 (H+(G:Int))])∧Below w.heap.size w w':=by
 have K1:=aa C1;have K2:=aa C2;have K3:=aa C3;have K4:=aa C4
 clear C1 C2 C3 C4
 have e1:IntKind.i64.wrap (64-(F:Int))=((64-F:Nat):Int):=by rw[a8 _ (by omega)];omega
 have e2:IntKind.i64.wrap (((64-F:Nat):Int)-(G:Int))=(d:Int):=by rw[a8 _ (by omega)];omega
 have e3:=a8 (H+(G:Int)) (by omega)
 have d0:d≤64:=by omega
 have e0:IntKind.u64.wrap (m:Int)=(m:Int):=by
  show(m:Int)%18446744073709551616=_
  omega
 clear hd
 generalize 64-F=c0 at*
 go_enter Tryz.func212,Tryz.ntmps212
 go_wp2_with fail
 refine(uH K1 _ (Below.refl _ _)).mono ?_
 rintro e O ⟨⟨v,rfl,hv⟩,f⟩
 obtain⟨L,M,N,V,rfl,i1⟩:=hv
 have D:Below O.heap.size O (O.alloc (.cells #[.bool L,.slice M V.length N,.int .i64 z] 52)):=(Below.refl _ _).alloc (Nat.le_refl _) _
 have Z:=aa ((show aG O (.agg #[.bool L,.slice M V.length N,.int .i64 z]) z1 z from⟨L,M,N,V,rfl,i1⟩).below D)
 have x:=aB.new O (.bool L) (.slice M V.length N) (.int .i64 z)
 have B1:=aa (f.trans (D.mono f.size))
 have y0:=x.c0;have y1:=x.c1;have y2:=x.c2
 have X:=aa x
 clear i1 f D K1 x
 generalize V.length=l1 at*
 go_wp2_with fail
 refine(uH K2 _ _ _ _ _ (uH Z)).mono ?_
 rintro e w2 ⟨rfl,f⟩
 have Q:=aa ((uH X).all f);have K:=aa ((uH Z).below f)
 have B2:=aa ((uH B1).trans (f.mono (uH B1).size))
 clear f y0 y1 y2 Z B1 X K2
 have y0:=(uH Q).c0;have y1:=(uH Q).c1;have y2:=(uH Q).c2
 go_wp2_with fail
 refine(uH K3 _ _ _ _ _ (uH K)).mono ?_
 rintro e A ⟨rfl,f⟩
 have Y:=(uH Q).all f;have U:=aa ((uH K).below f)
 have B3:=aa ((uH B2).trans (f.mono (uH B2).size))
 clear f y0 y1 y2 K B2 Q
 generalize O.heap.size=g at*
 have hK:∀w',Below A.heap.size A w'→Below A.heap.size A w'∧w'.cell? ⟨g,0,none⟩=some (.bool L)∧w'.cell? ⟨g,1,none⟩=some (.slice M l1 N)∧w'.cell? ⟨g,2,none⟩=some (.int .i64 z):=fun w' h=>⟨h,(Y.all h).c0,(Y.all h).c1,(Y.all h).c2⟩
 have HK:=aa hK
 clear hK Y
 go_wp2_with fail
 go_region_held3(fun w'=>Below A.heap.size A w'∧w'.cell? ⟨g,0,none⟩=some (.bool L)∧w'.cell? ⟨g,1,none⟩=some (.slice M l1 N)∧w'.cell? ⟨g,2,none⟩=some (.int .i64 z))
  (first|exact uH HK _ (Below.refl _ _).drew|exact uH HK _ (by assumption)|fail "NO KEEP")
  (first|(go_at_call 189;refine(uH K4 _ _ _ _ _ ((uH U).below (And.left (by assumption)))).mono ?_;rintro e ae ⟨rfl,f⟩;have ax:Below A.heap.size A ae:=Below.trans (And.left (by assumption)) (f.mono (Below.size (And.left (by assumption))));clear f)|(go_at_call 171;refine(uH K3 _ _ _ _ _ ((uH U).below (And.left (by assumption)))).mono ?_;rintro e aj ⟨rfl,f⟩;have aI:Below A.heap.size A aj:=Below.trans (And.left (by assumption)) (f.mono (Below.size (And.left (by assumption))));clear f)|fail "NO ARM")
 have hW:Below A.heap.size A _:=And.left (by assumption)
 have B4:=aa ((uH B3).trans (hW.mono (uH B3).size))
 clear hW
 go_wp2
 exact bodyPost_ret (v:=.tuple #[.int .u64 (o:Nat),.int .i64 (H+(G:Int))]) (by simp[results,Tryz.results212,go_sem]) rfl ⟨rfl,uH B4⟩
theorem Hw(b:Nat)(h:b<18446744073709551616)(l:ap b=true)(m:fK b≠0)(t:fS b=false):0≤fD b:=by
 have d:=(uV b m).2
 rw[t]at d
 have f:=jk (fZ b)
 rw[(dK b h l).1,d]at f
 have:=of_decide_eq_false f
 omega
theorem yF(b:Nat)(w:World)(f:b<18446744073709551616)(m:ap b=true)(t:fK b≠0)(K:fS b=false)(M:cC w):
  Calls Tryz.prog 212 #[.int .u64 b] w fun r w'=>r=.returned (.tuple #[.int .u64 (nS b:Nat),.int .i64 (nT b)])∧Below w.heap.size w w':=by
 obtain⟨Q,Y,Z,x4,x5,x6,x7,U⟩:=cJ b f m t
 obtain⟨n1,n2⟩:=i9 b f m t
 have G:(fD b).natAbs<dE:=cW _ (by omega)
 have N:fD b=((fD b).natAbs:Int):=by have:=Hw b f m t K;omega
 have O:dT b=(bl (fD b).natAbs:Int)+fX b:=rfl
 have z:(((dT b%2).toNat:Nat):Int)=dT b%2:=by omega
 have A:nT b=dT b+(((dT b%2).toNat:Nat):Int):=by unfold nT;omega
 rw[A]
 refine vi b (fD b).natAbs (bl (fD b).natAbs) (dT b%2).toNat (64-bl (fD b).natAbs-(dT b%2).toNat) (nS b) (fD b) (fX b) (dT b) w Q (by omega) U (by omega) (by rw[Br,z]) (by omega) ?_ (fun w' h=>dl b w' f m (M.all h)) ?_ ?_ ?_
 ·have e:(((fD b).natAbs:Nat):Int)*2^(64-bl (fD b).natAbs-(dT b%2).toNat)=((nS b:Nat):Int):=by unfold nS;rw[Int.natCast_mul,Int.natCast_pow];rfl
  rw[e]
  show((nS b:Nat):Int)%18446744073709551616=_
  omega
 ·intro w' n a l c h
  rw[←N]
  obtain⟨n',a',c',L',H,V⟩:=h
  simp only[Value.agg.injEq,Array.mk.injEq,List.cons.injEq,Value.bool.injEq,Value.slice.injEq,and_true]at H
  obtain⟨rfl,rfl,rfl,rfl⟩:=H
  exact AY V (by omega) (by omega)
 ·intro w' n a l c h
  obtain⟨L,rfl,d,D,F,X⟩:=h.limbs G
  have:=kn n a c L (fX b) w' d (by omega)
  rwa[iy d.2.1 D,F,a8 _ (by omega)]at this
 ·intro w' n a l c h
  obtain⟨L,rfl,d,D,F,X⟩:=h.limbs G
  have:=qx n a c L w' d (by omega)
  rwa[iy d.2.1 D,F]at this
theorem qY(a n S o:Nat)(l E M X L:Int)(w:World)(ht:-3000≤l∧l≤3000)(Q:E=l/2-54-1)(N:l%2=0)
  (U:∀w',Below w.heap.size w w'→Calls Tryz.prog 212 #[.int .u64 a] w' fun r f=>r=.returned (.tuple #[.int .u64 (n:Nat),.int .i64 l])∧Below w'.heap.size w' f)
  (V:∀w',Calls Tryz.prog 213 #[.int .u64 (n:Nat)] w' fun r f=>r=.returned (.int .i64 (S:Nat))∧Below w'.heap.size w' f)
  (Y:∀w',Calls Tryz.prog 181 #[.int .i64 (S:Nat)] w' fun r f=>∃v,r=.returned v∧au w'.heap.size f v (S:Nat)∧Below w'.heap.size w' f)
  (Z:∀B w' v,Below w.heap.size w w'→au B w' v (S:Nat)→Calls Tryz.prog 180 #[v,.int .i64 E] w' fun r f=>mu f r 0 M X∧Below w'.heap.size w' f)
  (C6:∀w' v,Below w.heap.size w w'→aG w' v M X→Calls Tryz.prog 158 #[v] w' fun s f=>s=.returned (.tuple #[.int .u64 (o:Nat),.int .u8 L,.int .i64 0])∧Below w'.heap.size w' f):
  Calls Tryz.prog 201 #[.int .u64 a] w fun s w'=>s=.returned (.tuple #[.int .u64 (o:Nat),.int .u8 L])∧Below w.heap.size w w':=by
 have K1:=aa U;have K3:=aa V;have K4:=aa Y;have K5:=aa Z;have K6:=aa C6
 clear U V Y Z C6
 obtain⟨q,hq⟩:∃q,q=l/2:=⟨_,rfl⟩
 have t1:Int.tdiv l 2=q:=by rw[Int.tdiv_eq_ediv];omega
 have e1:=a8 (q-54) (by omega)
 have e2:=a8 (q-54-1) (by omega)
 rw[←hq]at Q
 have q1:-1500≤q:=by omega
 have q2:q≤1500:=by omega
 clear hq N
 go_enter Tryz.func201,Tryz.ntmps201
 go_wp2_with fail
 refine(uH K1 _ (Below.refl _ _)).mono ?_
 rintro e w1 ⟨rfl,d⟩
 have m:=aa d
 clear d K1
 go_wp2_with fail
 refine(uH K3 _).mono ?_
 rintro e w2 ⟨rfl,d⟩
 have m:=aa ((uH m).trans (d.mono (uH m).size))
 clear d K3
 go_wp2_with fail
 refine(uH K4 _).mono ?_
 rintro e w3 ⟨v,rfl,⟨n3,a3,c3,O,rfl,i3⟩,d⟩
 have A:=aa ((uH m).trans (d.mono (uH m).size))
 have I3:=aa (show au w2.heap.size w3 (.agg #[.bool n3,.slice a3 O.length c3]) (S:Nat)from⟨n3,a3,c3,O,rfl,i3⟩)
 clear d K4 m i3
 generalize O.length=l3 at*
 subst Q
 go_wp2_with fail
 refine(uH K5 _ _ _ (uH A) (uH I3)).mono ?_
 rintro e z ⟨⟨v,rfl,hv⟩,d⟩
 obtain⟨G,H,K,t,rfl,i1⟩:=hv
 have h:Below z.heap.size z (z.alloc (.cells #[.bool G,.slice H t.length K,.int .i64 X] 52)):=(Below.refl _ _).alloc (Nat.le_refl _) _
 have HX:=aa ((show aG z (.agg #[.bool G,.slice H t.length K,.int .i64 X]) M X from⟨G,H,K,t,rfl,i1⟩).below h)
 have D:=aa ((uH A).trans ((d.trans (h.mono d.size)).mono (uH A).size))
 have F:=aB.new z (.bool G) (.slice H t.length K) (.int .i64 X)
 have y0:=F.c0;have y1:=F.c1;have y2:=F.c2
 clear i1 d h K5 A F I3
 generalize t.length=l1 at*
 go_wp2_with fail
 refine(uH K6 _ _ (uH D) (uH HX)).mono ?_
 rintro e w5 ⟨rfl,d⟩
 have B5:=aa ((uH D).trans (d.mono (uH D).size))
 clear d K6 D y0 y1 y2 HX
 go_wp2
 exact bodyPost_ret (v:=.tuple #[.int .u64 o,.int .u8 L]) (by simp[results,Tryz.results201,go_sem]) rfl ⟨rfl,uH B5⟩
def tB(a:Nat):Nat:=rS (nS a*4^22)
theorem Jm(a:Nat)(d:a<18446744073709551616)(f:ap a=true)(l:fK a≠0):tB a≠0:=by
 obtain⟨t,z⟩:=i9 a d f l
 have m:1≤nS a*4^22:=Nat.mul_pos (by omega) (by decide)
 have h:=Bf m
 have:aX 1=1:=by decide
 unfold tB rS
 omega
theorem Jn(a:Nat)(d:a<18446744073709551616)(f:ap a=true)(h:fK a≠0):tB a<36028797018963968:=Jl (nS a) (i9 a d f h).1
theorem EY(a:Nat)(d:a<18446744073709551616)(f:ap a=true)(l:fK a≠0):
  bw (tB a) (nT a/2-54-1)=tV a∧bF (oM (tB a:Nat)).natAbs (oE (tB a:Nat) (nT a/2-54-1))=tF a:=by
 have h:=EU a d f l
 rw[show nT a/2-55=nT a/2-54-1 by omega]at h
 exact h
theorem pi(a:Nat)(w:World)(d:a<18446744073709551616)(f:ap a=true)(h:fK a≠0):
  Calls Tryz.prog 213 #[.int .u64 (nS a:Nat)] w fun e w'=>e=.returned (.int .i64 (tB a:Nat))∧Below w.heap.size w w':=oj (nS a) w (i9 a d f h).1
theorem pk(a n S r:Nat)(l E F:Int)(w:World)(L:-3000≤l∧l≤3000)(m:l%2=0)(M:E=l/2-54-1)
  (s1:S≠0) (s2:S<36028797018963968) (N:bw S E=r) (O:bF (oM (S:Nat)).natAbs (oE (S:Nat) E)=F) (G:cC w)
  (Q:∀w',Below w.heap.size w w'→Calls Tryz.prog 212 #[.int .u64 a] w' fun r d=>r=.returned (.tuple #[.int .u64 (n:Nat),.int .i64 l])∧Below w'.heap.size w' d)
  (U:∀w',Calls Tryz.prog 213 #[.int .u64 (n:Nat)] w' fun r d=>r=.returned (.int .i64 (S:Nat))∧Below w'.heap.size w' d):
  Calls Tryz.prog 201 #[.int .u64 a] w fun s w'=>s=.returned (.tuple #[.int .u64 (r:Nat),.int .u8 F])∧Below w.heap.size w w':=by
 have H:((S:Nat):Int).natAbs<dE:=cW _ (by omega)
 have f:((S:Nat):Int)≠0:=by omega
 have Z:tz ((S:Nat):Int).natAbs<57:=lY _ 57 (by omega) (by rw[Int.natAbs_natCast];exact Jd (by omega))
 have ae:-2300≤E∧E≤2300:=by omega
 have z:k9 (S:Nat) E=true:=by
  unfold k9
  rw[decide_eq_true (show-32768≤E∧E≤32768 by omega),decide_eq_true (show-16384≤E+(tz ((S:Nat):Int).natAbs:Int)∧E+(tz ((S:Nat):Int).natAbs:Int)≤16384 by omega),Bool.or_true]
  rfl
 have A:qA (oM (S:Nat)) (oE (S:Nat) E)=true:=by
  unfold qA
  rw[if_neg (gI _ f).1,dJ _ _ f,decide_eq_true (gI _ f).2,decide_eq_true (by omega)]
  rfl
 have D:(oM (S:Nat)).natAbs<dE:=Nat.lt_of_le_of_lt (wx _) H
 have K:∀w' v,Below w.heap.size w w'→aG w' v (oM (S:Nat)) (oE (S:Nat) E)→_:=fun w' v h t=>iW t D A (G.all h)
 rw[(jl ((S:Nat):Int) E).1,jk,decide_eq_false (show¬((S:Nat):Int)<0 by omega),aU,Int.natAbs_natCast,N,O]at K
 refine qY a n S r l E _ _ _ w L M m Q U
  (fun w'=>uC _ w' (by omega) (by omega)) (fun B w' v h t=>?_) K
 have:=iU E t H (by omega) (G.all h)
 unfold cR dM dX at this
 rw[z]at this
 exact this.mono fun r d ⟨u,V,X,Y⟩=>⟨⟨u,V,X⟩,Y⟩
theorem ol(a:Nat)(w:World)(d:a<18446744073709551616)(f:ap a=true)(l:fK a≠0)(t:fS a=false)(m:cC w):
  Calls Tryz.prog 201 #[.int .u64 a] w fun r w'=>r=.returned (.tuple #[.int .u64 (tV a:Nat),.int .u8 (tF a)])∧Below w.heap.size w w':=by
 obtain⟨G,H,K,L,M,N,O,Q⟩:=cJ a d f l
 have z:dT a=(bl (fD a).natAbs:Int)+fX a:=rfl
 have A:nT a=dT a+dT a%2:=rfl
 obtain⟨D,F⟩:=EY a d f l
 exact pk a (nS a) (tB a) (tV a) (nT a) _ (tF a) w (by omega) (by omega) rfl (Jm a d f l) (Jn a d f l) D F m (fun w' h=>yF a w' d f l t (m.all h)) (fun w'=>pi a w' d f l)
theorem EZ(a:Nat)(w:World)
  (h:∀w',Calls Tryz.prog 113 #[.int .u64 a] w' fun r f=>r=.returned (.int .i64 0)∧Below w'.heap.size w' f):
  Calls Tryz.prog 186 #[.int .u64 a] w fun r w'=>r=.returned (.tuple #[.int .u64 (a:Nat),.int .u8 0])∧Below w.heap.size w w':=by
 have l:=aa h
 clear h
 go_enter Tryz.func186,Tryz.ntmps186
 go_wp2_with fail
 refine(uH l _).mono ?_
 rintro e m ⟨rfl,d⟩
 have B:=aa d
 clear d l
 go_wp2
 exact bodyPost_ret (v:=.tuple #[.int .u64 (a:Nat),.int .u8 0]) (by simp[results,Tryz.results186,go_sem]) rfl ⟨rfl,uH B⟩
theorem E5(a:Nat)(k:Int)(w:World)(m:(k==0)=false)(t:((a:Int)==9218868437227405312)=true)
  (h:∀w',Calls Tryz.prog 113 #[.int .u64 a] w' fun r f=>r=.returned (.int .i64 k)∧Below w'.heap.size w' f):
  Calls Tryz.prog 186 #[.int .u64 a] w fun r w'=>r=.returned (.tuple #[.int .u64 (a:Nat),.int .u8 0])∧Below w.heap.size w w':=by
 have l:=aa h
 clear h
 go_enter Tryz.func186,Tryz.ntmps186
 go_wp2_with fail
 refine(uH l _).mono ?_
 rintro e z ⟨rfl,d⟩
 have B:=aa d
 clear d l
 go_wp2
 exact bodyPost_ret (v:=.tuple #[.int .u64 (a:Nat),.int .u8 0]) (by simp[results,Tryz.results186,go_sem]) rfl ⟨rfl,uH B⟩
theorem E6(a:Nat)(w:World)(m:((a:Int)==9218868437227405312)=false)
  (h:∀w',Calls Tryz.prog 113 #[.int .u64 a] w' fun r f=>r=.returned (.int .i64 4)∧Below w'.heap.size w' f):
  Calls Tryz.prog 186 #[.int .u64 a] w fun r w'=>r=.returned (.tuple #[.int .u64 9221120237041090560,.int .u8 0])∧Below w.heap.size w w':=by
 have l:=aa h
 clear h
 go_enter Tryz.func186,Tryz.ntmps186
 go_wp2_with fail
 refine(uH l _).mono ?_
 rintro e t ⟨rfl,d⟩
 have B:=aa d
 clear d l
 go_wp2
 exact bodyPost_ret (v:=.tuple #[.int .u64 9221120237041090560,.int .u8 0]) (by simp[results,Tryz.results186,go_sem]) rfl ⟨rfl,uH B⟩
theorem E7(a:Nat)(k:Int)(w:World)(z:(k==0)=false)(A:k≠4)(D:((a:Int)==9218868437227405312)=false)
  (h:∀w',Calls Tryz.prog 113 #[.int .u64 a] w' fun r f=>r=.returned (.int .i64 k)∧Below w'.heap.size w' f)
  (l:∀w',Calls Tryz.prog 131 #[.int .u64 a] w' fun r f=>r=.returned (.bool true)∧Below w'.heap.size w' f):
  Calls Tryz.prog 186 #[.int .u64 a] w fun r w'=>r=.returned (.tuple #[.int .u64 9221120237041090560,.int .u8 16])∧Below w.heap.size w w':=by
 have m:=aa h
 clear h
 go_enter Tryz.func186,Tryz.ntmps186
 go_wp2_with fail
 refine(uH m _).mono ?_
 rintro e F ⟨rfl,d⟩
 have B:=aa d
 clear d m
 have t:=aa l
 clear l
 go_wp2_with fail
 refine(uH t _).mono ?_
 rintro e G ⟨rfl,d⟩
 have B:=aa ((uH B).trans (d.mono (uH B).size))
 clear d t
 go_wp2
 exact bodyPost_ret (v:=.tuple #[.int .u64 9221120237041090560,.int .u8 16]) (by simp[results,Tryz.results186,go_sem]) rfl ⟨rfl,uH B⟩
theorem E8(a:Nat)(k h:Int)(o:Nat)(w:World)(H:(k==0)=false)(K:k≠4)(L:((a:Int)==9218868437227405312)=false)(l:cC w)
  (m:∀w',Calls Tryz.prog 113 #[.int .u64 a] w' fun r f=>r=.returned (.int .i64 k)∧Below w'.heap.size w' f)
  (t:∀w',Calls Tryz.prog 131 #[.int .u64 a] w' fun r f=>r=.returned (.bool false)∧Below w'.heap.size w' f)
  (z:∀w',cC w'→Calls Tryz.prog 201 #[.int .u64 a] w' fun r f=>r=.returned (.tuple #[.int .u64 (o:Nat),.int .u8 h])∧Below w'.heap.size w' f):
  Calls Tryz.prog 186 #[.int .u64 a] w fun r w'=>r=.returned (.tuple #[.int .u64 (o:Nat),.int .u8 h])∧Below w.heap.size w w':=by
 have A:=aa m
 clear m
 go_enter Tryz.func186,Tryz.ntmps186
 go_wp2_with fail
 refine(uH A _).mono ?_
 rintro e M ⟨rfl,d⟩
 have B:=aa d
 clear d A
 have D:=aa t
 clear t
 go_wp2_with fail
 refine(uH D _).mono ?_
 rintro e N ⟨rfl,d⟩
 have B:=aa ((uH B).trans (d.mono (uH B).size))
 clear d D
 have F:=aa z;have G:=aa (l.all (uH B))
 clear z l
 go_wp2_with fail
 refine(uH F _ (uH G)).mono ?_
 rintro e O ⟨rfl,d⟩
 have B:=aa ((uH B).trans (d.mono (uH B).size))
 clear d F G
 go_wp2
 exact bodyPost_ret (v:=.tuple #[.int .u64 (o:Nat),.int .u8 h]) (by simp[results,Tryz.results186,go_sem]) rfl ⟨rfl,uH B⟩
theorem yG(a:Nat)(w:World)(z:a<18446744073709551616)(F:cC w):
  Calls Tryz.prog 186 #[.int .u64 a] w fun r w'=>r=.returned (.tuple #[.int .u64 (sV a:Nat),.int .u8 (sF a)])∧Below w.heap.size w w':=by
 have l:=fun w'=>cF a w' z
 have A:=fun w'=>d6 a w' z
 by_cases d:fK a=4
 ·rw[show sV a=9221120237041090560 by unfold sV;rw[if_pos d],show sF a=0 by unfold sF;rw[if_pos d]]
  rw[d]at l
  have f:a≠9218868437227405312:=fun h=>by rw[h]at d;revert d;decide
  exact E6 a w (by simp;omega) l
 by_cases m:fK a=0
 ·rw[show sV a=a by unfold sV;rw[if_neg d,if_pos (Or.inl m)],show sF a=0 by unfold sF;rw[if_neg d,if_pos (Or.inl m)]]
  rw[m]at l
  exact EZ a w l
 by_cases D:a=9218868437227405312
 ·rw[show sV a=a by unfold sV;rw[if_neg d,if_pos (Or.inr D)],show sF a=0 by unfold sF;rw[if_neg d,if_pos (Or.inr D)]]
  exact E5 a _ w (by simp[m]) (by simp;omega) l
 have f:¬(fK a=0∨a=9218868437227405312):=by omega
 cases hs:fS a
 ·rw[show sV a=tV a by unfold sV;rw[if_neg d,if_neg f,if_neg (by rw[hs];decide)],show sF a=tF a by unfold sF;rw[if_neg d,if_neg f,if_neg (by rw[hs];decide)]]
  rw[hs]at A
  have G:fK a≠3:=fun h=>D (by
   have:=gp a z
   rw[hs,aU]at this
   have H:=((aQ a).2.1.1 h)
   omega)
  exact E8 a _ _ _ w (by simp[m]) d (by simp;omega) F l A (fun w' t=>ol a w' z (bf a G d) m hs t)
 ·rw[show sV a=9221120237041090560 by unfold sV;rw[if_neg d,if_neg f,if_pos hs],show sF a=16 by unfold sF;rw[if_neg d,if_neg f,if_pos hs]]
  rw[hs]at A
  exact E7 a _ w (by simp[m]) d (by simp;omega) l A
theorem yH(x:Nat)(W:World):(callFunc 178 #[.float .f64 x]).run Tryz.prog W=.ok (.value (.float .f64 (fC (Ieee.double.sqrt x) x x W))) (lj (Ieee.double.sqrt x) W):=by
 rw[run_callFunc_extern (e:=Extern.MathSqrt.sqrt) Tryz.func178 (by kernel_rfl) (by kernel_rfl) (by kernel_rfl) (by kernel_rfl)]
 have e:Extern.MathSqrt.sqrt #[.float .f64 x]=(match Ieee.double.sqrt x with|some r=>pure (.float .f64 r)|none=>do pure (.float .f64 (←choose (.nanBits .f64 x x)))):=rfl
 rw[e]
 cases h:Ieee.double.sqrt x with
 |some r=>rfl
 |none=>rfl
theorem yI(x:Nat)(o:Option Nat)(w:World)(d:∀W,(callFunc 178 #[.float .f64 x]).run Tryz.prog W=.ok (.value (.float .f64 (fC o x x W))) (lj o W)):
  Calls Tryz.prog 154 #[.float .f64 x] w fun r w'=>r=.returned (.float .f64 (fC o x x w))∧w'=lj o w:=by
 go_enter Tryz.func154,Tryz.ntmps154
 go_wp2
 go_ret
 exact⟨rfl,rfl⟩
theorem E9(a:Nat)(h:sN a=false):fK (sV a)≠4:=by
 have d:=of_decide_eq_false h
 unfold sV
 rw[if_neg (fun e=>d (Or.inl e))]
 split
 ·exact fun e=>d (Or.inl e)
 ·rename_i f
  split
  ·rename_i l
   exact absurd (Or.inr ⟨fun e=>f (Or.inl e),l⟩) d
  ·intro m
   have:=(aQ _).1.1 m
   have t:=Gc a
   unfold fR at this
   omega
theorem vk(a:Nat)(w w':World)(d:a<18446744073709551616):
  Calls Tryz.prog 63 #[.int .u64 (fC (Ieee.double.sqrt a) a a w:Nat)] w' fun r f=>r=.returned (.int .u64 (sV a:Nat))∧w'=f:=by
 refine nW _ (sV a) a a w w' (wM a d) (fun h=>?_) (fun r h=>?_)
 ·cases e:sN a with
  |true=>exact(oc a d e).2
  |false=>rw[og a d e]at h;cases h
 ·cases e:sN a with
  |true=>rw[(oc a d e).1]at h;cases h
  |false=>
   rw[og a d e]at h
   exact⟨(Option.some.inj h).symm,E9 a e⟩
def ad(w:World)(ao:Option Addr)(cap:Nat)(I:List Int):Prop:=
 I.length≤cap∧(∀x∈I,0≤x∧x≤18446744073709551615)∧(I= []∨∃b off,ao=some ⟨b,off,none⟩∧b<w.heap.size∧∀i,i<I.length→w.cell? ⟨b,off+i,none⟩=some (.int .u64 (I[i]?.getD 0)))
theorem ad.below{w w':World}{l:Option Addr}{d:Nat}{I:List Int}(h:ad w l d I)(m:Below w.heap.size w w'):ad w' l d I:=by
 refine⟨h.1,h.2.1,?_⟩
 rcases h.2.2 with h|⟨b,f,A,t,D⟩
 ·exact .inl h
 ·refine .inr ⟨b,f,A,Nat.lt_of_lt_of_le t m.size,fun i z=>?_⟩
  rw[m.cell (p:=⟨b,f+i,none⟩) t]
  exact D i z
def aL(I:List Int)(j:Nat):Nat:=(I[j]?.getD 0).toNat
theorem ad.wf{w:World}{l:Option Addr}{d:Nat}{I:List Int}(h:ad w l d I)(j:Nat):I[j]?.getD 0=(aL I j:Int)∧aL I j<18446744073709551616:=by
 unfold aL
 by_cases f:j<I.length
 ·have:=h.2.1 _ (List.getElem_mem f)
  rw[List.getElem?_eq_getElem f]
  simp only[Option.getD_some]
  omega
 ·rw[List.getElem?_eq_none (by omega)];simp
theorem ad.ne{w:World}{l:Option Addr}{f:Nat}{I:List Int}(h:ad w l f I)(m:0<I.length):∃b d,l=some ⟨b,d,none⟩∧b<w.heap.size∧∀i,i<I.length→w.cell? ⟨b,d+i,none⟩=some (.int .u64 (aL I i:Int)):=by
 rcases h.2.2 with e|⟨b,d,z,A,D⟩
 ·rw[e]at m;simp at m
 ·exact⟨b,d,z,A,fun i t=>by rw[D i t,(h.wf i).1]⟩
end Go.Proofs.YtnnfjeieennffaaGreatDoor
