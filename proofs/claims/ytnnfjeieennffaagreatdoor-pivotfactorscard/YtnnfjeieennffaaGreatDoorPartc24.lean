/- Part 24 of the texts. -/
import Derived.Test.YtnnfjeieennffaaGreatDoorPartc23
set_option maxHeartbeats 4000000
set_option maxRecDepth 20000
namespace Go.Proofs.YtnnfjeieennffaaGreatDoor
open Go.RowKit
theorem Gc(a:Nat):tV a≤9218868437227405312:=cN _ _
theorem wM(a:Nat)(d:a<18446744073709551616):sV a<18446744073709551616:=by
 have h:=Gc a
 unfold sV
 repeat' split
 all_goals omega
theorem JJ:bw (2^61) (-598)=486*4503599627370496:=by decide+kernel
theorem Jf:bw (2^1110) (-598)=1535*4503599627370496:=by decide+kernel
theorem Jg:(2:Nat)^60*2^60=1*2^120:=by decide
theorem EQ:(2:Nat)^1109*2^1109=2^2098*2^120:=by decide+kernel
theorem Bj(a:Nat)(f:fK a≠0):2^60≤aX (rv (fR a)*2^120)∧2^61≤tS a:=by
 have t:rv (fR a)≠0:=fun e=>f ((aS a).2 ((jU _).1 e))
 have h:1*2^120≤rv (fR a)*2^120:=Nat.mul_le_mul_right _ (by omega)
 obtain⟨z,m⟩:=bU (rv (fR a)*2^120)
 have d:2^60<aX (rv (fR a)*2^120)+1:=cn.1 (by rw[Jg];exact Nat.lt_of_le_of_lt h m)
 refine⟨Nat.le_of_lt_succ d,?_⟩
 have l:=Nat.le_of_lt_succ d
 have e:(2:Nat)^61=2*2^60:=by decide
 unfold tS rS
 rw[e]
 exact Nat.le_trans (Nat.mul_le_mul_left 2 l) (Nat.le_add_right _ _)
theorem Hs{V P c R:Nat}(d:V<P)(f:0<c)(h:R*R=P*c):aX (V*c)<R:=by
 obtain⟨l,m⟩:=bU (V*c)
 have:V*c<P*c:=(Nat.mul_lt_mul_right f).2 d
 exact cn.1 (by rw[h];omega)
theorem ER{V:Nat}(h:V<2^2098):aX (V*2^120)<2^1109:=by
 have d:=EQ
 have f:=Nat.two_pow_pos 120
 generalize (2:Nat)^1109=R at*
 generalize (2:Nat)^2098=P at*
 generalize (2:Nat)^120=c at*
 exact Hs h f d
theorem Jh:(2:Nat)^1110=2^1109*2:=by decide+kernel
theorem Ji{N P:Nat}(h:aX N<P):rS N≤P*2:=by
 unfold rS
 have d:(if aX N*aX N=N then 0 else 1)≤1:=by split<;>omega
 omega
theorem Bk(a:Nat)(f:ap a=true)(h:fK a≠0):486*4503599627370496≤tV a∧tV a≤1535*4503599627370496:=by
 have d:=jG a f
 rw[gu]at d
 have l:=ER d
 have m:tS a≤2^1110:=by
  rw[Jh]
  generalize (2:Nat)^1109=R at*
  exact Ji l
 refine⟨?_,?_⟩
 ·rw[←JJ];exact rN _ (Bj a h).2
 ·rw[←Jf];exact rN _ m
theorem Bl(v u:Nat):2*(cK v u*2^u)≤2*v+2^u∧2*v≤2*(cK v u*2^u)+2^u∧(v%2^u=0→cK v u*2^u=v):=by
 have d:0<2^u:=Nat.two_pow_pos _
 have f:=Nat.div_add_mod v (2^u)
 have h:=Nat.mod_lt v d
 rw[Nat.mul_comm]at f
 unfold cK
 generalize v/2^u=q at*
 generalize v%2^u=r at*
 generalize (2:Nat)^u=p at*
 split
 ·rw[Nat.add_mul,Nat.one_mul]
  exact⟨by omega,by omega,by omega⟩
 ·rw[Nat.add_zero]
  exact⟨by omega,by omega,by omega⟩
theorem te(T M c d:Nat)(m:c=2*d)(K:0<d)(A:(2*M-1)*(2*M-1)<4*T)(D:4*T<(2*M+1)*(2*M+1)):
  (2*M-1)*c<rS (T*(c*c))∧rS (T*(c*c))<(2*M+1)*c:=by
 obtain⟨V,X⟩:=bU (T*(c*c))
 have f:0<c*c:=Nat.mul_pos (by omega) (by omega)
 have t:(2*M-1)*(2*M-1)*(c*c)<4*T*(c*c):=(Nat.mul_lt_mul_right f).2 A
 have z:4*T*(c*c)<(2*M+1)*(2*M+1)*(c*c):=(Nat.mul_lt_mul_right f).2 D
 have F:4*T*(c*c)=4*(T*(c*c)):=Nat.mul_assoc _ _ _
 rw[F]at t z
 rw[←i8]at t z
 have G:(2*M-1)*c=2*((2*M-1)*d):=by rw[m];ac_rfl
 have H:(2*M+1)*c=2*((2*M+1)*d):=by rw[m];ac_rfl
 unfold rS
 generalize T*(c*c)=N at*
 generalize aX N=Q at*
 have l:∀x:Nat,2*x*(2*x)=4*(x*x):=fun x=>by rw[show(4:Nat)=2*2 by decide];ac_rfl
 have L:(2*M-1)*c<2*(Q+1):=cn.1 (by rw[l (Q+1)];omega)
 have O:2*Q<(2*M+1)*c:=cn.1 (by rw[l Q];omega)
 split
 ·rename_i h
  have U:(2*M-1)*c<2*Q:=cn.1 (by rw[l Q];omega)
  exact⟨by omega,by omega⟩
 ·exact⟨by omega,by omega⟩
theorem yz(T M:Nat)(e:Nat)(z:4503599627370496≤M)(A:M<9007199254740992)(H:1≤e)(D:e≤1900)
  (f:(2*M-1)*(2*M-1)<4*T) (h:4*T<(2*M+1)*(2*M+1)) (l:M=4503599627370496→rS (T*(1024*1024))=9223372036854775808):
  bw (rS (T*(1024*1024))) ((e:Int)-1085)=M+e*4503599627370496:=by
 obtain⟨N,O⟩:=te T M 1024 512 rfl (by decide) f h
 have K:9223372036854775808≤rS (T*(1024*1024)):=by
  by_cases F:M=4503599627370496
  ·rw[l F];exact Nat.le_refl _
  ·omega
 generalize rS (T*(1024*1024))=W at*
 clear f h l
 have m:bl W=64:=ke (by decide) (by have:(2:Nat)^(64-1)=9223372036854775808:=(by decide);omega) (by have:(2:Nat)^64=18446744073709551616:=(by decide);omega)
 have t:av W ((e:Int)-1085)=(e:Int)-1074:=by unfold av;rw[m];omega
 rw[cq W _ (by omega) (by rw[m];omega),t]
 unfold cV
 rw[t,show(e:Int)-1085-((e:Int)-1074)= -((11:Nat):Int) by omega,cZ _ _ (by decide)]
 have G:cK W 11=M:=by
  unfold cK
  rw[show(2:Nat)^11=2048 by decide]
  by_cases L:M*2048≤W
  ·have d:W/2048=M:=by omega
   rw[d,if_neg (by omega),Nat.add_zero]
  ·have d:W/2048=M-1:=by omega
   rw[d,if_pos (by omega)]
   omega
 rw[G,show((e:Int)-1074+1074).toNat=e by omega]
theorem Jj{N q:Nat}(h:q*q=N):rS N=2*q:=by
 have d:aX N=q:=eZ (Nat.le_of_eq h) (by have:=c8 q;omega)
 unfold rS
 rw[d,if_pos h,Nat.add_zero]
theorem Ht{T:Nat}(h:T=4503599627370496*4503599627370496):rS (T*(1024*1024))=9223372036854775808:=
 (Jj (q:=4611686018427387904) (by rw[h])).trans (by decide)
theorem Hu{M:Nat}(h:4503599627370496≤M):20282409603651670423947251286016≤M*M:=Nat.le_trans (by decide) (wK h)
theorem ES{T:Nat}(h:81129638414606681695789005144064≤T*1048576):9007199254740992≤aX (T*2^20):=by
 refine qW ?_
 have d:(2:Nat)^106=81129638414606681695789005144064:=by decide
 have f:(2:Nat)^20=1048576:=by decide
 rw[d,f]
 exact h
theorem JK{T v p:Nat}(d:20282409603651670423947251286016≤v)(f:2*v≤2*T+p)(h:p≤9007199254740992):81129638414606681695789005144064≤T*1048576:=by omega
theorem Hv(M:Nat)(d:4503599627370496≤M)(f:M<9007199254740992):bl (M*M)=105∨(bl (M*M)=106∧M≠4503599627370496):=by
 have l:=wK d
 have m:=Be f
 have t:(4503599627370496:Nat)*4503599627370496=2^104:=by decide
 have A:(9007199254740992:Nat)*9007199254740992=2^106:=by decide
 rw[t]at l
 rw[A]at m
 rcases Nat.lt_or_ge (M*M) (2^105)with h|h
 ·exact .inl (ke (by decide) l h)
 ·refine .inr ⟨ke (by decide) h m,fun z=>?_⟩
  rw[z,t]at h
  exact absurd h (by decide)
theorem tf(a:Nat)(h1:600≤fP a)(h2:fP a≤1400):sV (mV a a)=fR a:=by
 have hP:fP a=fR a/4503599627370496:=rfl
 have hF:=Nat.div_add_mod (fR a) 4503599627370496
 have aj:=Nat.mod_lt (fR a) (show 0<4503599627370496 by decide)
 obtain⟨M,hM⟩:∃M,M=4503599627370496+fR a%4503599627370496:=⟨_,rfl⟩
 obtain⟨e,he⟩:∃e,fP a=e+1:=⟨fP a-1,by omega⟩
 have hr:fR a=M+e*4503599627370496:=by omega
 have L:rv (fR a)=M*2^e:=by rw[hr];exact jC M e (by omega) (fun _=>by omega)
 have N:ap a=true:=(aQ a).2.2.2 (by omega)
 have k3:fK a≠3∧fK a≠4:=bB N
 have k0:fK a≠0:=fun h=>by have:=(aS a).1 h;omega
 --the square,rounded
 have hv:mV a a=bw (M*M) (2*(e:Int)-2148):=by
  rw[(li a a N N k0 k0).1,Bool.xor_self,aU,L,show M*2^e*(M*2^e)=M*M*2^(e+e) by rw[Nat.pow_add];ac_rfl,dy]
  congr 1
  omega
 have am:=Hv M (by omega) (by omega)
 have z:M*M≠0:=Nat.mul_ne_zero (by omega) (by omega)
 obtain⟨u,hu⟩:∃u,bl (M*M)=u+53:=⟨bl (M*M)-53,by omega⟩
 have O:av (M*M) (2*(e:Int)-2148)=(u:Int)+2*e-2148:=by unfold av;rw[hu];omega
 have f:=co (M*M) (2*(e:Int)-2148) z
 have A:cV (M*M) (2*(e:Int)-2148)=cK (M*M) u:=by
  unfold cV
  rw[O,show 2*(e:Int)-2148-((u:Int)+2*e-2148)= -((u:Nat):Int) by omega,cZ _ _ (by omega)]
 have Q:mV a a=cK (M*M) u+(u+2*e-1074)*4503599627370496:=by
  rw[hv,cq _ _ z (by rw[hu];omega),O,A,show((u:Int)+2*e-2148+1074).toNat=u+2*e-1074 by omega]
 rw[A]at f
 have D:=f.2.1 (by rw[O];omega)
 have U:rv (mV a a)=cK (M*M) u*2^(u+2*e-1074):=by rw[Q];exact jC _ _ f.1 (fun _=>D)
 have ae:mV a a<9218868437227405312:=by rw[Q];have:=f.1;omega
 have F:fR (mV a a)=mV a a:=by unfold fR;omega
 have s0:fK (mV a a)≠0:=fun h=>by
  have:=(aS _).1 h
  rw[F,Q]at this
  omega
 have s4:fK (mV a a)≠4:=fun h=>by
  have:=(aQ _).1.1 h
  omega
 have sS:fS (mV a a)=false:=decide_eq_false (by omega)
 have V:sV (mV a a)=tV (mV a a):=by
  unfold sV
  rw[if_neg s4,if_neg (by rintro(h|h);exact s0 h;omega),if_neg (by rw[sS];decide)]
 obtain⟨Z,H,c3⟩:=Bl (M*M) u
 have t:(u=52∧bl (M*M)=105)∨(u=53∧M≠4503599627370496):=by omega
 have l:=F6
 have m:=zv
 obtain⟨T,hT⟩:∃T,T=cK (M*M) u*2^u:=⟨_,rfl⟩
 rw[←hT]at Z H c3
 have t3:M=4503599627370496→rS (T*(1024*1024))=9223372036854775808:=fun K=>by
  rcases t with⟨q,_⟩|⟨_,q⟩
  ·have X:T=4503599627370496*4503599627370496:=by
    rw[c3 (by rw[q,K]),K]
   exact Ht X
  ·exact absurd K q
 have ao:(2*M-1)*(2*M-1)+4*M=4*(M*M)+1:=by
  obtain⟨x,hx⟩:∃x,M=x+1:=⟨M-1,by omega⟩
  rw[hx,show 2*(x+1)-1=2*x+1 by omega,c8,c8]
  have:2*x*(2*x)=4*(x*x):=by rw[show(4:Nat)=2*2 by decide];ac_rfl
  omega
 have ax:(2*M+1)*(2*M+1)=4*(M*M)+4*M+1:=by
  rw[c8]
  have:2*M*(2*M)=4*(M*M):=by rw[show(4:Nat)=2*2 by decide];ac_rfl
  omega
 have G:(2*M-1)*(2*M-1)<4*T∧4*T<(2*M+1)*(2*M+1):=by
  rcases t with⟨q,_⟩|⟨q,q2⟩
  ·rw[q,l]at Z H
   omega
  ·rw[q,m]at Z H
   omega
 have d:=yz T M e (by omega) (by omega) (by omega) (by omega) G.1 G.2 t3
 --as the root of that number
 have hk:T*2^(2*e-1074)=rv (fR (mV a a)):=by
  rw[F,U,hT,Nat.mul_assoc,←Nat.pow_add,show u+(2*e-1074)=u+2*e-1074 by omega]
 have Y:9007199254740992≤aX (T*2^20):=by
  refine ES (JK (Hu (show 4503599627370496≤M by omega)) H ?_)
  rcases t with⟨q,_⟩|⟨q,_⟩
  ·rw[q,l];decide
  ·rw[q,m];exact Nat.le_refl _
 rw[show(1024:Nat)*1024=2^20 by decide]at d
 have:=(n8 (mV a a) T (2*e-1074) 20 ((e:Int)-1084) s0 hk (by omega) Y).1
 rw[V,←this,show(e:Int)-1084-1=(e:Int)-1085 by omega,d,hr]
def dc(N:Nat):Nat:=N-aX N*aX N
theorem Jk(N p:Nat)(d:p<4):
  (4*dc N+p<4*aX N+1→aX (4*N+p)=2*aX N∧dc (4*N+p)=4*dc N+p)∧
  (¬4*dc N+p<4*aX N+1→aX (4*N+p)=2*aX N+1∧dc (4*N+p)=4*dc N+p-(4*aX N+1)):=by
 obtain⟨z,A⟩:=bU N
 have f:=c8 (aX N)
 have l:=c8 (2*aX N)
 have m:=c8 (2*aX N+1)
 have t:2*aX N*(2*aX N)=4*(aX N*aX N):=by rw[show(4:Nat)=2*2 by decide];ac_rfl
 unfold dc
 refine⟨fun h=>?_,fun h=>?_⟩
 ·have e:aX (4*N+p)=2*aX N:=eZ (by omega) (by omega)
  refine⟨e,?_⟩
  rw[e]
  omega
 ·have e:aX (4*N+p)=2*aX N+1:=eZ (by omega) (by omega)
  refine⟨e,?_⟩
  rw[e]
  omega
theorem Bm(N:Nat):dc N≤2*aX N:=by
 obtain⟨f,h⟩:=bU N
 have d:=c8 (aX N)
 unfold dc
 omega
theorem vg(N:Nat):dc N=0↔aX N*aX N=N:=by
 obtain⟨d,f⟩:=bU N
 unfold dc
 omega
theorem Bn{N k:Nat}(h:N<k*k):aX N<k:=by
 obtain⟨d,f⟩:=bU N
 exact cn.1 (by omega)
def lC(n i:Nat):Nat:=n/4^(32-i)
theorem yA(n:Nat)(h:n<18446744073709551616):lC n 0=0:=by
 unfold lC
 rw[show(4:Nat)^(32-0)=18446744073709551616 by decide]
 omega
theorem Bo(n:Nat):lC n 32=n:=by
 unfold lC
 simp
theorem yB(n i:Nat)(f:i<32):lC n (i+1)=4*lC n i+n/2^(2*(31-i))%4:=by
 unfold lC
 have e:(4:Nat)^(32-i)=4^(32-(i+1))*4:=by rw[←Nat.pow_succ];congr 1;omega
 have d:(2:Nat)^(2*(31-i))=4^(32-(i+1)):=by rw[Nat.pow_mul,show 32-(i+1)=31-i by omega]
 rw[e,d,←Nat.div_div_eq_div_mul]
 omega
theorem ET(n i:Nat)(h:n<18446744073709551616):lC n i<18446744073709551616:=by
 unfold lC
 exact Nat.lt_of_le_of_lt (Nat.div_le_self _ _) h
theorem Bp(n i:Nat)(h:n<18446744073709551616):aX (lC n i)<4294967296:=Bn (Nat.lt_of_lt_of_le (ET n i h) (by decide))
theorem oh(n i:Nat)(h:n<18446744073709551616)(f:i≤22):aX (n*4^i)<18014398509481984:=by
 refine Bn ?_
 have d:(4:Nat)^i≤4^22:=Nat.pow_le_pow_right (by decide) f
 rw[show(4:Nat)^22=17592186044416 by decide]at d
 have l:n*4^i≤n*17592186044416:=Nat.mul_le_mul_left _ d
 omega
theorem yC(n i:Nat):n*4^(i+1)=4*(n*4^i)+0:=by rw[Nat.pow_succ];ac_rfl
def nS(b:Nat):Nat:=(fD b).natAbs*2^(64-bl (fD b).natAbs-((dT b)%2).toNat)
def nT(b:Nat):Int:=dT b+(dT b)%2
theorem i9(b:Nat)(m:b<18446744073709551616)(t:ap b=true)(z:fK b≠0):
  nS b<18446744073709551616∧4611686018427387904≤nS b:=by
 obtain⟨G,H,K,L,M,N,O,Q⟩:=cJ b m t z
 obtain⟨U,D,F⟩:=aY (fD b).natAbs (by omega)
 unfold nS
 have A:=Nat.two_pow_pos (64-bl (fD b).natAbs-((dT b)%2).toNat)
 have d:=(Nat.mul_lt_mul_right A).2 F
 have f:=Nat.mul_le_mul_right (2^(64-bl (fD b).natAbs-((dT b)%2).toNat)) D
 rw[←Nat.pow_add]at d f
 have h:2^(bl (fD b).natAbs+(64-bl (fD b).natAbs-((dT b)%2).toNat))≤2^64:=Nat.pow_le_pow_right (by decide) (by omega)
 have l:2^62≤2^(bl (fD b).natAbs-1+(64-bl (fD b).natAbs-((dT b)%2).toNat)):=Nat.pow_le_pow_right (by decide) (by omega)
 rw[show(2:Nat)^64=18446744073709551616 by decide]at h
 rw[show(2:Nat)^62=4611686018427387904 by decide]at l
 exact⟨Nat.lt_of_lt_of_le d h,Nat.le_trans l f⟩
theorem EU(a:Nat)(h:a<18446744073709551616)(l:ap a=true)(f:fK a≠0):
  bw (rS (nS a*4^22)) (nT a/2-55)=tV a∧bF (oM (rS (nS a*4^22):Nat)).natAbs (oE (rS (nS a*4^22):Nat) (nT a/2-55))=tF a:=by
 obtain⟨α,F,t,G,H⟩:=iB a h l f
 obtain⟨K,L,M,N,O,Q,U,V⟩:=cJ a h l f
 obtain⟨X,z⟩:=i9 a h l f
 have m:nS a*4^22=(fD a).natAbs*2^(64-bl (fD a).natAbs-((dT a)%2).toNat+44):=by
  unfold nS
  rw[Nat.pow_add,Nat.mul_assoc]
 have d:9007199254740992≤aX (nS a*4^22):=by
  refine qW ?_
  rw[show(2:Nat)^106=4611686018427387904*4^22 by decide]
  exact Nat.mul_le_mul_right _ z
 rw[m]at d⊢
 have A:dT a=(bl (fD a).natAbs:Int)+fX a:=rfl
 have D:nT a=dT a+dT a%2:=rfl
 have:=n8 a (fD a).natAbs α (64-bl (fD a).natAbs-((dT a)%2).toNat+44) (nT a/2-54) f t.symm (by omega) d
 rwa[show nT a/2-54-1=nT a/2-55 by omega]at this
theorem Jl(n:Nat)(h:n<18446744073709551616):rS (n*4^22)<36028797018963968:=by
 have:=oh n 22 h (by decide)
 unfold rS
 split<;>omega
def eO(w:World)(b:Nat)(x y:Value):Prop:=w.heap[b]? =some (.cells #[x,y] 204 (0,0))
theorem eO.c0{w:World}{b:Nat}{x y:Value}(h:eO w b x y):w.cell? ⟨b,0,none⟩=some x:=by rw[cell_of_row w b 0 _ _ _ h];rfl
theorem eO.c1{w:World}{b:Nat}{x y:Value}(h:eO w b x y):w.cell? ⟨b,1,none⟩=some y:=by rw[cell_of_row w b 1 _ _ _ h];rfl
theorem eO.free{w:World}{b:Nat}{x y:Value}(h:eO w b x y)(j:Nat):w.frozen? ⟨b,j,none⟩=false:=frozen_of_row w b j _ _ h
theorem eO.lt{w:World}{b:Nat}{x y:Value}(h:eO w b x y):b<w.heap.size:=(Array.getElem?_eq_some_iff.1 h).1
theorem eO.all{w w':World}{b:Nat}{x y:Value}(h:eO w b x y)(d:Below w.heap.size w w'):eO w' b x y:=(d.block b h.lt).trans h
theorem eO.new(w:World)(x y:Value):eO (w.alloc (.cells #[x,y] 204)) w.heap.size x y:=heap_alloc_new w _
theorem EV(s p:Nat)(d:s<144115188075855872)(f:p<4):bits BinOp.or IntKind.u64 ((s:Int)*4) (p:Int)=((4*s+p:Nat):Int):=by
 have e:(s:Int)*4=((s*2^2:Nat):Int):=by omega
 rw[e,u64_or_nat (s*2^2) p (by omega) (by omega),Nat.or_comm,kj p s 2 (by omega)]
 congr 1
 omega
theorem Bq(x:Nat)(h:x<144115188075855872):bits BinOp.or IntKind.u64 ((x:Int)*2) 1=((2*x+1:Nat):Int):=by
 have e:(x:Int)*2=((x*2^1:Nat):Int):=by omega
 rw[e]
 refine(u64_or_nat (x*2^1) 1 (by omega) (by omega)).trans ?_
 rw[Nat.or_comm,kj 1 x 1 (by omega)]
 congr 1
 omega
theorem eO.put{w:World}{b:Nat}{x y:Value}(h:eO w b x y)(u u':Value):eO ((w.setCell ⟨b,0,none⟩ u).setCell ⟨b,1,none⟩ u') b u u':=by
 have d:=heap_setCell_same w b 0 _ _ u h
 have f:=heap_setCell_same (w.setCell ⟨b,0,none⟩ u) b 1 _ _ u' d
 unfold eO
 rw[f]
 simp
theorem eO.oth{w:World}{b g:Nat}{x y:Value}(h:eO w b x y)(d:b≠g)(u u':Value):eO ((w.setCell ⟨g,0,none⟩ u).setCell ⟨g,1,none⟩ u') b x y:=
 (Below.heap_setCell _ ⟨g,1,none⟩ u' b d).trans ((Below.heap_setCell w ⟨g,0,none⟩ u b d).trans h)
theorem jV{B g:Nat}{a w:World}(h:Below B a w)(d:B≤g)(u u':Value):Below B a ((w.setCell ⟨g,0,none⟩ u).setCell ⟨g,1,none⟩ u'):=(h.setCell d u).setCell d u'
theorem EW(r s p x y z:Nat)(w:World)(m:r<18014398509481984)(t:s≤2*r)(f:(x:Int)<(y:Int))
  (A:bits BinOp.or IntKind.u64 ((s:Int)*4) (p:Int)=(x:Int)) (D:bits BinOp.or IntKind.u64 ((r:Int)*2*2) 1=(y:Int)) (d:(r:Int)*2=(z:Int)):
  Calls Tryz.prog 219 #[.agg #[.int .u64 r,.int .u64 s],.int .u64 p] w fun e w'=>e=.returned (.agg #[.int .u64 (z:Nat),.int .u64 (x:Nat)])∧Below w.heap.size w w':=by
 have h:=decide_eq_true f
 have l:=aa d
 clear d
 go_enter Tryz.func219,Tryz.ntmps219
 go_wp2
 go_quiet (fail)
 go_wp2
 rw[uH l]
 refine bodyPost_ret (v:=.agg #[.int .u64 (z:Nat),.int .u64 (x:Nat)]) (by simp[results,Tryz.results219,go_sem]) rfl ⟨rfl,?_⟩
 exact(((below_drewN (((Below.refl _ _).alloc (Nat.le_refl _) _).alloc (by simp) _) _).setCell (by simp) _).setCell (by simp) _)
theorem EX(r s p x y z d:Nat)(w:World)(t:r<18014398509481984)(A:s≤2*r)(h:¬(x:Int)<(y:Int))(f:(x:Int)-(y:Int)=(d:Int))
  (D:bits BinOp.or IntKind.u64 ((s:Int)*4) (p:Int)=(x:Int)) (F:bits BinOp.or IntKind.u64 ((r:Int)*2*2) 1=(y:Int)) (G:bits BinOp.or IntKind.u64 ((r:Int)*2) 1=(z:Int)) (H:x<18446744073709551616):
  Calls Tryz.prog 219 #[.agg #[.int .u64 r,.int .u64 s],.int .u64 p] w fun e w'=>e=.returned (.agg #[.int .u64 (z:Nat),.int .u64 (d:Nat)])∧Below w.heap.size w w':=by
 have l:=decide_eq_false h
 have m:=aa f
 clear f
 go_enter Tryz.func219,Tryz.ntmps219
 go_wp2
 go_quiet (fail)
 go_wp2
 rw[uH m]
 refine bodyPost_ret (v:=.agg #[.int .u64 (z:Nat),.int .u64 (d:Nat)]) (by simp[results,Tryz.results219,go_sem]) rfl ⟨rfl,?_⟩
 exact(((below_drewN (((Below.refl _ _).alloc (Nat.le_refl _) _).alloc (by simp) _) _).setCell (by simp) _).setCell (by simp) _)
theorem tg(n:Nat)(P R S:Nat→Nat)(w:World)(h0:R 0=0∧S 0=0)
  (C:∀i,i<32→∀w',Calls Tryz.prog 219 #[.agg #[.int .u64 (R i:Nat),.int .u64 (S i:Nat)],.int .u64 (P i:Nat)] w' fun e L=>e=.returned (.agg #[.int .u64 (R (i+1):Nat),.int .u64 (S (i+1):Nat)])∧Below w'.heap.size w' L)
  (hP:∀i,i<32→bits .and .u64 ((n:Int)/2^(2*(31-i))) 3=(P i:Int)):
  Calls Tryz.prog 218 #[.int .u64 n] w fun e w'=>e=.returned (.agg #[.int .u64 (R 32:Nat),.int .u64 (S 32:Nat)])∧Below w.heap.size w w':=by
 have M:=aa h0;have N:=aa C;have O:=aa hP
 clear h0 C hP
 go_enter Tryz.func218,Tryz.ntmps218
 go_wp2
 go_loopw[6] (fun i wr=>∃k:Nat,k≤32∧i=.int .i64 k∧Hid (eO wr w.heap.size (.int .u64 0) (.int .u64 0))∧Hid (eO wr (w.heap.size+1) (.int .u64 (R k:Nat)) (.int .u64 (S k:Nat)))∧Hid (Below w.heap.size w wr)) (fun i _=>32-(intOf i).toNat)
 case atStart=>
  have h:=uH M
  refine⟨0,by omega,rfl,aa ?_,aa ?_,aa (((Below.refl _ _).alloc (Nat.le_refl _) _).alloc (by simp) _)⟩
  ·exact(eO.new w (.int .u64 0) (.int .u64 0)).all ((Below.refl _ _).alloc (Nat.le_refl _) _)
  ·rw[h.1,h.2]
   have:=eO.new (w.alloc (.cells #[.int .u64 0,.int .u64 0] 204)) (.int .u64 0) (.int .u64 0)
   simpa using this
 case round=>
  obtain⟨k,hk,rfl,D,m,hb⟩:=hrel
  by_cases F:k<32
  ·have K1:=aa (uH N k F)
   have hp:=uH O k F
   have H:=(uH m).c0;have K:=(uH m).c1;have Q:=(uH m).free 0;have U:=(uH m).free 1
   have b0:(0:Int)≤(k:Int):=by omega
   have b1:(k:Int)<32:=by omega
   obtain⟨d,X⟩:∃d:Nat,d=2*(31-k):=⟨_,rfl⟩
   have e1:IntKind.i64.wrap (31-(k:Int))=((31-k:Nat):Int):=by rw[a8 _ (by omega)];omega
   have e2:IntKind.i64.wrap (2*((31-k:Nat):Int))=(d:Int):=by rw[a8 _ (by omega)];omega
   have d0:d≤63:=by omega
   rw[←X]at hp
   have HD:=aa X
   clear N O M X
   generalize 31-k=c at*
   generalize R k=r at*
   generalize S k=s at*
   generalize P k=p at*
   obtain⟨r1,t⟩:∃x,x=R (k+1):=⟨_,rfl⟩
   obtain⟨s1,A⟩:∃x,x=S (k+1):=⟨_,rfl⟩
   rw[←t,←A]at K1
   have NR:=aa t.symm;have NS:=aa A.symm
   clear t A
   go_wp2_with fail
   have xd:eO wr.drew w.heap.size (.int .u64 0) (.int .u64 0):=uH D
   have yd:eO wr.drew (w.heap.size+1) (.int .u64 (r:Nat)) (.int .u64 (s:Nat)):=uH m
   have G:Below w.heap.size w wr.drew:=(uH hb).drew
   have XD:=aa xd;have YD:=aa yd;have BD:=aa G
   clear xd yd G
   go_region_with (go_at_call 219;refine(uH K1 _).mono ?_;rintro e w1 ⟨rfl,f⟩;have l:=(uH YD).all f;have B1:=aa ((uH BD).trans (f.mono (uH BD).size));have X1:=aa ((uH XD).all f);clear f H K Q U;have H:=l.c0;have K:=l.c1;have Q:=l.free 0;have U:=l.free 1;have YB:=aa l;clear l)
   go_wp2
   go_roundw
   case rel=>
    refine⟨k+1,by omega,by go_num,aa ?_,aa ?_,aa ?_⟩
    ·exact(uH X1).oth (by omega) _ _
    ·rw[uH NR,uH NS]
     exact(uH YB).put _ _
    ·exact jV (uH B1) (by omega) _ _
   case measure=>simp[intOf];omega
  ·have V:k=32:=by omega
   subst V
   have H:=(uH m).c0;have K:=(uH m).c1
   have x0:=(uH D).c0;have l:=(uH D).c1;have Q:=(uH D).free 0;have U:=(uH D).free 1
   clear N O M
   obtain⟨r,Y⟩:∃x,x=R 32:=⟨_,rfl⟩
   obtain⟨s,Z⟩:∃x,x=S 32:=⟨_,rfl⟩
   rw[←Y]at H
   rw[←Z]at K
   have HR:=aa Y;have HS:=aa Z
   clear Y Z
   go_wp2
   refine bodyPost_ret (v:=.agg #[.int .u64 (r:Nat),.int .u64 (s:Nat)]) ?_ rfl ⟨by rw[uH HR,uH HS],jV (uH hb) (Nat.le_refl _) _ _⟩
   have z:=(uH D).put (.int .u64 (r:Nat)) (.int .u64 (s:Nat))
   have z0:=z.c0;have z1:=z.c1
   simp[results,Tryz.results218,go_sem,z0,z1]
theorem mw(n X:Nat)(R S:Nat→Nat)(w:World)
  (O:∀w',Calls Tryz.prog 218 #[.int .u64 n] w' fun e f=>e=.returned (.agg #[.int .u64 (R 0:Nat),.int .u64 (S 0:Nat)])∧Below w'.heap.size w' f)
  (Q:∀i,i<22→∀w',Calls Tryz.prog 219 #[.agg #[.int .u64 (R i:Nat),.int .u64 (S i:Nat)],.int .u64 0] w' fun e f=>e=.returned (.agg #[.int .u64 (R (i+1):Nat),.int .u64 (S (i+1):Nat)])∧Below w'.heap.size w' f)
  (U:R 22<18014398509481984) (V:X=2*R 22+(if S 22=0 then 0 else 1)):
  Calls Tryz.prog 213 #[.int .u64 n] w fun e w'=>e=.returned (.int .i64 (X:Nat))∧Below w.heap.size w w':=by
 have Y:=aa O;have F:=aa Q;have A:=aa V;have G:=aa U
 clear O Q V U
 go_enter Tryz.func213,Tryz.ntmps213
 go_wp2_with fail
 refine(uH Y _).mono ?_
 rintro e w1 ⟨rfl,d⟩
 have x:=aa (eO.new w1 (.int .u64 (R 0:Nat)) (.int .u64 (S 0:Nat)))
 have Z:=aa (d.trans (((Below.refl _ _).alloc (Nat.le_refl _) (.cells #[.int .u64 (R 0:Nat),.int .u64 (S 0:Nat)] 204)).mono d.size))
 have hg:=d.size
 clear Y d
 go_wp2
 go_loopw[7] (fun i wr=>∃k:Nat,k≤22∧i=.int .i64 k∧Hid (eO wr w1.heap.size (.int .u64 (R k:Nat)) (.int .u64 (S k:Nat)))∧Hid (Below w.heap.size w wr)) (fun i _=>22-(intOf i).toNat)
 case atStart=>exact⟨0,by omega,rfl,x,Z⟩
 case round=>
  obtain⟨k,hk,rfl,z,D⟩:=hrel
  clear x Z
  by_cases H:k<22
  ·have C:=aa (uH F k H)
   have K:=(uH z).c0;have L:=(uH z).c1
   have b0:(0:Int)≤(k:Int):=by omega
   have b1:(k:Int)<22:=by omega
   obtain⟨r1,h⟩:∃x,x=R (k+1):=⟨_,rfl⟩
   obtain⟨s1,l⟩:∃x,x=S (k+1):=⟨_,rfl⟩
   rw[←h,←l]at C
   have NR:=aa h.symm;have NS:=aa l.symm
   clear F A G h l
   generalize R k=r at*
   generalize S k=s at*
   go_wp2_with fail
   refine(uH C _).mono ?_
   rintro e w2 ⟨rfl,m⟩
   have t:=(uH z).all m
   have B2:=aa ((uH D).trans (m.mono (uH D).size))
   clear m K L z D C
   have K:=t.c0;have L:=t.c1;have f0:=t.free 0;have f1:=t.free 1
   have YB:=aa t
   clear t
   go_wp2
   go_roundw
   case rel=>
    refine⟨k+1,by omega,by go_num,aa ?_,aa (jV (uH B2) (by omega) _ _)⟩
    rw[uH NR,uH NS]
    exact(uH YB).put _ _
   case measure=>simp[intOf];omega
  ·have N:k=22:=by omega
   subst N
   have K:=(uH z).c0;have L:=(uH z).c1
   have r0:=uH G
   clear F G
   generalize R 22=r at*
   generalize S 22=s at*
   by_cases c:0<s
   ·have M:=aa (show X=2*r+1 by rw[uH A,if_neg (by omega)])
    have c':(s:Int)>0:=by omega
    clear A
    go_wp2
    go_ret
    exact⟨aM (by rw[uH M];omega),uH D⟩
   ·have M:=aa (show X=2*r by rw[uH A,if_pos (by omega)];rfl)
    have c':¬(s:Int)>0:=by omega
    clear A
    go_wp2
    go_ret
    exact⟨aM (by rw[uH M];omega),uH D⟩
end Go.Proofs.YtnnfjeieennffaaGreatDoor
