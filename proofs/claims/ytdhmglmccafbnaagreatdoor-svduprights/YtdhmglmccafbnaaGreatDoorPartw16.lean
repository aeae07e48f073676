/- Part 16 of the texts. -/
import Derived.Test.YtdhmglmccafbnaaGreatDoorPartw15
set_option maxHeartbeats 4000000
set_option maxRecDepth 20000
namespace Go.Proofs.YtdhmglmccafbnaaGreatDoor
open Go.RowKit
theorem pK:1267650600228229401496703205376*p2 (-1075)≤1∧0<p2 (-1075)∧p2 (-1074)=2*p2 (-1075):=by
 refine⟨?_,dh _,?_⟩
 ·have h:=mE (show(-1075:Int)≤-100 by decide)
  have d:=zK 100
  have f:p2 100=1267650600228229401496703205376:=by rw[show(100:Int)=((100:Nat):Int) by rfl,eg];rfl
  rw[f]at d
  grind
 ·rw[show(-1074:Int)= -1075+1 by rfl,vJ]
theorem Af:(1024:Rat)≤p2 1023:=by
 have h:=mE (show(10:Int)≤1023 by decide)
 have d:p2 10=1024:=by rw[show(10:Int)=((10:Nat):Int) by rfl,eg];rfl
 grind
theorem uA(a:Nat)(h:fS a=false):0≤fQ a:=by
 rw[eL,h]
 exact vQ _
def Gf(k:Int)(s x:Nat):Nat:=aV s (mV (xV x (-k)) (xV x (-k)))
def dQ(k:Int)(x:Nat):Rat:=fQ x*p2 (-k)
theorem qK(t:Nat)(d:aA t=true):fS (mV t t)=false∧mV t t<9223372036854775808:=by
 have f:=cH (rv (fR t)*rv (fR t)) (-2148)
 rw[ux t t d d,Bool.xor_self,aQ]
 exact⟨decide_eq_false (by omega),by omega⟩
theorem Gg(k:Int)(x:Nat)(u:x<18446744073709551616)(F:aA x=true)(U:ab (dQ k x)≤2):
  aA (mV (xV x (-k)) (xV x (-k)))=true∧fS (mV (xV x (-k)) (xV x (-k)))=false∧
  9007199254740992*ab (fQ (mV (xV x (-k)) (xV x (-k)))-dQ k x*dQ k x)≤dQ k x*dQ k x+9007199254740992*(8*p2 (-1075)):=by
 obtain⟨n1,n2,O⟩:=pK
 have V:=Af
 have G:ab (fQ x)*p2 (-k)=ab (dQ k x):=by
  unfold dQ
  rw[qI,gz (Rat.le_of_lt (dh _))]
 have f:=xA x (-k) u F (by rw[G];grind)
 have z:=xB x (-k) u F f
 rw[show fQ x*p2 (-k)=dQ k x from rfl]at z
 have L:=gV x (-k) u
 generalize xV x (-k)=t at*
 generalize dQ k x=d at*
 have M:ab (fQ t-d)≤p2 (-1075):=by
  rcases z with e|e
  ·rw[e];unfold ab;grind
  ·have:=e.2.2
   grind
 generalize p2 (-1075)=η at*
 clear z G
 obtain⟨δ,h⟩:∃δ,fQ t=d+δ:=⟨fQ t-d,by grind⟩
 rw[h]at M
 have X:δ≤η∧-δ≤η:=by
  have:=km (d+δ-d)
  grind
 have l:=km d
 have Y:=Rat.mul_nonneg (show 0≤2-d by grind) (show 0≤η-δ by grind)
 have Z:=Rat.mul_nonneg (show 0≤2-d by grind) (show 0≤η+δ by grind)
 have m3:=Rat.mul_nonneg (show 0≤2+d by grind) (show 0≤η-δ by grind)
 have m4:=Rat.mul_nonneg (show 0≤2+d by grind) (show 0≤η+δ by grind)
 have m5:=Rat.mul_nonneg (show 0≤η-δ by grind) (show 0≤η+δ by grind)
 have m6:=dU δ
 have m7:=dU d
 have m8:=Rat.mul_nonneg (show 0≤η by grind) (show 0≤1-η by grind)
 have m9:=Rat.mul_nonneg (show 0≤2-d by grind) (show 0≤2+d by grind)
 have D:fQ t*fQ t=d*d+2*(d*δ)+δ*δ:=by rw[h];grind
 have N:fQ t*fQ t≤d*d+5*η∧d*d≤fQ t*fQ t+5*η:=by
  rw[D];constructor<;>grind
 have H:=dU (fQ t)
 have J:=DM t t f f (by rw[gz H];grind)
 refine⟨J,(qK t f).1,?_⟩
 have K:=DK t t f f J
 rw[gz H,O]at K
 generalize fQ (mV t t)=P at*
 generalize fQ t*fQ t=Q at*
 rcases K with e|e
 ·have:=km (P-Q)
  unfold ab
  grind
 ·have:=km (P-Q)
  have:=e.2
  unfold ab
  grind
theorem DO(k:Int)(s x:Nat)(T H G:Rat)(F:x<18446744073709551616)(J:aA x=true)(K:ab (dQ k x)≤2)(d:aA s=true)(h:fS s=false)
  (Z:T+dQ k x*dQ k x≤G) (L:1≤G) (M:G≤256) (hH:H≤64*G)
  (he:9007199254740992*ab (fQ s-T)≤2*T+2*H):
  aA (Gf k s x)=true∧fS (Gf k s x)=false∧9007199254740992*ab (fQ (Gf k s x)-(T+dQ k x*dQ k x))≤2*(T+dQ k x*dQ k x)+2*(H+G):=by
 obtain⟨f,l,ep⟩:=Gg k x F J K
 obtain⟨n1,n2,n3⟩:=pK
 have hB:=Af
 unfold Gf
 generalize mV (xV x (-k)) (xV x (-k))=p at*
 have s0:=uA s h
 have p0:=uA p l
 have m7:=dU (dQ k x)
 generalize dQ k x*dQ k x=D at*
 have l1:=km (fQ s-T)
 have l2:=km (fQ p-D)
 have u:ab (fQ s+fQ p)=fQ s+fQ p:=gz (by grind)
 have z:=DL s p d f (by rw[u];grind)
 have N:=DJ s p d f z
 rw[u]at N
 refine⟨z,?_,?_⟩
 ·have h1:=(qy s p d f).2
  have hz:0≤fZ s∧0≤fZ p:=by
   unfold fZ pv;rw[h,l];simp only[Bool.false_eq_true,if_false];omega
  obtain⟨Q,U⟩:=bD d
  obtain⟨V,X⟩:=bD f
  rw[(sn s p Q U V X).1]
  split
  ·rw[h,l];decide
  ·have O:=cH (aZ s p).natAbs (-1074)
   rw[ii _ _ (by omega)]
   exact decide_eq_false (by unfold aZ;omega)
 ·have l3:=km (fQ (aV s p)-(fQ s+fQ p))
  generalize fQ (aV s p)=Y at*
  generalize fQ s=S at*
  generalize fQ p=P at*
  generalize p2 (-1075)=η at*
  refine Rat.le_trans (Rat.mul_le_mul_of_nonneg_left (Hy (y:=ab (Y-(S+P))+ab (S-T)+ab (P-D)) (by grind) (by grind)) (by decide)) ?_
  grind
def yC(k:Int):Nat→List Nat→Nat
 |s,[]=>s
 |s,x::xs=>yC k (Gf k s x) xs
def k9(k:Int):List Nat→Rat
 | []=>0
 |x::xs=>dQ k x*dQ k x+k9 k xs
theorem Fi(k:Int)(d:List Nat):0≤k9 k d:=by
 induction d with
 |nil=>exact Rat.le_refl
 |cons x d ih=>
  have:=dU (dQ k x)
  unfold k9
  grind
theorem Gh(k:Int)(G:Rat)(f:1≤G)(h:G≤256):∀(d:List Nat) (s:Nat) (T H:Rat),(∀x∈d,x<18446744073709551616∧aA x=true∧ab (dQ k x)≤2)→aA s=true→fS s=false→
  T+k9 k d≤G→H+(d.length:Rat)*G≤64*G→9007199254740992*ab (fQ s-T)≤2*T+2*H→
  aA (yC k s d)=true∧fS (yC k s d)=false∧9007199254740992*ab (fQ (yC k s d)-(T+k9 k d))≤2*(T+k9 k d)+2*(H+(d.length:Rat)*G):=by
 intro d
 induction d with
 |nil=>
  intro s T H _ z D _ _ F
  refine⟨z,D,?_⟩
  have L:yC k s []=s:=rfl
  have l:k9 k []=0:=rfl
  have u:(([]:List Nat).length:Rat)=0:=rfl
  rw[L,l,u,Rat.add_zero]
  grind
 |cons x d ih=>
  intro s T H J z D hT hH F
  obtain⟨N,O,Q⟩:=J x (List.mem_cons_self)
  have l:k9 k (x::d)=dQ k x*dQ k x+k9 k d:=rfl
  have u:((x::d).length:Rat)=(d.length:Rat)+1:=by rw[List.length_cons,Rat.natCast_add];rfl
  have M:((x::d).length:Rat)*G=(d.length:Rat)*G+G:=by rw[u];grind
  have q0:=Fi k d
  have l0:0≤(d.length:Rat)*G:=Rat.mul_nonneg Rat.natCast_nonneg (by grind)
  rw[l]at hT⊢
  rw[M]at hH⊢
  obtain⟨U,V,X⟩:=DO k s x T H G N O Q z D (by grind) f h (by grind) F
  obtain⟨Y,Z,i3⟩:=ih (Gf k s x) (T+dQ k x*dQ k x) (H+G) (fun y K=>J y (List.mem_cons_of_mem _ K)) U V (by grind) (by grind) X
  refine⟨Y,Z,?_⟩
  rw[show T+(dQ k x*dQ k x+k9 k d)=T+dQ k x*dQ k x+k9 k d by grind,show H+((d.length:Rat)*G+G)=H+G+(d.length:Rat)*G by grind]
  exact i3
def mx(a b:Nat):Nat:=if fK a=4∨fK b=4 then 9221120237041090560 else if fZ a<fZ b then b else a
def iA:Nat→List Nat→Nat
 |m,[]=>m
 |m,x::xs=>iA (mx m (fR x)) xs
theorem nK(r:Nat)(h:r<9223372036854775808):fZ r=(rv r:Int)∧fR r=r∧fS r=false:=by
 have d:fR r=r:=by unfold fR;omega
 have f:fS r=false:=decide_eq_false (by omega)
 refine⟨?_,d,f⟩
 unfold fZ pv
 rw[d,f]
 rfl
theorem Gi(m r:Nat)(d:m<9218868437227405312)(f:r<9218868437227405312):mx m r=max m r:=by
 obtain⟨l,u,H⟩:=nK m (by omega)
 obtain⟨z,D,J⟩:=nK r (by omega)
 have F:=(bD ((aP m).2.2.2 (by rw[u];exact d))).2
 have G:=(bD ((aP r).2.2.2 (by rw[D];exact f))).2
 unfold mx
 rw[if_neg (by omega),l,z]
 rcases Nat.lt_or_ge m r with h|h
 ·have:=k7 h
  rw[if_pos (by omega)]
  omega
 ·have:=mu h
  rw[if_neg (by omega)]
  omega
theorem vR:∀(d:List Nat) (m:Nat),m<9218868437227405312→(∀x∈d,aA x=true)→
  iA m d<9218868437227405312∧m≤iA m d∧(∀x∈d,fR x≤iA m d)∧(iA m d=m∨∃x∈d,fR x=iA m d):=by
 intro d
 induction d with
 |nil=>intro m z _;exact⟨z,Nat.le_refl _,(fun x l=>(by cases l)),Or.inl rfl⟩
 |cons x d ih=>
  intro m z l
  have D:=iN x (l x List.mem_cons_self)
  have e:iA m (x::d)=iA (max m (fR x)) d:=by
   show iA (mx m (fR x)) d=_
   rw[Gi m _ z D]
  obtain⟨F,H,G,u⟩:=ih (max m (fR x)) (by omega) (fun y f=>l y (List.mem_cons_of_mem _ f))
  rw[e]
  refine⟨F,by omega,?_,?_⟩
  ·intro y f
   rcases List.mem_cons.1 f with rfl|f
   ·omega
   ·exact G y f
  ·rcases u with u|⟨y,f,u⟩
   ·rcases Nat.lt_or_ge m (fR x)with h|h
    ·exact .inr ⟨x,List.mem_cons_self,by omega⟩
    ·exact .inl (by omega)
   ·exact .inr ⟨y,List.mem_cons_of_mem _ f,u⟩
def Fj(xs:List Nat):Nat:=if iA 0 xs=0∨aA (iA 0 xs)=false then iA 0 xs else xV (sV (yC (eX (iA 0 xs)) 0 xs)) (eX (iA 0 xs))
theorem Gj(a:Nat)(f:a<18446744073709551616)(d:aA a=true)(l:fK a≠0):p2 (eX a)≤ab (fQ a)∧ab (fQ a)<p2 (eX a+1):=by
 obtain⟨z,D⟩:=bD d
 obtain⟨z1,z2,u,F,G,H,J,K,L⟩:=f8 a f d l
 have h:=uy (fD a).natAbs (fX a) u
 have e:=uz a f d l 0
 rw[Int.add_zero,Hq,Rat.mul_one,←lT]at e
 rw[e]at h
 unfold eX
 rw[if_neg (by omega),show(bl (fD a).natAbs:Int)+fX a-1+1=(bl (fD a).natAbs:Int)+fX a by omega]
 exact h
theorem DP(k:Int):∀(f:List Nat) (x:Nat),x∈f→dQ k x*dQ k x≤k9 k f:=by
 intro f
 induction f with
 |nil=>intro x d;cases d
 |cons y ys ih=>
  intro x d
  have h:=Fi k ys
  have l:=dU (dQ k y)
  have e:k9 k (y::ys)=dQ k y*dQ k y+k9 k ys:=rfl
  rw[e]
  rcases List.mem_cons.1 d with rfl|d
  ·grind
  ·have:=ih x d
   grind
theorem Gk(k:Int):∀(d:List Nat),(∀x∈d,ab (dQ k x)≤2)→k9 k d≤4*(d.length:Rat):=by
 intro d
 induction d with
 |nil=>
  intro _
  have e:k9 k []=0:=rfl
  have f:(([]:List Nat).length:Rat)=0:=rfl
  rw[e,f]
  grind
 |cons y ys ih=>
  intro h
  have z:=ih (fun x u=>h x (List.mem_cons_of_mem _ u))
  have D:=h y List.mem_cons_self
  have l:=km (dQ k y)
  have m:=Rat.mul_nonneg (show 0≤2-dQ k y by grind) (show 0≤2+dQ k y by grind)
  have e:k9 k (y::ys)=dQ k y*dQ k y+k9 k ys:=rfl
  have f:((y::ys).length:Rat)=(ys.length:Rat)+1:=by rw[List.length_cons,Rat.natCast_add];rfl
  rw[e,f]
  grind
def H9(K:Int)(xs:List Nat):Prop:=(∀x∈xs,x<18446744073709551616∧aA x=true)∧(iA 0 xs=0∨(-K≤eX (iA 0 xs)∧eX (iA 0 xs)<K))
theorem DQ(K:Int)(d:List Nat)(h:H9 K d)(D:iA 0 d≠0):
  iA 0 d<9218868437227405312∧aA (iA 0 d)=true∧fK (iA 0 d)≠0∧fS (iA 0 d)=false∧-K≤eX (iA 0 d)∧eX (iA 0 d)<K∧
  (∀x∈d,ab (fQ x)≤fQ (iA 0 d))∧(∀x∈d,ab (dQ (eX (iA 0 d)) x)≤2)∧(∃x∈d,ab (fQ x)=fQ (iA 0 d)∧1≤dQ (eX (iA 0 d)) x*dQ (eX (iA 0 d)) x):=by
 obtain⟨U,g2,g3,l⟩:=vR d 0 (by decide) (fun x u=>(h.1 x u).2)
 have Y:=h.2
 generalize hM:iA 0 d=M at*
 obtain⟨a1,V,F⟩:=nK M (by omega)
 have fM:aA M=true:=(aP M).2.2.2 (by rw[V];exact U)
 have J:fK M≠0:=fun e=>D (by have:=(aR M).1 e;omega)
 have Z:=uA M F
 have L:fQ M=(rv M:Rat)*p2 (-1074):=by rw[eL,F,V];rfl
 obtain⟨X,G⟩:=Gj M (by omega) fM J
 rw[gz Z]at X G
 have f:∀x∈d,ab (fQ x)≤fQ M:=fun x u=>by
  rw[lT,L]
  have h1:(rv (fR x):Rat)≤(rv M:Rat):=Rat.natCast_le_natCast.2 (mu (g3 x u))
  have:=Rat.mul_le_mul_of_nonneg_left h1 (Rat.le_of_lt (dh (-1074)))
  grind
 obtain⟨y,hy,H⟩:∃x∈d,fR x=M:=by
  rcases l with l|l
  ·exact absurd l D
  ·exact l
 clear l
 have N:ab (fQ y)=fQ M:=by rw[lT,L,H]
 have z:=dh (-eX M)
 have ae:p2 (-eX M)*p2 (eX M)=1:=zK _
 rw[vJ]at G
 have u1:=Rat.mul_le_mul_of_nonneg_left X (Rat.le_of_lt z)
 have u2:=Rat.mul_lt_mul_of_pos_left G z
 have O:∀x,ab (dQ (eX M) x)=ab (fQ x)*p2 (-eX M):=fun x=>by
  unfold dQ;rw[qI,gz (Rat.le_of_lt z)]
 have Q:=Y.resolve_left D
 refine⟨U,fM,J,F,Q.1,Q.2,f,?_,y,hy,N,?_⟩
 ·intro x u
  rw[O]
  have:=Rat.mul_le_mul_of_nonneg_left (f x u) (Rat.le_of_lt z)
  grind
 ·have e1:1≤ab (dQ (eX M) y):=by rw[O,N];grind
  have e2:dQ (eX M) y*dQ (eX M) y=ab (dQ (eX M) y)*ab (dQ (eX M) y):=by
   rw[←qI];exact(gz (dU _)).symm
  rw[e2]
  have:=Rat.mul_nonneg (show 0≤ab (dQ (eX M) y)-1 by grind) (show 0≤ab (dQ (eX M) y)-1 by grind)
  grind
def gw(ε:Rat):Nat→Rat
 |0=>1
 |k+1=>(1+2*ε)*gw ε k
def bk(ε:Rat):Nat→Rat
 |0=>0
 |k+1=>3+(1+2*ε)*(1+2*ε)*bk ε k
def er(ε δ:Rat):Nat→Rat
 |0=>0
 |k+1=>gw ε k+er ε δ k*(1+2*ε+δ)
def aO(s t:Bool):Nat:=if(s&&t)=true then 9223372036854775808 else 0
theorem uB(a b:Nat)(w:World)(h:a<18446744073709551616)(l:b<18446744073709551616):
  Calls Tryz.prog 296 #[.int .u64 a,.int .u64 b] w fun e w'=>e=.returned (.int .u64 (aO (fS a) (fS b):Nat))∧Below w.heap.size w w':=by
 have u:=aa (fun w'=>dO a w' h)
 have z:=aa (fun w'=>dO b w' l)
 generalize fS a=s at*
 generalize fS b=t at*
 clear h l
 go_enter Tryz.func296,Tryz.ntmps296
 go_wp2_with fail
 refine(uH u _).mono ?_
 rintro e D ⟨rfl,d⟩
 cases s
 ·go_wp2
  go_ret
  exact⟨rfl,d⟩
 ·go_wp2_with fail
  refine(uH z _).mono ?_
  rintro e F ⟨rfl,f⟩
  cases t
  ·go_wp2
   go_ret
   exact⟨rfl,d.trans (f.mono d.size)⟩
  ·go_wp2
   go_ret
   exact⟨rfl,d.trans (f.mono d.size)⟩
theorem Ag{w:World}{n:Bool}{a:Option Addr}{l c:Nat}{e m X:Int}(h:aC w (.agg #[.bool n,.slice a l c,.int .i64 e]) m X):((l:Int)==0)=decide (m=0):=by
 obtain⟨H,J,K,d,z,_,G,_,u,_⟩:=h.parts
 simp only[Value.agg.injEq,Array.mk.injEq,List.cons.injEq,Value.slice.injEq]at z
 have F:=z.2.1.2.1
 by_cases f:m=0
 ·have:d= []:=(aG d G).1 (by rw[u,f];rfl)
  rw[decide_eq_true f,F,this];rfl
 ·have:d.length≠0:=fun D=>by
   have:d= []:=List.length_eq_zero_iff.1 D
   rw[this]at u
   simp[ai]at u
   omega
  rw[decide_eq_false f];simp;omega
theorem sG(a b:Nat)(z1 z2 l z D:Int)(w:World)(o:Nat)
  (C1:∀w',Below w.heap.size w w'→Calls Tryz.prog 207 #[.int .u64 a] w' fun r h=>mi h r 0 z1 l∧Below w'.heap.size w' h)
  (C2:∀w',Below w.heap.size w w'→Calls Tryz.prog 207 #[.int .u64 b] w' fun r h=>mi h r 0 z2 z∧Below w'.heap.size w' h)
  (C3:∀w' v u,Below w.heap.size w w'→aC w' v z1 l→aC w' u z2 z→Calls Tryz.prog 295 #[v,u] w' fun r h=>mi h r 0 0 D∧Below w'.heap.size w' h)
  (C4:∀w',Calls Tryz.prog 296 #[.int .u64 a,.int .u64 b] w' fun r h=>r=.returned (.int .u64 (o:Nat))∧Below w'.heap.size w' h):
  Calls Tryz.prog 277 #[.int .u64 a,.int .u64 b] w fun r w'=>r=.returned (.tuple #[.int .u64 (o:Nat),.int .u8 0])∧Below w.heap.size w w':=by
 have K1:=aa C1;have K2:=aa C2;have K3:=aa C3;have K4:=aa C4
 clear C1 C2 C3 C4
 go_enter Tryz.func277,Tryz.ntmps277
 go_wp2_with fail
 refine(uH K1 _ (Below.refl _ _)).mono ?_
 rintro e H ⟨⟨v,rfl,J⟩,f⟩
 obtain⟨V,Y,Z,L1,rfl,i1⟩:=J
 have d:Below H.heap.size H (H.alloc (.cells #[.bool V,.slice Y L1.length Z,.int .i64 l] 41)):=(Below.refl _ _).alloc (Nat.le_refl _) _
 have HV:=aa ((show aC H (.agg #[.bool V,.slice Y L1.length Z,.int .i64 l]) z1 l from⟨V,Y,Z,L1,rfl,i1⟩).below d)
 have X:=aa (ay.new H (.bool V) (.slice Y L1.length Z) (.int .i64 l))
 have M:=aa (f.trans (d.mono f.size))
 clear i1 f d K1
 go_wp2_with fail
 refine(uH K2 _ (uH M)).mono ?_
 rintro e K ⟨⟨v,rfl,J⟩,f⟩
 obtain⟨n2,a2,c2,L2,rfl,i2⟩:=J
 have d:Below K.heap.size K (K.alloc (.cells #[.bool n2,.slice a2 L2.length c2,.int .i64 z] 41)):=(Below.refl _ _).alloc (Nat.le_refl _) _
 have HU:=aa ((show aC K (.agg #[.bool n2,.slice a2 L2.length c2,.int .i64 z]) z2 z from⟨n2,a2,c2,L2,rfl,i2⟩).below d)
 have F:=aa (((uH HV).below f).below d)
 have N:=((uH X).all f).all d
 have O:=ay.new K (.bool n2) (.slice a2 L2.length c2) (.int .i64 z)
 have Q:=aa ((uH M).trans ((f.trans (d.mono f.size)).mono (uH M).size))
 have y0:=N.c0;have y1:=N.c1;have y2:=N.c2;have u0:=O.c0;have u1:=O.c1;have u2:=O.c2
 clear i2 f d K2 M HV X N O
 go_wp2_with fail
 refine(uH K3 _ _ _ (uH Q) (uH F) (uH HU)).mono ?_
 rintro e L ⟨⟨v,rfl,J⟩,f⟩
 clear y0 y1 y2 u0 u1 u2
 obtain⟨n3,a3,c3,G,rfl,i3⟩:=J
 have d:Below L.heap.size L (L.alloc (.cells #[.bool n3,.slice a3 G.length c3,.int .i64 D] 41)):=(Below.refl _ _).alloc (Nat.le_refl _) _
 have HX:=aa ((show aC L (.agg #[.bool n3,.slice a3 G.length c3,.int .i64 D]) 0 D from⟨n3,a3,c3,G,rfl,i3⟩).below d)
 have hl:=Ag (uH HX)
 rw[decide_eq_true rfl]at hl
 have B3:=aa ((uH Q).trans ((f.trans (d.mono f.size)).mono (uH Q).size))
 have U:=ay.new L (.bool n3) (.slice a3 G.length c3) (.int .i64 D)
 have y0:=U.c0;have y1:=U.c1;have y2:=U.c2
 clear i3 f d K3 Q F HU U
 generalize G.length=l3 at*
 go_wp2_with fail
 refine(uH K4 _).mono ?_
 rintro e w4 ⟨rfl,f⟩
 have B4:=aa ((uH B3).trans (f.mono (uH B3).size))
 clear f K4 B3
 go_wp2
 exact bodyPost_ret (v:=.tuple #[.int .u64 o,.int .u8 0]) (by simp[results,Tryz.results277,go_sem]) rfl ⟨rfl,uH B4⟩
theorem sH(a b:Nat)(z1 z2 M l z D fl:Int)(w:World)(o:Nat)(h0:M≠0)
  (C1:∀w',Below w.heap.size w w'→Calls Tryz.prog 207 #[.int .u64 a] w' fun r h=>mi h r 0 z1 l∧Below w'.heap.size w' h)
  (C2:∀w',Below w.heap.size w w'→Calls Tryz.prog 207 #[.int .u64 b] w' fun r h=>mi h r 0 z2 z∧Below w'.heap.size w' h)
  (C3:∀w' v u,Below w.heap.size w w'→aC w' v z1 l→aC w' u z2 z→Calls Tryz.prog 295 #[v,u] w' fun r h=>mi h r 0 M D∧Below w'.heap.size w' h)
  (C4:∀w' v,Below w.heap.size w w'→aC w' v M D→Calls Tryz.prog 251 #[v] w' fun r h=>r=.returned (.tuple #[.int .u64 (o:Nat),.int .u8 fl,.int .i64 0])∧Below w'.heap.size w' h):
  Calls Tryz.prog 277 #[.int .u64 a,.int .u64 b] w fun r w'=>r=.returned (.tuple #[.int .u64 (o:Nat),.int .u8 fl])∧Below w.heap.size w w':=by
 have K1:=aa C1;have K2:=aa C2;have K3:=aa C3;have K4:=aa C4
 clear C1 C2 C3 C4
 go_enter Tryz.func277,Tryz.ntmps277
 go_wp2_with fail
 refine(uH K1 _ (Below.refl _ _)).mono ?_
 rintro e H ⟨⟨v,rfl,J⟩,f⟩
 obtain⟨Z,a1,c1,L1,rfl,i1⟩:=J
 have d:Below H.heap.size H (H.alloc (.cells #[.bool Z,.slice a1 L1.length c1,.int .i64 l] 41)):=(Below.refl _ _).alloc (Nat.le_refl _) _
 have HV:=aa ((show aC H (.agg #[.bool Z,.slice a1 L1.length c1,.int .i64 l]) z1 l from⟨Z,a1,c1,L1,rfl,i1⟩).below d)
 have X:=aa (ay.new H (.bool Z) (.slice a1 L1.length c1) (.int .i64 l))
 have N:=aa (f.trans (d.mono f.size))
 clear i1 f d K1
 go_wp2_with fail
 refine(uH K2 _ (uH N)).mono ?_
 rintro e K ⟨⟨v,rfl,J⟩,f⟩
 obtain⟨n2,a2,c2,L2,rfl,i2⟩:=J
 have d:Below K.heap.size K (K.alloc (.cells #[.bool n2,.slice a2 L2.length c2,.int .i64 z] 41)):=(Below.refl _ _).alloc (Nat.le_refl _) _
 have HU:=aa ((show aC K (.agg #[.bool n2,.slice a2 L2.length c2,.int .i64 z]) z2 z from⟨n2,a2,c2,L2,rfl,i2⟩).below d)
 have F:=aa (((uH HV).below f).below d)
 have O:=((uH X).all f).all d
 have Q:=ay.new K (.bool n2) (.slice a2 L2.length c2) (.int .i64 z)
 have U:=aa ((uH N).trans ((f.trans (d.mono f.size)).mono (uH N).size))
 have y0:=O.c0;have y1:=O.c1;have y2:=O.c2;have u0:=Q.c0;have u1:=Q.c1;have u2:=Q.c2
 clear i2 f d K2 N HV X O Q
 go_wp2_with fail
 refine(uH K3 _ _ _ (uH U) (uH F) (uH HU)).mono ?_
 rintro e L ⟨⟨v,rfl,J⟩,f⟩
 clear y0 y1 y2 u0 u1 u2
 obtain⟨n3,a3,c3,G,rfl,i3⟩:=J
 have d:Below L.heap.size L (L.alloc (.cells #[.bool n3,.slice a3 G.length c3,.int .i64 D] 41)):=(Below.refl _ _).alloc (Nat.le_refl _) _
 have HX:=aa ((show aC L (.agg #[.bool n3,.slice a3 G.length c3,.int .i64 D]) M D from⟨n3,a3,c3,G,rfl,i3⟩).below d)
 have hl:=Ag (uH HX)
 rw[decide_eq_false h0]at hl
 have V:=aa ((uH U).trans ((f.trans (d.mono f.size)).mono (uH U).size))
 have Y:=ay.new L (.bool n3) (.slice a3 G.length c3) (.int .i64 D)
 have y0:=Y.c0;have y1:=Y.c1;have y2:=Y.c2
 clear i3 f d K3 U F HU Y
 generalize G.length=l3 at*
 go_wp2_with fail
 refine(uH K4 _ _ (uH V) (uH HX)).mono ?_
 rintro e w4 ⟨rfl,f⟩
 have B4:=aa ((uH V).trans (f.mono (uH V).size))
 clear f K4 V
 go_wp2
 exact bodyPost_ret (v:=.tuple #[.int .u64 o,.int .u8 fl]) (by simp[results,Tryz.results277,go_sem]) rfl ⟨rfl,uH B4⟩
theorem oZ(a b:Nat)(w:World)(D:a<18446744073709551616)(F:b<18446744073709551616)(f:aA a=true)(l:aA b=true)(z:bT w):
  Calls Tryz.prog 277 #[.int .u64 a,.int .u64 b] w fun r w'=>r=.returned (.tuple #[.int .u64 (aV a b:Nat),.int .u8 (aF a b)])∧Below w.heap.size w w':=by
 obtain⟨N,O⟩:fK a≠3∧fK a≠4:=by
  rcases eT a with⟨h,_⟩|⟨_,h⟩
  ·rw[f]at h;cases h
  ·omega
 obtain⟨Q,U⟩:fK b≠3∧fK b≠4:=by
  rcases eT b with⟨h,_⟩|⟨_,h⟩
  ·rw[l]at h;cases h
  ·omega
 obtain⟨Y,Z⟩:=dC a D f
 obtain⟨d3,d4⟩:=dC b F l
 have H:=FT a b f l
 have K:∀w',Below w.heap.size w w'→_:=fun w' h=>df a w' D f (z.all h)
 have L:∀w',Below w.heap.size w w'→_:=fun w' h=>df b w' F l (z.all h)
 have J:∀w' v u,Below w.heap.size w w'→aC w' v (fD a) (fX a)→aC w' u (fD b) (fX b)→_:=fun w' v u h G V=>
  IF (W:=2099) (lo:=-1074) (z1:=fZ a) (z2:=fZ b) (by rw[Y,Z];exact G) (by rw[d3,d4];exact V) (kX a f) (kX b l) H (z.all h)
 rw[(sn a b N O Q U).1,(sn a b N O Q U).2]
 by_cases d:aZ a b=0
 ·rw[if_pos d,if_pos d]
  have X:fZ a+fZ b=0:=d
  rw[X,cl]at J
  exact sG a b _ _ _ _ _ w _ K L J (fun w'=>uB a b w' D F)
 ·rw[if_neg d,if_neg d]
  have M:∀w' v,Below w.heap.size w w'→aC w' v (oM (aZ a b)) (oE (aZ a b) (-1074))→_:=fun w' v h G=>iL G H.right.2 H.right.1 (z.all h)
  rw[(jg (aZ a b) (-1074)).1,jf]at M
  exact sH a b _ _ _ _ _ _ _ w _ (gj _ d).1 K L J M
theorem DR(a b:Nat)(F:Int)(w:World)
  (l:∀w',Calls Tryz.prog 113 #[.int .u64 a] w' fun r d=>r=.returned (.int .i64 4)∧Below w'.heap.size w' d)
  (u:∀w',Calls Tryz.prog 113 #[.int .u64 b] w' fun r d=>r=.returned (.int .i64 F)∧Below w'.heap.size w' d):
  Calls Tryz.prog 252 #[.int .u64 a,.int .u64 b] w fun r w'=>r=.returned (.tuple #[.int .u64 9221120237041090560,.int .u8 0])∧Below w.heap.size w w':=by
 have z:=aa l;have D:=aa u
 clear l u
 go_enter Tryz.func252,Tryz.ntmps252
 go_wp2_with fail
 refine(uH z _).mono ?_
 rintro e G ⟨rfl,f⟩
 go_wp2_with fail
 refine(uH D _).mono ?_
 rintro e H ⟨rfl,h⟩
 have B:=aa (f.trans (h.mono f.size))
 clear f h z D
 go_wp2
 exact bodyPost_ret (v:=.tuple #[.int .u64 9221120237041090560,.int .u8 0]) (by simp[results,Tryz.results252,go_sem]) rfl ⟨rfl,uH B⟩
theorem DS(a b:Nat)(l:Int)(w:World)(G:(l==4)=false)
  (u:∀w',Calls Tryz.prog 113 #[.int .u64 a] w' fun r d=>r=.returned (.int .i64 l)∧Below w'.heap.size w' d)
  (z:∀w',Calls Tryz.prog 113 #[.int .u64 b] w' fun r d=>r=.returned (.int .i64 4)∧Below w'.heap.size w' d):
  Calls Tryz.prog 252 #[.int .u64 a,.int .u64 b] w fun r w'=>r=.returned (.tuple #[.int .u64 9221120237041090560,.int .u8 0])∧Below w.heap.size w w':=by
 have D:=aa u;have F:=aa z
 clear u z
 go_enter Tryz.func252,Tryz.ntmps252
 go_wp2_with fail
 refine(uH D _).mono ?_
 rintro e H ⟨rfl,f⟩
 go_wp2_with fail
 refine(uH F _).mono ?_
 rintro e J ⟨rfl,h⟩
 have B:=aa (f.trans (h.mono f.size))
 clear f h D F
 go_wp2
 exact bodyPost_ret (v:=.tuple #[.int .u64 9221120237041090560,.int .u8 0]) (by simp[results,Tryz.results252,go_sem]) rfl ⟨rfl,uH B⟩
theorem DT(a b:Nat)(w:World)(F:((a:Int)==(b:Int))=false)
  (l:∀w',Calls Tryz.prog 113 #[.int .u64 a] w' fun r d=>r=.returned (.int .i64 3)∧Below w'.heap.size w' d)
  (u:∀w',Calls Tryz.prog 113 #[.int .u64 b] w' fun r d=>r=.returned (.int .i64 3)∧Below w'.heap.size w' d):
  Calls Tryz.prog 252 #[.int .u64 a,.int .u64 b] w fun r w'=>r=.returned (.tuple #[.int .u64 9221120237041090560,.int .u8 16])∧Below w.heap.size w w':=by
 have z:=aa l;have D:=aa u
 clear l u
 go_enter Tryz.func252,Tryz.ntmps252
 go_wp2_with fail
 refine(uH z _).mono ?_
 rintro e G ⟨rfl,f⟩
 go_wp2_with fail
 refine(uH D _).mono ?_
 rintro e H ⟨rfl,h⟩
 have B:=aa (f.trans (h.mono f.size))
 clear f h z D
 go_wp2
 exact bodyPost_ret (v:=.tuple #[.int .u64 9221120237041090560,.int .u8 16]) (by simp[results,Tryz.results252,go_sem]) rfl ⟨rfl,uH B⟩
theorem DU(a b:Nat)(w:World)(F:((a:Int)==(b:Int))=true)
  (l:∀w',Calls Tryz.prog 113 #[.int .u64 a] w' fun r d=>r=.returned (.int .i64 3)∧Below w'.heap.size w' d)
  (u:∀w',Calls Tryz.prog 113 #[.int .u64 b] w' fun r d=>r=.returned (.int .i64 3)∧Below w'.heap.size w' d):
  Calls Tryz.prog 252 #[.int .u64 a,.int .u64 b] w fun r w'=>r=.returned (.tuple #[.int .u64 a,.int .u8 0])∧Below w.heap.size w w':=by
 have z:=aa l;have D:=aa u
 clear l u
 go_enter Tryz.func252,Tryz.ntmps252
 go_wp2_with fail
 refine(uH z _).mono ?_
 rintro e G ⟨rfl,f⟩
 go_wp2_with fail
 refine(uH D _).mono ?_
 rintro e H ⟨rfl,h⟩
 have B:=aa (f.trans (h.mono f.size))
 clear f h z D
 go_wp2
 exact bodyPost_ret (v:=.tuple #[.int .u64 a,.int .u8 0]) (by simp[results,Tryz.results252,go_sem]) rfl ⟨rfl,uH B⟩
theorem Gl(a b:Nat)(l:Int)(w:World)(G:(l==4)=false)(H:(l==3)=false)
  (u:∀w',Calls Tryz.prog 113 #[.int .u64 a] w' fun r d=>r=.returned (.int .i64 3)∧Below w'.heap.size w' d)
  (z:∀w',Calls Tryz.prog 113 #[.int .u64 b] w' fun r d=>r=.returned (.int .i64 l)∧Below w'.heap.size w' d):
  Calls Tryz.prog 252 #[.int .u64 a,.int .u64 b] w fun r w'=>r=.returned (.tuple #[.int .u64 a,.int .u8 0])∧Below w.heap.size w w':=by
 have D:=aa u;have F:=aa z
 clear u z
 go_enter Tryz.func252,Tryz.ntmps252
 go_wp2_with fail
 refine(uH D _).mono ?_
 rintro e J ⟨rfl,f⟩
 go_wp2_with fail
 refine(uH F _).mono ?_
 rintro e K ⟨rfl,h⟩
 have B:=aa (f.trans (h.mono f.size))
 clear f h D F
 go_wp2
 exact bodyPost_ret (v:=.tuple #[.int .u64 a,.int .u8 0]) (by simp[results,Tryz.results252,go_sem]) rfl ⟨rfl,uH B⟩
theorem Gm(a b:Nat)(l:Int)(w:World)(G:(l==4)=false)(H:(l==3)=false)
  (u:∀w',Calls Tryz.prog 113 #[.int .u64 a] w' fun r d=>r=.returned (.int .i64 l)∧Below w'.heap.size w' d)
  (z:∀w',Calls Tryz.prog 113 #[.int .u64 b] w' fun r d=>r=.returned (.int .i64 3)∧Below w'.heap.size w' d):
  Calls Tryz.prog 252 #[.int .u64 a,.int .u64 b] w fun r w'=>r=.returned (.tuple #[.int .u64 b,.int .u8 0])∧Below w.heap.size w w':=by
 have D:=aa u;have F:=aa z
 clear u z
 go_enter Tryz.func252,Tryz.ntmps252
 go_wp2_with fail
 refine(uH D _).mono ?_
 rintro e J ⟨rfl,f⟩
 go_wp2_with fail
 refine(uH F _).mono ?_
 rintro e K ⟨rfl,h⟩
 have B:=aa (f.trans (h.mono f.size))
 clear f h D F
 go_wp2
 exact bodyPost_ret (v:=.tuple #[.int .u64 b,.int .u8 0]) (by simp[results,Tryz.results252,go_sem]) rfl ⟨rfl,uH B⟩
theorem Gn(a b:Nat)(u z D:Int)(o:Nat)(w:World)(O:(u==4)=false)(Q:(u==3)=false)(U:(z==4)=false)(V:(z==3)=false)(F:bT w)
  (G:∀w',bT w'→Calls Tryz.prog 277 #[.int .u64 a,.int .u64 b] w' fun r d=>r=.returned (.tuple #[.int .u64 (o:Nat),.int .u8 D])∧Below w'.heap.size w' d)
  (H:∀w',Calls Tryz.prog 113 #[.int .u64 a] w' fun r d=>r=.returned (.int .i64 u)∧Below w'.heap.size w' d)
  (J:∀w',Calls Tryz.prog 113 #[.int .u64 b] w' fun r d=>r=.returned (.int .i64 z)∧Below w'.heap.size w' d):
  Calls Tryz.prog 252 #[.int .u64 a,.int .u64 b] w fun r w'=>r=.returned (.tuple #[.int .u64 (o:Nat),.int .u8 D])∧Below w.heap.size w w':=by
 have K:=aa H;have L:=aa J
 clear H J
 go_enter Tryz.func252,Tryz.ntmps252
 go_wp2_with fail
 refine(uH K _).mono ?_
 rintro e X ⟨rfl,f⟩
 go_wp2_with fail
 refine(uH L _).mono ?_
 rintro e Y ⟨rfl,h⟩
 have B:=aa (f.trans (h.mono f.size))
 clear f h K L
 have M:=aa G;have N:=aa (F.all (uH B))
 clear G F
 go_wp2_with fail
 refine(uH M _ (uH N)).mono ?_
 rintro e Z ⟨rfl,l⟩
 have B:=aa ((uH B).trans (l.mono (uH B).size))
 clear l M N
 go_wp2
 exact bodyPost_ret (v:=.tuple #[.int .u64 (o:Nat),.int .u8 D]) (by simp[results,Tryz.results252,go_sem]) rfl ⟨rfl,uH B⟩
theorem sI(a b:Nat)(w:World)(K:a<18446744073709551616)(L:b<18446744073709551616)(M:bT w):
  Calls Tryz.prog 252 #[.int .u64 a,.int .u64 b] w fun r w'=>r=.returned (.tuple #[.int .u64 (aV a b:Nat),.int .u8 (aF a b)])∧Below w.heap.size w w':=by
 have l:=fun w'=>cR a w' K
 have u:=fun w'=>cR b w' L
 by_cases H:fK a=4
 ·have z:aV a b=9221120237041090560:=by unfold aV;rw[if_pos (Or.inl H)]
  have D:aF a b=0:=by unfold aF;rw[if_pos (Or.inl H)]
  rw[z,D]
  rw[H]at l
  exact DR a b _ w l u
 by_cases J:fK b=4
 ·have z:aV a b=9221120237041090560:=by unfold aV;rw[if_pos (Or.inr J)]
  have D:aF a b=0:=by unfold aF;rw[if_pos (Or.inr J)]
  rw[z,D]
  rw[J]at u
  exact DS a b _ w (by simp[H]) l u
 have G:¬(fK a=4∨fK b=4):=by omega
 by_cases d:fK a=3
 ·by_cases f:fK b=3
  ·by_cases F:a=b
   ·have z:aV a b=a:=by unfold aV;rw[if_neg G,if_pos d,if_neg (fun h=>h.2 F)]
    have D:aF a b=0:=by unfold aF;rw[if_neg G,if_pos d,if_neg (fun h=>h.2 F)]
    rw[z,D]
    rw[d]at l
    rw[f]at u
    exact DU a b w (by simp[F]) l u
   ·have z:aV a b=9221120237041090560:=by unfold aV;rw[if_neg G,if_pos d,if_pos ⟨f,F⟩]
    have D:aF a b=16:=by unfold aF;rw[if_neg G,if_pos d,if_pos ⟨f,F⟩]
    rw[z,D]
    rw[d]at l
    rw[f]at u
    exact DT a b w (by simp;omega) l u
  ·have z:aV a b=a:=by unfold aV;rw[if_neg G,if_pos d,if_neg (fun h=>f h.1)]
   have D:aF a b=0:=by unfold aF;rw[if_neg G,if_pos d,if_neg (fun h=>f h.1)]
   rw[z,D]
   rw[d]at l
   exact Gl a b _ w (by simp[J]) (by simp[f]) l u
 ·by_cases f:fK b=3
  ·have z:aV a b=b:=by unfold aV;rw[if_neg G,if_neg d,if_pos f]
   have D:aF a b=0:=by unfold aF;rw[if_neg G,if_neg d,if_pos f]
   rw[z,D]
   rw[f]at u
   exact Gm a b _ w (by simp[H]) (by simp[d]) l u
  ·exact Gn a b _ _ _ _ w (by simp[H]) (by simp[d]) (by simp[J]) (by simp[f]) M (fun w' t=>oZ a b w' K L (aY a d H) (aY b f J) t) l u
theorem Ah(a b:Nat)(w:World)(h:a<18446744073709551616)(f:b<18446744073709551616)(l:bT w):
  Calls Tryz.prog 222 #[.int .u64 a,.int .u64 b] w fun r w'=>r=.returned (.tuple #[.int .u64 (aV a (fN b):Nat),.int .u8 (aF a (fN b))])∧Below w.heap.size w w':=by
 have u:=aa (fun w'=>ez b w' f)
 have z:=aa (sI a (fN b) w h (gH b f) l)
 clear h f l
 generalize aV a (fN b)=o at*
 generalize aF a (fN b)=D at*
 go_enter Tryz.func222,Tryz.ntmps222
 go_wp2_with fail
 refine(uH u _).mono ?_
 rintro e F ⟨rfl,rfl⟩
 go_wp2_with fail
 refine Calls.mono (uH z) ?_
 rintro e G ⟨rfl,d⟩
 have B:=aa d
 clear d u z
 go_wp2
 exact bodyPost_ret (v:=.tuple #[.int .u64 o,.int .u8 D]) (by simp[results,Tryz.results222,go_sem]) rfl ⟨rfl,uH B⟩
theorem qL(z a b:Nat)(s t:Bool)(o:Nat)(w:World)
  (l:∀w',Calls Tryz.prog 187 #[.int .u64 a] w' fun r d=>r=.returned (.bool s)∧Below w'.heap.size w' d)
  (u:∀w',Calls Tryz.prog 187 #[.int .u64 b] w' fun r d=>r=.returned (.bool t)∧Below w'.heap.size w' d)
  (D:∀w',Calls Tryz.prog 188 #[.int .u64 z] w' fun r d=>r=.returned (.int .u64 (o:Nat))∧w'=d):
  Calls Tryz.prog 253 #[.int .u64 z,.int .u64 a,.int .u64 b] w fun r w'=>r=.returned (.int .u64 ((if(s^^t)=true then o else z:Nat):Int))∧Below w.heap.size w w':=by
 have F:=aa l;have G:=aa u;have H:=aa D
 clear l u D
 go_enter Tryz.func253,Tryz.ntmps253
 go_wp2_with fail
 refine(uH F _).mono ?_
 rintro e K ⟨rfl,f⟩
 go_wp2_with fail
 refine(uH G _).mono ?_
 rintro e L ⟨rfl,h⟩
 have B:=aa (f.trans (h.mono f.size))
 clear f h F G
 cases s<;>cases t
 ·go_wp2
  go_ret
  exact⟨rfl,uH B⟩
 ·go_wp2_with fail
  refine(uH H _).mono ?_
  rintro e J ⟨rfl,rfl⟩
  go_wp2
  go_ret
  exact⟨rfl,uH B⟩
 ·go_wp2_with fail
  refine(uH H _).mono ?_
  rintro e J ⟨rfl,rfl⟩
  go_wp2
  go_ret
  exact⟨rfl,uH B⟩
 ·go_wp2
  go_ret
  exact⟨rfl,uH B⟩
theorem eZ(z a b:Nat)(w:World)(d:a<18446744073709551616)(f:b<18446744073709551616)(l:z<9223372036854775808):
  Calls Tryz.prog 253 #[.int .u64 z,.int .u64 a,.int .u64 b] w fun r w'=>r=.returned (.int .u64 (bY (fS a^^fS b) z:Nat))∧Below w.heap.size w w':=by
 have h:=qL z a b (fS a) (fS b) (fN z) w (fun w'=>dO a w' d) (fun w'=>dO b w' f) (fun w'=>ez z w' (by omega))
 have e:(if(fS a^^fS b)=true then fN z else z:Nat)=bY (fS a^^fS b) z:=by
  cases (fS a^^fS b)
  ·rw[aQ];rfl
  ·rw[←zv z l];rfl
 rwa[e]at h
theorem sJ(a b:Nat)(z1 z2 z3 l z D fl:Int)(w:World)(o:Nat)
  (C1:∀w',Below w.heap.size w w'→Calls Tryz.prog 207 #[.int .u64 a] w' fun r h=>mi h r 0 z1 l∧Below w'.heap.size w' h)
  (C2:∀w',Below w.heap.size w w'→Calls Tryz.prog 207 #[.int .u64 b] w' fun r h=>mi h r 0 z2 z∧Below w'.heap.size w' h)
  (C3:∀w' v u,Below w.heap.size w w'→aC w' v z1 l→aC w' u z2 z→Calls Tryz.prog 278 #[v,u] w' fun r h=>mi h r 0 z3 D∧Below w'.heap.size w' h)
  (C4:∀w' v,Below w.heap.size w w'→aC w' v z3 D→Calls Tryz.prog 251 #[v] w' fun r h=>r=.returned (.tuple #[.int .u64 (o:Nat),.int .u8 fl,.int .i64 0])∧Below w'.heap.size w' h):
  Calls Tryz.prog 254 #[.int .u64 a,.int .u64 b] w fun r w'=>r=.returned (.tuple #[.int .u64 (o:Nat),.int .u8 fl])∧Below w.heap.size w w':=by
 have K1:=aa C1;have K2:=aa C2;have K3:=aa C3;have K4:=aa C4
 clear C1 C2 C3 C4
 go_enter Tryz.func254,Tryz.ntmps254
 go_wp2_with fail
 refine(uH K1 _ (Below.refl _ _)).mono ?_
 rintro e H ⟨⟨v,rfl,J⟩,f⟩
 obtain⟨Y,Z,c1,L1,rfl,i1⟩:=J
 have d:Below H.heap.size H (H.alloc (.cells #[.bool Y,.slice Z L1.length c1,.int .i64 l] 41)):=(Below.refl _ _).alloc (Nat.le_refl _) _
 have HV:=aa ((show aC H (.agg #[.bool Y,.slice Z L1.length c1,.int .i64 l]) z1 l from⟨Y,Z,c1,L1,rfl,i1⟩).below d)
 have X:=aa (ay.new H (.bool Y) (.slice Z L1.length c1) (.int .i64 l))
 have M:=aa (f.trans (d.mono f.size))
 clear i1 f d K1
 go_wp2_with fail
 refine(uH K2 _ (uH M)).mono ?_
 rintro e K ⟨⟨v,rfl,J⟩,f⟩
 obtain⟨n2,a2,c2,L2,rfl,i2⟩:=J
 have d:Below K.heap.size K (K.alloc (.cells #[.bool n2,.slice a2 L2.length c2,.int .i64 z] 41)):=(Below.refl _ _).alloc (Nat.le_refl _) _
 have HU:=aa ((show aC K (.agg #[.bool n2,.slice a2 L2.length c2,.int .i64 z]) z2 z from⟨n2,a2,c2,L2,rfl,i2⟩).below d)
 have F:=aa (((uH HV).below f).below d)
 have N:=((uH X).all f).all d
 have O:=ay.new K (.bool n2) (.slice a2 L2.length c2) (.int .i64 z)
 have Q:=aa ((uH M).trans ((f.trans (d.mono f.size)).mono (uH M).size))
 have y0:=N.c0;have y1:=N.c1;have y2:=N.c2;have u0:=O.c0;have u1:=O.c1;have u2:=O.c2
 clear i2 f d K2 M HV X N O
 go_wp2_with fail
 refine(uH K3 _ _ _ (uH Q) (uH F) (uH HU)).mono ?_
 rintro e L ⟨⟨v,rfl,J⟩,f⟩
 clear y0 y1 y2 u0 u1 u2
 obtain⟨n3,a3,c3,G,rfl,i3⟩:=J
 have d:Below L.heap.size L (L.alloc (.cells #[.bool n3,.slice a3 G.length c3,.int .i64 D] 41)):=(Below.refl _ _).alloc (Nat.le_refl _) _
 have HX:=aa ((show aC L (.agg #[.bool n3,.slice a3 G.length c3,.int .i64 D]) z3 D from⟨n3,a3,c3,G,rfl,i3⟩).below d)
 have U:=aa ((uH Q).trans ((f.trans (d.mono f.size)).mono (uH Q).size))
 have V:=ay.new L (.bool n3) (.slice a3 G.length c3) (.int .i64 D)
 have y0:=V.c0;have y1:=V.c1;have y2:=V.c2
 clear i3 f d K3 Q F HU V
 generalize G.length=l3 at*
 go_wp2_with fail
 refine(uH K4 _ _ (uH U) (uH HX)).mono ?_
 rintro e w4 ⟨rfl,f⟩
 have B4:=aa ((uH U).trans (f.mono (uH U).size))
 clear f K4 U
 go_wp2
 exact bodyPost_ret (v:=.tuple #[.int .u64 o,.int .u8 fl]) (by simp[results,Tryz.results254,go_sem]) rfl ⟨rfl,uH B4⟩
theorem Ia:(2:Nat)^2098*2^2098=2^4196:=by decide+kernel
theorem Gp(a b:Nat)(d:aA a=true)(f:aA b=true):lN (-1074+-1074) 4196 (fZ a*fZ b):=by
 have h:=js a d
 have l:=js b f
 refine⟨?_,by decide,by decide,by decide⟩
 have u:=Ia
 have z:=Nat.two_pow_pos 2098
 rw[Int.natAbs_mul]
 generalize (2:Nat)^4196=P at*
 generalize (2:Nat)^2098=Q at*
 rw[←u]
 exact Nat.mul_lt_mul_of_lt_of_le h (Nat.le_of_lt l) z
theorem uC(b:Nat)(d:fK b≠0):fZ b≠0∧decide (fZ b<0)=fS b:=by
 have f:rv (fR b)≠0:=fun e=>d ((aR b).2 ((jE _).1 e))
 unfold fZ pv
 cases fS b
 ·simp only[Bool.false_eq_true,if_false]
  exact⟨by omega,decide_eq_false (by omega)⟩
 ·simp only[if_true]
  exact⟨by omega,decide_eq_true (by omega)⟩
theorem Gq(a b:Nat)(u:fK a≠0)(z:fK b≠0):fZ a*fZ b≠0∧decide (fZ a*fZ b<0)=(fS a^^fS b):=by
 obtain⟨h,D⟩:=uC a u
 obtain⟨l,F⟩:=uC b z
 refine⟨Int.mul_ne_zero h l,?_⟩
 rw[←D,←F]
 generalize fZ a=x at*
 generalize fZ b=y at*
 rcases Int.lt_or_gt_of_ne h with d|d<;>rcases Int.lt_or_gt_of_ne l with f|f
 ·have:=Int.mul_pos_of_neg_of_neg d f
  rw[decide_eq_true d,decide_eq_true f,decide_eq_false (by omega)];rfl
 ·have:=Int.mul_neg_of_neg_of_pos d f
  rw[decide_eq_true d,decide_eq_false (show¬y<0 by omega),decide_eq_true this];rfl
 ·have:=Int.mul_neg_of_pos_of_neg d f
  rw[decide_eq_false (show¬x<0 by omega),decide_eq_true f,decide_eq_true this];rfl
 ·have:=Int.mul_pos d f
  rw[decide_eq_false (show¬x<0 by omega),decide_eq_false (show¬y<0 by omega),decide_eq_false (show¬x*y<0 by omega)];rfl
theorem o4(a b:Nat)(w:World)(H:a<18446744073709551616)(J:b<18446744073709551616)(d:aA a=true)(f:aA b=true)(z:fK a≠0)(D:fK b≠0)(l:bT w):
  Calls Tryz.prog 254 #[.int .u64 a,.int .u64 b] w fun r w'=>r=.returned (.tuple #[.int .u64 (mV a b:Nat),.int .u8 (mF a b)])∧Below w.heap.size w w':=by
 obtain⟨Q,U⟩:=dC a H d
 obtain⟨V,X⟩:=dC b J f
 have G:=Gp a b d f
 obtain⟨Y,z1⟩:=Gq a b z D
 have M:∀w',Below w.heap.size w w'→_:=fun w' h=>df a w' H d (l.all h)
 have N:∀w',Below w.heap.size w w'→_:=fun w' h=>df b w' J f (l.all h)
 have O:∀w' v u,Below w.heap.size w w'→aC w' v (fD a) (fX a)→aC w' u (fD b) (fX b)→_:=fun w' v u h F L=>
  IG (W1:=2099) (W2:=2099) (W:=4196) (lo1:=-1074) (lo2:=-1074) (z1:=fZ a) (z2:=fZ b) (by rw[Q,U];exact F) (by rw[V,X];exact L) (kX a d) (kX b f) G (l.all h)
 rw[(k5 a b d f z D).1,(k5 a b d f z D).2]
 have K:∀w' v,Below w.heap.size w w'→aC w' v (oM (fZ a*fZ b)) (oE (fZ a*fZ b) (-1074+-1074))→_:=fun w' v h F=>iL F G.right.2 G.right.1 (l.all h)
 rw[(jg (fZ a*fZ b) (-1074+-1074)).1,jf,z1,Int.natAbs_mul,fY,fY]at K
 exact sJ a b _ _ _ _ _ _ _ w _ M N O K
theorem DV(a b:Nat)(F:Int)(w:World)
  (l:∀w',Calls Tryz.prog 113 #[.int .u64 a] w' fun r d=>r=.returned (.int .i64 4)∧Below w'.heap.size w' d)
  (u:∀w',Calls Tryz.prog 113 #[.int .u64 b] w' fun r d=>r=.returned (.int .i64 F)∧Below w'.heap.size w' d):
  Calls Tryz.prog 223 #[.int .u64 a,.int .u64 b] w fun r w'=>r=.returned (.tuple #[.int .u64 9221120237041090560,.int .u8 0])∧Below w.heap.size w w':=by
 have z:=aa l;have D:=aa u
 clear l u
 go_enter Tryz.func223,Tryz.ntmps223
 go_wp2_with fail
 refine(uH z _).mono ?_
 rintro e G ⟨rfl,f⟩
 go_wp2_with fail
 refine(uH D _).mono ?_
 rintro e H ⟨rfl,h⟩
 have B:=aa (f.trans (h.mono f.size))
 clear f h z D
 go_wp2
 exact bodyPost_ret (v:=.tuple #[.int .u64 9221120237041090560,.int .u8 0]) (by simp[results,Tryz.results223,go_sem]) rfl ⟨rfl,uH B⟩
theorem DW(a b:Nat)(l:Int)(w:World)(G:(l==4)=false)
  (u:∀w',Calls Tryz.prog 113 #[.int .u64 a] w' fun r d=>r=.returned (.int .i64 l)∧Below w'.heap.size w' d)
  (z:∀w',Calls Tryz.prog 113 #[.int .u64 b] w' fun r d=>r=.returned (.int .i64 4)∧Below w'.heap.size w' d):
  Calls Tryz.prog 223 #[.int .u64 a,.int .u64 b] w fun r w'=>r=.returned (.tuple #[.int .u64 9221120237041090560,.int .u8 0])∧Below w.heap.size w w':=by
 have D:=aa u;have F:=aa z
 clear u z
 go_enter Tryz.func223,Tryz.ntmps223
 go_wp2_with fail
 refine(uH D _).mono ?_
 rintro e H ⟨rfl,f⟩
 go_wp2_with fail
 refine(uH F _).mono ?_
 rintro e J ⟨rfl,h⟩
 have B:=aa (f.trans (h.mono f.size))
 clear f h D F
 go_wp2
 exact bodyPost_ret (v:=.tuple #[.int .u64 9221120237041090560,.int .u8 0]) (by simp[results,Tryz.results223,go_sem]) rfl ⟨rfl,uH B⟩
theorem DX(a b:Nat)(w:World)
  (l:∀w',Calls Tryz.prog 113 #[.int .u64 a] w' fun r d=>r=.returned (.int .i64 3)∧Below w'.heap.size w' d)
  (u:∀w',Calls Tryz.prog 113 #[.int .u64 b] w' fun r d=>r=.returned (.int .i64 0)∧Below w'.heap.size w' d):
  Calls Tryz.prog 223 #[.int .u64 a,.int .u64 b] w fun r w'=>r=.returned (.tuple #[.int .u64 9221120237041090560,.int .u8 16])∧Below w.heap.size w w':=by
 have z:=aa l;have D:=aa u
 clear l u
 go_enter Tryz.func223,Tryz.ntmps223
 go_wp2_with fail
 refine(uH z _).mono ?_
 rintro e F ⟨rfl,f⟩
 go_wp2_with fail
 refine(uH D _).mono ?_
 rintro e G ⟨rfl,h⟩
 have B:=aa (f.trans (h.mono f.size))
 clear f h z D
 go_wp2
 exact bodyPost_ret (v:=.tuple #[.int .u64 9221120237041090560,.int .u8 16]) (by simp[results,Tryz.results223,go_sem]) rfl ⟨rfl,uH B⟩
theorem DY(a b:Nat)(w:World)
  (l:∀w',Calls Tryz.prog 113 #[.int .u64 a] w' fun r d=>r=.returned (.int .i64 0)∧Below w'.heap.size w' d)
  (u:∀w',Calls Tryz.prog 113 #[.int .u64 b] w' fun r d=>r=.returned (.int .i64 3)∧Below w'.heap.size w' d):
  Calls Tryz.prog 223 #[.int .u64 a,.int .u64 b] w fun r w'=>r=.returned (.tuple #[.int .u64 9221120237041090560,.int .u8 16])∧Below w.heap.size w w':=by
 have z:=aa l;have D:=aa u
 clear l u
 go_enter Tryz.func223,Tryz.ntmps223
 go_wp2_with fail
 refine(uH z _).mono ?_
 rintro e F ⟨rfl,f⟩
 go_wp2_with fail
 refine(uH D _).mono ?_
 rintro e G ⟨rfl,h⟩
 have B:=aa (f.trans (h.mono f.size))
 clear f h z D
 go_wp2
 exact bodyPost_ret (v:=.tuple #[.int .u64 9221120237041090560,.int .u8 16]) (by simp[results,Tryz.results223,go_sem]) rfl ⟨rfl,uH B⟩
theorem Gr(a b:Nat)(u:Int)(o:Nat)(w:World)(K:(u==4)=false)(L:(u==0)=false)
  (z:∀w',Calls Tryz.prog 113 #[.int .u64 a] w' fun r d=>r=.returned (.int .i64 3)∧Below w'.heap.size w' d)
  (D:∀w',Calls Tryz.prog 113 #[.int .u64 b] w' fun r d=>r=.returned (.int .i64 u)∧Below w'.heap.size w' d)
  (F:∀w',Calls Tryz.prog 253 #[.int .u64 9218868437227405312,.int .u64 a,.int .u64 b] w' fun r d=>r=.returned (.int .u64 (o:Nat))∧Below w'.heap.size w' d):
  Calls Tryz.prog 223 #[.int .u64 a,.int .u64 b] w fun r w'=>r=.returned (.tuple #[.int .u64 (o:Nat),.int .u8 0])∧Below w.heap.size w w':=by
 have G:=aa z;have H:=aa D
 clear z D
 go_enter Tryz.func223,Tryz.ntmps223
 go_wp2_with fail
 refine(uH G _).mono ?_
 rintro e M ⟨rfl,f⟩
 go_wp2_with fail
 refine(uH H _).mono ?_
 rintro e N ⟨rfl,h⟩
 have B:=aa (f.trans (h.mono f.size))
 clear f h G H
 have J:=aa F
 clear F
 go_wp2_with fail
 refine(uH J _).mono ?_
 rintro e O ⟨rfl,l⟩
 have B:=aa ((uH B).trans (l.mono (uH B).size))
 clear l J
 go_wp2
 exact bodyPost_ret (v:=.tuple #[.int .u64 (o:Nat),.int .u8 0]) (by simp[results,Tryz.results223,go_sem]) rfl ⟨rfl,uH B⟩
theorem Gs(a b:Nat)(u:Int)(o:Nat)(w:World)(K:(u==4)=false)(L:(u==0)=false)(M:(u==3)=false)
  (z:∀w',Calls Tryz.prog 113 #[.int .u64 a] w' fun r d=>r=.returned (.int .i64 u)∧Below w'.heap.size w' d)
  (D:∀w',Calls Tryz.prog 113 #[.int .u64 b] w' fun r d=>r=.returned (.int .i64 3)∧Below w'.heap.size w' d)
  (F:∀w',Calls Tryz.prog 253 #[.int .u64 9218868437227405312,.int .u64 a,.int .u64 b] w' fun r d=>r=.returned (.int .u64 (o:Nat))∧Below w'.heap.size w' d):
  Calls Tryz.prog 223 #[.int .u64 a,.int .u64 b] w fun r w'=>r=.returned (.tuple #[.int .u64 (o:Nat),.int .u8 0])∧Below w.heap.size w w':=by
 have G:=aa z;have H:=aa D
 clear z D
 go_enter Tryz.func223,Tryz.ntmps223
 go_wp2_with fail
 refine(uH G _).mono ?_
 rintro e N ⟨rfl,f⟩
 go_wp2_with fail
 refine(uH H _).mono ?_
 rintro e O ⟨rfl,h⟩
 have B:=aa (f.trans (h.mono f.size))
 clear f h G H
 have J:=aa F
 clear F
 go_wp2_with fail
 refine(uH J _).mono ?_
 rintro e Q ⟨rfl,l⟩
 have B:=aa ((uH B).trans (l.mono (uH B).size))
 clear l J
 go_wp2
 exact bodyPost_ret (v:=.tuple #[.int .u64 (o:Nat),.int .u8 0]) (by simp[results,Tryz.results223,go_sem]) rfl ⟨rfl,uH B⟩
theorem Gt(a b:Nat)(u:Int)(o:Nat)(w:World)(K:(u==4)=false)(L:(u==3)=false)
  (z:∀w',Calls Tryz.prog 113 #[.int .u64 a] w' fun r d=>r=.returned (.int .i64 0)∧Below w'.heap.size w' d)
  (D:∀w',Calls Tryz.prog 113 #[.int .u64 b] w' fun r d=>r=.returned (.int .i64 u)∧Below w'.heap.size w' d)
  (F:∀w',Calls Tryz.prog 253 #[.int .u64 0,.int .u64 a,.int .u64 b] w' fun r d=>r=.returned (.int .u64 (o:Nat))∧Below w'.heap.size w' d):
  Calls Tryz.prog 223 #[.int .u64 a,.int .u64 b] w fun r w'=>r=.returned (.tuple #[.int .u64 (o:Nat),.int .u8 0])∧Below w.heap.size w w':=by
 have G:=aa z;have H:=aa D
 clear z D
 go_enter Tryz.func223,Tryz.ntmps223
 go_wp2_with fail
 refine(uH G _).mono ?_
 rintro e M ⟨rfl,f⟩
 go_wp2_with fail
 refine(uH H _).mono ?_
 rintro e N ⟨rfl,h⟩
 have B:=aa (f.trans (h.mono f.size))
 clear f h G H
 have J:=aa F
 clear F
 go_wp2_with fail
 refine(uH J _).mono ?_
 rintro e O ⟨rfl,l⟩
 have B:=aa ((uH B).trans (l.mono (uH B).size))
 clear l J
 go_wp2
 exact bodyPost_ret (v:=.tuple #[.int .u64 (o:Nat),.int .u8 0]) (by simp[results,Tryz.results223,go_sem]) rfl ⟨rfl,uH B⟩
theorem Gu(a b:Nat)(u:Int)(o:Nat)(w:World)(K:(u==4)=false)(L:(u==3)=false)(M:(u==0)=false)
  (z:∀w',Calls Tryz.prog 113 #[.int .u64 a] w' fun r d=>r=.returned (.int .i64 u)∧Below w'.heap.size w' d)
  (D:∀w',Calls Tryz.prog 113 #[.int .u64 b] w' fun r d=>r=.returned (.int .i64 0)∧Below w'.heap.size w' d)
  (F:∀w',Calls Tryz.prog 253 #[.int .u64 0,.int .u64 a,.int .u64 b] w' fun r d=>r=.returned (.int .u64 (o:Nat))∧Below w'.heap.size w' d):
  Calls Tryz.prog 223 #[.int .u64 a,.int .u64 b] w fun r w'=>r=.returned (.tuple #[.int .u64 (o:Nat),.int .u8 0])∧Below w.heap.size w w':=by
 have G:=aa z;have H:=aa D
 clear z D
 go_enter Tryz.func223,Tryz.ntmps223
 go_wp2_with fail
 refine(uH G _).mono ?_
 rintro e N ⟨rfl,f⟩
 go_wp2_with fail
 refine(uH H _).mono ?_
 rintro e O ⟨rfl,h⟩
 have B:=aa (f.trans (h.mono f.size))
 clear f h G H
 have J:=aa F
 clear F
 go_wp2_with fail
 refine(uH J _).mono ?_
 rintro e Q ⟨rfl,l⟩
 have B:=aa ((uH B).trans (l.mono (uH B).size))
 clear l J
 go_wp2
 exact bodyPost_ret (v:=.tuple #[.int .u64 (o:Nat),.int .u8 0]) (by simp[results,Tryz.results223,go_sem]) rfl ⟨rfl,uH B⟩
theorem Gv(a b:Nat)(u z:Int)(D:Int)(o:Nat)(w:World)(O:(u==4)=false)(Q:(u==3)=false)(U:(u==0)=false)(V:(z==4)=false)(X:(z==3)=false)(Y:(z==0)=false)(F:bT w)
  (G:∀w',Calls Tryz.prog 113 #[.int .u64 a] w' fun r d=>r=.returned (.int .i64 u)∧Below w'.heap.size w' d)
  (H:∀w',Calls Tryz.prog 113 #[.int .u64 b] w' fun r d=>r=.returned (.int .i64 z)∧Below w'.heap.size w' d)
  (J:∀w',bT w'→Calls Tryz.prog 254 #[.int .u64 a,.int .u64 b] w' fun r d=>r=.returned (.tuple #[.int .u64 (o:Nat),.int .u8 D])∧Below w'.heap.size w' d):
  Calls Tryz.prog 223 #[.int .u64 a,.int .u64 b] w fun r w'=>r=.returned (.tuple #[.int .u64 (o:Nat),.int .u8 D])∧Below w.heap.size w w':=by
 have K:=aa G;have L:=aa H
 clear G H
 go_enter Tryz.func223,Tryz.ntmps223
 go_wp2_with fail
 refine(uH K _).mono ?_
 rintro e Z ⟨rfl,f⟩
 go_wp2_with fail
 refine(uH L _).mono ?_
 rintro e w2 ⟨rfl,h⟩
 have B:=aa (f.trans (h.mono f.size))
 clear f h K L
 have M:=aa J;have N:=aa (F.all (uH B))
 clear J F
 go_wp2_with fail
 refine(uH M _ (uH N)).mono ?_
 rintro e w3 ⟨rfl,l⟩
 have B:=aa ((uH B).trans (l.mono (uH B).size))
 clear l M N
 go_wp2
 exact bodyPost_ret (v:=.tuple #[.int .u64 (o:Nat),.int .u8 D]) (by simp[results,Tryz.results223,go_sem]) rfl ⟨rfl,uH B⟩
theorem Ai(a b:Nat)(w:World)(G:a<18446744073709551616)(H:b<18446744073709551616)(Q:bT w):
  Calls Tryz.prog 223 #[.int .u64 a,.int .u64 b] w fun r w'=>r=.returned (.tuple #[.int .u64 (mV a b:Nat),.int .u8 (mF a b)])∧Below w.heap.size w w':=by
 have d:=fun w'=>cR a w' G
 have f:=fun w'=>cR b w' H
 have N:=fun w'=>eZ 9218868437227405312 a b w' G H (by decide)
 have O:=fun w'=>eZ 0 a b w' G H (by decide)
 by_cases l:fK a=4
 ·rw[show mV a b=9221120237041090560 by unfold mV;rw[if_pos (Or.inl l)],show mF a b=0 by unfold mF;rw[if_pos (Or.inl l)]]
  rw[l]at d
  exact DV a b _ w d f
 by_cases u:fK b=4
 ·rw[show mV a b=9221120237041090560 by unfold mV;rw[if_pos (Or.inr u)],show mF a b=0 by unfold mF;rw[if_pos (Or.inr u)]]
  rw[u]at f
  exact DW a b _ w (by simp[l]) d f
 have D:¬(fK a=4∨fK b=4):=by omega
 by_cases F:fK a=3∨fK b=3
 ·by_cases z:fK a=0∨fK b=0
  ·rw[show mV a b=9221120237041090560 by unfold mV;rw[if_neg D,if_pos F,if_pos z],show mF a b=16 by unfold mF;rw[if_neg D,if_pos F,if_pos z]]
   by_cases J:fK a=3
   ·have L:fK b=0:=by omega
    rw[J]at d
    rw[L]at f
    exact DX a b w d f
   ·have M:fK b=3:=by omega
    have K:fK a=0:=by omega
    rw[K]at d
    rw[M]at f
    exact DY a b w d f
  ·rw[show mV a b=bY (fS a^^fS b) 9218868437227405312 by unfold mV;rw[if_neg D,if_pos F,if_neg z],show mF a b=0 by unfold mF;rw[if_neg D,if_pos F,if_neg z]]
   by_cases J:fK a=3
   ·rw[J]at d
    exact Gr a b _ _ w (by simp[u]) (by simp;omega) d f N
   ·have M:fK b=3:=by omega
    rw[M]at f
    exact Gs a b _ _ w (by simp[l]) (by simp;omega) (by simp[J]) d f N
 ·by_cases z:fK a=0∨fK b=0
  ·have U:rv (fR a)*rv (fR b)=0:=by
    rcases z with h|h
    ·rw[(jE _).2 ((aR a).1 h),Nat.zero_mul]
    ·rw[(jE _).2 ((aR b).1 h),Nat.mul_zero]
   rw[show mV a b=bY (fS a^^fS b) 0 by unfold mV;rw[if_neg D,if_neg F,U,kg],show mF a b=0 by unfold mF;rw[if_neg D,if_neg F,if_pos z]]
   by_cases K:fK a=0
   ·rw[K]at d
    exact Gt a b _ _ w (by simp[u]) (by simp;omega) d f O
   ·have L:fK b=0:=by omega
    rw[L]at f
    exact Gu a b _ _ w (by simp[l]) (by simp;omega) (by simp[K]) d f O
  ·exact Gv a b _ _ _ _ w (by simp[l]) (by simp;omega) (by simp;omega) (by simp[u]) (by simp;omega) (by simp;omega) Q d f (fun w' t=>o4 a b w' G H (aY a (by omega) l) (aY b (by omega) u) (by omega) (by omega) t)
end Go.Proofs.YtdhmglmccafbnaaGreatDoor
