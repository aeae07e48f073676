/- Part 15 of the texts. -/
import Derived.Test.YtdhmglmccafbnaaGreatDoorPartw14
set_option maxHeartbeats 4000000
set_option maxRecDepth 20000
namespace Go.Proofs.YtdhmglmccafbnaaGreatDoor
open Go.RowKit
theorem sz(a:Nat)(h:fS a=false)(d:a<18446744073709551616):fR a=a:=by
 have:=of_decide_eq_false h
 unfold fR;omega
theorem pH(a:Nat)(h:fS a=true)(d:a<18446744073709551616):fR a=fN a:=by
 have:=of_decide_eq_true h
 unfold fR fN;rw[if_pos this];omega
theorem kl(a:Nat)(w:World)(f:a<18446744073709551616):
  Calls Tryz.prog 124 #[.int .u64 a] w fun e w'=>e=.returned (.int .u64 (fR a:Nat))∧Below w.heap.size w w':=by
 have h:=aa (fun w'=>dO a w' f)
 have l:=aa (fun w'=>ez a w' f)
 cases hs:fS a
 ·rw[hs]at h
  rw[sz a hs f]
  clear hs f l
  go_enter Tryz.func124,Tryz.ntmps124
  go_wp2_with fail
  refine(uH h _).mono ?_
  rintro e u ⟨rfl,d⟩
  clear h
  go_wp2
  go_ret
  exact⟨rfl,d⟩
 ·rw[hs]at h
  rw[pH a hs f]
  clear hs f
  generalize fN a=q at*
  go_enter Tryz.func124,Tryz.ntmps124
  go_wp2_with fail
  refine(uH h _).mono ?_
  rintro e u ⟨rfl,d⟩
  clear h
  go_wp2_with fail
  refine(uH l _).mono ?_
  rintro e z ⟨rfl,rfl⟩
  clear l
  go_wp2
  go_ret
  exact⟨rfl,d⟩
def pl(a:Nat):Int:=if fS a=true then-(fR a:Int)else(fR a:Int)
theorem zS(a r:Nat)(s:Bool)(w:World)(J:r<9223372036854775808)
  (D:∀w',Calls Tryz.prog 124 #[.int .u64 a] w' fun e f=>e=.returned (.int .u64 (r:Nat))∧Below w'.heap.size w' f)
  (F:∀w',Calls Tryz.prog 187 #[.int .u64 a] w' fun e f=>e=.returned (.bool s)∧Below w'.heap.size w' f):
  Calls Tryz.prog 219 #[.int .u64 a] w fun e w'=>e=.returned (.int .i64 (if s=true then-(r:Int)else(r:Int)))∧Below w.heap.size w w':=by
 have l:=aa D;have u:=aa F
 have K:IntKind.i64.wrap (r:Int)=(r:Int):=by simp only[IntKind.wrap_i64];omega
 have L:IntKind.i64.wrap (-(r:Int))= -(r:Int):=by simp only[IntKind.wrap_i64];omega
 clear D F
 cases s
 ·go_enter Tryz.func219,Tryz.ntmps219
  go_wp2_with fail
  refine(uH l _).mono ?_
  rintro e G ⟨rfl,d⟩
  have h:=aa d
  clear l d
  go_wp2_with fail
  refine(uH u _).mono ?_
  rintro e H ⟨rfl,d⟩
  have z:=aa ((uH h).trans (d.mono (uH h).size))
  clear u d
  go_wp2
  go_ret
  exact⟨rfl,uH z⟩
 ·go_enter Tryz.func219,Tryz.ntmps219
  go_wp2_with fail
  refine(uH l _).mono ?_
  rintro e G ⟨rfl,d⟩
  have h:=aa d
  clear l d
  go_wp2_with fail
  refine(uH u _).mono ?_
  rintro e H ⟨rfl,d⟩
  have z:=aa ((uH h).trans (d.mono (uH h).size))
  clear u d
  go_wp2
  go_ret
  exact⟨rfl,uH z⟩
theorem pI(a:Nat)(w:World)(d:a<18446744073709551616):
  Calls Tryz.prog 219 #[.int .u64 a] w fun e w'=>e=.returned (.int .i64 (pl a))∧Below w.heap.size w w':=
 zS a (fR a) (fS a) w (kf a) (fun w'=>kl a w' d) (fun w'=>dO a w' d)
theorem jF(a:Int)(w:World):Calls Tryz.prog 249 #[.int .i64 a] w fun e w'=>e=.returned (.bool false)∧w=w':=by
 go_enter Tryz.func249,Tryz.ntmps249
 go_wp2
 go_ret
 exact⟨rfl,rfl⟩
theorem zT(a b:Int)(w:World):Calls Tryz.prog 218 #[.int .i64 a,.int .i64 b] w fun e w'=>e=.returned (.int .i64 (bc a b))∧w=w':=by
 have d:Hid (bc a b=if a<b then-1 else if b<a then 1 else 0):=rfl
 generalize bc a b=c at*
 rcases(show a<b∨b<a∨a=b by omega)with h|h|h
 ·go_enter Tryz.func218,Tryz.ntmps218
  go_wp2_with(go_at_call 249;refine(jF _ _).mono ?_;rintro e w' ⟨rfl,rfl⟩)
  go_ret
  exact⟨aH (by rw[d.out];simp[h]),rfl⟩
 ·have f:¬a<b:=by omega
  go_enter Tryz.func218,Tryz.ntmps218
  go_wp2_with(go_at_call 249;refine(jF _ _).mono ?_;rintro e w' ⟨rfl,rfl⟩)
  go_ret
  exact⟨aH (by rw[d.out];simp[h,f]),rfl⟩
 ·subst h
  go_enter Tryz.func218,Tryz.ntmps218
  go_wp2_with(go_at_call 249;refine(jF _ _).mono ?_;rintro e w' ⟨rfl,rfl⟩)
  go_ret
  exact⟨aH (by rw[d.out];simp),rfl⟩
def cO(a b:Nat):Int:=if fK a=4∨fK b=4 then 0 else bc (fZ a) (fZ b)
def cB(a b:Nat):Bool:=if fK a=4∨fK b=4 then false else true
theorem k7{r s:Nat}(h:r<s):rv r<rv s:=Nat.lt_of_lt_of_le (qh r) (mu h)
theorem uu{r:Nat}(h:0<r):0<rv r:=by have:=k7 h;rw[dH]at this;exact this
theorem gT{a b:Int}(h:a<b):bc a b= -1:=by unfold bc;rw[if_pos h]
theorem gU{a b:Int}(h:b<a):bc a b=1:=by unfold bc;rw[if_neg (by omega),if_pos h]
theorem iP{a b:Int}(h:a=b):bc a b=0:=by unfold bc;rw[if_neg (by omega),if_neg (by omega)]
theorem sC{n m:Bool}{r s:Nat}(h:(if n=true then-(r:Int)else(r:Int))<(if m=true then-(s:Int)else(s:Int))):pv n r<pv m s:=by
 have z:rv 0=0:=dH
 have d:r<s→rv r<rv s:=k7
 have f:s<r→rv s<rv r:=k7
 have l:0<r→0<rv r:=uu
 have p2:0<s→0<rv s:=uu
 unfold pv
 cases n<;>cases m<;>simp only[if_true,if_false,Bool.false_eq_true]at h⊢<;>omega
theorem F7(a b:Nat):bc (pl a) (pl b)=bc (fZ a) (fZ b):=by
 have d:pl a<pl b→fZ a<fZ b:=fun h=>sC h
 have f:pl b<pl a→fZ b<fZ a:=fun h=>sC h
 rcases(show pl a<pl b∨pl b<pl a∨pl a=pl b by omega)with h|h|h
 ·rw[gT h,gT (d h)]
 ·rw[gU h,gU (f h)]
 ·have l:fZ a=fZ b:=by
   unfold pl at h
   unfold fZ pv
   cases ha:fS a<;>cases hb:fS b<;>rw[ha,hb]at h<;>simp only[if_true,if_false,Bool.false_eq_true]at h⊢
   ·rw[show fR a=fR b by omega]
   ·rw[show fR a=0 by omega,show fR b=0 by omega,dH];rfl
   ·rw[show fR a=0 by omega,show fR b=0 by omega,dH];rfl
   ·rw[show fR a=fR b by omega]
  rw[iP h,iP l]
theorem zU(a b:Nat)(w:World)
  (h:∀w',Calls Tryz.prog 113 #[.int .u64 a] w' fun r d=>r=.returned (.int .i64 4)∧Below w'.heap.size w' d):
  Calls Tryz.prog 167 #[.int .u64 a,.int .u64 b] w fun r w'=>r=.returned (.tuple #[.int .i64 0,.bool false])∧Below w.heap.size w w':=by
 have l:=aa h
 clear h
 go_enter Tryz.func167,Tryz.ntmps167
 go_wp2_with fail
 refine(uH l _).mono ?_
 rintro e u ⟨rfl,f⟩
 clear l
 go_wp2
 exact bodyPost_ret (v:=.tuple #[.int .i64 0,.bool false]) (by simp[results,Tryz.results167,go_sem]) rfl ⟨rfl,f⟩
theorem zV(a b:Nat)(h:Int)(w:World)(H:(h==4)=false)
  (l:∀w',Calls Tryz.prog 113 #[.int .u64 a] w' fun r f=>r=.returned (.int .i64 h)∧Below w'.heap.size w' f)
  (u:∀w',Calls Tryz.prog 113 #[.int .u64 b] w' fun r f=>r=.returned (.int .i64 4)∧Below w'.heap.size w' f):
  Calls Tryz.prog 167 #[.int .u64 a,.int .u64 b] w fun r w'=>r=.returned (.tuple #[.int .i64 0,.bool false])∧Below w.heap.size w w':=by
 have z:=aa l;have D:=aa u
 clear l u
 go_enter Tryz.func167,Tryz.ntmps167
 go_wp2_with fail
 refine(uH z _).mono ?_
 rintro e J ⟨rfl,d⟩
 clear z
 have F:=aa d
 clear d
 go_wp2_with fail
 refine(uH D _).mono ?_
 rintro e K ⟨rfl,d⟩
 have G:=aa ((uH F).trans (d.mono (uH F).size))
 clear d D
 go_wp2
 exact bodyPost_ret (v:=.tuple #[.int .i64 0,.bool false]) (by simp[results,Tryz.results167,go_sem]) rfl ⟨rfl,uH G⟩
theorem DE(a b:Nat)(h l x y o:Int)(w:World)(V:(h==4)=false)(X:(l==4)=false)
  (u:∀w',Calls Tryz.prog 113 #[.int .u64 a] w' fun r f=>r=.returned (.int .i64 h)∧Below w'.heap.size w' f)
  (z:∀w',Calls Tryz.prog 113 #[.int .u64 b] w' fun r f=>r=.returned (.int .i64 l)∧Below w'.heap.size w' f)
  (D:∀w',Calls Tryz.prog 219 #[.int .u64 a] w' fun r f=>r=.returned (.int .i64 x)∧Below w'.heap.size w' f)
  (F:∀w',Calls Tryz.prog 219 #[.int .u64 b] w' fun r f=>r=.returned (.int .i64 y)∧Below w'.heap.size w' f)
  (G:∀w',Calls Tryz.prog 218 #[.int .i64 x,.int .i64 y] w' fun r f=>r=.returned (.int .i64 o)∧w'=f):
  Calls Tryz.prog 167 #[.int .u64 a,.int .u64 b] w fun r w'=>r=.returned (.tuple #[.int .i64 o,.bool true])∧Below w.heap.size w w':=by
 have H:=aa u;have J:=aa z;have K:=aa D;have L:=aa F;have M:=aa G
 clear u z D F G
 go_enter Tryz.func167,Tryz.ntmps167
 go_wp2_with fail
 refine(uH H _).mono ?_
 rintro e Y ⟨rfl,d⟩
 have N:=aa d
 clear d H
 go_wp2_with fail
 refine(uH J _).mono ?_
 rintro e Z ⟨rfl,d⟩
 have O:=aa ((uH N).trans (d.mono (uH N).size))
 clear d J
 go_wp2_with fail
 refine(uH K _).mono ?_
 rintro e w3 ⟨rfl,d⟩
 have Q:=aa ((uH O).trans (d.mono (uH O).size))
 clear d K
 go_wp2_with fail
 refine(uH L _).mono ?_
 rintro e w4 ⟨rfl,d⟩
 have U:=aa ((uH Q).trans (d.mono (uH Q).size))
 clear d L
 go_wp2_with fail
 refine(uH M _).mono ?_
 rintro e w5 ⟨rfl,rfl⟩
 clear M
 go_wp2
 exact bodyPost_ret (v:=.tuple #[.int .i64 o,.bool true]) (by simp[results,Tryz.results167,go_sem]) rfl ⟨rfl,uH U⟩
theorem jG(a b:Nat)(w:World)(z:a<18446744073709551616)(D:b<18446744073709551616):
  Calls Tryz.prog 167 #[.int .u64 a,.int .u64 b] w fun r w'=>r=.returned (.tuple #[.int .i64 (cO a b),.bool (cB a b)])∧Below w.heap.size w w':=by
 have l:=fun w'=>cR a w' z
 have u:=fun w'=>cR b w' D
 unfold cO cB
 by_cases d:fK a=4
 ·rw[if_pos (Or.inl d),if_pos (Or.inl d)]
  rw[d]at l
  exact zU a b w l
 by_cases f:fK b=4
 ·rw[if_pos (Or.inr f),if_pos (Or.inr f)]
  rw[f]at u
  exact zV a b _ w (by simp[d]) l u
 have h:¬(fK a=4∨fK b=4):=fun h=>h.elim d f
 rw[if_neg h,if_neg h,←F7]
 exact DE a b _ _ _ _ _ w (by simp[d]) (by simp[f]) l u (fun w'=>pI a w' z) (fun w'=>pI b w' D) (fun w'=>zT _ _ w')
theorem mH(a b:Nat)(o:Int)(t l q:Bool)(w:World)(z:(o=0∧t=false∧l=false∧q=false)∨(o= -1∧t=true∧l=true∧q=false)∨(o=0∧t=true∧l=false∧q=true)∨(o=1∧t=true∧l=false∧q=false))
  (h:∀w',Calls Tryz.prog 167 #[.int .u64 a,.int .u64 b] w' fun r d=>r=.returned (.tuple #[.int .i64 o,.bool t])∧Below w'.heap.size w' d):
  Calls Tryz.prog 98 #[.int .u64 a,.int .u64 b] w fun r w'=>r=.returned (.bool l)∧Below w.heap.size w w':=by
 have u:=aa h
 clear h
 rcases z with⟨rfl,rfl,rfl,rfl⟩|⟨rfl,rfl,rfl,rfl⟩|⟨rfl,rfl,rfl,rfl⟩|⟨rfl,rfl,rfl,rfl⟩
 all_goals
  go_enter Tryz.func98,Tryz.ntmps98
  go_wp2_with fail
  refine(uH u _).mono ?_
  rintro e D ⟨rfl,f⟩
  clear u
  go_wp2
  go_ret
  exact⟨rfl,f⟩
def cM(a b:Nat)(l t:Bool):Nat:=if t=false then 9221120237041090560 else if l=true then b else a
theorem F8(a b:Nat)(o:Int)(t l q:Bool)(w:World)(z:(o=0∧t=false∧l=false∧q=false)∨(o= -1∧t=true∧l=true∧q=false)∨(o=0∧t=true∧l=false∧q=true)∨(o=1∧t=true∧l=false∧q=false))
  (h:∀w',Calls Tryz.prog 167 #[.int .u64 a,.int .u64 b] w' fun r d=>r=.returned (.tuple #[.int .i64 o,.bool t])∧Below w'.heap.size w' d):
  Calls Tryz.prog 186 #[.int .u64 a,.int .u64 b] w fun r w'=>r=.returned (.int .u64 (cM a b l t:Nat))∧Below w.heap.size w w':=by
 have u:=aa h
 clear h
 unfold cM
 rcases z with⟨rfl,rfl,rfl,rfl⟩|⟨rfl,rfl,rfl,rfl⟩|⟨rfl,rfl,rfl,rfl⟩|⟨rfl,rfl,rfl,rfl⟩
 all_goals
  simp only[if_true,if_false,Bool.false_eq_true,Bool.true_eq_false]
  go_enter Tryz.func186,Tryz.ntmps186
  go_wp2_with fail
  refine(uH u _).mono ?_
  rintro e D ⟨rfl,f⟩
  clear u
  go_wp2
  go_ret
  exact⟨rfl,f⟩
theorem DF(a b:Nat)(o:Int)(t l q:Bool)(w:World)(z:(o=0∧t=false∧l=false∧q=false)∨(o= -1∧t=true∧l=true∧q=false)∨(o=0∧t=true∧l=false∧q=true)∨(o=1∧t=true∧l=false∧q=false))
  (h:∀w',Calls Tryz.prog 52 #[.int .u64 a,.int .u64 b] w' fun r d=>r=.returned (.tuple #[.int .i64 o,.bool t])∧Below w'.heap.size w' d):
  Calls Tryz.prog 159 #[.int .u64 a,.int .u64 b] w fun r w'=>r=.returned (.int .u64 (cM a b l t:Nat))∧Below w.heap.size w w':=by
 have u:=aa h
 clear h
 unfold cM
 rcases z with⟨rfl,rfl,rfl,rfl⟩|⟨rfl,rfl,rfl,rfl⟩|⟨rfl,rfl,rfl,rfl⟩|⟨rfl,rfl,rfl,rfl⟩
 all_goals
  simp only[if_true,if_false,Bool.false_eq_true,Bool.true_eq_false]
  go_enter Tryz.func159,Tryz.ntmps159
  go_wp2_with fail
  refine(uH u _).mono ?_
  rintro e D ⟨rfl,f⟩
  clear u
  go_wp2
  go_ret
  exact⟨rfl,f⟩
theorem zW(X y:Nat)(h:0<y):X*2/(2*y)=2*(X/(2*y))+(if y≤X%(2*y)then 1 else 0)∧X*2%(2*y)=2*(X%(2*y)-(if y≤X%(2*y)then y else 0)):=by
 have d:=Nat.div_add_mod X (2*y)
 have l:=Nat.mod_lt X (show 0<2*y by omega)
 generalize X/(2*y)=q at*
 generalize X%(2*y)=r at*
 have f:X*2=2*y*(2*q)+2*r:=by rw[←d,Nat.add_mul,Nat.mul_assoc,Nat.mul_comm q 2,Nat.mul_comm r 2]
 by_cases c:y≤r
 ·rw[if_pos c,if_pos c]
  have e:X*2=2*y*(2*q+1)+2*(r-y):=by rw[Nat.mul_add,Nat.mul_one];omega
  rw[e]
  refine⟨?_,?_⟩
  ·rw[Nat.mul_add_div (by omega),Nat.div_eq_of_lt (by omega),Nat.add_zero]
  ·rw[Nat.mul_add_mod,Nat.mod_eq_of_lt (by omega)]
 ·rw[if_neg c,if_neg c]
  rw[f]
  refine⟨?_,?_⟩
  ·rw[Nat.mul_add_div (by omega),Nat.div_eq_of_lt (by omega),Nat.add_zero]
  ·rw[Nat.mul_add_mod,Nat.mod_eq_of_lt (by omega)];omega
def lQ(x y i:Nat):Nat:=x*2^i/(2*y)
def lR(x y i:Nat):Nat:=x*2^i%(2*y)
theorem Ga(x y:Nat)(h:x<2*y):lQ x y 0=0∧lR x y 0=x:=by
 unfold lQ lR
 rw[Nat.pow_zero,Nat.mul_one]
 exact⟨Nat.div_eq_of_lt h,Nat.mod_eq_of_lt h⟩
theorem Gb(x y i:Nat)(d:0<y):lQ x y (i+1)=2*lQ x y i+(if y≤lR x y i then 1 else 0)∧lR x y (i+1)=2*(lR x y i-(if y≤lR x y i then y else 0)):=by
 have:=zW (x*2^i) y d
 unfold lQ lR
 rw[Nat.pow_succ,←Nat.mul_assoc]
 exact this
theorem Hx(x y i:Nat)(d:0<y):lR x y i<2*y:=Nat.mod_lt _ (by omega)
theorem zX(x y i:Nat)(h:x<2*y):lQ x y i<2^i:=by
 unfold lQ
 rw[Nat.div_lt_iff_lt_mul (by omega),Nat.mul_comm (2^i)]
 exact(Nat.mul_lt_mul_right (Nat.two_pow_pos i)).2 h
theorem Fg(x y:Nat):cq (x*2^54) y=2*lQ x y 55+(if 0<lR x y 55 then 1 else 0):=by
 have e:x*2^55=2*(x*2^54):=by rw[show(2:Nat)^55=2*2^54 by decide];ac_rfl
 unfold cq lQ lR
 rw[e,Nat.mul_div_mul_left _ _ (by decide),Nat.mul_mod_mul_left]
 congr 1
 by_cases c:x*2^54%y=0
 ·rw[if_pos c,c,if_neg (by omega)]
 ·rw[if_neg c,if_pos (by omega)]
def dS(b:Nat):Nat:=(fD b).natAbs*2^(53-bl (fD b).natAbs)
def dT(b:Nat):Int:=(bl (fD b).natAbs:Int)+fX b
theorem cw(b:Nat)(G:b<18446744073709551616)(z:aA b=true)(H:fK b≠0):
  bl (fD b).natAbs≤53∧1≤bl (fD b).natAbs∧4503599627370496≤dS b∧dS b<9007199254740992∧-1074≤fX b∧fX b≤1024∧(fD b).natAbs%2=1∧(fD b).natAbs<9007199254740992:=by
 obtain⟨β,U,M,N,O⟩:=ij b G z H
 have d:(fD b).natAbs≠0:=by omega
 obtain⟨Q,V,X⟩:=aU _ d
 have f:bl (fD b).natAbs≤53:=by
  have:(2:Nat)^(bl (fD b).natAbs-1)<2^53:=by rw[yB];omega
  have:=cf this
  omega
 have J:=jW (fD b).natAbs (53-bl (fD b).natAbs) d
 have h:bl (dS b)=53:=by unfold dS;rw[J];omega
 have l:dS b≠0:=by
  unfold dS
  exact Nat.mul_ne_zero d (Nat.pos_iff_ne_zero.1 (Nat.two_pow_pos _))
 obtain⟨Y,F,u⟩:=aU _ l
 rw[h]at F u
 have D:=js b z
 rw[fY,M]at D
 have K:β<2098:=by
  have L:2^β≤(fD b).natAbs*2^β:=Nat.le_mul_of_pos_left _ (by omega)
  exact cf (Nat.lt_of_le_of_lt L D)
 refine⟨f,Q,?_,?_,by omega,by omega,N,O⟩
 ·exact F
 ·rw[yB]at u;exact u
def pS(a b:Nat):Nat:=cq (dS a*2^54) (dS b)
theorem zY(a b:Nat)(z:a<18446744073709551616)(D:b<18446744073709551616)(F:aA a=true)(G:aA b=true)(H:fK a≠0)(J:fK b≠0):
  bf (pS a b) (dT a-dT b-55)=qV a b∧bj (oM (pS a b:Nat)).natAbs (oE (pS a b:Nat) (dT a-dT b-55))=qF a b:=by
 obtain⟨X,Y,Z,x4,x5,x6,x7,x8⟩:=cw a z F H
 obtain⟨y1,y2,y3,y4,y5,y6,N,O⟩:=cw b D G J
 have h:=vI (fD a).natAbs (fD b).natAbs (by omega) O (by omega)
 obtain⟨u1,u2,u3⟩:=aU (fD a).natAbs (by omega)
 obtain⟨v1,v2,v3⟩:=aU (fD b).natAbs (by omega)
 unfold pS qV qF qS dS dT
 generalize (fD a).natAbs=d at*
 generalize (fD b).natAbs=f at*
 have K:d*2^(53-bl d)*2^54=d*2^(54-bl d+bl f)*2^(53-bl f):=by
  rw[Nat.mul_assoc,←Nat.pow_add,Nat.mul_assoc,←Nat.pow_add]
  congr 2
  omega
 have l:54-bl d+bl f=54+bl f-bl d:=by omega
 rw[K,nC]
 have u:9007199254740992≤d*2^(54-bl d+bl f)/f:=by
  rw[Nat.le_div_iff_mul_le (by omega)]
  have Q:9007199254740992*f≤2^53*2^bl f:=by rw[yB];exact Nat.mul_le_mul_left _ (by omega)
  have U:(2:Nat)^53*2^bl f≤2^(bl d-1)*2^(54-bl d+bl f):=by
   rw[←Nat.pow_add,←Nat.pow_add];exact dG (by omega)
  have V:2^(bl d-1)*2^(54-bl d+bl f)≤d*2^(54-bl d+bl f):=Nat.mul_le_mul_right _ u2
  omega
 have L:(bl d:Int)+fX a-((bl f:Int)+fX b)-55=(fX a-fX b-1)-(54-bl d+bl f:Nat):=by omega
 have M:fX a-fX b-181=(fX a-fX b-1)-(180:Nat):=by omega
 rw[L,M]
 exact⟨vH d f _ 180 _ (by omega) u h,qz d f _ 180 _ N u h⟩
theorem zZ(a b:Nat)(d:a<18446744073709551616)(f:b<18446744073709551616)(l:aA a=true)(u:aA b=true)(z:fK a≠0)(D:fK b≠0):pS a b≠0∧pS a b<144115188075855872∧dS a<2*dS b:=by
 obtain⟨K,L,M,N,O,Q,U,V⟩:=cw a d l z
 obtain⟨X,Y,Z,y4,y5,y6,y7,y8⟩:=cw b f u D
 have h:=Fg (dS a) (dS b)
 have F:=zX (dS a) (dS b) 55 (by omega)
 have G:(2:Nat)^55=36028797018963968:=by decide
 have H:(if 0<lR (dS a) (dS b) 55 then 1 else 0)≤1:=by split<;>omega
 refine⟨?_,?_,by omega⟩
 ·have:1≤dS a*2^54/dS b:=by
   rw[Nat.le_div_iff_mul_le (by omega),Nat.one_mul]
   have:dS a*1≤dS a*2^54:=Nat.mul_le_mul_left _ (by decide)
   have J:dS a*2≤dS a*2^54:=Nat.mul_le_mul_left _ (by decide)
   omega
  unfold pS cq
  omega
 ·show cq (dS a*2^54) (dS b)<_
  rw[h];omega
theorem vO(b:Nat)(d:fK b≠0):fZ b≠0∧decide (fZ b<0)=fS b:=by
 have f:fR b≠0:=fun e=>d ((aR b).2 e)
 have h:0<rv (fR b):=uu (by omega)
 unfold fZ pv
 cases fS b
 ·simp only[Bool.false_eq_true,if_false]
  exact⟨by omega,decide_eq_false (by omega)⟩
 ·simp only[if_true]
  exact⟨by omega,decide_eq_true (by omega)⟩
theorem f8(a:Nat)(u:a<18446744073709551616)(l:aA a=true)(z:fK a≠0):
  fD a%2=1∧(fD a).natAbs<9007199254740992∧(fD a).natAbs≠0∧decide (fD a<0)=fS a∧-1074≤fX a∧fX a≤1024∧1≤bl (fD a).natAbs∧(bl (fD a).natAbs:Int)+fX a≤1024∧bf (rv (fR a)) (-1074)=bf (fD a).natAbs (fX a):=by
 obtain⟨β,G,D,U,H⟩:=ij a u l z
 obtain⟨V,J,X,Y,K,L,Z,y8⟩:=cw a u l z
 obtain⟨M,d2⟩:=dC a u l
 obtain⟨n1,N⟩:=vO a z
 have d:(fD a).natAbs≠0:=by omega
 have Q:bl (rv (fR a))=bl (fD a).natAbs+β:=by rw[D];exact jW _ _ d
 have f:=js a l
 rw[fY]at f
 have h:rv (fR a)≠0:=by rw[←fY];omega
 have F:bl (rv (fR a))≤2098:=by
  obtain⟨b1,O,b3⟩:=aU _ h
  have:=cf (Nat.lt_of_le_of_lt O f)
  omega
 refine⟨by omega,H,d,?_,K,L,J,by omega,?_⟩
 ·rw[←M,jf];exact N
 ·rw[D,G,dk]
theorem qG(C:Int)(f:2098<C)(v:Nat)(E n:Int)(d:v≠0)(l:(bl v:Int)+E≤1024)(u:-1074≤(bl v:Int)+E):
  bf v (E+n)=bf v (E+max (-C) (min C n))∧bj v (E+n)=bj v (E+max (-C) (min C n)):=by
 rcases Int.lt_or_le C n with h|h
 ·have a:=kj d (E:=E+n) (by omega)
  have b:=kj d (E:=E+max (-C) (min C n)) (by omega)
  rw[a.1,a.2,b.1,b.2]
  exact⟨rfl,rfl⟩
 ·rcases Int.lt_or_le n (-C)with g|g
  ·have a:=qA d (E:=E+n) (by omega)
   have b:=qA d (E:=E+max (-C) (min C n)) (by omega)
   rw[a.1,a.2,b.1,b.2]
   exact⟨rfl,rfl⟩
  ·rw[show max (-C) (min C n)=n by omega]
   exact⟨rfl,rfl⟩
def xV(a:Nat)(n:Int):Nat:=if fK a=4 then 9221120237041090560 else if fK a=3∨fK a=0 then a else bY (fS a) (bf (fD a).natAbs (fX a+n))
def xF(a:Nat)(n:Int):Int:=if fK a=4 then 0 else if fK a=3∨fK a=0 then 0 else bj (fD a).natAbs (fX a+n)
theorem gV(a:Nat)(n:Int)(d:a<18446744073709551616):xV a n<18446744073709551616:=by
 unfold xV
 have:=cH (fD a).natAbs (fX a+n)
 repeat' split
 ·decide
 ·exact d
 ·exact ee _ _ (by omega)
theorem Aa(C:Int)(h:2098<C)(a:Nat)(n:Int)(l:a<18446744073709551616):xV a (max (-C) (min C n))=xV a n∧xF a (max (-C) (min C n))=xF a n:=by
 unfold xV xF
 by_cases d:fK a=4
 ·rw[if_pos d,if_pos d,if_pos d,if_pos d];exact⟨rfl,rfl⟩
 by_cases f:fK a=3∨fK a=0
 ·rw[if_neg d,if_neg d,if_neg d,if_neg d,if_pos f,if_pos f,if_pos f,if_pos f];exact⟨rfl,rfl⟩
 ·rw[if_neg d,if_neg d,if_neg d,if_neg d,if_neg f,if_neg f,if_neg f,if_neg f]
  obtain⟨z1,z2,u,D,F,G,H,z,J⟩:=f8 a l (aY a (by omega) d) (by omega)
  have:=qG C h _ _ n u z (by omega)
  rw[this.1,this.2]
  exact⟨rfl,rfl⟩
theorem qH{D E:Int}(h:D%2=1)(d:-16384≤E∧E≤16384):qn D E=true:=by
 unfold qn
 rw[if_neg (by omega),decide_eq_true h,decide_eq_true d];rfl
theorem vP{D:Int}(h:D%2=1):oM D=D∧∀e,oE D e=e:=by
 have d:D≠0:=by omega
 have f:=gj D d
 have:=(fq D d).unique (m':=D) (k':=0) ⟨by simp,h⟩
 refine⟨this.1,fun e=>?_⟩
 rw[dz _ _ d,this.2];simp
theorem Gc{D:Int}(h:D%2=1):tz D.natAbs=0:=by
 have d:D≠0:=by omega
 exact((fq D d).unique (m':=D) (k':=0) ⟨by simp,h⟩).2
theorem DG{w:World}{v:Value}{D X:Int}(n:Int)(h:aC w v D X)(d:D%2=1)(K:D.natAbs<9007199254740992)(L:-1074≤X∧X≤1024)(M:-5000≤n∧n≤5000)(l:bT w):
  Calls Tryz.prog 250 #[v,.int .i64 n] w fun r w'=>mi w' r 0 D (X+n)∧Below w.heap.size w w':=by
 obtain⟨u,z,F,A,rfl,G,N,H,O,J⟩:=h.right (cS _ (by omega))
 have:=qr u z F A X n w G (J.trans (qH d (by omega))) (by omega) l
 have f:kU D (X+n)=true:=by
  unfold kU
  rw[Gc d,decide_eq_true (show-32768≤X+n∧X+n≤32768 by omega),decide_eq_true (show-16384≤X+n+((0:Nat):Int)∧X+n+((0:Nat):Int)≤16384 by omega),Bool.or_true]
  rfl
 rw[H]at this
 unfold cK dM dX at this
 rw[f,if_pos rfl,if_pos rfl,if_pos rfl,(vP d).1,(vP d).2]at this
 exact this
theorem nJ(a o:Nat)(n D X Y U:Int)(w:World)(hT:bT w)
  (C1:∀w',bT w'→Calls Tryz.prog 207 #[.int .u64 a] w' fun r h=>mi h r 0 D X∧Below w'.heap.size w' h)
  (C2:∀w' v,bT w'→aC w' v D X→Calls Tryz.prog 250 #[v,.int .i64 n] w' fun r h=>mi h r 0 D Y∧Below w'.heap.size w' h)
  (C3:∀w' v,bT w'→aC w' v D Y→Calls Tryz.prog 251 #[v] w' fun r h=>r=.returned (.tuple #[.int .u64 (o:Nat),.int .u8 U,.int .i64 0])∧Below w'.heap.size w' h):
  Calls Tryz.prog 220 #[.int .u64 a,.int .i64 n] w fun r w'=>r=.returned (.tuple #[.int .u64 (o:Nat),.int .u8 U])∧Below w.heap.size w w':=by
 have K1:=aa C1;have K2:=aa C2;have K3:=aa C3;have V:=aa hT
 clear C1 C2 C3 hT
 go_enter Tryz.func220,Tryz.ntmps220
 go_wp2_with fail
 refine(uH K1 _ (uH V)).mono ?_
 rintro e F ⟨⟨v,rfl,Z⟩,f⟩
 obtain⟨K,L,M,u,rfl,i1⟩:=Z
 have d:Below F.heap.size F (F.alloc (.cells #[.bool K,.slice L u.length M,.int .i64 X] 41)):=(Below.refl _ _).alloc (Nat.le_refl _) _
 have HX:=aa ((show aC F (.agg #[.bool K,.slice L u.length M,.int .i64 X]) D X from⟨K,L,M,u,rfl,i1⟩).below d)
 have H:=aa (f.trans (d.mono f.size))
 have l:=ay.new F (.bool K) (.slice L u.length M) (.int .i64 X)
 have y0:=l.c0;have y1:=l.c1;have y2:=l.c2
 clear i1 f d K1 l
 generalize u.length=l1 at*
 go_wp2_with fail
 refine(uH K2 _ _ ((uH V).all (uH H)) (uH HX)).mono ?_
 rintro e G ⟨⟨v,rfl,Z⟩,f⟩
 obtain⟨N,O,Q,z,rfl,i2⟩:=Z
 have d:Below G.heap.size G (G.alloc (.cells #[.bool N,.slice O z.length Q,.int .i64 Y] 41)):=(Below.refl _ _).alloc (Nat.le_refl _) _
 have HY:=aa ((show aC G (.agg #[.bool N,.slice O z.length Q,.int .i64 Y]) D Y from⟨N,O,Q,z,rfl,i2⟩).below d)
 have J:=aa ((uH H).trans ((f.trans (d.mono f.size)).mono (uH H).size))
 have l:=ay.new G (.bool N) (.slice O z.length Q) (.int .i64 Y)
 have z0:=l.c0;have z1:=l.c1;have z2:=l.c2
 clear i2 f d K2 l y0 y1 y2 HX H
 generalize z.length=l2 at*
 go_wp2_with fail
 refine(uH K3 _ _ ((uH V).all (uH J)) (uH HY)).mono ?_
 rintro e w3 ⟨rfl,f⟩
 have B3:=aa ((uH J).trans (f.mono (uH J).size))
 clear f K3 J z0 z1 z2 HY
 go_wp2
 exact bodyPost_ret (v:=.tuple #[.int .u64 o,.int .u8 U]) (by simp[results,Tryz.results220,go_sem]) rfl ⟨rfl,uH B3⟩
theorem mj(a:Nat)(n:Int)(w:World)(f:a<18446744073709551616)(h:aA a=true)(u:fK a≠0)(z:-5000≤n∧n≤5000)(D:bT w):
  Calls Tryz.prog 220 #[.int .u64 a,.int .i64 n] w fun r w'=>r=.returned (.tuple #[.int .u64 (bY (fS a) (bf (fD a).natAbs (fX a+n)):Nat),.int .u8 (bj (fD a).natAbs (fX a+n))])∧Below w.heap.size w w':=by
 obtain⟨z1,z2,G,F,H,J,K,L,M⟩:=f8 a f h u
 have l:∀w' v,bT w'→aC w' v (fD a) (fX a+n)→_:=fun w' v t d=>iL d (cS _ (by omega)) (qH z1 (by omega)) t
 rw[F]at l
 exact nJ a _ n (fD a) (fX a) (fX a+n) _ w D (fun w' t=>df a w' f h t) (fun w' v t d=>DG n d z1 z2 (by omega) z t) l
theorem DH(a:Nat)(n:Int)(w:World)
  (h:∀w',Calls Tryz.prog 113 #[.int .u64 a] w' fun r d=>r=.returned (.int .i64 4)∧Below w'.heap.size w' d):
  Calls Tryz.prog 168 #[.int .u64 a,.int .i64 n] w fun r w'=>r=.returned (.tuple #[.int .u64 9221120237041090560,.int .u8 0])∧Below w.heap.size w w':=by
 have l:=aa h
 clear h
 go_enter Tryz.func168,Tryz.ntmps168
 go_wp2_with fail
 refine(uH l _).mono ?_
 rintro e u ⟨rfl,f⟩
 clear l
 go_wp2
 exact bodyPost_ret (v:=.tuple #[.int .u64 9221120237041090560,.int .u8 0]) (by simp[results,Tryz.results168,go_sem]) rfl ⟨rfl,f⟩
theorem Ab(a:Nat)(n k:Int)(w:World)(u:k=3∨k=0)
  (l:∀w',Calls Tryz.prog 113 #[.int .u64 a] w' fun r h=>r=.returned (.int .i64 k)∧Below w'.heap.size w' h):
  Calls Tryz.prog 168 #[.int .u64 a,.int .i64 n] w fun r w'=>r=.returned (.tuple #[.int .u64 (a:Nat),.int .u8 0])∧Below w.heap.size w w':=by
 have f:=aa l
 clear l
 rcases u with rfl|rfl
 ·go_enter Tryz.func168,Tryz.ntmps168
  go_wp2_with fail
  refine(uH f _).mono ?_
  rintro e z ⟨rfl,d⟩
  clear f
  go_wp2
  exact bodyPost_ret (v:=.tuple #[.int .u64 (a:Nat),.int .u8 0]) (by simp[results,Tryz.results168,go_sem]) rfl ⟨rfl,d⟩
 ·go_enter Tryz.func168,Tryz.ntmps168
  go_wp2_with fail
  refine(uH f _).mono ?_
  rintro e z ⟨rfl,d⟩
  clear f
  go_wp2
  exact bodyPost_ret (v:=.tuple #[.int .u64 (a:Nat),.int .u8 0]) (by simp[results,Tryz.results168,go_sem]) rfl ⟨rfl,d⟩
theorem Ac(P:Program)(w:World)(d:Array TypeId)(t:TypeId)(x y:Int):(Builtin.min_ d t #[.int .i64 x,.int .i64 y]).run P w=.ok (.int .i64 (min x y)) w:=by
 rw[run_min_int2]
 congr 2
 split<;>omega
theorem DI(a o:Nat)(n k m c l:Int)(w:World)(L:(k==4)=false)(M:(k==3)=false)(N:(k==0)=false)(z:bT w)
  (O:∀W u t,(Builtin.max_ u t #[.int .i64 n,.int .i64 (-4096)]).run Tryz.prog W=.ok (.int .i64 m) W)
  (Q:∀W u t,(Builtin.min_ u t #[.int .i64 m,.int .i64 4096]).run Tryz.prog W=.ok (.int .i64 c) W)
  (D:∀w',Calls Tryz.prog 113 #[.int .u64 a] w' fun r f=>r=.returned (.int .i64 k)∧Below w'.heap.size w' f)
  (F:∀w',bT w'→Calls Tryz.prog 220 #[.int .u64 a,.int .i64 c] w' fun r f=>r=.returned (.tuple #[.int .u64 (o:Nat),.int .u8 l])∧Below w'.heap.size w' f):
  Calls Tryz.prog 168 #[.int .u64 a,.int .i64 n] w fun r w'=>r=.returned (.tuple #[.int .u64 (o:Nat),.int .u8 l])∧Below w.heap.size w w':=by
 have G:=aa D;have H:=aa F;have J:=aa z
 clear D F z
 go_enter Tryz.func168,Tryz.ntmps168
 go_wp2_with fail
 refine(uH G _).mono ?_
 rintro e U ⟨rfl,d⟩
 have h:=aa d
 clear G d
 go_wp2_with fail
 refine(uH H _ ((uH J).all (uH h))).mono ?_
 rintro e V ⟨rfl,d⟩
 have K:=aa ((uH h).trans (d.mono (uH h).size))
 clear H d h J
 go_wp2
 exact bodyPost_ret (v:=.tuple #[.int .u64 (o:Nat),.int .u8 l]) (by simp[results,Tryz.results168,go_sem]) rfl ⟨rfl,uH K⟩
theorem uv(a:Nat)(n:Int)(w:World)(l:a<18446744073709551616)(z:bT w):
  Calls Tryz.prog 168 #[.int .u64 a,.int .i64 n] w fun r w'=>r=.returned (.tuple #[.int .u64 (xV a n:Nat),.int .u8 (xF a n)])∧Below w.heap.size w w':=by
 have h:=fun w'=>cR a w' l
 by_cases d:fK a=4
 ·unfold xV xF
  rw[if_pos d,if_pos d]
  rw[d]at h
  exact DH a n w h
 by_cases f:fK a=3∨fK a=0
 ·unfold xV xF
  rw[if_neg d,if_neg d,if_pos f,if_pos f]
  exact Ab a n _ w f h
 ·have D:=aY a (by omega) d
  have e:=Aa 4096 (by decide) a n l
  rw[show max (-4096) (min 4096 n)=min (max n (-4096)) 4096 by omega]at e
  rw[←e.1,←e.2]
  unfold xV xF
  rw[if_neg d,if_neg d,if_neg f,if_neg f]
  exact DI a _ n _ (max n (-4096)) (min (max n (-4096)) 4096) _ w (by simp[d]) (by simp;omega) (by simp;omega) z (fun W u t=>iK _ W u t _ _) (fun W u t=>Ac _ W u t _ _) h (fun w' t=>mj a _ w' l D (by omega) (by omega) t)
def ab(x:Rat):Rat:=if x<0 then-x else x
theorem Hy{x y:Rat}(d:x≤y)(f:-x≤y):ab x≤y:=by unfold ab;grind
theorem km(x:Rat):x≤ab x∧-x≤ab x:=by unfold ab;grind
theorem gz{x:Rat}(h:0≤x):ab x=x:=by unfold ab;grind
theorem uw(x:Rat):ab (-x)=ab x:=by unfold ab;grind
theorem Gd(x y:Rat):ab (x-y)=ab (y-x):=by unfold ab;grind
theorem qI(x y:Rat):ab (x*y)=ab x*ab y:=by
 have d:0≤x→0≤y→0≤x*y:=fun a b=>Rat.mul_nonneg a b
 have f:0≤-x→0≤y→0≤-x*y:=fun a b=>Rat.mul_nonneg a b
 have h:0≤x→0≤-y→0≤x* -y:=fun a b=>Rat.mul_nonneg a b
 have l:0≤-x→0≤-y→0≤-x* -y:=fun a b=>Rat.mul_nonneg a b
 unfold ab
 by_cases a:x<0<;>by_cases b:y<0<;>simp only[a,b,if_true,if_false]<;>grind
theorem dU(x:Rat):0≤x*x:=by
 have d:0≤x→0≤x*x:=fun a=>Rat.mul_nonneg a a
 have f:0≤-x→0≤-x* -x:=fun a=>Rat.mul_nonneg a a
 by_cases a:0≤x
 ·exact d a
 ·have:=f (by grind)
  grind
def fQ(a:Nat):Rat:=(fZ a:Rat)*p2 (-1074)
theorem Fh(n:Bool)(r:Nat):(pv n r:Rat)*p2 (-1074)=if n=true then-((rv r:Rat)*p2 (-1074))else(rv r:Rat)*p2 (-1074):=by
 unfold pv
 cases n
 ·simp only[Bool.false_eq_true,if_false];rfl
 ·simp only[if_true]
  rw[Rat.intCast_neg,Rat.neg_mul]
  rfl
theorem eL(a:Nat):fQ a=if fS a=true then-((rv (fR a):Rat)*p2 (-1074))else(rv (fR a):Rat)*p2 (-1074):=Fh _ _
theorem vQ(r:Nat):0≤(rv r:Rat)*p2 (-1074):=Rat.mul_nonneg Rat.natCast_nonneg (Rat.le_of_lt (dh _))
theorem lT(a:Nat):ab (fQ a)=(rv (fR a):Rat)*p2 (-1074):=by
 have:=vQ (fR a)
 rw[eL]
 cases fS a
 ·simp only[Bool.false_eq_true,if_false];exact gz this
 ·simp only[if_true];rw[uw];exact gz this
theorem sD(z:Int):(z:Rat)=if z<0 then-(z.natAbs:Rat)else(z.natAbs:Rat):=by
 by_cases h:z<0
 ·rw[if_pos h]
  have:z= -(z.natAbs:Int):=by omega
  conv=>lhs;rw[this]
  rw[Rat.intCast_neg]
  rfl
 ·rw[if_neg h]
  have:z=(z.natAbs:Int):=by omega
  conv=>lhs;rw[this]
  rfl
theorem DJ(a b:Nat)(f:aA a=true)(l:aA b=true)(u:aA (aV a b)=true):
  9007199254740992*ab (fQ (aV a b)-(fQ a+fQ b))≤ab (fQ a+fQ b):=by
 obtain⟨G,H⟩:=qy a b f l
 have d:=iN _ u
 rw[G]at d
 have z:fQ a+fQ b=((aZ a b:Int):Rat)*p2 (-1074):=by
  unfold fQ aZ
  rw[Rat.intCast_add,Rat.add_mul]
 have D:fQ (aV a b)=((IE (aZ a b) (-1074):Int):Rat)*p2 (-1074):=by
  unfold fQ;rw[H]
 rw[z,D]
 unfold IE
 rw[Fh,sD]
 have e:=mG (aZ a b).natAbs (-1074) d
 unfold yE xE at e
 have F:=dh (-1074)
 have J:(0:Rat)≤((aZ a b).natAbs:Rat)*p2 (-1074):=Rat.mul_nonneg Rat.natCast_nonneg (Rat.le_of_lt F)
 by_cases h:aZ a b<0
 ·simp only[h,decide_true,if_true]
  unfold ab
  grind
 ·simp only[h,decide_false,if_false,Bool.false_eq_true]
  unfold ab
  grind
theorem ux(a b:Nat)(d:aA a=true)(f:aA b=true):mV a b=bY (fS a^^fS b) (bf (rv (fR a)*rv (fR b)) (-2148)):=by
 obtain⟨h,l⟩:=bD d
 obtain⟨u,z⟩:=bD f
 unfold mV
 rw[if_neg (by omega),if_neg (by omega)]
theorem DK(a b:Nat)(G:aA a=true)(H:aA b=true)(J:aA (mV a b)=true):
  9007199254740992*ab (fQ (mV a b)-fQ a*fQ b)≤ab (fQ a*fQ b)∨(fR (mV a b)≤4503599627370496∧2*ab (fQ (mV a b)-fQ a*fQ b)≤p2 (-1074)):=by
 have u:=iN _ J
 have z:=ux a b G H
 have M:=cH (rv (fR a)*rv (fR b)) (-2148)
 have h:fR (mV a b)=bf (rv (fR a)*rv (fR b)) (-2148):=by rw[z,ef _ _ (by omega)]
 have N:fS (mV a b)=(fS a^^fS b):=by rw[z,ii _ _ (by omega)]
 rw[h]at u
 have e:=mG _ _ u
 have O:xE (rv (fR a)*rv (fR b)) (-2148)=(rv (fR a):Rat)*p2 (-1074)*((rv (fR b):Rat)*p2 (-1074)):=by
  unfold xE
  rw[Rat.natCast_mul,show(-2148:Int)= -1074+-1074 by rfl,cV]
  grind
 rw[O]at e
 unfold yE at e
 have hp:=dh (-1074)
 have Q:fQ (mV a b)=if(fS a^^fS b)=true then-((rv (bf (rv (fR a)*rv (fR b)) (-2148)):Rat)*p2 (-1074))else(rv (bf (rv (fR a)*rv (fR b)) (-2148)):Rat)*p2 (-1074):=by rw[eL,N,h]
 have U:=vQ (fR a);have V:=vQ (fR b)
 have X:=Rat.mul_nonneg U V
 rw[Q,eL a,eL b,h]
 generalize (rv (fR a):Rat)*p2 (-1074)=A at*
 generalize (rv (fR b):Rat)*p2 (-1074)=B at*
 generalize (rv (bf (rv (fR a)*rv (fR b)) (-2148)):Rat)*p2 (-1074)=Y at*
 have f:ab (A*B)=A*B:=gz X
 have D:ab (Y-A*B)=ab (A*B-Y):=Gd _ _
 have Z:∀t:Rat,9007199254740992*Y≤9007199254740992*(A*B)+t→9007199254740992*(A*B)≤9007199254740992*Y+t→9007199254740992*ab (Y-A*B)≤t:=fun t K L=>by unfold ab;grind
 have k4:2*Y≤2*(A*B)+p2 (-1074)→2*(A*B)≤2*Y+p2 (-1074)→2*ab (Y-A*B)≤p2 (-1074):=fun K L=>by unfold ab;grind
 have d:9007199254740992*ab (Y-A*B)≤A*B∨(bf (rv (fR a)*rv (fR b)) (-2148)≤4503599627370496∧2*ab (Y-A*B)≤p2 (-1074)):=by
  rcases e with⟨l,F⟩|⟨l,F,e3,e4⟩
  ·exact .inl (Z _ l F)
  ·exact .inr ⟨l,k4 e3 e4⟩
 cases fS a<;>cases fS b<;>simp only[Bool.xor_false,Bool.xor_true,Bool.not_true,Bool.not_false,Bool.false_eq_true,if_true,if_false]
 ·rw[f];exact d
 ·rw[show-Y-A* -B=A*B-Y by grind,show A* -B= -(A*B) by grind,uw,f,←D];exact d
 ·rw[show-Y- -A*B=A*B-Y by grind,show-A*B= -(A*B) by grind,uw,f,←D];exact d
 ·rw[show Y- -A* -B=Y-A*B by grind,show-A* -B=A*B by grind,f];exact d
theorem Ad{a b:Int}(h:p2 a<p2 b):a<b:=by
 rcases Int.lt_or_le a b with g|g
 ·exact g
 ·have:=mE g
  grind
theorem uy(v:Nat)(E:Int)(h:v≠0):p2 ((bl v:Int)+E-1)≤xE v E∧xE v E<p2 ((bl v:Int)+E):=by
 obtain⟨u,f,l⟩:=aU v h
 have d:=dh E
 constructor
 ·rw[show(bl v:Int)+E-1=((bl v-1:Nat):Int)+E by omega,cV,eg]
  unfold xE
  have:=Rat.mul_le_mul_of_nonneg_left (Rat.natCast_le_natCast.2 f) (Rat.le_of_lt d)
  grind
 ·rw[cV,eg]
  unfold xE
  have:=Rat.mul_lt_mul_of_pos_left (Rat.natCast_lt_natCast.2 l) d
  grind
theorem jH(v:Nat)(E:Int)(h:xE v E<p2 1023):bf v E<9218868437227405312:=by
 by_cases d:v=0
 ·rw[d,kg];decide
 ·have G:=(uy v E d).1
  have H:(bl v:Int)+E-1<1023:=Ad (by grind)
  by_cases J:(bl v:Int)+E≤1022
  ·obtain⟨f,l,u⟩:=ch v E d
   obtain⟨z,D,F⟩:=bU v E
   rw[cj v E d (by omega)]
   have:(ar v E+1074).toNat≤2043:=by omega
   omega
  ·obtain⟨f,l,u⟩:=ch v E d
   obtain⟨z,D,F⟩:=bU v E
   rw[cj v E d (by omega)]
   have:(ar v E+1074).toNat≤2044:=by omega
   omega
theorem xz(v:Nat)(E:Int)(Q:bl v≤53)(f:bf v E<9218868437227405312):
  yE v E=xE v E∨(xE v E<p2 (-1022)∧bf v E≤4503599627370496∧2*yE v E≤2*xE v E+p2 (-1074)∧2*xE v E≤2*yE v E+p2 (-1074)):=by
 by_cases h:v=0
 ·subst h
  refine .inl ?_
  have e:yE 0 E=0:=by unfold yE;rw[kg,dH];exact Rat.zero_mul _
  have G:xE 0 E=0:=Rat.zero_mul _
  rw[e,G]
 have l:=vL v E h f
 obtain⟨V,X,Y⟩:=bU v E
 obtain⟨M,D,F⟩:=sw v E h l
 by_cases H:ar v E≤E
 ·exact .inl (M H)
 ·have u:ar v E= -1074∧(bl v:Int)+E< -1021:=by omega
  have U:=(uy v E h).2
  have J:=mE (show(bl v:Int)+E≤-1022 by omega)
  rcases mG v E f with e|e
  ·refine .inr ⟨by grind,?_,by rw[u.1]at D;exact D,by rw[u.1]at F;exact F⟩
   obtain⟨Z,b2,N⟩:=aU v h
   obtain⟨k,O,d⟩:∃k:Nat,E-ar v E= -(k:Int)∧1≤k:=⟨(ar v E-E).toNat,by omega,by omega⟩
   have K:cQ v E≤4503599627370496:=by
    unfold cQ
    rw[O,cW _ _ d]
    refine kP ?_
    have z:v<2^(52+k):=Nat.lt_of_lt_of_le N (dG (by omega))
    rw[Nat.pow_add,Fb]at z
    exact Nat.le_of_lt z
   have L:(ar v E+1074).toNat=0:=by omega
   rw[cj v E h l,L,Nat.zero_mul,Nat.add_zero]
   exact K
  ·exact .inr ⟨by grind,e.1,e.2.2⟩
theorem uz(a:Nat)(d:a<18446744073709551616)(f:aA a=true)(h:fK a≠0)(n:Int):xE (fD a).natAbs (fX a+n)=(rv (fR a):Rat)*p2 (-1074)*p2 n:=by
 obtain⟨β,u,l,z,D⟩:=ij a d f h
 unfold xE
 rw[l,Rat.natCast_mul,←eg,show fX a+n=(β:Int)+-1074+n by omega,cV,cV]
 grind
theorem qJ(a:Nat)(n:Int)(d:aA a=true)(h:fK a≠0):xV a n=bY (fS a) (bf (fD a).natAbs (fX a+n)):=by
 obtain⟨l,f⟩:=bD d
 unfold xV
 rw[if_neg f,if_neg (by omega)]
theorem pJ(a:Nat)(n:Int)(d:fK a=0):xV a n=a:=by
 unfold xV
 rw[if_neg (by omega),if_pos (.inr d)]
theorem k8(a:Nat)(d:fK a=0):fQ a=0:=by
 have h:=lT a
 rw[(aR a).1 d,dH]at h
 have f:ab (fQ a)=0:=by rw[h];exact Rat.zero_mul _
 unfold ab at f
 grind
theorem xA(a:Nat)(n:Int)(l:a<18446744073709551616)(d:aA a=true)(h:ab (fQ a)*p2 n<p2 1023):aA (xV a n)=true:=by
 by_cases f:fK a=0
 ·rw[pJ a n f];exact d
 ·rw[qJ a n d f]
  rw[lT,←uz a l d f]at h
  have:=jH _ _ h
  exact(aP _).2.2.2 (by rw[ef _ _ (by omega)];exact this)
theorem xB(a:Nat)(n:Int)(h:a<18446744073709551616)(f:aA a=true)(F:aA (xV a n)=true):
  fQ (xV a n)=fQ a*p2 n∨(ab (fQ a)*p2 n<p2 (-1022)∧fR (xV a n)≤4503599627370496∧2*ab (fQ (xV a n)-fQ a*p2 n)≤p2 (-1074)):=by
 by_cases d:fK a=0
 ·rw[pJ a n d,k8 a d,Rat.zero_mul];exact .inl rfl
 ·have z:=iN _ F
  have G:=cH (fD a).natAbs (fX a+n)
  have D:fR (xV a n)=bf (fD a).natAbs (fX a+n):=by rw[qJ a n f d,ef _ _ (by omega)]
  have H:fS (xV a n)=fS a:=by rw[qJ a n f d,ii _ _ (by omega)]
  rw[D]at z
  obtain⟨z1,z2,M,N,O,Q,U,V,X⟩:=f8 a h f d
  have J:bl (fD a).natAbs≤53:=(cw a h f d).1
  have e:=xz _ _ J z
  rw[uz a h f d n]at e
  unfold yE at e
  rw[eL (xV a n),H,D,lT,eL a]
  generalize (rv (bf (fD a).natAbs (fX a+n)):Rat)*p2 (-1074)=Y at*
  generalize (rv (fR a):Rat)*p2 (-1074)=A at*
  cases fS a<;>simp only[Bool.false_eq_true,if_true,if_false]
  ·rcases e with e|⟨l,u,K,L⟩
   ·exact .inl e
   ·refine .inr ⟨l,u,?_⟩
    unfold ab;grind
  ·rcases e with e|⟨l,u,K,L⟩
   ·refine .inl ?_
    grind
   ·refine .inr ⟨l,u,?_⟩
    unfold ab;grind
theorem DL(a b:Nat)(d:aA a=true)(f:aA b=true)(h:ab (fQ a+fQ b)<p2 1023):aA (aV a b)=true:=by
 obtain⟨u,D⟩:=qy a b d f
 have l:ab (fQ a+fQ b)=xE (aZ a b).natAbs (-1074):=by
  have:fQ a+fQ b=((aZ a b:Int):Rat)*p2 (-1074):=by
   unfold fQ aZ
   rw[Rat.intCast_add,Rat.add_mul]
  rw[this,sD]
  have z:(0:Rat)≤((aZ a b).natAbs:Rat)*p2 (-1074):=Rat.mul_nonneg Rat.natCast_nonneg (Rat.le_of_lt (dh _))
  unfold xE ab
  split<;>grind
 rw[l]at h
 exact(aP _).2.2.2 (by rw[u];exact jH _ _ h)
theorem DM(a b:Nat)(d:aA a=true)(f:aA b=true)(h:ab (fQ a*fQ b)<p2 1023):aA (mV a b)=true:=by
 have l:xE (rv (fR a)*rv (fR b)) (-2148)=ab (fQ a*fQ b):=by
  rw[qI,lT,lT]
  unfold xE
  rw[Rat.natCast_mul,show(-2148:Int)= -1074+-1074 by rfl,cV]
  grind
 rw[←l]at h
 have:=jH _ _ h
 exact(aP _).2.2.2 (by rw[ux a b d f,ef _ _ (by omega)];exact this)
theorem Hz(a:Nat)(f:fK a≠0):∃N q:Nat,N=rv (fR a)*2^120∧1152921504606846976≤q∧q*q≤N∧(tS a*tS a=4*N∨(tS a*tS a≤4*N+4*q∧4*N≤tS a*tS a+4*q)):=by
 refine⟨_,aT (rv (fR a)*2^120),rfl,?_,?_,?_⟩
 ·have:=(zQ a f).1
  have e:(2:Nat)^60=1152921504606846976:=by decide
  omega
 ·exact(bQ _).1
 ·obtain⟨z,D⟩:=bQ (rv (fR a)*2^120)
  unfold tS rS
  generalize rv (fR a)*2^120=N at*
  generalize aT N=q at*
  have d:(2*q)*(2*q)=4*(q*q):=by rw[Nat.mul_mul_mul_comm]
  have l:(2*q+1)*(2*q+1)=4*(q*q)+4*q+1:=by rw[cY,d];omega
  have u:=cY q
  by_cases h:q*q=N
  ·rw[if_pos h,Nat.add_zero]
   exact .inl (by rw[d,h])
  ·rw[if_neg h]
   refine .inr ?_
   rw[l]
   generalize q*q=Q at*
   omega
theorem Ge(a:Nat)(f:aA a=true)(l:fK a≠0)(u:fS a=false):sV a=tV a:=by
 obtain⟨d,z⟩:=bD f
 unfold sV
 rw[if_neg z,if_neg (fun h=>?_),if_neg (by rw[u];decide)]
 rcases h with h|h
 ·exact l h
 ·rw[h]at d
  exact d (by decide)
theorem Ae(a:Nat)(V:aA a=true)(u:fK a≠0)(hs:fS a=false):
  aA (sV a)=true∧fS (sV a)=false∧sV a<18446744073709551616∧4503599627370496<fR (sV a)∧0≤fQ (sV a)∧9007199254740992*(fQ (sV a)*fQ (sV a))≤9007199254740992*fQ a+3*fQ a∧9007199254740992*fQ a≤9007199254740992*(fQ (sV a)*fQ (sV a))+3*fQ a:=by
 obtain⟨N,q,hN,hq,U,hT⟩:=Hz a u
 obtain⟨t1,t2⟩:=zR a V u
 have z:=Ge a V u hs
 have F:fR (sV a)=tV a:=by rw[z];unfold fR;omega
 have hS:fS (sV a)=false:=by rw[z];exact decide_eq_false (by omega)
 have f:aA (sV a)=true:=(aP _).2.2.2 (by rw[F];omega)
 have hY:fQ (sV a)=yE (tS a) (-598):=by
  rw[eL,hS,if_neg (by decide),F]
  rfl
 have l:fQ a=((4*N:Nat):Rat)*p2 (-1196):=by
  rw[eL,hs,if_neg (by decide),hN,Rat.natCast_mul,Rat.natCast_mul,←eg,show(-1074:Int)=2+(120:Nat)+-1196 by rfl,cV,cV,show p2 2=((4:Nat):Rat) by rw[show(2:Int)=((2:Nat):Int) by rfl,eg]]
  grind
 have d:xE (tS a) (-598)*xE (tS a) (-598)=((tS a*tS a:Nat):Rat)*p2 (-1196):=by
  unfold xE
  rw[Rat.natCast_mul,show(-1196:Int)= -598+-598 by rfl,cV]
  grind
 have G:bf (tS a) (-598)<9218868437227405312:=by
  have:bf (tS a) (-598)=tV a:=rfl
  omega
 have e:9007199254740992*yE (tS a) (-598)≤9007199254740992*xE (tS a) (-598)+xE (tS a) (-598)∧9007199254740992*xE (tS a) (-598)≤9007199254740992*yE (tS a) (-598)+xE (tS a) (-598):=by
  rcases mG _ _ G with e|e
  ·exact e
  ·have:bf (tS a) (-598)=tV a:=rfl
   omega
 have h:0≤xE (tS a) (-598):=Rat.mul_nonneg Rat.natCast_nonneg (Rat.le_of_lt (dh _))
 have H:0≤yE (tS a) (-598):=Rat.mul_nonneg Rat.natCast_nonneg (Rat.le_of_lt (dh _))
 --the sticky root's square,beside the number
 have J:1152921504606846976*(4*q)≤4*N:=by
  have:=Nat.mul_le_mul_right q hq
  omega
 have K:1152921504606846976*(tS a*tS a)≤1152921504606846976*(4*N)+4*N∧1152921504606846976*(4*N)≤1152921504606846976*(tS a*tS a)+4*N:=by
  generalize tS a*tS a=Z at*
  omega
 have L:=dh (-1196)
 have M:=Rat.mul_le_mul_of_nonneg_left (Rat.natCast_le_natCast.2 K.1) (Rat.le_of_lt L)
 have O:=Rat.mul_le_mul_of_nonneg_left (Rat.natCast_le_natCast.2 K.2) (Rat.le_of_lt L)
 rw[Rat.natCast_add,Rat.natCast_mul 1152921504606846976,Rat.natCast_mul 1152921504606846976]at M O
 have Q:((1152921504606846976:Nat):Rat)=1152921504606846976:=rfl
 rw[Q]at M O
 have s0:0≤fQ a:=by rw[l];exact Rat.mul_nonneg Rat.natCast_nonneg (Rat.le_of_lt L)
 refine⟨f,hS,by rw[z];omega,by rw[F];omega,by rw[hY];exact H,?_⟩
 rw[hY]
 have g1:1152921504606846976*(xE (tS a) (-598)*xE (tS a) (-598))≤1152921504606846976*fQ a+fQ a:=by rw[d,l];grind
 have g2:1152921504606846976*fQ a≤1152921504606846976*(xE (tS a) (-598)*xE (tS a) (-598))+fQ a:=by rw[d,l];grind
 clear M O K J hT d l hN U
 generalize xE (tS a) (-598)=X at*
 generalize yE (tS a) (-598)=Y at*
 generalize fQ a=S at*
 obtain⟨D,hD⟩:∃D,Y=X+D:=⟨Y-X,by grind⟩
 subst hD
 have m1:=Rat.mul_nonneg h (show 0≤X-9007199254740992*D by grind)
 have m2:=Rat.mul_nonneg h (show 0≤X+9007199254740992*D by grind)
 have m3:=Rat.mul_nonneg (show 0≤X-9007199254740992*D by grind) (show 0≤X+9007199254740992*D by grind)
 have m4:=dU D
 constructor
 ·grind
 ·grind
theorem H6(a:Nat)(k:Int)(w:World)(u:k=4∨k=3∨k=0)
  (h:∀w',Calls Tryz.prog 113 #[.int .u64 a] w' fun r d=>r=.returned (.int .i64 k)∧Below w'.heap.size w' d):
  Calls Tryz.prog 153 #[.int .u64 a] w fun r w'=>r=.returned (.int .i64 0)∧Below w.heap.size w w':=by
 have l:=aa h
 clear h
 rcases u with rfl|rfl|rfl
 all_goals
  go_enter Tryz.func153,Tryz.ntmps153
  go_wp2_with fail
  refine(uH l _).mono ?_
  rintro e z ⟨rfl,f⟩
  clear l
  go_wp2
  go_ret
  exact⟨rfl,f⟩
theorem H7(a:Nat)(k D X t:Int)(w:World)(h4:(k==4)=false)(h3:(k==3)=false)(h0:(k==0)=false)(ht:-2000≤t∧t≤2000)(L:bT w)
  (M:∀w',Calls Tryz.prog 113 #[.int .u64 a] w' fun r f=>r=.returned (.int .i64 k)∧Below w'.heap.size w' f)
  (N:∀w',bT w'→Calls Tryz.prog 207 #[.int .u64 a] w' fun r f=>mi f r 0 D X∧Below w'.heap.size w' f)
  (O:∀w' v,aC w' v D X→Calls Tryz.prog 208 #[v] w' fun r f=>r=.returned (.int .i64 t)∧Below w'.heap.size w' f):
  Calls Tryz.prog 153 #[.int .u64 a] w fun r w'=>r=.returned (.int .i64 (t-1))∧Below w.heap.size w w':=by
 have Q:=aa M;have U:=aa N;have V:=aa O;have HT:=aa L
 clear M N O L
 have hw:=aW (t-1) (by omega)
 go_enter Tryz.func153,Tryz.ntmps153
 go_wp2_with fail
 refine(uH Q _).mono ?_
 rintro e w1 ⟨rfl,d⟩
 have z:=aa d
 clear Q d
 go_wp2_with fail
 refine(uH U _ ((uH HT).all (uH z))).mono ?_
 rintro e u ⟨⟨v,rfl,hv⟩,d⟩
 obtain⟨G,H,J,l,rfl,Z⟩:=hv
 have h:Below u.heap.size u (u.alloc (.cells #[.bool G,.slice H l.length J,.int .i64 X] 41)):=(Below.refl _ _).alloc (Nat.le_refl _) _
 have Y:=aa ((show aC u (.agg #[.bool G,.slice H l.length J,.int .i64 X]) D X from⟨G,H,J,l,rfl,Z⟩).below h)
 have K:=aa ((uH z).trans ((d.trans (h.mono d.size)).mono (uH z).size))
 have F:=ay.new u (.bool G) (.slice H l.length J) (.int .i64 X)
 have z0:=F.c0;have z1:=F.c1;have z2:=F.c2
 clear Z d h U F z
 generalize l.length=l2 at*
 go_wp2_with fail
 refine(uH V _ _ (uH Y)).mono ?_
 rintro e w3 ⟨rfl,d⟩
 have B3:=aa ((uH K).trans (d.mono (uH K).size))
 clear d V K z0 z1 z2 Y
 go_wp2
 go_ret
 exact⟨rfl,uH B3⟩
theorem DN{v:Nat}(h:v<9007199254740992):bl v≤53:=by
 by_cases d:v=0
 ·subst d;decide
 ·obtain⟨l,f,u⟩:=aU v d
  have:=cf (Nat.lt_of_le_of_lt f (by rw[yB];exact h))
  omega
theorem H8{w:World}{v:Value}{D X:Int}(d:aC w v D X)(l:D%2=1)(u:D.natAbs<9007199254740992)(L:-1074≤X∧X≤1024):
  Calls Tryz.prog 208 #[v] w fun r w'=>r=.returned (.int .i64 ((bl D.natAbs:Int)+X))∧Below w.heap.size w w':=by
 obtain⟨f,F,G,A,rfl,h,H,J,O,K⟩:=d.right (cS _ (by omega))
 have:=j4 f F G A X w h (by omega)
 have M:jS f A X=true:=K.trans (qH l (by omega))
 have d:ai A=D.natAbs:=by rw[←J,aM]
 have z:=ig h.2.1 H
 have N:bl D.natAbs≤53:=DN u
 rw[z,d,aW _ (by omega)]at this
 exact this
def eX(a:Nat):Int:=if fK a=4∨fK a=3∨fK a=0 then 0 else(bl (fD a).natAbs:Int)+fX a-1
theorem sE(a:Nat)(w:World)(d:a<18446744073709551616)(u:bT w):
  Calls Tryz.prog 153 #[.int .u64 a] w fun r w'=>r=.returned (.int .i64 (eX a))∧Below w.heap.size w w':=by
 have f:=fun w'=>cR a w' d
 unfold eX
 by_cases h:fK a=4∨fK a=3∨fK a=0
 ·rw[if_pos h]
  exact H6 a _ w h f
 ·rw[if_neg h]
  have l:=aY a (by omega) (by omega)
  obtain⟨z1,z2,D,F,G,H,J,K,L⟩:=f8 a d l (by omega)
  exact H7 a _ (fD a) (fX a) _ w (by simp;omega) (by simp;omega) (by simp;omega) (by omega) u f (fun w' t=>df a w' d l t) (fun w' v z=>H8 z z1 z2 (by omega))
end Go.Proofs.YtdhmglmccafbnaaGreatDoor
