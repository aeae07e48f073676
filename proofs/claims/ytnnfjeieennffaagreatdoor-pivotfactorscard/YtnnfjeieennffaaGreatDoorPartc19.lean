/- Part 19 of the texts. -/
import Derived.Test.YtnnfjeieennffaaGreatDoorPartc18
set_option maxHeartbeats 4000000
set_option maxRecDepth 20000
namespace Go.Proofs.YtnnfjeieennffaaGreatDoor
open Go.RowKit
theorem sL(a:Nat)(h:fS a=false)(d:a<18446744073709551616):fR a=a:=by
 have:=of_decide_eq_false h
 unfold fR;omega
theorem pU(a:Nat)(h:fS a=true)(d:a<18446744073709551616):fR a=fN a:=by
 have:=of_decide_eq_true h
 unfold fR fN;rw[if_pos this];omega
theorem sM(a:Nat)(w:World)(f:a<18446744073709551616):
  Calls Tryz.prog 90 #[.int .u64 a] w fun e w'=>e=.returned (.int .u64 (fR a:Nat))∧Below w.heap.size w w':=by
 have h:=aa (fun w'=>d6 a w' f)
 have l:=aa (fun w'=>gg a w' f)
 cases hs:fS a
 ·rw[hs]at h
  rw[sL a hs f]
  clear hs f l
  go_enter Tryz.func90,Tryz.ntmps90
  go_wp2_with fail
  refine(uH h _).mono ?_
  rintro e m ⟨rfl,d⟩
  clear h
  go_wp2
  go_ret
  exact⟨rfl,d⟩
 ·rw[hs]at h
  rw[pU a hs f]
  clear hs f
  generalize fN a=q at*
  go_enter Tryz.func90,Tryz.ntmps90
  go_wp2_with fail
  refine(uH h _).mono ?_
  rintro e m ⟨rfl,d⟩
  clear h
  go_wp2_with fail
  refine(uH l _).mono ?_
  rintro e t ⟨rfl,rfl⟩
  clear l
  go_wp2
  go_ret
  exact⟨rfl,d⟩
def pl(a:Nat):Int:=if fS a=true then-(fR a:Int)else(fR a:Int)
theorem Aw(a r:Nat)(s:Bool)(w:World)(G:r<9223372036854775808)
  (z:∀w',Calls Tryz.prog 90 #[.int .u64 a] w' fun e f=>e=.returned (.int .u64 (r:Nat))∧Below w'.heap.size w' f)
  (A:∀w',Calls Tryz.prog 131 #[.int .u64 a] w' fun e f=>e=.returned (.bool s)∧Below w'.heap.size w' f):
  Calls Tryz.prog 129 #[.int .u64 a] w fun e w'=>e=.returned (.int .i64 (if s=true then-(r:Int)else(r:Int)))∧Below w.heap.size w w':=by
 have l:=aa z;have m:=aa A
 have H:IntKind.i64.wrap (r:Int)=(r:Int):=by simp only[IntKind.wrap_i64];omega
 have K:IntKind.i64.wrap (-(r:Int))= -(r:Int):=by simp only[IntKind.wrap_i64];omega
 clear z A
 cases s
 ·go_enter Tryz.func129,Tryz.ntmps129
  go_wp2_with fail
  refine(uH l _).mono ?_
  rintro e D ⟨rfl,d⟩
  have h:=aa d
  clear l d
  go_wp2_with fail
  refine(uH m _).mono ?_
  rintro e F ⟨rfl,d⟩
  have t:=aa ((uH h).trans (d.mono (uH h).size))
  clear m d
  go_wp2
  go_ret
  exact⟨rfl,uH t⟩
 ·go_enter Tryz.func129,Tryz.ntmps129
  go_wp2_with fail
  refine(uH l _).mono ?_
  rintro e D ⟨rfl,d⟩
  have h:=aa d
  clear l d
  go_wp2_with fail
  refine(uH m _).mono ?_
  rintro e F ⟨rfl,d⟩
  have t:=aa ((uH h).trans (d.mono (uH h).size))
  clear m d
  go_wp2
  go_ret
  exact⟨rfl,uH t⟩
theorem pV(a:Nat)(w:World)(d:a<18446744073709551616):
  Calls Tryz.prog 129 #[.int .u64 a] w fun e w'=>e=.returned (.int .i64 (pl a))∧Below w.heap.size w w':=
 Aw a (fR a) (fS a) w (jF a) (fun w'=>sM a w' d) (fun w'=>d6 a w' d)
theorem jS(a:Int)(w:World):Calls Tryz.prog 155 #[.int .i64 a] w fun e w'=>e=.returned (.bool false)∧w=w':=by
 go_enter Tryz.func155,Tryz.ntmps155
 go_wp2
 go_ret
 exact⟨rfl,rfl⟩
theorem Ax(a b:Int)(w:World):Calls Tryz.prog 128 #[.int .i64 a,.int .i64 b] w fun e w'=>e=.returned (.int .i64 (bs a b))∧w=w':=by
 have d:Hid (bs a b=if a<b then-1 else if b<a then 1 else 0):=rfl
 generalize bs a b=c at*
 rcases(show a<b∨b<a∨a=b by omega)with h|h|h
 ·go_enter Tryz.func128,Tryz.ntmps128
  go_wp2_with(go_at_call 155;refine(jS _ _).mono ?_;rintro e w' ⟨rfl,rfl⟩)
  go_ret
  exact⟨aM (by rw[d.out];simp[h]),rfl⟩
 ·have f:¬a<b:=by omega
  go_enter Tryz.func128,Tryz.ntmps128
  go_wp2_with(go_at_call 155;refine(jS _ _).mono ?_;rintro e w' ⟨rfl,rfl⟩)
  go_ret
  exact⟨aM (by rw[d.out];simp[h,f]),rfl⟩
 ·subst h
  go_enter Tryz.func128,Tryz.ntmps128
  go_wp2_with(go_at_call 155;refine(jS _ _).mono ?_;rintro e w' ⟨rfl,rfl⟩)
  go_ret
  exact⟨aM (by rw[d.out];simp),rfl⟩
def cO(a b:Nat):Int:=if fK a=4∨fK b=4 then 0 else bs (fZ a) (fZ b)
def cB(a b:Nat):Bool:=if fK a=4∨fK b=4 then false else true
theorem jT{r s:Nat}(h:r<s):rv r<rv s:=Nat.lt_of_lt_of_le (qu r) (kg h)
theorem uO{r:Nat}(h:0<r):0<rv r:=by have:=jT h;rw[dR]at this;exact this
theorem g9{a b:Int}(h:a<b):bs a b= -1:=by unfold bs;rw[if_pos h]
theorem ia{a b:Int}(h:b<a):bs a b=1:=by unfold bs;rw[if_neg (by omega),if_pos h]
theorem iY{a b:Int}(h:a=b):bs a b=0:=by unfold bs;rw[if_neg (by omega),if_neg (by omega)]
theorem sO{n m:Bool}{r s:Nat}(h:(if n=true then-(r:Int)else(r:Int))<(if m=true then-(s:Int)else(s:Int))):pv n r<pv m s:=by
 have z:rv 0=0:=dR
 have d:r<s→rv r<rv s:=jT
 have f:s<r→rv s<rv r:=jT
 have l:0<r→0<rv r:=uO
 have p2:0<s→0<rv s:=uO
 unfold pv
 cases n<;>cases m<;>simp only[if_true,if_false,Bool.false_eq_true]at h⊢<;>omega
theorem GT(a b:Nat):bs (pl a) (pl b)=bs (fZ a) (fZ b):=by
 have d:pl a<pl b→fZ a<fZ b:=fun h=>sO h
 have f:pl b<pl a→fZ b<fZ a:=fun h=>sO h
 rcases(show pl a<pl b∨pl b<pl a∨pl a=pl b by omega)with h|h|h
 ·rw[g9 h,g9 (d h)]
 ·rw[ia h,ia (f h)]
 ·have l:fZ a=fZ b:=by
   unfold pl at h
   unfold fZ pv
   cases ha:fS a<;>cases hb:fS b<;>rw[ha,hb]at h<;>simp only[if_true,if_false,Bool.false_eq_true]at h⊢
   ·rw[show fR a=fR b by omega]
   ·rw[show fR a=0 by omega,show fR b=0 by omega,dR];rfl
   ·rw[show fR a=0 by omega,show fR b=0 by omega,dR];rfl
   ·rw[show fR a=fR b by omega]
  rw[iY h,iY l]
theorem Ay(a b:Nat)(w:World)
  (h:∀w',Calls Tryz.prog 113 #[.int .u64 a] w' fun r d=>r=.returned (.int .i64 4)∧Below w'.heap.size w' d):
  Calls Tryz.prog 88 #[.int .u64 a,.int .u64 b] w fun r w'=>r=.returned (.tuple #[.int .i64 0,.bool false])∧Below w.heap.size w w':=by
 have l:=aa h
 clear h
 go_enter Tryz.func88,Tryz.ntmps88
 go_wp2_with fail
 refine(uH l _).mono ?_
 rintro e m ⟨rfl,f⟩
 clear l
 go_wp2
 exact bodyPost_ret (v:=.tuple #[.int .i64 0,.bool false]) (by simp[results,Tryz.results88,go_sem]) rfl ⟨rfl,f⟩
theorem Az(a b:Nat)(h:Int)(w:World)(F:(h==4)=false)
  (l:∀w',Calls Tryz.prog 113 #[.int .u64 a] w' fun r f=>r=.returned (.int .i64 h)∧Below w'.heap.size w' f)
  (m:∀w',Calls Tryz.prog 113 #[.int .u64 b] w' fun r f=>r=.returned (.int .i64 4)∧Below w'.heap.size w' f):
  Calls Tryz.prog 88 #[.int .u64 a,.int .u64 b] w fun r w'=>r=.returned (.tuple #[.int .i64 0,.bool false])∧Below w.heap.size w w':=by
 have t:=aa l;have z:=aa m
 clear l m
 go_enter Tryz.func88,Tryz.ntmps88
 go_wp2_with fail
 refine(uH t _).mono ?_
 rintro e G ⟨rfl,d⟩
 clear t
 have A:=aa d
 clear d
 go_wp2_with fail
 refine(uH z _).mono ?_
 rintro e H ⟨rfl,d⟩
 have D:=aa ((uH A).trans (d.mono (uH A).size))
 clear d z
 go_wp2
 exact bodyPost_ret (v:=.tuple #[.int .i64 0,.bool false]) (by simp[results,Tryz.results88,go_sem]) rfl ⟨rfl,uH D⟩
theorem Ep(a b:Nat)(h l x y o:Int)(w:World)(U:(h==4)=false)(V:(l==4)=false)
  (m:∀w',Calls Tryz.prog 113 #[.int .u64 a] w' fun r f=>r=.returned (.int .i64 h)∧Below w'.heap.size w' f)
  (t:∀w',Calls Tryz.prog 113 #[.int .u64 b] w' fun r f=>r=.returned (.int .i64 l)∧Below w'.heap.size w' f)
  (z:∀w',Calls Tryz.prog 129 #[.int .u64 a] w' fun r f=>r=.returned (.int .i64 x)∧Below w'.heap.size w' f)
  (A:∀w',Calls Tryz.prog 129 #[.int .u64 b] w' fun r f=>r=.returned (.int .i64 y)∧Below w'.heap.size w' f)
  (D:∀w',Calls Tryz.prog 128 #[.int .i64 x,.int .i64 y] w' fun r f=>r=.returned (.int .i64 o)∧w'=f):
  Calls Tryz.prog 88 #[.int .u64 a,.int .u64 b] w fun r w'=>r=.returned (.tuple #[.int .i64 o,.bool true])∧Below w.heap.size w w':=by
 have F:=aa m;have G:=aa t;have H:=aa z;have K:=aa A;have L:=aa D
 clear m t z A D
 go_enter Tryz.func88,Tryz.ntmps88
 go_wp2_with fail
 refine(uH F _).mono ?_
 rintro e X ⟨rfl,d⟩
 have M:=aa d
 clear d F
 go_wp2_with fail
 refine(uH G _).mono ?_
 rintro e Y ⟨rfl,d⟩
 have N:=aa ((uH M).trans (d.mono (uH M).size))
 clear d G
 go_wp2_with fail
 refine(uH H _).mono ?_
 rintro e Z ⟨rfl,d⟩
 have O:=aa ((uH N).trans (d.mono (uH N).size))
 clear d H
 go_wp2_with fail
 refine(uH K _).mono ?_
 rintro e w4 ⟨rfl,d⟩
 have Q:=aa ((uH O).trans (d.mono (uH O).size))
 clear d K
 go_wp2_with fail
 refine(uH L _).mono ?_
 rintro e w5 ⟨rfl,rfl⟩
 clear L
 go_wp2
 exact bodyPost_ret (v:=.tuple #[.int .i64 o,.bool true]) (by simp[results,Tryz.results88,go_sem]) rfl ⟨rfl,uH Q⟩
theorem nL(a b:Nat)(w:World)(t:a<18446744073709551616)(z:b<18446744073709551616):
  Calls Tryz.prog 88 #[.int .u64 a,.int .u64 b] w fun r w'=>r=.returned (.tuple #[.int .i64 (cO a b),.bool (cB a b)])∧Below w.heap.size w w':=by
 have l:=fun w'=>cF a w' t
 have m:=fun w'=>cF b w' z
 unfold cO cB
 by_cases d:fK a=4
 ·rw[if_pos (Or.inl d),if_pos (Or.inl d)]
  rw[d]at l
  exact Ay a b w l
 by_cases f:fK b=4
 ·rw[if_pos (Or.inr f),if_pos (Or.inr f)]
  rw[f]at m
  exact Az a b _ w (by simp[d]) l m
 have h:¬(fK a=4∨fK b=4):=fun h=>h.elim d f
 rw[if_neg h,if_neg h,←GT]
 exact Ep a b _ _ _ _ _ w (by simp[d]) (by simp[f]) l m (fun w'=>pV a w' t) (fun w'=>pV b w' z) (fun w'=>Ax _ _ w')
theorem mK(a b:Nat)(o:Int)(t l q:Bool)(w:World)(z:(o=0∧t=false∧l=false∧q=false)∨(o= -1∧t=true∧l=true∧q=false)∨(o=0∧t=true∧l=false∧q=true)∨(o=1∧t=true∧l=false∧q=false))
  (h:∀w',Calls Tryz.prog 88 #[.int .u64 a,.int .u64 b] w' fun r d=>r=.returned (.tuple #[.int .i64 o,.bool t])∧Below w'.heap.size w' d):
  Calls Tryz.prog 44 #[.int .u64 a,.int .u64 b] w fun r w'=>r=.returned (.bool l)∧Below w.heap.size w w':=by
 have m:=aa h
 clear h
 rcases z with⟨rfl,rfl,rfl,rfl⟩|⟨rfl,rfl,rfl,rfl⟩|⟨rfl,rfl,rfl,rfl⟩|⟨rfl,rfl,rfl,rfl⟩
 all_goals
  go_enter Tryz.func44,Tryz.ntmps44
  go_wp2_with fail
  refine(uH m _).mono ?_
  rintro e A ⟨rfl,f⟩
  clear m
  go_wp2
  go_ret
  exact⟨rfl,f⟩
def cM(a b:Nat)(l t:Bool):Nat:=if t=false then 9221120237041090560 else if l=true then b else a
theorem GU(a b:Nat)(o:Int)(t l q:Bool)(w:World)(z:(o=0∧t=false∧l=false∧q=false)∨(o= -1∧t=true∧l=true∧q=false)∨(o=0∧t=true∧l=false∧q=true)∨(o=1∧t=true∧l=false∧q=false))
  (h:∀w',Calls Tryz.prog 88 #[.int .u64 a,.int .u64 b] w' fun r d=>r=.returned (.tuple #[.int .i64 o,.bool t])∧Below w'.heap.size w' d):
  Calls Tryz.prog 166 #[.int .u64 a,.int .u64 b] w fun r w'=>r=.returned (.int .u64 (cM a b l t:Nat))∧Below w.heap.size w w':=by
 have m:=aa h
 clear h
 unfold cM
 rcases z with⟨rfl,rfl,rfl,rfl⟩|⟨rfl,rfl,rfl,rfl⟩|⟨rfl,rfl,rfl,rfl⟩|⟨rfl,rfl,rfl,rfl⟩
 all_goals
  simp only[if_true,if_false,Bool.false_eq_true,Bool.true_eq_false]
  go_enter Tryz.func166,Tryz.ntmps166
  go_wp2_with fail
  refine(uH m _).mono ?_
  rintro e A ⟨rfl,f⟩
  clear m
  go_wp2
  go_ret
  exact⟨rfl,f⟩
theorem Er(a b:Nat)(o:Int)(t l q:Bool)(w:World)(z:(o=0∧t=false∧l=false∧q=false)∨(o= -1∧t=true∧l=true∧q=false)∨(o=0∧t=true∧l=false∧q=true)∨(o=1∧t=true∧l=false∧q=false))
  (h:∀w',Calls Tryz.prog 91 #[.int .u64 a,.int .u64 b] w' fun r d=>r=.returned (.tuple #[.int .i64 o,.bool t])∧Below w'.heap.size w' d):
  Calls Tryz.prog 153 #[.int .u64 a,.int .u64 b] w fun r w'=>r=.returned (.int .u64 (cM a b l t:Nat))∧Below w.heap.size w w':=by
 have m:=aa h
 clear h
 unfold cM
 rcases z with⟨rfl,rfl,rfl,rfl⟩|⟨rfl,rfl,rfl,rfl⟩|⟨rfl,rfl,rfl,rfl⟩|⟨rfl,rfl,rfl,rfl⟩
 all_goals
  simp only[if_true,if_false,Bool.false_eq_true,Bool.true_eq_false]
  go_enter Tryz.func153,Tryz.ntmps153
  go_wp2_with fail
  refine(uH m _).mono ?_
  rintro e A ⟨rfl,f⟩
  clear m
  go_wp2
  go_ret
  exact⟨rfl,f⟩
end Go.Proofs.YtnnfjeieennffaaGreatDoor
namespace Go.Proofs.YtnnfjeieennffaaGreatDoor
def cD(N d:Nat):Nat:=2*(N/d)+(if N%d=0 then 0 else 1)
def AA(N D:Nat):Nat:=N/D+(if D<2*(N%D)∨(D=2*(N%D)∧N/D%2=1)then 1 else 0)
theorem uP(N D i:Nat):AA (N*2^i) (D*2^i)=AA N D:=by
 have d:0<2^i:=Nat.two_pow_pos _
 unfold AA
 rw[Nat.mul_div_mul_right _ _ d,Nat.mul_mod_mul_right]
 have f:(D*2^i<2*(N%D*2^i))↔D<2*(N%D):=by
  rw[←Nat.mul_assoc];exact Nat.mul_lt_mul_right d
 have l:(D*2^i=2*(N%D*2^i))↔D=2*(N%D):=by
  rw[←Nat.mul_assoc];exact⟨fun h=>Nat.eq_of_mul_eq_mul_right d h,fun h=>by rw[←h]⟩
 simp only[f,l]
theorem wC(N d k:Nat)(F:0<d)(O:1≤k):cK (cD N d) (k+1)=AA N (d*2^k):=by
 obtain⟨j,rfl⟩:∃j,k=j+1:=⟨k-1,by omega⟩
 have Q:=Nat.div_add_mod N d
 have U:=Nat.mod_lt N F
 have V:0<2^j:=Nat.two_pow_pos _
 have m:(2:Nat)^(j+1)=2*2^j:=by rw[Nat.pow_succ,Nat.mul_comm]
 have G:(2:Nat)^(j+1+1)=2*(2*2^j):=by rw[Nat.pow_succ,m,Nat.mul_comm]
 have X:(if N%d=0 then 0 else 1)≤1:=by split<;>omega
 have f:(if N%d=0 then 0 else 1)=0↔N%d=0:=by split<;>simp_all
 unfold cK AA cD
 rw[G,m]
 generalize (2:Nat)^j=g at*
 generalize (if N%d=0 then 0 else 1)=t at*
 have z:=Nat.div_add_mod (N/d) (2*g)
 have Y:=Nat.mod_lt (N/d) (show 0<2*g by omega)
 have H:N/(d*(2*g))=N/d/(2*g):=(Nat.div_div_eq_div_mul N d (2*g)).symm
 have K:N%(d*(2*g))=d*(N/d%(2*g))+N%d:=by
  rw[Nat.mod_mul];omega
 rw[H,K]
 generalize N%d=r at*
 generalize N/d=q at*
 generalize Z:q%(2*g)=a at*
 generalize hQ:q/(2*g)=b at*
 have L:(2*q+t)/(2*(2*g))=b:=by
  rw[←z,Nat.mul_add,←Nat.mul_assoc 2 (2*g) b,Nat.add_assoc]
  rw[Nat.mul_add_div (by omega),Nat.div_eq_of_lt (by omega),Nat.add_zero]
 have M:(2*q+t)%(2*(2*g))=2*a+t:=by
  rw[←z,Nat.mul_add,←Nat.mul_assoc 2 (2*g) b,Nat.add_assoc,Nat.mul_add_mod,Nat.mod_eq_of_lt (by omega)]
 rw[L,M]
 congr 1
 --where a stands beside half
 rcases Nat.lt_trichotomy a g with h|h|h
 ·have:d*a+d≤d*g:=by rw[←Nat.mul_succ];exact Nat.mul_le_mul_left d h
  have l:d*(2*g)=2*(d*g):=by rw[Nat.mul_left_comm]
  rw[l]
  rw[if_neg (by omega),if_neg (by omega)]
 ·subst h
  have l:d*(2*a)=2*(d*a):=by rw[Nat.mul_left_comm]
  rw[l]
  by_cases A:r=0
  ·have:=f.2 A
   by_cases D:b%2=1
   ·rw[if_pos (Or.inr ⟨by omega,D⟩),if_pos (Or.inr ⟨by omega,D⟩)]
   ·rw[if_neg (by omega),if_neg (by omega)]
  ·have:t≠0:=fun e=>A (f.1 e)
   rw[if_pos (Or.inl (by omega)),if_pos (Or.inl (by omega))]
 ·have:d*g+d≤d*a:=by rw[←Nat.mul_succ];exact Nat.mul_le_mul_left d h
  have l:d*(2*g)=2*(d*g):=by rw[Nat.mul_left_comm]
  rw[l]
  rw[if_pos (Or.inl (by omega)),if_pos (Or.inl (by omega))]
theorem GV(N d i:Nat)(f:0<d)(O:0<N/d):bl (cD (N*2^i) d)=bl (cD N d)+i:=by
 have t:0<2^i:=Nat.two_pow_pos _
 have z:cD N d≠0:=by unfold cD;omega
 obtain⟨X,m,l⟩:=aY (cD N d) z
 have Q:2≤cD N d:=by unfold cD;omega
 have A:2≤bl (cD N d):=by
  rcases Nat.lt_or_ge (bl (cD N d)) 2 with h|h
  ·have:bl (cD N d)=1:=by omega
   rw[this]at l;omega
  ·exact h
 obtain⟨c,M⟩:∃c,bl (cD N d)=c+2:=⟨bl (cD N d)-2,by omega⟩
 rw[M]at m l⊢
 --of whole quotients:2^c≤N/d<2^(c+1)
 have D:2^(c+1)≤N/d*2:=by
  rw[show c+2-1=c+1 by omega,Nat.pow_succ]at m
  unfold cD at m
  rw[Nat.pow_succ]
  have F:(if N%d=0 then 0 else 1)≤1:=by split<;>omega
  omega
 have G:N/d<2^(c+1):=by
  rw[Nat.pow_succ]at l
  unfold cD at l
  omega
 have H:2^c≤N/d:=by rw[Nat.pow_succ]at D;omega
 have K:2^c*d≤N:=(Nat.le_div_iff_mul_le f).1 H
 have L:N<2^(c+1)*d:=(Nat.div_lt_iff_lt_mul f).1 G
 have U:2^(c+i)≤N*2^i/d:=(Nat.le_div_iff_mul_le f).2 (by
  rw[Nat.pow_add,Nat.mul_right_comm];exact Nat.mul_le_mul_right _ K)
 have V:N*2^i/d<2^(c+1+i):=(Nat.div_lt_iff_lt_mul f).2 (by
  rw[Nat.pow_add,Nat.mul_right_comm];exact(Nat.mul_lt_mul_right t).2 L)
 refine ke (by omega) ?_ ?_
 ·rw[show c+2+i-1=c+i+1 by omega,Nat.pow_succ]
  unfold cD
  omega
 ·rw[show c+2+i=c+1+i+1 by omega,Nat.pow_succ]
  unfold cD
  have F:(if N*2^i%d=0 then 0 else 1)≤1:=by split<;>omega
  omega
theorem Es{N d:Nat}(m:9007199254740992≤N/d):55≤bl (cD N d):=by
 have f:cD N d≠0:=by unfold cD;omega
 obtain⟨t,z,l⟩:=aY (cD N d) f
 have h:2^54≤cD N d:=by
  have:(2:Nat)^54=2*9007199254740992:=by decide
  rw[this];unfold cD;omega
 have:=ch (Nat.lt_of_le_of_lt h l)
 omega
theorem kw(N d i:Nat)(E:Int)(l:0<d)(A:9007199254740992≤N/d):
  bw (cD (N*2^i) d) (E-i)=bw (cD N d) E∧av (cD (N*2^i) d) (E-i)=av (cD N d) E∧(bl (cD (N*2^i) d):Int)+(E-i)=(bl (cD N d):Int)+E∧E+2≤av (cD N d) E:=by
 have m:=GV N d i l (by omega)
 have D:=Es A
 have F:cD N d≠0:=by unfold cD;omega
 have t:cD (N*2^i) d≠0:=fun h=>by
  rw[h]at m
  have:bl 0=0:=rfl
  omega
 have z:av (cD (N*2^i) d) (E-i)=av (cD N d) E:=by unfold av;rw[m];omega
 have f:(bl (cD (N*2^i) d):Int)+(E-i)=(bl (cD N d):Int)+E:=by rw[m];omega
 have G:E+2≤av (cD N d) E:=by have:=(bW (cD N d) E).2.1;omega
 refine⟨?_,z,f,G⟩
 have H:cV (cD (N*2^i) d) (E-i)=cV (cD N d) E:=by
  unfold cV
  rw[z]
  obtain⟨k,K⟩:∃k:Nat,av (cD N d) E=E+k+1∧1≤k:=⟨(av (cD N d) E-E-1).toNat,by omega,by omega⟩
  rw[show E-i-av (cD N d) E= -((k+i+1:Nat):Int) by omega,show E-av (cD N d) E= -((k+1:Nat):Int) by omega]
  rw[cZ _ _ (by omega),cZ _ _ (by omega),wC _ _ _ l (by omega),wC _ _ _ l (by omega)]
  rw[Nat.pow_add,←Nat.mul_assoc]
  exact uP _ _ _
 unfold bw
 rw[if_neg F,if_neg t,f,H,z]
theorem sP(N d i:Nat)(E:Int)(Z:d%2=1)(G:9007199254740992≤N/d):
  bF (oM (cD (N*2^i) d:Nat)).natAbs (oE (cD (N*2^i) d:Nat) (E-i))=bF (oM (cD N d:Nat)).natAbs (oE (cD N d:Nat) E):=by
 have f:0<d:=by omega
 obtain⟨V,X,Y,s4⟩:=kw N d i E f G
 by_cases l:N%d=0
 ·have H:N=N/d*d:=by have:=Nat.div_add_mod N d;rw[l,Nat.add_zero,Nat.mul_comm]at this;exact this.symm
  have t:N*2^i%d=0:=by rw[Nat.mul_mod,l];simp
  have K:N*2^i/d=N/d*2^i:=by
   conv=>lhs;rw[H,Nat.mul_right_comm]
   exact Nat.mul_div_cancel _ f
  have e:cD (N*2^i) d=cD N d*2^i:=by
   unfold cD;rw[if_pos l,if_pos t,K];rw[Nat.add_zero,Nat.add_zero,Nat.mul_assoc]
  have L:((cD (N*2^i) d:Nat):Int)=((cD N d:Nat):Int)*2^i:=by rw[e,Int.natCast_mul,Int.natCast_pow];rfl
  have:=kt ((cD N d:Nat):Int) i (E-i)
  rw[L,this.1,this.2,show E-(i:Int)+i=E by omega]
 ·have t:N*2^i%d≠0:=fun h=>l (by
   have z:d∣N*2^i:=Nat.dvd_of_mod_eq_zero h
   have M:Nat.Coprime d (2^i):=by
    apply Nat.Coprime.pow_right
    unfold Nat.Coprime
    have A:Nat.gcd d 2∣2:=Nat.gcd_dvd_right d 2
    have O:Nat.gcd d 2∣d:=Nat.gcd_dvd_left d 2
    have h6:Nat.gcd d 2≤2:=Nat.le_of_dvd (by decide) A
    have h7:Nat.gcd d 2≠0:=fun e=>by rw[e]at A;exact absurd (Nat.eq_zero_of_zero_dvd A) (by decide)
    have h8:Nat.gcd d 2≠2:=fun e=>by rw[e]at O;omega
    omega
   exact Nat.mod_eq_zero_of_dvd (M.dvd_of_dvd_mul_right z))
  have D:((cD N d:Nat):Int)%2=1:=by unfold cD;rw[if_neg l];omega
  have F:((cD (N*2^i) d:Nat):Int)%2=1:=by unfold cD;rw[if_neg t];omega
  have z1:∀(v:Nat) (e:Int),(v:Int)%2=1→oM (v:Int)=v∧oE (v:Int) e=e:=fun v e h=>by
   have m:(v:Int)≠0:=by omega
   have a:=(fL (v:Int) m).unique (m':=(v:Int)) (k':=0) ⟨by simp,h⟩
   exact⟨a.1,by rw[dJ _ _ m,a.2];simp⟩
  rw[(z1 _ (E-i) F).1,(z1 _ (E-i) F).2,(z1 _ E D).1,(z1 _ E D).2,Int.natAbs_natCast,Int.natAbs_natCast]
  have Q:cD N d≠0:=by omega
  have U:cD (N*2^i) d≠0:=by omega
  unfold bF
  rw[if_neg Q,if_neg U,Y,X,V,if_neg (show¬av (cD N d) E≤E-i by omega),if_neg (show¬av (cD N d) E≤E by omega)]
theorem wD(n d p q:Nat)(c:Int)(h:0<d)(m:9007199254740992≤n*2^p/d)(t:9007199254740992≤n*2^q/d):
  bw (cD (n*2^p) d) (c-p)=bw (cD (n*2^q) d) (c-q):=by
 have l:=(kw (n*2^p) d q (c-p) h m).1
 have f:=(kw (n*2^q) d p (c-q) h t).1
 rw[Nat.mul_assoc,←Nat.pow_add]at l f
 rw[Nat.add_comm q p,show c-(q:Int)-p=c-p-q by omega]at f
 rw[←l,←f]
theorem qJ(n d p q:Nat)(c:Int)(h:d%2=1)(m:9007199254740992≤n*2^p/d)(t:9007199254740992≤n*2^q/d):
  bF (oM (cD (n*2^p) d:Nat)).natAbs (oE (cD (n*2^p) d:Nat) (c-p))=bF (oM (cD (n*2^q) d:Nat)).natAbs (oE (cD (n*2^q) d:Nat) (c-q)):=by
 have l:=sP (n*2^p) d q (c-p) h m
 have f:=sP (n*2^q) d p (c-q) h t
 rw[Nat.mul_assoc,←Nat.pow_add]at l f
 rw[Nat.add_comm q p,show c-(q:Int)-p=c-p-q by omega]at f
 rw[←l,←f]
theorem nM(N d c:Nat):cD (N*2^c) (d*2^c)=cD N d:=by
 have f:0<2^c:=Nat.two_pow_pos _
 unfold cD
 rw[Nat.mul_div_mul_right _ _ f,Nat.mul_mod_mul_right]
 have:N%d*2^c=0↔N%d=0:=by
  constructor
  ·intro h;rcases Nat.mul_eq_zero.1 h with h|h<;>omega
  ·intro h;rw[h,Nat.zero_mul]
 simp only[this]
open Go.RowKit
theorem jU(r:Nat):rv r=0↔r=0:=by
 constructor
 ·intro h
  rcases Nat.eq_zero_or_pos r with e|e
  ·exact e
  ·have:=sI e;rw[dR]at this;omega
 ·intro h;rw[h,dR]
theorem aS(b:Nat):fK b=0↔fR b=0:=by
 have h:=jF b
 have hF:fF b=fR b%4503599627370496:=by unfold fF fR;omega
 have d:fP b=fR b/4503599627370496:=rfl
 unfold fK
 rw[hF,d]
 generalize fR b=r at*
 split
 ·split<;>constructor<;>intro _<;>omega
 ·split
  ·split<;>constructor<;>intro _<;>omega
  ·constructor<;>intro _<;>omega
def mV(a b:Nat):Nat:=
 if fK a=4∨fK b=4 then 9221120237041090560
 else if fK a=3∨fK b=3 then(if fK a=0∨fK b=0 then 9221120237041090560 else bZ (fS a^^fS b) 9218868437227405312)
 else bZ (fS a^^fS b) (bw (rv (fR a)*rv (fR b)) (-2148))
def mF(a b:Nat):Int:=
 if fK a=4∨fK b=4 then 0
 else if fK a=3∨fK b=3 then(if fK a=0∨fK b=0 then 16 else 0)
 else if fK a=0∨fK b=0 then 0
 else bF (oM (fZ a*fZ b)).natAbs (oE (fZ a*fZ b) (-2148))
def mN(a b:Nat):Bool:=decide ((fK a=4∨fK b=4)∨((fK a=3∨fK b=3)∧(fK a=0∨fK b=0)))
theorem iZ(a b:Nat):mV a b<18446744073709551616:=by
 have h:=cN (rv (fR a)*rv (fR b)) (-2148)
 unfold mV
 split
 ·omega
 ·split
  ·split
   ·omega
   ·exact ez _ _ (by omega)
  ·exact ez _ _ (by omega)
theorem yg(a b:Nat):mV a b=mV b a∧mF a b=mF b a:=by
 have d:(fK a=4∨fK b=4)↔(fK b=4∨fK a=4):=Or.comm
 have f:(fK a=3∨fK b=3)↔(fK b=3∨fK a=3):=Or.comm
 have h:(fK a=0∨fK b=0)↔(fK b=0∨fK a=0):=Or.comm
 unfold mV mF
 rw[Bool.xor_comm (fS b) (fS a),Nat.mul_comm (rv (fR b)),Int.mul_comm (fZ b)]
 simp only[d,f,h,and_self]
theorem cw{m k r:Nat}(h:m*2^k=rv r):m=0↔r=0:=by
 have d:0<2^k:=Nat.two_pow_pos _
 rw[←jU r,←h]
 constructor
 ·intro e;rw[e,Nat.zero_mul]
 ·intro e;rcases Nat.mul_eq_zero.1 e with e|e<;>omega
theorem pW(a b:Nat)(l:a<18446744073709551616)(t:b<18446744073709551616)(h:mN a b=true):Ieee.double.mul a b=none∧mV a b=9221120237041090560:=by
 unfold Ieee.Format.mul
 rcases of_decide_eq_true h with(h|h)|⟨d,F⟩
 ·obtain⟨s,f,e⟩:=dL a l h
  refine⟨by rw[e];rfl,?_⟩
  unfold mV;rw[if_pos (Or.inl h)]
 ·obtain⟨s,f,e⟩:=dL b t h
  refine⟨?_,?_⟩
  ·rw[e];cases Ieee.double.read a<;>rfl
  ·unfold mV;rw[if_pos (Or.inr h)]
 ·refine⟨?_,?_⟩
  ·rcases d with d|d
   ·have z:fK b=0:=by rcases F with h|h<;>omega
    obtain⟨m,k,e,D⟩:=bX b t (bf b (by omega) (by omega))
    have:m=0:=(cw D).2 ((aS b).1 z)
    rw[bT a l d,e,this];rfl
   ·have A:fK a=0:=by rcases F with h|h<;>omega
    obtain⟨m,k,e,D⟩:=bX a l (bf a (by omega) (by omega))
    have:m=0:=(cw D).2 ((aS a).1 A)
    rw[bT b t d,e,this];rfl
  ·unfold mV
   by_cases G:fK a=4∨fK b=4
   ·rw[if_pos G]
   ·rw[if_neg G,if_pos d,if_pos F]
theorem lh(a b:Nat)(L:a<18446744073709551616)(l:b<18446744073709551616)(h:mN a b=false):Ieee.double.mul a b=some (mV a b):=by
 have M:=of_decide_eq_false h
 have N:¬(fK a=4∨fK b=4):=fun e=>M (Or.inl e)
 have t:(fK a=3∨fK b=3)→¬(fK a=0∨fK b=0):=fun e A=>M (Or.inr ⟨e,A⟩)
 unfold Ieee.Format.mul mV
 rw[if_neg N]
 by_cases f:fK a=3
 ·rw[if_pos (Or.inl f),if_neg (t (Or.inl f)),bT a L f]
  by_cases d:fK b=3
  ·rw[bT b l d]
   show some (Ieee.double.write (.infinity (fS a^^fS b)))=_
   rw[dD]
  ·obtain⟨m,k,e,z⟩:=bX b l (bf b d (by omega))
   have F:m≠0:=fun D=>t (Or.inl f) (Or.inr ((aS b).2 ((cw z).1 D)))
   rw[e]
   show Option.map Ieee.double.write (if m=0 then none else some (.infinity (fS a^^fS b)))=_
   rw[if_neg F,Option.map_some,dD]
 ·obtain⟨m,k,e,z⟩:=bX a L (bf a f (by omega))
  rw[e]
  by_cases d:fK b=3
  ·have F:m≠0:=fun D=>t (Or.inr d) (Or.inl ((aS a).2 ((cw z).1 D)))
   rw[if_pos (Or.inr d),if_neg (t (Or.inr d)),bT b l d]
   show Option.map Ieee.double.write (if m=0 then none else some (.infinity (fS b^^fS a)))=_
   rw[if_neg F,Option.map_some,dD,Bool.xor_comm]
  ·obtain⟨G,H,A,K⟩:=bX b l (bf b d (by omega))
   rw[if_neg (by omega),A]
   show some (Ieee.double.nearest (fS a^^fS b) (m*G) (-1074+(k:Int)+(-1074+(H:Int))))=_
   rw[dn]
   congr 2
   rw[←z,←K,show m*2^k*(G*2^H)=m*G*2^(k+H) by rw[Nat.pow_add];ac_rfl,dy]
   congr 1
   omega
theorem iB(b:Nat)(l:b<18446744073709551616)(m:ap b=true)(t:fK b≠0):
  ∃β:Nat,fX b= -1074+(β:Int)∧rv (fR b)=(fD b).natAbs*2^β∧(fD b).natAbs%2=1∧(fD b).natAbs<9007199254740992:=by
 obtain⟨f,D⟩:=dK b l m
 have z:fR b≠0:=fun e=>t ((aS b).2 e)
 have d:fZ b≠0:=fun e=>z ((jU _).1 (by rw[←gu,e];rfl))
 have h:=Aq (fZ b) d
 have A:=dJ (fZ b) (-1074) d
 refine⟨tz (fZ b).natAbs,by rw[←D,A],by rw[←gu,h,f];congr 2;rw[←f,←h],?_,?_⟩
 ·have:=(gI (fZ b) d).2
  rw[f]at this
  omega
 ·have:(oM (fM b)).natAbs≤(fM b).natAbs:=wx _
  have F:=sn b
  show(oM (fM b)).natAbs<_
  omega
def qS(a b:Nat):Nat:=cD ((fD a).natAbs*2^180) (fD b).natAbs
def qV(a b:Nat):Nat:=bw (qS a b) (fX a-fX b-181)
def qF(a b:Nat):Int:=bF (oM (qS a b:Nat)).natAbs (oE (qS a b:Nat) (fX a-fX b-181))
def dV(a b:Nat):Nat:=
 if fK a=4∨fK b=4 then 9221120237041090560
 else if fK a=fK b∧(fK a=3∨fK a=0)then 9221120237041090560
 else if fK a=3 then bZ (fS a^^fS b) 9218868437227405312
 else if fK b=3∨fK a=0 then bZ (fS a^^fS b) 0
 else if fK b=0 then bZ (fS a^^fS b) 9218868437227405312
 else bZ (fS a^^fS b) (qV a b)
def dF(a b:Nat):Int:=
 if fK a=4∨fK b=4 then 0
 else if fK a=fK b∧(fK a=3∨fK a=0)then 16
 else if fK a=3 then 0
 else if fK b=3∨fK a=0 then 0
 else if fK b=0 then 8
 else qF a b
def dN(a b:Nat):Bool:=decide ((fK a=4∨fK b=4)∨(fK a=fK b∧(fK a=3∨fK a=0)))
theorem wE(a b:Nat):dV a b<18446744073709551616:=by
 have h:qV a b≤9218868437227405312:=cN _ _
 have d:=ez (fS a^^fS b) 9218868437227405312 (by decide)
 have f:=ez (fS a^^fS b) 0 (by decide)
 have l:=ez (fS a^^fS b) (qV a b) (by omega)
 unfold dV
 repeat' split
 all_goals omega
theorem wF(o d:Nat)(h:1≤o)(z:d<9007199254740992)(f:0<d):9007199254740992≤o*2^180/d:=by
 rw[Nat.le_div_iff_mul_le f]
 have l:9007199254740992*d≤9007199254740992*9007199254740992:=Nat.mul_le_mul_left _ (by omega)
 have m:9007199254740992*9007199254740992≤1*2^180:=by decide+kernel
 have t:1*2^180≤o*2^180:=Nat.mul_le_mul_right _ h
 exact Nat.le_trans l (Nat.le_trans m t)
theorem Et(a b:Nat)(H:a<18446744073709551616)(K:b<18446744073709551616)(L:ap a=true)(M:ap b=true)(N:fK a≠0)(O:fK b≠0)
  (m k n j p:Nat) (Q:m*2^k=rv (fR a)) (U:n*2^j=rv (fR b)) (l:0<n) (A:9007199254740992≤m*2^p/n):
  bw (cD (m*2^p) n) ((k:Int)-j-p-1)=qV a b:=by
 obtain⟨α,Y,Z,x3,x4⟩:=iB a H L N
 obtain⟨β,y1,y2,y3,y4⟩:=iB b K M O
 unfold qV qS
 rw[Y,y1,show-1074+(α:Int)-(-1074+(β:Int))-181=((α:Int)-β-1)-(180:Nat) by omega]
 have f:=wF (fD a).natAbs (fD b).natAbs (by omega) y4 (by omega)
 generalize (fD a).natAbs=h at*
 generalize (fD b).natAbs=d at*
 have t:∀i:Nat,0<2^i:=fun i=>Nat.two_pow_pos i
 --more digits,then both sides times a power
 obtain⟨G,_,_,_⟩:=kw (m*2^p) n (k+β) ((k:Int)-j-p-1) l A
 have D:m*2^p*2^(k+β)*2^j=h*2^(α+p+j)*2^β:=by
  rw[Nat.pow_add,show m*2^p*(2^k*2^β)*2^j=(m*2^k)*(2^p*2^β*2^j) by ac_rfl,Q,Z,Nat.pow_add,Nat.pow_add]
  ac_rfl
 have F:n*2^j=d*2^β:=by rw[U,y2]
 have V:cD (m*2^p*2^(k+β)) n=cD (h*2^(α+p+j)) d:=by
  rw[←nM _ n j,D,F,nM]
 rw[V]at G
 rw[←G]
 have z:9007199254740992≤h*2^(α+p+j)/d:=by
  have X:h*2^(α+p+j)/d=m*2^p*2^(k+β)/n:=by
   rw[←Nat.mul_div_mul_right _ d (t β),←D,←F,Nat.mul_div_mul_right _ n (t j)]
  rw[X]
  refine Nat.le_trans A (Nat.div_le_div_right ?_)
  exact Nat.le_mul_of_pos_right _ (t _)
 have:=wD h d (α+p+j) 180 ((α:Int)-β-1) (by omega) z f
 rw[←this]
 congr 1
 omega
theorem pX(a b:Nat)(l:a<18446744073709551616)(t:b<18446744073709551616)(h:dN a b=true):Ieee.double.div a b=none∧dV a b=9221120237041090560:=by
 unfold Ieee.Format.div
 rcases of_decide_eq_true h with(h|h)|⟨K,d⟩
 ·obtain⟨s,f,e⟩:=dL a l h
  refine⟨by rw[e];rfl,?_⟩
  unfold dV;rw[if_pos (Or.inl h)]
 ·obtain⟨s,f,e⟩:=dL b t h
  refine⟨?_,?_⟩
  ·rw[e];cases Ieee.double.read a<;>rfl
  ·unfold dV;rw[if_pos (Or.inr h)]
 ·refine⟨?_,?_⟩
  ·rcases d with d|d
   ·rw[bT a l d,bT b t (by omega)];rfl
   ·obtain⟨m,k,e,F⟩:=bX a l (bf a (by omega) (by omega))
    obtain⟨n,j,G,H⟩:=bX b t (bf b (by omega) (by omega))
    have A:m=0:=(cw F).2 ((aS a).1 d)
    have D:n=0:=(cw H).2 ((aS b).1 (by omega))
    rw[e,G,A,D];rfl
  ·unfold dV
   by_cases z:fK a=4∨fK b=4
   ·rw[if_pos z]
   ·rw[if_neg z,if_pos ⟨K,d⟩]
theorem pY(a b:Nat)(H:a<18446744073709551616)(F:b<18446744073709551616)(h:dN a b=false):Ieee.double.div a b=some (dV a b):=by
 have U:=of_decide_eq_false h
 have X:¬(fK a=4∨fK b=4):=fun e=>U (Or.inl e)
 have K:¬(fK a=fK b∧(fK a=3∨fK a=0)):=fun e=>U (Or.inr e)
 unfold Ieee.Format.div dV
 rw[if_neg X,if_neg K]
 by_cases f:fK a=3
 ·obtain⟨n,j,N,D⟩:=bX b F (bf b (fun e=>K ⟨by omega,Or.inl f⟩) (by omega))
  rw[if_pos f,bT a H f,N]
  show some (Ieee.double.write (.infinity (fS a^^fS b)))=_
  rw[dD]
 ·obtain⟨m,k,e,O⟩:=bX a H (bf a f (by omega))
  rw[if_neg f,e]
  by_cases G:fK b=3
  ·rw[if_pos (Or.inl G),bT b F G]
   show some (Ieee.double.nearest (fS a^^fS b) 0 0)=_
   rw[dn,kv]
  ·obtain⟨n,j,N,D⟩:=bX b F (bf b G (by omega))
   rw[N]
   show Option.map Ieee.double.write (if n=0 then if m=0 then none else some (.infinity (fS a^^fS b))else some (.number (fS a^^fS b) (2*(m <<< (54+n.log2-m.log2)/n)+(m <<< (54+n.log2-m.log2)%n != 0).toNat) (-1074+(k:Int)-(-1074+(j:Int))-((54+n.log2-m.log2:Nat):Int)-1)))=_
   by_cases l:fK a=0
   ·have z:m=0:=(cw O).2 ((aS a).1 l)
    have d:n≠0:=fun t=>K ⟨by rw[l,(aS b).2 ((cw D).1 t)],Or.inr l⟩
    rw[if_pos (Or.inr l),if_neg d,z,Nat.zero_shiftLeft,Nat.zero_div,Nat.zero_mod]
    show some (Ieee.double.nearest (fS a^^fS b) 0 _)=_
    rw[dn,kv]
   ·have z:m≠0:=fun t=>l ((aS a).2 ((cw O).1 t))
    have L:¬(fK b=3∨fK a=0):=by omega
    rw[if_neg L]
    by_cases A:fK b=0
    ·have d:n=0:=(cw D).2 ((aS b).1 A)
     rw[if_pos A,if_pos d,if_neg z,Option.map_some,dD]
    ·have d:n≠0:=fun t=>A ((aS b).2 ((cw D).1 t))
     rw[if_neg A,if_neg d]
     have M:2*(m <<< (54+n.log2-m.log2)/n)+(m <<< (54+n.log2-m.log2)%n != 0).toNat=cD (m*2^(54+n.log2-m.log2)) n:=by
      rw[Nat.shiftLeft_eq]
      unfold cD
      congr 1
      split
      ·rename_i Q;rw[Q];rfl
      ·rename_i Q;simp[Q]
     rw[M]
     show some (Ieee.double.nearest (fS a^^fS b) (cD (m*2^(54+n.log2-m.log2)) n) _)=_
     rw[dn]
     have V:=aY m z
     have Y:=aY n d
     have Z:bl m=m.log2+1:=by unfold bl;rw[if_neg z]
     have l2:bl n=n.log2+1:=by unfold bl;rw[if_neg d]
     rw[Z,show m.log2+1-1=m.log2 by omega]at V
     rw[l2]at Y
     have hq:9007199254740992≤m*2^(54+n.log2-m.log2)/n:=by
      rw[Nat.le_div_iff_mul_le (by omega)]
      have h1:9007199254740992*n≤2^53*2^(n.log2+1):=by rw[zv];exact Nat.mul_le_mul_left _ (by omega)
      have h2:(2:Nat)^53*2^(n.log2+1)≤2^m.log2*2^(54+n.log2-m.log2):=by
       rw[←Nat.pow_add,←Nat.pow_add];exact dP (by omega)
      have h3:2^m.log2*2^(54+n.log2-m.log2)≤m*2^(54+n.log2-m.log2):=Nat.mul_le_mul_right _ V.2.1
      omega
     have:=Et a b H F (bf a f (by omega)) (bf b G (by omega)) l A m k n j (54+n.log2-m.log2) O D (by omega) hq
     rw[←this]
     congr 3
     omega
theorem I4(b:Nat)(f:ap b=true):bw (fD b).natAbs (fX b)=fR b:=by
 have h:=Ap b f
 have d:=jl (fM b) (fE b)
 rw[GG]at d
 exact d.1.trans h.1
theorem GW(b:Nat)(f:b<18446744073709551616)(d:ap b=true):bw (rv (fR b)) (-1074)=fR b:=by
 obtain⟨l,m⟩:=dK b f d
 have h:=(jl (fZ b) (-1074)).1
 rw[l,m,gu,I4 b d]at h
 exact h.symm
theorem kx(a:Nat)(d:ap a=true)(f:fK a≠0):fK a≠3∧fK a≠4∧fK a≠0:=⟨(bB d).1,(bB d).2,f⟩
theorem AC(a b:Nat)(f:ap a=true)(h:ap b=true)(l:fK a≠0)(d:fK b≠0):dV a b=bZ (fS a^^fS b) (qV a b)∧dF a b=qF a b:=by
 obtain⟨A,D,_⟩:=kx a f l
 obtain⟨F,G,_⟩:=kx b h d
 have m:¬(fK a=4∨fK b=4):=by omega
 have t:¬(fK a=fK b∧(fK a=3∨fK a=0)):=by omega
 have z:¬(fK b=3∨fK a=0):=by omega
 unfold dV dF
 simp only[if_neg m,if_neg t,if_neg A,if_neg z,if_neg d,and_self]
theorem li(a b:Nat)(d:ap a=true)(f:ap b=true)(h:fK a≠0)(l:fK b≠0):mV a b=bZ (fS a^^fS b) (bw (rv (fR a)*rv (fR b)) (-2148))∧mF a b=bF (oM (fZ a*fZ b)).natAbs (oE (fZ a*fZ b) (-2148)):=by
 obtain⟨A,D,_⟩:=kx a d h
 obtain⟨F,G,_⟩:=kx b f l
 have m:¬(fK a=4∨fK b=4):=by omega
 have t:¬(fK a=3∨fK b=3):=by omega
 have z:¬(fK a=0∨fK b=0):=by omega
 unfold mV mF
 simp only[if_neg m,if_neg t,if_neg z,and_self]
theorem ky{v:Nat}{E:Int}(d:v≠0)(h:1024<(bl v:Int)+E):bw v E=9218868437227405312∧bF v E=5:=by
 unfold bF bw
 rw[if_neg d,if_pos h,if_neg d,if_pos h]
 exact⟨rfl,rfl⟩
theorem uQ{v k:Nat}(h:2*v<2^k):cK v k=0:=by
 unfold cK
 have d:v/2^k=0:=Nat.div_eq_of_lt (by omega)
 have f:v%2^k=v:=Nat.mod_eq_of_lt (by omega)
 rw[d,f,if_neg (by omega)]
theorem qK{v:Nat}{E:Int}(d:v≠0)(h:(bl v:Int)+E< -1074):bw v E=0∧bF v E=3:=by
 obtain⟨A,D,F⟩:=aY v d
 have f:av v E= -1074:=by unfold av;omega
 obtain⟨j,z⟩:∃j:Nat,E- -1074= -((j:Nat):Int):=⟨(-1074-E).toNat,by omega⟩
 have m:cV v E=0:=by
  unfold cV
  rw[f,z,cZ _ _ (by omega)]
  refine uQ ?_
  have t:2^(bl v+1)≤2^j:=Nat.pow_le_pow_right (by decide) (by omega)
  rw[Nat.pow_succ]at t
  omega
 have l:bw v E=0:=by
  rw[cq v E d (by omega),m,f]
  rfl
 refine⟨l,?_⟩
 unfold bF
 rw[if_neg d,if_neg (by omega),if_neg (by rw[f];omega),l,if_neg (by decide),if_pos (by decide)]
def gM(r:Nat):Nat:=4503599627370496+r%4503599627370496
theorem AD(r:Nat):bl (gM r)=53:=by
 refine ke (by decide) ?_ ?_
 ·rw[show(2:Nat)^(53-1)=4503599627370496 by decide]
  unfold gM;omega
 ·rw[show(2:Nat)^53=9007199254740992 by decide]
  unfold gM;omega
theorem AE(r:Nat):gM r≠0:=by unfold gM;omega
theorem sQ(r:Nat)(h:4503599627370496≤r):rv r=gM r*2^(r/4503599627370496-1):=by
 have e:r=gM r+(r/4503599627370496-1)*4503599627370496:=by unfold gM;omega
 have:=jC (gM r) (r/4503599627370496-1) (by unfold gM;omega) (fun _=>by unfold gM;omega)
 rwa[←e]at this
theorem qL(r:Nat)(n e:Int)(h:4503599627370496≤r)(d:e=n+(r/4503599627370496:Nat)-1023):
  bw (rv r) (n-1074)=bw (gM r) (e-52):=by
 rw[sQ r h,dy]
 congr 1
 omega
theorem yh(r:Nat)(e:Int)(l:-1022≤e)(m:e≤1023):bw (gM r) (e-52)=r%4503599627370496+(e+1023).toNat*4503599627370496:=by
 have d:=AD r
 have f:av (gM r) (e-52)=e-52:=by unfold av;rw[d];omega
 rw[cq _ _ (AE r) (by rw[d];omega),f]
 have h:cV (gM r) (e-52)=gM r:=by
  unfold cV
  rw[f,show e-52-(e-52)=((0:Nat):Int) by omega,iQ,Nat.pow_zero,Nat.mul_one]
 rw[h,show(e-52+1074).toNat=(e+1023).toNat-1 by omega]
 have:1≤(e+1023).toNat:=by omega
 unfold gM
 omega
theorem uR(r:Nat)(e:Int)(h:1023<e):bw (gM r) (e-52)=9218868437227405312:=(ky (AE r) (by rw[AD];omega)).1
theorem yi(r:Nat)(e:Int)(h:e< -1075):bw (gM r) (e-52)=0:=(qK (AE r) (by rw[AD];omega)).1
theorem nN(i j k:Nat)(h:i+j=k):(2:Nat)^i*2^j=2^k:=by rw[←Nat.pow_add,h]
theorem nO(v x y:Nat)(E F:Int)(h:E+x+y=F):bw (v*2^x*2^y) E=bw v F:=by
 rw[Nat.mul_assoc,←Nat.pow_add,dy]
 congr 1
 omega
theorem nQ(v x:Nat)(E F:Int)(h:E+x=F):bw (v*2^x) E=bw v F:=by rw[dy,h]
theorem yj(s:Bool)(r:Nat)(e:Int)(N:-1075≤e)(O:e< -1022):
  mV (bZ s (r%4503599627370496+(e+53+1023).toNat*4503599627370496)) 4368491638549381120=bZ s (bw (gM r) (e-52)):=by
 obtain⟨q,M⟩:∃q,q=r%4503599627370496+(e+53+1023).toNat*4503599627370496:=⟨_,rfl⟩
 rw[←M]
 have f:4503599627370496≤q:=by omega
 have l:q<9218868437227405312:=by omega
 have t:gM q=gM r:=by unfold gM;omega
 have z:q/4503599627370496-1=(e+1075).toNat:=by omega
 have d:=eC s q (by omega)
 have A:ap (bZ s q)=true:=(aQ _).2.2.2 (by rw[d];exact l)
 have D:fK (bZ s q)≠0:=fun h=>by
  have:=(aS _).1 h
  rw[d]at this
  omega
 have m:fR 4368491638549381120=4368491638549381120:=by decide
 have F:ap 4368491638549381120=true:=by decide
 have G:fK 4368491638549381120≠0:=by decide
 have H:fS 4368491638549381120=false:=by decide
 obtain⟨K,Q⟩:∃K:Nat,K=1021:=⟨_,rfl⟩
 have L:rv 4368491638549381120=2^K:=by
  have:=sQ 4368491638549381120 (by decide)
  rw[this,show gM 4368491638549381120=2^52 by decide,show 4368491638549381120/4503599627370496-1=969 by decide]
  exact nN 52 969 K (by omega)
 rw[(li _ _ A F D G).1,d,m,L,sQ q f,t,z,gP s q (by omega),H,Bool.xor_false,nO _ _ _ _ (e-52) (by omega)]
theorem uS(s:Bool)(r:Nat)(m:r≠0)(h:r<4503599627370496):
  ∃q,mV (bZ s r) 4841369599423283200=bZ s q∧4503599627370496≤q∧q<9218868437227405312∧∀n:Int,bw (rv r) (n-1074)=bw (rv q) (n-52-1074):=by
 obtain⟨b1,F,O⟩:=aY r m
 have f:bl r≤52:=by
  have t:(2:Nat)^52=4503599627370496:=by decide
  have:=ch (Nat.lt_of_le_of_lt F (by rw[t];exact h))
  omega
 have l:rv r=r:=by
  have:=jC r 0 (by omega) (fun h=>absurd rfl h)
  simpa using this
 obtain⟨b,G⟩:∃b,bl r=b+1:=⟨bl r-1,by omega⟩
 rw[G]at F O f
 have Q:(2:Nat)^(b+1-1)*2^(52-b)=4503599627370496:=by rw[←Nat.pow_add,show b+1-1+(52-b)=52 by omega]
 have U:(2:Nat)^(b+1)*2^(52-b)=9007199254740992:=by rw[←Nat.pow_add,show b+1+(52-b)=53 by omega]
 have V:=Nat.two_pow_pos (52-b)
 have z:=Nat.mul_le_mul_right (2^(52-b)) F
 have L:=(Nat.mul_lt_mul_right V).2 O
 rw[Q]at z
 rw[U]at L
 obtain⟨M,H⟩:∃M,M=r*2^(52-b):=⟨_,rfl⟩
 rw[←H]at z L
 have N:av r (-1022)=(b:Int)-1074:=by unfold av;rw[G];omega
 have X:bw r (-1022)=M+b*4503599627370496:=by
  rw[cq r _ m (by rw[G];omega),N]
  unfold cV
  rw[N,show(-1022:Int)-((b:Int)-1074)=((52-b:Nat):Int) by omega,iQ,←H,show((b:Int)-1074+1074).toNat=b by omega]
 have d:=eC s r (by omega)
 have Y:ap (bZ s r)=true:=(aQ _).2.2.2 (by rw[d];omega)
 have Z:fK (bZ s r)≠0:=fun h=>m (by have:=(aS _).1 h;rwa[d]at this)
 have A:fR 4841369599423283200=4841369599423283200:=by decide
 have f2:ap 4841369599423283200=true:=by decide
 have k2:fK 4841369599423283200≠0:=by decide
 have s2:fS 4841369599423283200=false:=by decide
 obtain⟨K,hK⟩:∃K:Nat,K=1126:=⟨_,rfl⟩
 have r2:rv 4841369599423283200=2^K:=by
  have:=sQ 4841369599423283200 (by decide)
  rw[this,show gM 4841369599423283200=2^52 by decide,show 4841369599423283200/4503599627370496-1=1074 by decide]
  exact nN 52 1074 K (by omega)
 refine⟨M+b*4503599627370496,?_,by omega,by omega,fun n=>?_⟩
 ·rw[(li _ _ Y f2 Z k2).1,d,A,r2,l,gP s r (by omega),s2,Bool.xor_false,nQ _ _ _ (-1022) (by omega),X]
 ·have D:rv (M+b*4503599627370496)=M*2^b:=jC M b (by omega) (fun _=>z)
  rw[D,l,H]
  exact(nO r (52-b) b _ _ (by omega)).symm
end Go.Proofs.YtnnfjeieennffaaGreatDoor
