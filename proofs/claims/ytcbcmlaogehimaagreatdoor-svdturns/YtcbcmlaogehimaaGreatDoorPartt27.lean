/- Part 27 of the texts. -/
import Derived.Test.YtcbcmlaogehimaaGreatDoorPartt26
set_option maxHeartbeats 4000000
set_option maxRecDepth 20000
namespace Go.Proofs.YtcbcmlaogehimaaGreatDoor
def GM(c:Nat)(S:List Nat)(i n q:Nat):List Nat:=(List.range n).map (fun j=>aQ c S (i+j) q)
open Go.RowKit
attribute [local go_sem ↓] Go.wp_at_zero Go.wp_at_succ
def Kx(r c:Nat)(S:List Nat)(k:Nat):List Nat:=lX (fun i=>aQ c S i k) r
theorem uw(r c u k:Nat)(D:Option Addr)(S:List Nat)(w:World)(h:Mx w D u r c S)(hk:k<c):
  Calls Tryz.prog 30 #[.agg #[.int .i64 r,.int .i64 c,.slice D S.length u],.int .i64 k,.int .i64 0] w fun e K=>∃bo d,e=.returned (.slice bo r d)∧al K bo d (bF (Kx r c S k))∧Below w.heap.size w K:=by
 have HH:=ac h
 have r6:=h.2.2.1
 have Y:=aq w (.cells #[.int .i64 r,.int .i64 c,.slice D S.length u] 24)
 have Z:=ad w (.cells #[.int .i64 r,.int .i64 c,.slice D S.length u] 24)
 have X0:=aK.new w (.int .i64 r) (.int .i64 c) (.slice D S.length u)
 have L:=ad (w.alloc (.cells #[.int .i64 r,.int .i64 c,.slice D S.length u] 24)) (.cells #[] 69)
 have O0:=d6.nil (w.alloc (.cells #[.int .i64 r,.int .i64 c,.slice D S.length u] 24)) (w.heap.size+1) (by rw[Y];omega)
 rw[Y]at O0
 have HO:=ac O0;have HX:=ac (X0.all L);have HB:=ac (Z.trans (L.mono Z.size))
 obtain⟨l,U⟩:∃l,S.length=l:=⟨_,rfl⟩
 rw[U]at HX HB HO
 rw[U]
 have aa:=ac U
 clear h Y Z X0 L O0 U
 go_enter Tryz.func30,Tryz.ntmps30
 go_wp2_with fail
 go_loopw[7,8] (fun v i wr=>∃j:Nat,j≤r∧i=.int .i64 j∧Hid (d6 (w.heap.size+1) wr v (lX (fun i=>aQ c S i k) j))∧Hid (aK wr w.heap.size (.int .i64 r) (.int .i64 c) (.slice D l u))∧Hid (Below w.heap.size w wr)) (fun _ i _=>r-(intOf i).toNat)
 case atStart=>exact⟨0,Nat.zero_le _,rfl,HO,HX,HB⟩
 case round=>
  clear HO HX HB
  obtain⟨j,hj,rfl,X,O,Q⟩:=hrel
  have t0:=(uH O).c0;have t1:=(uH O).c1;have t2:=(uH O).c2
  by_cases ae:j<r
  ·have am:(j:Int)<(r:Int):=by omega
   have C:=ac (fun K (m:Mx K D u r c S)=>yu r c u j k D S K m ae hk)
   rw[uH aa]at C
   have HM:=ac ((uH HH).below Q.out)
   have ho:=ac ((uH HH).el_lt j k)
   have G:=ac (show(lX (fun i=>aQ c S i k) j).length≤1000000 from by rw[gA];omega)
   have eS:=ac (o6 (fun i=>aQ c S i k) j)
   generalize aQ c S j k=o at*
   go_wp2_with fail
   refine(uH C _ (uH HM)).mono ?_
   rintro e w2 ⟨rfl,F⟩
   have H:=(uH X).below F
   have z:=(uH O).all F
   have B2:=Q.out.trans (F.mono Q.out.size)
   obtain⟨v3,w3,I,J,A,_,_⟩:=H.push o (uH ho) (uH G) (by have:=z.lt;omega) 22
   have N:=ac I
   have O3:=ac (show d6 (w.heap.size+1) w3 v3 (lX (fun i=>aQ c S i k) (j+1))from by rw[uH eS];exact J)
   have X3:=ac (z.below A (by omega))
   have B3:=ac (B2.trans (A.mono (by omega)))
   clear F C X O Q H z B2 I J A ho G eS HM t0 t1 t2
   go_wp2_with(at_builtin;refine fj _ rfl _ _ 22 rfl _ _ _ _ rfl rfl (uH N) ?_;clear N)
   go_round
   case rel=>exact⟨j+1,by omega,by go_num,O3,X3,B3⟩
   case measure=>simp[intOf];omega
  ·have ah:r=j:=by omega
   subst ah
   obtain⟨L,d1,e1,q1⟩:=(uH X).bits
   rw[gA]at e1
   subst e1
   have Q1:=ac q1
   clear q1 X
   go_wp2_with fail
   go_ret
   exact⟨L,d1,rfl,uH Q1,Q.out⟩
end Go.Proofs.YtcbcmlaogehimaaGreatDoor
namespace Go.Proofs.YtcbcmlaogehimaaGreatDoor
theorem DM(x y:Nat):∀(u d:List Nat) (s:Nat),u.length=d.length→sJ s (u++[x]) (d++[y])=aV (sJ s u d) (mV x y):=by
 intro u
 induction u with
 |nil=>
  intro d s h
  match d with
  | []=>rfl
  |y'::d=>cases h
 |cons x' u ih=>
  intro d s h
  match d with
  | []=>cases h
  |y'::d=>exact ih d _ (by simpa using h)
theorem GN(I J:List Int):∀j,j≤I.length→j≤J.length→mu I J j=sJ 0 ((wH I).take j) ((wH J).take j):=by
 intro j
 induction j with
 |zero=>intro _ _;rfl
 |succ j ih=>
  intro d h
  rw[lj I j d,lj J j h,DM _ _ _ _ _ (by simp[rG];omega),←ih (by omega) (by omega)]
  rfl
def Mj(r c:Nat)(S:List Nat)(j:Nat):List Nat:=GM c S j (r-j) j
def gl(xs:List Nat):Bool:=ja (bF xs) xs.length
open Go.RowKit
attribute [local go_sem ↓] Go.wp_at_zero Go.wp_at_succ
theorem cE{a w d:World}{o:Option Nat}(h:a.grownBy w o)(k:w.grownBy d o):a.grownBy d o:=
 ⟨k.os.trans h.os,k.tape.trans h.tape,k.output.trans h.output,Nat.le_trans h.size k.size,fun i u z=>(k.block i (Nat.lt_of_lt_of_le u h.size) z).trans (h.block i u z)⟩
theorem cF{w d:World}(h:Below w.heap.size w d)(o:Option Nat):w.grownBy d o:=⟨h.os,h.tape,h.output,h.size,fun k u _=>h.block k u⟩
theorem mW(w:World)(g j:Nat)(v:Value):w.grownBy (w.setCell ⟨g,j,none⟩ v) (some g):=by
 have h:=(Below.refl w.heap.size w)
 refine⟨rfl,rfl,rfl,?_,fun k _ d=>Below.heap_setCell w ⟨g,j,none⟩ v k (fun e=>d (by rw[e]))⟩
 simp[World.setCell]
def GO(g:Option Nat)(ao:Option Addr)(I:List Int):Prop:=I= []∨∃b off,ao=some ⟨b,off,none⟩∧some b≠g
theorem GO.old{w:World}{u:Option Addr}{c:Nat}{I:List Int}(h:al w u c I){g:Option Nat}(z:∀k,g=some k→w.heap.size≤k):GO g u I:=by
 rcases h.2.2 with e|⟨b,d,A,D,_⟩
 ·exact .inl e
 ·exact .inr ⟨b,d,A,fun e=>by have:=z b e.symm;omega⟩
theorem p5{w D:World}{z:Option Addr}{c:Nat}{I:List Int}{g:Option Nat}(h:al w z c I)(J:GO g z I)(F:w.grownBy D g):al D z c I:=by
 refine⟨h.1,h.2.1,?_⟩
 rcases h.2.2 with e|⟨b,d,e,G,L⟩
 ·exact .inl e
 ·rcases J with u|⟨N,H,u,A⟩
  ·exact .inl u
  ·rw[e]at u
   simp only[Option.some.injEq,Addr.mk.injEq]at u
   obtain⟨rfl,rfl,_⟩:=u
   refine .inr ⟨b,d,e,Nat.lt_of_lt_of_le G F.size,fun i K=>?_⟩
   rw[World.cell?_of_block (a:=⟨b,d+i,none⟩) (F.block b G A)]
   exact L i K
theorem ux(a b:Nat)(w:World)(h:a<18446744073709551616)(u:b<18446744073709551616)(z:cq w):
  Calls Tryz.prog 202 #[.int .u64 a,.int .u64 b] w fun r A=>r=.returned (.int .u64 (aV a (fN b):Nat))∧Below w.heap.size w A:=by
 have K:=ac (Cx a b w h u z)
 clear h u z
 generalize aV a (fN b)=o at*
 generalize aF a (fN b)=f at*
 go_enter Tryz.func202,Tryz.ntmps202
 go_wp2_with fail
 refine Calls.mono (uH K) ?_
 rintro e D ⟨rfl,d⟩
 clear K
 go_wp2
 go_ret
 exact⟨rfl,d⟩
theorem uy(a b:Nat)(w:World)(h:a<18446744073709551616)(u:b<18446744073709551616)(z:cq w):
  Calls Tryz.prog 204 #[.int .u64 a,.int .u64 b] w fun r A=>r=.returned (.int .u64 (dV a b:Nat))∧Below w.heap.size w A:=by
 have K:=ac (CH a b w h u z)
 clear h u z
 generalize dV a b=o at*
 generalize dF a b=f at*
 go_enter Tryz.func204,Tryz.ntmps204
 go_wp2_with fail
 refine Calls.mono (uH K) ?_
 rintro e D ⟨rfl,d⟩
 clear K
 go_wp2
 go_ret
 exact⟨rfl,d⟩
theorem qE(a:Nat)(w:World)(h:a<18446744073709551616)(u:cq w):
  Calls Tryz.prog 242 #[.int .u64 a] w fun r z=>r=.returned (.int .u64 (sV a:Nat))∧Below w.heap.size w z:=by
 have K:=ac (qC a w h u)
 clear h u
 generalize sV a=o at*
 generalize sF a=f at*
 go_enter Tryz.func242,Tryz.ntmps242
 go_wp2_with fail
 refine Calls.mono (uH K) ?_
 rintro e A ⟨rfl,d⟩
 clear K
 go_wp2
 go_ret
 exact⟨rfl,d⟩
theorem qG(f s k n p q:Nat)(w:World)(A:(n:Int)*(s:Int)=(p:Int))(D:(f:Int)+(p:Int)=(q:Int))(h:q≤36):
  Calls Tryz.prog 272 #[.agg #[.int .i64 f,.int .i64 s,.int .i64 k],.int .i64 n] w fun e u=>e=.returned (.int .i64 (q:Nat))∧Below w.heap.size w u:=by
 have d:=ac (ad w (.cells #[.int .i64 f,.int .i64 s,.int .i64 k] 214))
 have z:(p:Int)≤36:=by omega
 go_enter Tryz.func272,Tryz.ntmps272
 go_wp2
 go_ret
 exact⟨rfl,uH d⟩
theorem qH(r c n d i:Nat)(h:Option Addr)(w:World):
  Calls Tryz.prog 245 #[.agg #[.int .i64 r,.int .i64 c,.slice h n d],.int .i64 i] w fun e D=>e=.returned (.agg #[.int .i64 (i:Nat),.int .i64 (c:Nat),.int .i64 (r:Nat)])∧Below w.heap.size w D:=by
 have u:=ad w (.cells #[.int .i64 r,.int .i64 c,.slice h n d] 24)
 have z:=aq w (.cells #[.int .i64 r,.int .i64 c,.slice h n d] 24)
 have A:=ad (w.alloc (.cells #[.int .i64 r,.int .i64 c,.slice h n d] 24)) (.cells #[.int .i64 (i:Nat),.int .i64 (c:Nat),.int .i64 (r:Nat)] 214)
 have X:=gC.new 214 (w.alloc (.cells #[.int .i64 r,.int .i64 c,.slice h n d] 24)) (.int .i64 (i:Nat)) (.int .i64 (c:Nat)) (.int .i64 (r:Nat))
 rw[z]at X
 have F:=X.c0;have G:=X.c1;have H:=X.c2
 have I:=ac (u.trans (A.mono u.size))
 clear u z A X
 go_enter Tryz.func245,Tryz.ntmps245
 go_wp2_with fail
 exact bodyPost_ret (v:=.agg #[.int .i64 (i:Nat),.int .i64 (c:Nat),.int .i64 (r:Nat)]) (by simp[results,Tryz.results245,go_sem,F,G,H]) rfl ⟨rfl,uH I⟩
theorem wO(r c:Int)(F:Option Addr)(n u:Nat)(l i k:Int)(er:Int)(w:World)(L:n≤35184372088830)(h:j5 r c n=true)
  (G:(i<0∧er=7)∨(0≤i∧l≤i∧er=7)∨(0≤i∧i<l∧k<0∧er=7)∨(0≤i∧i<l∧0≤k∧l≤k∧er=7)∨(0≤i∧i<l∧0≤k∧k<l∧i=k∧er=7)∨(0≤i∧i<l∧0≤k∧k<l∧¬i=k∧er=0)):
  Calls Tryz.prog 243 #[.agg #[.int .i64 r,.int .i64 c,.slice F n u],.int .i64 l,.int .i64 i,.int .i64 k] w fun e H=>e=.returned (.int .i64 er)∧Below w.heap.size w H:=by
 have d:=ac (ad w (.cells #[.int .i64 r,.int .i64 c,.slice F n u] 24))
 have K:=ac (fun H=>gP r c F n u H L)
 rw[if_pos h]at K
 clear h
 rcases G with⟨A,rfl⟩|⟨A,D,rfl⟩|⟨A,D,I,rfl⟩|⟨A,D,I,J,rfl⟩|⟨A,D,I,J,rfl,rfl⟩|⟨A,D,I,J,Z,rfl⟩
 rotate_left 5
 ·have O:decide (i<0)=false:=decide_eq_false (by omega)
  have Q:decide (l≤i)=false:=decide_eq_false (by omega)
  have U:decide (k<0)=false:=decide_eq_false (by omega)
  have X:decide (l≤k)=false:=decide_eq_false (by omega)
  have Y:(i==k)=false:=by simp;omega
  go_enter Tryz.func243,Tryz.ntmps243
  go_wp2_with fail
  refine(uH K _).mono ?_
  rintro e N ⟨rfl,z⟩
  replace d:=ac ((uH d).trans (z.mono (uH d).size))
  clear z K
  go_wp2
  go_ret
  exact⟨rfl,uH d⟩
 all_goals
  go_enter Tryz.func243,Tryz.ntmps243
  go_wp2_with fail
  refine(uH K _).mono ?_
  rintro e N ⟨rfl,z⟩
  replace d:=ac ((uH d).trans (z.mono (uH d).size))
  clear z K
  go_wp2
  go_ret
  exact⟨rfl,uH d⟩
theorem DN(x y c s p q u F G v:Nat)(w:World)
  (H:∀d,Below w.heap.size w d→Calls Tryz.prog 203 #[.int .u64 c,.int .u64 x] d fun e z=>e=.returned (.int .u64 (p:Nat))∧Below d.heap.size d z)
  (I:∀d,Below w.heap.size w d→Calls Tryz.prog 203 #[.int .u64 s,.int .u64 y] d fun e z=>e=.returned (.int .u64 (q:Nat))∧Below d.heap.size d z)
  (J:∀d,Below w.heap.size w d→Calls Tryz.prog 217 #[.int .u64 p,.int .u64 q] d fun e z=>e=.returned (.int .u64 (u:Nat))∧Below d.heap.size d z)
  (K:∀d,Below w.heap.size w d→Calls Tryz.prog 203 #[.int .u64 c,.int .u64 y] d fun e z=>e=.returned (.int .u64 (F:Nat))∧Below d.heap.size d z)
  (L:∀d,Below w.heap.size w d→Calls Tryz.prog 203 #[.int .u64 s,.int .u64 x] d fun e z=>e=.returned (.int .u64 (G:Nat))∧Below d.heap.size d z)
  (N:∀d,Below w.heap.size w d→Calls Tryz.prog 202 #[.int .u64 F,.int .u64 G] d fun e z=>e=.returned (.int .u64 (v:Nat))∧Below d.heap.size d z):
  Calls Tryz.prog 273 #[.int .u64 x,.int .u64 y,.int .u64 c,.int .u64 s] w fun e d=>e=.returned (.tuple #[.int .u64 (u:Nat),.int .u64 (v:Nat)])∧Below w.heap.size w d:=by
 have O:=ac H;have Q:=ac I;have U:=ac J;have X:=ac K;have Y:=ac L;have Z:=ac N
 have h:=ac (Below.refl w.heap.size w)
 clear H I J K L N
 go_enter Tryz.func273,Tryz.ntmps273
 go_wp2_with fail
 refine(uH O _ (uH h)).mono ?_
 rintro e D ⟨rfl,A⟩
 replace h:=ac ((uH h).trans (A.mono (uH h).size))
 clear A O
 go_wp2_with fail
 refine(uH Q _ (uH h)).mono ?_
 rintro e D ⟨rfl,A⟩
 replace h:=ac ((uH h).trans (A.mono (uH h).size))
 clear A Q
 go_wp2_with fail
 refine(uH U _ (uH h)).mono ?_
 rintro e D ⟨rfl,A⟩
 replace h:=ac ((uH h).trans (A.mono (uH h).size))
 clear A U
 go_wp2_with fail
 refine(uH X _ (uH h)).mono ?_
 rintro e D ⟨rfl,A⟩
 replace h:=ac ((uH h).trans (A.mono (uH h).size))
 clear A X
 go_wp2_with fail
 refine(uH Y _ (uH h)).mono ?_
 rintro e D ⟨rfl,A⟩
 replace h:=ac ((uH h).trans (A.mono (uH h).size))
 clear A Y
 go_wp2_with fail
 refine(uH Z _ (uH h)).mono ?_
 rintro e D ⟨rfl,A⟩
 replace h:=ac ((uH h).trans (A.mono (uH h).size))
 clear A Z
 go_wp2
 exact bodyPost_ret (v:=.tuple #[.int .u64 (u:Nat),.int .u64 (v:Nat)]) (by simp[results,Tryz.results273,go_sem]) rfl ⟨rfl,uH h⟩
theorem Af(x y c s:Nat)(w:World)(z:x<18446744073709551616)(A:y<18446744073709551616)(D:c<18446744073709551616)(F:s<18446744073709551616)(u:cq w):
  Calls Tryz.prog 273 #[.int .u64 x,.int .u64 y,.int .u64 c,.int .u64 s] w fun e d=>e=.returned (.tuple #[.int .u64 (aV (mV c x) (mV s y):Nat),.int .u64 (aV (mV c y) (fN (mV s x)):Nat)])∧Below w.heap.size w d:=
 DN x y c s (mV c x) (mV s y) _ (mV c y) (mV s x) _ w (fun d h=>fi _ _ d D z (u.all h)) (fun d h=>fi _ _ d F A (u.all h)) (fun d h=>jB _ _ d (de _ _) (de _ _) (u.all h)) (fun d h=>fi _ _ d D A (u.all h)) (fun d h=>fi _ _ d F z (u.all h)) (fun d h=>ux _ _ d (de _ _) (de _ _) (u.all h))
end Go.Proofs.YtcbcmlaogehimaaGreatDoor
