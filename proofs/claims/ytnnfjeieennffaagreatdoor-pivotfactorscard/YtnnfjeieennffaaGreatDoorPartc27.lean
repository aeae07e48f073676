/- Part 27 of the texts. -/
import Derived.Test.YtnnfjeieennffaaGreatDoorPartc26
import Derived.Test.YtnnfjeieennffaaGreatDoorPartc25
import Derived.Deep.OwnRows
set_option maxHeartbeats 4000000
set_option maxRecDepth 20000
namespace Go.Proofs.YtnnfjeieennffaaGreatDoor
open Go.RowKit
def wR(k:Int):Nat→List Nat→Nat
 |s,[]=>s
 |s,x::xs=>wR k (H7 k s x) xs
def lF(k:Int):List Nat→Rat
 | []=>0
 |x::xs=>dQ k x*dQ k x+lF k xs
theorem Ge(k:Int)(d:List Nat):0≤lF k d:=by
 induction d with
 |nil=>exact Rat.le_refl
 |cons x d ih=>
  have:=ef (dQ k x)
  unfold lF
  grind
theorem H9(k:Int)(G:Rat)(f:1≤G)(h:G≤256):∀(d:List Nat) (s:Nat) (T H:Rat),(∀x∈d,x<18446744073709551616∧ap x=true∧ab (dQ k x)≤2)→ap s=true→fS s=false→
  T+lF k d≤G→H+(d.length:Rat)*G≤64*G→9007199254740992*ab (fQ s-T)≤2*T+2*H→
  ap (wR k s d)=true∧fS (wR k s d)=false∧9007199254740992*ab (fQ (wR k s d)-(T+lF k d))≤2*(T+lF k d)+2*(H+(d.length:Rat)*G):=by
 intro d
 induction d with
 |nil=>
  intro s T H _ t z _ _ A
  refine⟨t,z,?_⟩
  have K:wR k s []=s:=rfl
  have l:lF k []=0:=rfl
  have m:(([]:List Nat).length:Rat)=0:=rfl
  rw[K,l,m,Rat.add_zero]
  grind
 |cons x d ih=>
  intro s T H D t z hT hH A
  obtain⟨M,N,O⟩:=D x (List.mem_cons_self)
  have l:lF k (x::d)=dQ k x*dQ k x+lF k d:=rfl
  have m:((x::d).length:Rat)=(d.length:Rat)+1:=by rw[List.length_cons,Rat.natCast_add];rfl
  have L:((x::d).length:Rat)*G=(d.length:Rat)*G+G:=by rw[m];grind
  have q0:=Ge k d
  have l0:0≤(d.length:Rat)*G:=Rat.mul_nonneg Rat.natCast_nonneg (by grind)
  rw[l]at hT⊢
  rw[L]at hH⊢
  obtain⟨Q,U,V⟩:=Fe k s x T H G M N O t z (by grind) f h (by grind) A
  obtain⟨X,Y,Z⟩:=ih (H7 k s x) (T+dQ k x*dQ k x) (H+G) (fun y F=>D y (List.mem_cons_of_mem _ F)) Q U (by grind) (by grind) V
  refine⟨X,Y,?_⟩
  rw[show T+(dQ k x*dQ k x+lF k d)=T+dQ k x*dQ k x+lF k d by grind,show H+((d.length:Rat)*G+G)=H+G+(d.length:Rat)*G by grind]
  exact Z
def mx(a b:Nat):Nat:=if fK a=4∨fK b=4 then 9221120237041090560 else if fZ a<fZ b then b else a
def fO:Nat→List Nat→Nat
 |m,[]=>m
 |m,x::xs=>fO (mx m (fR x)) xs
theorem iE(r:Nat)(h:r<9223372036854775808):fZ r=(rv r:Int)∧fR r=r∧fS r=false:=by
 have d:fR r=r:=by unfold fR;omega
 have f:fS r=false:=decide_eq_false (by omega)
 refine⟨?_,d,f⟩
 unfold fZ pv
 rw[d,f]
 rfl
theorem Ia(m r:Nat)(d:m<9218868437227405312)(f:r<9218868437227405312):mx m r=max m r:=by
 obtain⟨l,t,G⟩:=iE m (by omega)
 obtain⟨z,A,H⟩:=iE r (by omega)
 have D:=(bB ((aQ m).2.2.2 (by rw[t];exact d))).2
 have F:=(bB ((aQ r).2.2.2 (by rw[A];exact f))).2
 unfold mx
 rw[if_neg (by omega),l,z]
 rcases Nat.lt_or_ge m r with h|h
 ·have:=jT h
  rw[if_pos (by omega)]
  omega
 ·have:=kg h
  rw[if_neg (by omega)]
  omega
theorem re:∀(d:List Nat) (m:Nat),m<9218868437227405312→(∀x∈d,ap x=true)→
  fO m d<9218868437227405312∧m≤fO m d∧(∀x∈d,fR x≤fO m d)∧(fO m d=m∨∃x∈d,fR x=fO m d):=by
 intro d
 induction d with
 |nil=>intro m z _;exact⟨z,Nat.le_refl _,(fun x l=>(by cases l)),Or.inl rfl⟩
 |cons x d ih=>
  intro m z l
  have A:=iA x (l x List.mem_cons_self)
  have e:fO m (x::d)=fO (max m (fR x)) d:=by
   show fO (mx m (fR x)) d=_
   rw[Ia m _ z A]
  obtain⟨D,G,F,t⟩:=ih (max m (fR x)) (by omega) (fun y f=>l y (List.mem_cons_of_mem _ f))
  rw[e]
  refine⟨D,by omega,?_,?_⟩
  ·intro y f
   rcases List.mem_cons.1 f with rfl|f
   ·omega
   ·exact F y f
  ·rcases t with t|⟨y,f,t⟩
   ·rcases Nat.lt_or_ge m (fR x)with h|h
    ·exact .inr ⟨x,List.mem_cons_self,by omega⟩
    ·exact .inl (by omega)
   ·exact .inr ⟨y,List.mem_cons_of_mem _ f,t⟩
def jn(xs:List Nat):Nat:=if fO 0 xs=0∨ap (fO 0 xs)=false then fO 0 xs else xV (sV (wR (eX (fO 0 xs)) 0 xs)) (eX (fO 0 xs))
theorem Ib(a:Nat)(f:a<18446744073709551616)(d:ap a=true)(l:fK a≠0):p2 (eX a)≤ab (fQ a)∧ab (fQ a)<p2 (eX a+1):=by
 obtain⟨t,z⟩:=bB d
 obtain⟨z1,z2,m,A,D,F,G,H,K⟩:=gv a f d l
 have h:=vp (fD a).natAbs (fX a) m
 have e:=vq a f d l 0
 rw[Int.add_zero,Jo,Rat.mul_one,←me]at e
 rw[e]at h
 unfold eX
 rw[if_neg (by omega),show(bl (fD a).natAbs:Int)+fX a-1+1=(bl (fD a).natAbs:Int)+fX a by omega]
 exact h
theorem Ff(k:Int):∀(f:List Nat) (x:Nat),x∈f→dQ k x*dQ k x≤lF k f:=by
 intro f
 induction f with
 |nil=>intro x d;cases d
 |cons y ys ih=>
  intro x d
  have h:=Ge k ys
  have l:=ef (dQ k y)
  have e:lF k (y::ys)=dQ k y*dQ k y+lF k ys:=rfl
  rw[e]
  rcases List.mem_cons.1 d with rfl|d
  ·grind
  ·have:=ih x d
   grind
theorem Ic(k:Int):∀(d:List Nat),(∀x∈d,ab (dQ k x)≤2)→lF k d≤4*(d.length:Rat):=by
 intro d
 induction d with
 |nil=>
  intro _
  have e:lF k []=0:=rfl
  have f:(([]:List Nat).length:Rat)=0:=rfl
  rw[e,f]
  grind
 |cons y ys ih=>
  intro h
  have z:=ih (fun x t=>h x (List.mem_cons_of_mem _ t))
  have A:=h y List.mem_cons_self
  have l:=kF (dQ k y)
  have m:=Rat.mul_nonneg (show 0≤2-dQ k y by grind) (show 0≤2+dQ k y by grind)
  have e:lF k (y::ys)=dQ k y*dQ k y+lF k ys:=rfl
  have f:((y::ys).length:Rat)=(ys.length:Rat)+1:=by rw[List.length_cons,Rat.natCast_add];rfl
  rw[e,f]
  grind
theorem Bw(a b:Nat)(w:World)(h:a<18446744073709551616)(l:b<18446744073709551616)(m:cC w):
  Calls Tryz.prog 188 #[.int .u64 a,.int .u64 b] w fun r w'=>r=.returned (.int .u64 (aV a b:Nat))∧Below w.heap.size w w':=by
 have K:=aa (sW a b w h l m)
 clear h l m
 generalize aV a b=o at*
 generalize aF a b=f at*
 go_enter Tryz.func188,Tryz.ntmps188
 go_wp2_with fail
 refine Calls.mono (uH K) ?_
 rintro e t ⟨rfl,d⟩
 clear K
 go_wp2
 go_ret
 exact⟨rfl,d⟩
theorem oo(a b:Nat)(w:World)(h:a<18446744073709551616)(l:b<18446744073709551616)(m:cC w):
  Calls Tryz.prog 176 #[.int .u64 a,.int .u64 b] w fun r w'=>r=.returned (.int .u64 (mV a b:Nat))∧Below w.heap.size w w':=by
 have K:=aa (AQ a b w h l m)
 clear h l m
 generalize mV a b=o at*
 generalize mF a b=f at*
 go_enter Tryz.func176,Tryz.ntmps176
 go_wp2_with fail
 refine Calls.mono (uH K) ?_
 rintro e t ⟨rfl,d⟩
 clear K
 go_wp2
 go_ret
 exact⟨rfl,d⟩
theorem oq(a:Nat)(n:Int)(w:World)(h:a<18446744073709551616)(l:cC w):
  Calls Tryz.prog 45 #[.int .u64 a,.int .i64 n] w fun r w'=>r=.returned (.int .u64 (xV a n:Nat))∧Below w.heap.size w w':=by
 have K:=aa (uT a n w h l)
 clear h l
 generalize xV a n=o at*
 generalize xF a n=f at*
 go_enter Tryz.func45,Tryz.ntmps45
 go_wp2_with fail
 refine Calls.mono (uH K) ?_
 rintro e m ⟨rfl,d⟩
 clear K
 go_wp2
 go_ret
 exact⟨rfl,d⟩
theorem Bx(z A:Option Addr)(n m c d:Nat)(w:World):
  Calls Tryz.prog 193 #[.slice z n c,.slice A m d] w fun r w'=>r=.returned (.bool (decide (n≤64∧n=m)))∧w=w':=by
 by_cases t:n≤64
 ·have f:(n:Int)≤64:=by omega
  by_cases l:n=m
  ·rw[decide_eq_true (And.intro t l)]
   subst l
   go_enter Tryz.func193,Tryz.ntmps193
   go_wp2
   go_ret
   exact⟨rfl,rfl⟩
  ·rw[decide_eq_false (fun h=>l h.2)]
   have D:decide ((n:Int)=(m:Int))=false:=decide_eq_false (by omega)
   go_enter Tryz.func193,Tryz.ntmps193
   go_wp2
   go_ret
   exact⟨by simp;omega,rfl⟩
 ·rw[decide_eq_false (fun h=>t h.1)]
  have f:(64:Int)<(n:Int):=by omega
  go_enter Tryz.func193,Tryz.ntmps193
  go_wp2
  go_ret
  exact⟨by simp,rfl⟩
theorem gR(b:Nat)(w:World)(_h:b<18446744073709551616):
  Calls Tryz.prog 93 #[.int .u64 b] w fun r w'=>r=.returned (.float .f64 b)∧w=w':=by
 have hF:=fun W=>d9 b W
 have d:IntKind.u64.wrap (b:Int)=(b:Int):=by simp only[IntKind.wrap_u64];omega
 go_enter Tryz.func93,Tryz.ntmps93
 go_wp2
 go_ret
 exact⟨rfl,rfl⟩
theorem qd(R v:Nat)(w:World)(C:∀w',Calls Tryz.prog 63 #[.int .u64 (R:Nat)] w' fun r d=>r=.returned (.int .u64 (v:Nat))∧w'=d):
  Calls Tryz.prog 27 #[.float .f64 R] w fun r w'=>r=.returned (.int .u64 (v:Nat))∧w=w':=by
 have K:=aa C
 have f:=fun R W=>kz R W
 clear C
 go_enter Tryz.func27,Tryz.ntmps27
 go_wp2_with fail
 refine(uH K _).mono ?_
 rintro e h ⟨rfl,rfl⟩
 clear K
 go_wp2
 go_ret
 exact⟨rfl,rfl⟩
theorem Bz(a b v:Nat)(o:Option Nat)(w:World)
  (D:∀i w',(binOp .add i (.float .f64 a) (.float .f64 b)).run Tryz.prog w'=.ok (.float .f64 (fC o a b w')) (lj o w'))
  (f:∀w',Calls Tryz.prog 93 #[.int .u64 a] w' fun r d=>r=.returned (.float .f64 a)∧w'=d)
  (h:∀w',Calls Tryz.prog 93 #[.int .u64 b] w' fun r d=>r=.returned (.float .f64 b)∧w'=d)
  (l:∀u w',Calls Tryz.prog 27 #[.float .f64 (fC o a b u)] w' fun r d=>r=.returned (.int .u64 v)∧w'=d):
  Calls Tryz.prog 126 #[.int .u64 a,.int .u64 b] w fun r w'=>r=.returned (.int .u64 (v:Nat))∧Below w.heap.size w w':=by
 have m:=aa f;have t:=aa h;have z:=aa l
 have B:=aa (gy o w)
 clear f h l
 go_enter Tryz.func126,Tryz.ntmps126
 go_wp2_with fail
 refine(uH m _).mono ?_
 rintro e A ⟨rfl,rfl⟩
 go_wp2_with fail
 refine(uH t _).mono ?_
 rintro e A ⟨rfl,rfl⟩
 go_wp2_with fail
 refine(uH z _ _).mono ?_
 rintro e A ⟨rfl,rfl⟩
 clear m t z
 go_wp2
 go_ret
 exact⟨rfl,uH B⟩
theorem qe(a b:Nat)(w:World)(f:a<18446744073709551616)(h:b<18446744073709551616):
  Calls Tryz.prog 126 #[.int .u64 a,.int .u64 b] w fun r w'=>r=.returned (.int .u64 (aV a b:Nat))∧Below w.heap.size w w':=
 Bz a b (aV a b) (Ieee.double.add a b) w (fun i w'=>AW i a b w') (fun w'=>gR a w' f) (fun w'=>gR b w' h) (fun u w'=>qd _ _ w' (fun d=>p5 a b u d f h))
theorem BG(a b v:Nat)(o:Option Nat)(w:World)
  (D:∀i w',(binOp .mul i (.float .f64 a) (.float .f64 b)).run Tryz.prog w'=.ok (.float .f64 (fC o a b w')) (lj o w'))
  (f:∀w',Calls Tryz.prog 93 #[.int .u64 a] w' fun r d=>r=.returned (.float .f64 a)∧w'=d)
  (h:∀w',Calls Tryz.prog 93 #[.int .u64 b] w' fun r d=>r=.returned (.float .f64 b)∧w'=d)
  (l:∀u w',Calls Tryz.prog 27 #[.float .f64 (fC o a b u)] w' fun r d=>r=.returned (.int .u64 v)∧w'=d):
  Calls Tryz.prog 86 #[.int .u64 a,.int .u64 b] w fun r w'=>r=.returned (.int .u64 (v:Nat))∧Below w.heap.size w w':=by
 have m:=aa f;have t:=aa h;have z:=aa l
 have B:=aa (gy o w)
 clear f h l
 go_enter Tryz.func86,Tryz.ntmps86
 go_wp2_with fail
 refine(uH m _).mono ?_
 rintro e A ⟨rfl,rfl⟩
 go_wp2_with fail
 refine(uH t _).mono ?_
 rintro e A ⟨rfl,rfl⟩
 go_wp2_with fail
 refine(uH z _ _).mono ?_
 rintro e A ⟨rfl,rfl⟩
 clear m t z
 go_wp2
 go_ret
 exact⟨rfl,uH B⟩
theorem jo(a b:Nat)(w:World)(f:a<18446744073709551616)(h:b<18446744073709551616):
  Calls Tryz.prog 86 #[.int .u64 a,.int .u64 b] w fun r w'=>r=.returned (.int .u64 (mV a b:Nat))∧Below w.heap.size w w':=
 BG a b (mV a b) (Ieee.double.mul a b) w (fun i w'=>s7 i a b w') (fun w'=>gR a w' f) (fun w'=>gR b w' h) (fun u w'=>qd _ _ w' (fun d=>yp a b u d f h))
theorem yM(a v:Nat)(o:Option Nat)(w:World)
  (f:∀w',Calls Tryz.prog 93 #[.int .u64 a] w' fun r d=>r=.returned (.float .f64 a)∧w'=d)
  (h:∀w',Calls Tryz.prog 154 #[.float .f64 a] w' fun r d=>r=.returned (.float .f64 (fC o a a w'))∧d=lj o w')
  (l:∀u w',Calls Tryz.prog 27 #[.float .f64 (fC o a a u)] w' fun r d=>r=.returned (.int .u64 v)∧w'=d):
  Calls Tryz.prog 127 #[.int .u64 a] w fun r w'=>r=.returned (.int .u64 (v:Nat))∧Below w.heap.size w w':=by
 have m:=aa f;have t:=aa h;have z:=aa l
 have B:=aa (gy o w)
 clear f h l
 go_enter Tryz.func127,Tryz.ntmps127
 go_wp2_with fail
 refine(uH m _).mono ?_
 rintro e A ⟨rfl,rfl⟩
 go_wp2_with fail
 refine(uH t _).mono ?_
 rintro e A ⟨rfl,rfl⟩
 go_wp2_with fail
 refine(uH z _ _).mono ?_
 rintro e A ⟨rfl,rfl⟩
 clear m t z
 go_wp2
 go_ret
 exact⟨rfl,uH B⟩
theorem vt(a:Nat)(w:World)(f:a<18446744073709551616):
  Calls Tryz.prog 127 #[.int .u64 a] w fun r w'=>r=.returned (.int .u64 (sV a:Nat))∧Below w.heap.size w w':=
 yM a (sV a) (Ieee.double.sqrt a) w (fun w'=>gR a w' f) (fun w'=>yI a _ w' (fun W=>yH a W)) (fun u w'=>qd _ _ w' (fun d=>vk a u d f))
theorem vu(a l v:Nat)(n:Int)(w:World)
  (f:∀w',Calls Tryz.prog 93 #[.int .u64 a] w' fun r d=>r=.returned (.float .f64 a)∧w'=d)
  (h:∀w',Calls Tryz.prog 92 #[.float .f64 a,.int .i64 n] w' fun r d=>r=.returned (.float .f64 l)∧w'=d)
  (m:∀w',Calls Tryz.prog 27 #[.float .f64 l] w' fun r d=>r=.returned (.int .u64 v)∧w'=d):
  Calls Tryz.prog 48 #[.int .u64 a,.int .i64 n] w fun r w'=>r=.returned (.int .u64 (v:Nat))∧Below w.heap.size w w':=by
 have t:=aa f;have z:=aa h;have A:=aa m
 clear f h m
 go_enter Tryz.func48,Tryz.ntmps48
 go_wp2_with fail
 refine(uH t _).mono ?_
 rintro e D ⟨rfl,rfl⟩
 go_wp2_with fail
 refine(uH z _).mono ?_
 rintro e D ⟨rfl,rfl⟩
 go_wp2_with fail
 refine(uH A _).mono ?_
 rintro e D ⟨rfl,rfl⟩
 clear t z A
 go_wp2
 go_ret
 exact⟨rfl,Below.refl _ _⟩
theorem mf(a:Nat)(n:Int)(w:World)(d:a<18446744073709551616)(h:-5000≤n∧n≤5000):
  Calls Tryz.prog 48 #[.int .u64 a,.int .i64 n] w fun r w'=>r=.returned (.int .u64 (xV a n:Nat))∧Below w.heap.size w w':=
 vu a (lV a n) (xV a n) n w (fun w'=>gR a w' d) (fun w'=>yy a n w' d h) (fun w'=>qd _ _ w' (fun f=>Bd a n f d))
theorem mg(A:Nat)(l:Array Value)(n:Nat)(f:Nat→Nat)(w:World)
  (L:∀m w,(callFunc A m).run Tryz.prog w=.ok (.enter A m) w) (V:n≤35184372088830)
  (d:∀w' k,Below w.heap.size w w'→k<n→Calls Tryz.prog A (#[.int .u64 (f k:Nat),.int .i64 (k:Nat)]++l) w' fun e F=>e=.returned (.int .u64 (f (k+1):Nat))∧Below w'.heap.size w' F):
  Calls Tryz.prog 164 #[.int .i64 n,.int .u64 (f 0:Nat),.func (.func A) #[] l] w fun e w'=>e=.returned (.int .u64 (f n:Nat))∧Below w.heap.size w w':=by
 have M:=aa d
 clear d
 go_enter Tryz.func164,Tryz.ntmps164
 go_wp2_with fail
 go_loopw[7,11] (fun t i wr=>∃k:Nat,k≤n∧i=.int .i64 k∧t=.int .u64 (f k:Nat)∧Hid (Below w.heap.size w wr)) (fun _ i _=>n-(intOf i).toNat)
 case atStart=>exact⟨0,Nat.zero_le _,rfl,rfl,Below.refl _ _⟩
 case round=>
  obtain⟨k,X,rfl,rfl,D⟩:=hrel
  by_cases G:k<n
  ·have N:(k:Int)<(n:Int):=by omega
   have C:=aa (fun w' h=>uH M w' k h G)
   obtain⟨o,K⟩:∃o,f (k+1)=o:=⟨_,rfl⟩
   rw[K]at C
   have O:=aa K
   clear K
   go_wp2_with fail
   refine(uH C _ D.out).mono ?_
   rintro e U ⟨rfl,z⟩
   have Q:Hid (Below w.heap.size w U):=D.out.trans (z.mono D.out.size)
   clear z C
   go_wp2_with fail
   go_round
   case rel=>exact⟨k+1,by omega,by go_num,by rw[uH O],Q⟩
   case measure=>simp[intOf];omega
  ·have H:k=n:=by omega
   subst H
   go_wp2_with fail
   exact bodyPost_ret (v:=.int .u64 (f k:Nat)) (by simp[results,Tryz.results164,go_sem]) rfl ⟨rfl,D.out⟩
theorem tk(A:Nat)(l:Array Value)(n:Nat)(f:Nat→Bool)(w:World)
  (L:∀m w,(callFunc A m).run Tryz.prog w=.ok (.enter A m) w) (V:n≤35184372088830)
  (d:∀w' k,Below w.heap.size w w'→k<n→Calls Tryz.prog A (#[.bool (f k),.int .i64 (k:Nat)]++l) w' fun e F=>e=.returned (.bool (f (k+1)))∧Below w'.heap.size w' F):
  Calls Tryz.prog 77 #[.int .i64 n,.bool (f 0),.func (.func A) #[] l] w fun e w'=>e=.returned (.bool (f n))∧Below w.heap.size w w':=by
 have M:=aa d
 clear d
 go_enter Tryz.func77,Tryz.ntmps77
 go_wp2_with fail
 go_loopw[7,11] (fun t i wr=>∃k:Nat,k≤n∧i=.int .i64 k∧t=.bool (f k)∧Hid (Below w.heap.size w wr)) (fun _ i _=>n-(intOf i).toNat)
 case atStart=>exact⟨0,Nat.zero_le _,rfl,rfl,Below.refl _ _⟩
 case round=>
  obtain⟨k,X,rfl,rfl,D⟩:=hrel
  by_cases G:k<n
  ·have N:(k:Int)<(n:Int):=by omega
   have C:=aa (fun w' h=>uH M w' k h G)
   obtain⟨o,K⟩:∃o,f (k+1)=o:=⟨_,rfl⟩
   rw[K]at C
   have O:=aa K
   clear K
   go_wp2_with fail
   refine(uH C _ D.out).mono ?_
   rintro e U ⟨rfl,z⟩
   have Q:Hid (Below w.heap.size w U):=D.out.trans (z.mono D.out.size)
   clear z C
   go_wp2_with fail
   go_round
   case rel=>exact⟨k+1,by omega,by go_num,by rw[uH O],Q⟩
   case measure=>simp[intOf];omega
  ·have H:k=n:=by omega
   subst H
   go_wp2_with fail
   exact bodyPost_ret (v:=.bool (f k)) (by simp[results,Tryz.results77,go_sem]) rfl ⟨rfl,D.out⟩
def ib(x:Nat):Value:=.int .u64 (x:Int)
def bg(w:World)(g:Nat)(S:List Nat):Prop:=w.heap[g]? =some (.cells (S.map ib).toArray 31 (0,0))
theorem bg.cell{w:World}{g:Nat}{S:List Nat}(h:bg w g S)(j:Nat)(d:j<S.length):w.cell? ⟨g,j,none⟩=some (.int .u64 ((S[j]?.getD 0:Nat):Int)):=by
 rw[cell_of_row w g j _ _ _ h]
 simp[ib,d]
theorem bg.free{w:World}{g:Nat}{S:List Nat}(h:bg w g S)(j:Nat):w.frozen? ⟨g,j,none⟩=false:=frozen_of_row w g j _ _ h
theorem bg.set{w:World}{g:Nat}{S:List Nat}(h:bg w g S)(j x:Nat):bg (w.setCell ⟨g,j,none⟩ (.int .u64 (x:Int))) g (S.set j x):=by
 unfold bg
 rw[heap_setCell_same w g j _ _ _ h]
 simp[ib,List.map_set]
theorem bg.lt{w:World}{g:Nat}{S:List Nat}(h:bg w g S):g<w.heap.size:=(Array.getElem?_eq_some_iff.1 h).1
theorem bg.below{w w':World}{g:Nat}{S:List Nat}(h:bg w g S){B:Nat}(d:Below B w w')(f:g<B):bg w' g S:=by
 unfold bg;rw[d.block g f];exact h
theorem bg.made(w:World)(n:Nat):bg (w.alloc (.cells (madeCells #[.int .u64 0] n) 31)) w.heap.size (List.replicate n 0):=by
 unfold bg
 rw[heap_alloc_new w _]
 have:madeCells #[Value.int .u64 0] n=((List.replicate n 0).map ib).toArray:=by
  apply Array.toList_inj.1
  refine List.ext_getElem (by simp[madeCells]) fun i d f=>?_
  simp[madeCells,ib,Nat.mod_one]
 rw[this]
def vv(f:Nat→Nat)(n k:Nat):List Nat:=(List.range n).map (fun j=>if j<k then f j else 0)
theorem Gf(f:Nat→Nat)(n:Nat):vv f n 0=List.replicate n 0:=by
 unfold vv
 refine List.ext_getElem (by simp) fun i d h=>?_
 simp
theorem wS(f:Nat→Nat)(n k:Nat):(vv f n k).length=n:=by simp[vv]
theorem wT(f:Nat→Nat)(n k:Nat):(vv f n k).set k (f k)=vv f n (k+1):=by
 unfold vv
 refine List.ext_getElem (by simp) fun i l m=>?_
 rw[List.getElem_set]
 simp only[List.getElem_map,List.getElem_range]
 by_cases h:k=i
 ·subst h;simp
 ·rw[if_neg h]
  by_cases d:i<k
  ·rw[if_pos d,if_pos (by omega)]
  ·rw[if_neg d,if_neg (by omega)]
theorem tl(f:Nat→Nat)(n:Nat):vv f n n=(List.range n).map f:=by
 unfold vv
 refine List.ext_getElem (by simp) fun i h d=>?_
 simp only[List.getElem_map,List.getElem_range]
 rw[if_pos (by simpa using d)]
theorem BH(F:Nat)(m:Array Value)(n:Nat)(f:Nat→Nat)(w:World)
  (U:∀t w,(callFunc F t).run Tryz.prog w=.ok (.enter F t) w) (hn:n≤35184372088830)
  (d:∀w' k,Below w.heap.size w w'→k<n→Calls Tryz.prog F (#[.int .i64 (k:Nat)]++m) w' fun e H=>e=.returned (.int .u64 (f k:Nat))∧Below w'.heap.size w' H):
  Calls Tryz.prog 167 #[.int .i64 n,.func (.func F) #[] m] w fun e w'=>∃g,e=.returned (.slice (some ⟨g,0,none⟩) n n)∧w.heap.size≤g∧bg w' g ((List.range n).map f)∧Below w.heap.size w w':=by
 have V:=aa d
 have K:=run_make_row' (P:=Tryz.prog) 22 31 (.int .u64 0) 8 Tryz.underlying22 (by kernel_rfl) rfl .i64 .i64 n (by omega) (by omega)
 have N:=aa (bg.made w n)
 have O:=aa ((Below.refl w.heap.size w).alloc (Nat.le_refl _) (.cells (madeCells #[.int .u64 0] n) 31))
 clear d
 go_enter Tryz.func167,Tryz.ntmps167
 go_wp2_with fail
 clear K
 go_loopw[10] (fun i wr=>∃k:Nat,k≤n∧i=.int .i64 k∧Hid (bg wr w.heap.size (vv f n k))∧Hid (Below w.heap.size w wr)) (fun i _=>n-(intOf i).toNat)
 case atStart=>exact⟨0,Nat.zero_le _,rfl,by rw[Gf];exact N,O⟩
 case round=>
  clear N O
  obtain⟨k,hk,rfl,G,D⟩:=hrel
  by_cases A:k<n
  ·have X:(k:Int)<(n:Int):=by omega
   have C:=aa (fun w' h=>uH V w' k h A)
   obtain⟨o,M⟩:∃o,f k=o:=⟨_,rfl⟩
   rw[M]at C
   have Y:=aa M
   clear M
   go_wp2_with fail
   refine(uH C _ D.out).mono ?_
   rintro e w2 ⟨rfl,z⟩
   have l:=(uH G).below z (uH G).lt
   have c0:=l.cell k (by rw[wS];exact A)
   have f0:=l.free k
   have Z:=aa (l.set k o)
   have Q:Below w.heap.size w w2:=D.out.trans (z.mono D.out.size)
   have B3:=aa (Q.setCell (p:=⟨w.heap.size,k,none⟩) (Nat.le_refl _) (.int .u64 (o:Int)))
   clear z C G D Q l
   go_wp2_with fail
   go_round
   case rel=>exact⟨k+1,by omega,by go_num,by rw[←wT,uH Y];exact Z,B3⟩
   case measure=>simp[intOf];omega
  ·have L:k=n:=by omega
   subst L
   go_wp2_with fail
   exact bodyPost_ret (v:=.slice (some ⟨w.heap.size,0,none⟩) k k) (by simp[results,Tryz.results167,go_sem]) rfl ⟨_,rfl,Nat.le_refl _,by rw[←tl];exact uH G,D.out⟩
attribute [local go_sem ↓] Go.wp_at_zero Go.wp_at_succ
theorem ai{w w':World}{p:Addr}{v:Value}(h:w.cell? p=some v)(d:Below w.heap.size w w'):w'.cell? p=some v:=by
 rw[d.cell (World.block_lt_of_cell? w _ h)];exact h
theorem Fg(s x y p o k n m c d H f:Nat)(t z A D:Nat)(w:World)(hk:k<n)(hm:k<m)
  (K:w.cell? ⟨H,0,none⟩=some (.slice (some ⟨t,z,none⟩) n c)) (L:w.cell? ⟨f,0,none⟩=some (.slice (some ⟨A,D,none⟩) m d))
  (M:w.cell? ⟨t,z+k,none⟩=some (.int .u64 (x:Nat))) (N:w.cell? ⟨A,D+k,none⟩=some (.int .u64 (y:Nat)))
  (O:∀w',Below w.heap.size w w'→Calls Tryz.prog 176 #[.int .u64 x,.int .u64 y] w' fun r l=>r=.returned (.int .u64 (p:Nat))∧Below w'.heap.size w' l)
  (Q:∀w',Below w.heap.size w w'→Calls Tryz.prog 188 #[.int .u64 s,.int .u64 p] w' fun r l=>r=.returned (.int .u64 (o:Nat))∧Below w'.heap.size w' l):
  Calls Tryz.prog 187 #[.int .u64 s,.int .i64 k,.pointer (some ⟨H,0,none⟩),.pointer (some ⟨f,0,none⟩)] w fun e w'=>e=.returned (.int .u64 (o:Nat))∧Below w.heap.size w w':=by
 have V:=aa O;have X:=aa Q
 have Y:(k:Int)<(n:Int):=by omega
 have Z:(k:Int)<(m:Int):=by omega
 have U:=aa (fun w' (h:Below w.heap.size w w')=>(show Below w.heap.size w w'∧w'.cell? ⟨H,0,none⟩=some (.slice (some ⟨t,z,none⟩) n c)∧w'.cell? ⟨f,0,none⟩=some (.slice (some ⟨A,D,none⟩) m d)∧w'.cell? ⟨t,z+k,none⟩=some (.int .u64 (x:Nat))∧w'.cell? ⟨A,D+k,none⟩=some (.int .u64 (y:Nat))from
  ⟨h,ai K h,ai L h,ai M h,ai N h⟩))
 clear O Q K L M N
 go_enter Tryz.func187,Tryz.ntmps187
 go_wp2_with fail
 go_region_held3(fun w'=>Below w.heap.size w w'∧w'.cell? ⟨H,0,none⟩=some (.slice (some ⟨t,z,none⟩) n c)∧w'.cell? ⟨f,0,none⟩=some (.slice (some ⟨A,D,none⟩) m d)∧w'.cell? ⟨t,z+k,none⟩=some (.int .u64 (x:Nat))∧w'.cell? ⟨A,D+k,none⟩=some (.int .u64 (y:Nat)))
  (first|exact uH U _ (Below.refl _ _).drew|exact uH U _ (by assumption)|fail "KK")
  (first|(go_at_call 176;refine(uH V _ (And.left (by assumption))).mono ?_;rintro e w1 ⟨rfl,F⟩;have ae:Below w.heap.size w w1:=Below.trans (And.left (by assumption)) (F.mono (Below.size (And.left (by assumption))));clear F)|(go_at_call 188;refine(uH X _ (And.left (by assumption))).mono ?_;rintro e w2 ⟨rfl,G⟩;have aj:Below w.heap.size w w2:=Below.trans (And.left (by assumption)) (G.mono (Below.size (And.left (by assumption))));clear G)|fail "NO ARM")
 go_wp2
 go_ret
 exact⟨rfl,And.left (by assumption)⟩
theorem BI(x o k n c m bk:Nat)(j:Int)(d f:Nat)(w:World)(N:k<n)(O:-5000≤j∧j≤5000)
  (z:w.cell? ⟨m,0,none⟩=some (.slice (some ⟨d,f,none⟩) n c)) (A:w.cell? ⟨bk,0,none⟩=some (.int .i64 j))
  (D:w.cell? ⟨d,f+k,none⟩=some (.int .u64 (x:Nat)))
  (F:∀w',Below w.heap.size w w'→Calls Tryz.prog 45 #[.int .u64 x,.int .i64 (-j)] w' fun r t=>r=.returned (.int .u64 (o:Nat))∧Below w'.heap.size w' t):
  Calls Tryz.prog 168 #[.int .i64 k,.pointer (some ⟨m,0,none⟩),.pointer (some ⟨bk,0,none⟩)] w fun e w'=>e=.returned (.int .u64 (o:Nat))∧Below w.heap.size w w':=by
 have H:=aa F
 have K:(k:Int)<(n:Int):=by omega
 have Q:IntKind.i64.wrap (-j)= -j:=by simp only[IntKind.wrap_i64];omega
 have G:=aa (fun w' (h:Below w.heap.size w w')=>(show Below w.heap.size w w'∧w'.cell? ⟨m,0,none⟩=some (.slice (some ⟨d,f,none⟩) n c)∧w'.cell? ⟨d,f+k,none⟩=some (.int .u64 (x:Nat))∧w'.cell? ⟨bk,0,none⟩=some (.int .i64 j)from
  ⟨h,ai z h,ai D h,ai A h⟩))
 clear F z D A
 go_enter Tryz.func168,Tryz.ntmps168
 go_wp2_with fail
 go_region_held3(fun w'=>Below w.heap.size w w'∧w'.cell? ⟨m,0,none⟩=some (.slice (some ⟨d,f,none⟩) n c)∧w'.cell? ⟨d,f+k,none⟩=some (.int .u64 (x:Nat))∧w'.cell? ⟨bk,0,none⟩=some (.int .i64 j))
  (first|exact uH G _ (Below.refl _ _).drew|exact uH G _ (by assumption)|fail "KK")
  (first|(go_at_call 45;refine(uH H _ (And.left (by assumption))).mono ?_;rintro e M ⟨rfl,l⟩;have L:Below w.heap.size w M:=Below.trans (And.left (by assumption)) (l.mono (Below.size (And.left (by assumption))));clear l)|fail "NO ARM")
 go_wp2
 go_ret
 exact⟨rfl,And.left (by assumption)⟩
theorem tn(m x r o k n c t:Nat)(z A:Nat)(w:World)(L:k<n)
  (M:w.cell? ⟨t,0,none⟩=some (.slice (some ⟨z,A,none⟩) n c))
  (N:w.cell? ⟨z,A+k,none⟩=some (.int .u64 (x:Nat)))
  (D:∀w',Below w.heap.size w w'→Calls Tryz.prog 90 #[.int .u64 x] w' fun e d=>e=.returned (.int .u64 (r:Nat))∧Below w'.heap.size w' d)
  (F:∀w',Below w.heap.size w w'→Calls Tryz.prog 166 #[.int .u64 m,.int .u64 r] w' fun e d=>e=.returned (.int .u64 (o:Nat))∧Below w'.heap.size w' d):
  Calls Tryz.prog 165 #[.int .u64 m,.int .i64 k,.pointer (some ⟨t,0,none⟩)] w fun e w'=>e=.returned (.int .u64 (o:Nat))∧Below w.heap.size w w':=by
 have G:=aa D;have H:=aa F
 have K:(k:Int)<(n:Int):=by omega
 clear D F
 go_enter Tryz.func165,Tryz.ntmps165
 go_wp2_with fail
 refine(uH G _ (Below.refl _ _)).mono ?_
 rintro e O ⟨rfl,f⟩
 have h:=aa f
 clear G f
 go_wp2_with fail
 refine(uH H _ (uH h)).mono ?_
 rintro e Q ⟨rfl,l⟩
 clear H
 go_wp2
 go_ret
 exact⟨rfl,(uH h).trans (l.mono (uH h).size)⟩
theorem vw(q r:Bool)(x k n c h:Nat)(l m:Nat)(w:World)(D:k<n)
  (F:w.cell? ⟨h,0,none⟩=some (.slice (some ⟨l,m,none⟩) n c))
  (G:w.cell? ⟨l,m+k,none⟩=some (.int .u64 (x:Nat)))
  (t:∀w',Below w.heap.size w w'→Calls Tryz.prog 68 #[.int .u64 x] w' fun e d=>e=.returned (.bool r)∧Below w'.heap.size w' d):
  Calls Tryz.prog 78 #[.bool q,.int .i64 k,.pointer (some ⟨h,0,none⟩)] w fun e w'=>e=.returned (.bool (q&&r))∧Below w.heap.size w w':=by
 have z:=aa t
 have A:(k:Int)<(n:Int):=by omega
 clear t
 cases q
 ·go_enter Tryz.func78,Tryz.ntmps78
  go_wp2
  go_ret
  exact⟨rfl,Below.refl _ _⟩
 ·go_enter Tryz.func78,Tryz.ntmps78
  go_wp2_with fail
  refine(uH z _ (Below.refl _ _)).mono ?_
  rintro e H ⟨rfl,f⟩
  clear z
  go_wp2
  go_ret
  exact⟨rfl,f⟩
theorem dq(w:World)(x:Value)(t:TypeId):(w.alloc (.cells #[x] t)).cell? ⟨w.heap.size,0,none⟩=some x:=by
 rw[cell_of_row _ _ 0 _ _ _ (heap_alloc_new w _)];rfl
theorem an(w:World)(o:Obj):(w.alloc o).heap.size=w.heap.size+1:=by simp
theorem ac(w:World)(o:Obj):Below w.heap.size w (w.alloc o):=(Below.refl _ _).alloc (Nat.le_refl _) o
theorem ad.lt{w:World}{f:Option Addr}{d:Nat}{I:List Int}(h:ad w f d I)(j:Nat):aL I j<18446744073709551616:=(h.wf j).2
def jH(I J:List Int):Nat→Nat
 |0=>0
 |k+1=>aV (jH I J k) (mV (aL I k) (aL J k))
def jp(I:List Int):Nat→Nat
 |0=>0
 |k+1=>mx (jp I k) (fR (aL I k))
def gA(I:List Int):Nat→Bool
 |0=>true
 |k+1=>gA I k&&ap (aL I k)
theorem iF(I J:List Int)(k:Nat):jH I J k<18446744073709551616:=by
 induction k with
 |zero=>show 0<18446744073709551616;omega
 |succ k ih=>exact nI _ _ ih (iZ _ _)
theorem Js(a b:Nat)(d:a<18446744073709551616)(f:b<18446744073709551616):mx a b<18446744073709551616:=by
 unfold mx
 repeat' split
 all_goals omega
theorem ot(I:List Int)(k:Nat):jp I k<18446744073709551616:=by
 induction k with
 |zero=>show 0<18446744073709551616;omega
 |succ k ih=>exact Js _ _ ih (by have:=jF (aL I k);omega)
theorem Ie(l t:Option Addr)(n m c d r:Nat)(w:World)
  (C:Calls Tryz.prog 164 #[.int .i64 n,.int .u64 0,.func (.func 187) #[] #[.pointer (some ⟨w.heap.size,0,none⟩),.pointer (some ⟨w.heap.size+1,0,none⟩)]] ((w.alloc (.cells #[.slice l n c] 22)).alloc (.cells #[.slice t m d] 22)) fun e f=>e=.returned (.int .u64 (r:Nat))∧Below w.heap.size w f):
  Calls Tryz.prog 170 #[.slice l n c,.slice t m d] w fun e w'=>e=.returned (.int .u64 (r:Nat))∧Below w.heap.size w w':=by
 have K:=aa C
 clear C
 go_enter Tryz.func170,Tryz.ntmps170
 go_wp2_with fail
 refine Calls.mono (uH K) ?_
 rintro e z ⟨rfl,h⟩
 clear K
 go_wp2
 go_ret
 exact⟨rfl,h⟩
theorem Ig(d:Array Value)(w:World):(callFunc 187 d).run Tryz.prog w=.ok (.enter 187 d) w:=by
 simp only[callFunc,go_sem]
 rfl
theorem wU(m t:Option Addr)(c d:Nat)(I J:List Int)(w:World)(F:ad w m c I)(G:ad w t d J)(hl:I.length=J.length)(Q:I.length≤35184372088830)(U:cC w):
  Calls Tryz.prog 170 #[.slice m I.length c,.slice t J.length d] w fun e w'=>e=.returned (.int .u64 (jH I J I.length:Nat))∧Below w.heap.size w w':=by
 refine Ie _ _ _ _ _ _ _ w ?_
 have H:=ac w (.cells #[.slice m I.length c] 22)
 have V:=dq w (.slice m I.length c) 22
 have X:=an w (.cells #[.slice m I.length c] 22)
 generalize w.alloc (.cells #[.slice m I.length c] 22)=D at*
 have K:=ac D (.cells #[.slice t J.length d] 22)
 have L:=dq D (.slice t J.length d) 22
 have Y:=ai V K
 generalize D.alloc (.cells #[.slice t J.length d] 22)=O at*
 have A:Below w.heap.size w O:=H.trans (K.mono H.size)
 rw[X]at L
 refine Calls.mono (mg 187 #[.pointer (some ⟨w.heap.size,0,none⟩),.pointer (some ⟨w.heap.size+1,0,none⟩)] I.length (jH I J) O Ig Q ?_) ?_
 ·intro w' k z N
  have l:Below w.heap.size w w':=A.trans (z.mono A.size)
  obtain⟨Z,o1,e1,_,z1⟩:=(F.below l).ne (by omega)
  obtain⟨g2,o2,e2,_,z2⟩:=(G.below l).ne (by omega)
  have u1:=ai Y z
  have u2:=ai L z
  rw[e1]at u1
  rw[e2]at u2
  have M:=U.all l
  exact Fg (jH I J k) (aL I k) (aL J k) (mV (aL I k) (aL J k)) (jH I J (k+1)) k I.length J.length c d w.heap.size (w.heap.size+1) Z o1 g2 o2 w' N (by omega) u1 u2 (z1 k N) (z2 k (by omega))
   (fun f h=>oo _ _ f (F.lt k) (G.lt k) (M.all h)) (fun f h=>Bw _ _ f (iF I J k) (iZ _ _) (M.all h))
 ·rintro e w' ⟨rfl,z⟩
  exact⟨rfl,A.trans (z.mono A.size)⟩
theorem Fh(h l:Option Addr)(n m c d r:Nat)(w:World)
  (F:∀w',Calls Tryz.prog 193 #[.slice h n c,.slice l m d] w' fun e f=>e=.returned (.bool true)∧w'=f)
  (C:Calls Tryz.prog 170 #[.slice h n c,.slice l m d] w fun e f=>e=.returned (.int .u64 (r:Nat))∧Below w.heap.size w f):
  Calls Tryz.prog 175 #[.slice h n c,.slice l m d] w fun e w'=>e=.returned (.tuple #[.int .u64 (r:Nat),.int .i64 0])∧Below w.heap.size w w':=by
 have K:=aa C;have L:=aa F
 clear C F
 go_enter Tryz.func175,Tryz.ntmps175
 go_wp2_with fail
 refine(uH L _).mono ?_
 rintro e z ⟨rfl,rfl⟩
 go_wp2_with fail
 refine Calls.mono (uH K) ?_
 rintro e z ⟨rfl,t⟩
 clear K L
 go_wp2
 exact bodyPost_ret (v:=.tuple #[.int .u64 (r:Nat),.int .i64 0]) (by simp[results,Tryz.results175,go_sem]) rfl ⟨rfl,t⟩
theorem Fi(h l:Option Addr)(n m c d:Nat)(w:World)
  (F:∀w',Calls Tryz.prog 193 #[.slice h n c,.slice l m d] w' fun e f=>e=.returned (.bool false)∧w'=f):
  Calls Tryz.prog 175 #[.slice h n c,.slice l m d] w fun e w'=>e=.returned (.tuple #[.int .u64 0,.int .i64 3])∧Below w.heap.size w w':=by
 have L:=aa F
 clear F
 go_enter Tryz.func175,Tryz.ntmps175
 go_wp2_with fail
 refine(uH L _).mono ?_
 rintro e t ⟨rfl,rfl⟩
 clear L
 go_wp2
 exact bodyPost_ret (v:=.tuple #[.int .u64 0,.int .i64 3]) (by simp[results,Tryz.results175,go_sem]) rfl ⟨rfl,Below.refl _ _⟩
def II(I J:List Int):Bool:=decide (I.length≤64∧I.length=J.length)
theorem BJ(f l:Option Addr)(c d:Nat)(I J:List Int)(w:World)(m:ad w f c I)(t:ad w l d J)(z:cC w):
  Calls Tryz.prog 175 #[.slice f I.length c,.slice l J.length d] w fun e w'=>e=.returned (.tuple #[.int .u64 (if II I J=true then jH I J I.length else 0:Nat),.int .i64 (if II I J=true then 0 else 3)])∧Below w.heap.size w w':=by
 have F:=fun w'=>Bx f l I.length J.length c d w'
 cases h:II I J
 ·unfold II at h
  rw[h]at F
  exact Fi f l _ _ c d w F
 ·unfold II at h
  rw[h]at F
  have A:=of_decide_eq_true h
  exact Fh f l _ _ c d _ w F (wU f l c d I J w m t A.2 (by omega) z)
theorem bg.bits{w:World}{g:Nat}{S:List Nat}(h:bg w g S)(f:∀x∈S,x<18446744073709551616):ad w (some ⟨g,0,none⟩) S.length (S.map (fun x:Nat=>(x:Int))):=by
 refine⟨by simp,?_,.inr ⟨g,0,rfl,h.lt,fun i l=>?_⟩⟩
 ·intro x t
  obtain⟨y,m,rfl⟩:=List.mem_map.1 t
  have:=f y m
  omega
 ·have d:i<S.length:=by simpa using l
  rw[Nat.zero_add,h.cell i d]
  simp[d]
def IJ(n:Nat)(f:Nat→Nat):List Int:=((List.range n).map f).map (fun x:Nat=>(x:Int))
theorem Fj(n:Nat)(f:Nat→Nat):(IJ n f).length=n:=by simp[IJ]
theorem BK(n:Nat)(f:Nat→Nat)(j:Nat)(d:j<n):aL (IJ n f) j=f j:=by simp[IJ,aL,d]
theorem vx(d:Array Value)(w:World):(callFunc 165 d).run Tryz.prog w=.ok (.enter 165 d) w:=by
 simp only[callFunc,go_sem]
 rfl
theorem yN(d:Array Value)(w:World):(callFunc 78 d).run Tryz.prog w=.ok (.enter 78 d) w:=by
 simp only[callFunc,go_sem]
 rfl
theorem Fk(d:Array Value)(w:World):(callFunc 168 d).run Tryz.prog w=.ok (.enter 168 d) w:=by
 simp only[callFunc,go_sem]
 rfl
end Go.Proofs.YtnnfjeieennffaaGreatDoor
