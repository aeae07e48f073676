/- Part 29 of the texts. -/
import Derived.Test.YtdhmglmccafbnaaGreatDoorPartw28
set_option maxHeartbeats 16000000
set_option maxRecDepth 20000
namespace Go.Proofs.YtdhmglmccafbnaaGreatDoor
open Go.RowKit
attribute [local go_sem ↓] Go.wp_at_zero Go.wp_at_succ
theorem vd(ao bo:Option Addr)(n c d g yy xx v1 v2 z v3 v4 v5 v6 v7 u0 v8 v9 D C s:Nat)(w:World)
  (D1:∀w',Below w.heap.size w w'→Calls Tryz.prog 240 #[.slice bo n d,.slice bo n d] w' fun e h=>e=.returned (.int .u64 (yy:Nat))∧Below w'.heap.size w' h)
  (D2:∀w',Below w.heap.size w w'→Calls Tryz.prog 240 #[.slice ao n c,.slice ao n c] w' fun e h=>e=.returned (.int .u64 (xx:Nat))∧Below w'.heap.size w' h)
  (A1:∀w',Below w.heap.size w w'→Calls Tryz.prog 174 #[.int .u64 (yy:Nat),.int .u64 (xx:Nat)] w' fun e h=>e=.returned (.int .u64 (v1:Nat))∧Below w'.heap.size w' h)
  (A2:∀w',Below w.heap.size w w'→Calls Tryz.prog 260 #[.int .u64 (g:Nat),.int .u64 (g:Nat)] w' fun e h=>e=.returned (.int .u64 (v2:Nat))∧Below w'.heap.size w' h)
  (A3:∀w',Below w.heap.size w w'→Calls Tryz.prog 176 #[.int .u64 (v1:Nat),.int .u64 (v2:Nat)] w' fun e h=>e=.returned (.int .u64 (z:Nat))∧Below w'.heap.size w' h)
  (A4:∀w',Below w.heap.size w w'→Calls Tryz.prog 124 #[.int .u64 (z:Nat)] w' fun e h=>e=.returned (.int .u64 (v3:Nat))∧Below w'.heap.size w' h)
  (A5:∀w',Below w.heap.size w w'→Calls Tryz.prog 175 #[.int .u64 (z:Nat),.int .u64 (z:Nat)] w' fun e h=>e=.returned (.int .u64 (v4:Nat))∧Below w'.heap.size w' h)
  (A6:∀w',Below w.heap.size w w'→Calls Tryz.prog 260 #[.int .u64 4607182418800017408,.int .u64 (v4:Nat)] w' fun e h=>e=.returned (.int .u64 (v5:Nat))∧Below w'.heap.size w' h)
  (A7:∀w',Below w.heap.size w w'→Calls Tryz.prog 261 #[.int .u64 (v5:Nat)] w' fun e h=>e=.returned (.int .u64 (v6:Nat))∧Below w'.heap.size w' h)
  (A8:∀w',Below w.heap.size w w'→Calls Tryz.prog 260 #[.int .u64 (v3:Nat),.int .u64 (v6:Nat)] w' fun e h=>e=.returned (.int .u64 (v7:Nat))∧Below w'.heap.size w' h)
  (A9:∀w',Below w.heap.size w w'→Calls Tryz.prog 176 #[.int .u64 4607182418800017408,.int .u64 (v7:Nat)] w' fun e h=>e=.returned (.int .u64 (u0:Nat))∧Below w'.heap.size w' h)
  (AA:∀w',Below w.heap.size w w'→Calls Tryz.prog 187 #[.int .u64 (z:Nat)] w' fun e h=>e=.returned (.bool false)∧Below w'.heap.size w' h)
  (AC:∀w',Below w.heap.size w w'→Calls Tryz.prog 175 #[.int .u64 (u0:Nat),.int .u64 (u0:Nat)] w' fun e h=>e=.returned (.int .u64 (v8:Nat))∧Below w'.heap.size w' h)
  (AD:∀w',Below w.heap.size w w'→Calls Tryz.prog 260 #[.int .u64 4607182418800017408,.int .u64 (v8:Nat)] w' fun e h=>e=.returned (.int .u64 (v9:Nat))∧Below w'.heap.size w' h)
  (AE:∀w',Below w.heap.size w w'→Calls Tryz.prog 261 #[.int .u64 (v9:Nat)] w' fun e h=>e=.returned (.int .u64 (D:Nat))∧Below w'.heap.size w' h)
  (AF:∀w',Below w.heap.size w w'→Calls Tryz.prog 176 #[.int .u64 4607182418800017408,.int .u64 (D:Nat)] w' fun e h=>e=.returned (.int .u64 (C:Nat))∧Below w'.heap.size w' h)
  (AG:∀w',Below w.heap.size w w'→Calls Tryz.prog 175 #[.int .u64 (C:Nat),.int .u64 (u0:Nat)] w' fun e h=>e=.returned (.int .u64 (s:Nat))∧Below w'.heap.size w' h):
  Calls Tryz.prog 241 #[.slice ao n c,.slice bo n d,.int .u64 g] w fun e w'=>e=.returned (.tuple #[.int .u64 (C:Nat),.int .u64 (s:Nat)])∧Below w.heap.size w w':=by
 have f:=aa (Below.refl w.heap.size w)
 have F:=aa D1
 have G:=aa D2
 have H:=aa A1
 have J:=aa A2
 have K:=aa A3
 have L:=aa A4
 have M:=aa A5
 have N:=aa A6
 have O:=aa A7
 have Q:=aa A8
 have U:=aa A9
 have V:=aa AA
 have X:=aa AC
 have Y:=aa AD
 have Z:=aa AE
 have ae:=aa AF
 have am:=aa AG
 clear D1 D2 A1 A2 A3 A4 A5 A6 A7 A8 A9 AA AC AD AE AF AG
 go_enter Tryz.func241,Tryz.ntmps241
 go_wp2_with fail
 refine(uH F _ (uH f)).mono ?_
 rintro e u ⟨rfl,l⟩
 replace f:=aa ((uH f).trans (l.mono (uH f).size))
 clear l F
 go_wp2_with fail
 refine(uH G _ (uH f)).mono ?_
 rintro e u ⟨rfl,l⟩
 replace f:=aa ((uH f).trans (l.mono (uH f).size))
 clear l G
 go_wp2_with fail
 refine(uH H _ (uH f)).mono ?_
 rintro e u ⟨rfl,l⟩
 replace f:=aa ((uH f).trans (l.mono (uH f).size))
 clear l H
 go_wp2_with fail
 refine(uH J _ (uH f)).mono ?_
 rintro e u ⟨rfl,l⟩
 replace f:=aa ((uH f).trans (l.mono (uH f).size))
 clear l J
 go_wp2_with fail
 refine(uH K _ (uH f)).mono ?_
 rintro e u ⟨rfl,l⟩
 replace f:=aa ((uH f).trans (l.mono (uH f).size))
 clear l K
 go_wp2_with fail
 refine(uH L _ (uH f)).mono ?_
 rintro e u ⟨rfl,l⟩
 replace f:=aa ((uH f).trans (l.mono (uH f).size))
 clear l L
 go_wp2_with fail
 refine(uH M _ (uH f)).mono ?_
 rintro e u ⟨rfl,l⟩
 replace f:=aa ((uH f).trans (l.mono (uH f).size))
 clear l M
 go_wp2_with fail
 refine(uH N _ (uH f)).mono ?_
 rintro e u ⟨rfl,l⟩
 replace f:=aa ((uH f).trans (l.mono (uH f).size))
 clear l N
 go_wp2_with fail
 refine(uH O _ (uH f)).mono ?_
 rintro e u ⟨rfl,l⟩
 replace f:=aa ((uH f).trans (l.mono (uH f).size))
 clear l O
 go_wp2_with fail
 refine(uH Q _ (uH f)).mono ?_
 rintro e u ⟨rfl,l⟩
 replace f:=aa ((uH f).trans (l.mono (uH f).size))
 clear l Q
 go_wp2_with fail
 refine(uH U _ (uH f)).mono ?_
 rintro e u ⟨rfl,l⟩
 replace f:=aa ((uH f).trans (l.mono (uH f).size))
 clear l U
 go_wp2_with fail
 refine(uH V _ (uH f)).mono ?_
 rintro e u ⟨rfl,l⟩
 replace f:=aa ((uH f).trans (l.mono (uH f).size))
 clear l V
 go_wp2_with fail
 refine(uH X _ (uH f)).mono ?_
 rintro e u ⟨rfl,l⟩
 replace f:=aa ((uH f).trans (l.mono (uH f).size))
 clear l X
 go_wp2_with fail
 refine(uH Y _ (uH f)).mono ?_
 rintro e u ⟨rfl,l⟩
 replace f:=aa ((uH f).trans (l.mono (uH f).size))
 clear l Y
 go_wp2_with fail
 refine(uH Z _ (uH f)).mono ?_
 rintro e u ⟨rfl,l⟩
 replace f:=aa ((uH f).trans (l.mono (uH f).size))
 clear l Z
 go_wp2_with fail
 refine(uH ae _ (uH f)).mono ?_
 rintro e u ⟨rfl,l⟩
 replace f:=aa ((uH f).trans (l.mono (uH f).size))
 clear l ae
 go_wp2_with fail
 refine(uH am _ (uH f)).mono ?_
 rintro e u ⟨rfl,l⟩
 replace f:=aa ((uH f).trans (l.mono (uH f).size))
 clear l am
 go_wp2_with fail
 exact bodyPost_ret (v:=.tuple #[.int .u64 (C:Nat),.int .u64 (s:Nat)]) (by simp[results,Tryz.results241,go_sem]) rfl ⟨rfl,uH f⟩
theorem ve(ao bo:Option Addr)(n c d g yy xx v1 v2 z v3 v4 v5 v6 v7 u0 t v8 v9 D C s:Nat)(w:World)
  (D1:∀w',Below w.heap.size w w'→Calls Tryz.prog 240 #[.slice bo n d,.slice bo n d] w' fun e f=>e=.returned (.int .u64 (yy:Nat))∧Below w'.heap.size w' f)
  (D2:∀w',Below w.heap.size w w'→Calls Tryz.prog 240 #[.slice ao n c,.slice ao n c] w' fun e f=>e=.returned (.int .u64 (xx:Nat))∧Below w'.heap.size w' f)
  (A1:∀w',Below w.heap.size w w'→Calls Tryz.prog 174 #[.int .u64 (yy:Nat),.int .u64 (xx:Nat)] w' fun e f=>e=.returned (.int .u64 (v1:Nat))∧Below w'.heap.size w' f)
  (A2:∀w',Below w.heap.size w w'→Calls Tryz.prog 260 #[.int .u64 (g:Nat),.int .u64 (g:Nat)] w' fun e f=>e=.returned (.int .u64 (v2:Nat))∧Below w'.heap.size w' f)
  (A3:∀w',Below w.heap.size w w'→Calls Tryz.prog 176 #[.int .u64 (v1:Nat),.int .u64 (v2:Nat)] w' fun e f=>e=.returned (.int .u64 (z:Nat))∧Below w'.heap.size w' f)
  (A4:∀w',Below w.heap.size w w'→Calls Tryz.prog 124 #[.int .u64 (z:Nat)] w' fun e f=>e=.returned (.int .u64 (v3:Nat))∧Below w'.heap.size w' f)
  (A5:∀w',Below w.heap.size w w'→Calls Tryz.prog 175 #[.int .u64 (z:Nat),.int .u64 (z:Nat)] w' fun e f=>e=.returned (.int .u64 (v4:Nat))∧Below w'.heap.size w' f)
  (A6:∀w',Below w.heap.size w w'→Calls Tryz.prog 260 #[.int .u64 4607182418800017408,.int .u64 (v4:Nat)] w' fun e f=>e=.returned (.int .u64 (v5:Nat))∧Below w'.heap.size w' f)
  (A7:∀w',Below w.heap.size w w'→Calls Tryz.prog 261 #[.int .u64 (v5:Nat)] w' fun e f=>e=.returned (.int .u64 (v6:Nat))∧Below w'.heap.size w' f)
  (A8:∀w',Below w.heap.size w w'→Calls Tryz.prog 260 #[.int .u64 (v3:Nat),.int .u64 (v6:Nat)] w' fun e f=>e=.returned (.int .u64 (v7:Nat))∧Below w'.heap.size w' f)
  (A9:∀w',Below w.heap.size w w'→Calls Tryz.prog 176 #[.int .u64 4607182418800017408,.int .u64 (v7:Nat)] w' fun e f=>e=.returned (.int .u64 (u0:Nat))∧Below w'.heap.size w' f)
  (AA:∀w',Below w.heap.size w w'→Calls Tryz.prog 187 #[.int .u64 (z:Nat)] w' fun e f=>e=.returned (.bool true)∧Below w'.heap.size w' f)
  (AB:∀w',Calls Tryz.prog 188 #[.int .u64 (u0:Nat)] w' fun e f=>e=.returned (.int .u64 (t:Nat))∧w'=f)
  (AC:∀w',Below w.heap.size w w'→Calls Tryz.prog 175 #[.int .u64 (t:Nat),.int .u64 (t:Nat)] w' fun e f=>e=.returned (.int .u64 (v8:Nat))∧Below w'.heap.size w' f)
  (AD:∀w',Below w.heap.size w w'→Calls Tryz.prog 260 #[.int .u64 4607182418800017408,.int .u64 (v8:Nat)] w' fun e f=>e=.returned (.int .u64 (v9:Nat))∧Below w'.heap.size w' f)
  (AE:∀w',Below w.heap.size w w'→Calls Tryz.prog 261 #[.int .u64 (v9:Nat)] w' fun e f=>e=.returned (.int .u64 (D:Nat))∧Below w'.heap.size w' f)
  (AF:∀w',Below w.heap.size w w'→Calls Tryz.prog 176 #[.int .u64 4607182418800017408,.int .u64 (D:Nat)] w' fun e f=>e=.returned (.int .u64 (C:Nat))∧Below w'.heap.size w' f)
  (AG:∀w',Below w.heap.size w w'→Calls Tryz.prog 175 #[.int .u64 (C:Nat),.int .u64 (t:Nat)] w' fun e f=>e=.returned (.int .u64 (s:Nat))∧Below w'.heap.size w' f):
  Calls Tryz.prog 241 #[.slice ao n c,.slice bo n d,.int .u64 g] w fun e w'=>e=.returned (.tuple #[.int .u64 (C:Nat),.int .u64 (s:Nat)])∧Below w.heap.size w w':=by
 have h:=aa (Below.refl w.heap.size w)
 have F:=aa D1
 have G:=aa D2
 have H:=aa A1
 have J:=aa A2
 have K:=aa A3
 have L:=aa A4
 have M:=aa A5
 have N:=aa A6
 have O:=aa A7
 have Q:=aa A8
 have U:=aa A9
 have V:=aa AA
 have X:=aa AB
 have Y:=aa AC
 have Z:=aa AD
 have ae:=aa AE
 have am:=aa AF
 have ap:=aa AG
 clear D1 D2 A1 A2 A3 A4 A5 A6 A7 A8 A9 AA AB AC AD AE AF AG
 go_enter Tryz.func241,Tryz.ntmps241
 go_wp2_with fail
 refine(uH F _ (uH h)).mono ?_
 rintro e u ⟨rfl,l⟩
 replace h:=aa ((uH h).trans (l.mono (uH h).size))
 clear l F
 go_wp2_with fail
 refine(uH G _ (uH h)).mono ?_
 rintro e u ⟨rfl,l⟩
 replace h:=aa ((uH h).trans (l.mono (uH h).size))
 clear l G
 go_wp2_with fail
 refine(uH H _ (uH h)).mono ?_
 rintro e u ⟨rfl,l⟩
 replace h:=aa ((uH h).trans (l.mono (uH h).size))
 clear l H
 go_wp2_with fail
 refine(uH J _ (uH h)).mono ?_
 rintro e u ⟨rfl,l⟩
 replace h:=aa ((uH h).trans (l.mono (uH h).size))
 clear l J
 go_wp2_with fail
 refine(uH K _ (uH h)).mono ?_
 rintro e u ⟨rfl,l⟩
 replace h:=aa ((uH h).trans (l.mono (uH h).size))
 clear l K
 go_wp2_with fail
 refine(uH L _ (uH h)).mono ?_
 rintro e u ⟨rfl,l⟩
 replace h:=aa ((uH h).trans (l.mono (uH h).size))
 clear l L
 go_wp2_with fail
 refine(uH M _ (uH h)).mono ?_
 rintro e u ⟨rfl,l⟩
 replace h:=aa ((uH h).trans (l.mono (uH h).size))
 clear l M
 go_wp2_with fail
 refine(uH N _ (uH h)).mono ?_
 rintro e u ⟨rfl,l⟩
 replace h:=aa ((uH h).trans (l.mono (uH h).size))
 clear l N
 go_wp2_with fail
 refine(uH O _ (uH h)).mono ?_
 rintro e u ⟨rfl,l⟩
 replace h:=aa ((uH h).trans (l.mono (uH h).size))
 clear l O
 go_wp2_with fail
 refine(uH Q _ (uH h)).mono ?_
 rintro e u ⟨rfl,l⟩
 replace h:=aa ((uH h).trans (l.mono (uH h).size))
 clear l Q
 go_wp2_with fail
 refine(uH U _ (uH h)).mono ?_
 rintro e u ⟨rfl,l⟩
 replace h:=aa ((uH h).trans (l.mono (uH h).size))
 clear l U
 go_wp2_with fail
 refine(uH V _ (uH h)).mono ?_
 rintro e u ⟨rfl,l⟩
 replace h:=aa ((uH h).trans (l.mono (uH h).size))
 clear l V
 go_wp2_with fail
 refine(uH X _).mono ?_
 rintro e u ⟨rfl,rfl⟩
 clear X
 go_wp2_with fail
 refine(uH Y _ (uH h)).mono ?_
 rintro e u ⟨rfl,l⟩
 replace h:=aa ((uH h).trans (l.mono (uH h).size))
 clear l Y
 go_wp2_with fail
 refine(uH Z _ (uH h)).mono ?_
 rintro e u ⟨rfl,l⟩
 replace h:=aa ((uH h).trans (l.mono (uH h).size))
 clear l Z
 go_wp2_with fail
 refine(uH ae _ (uH h)).mono ?_
 rintro e u ⟨rfl,l⟩
 replace h:=aa ((uH h).trans (l.mono (uH h).size))
 clear l ae
 go_wp2_with fail
 refine(uH am _ (uH h)).mono ?_
 rintro e u ⟨rfl,l⟩
 replace h:=aa ((uH h).trans (l.mono (uH h).size))
 clear l am
 go_wp2_with fail
 refine(uH ap _ (uH h)).mono ?_
 rintro e u ⟨rfl,l⟩
 replace h:=aa ((uH h).trans (l.mono (uH h).size))
 clear l ap
 go_wp2_with fail
 exact bodyPost_ret (v:=.tuple #[.int .u64 (C:Nat),.int .u64 (s:Nat)]) (by simp[results,Tryz.results241,go_sem]) rfl ⟨rfl,uH h⟩
theorem qb(v:Nat)(w:World)(d:v<18446744073709551616)(f:bT w):Calls Tryz.prog 260 #[.int .u64 4607182418800017408,.int .u64 (v:Nat)] w fun e w'=>e=.returned (.int .u64 (aV 4607182418800017408 v:Nat))∧Below w.heap.size w w':=by
 have:=iR 4607182418800017408 v w (by decide) d f
 rwa[show((4607182418800017408:Nat):Int)=4607182418800017408 from rfl]at this
theorem qd(v:Nat)(w:World)(d:v<18446744073709551616)(f:bT w):Calls Tryz.prog 176 #[.int .u64 4607182418800017408,.int .u64 (v:Nat)] w fun e w'=>e=.returned (.int .u64 (dV 4607182418800017408 v:Nat))∧Below w.heap.size w w':=by
 have:=ti 4607182418800017408 v w (by decide) d f
 rwa[show((4607182418800017408:Nat):Int)=4607182418800017408 from rfl]at this
theorem BN(w:World)(z:bT w):∀t,t<18446744073709551616→∃f u l,(∀w',Below w.heap.size w w'→Calls Tryz.prog 175 #[.int .u64 (t:Nat),.int .u64 (t:Nat)] w' fun e d=>e=.returned (.int .u64 (f:Nat))∧Below w'.heap.size w' d)∧(∀w',Below w.heap.size w w'→Calls Tryz.prog 260 #[.int .u64 4607182418800017408,.int .u64 (f:Nat)] w' fun e d=>e=.returned (.int .u64 (u:Nat))∧Below w'.heap.size w' d)∧(∀w',Below w.heap.size w w'→Calls Tryz.prog 261 #[.int .u64 (u:Nat)] w' fun e d=>e=.returned (.int .u64 (l:Nat))∧Below w'.heap.size w' d)∧(∀w',Below w.heap.size w w'→Calls Tryz.prog 176 #[.int .u64 4607182418800017408,.int .u64 (l:Nat)] w' fun e d=>e=.returned (.int .u64 (mI t:Nat))∧Below w'.heap.size w' d)∧(∀w',Below w.heap.size w w'→Calls Tryz.prog 175 #[.int .u64 (mI t:Nat),.int .u64 (t:Nat)] w' fun e d=>e=.returned (.int .u64 (tq t:Nat))∧Below w'.heap.size w' d):=by
 intro t H
 have D:(4607182418800017408:Nat)<18446744073709551616:=by decide
 have J:mI t=dV 4607182418800017408 (sV (aV 4607182418800017408 (mV t t))):=rfl
 have K:tq t=mV (mI t) t:=rfl
 have L:=qZ t
 have F:=bM t t
 refine⟨mV t t,aV 4607182418800017408 (mV t t),sV (aV 4607182418800017408 (mV t t)),fun w' h=>eh t t w' H H (z.all h),?_,?_,?_,?_⟩
 ·generalize mV t t=f at*
  exact fun w' h=>qb f w' F (z.all h)
 ·generalize mV t t=f at*
  have G:=dR 4607182418800017408 f D F
  generalize aV 4607182418800017408 f=u at*
  exact fun w' h=>p7 u w' G (z.all h)
 ·rw[J]
  generalize mV t t=f at*
  have G:=dR 4607182418800017408 f D F
  generalize aV 4607182418800017408 f=u at*
  have M:=lO u G
  generalize sV u=l at*
  exact fun w' h=>qd l w' M (z.all h)
 ·rw[K]
  generalize mI t=C at*
  exact fun w' h=>eh C t w' L H (z.all h)
theorem vf(D F:Option Addr)(c d g:Nat)(I J:List Int)(w:World)(hI:af w D c I)(hJ:af w F d J)(h:I.length=J.length)(h6:I.length≤64)(hg:g<18446744073709551616)(u:bT w):
  Calls Tryz.prog 241 #[.slice D I.length c,.slice F I.length d,.int .u64 g] w fun e w'=>e=.returned (.tuple #[.int .u64 (mI (GY (GW (eM I I I.length) (eM J J I.length) g)):Nat),.int .u64 (tq (GY (GW (eM I I I.length) (eM J J I.length) g)):Nat)])∧Below w.heap.size w w':=by
 have V:(4607182418800017408:Nat)<18446744073709551616:=by decide
 have D1:∀w',Below w.heap.size w w'→Calls Tryz.prog 240 #[.slice F I.length d,.slice F I.length d] w' fun e f=>e=.returned (.int .u64 (eM J J I.length:Nat))∧Below w'.heap.size w' f:=fun w' l=>by
  have:=lp F F d d J J w' (hJ.below l) (hJ.below l) rfl (by omega) (u.all l)
  rwa[←h]at this
 have D2:∀w',Below w.heap.size w w'→Calls Tryz.prog 240 #[.slice D I.length c,.slice D I.length c] w' fun e f=>e=.returned (.int .u64 (eM I I I.length:Nat))∧Below w'.heap.size w' f:=fun w' l=>
  lp D D c c I I w' (hI.below l) (hI.below l) rfl h6 (u.all l)
 have X:=ei J J I.length
 have Y:=ei I I I.length
 generalize eM J J I.length=H at*
 generalize eM I I I.length=K at*
 have A1:∀w',Below w.heap.size w w'→Calls Tryz.prog 174 #[.int .u64 (H:Nat),.int .u64 (K:Nat)] w' fun e f=>e=.returned (.int .u64 (aV H (fN K):Nat))∧Below w'.heap.size w' f:=fun w' l=>th H K w' X Y (u.all l)
 have A2:∀w',Below w.heap.size w w'→Calls Tryz.prog 260 #[.int .u64 (g:Nat),.int .u64 (g:Nat)] w' fun e f=>e=.returned (.int .u64 (aV g g:Nat))∧Below w'.heap.size w' f:=fun w' l=>iR g g w' hg hg (u.all l)
 have l1:=dR H (fN K) X (gH _ Y)
 have l2:=dR g g hg hg
 unfold GW
 generalize aV H (fN K)=L at*
 generalize aV g g=M at*
 have A3:∀w',Below w.heap.size w w'→Calls Tryz.prog 176 #[.int .u64 (L:Nat),.int .u64 (M:Nat)] w' fun e f=>e=.returned (.int .u64 (dV L M:Nat))∧Below w'.heap.size w' f:=fun w' l=>ti L M w' l1 l2 (u.all l)
 have hz:=su L M
 generalize dV L M=z at*
 have hu:=BJ z
 have hU:GX z=dV 4607182418800017408 (aV (fR z) (sV (aV 4607182418800017408 (mV z z)))):=rfl
 have A4:∀w',Below w.heap.size w w'→Calls Tryz.prog 124 #[.int .u64 (z:Nat)] w' fun e f=>e=.returned (.int .u64 (fR z:Nat))∧Below w'.heap.size w' f:=fun w' l=>kl z w' hz
 have A5:∀w',Below w.heap.size w w'→Calls Tryz.prog 175 #[.int .u64 (z:Nat),.int .u64 (z:Nat)] w' fun e f=>e=.returned (.int .u64 (mV z z:Nat))∧Below w'.heap.size w' f:=fun w' l=>eh z z w' hz hz (u.all l)
 have l3:fR z<18446744073709551616:=by unfold fR;omega
 have l4:=bM z z
 generalize fR z=N at*
 generalize mV z z=O at*
 have A6:∀w',Below w.heap.size w w'→Calls Tryz.prog 260 #[.int .u64 4607182418800017408,.int .u64 (O:Nat)] w' fun e f=>e=.returned (.int .u64 (aV 4607182418800017408 O:Nat))∧Below w'.heap.size w' f:=fun w' l=>qb O w' l4 (u.all l)
 have l5:=dR 4607182418800017408 O V l4
 generalize aV 4607182418800017408 O=Q at*
 have A7:∀w',Below w.heap.size w w'→Calls Tryz.prog 261 #[.int .u64 (Q:Nat)] w' fun e f=>e=.returned (.int .u64 (sV Q:Nat))∧Below w'.heap.size w' f:=fun w' l=>p7 Q w' l5 (u.all l)
 have l6:=lO Q l5
 generalize sV Q=U at*
 have A8:∀w',Below w.heap.size w w'→Calls Tryz.prog 260 #[.int .u64 (N:Nat),.int .u64 (U:Nat)] w' fun e f=>e=.returned (.int .u64 (aV N U:Nat))∧Below w'.heap.size w' f:=fun w' l=>iR N U w' l3 l6 (u.all l)
 have l7:=dR N U l3 l6
 generalize aV N U=Z at*
 have A9:∀w',Below w.heap.size w w'→Calls Tryz.prog 176 #[.int .u64 4607182418800017408,.int .u64 (Z:Nat)] w' fun e f=>e=.returned (.int .u64 (dV 4607182418800017408 Z:Nat))∧Below w'.heap.size w' f:=fun w' l=>qd Z w' l7 (u.all l)
 rw[←hU]at A9
 have AA:∀w',Below w.heap.size w w'→Calls Tryz.prog 187 #[.int .u64 (z:Nat)] w' fun e f=>e=.returned (.bool (fS z))∧Below w'.heap.size w' f:=fun w' l=>dO z w' hz
 clear hU V l1 l2 l3 l4 l5 l6 l7
 unfold GY
 generalize GX z=u0 at*
 cases hs:fS z with
 |false=>
  rw[hs]at AA
  simp only[Bool.false_eq_true,if_false]
  obtain⟨v8,v9,G,B1,B2,B3,B4,B5⟩:=BN w u u0 hu
  exact vd D F I.length c d g H K L M z N O Q U Z u0 v8 v9 G (mI u0) (tq u0) w D1 D2 A1 A2 A3 A4 A5 A6 A7 A8 A9 AA B1 B2 B3 B4 B5
 |true=>
  rw[hs]at AA
  simp only[if_true]
  obtain⟨v8,v9,G,B1,B2,B3,B4,B5⟩:=BN w u (fN u0) (gH _ hu)
  exact ve D F I.length c d g H K L M z N O Q U Z u0 (fN u0) v8 v9 G (mI (fN u0)) (tq (fN u0)) w D1 D2 A1 A2 A3 A4 A5 A6 A7 A8 A9 AA (fun w'=>ez u0 w' hu) B1 B2 B3 B4 B5
structure mg (wr:World) (H g:Nat) (p q:Nat) (so:Option Addr) (sd:Nat) (S:List Nat):Prop where
 box:aw wr g (.int .i64 p) (.int .i64 q) (.slice so S.length sd)
 bits:af wr so sd (aL S)
 new:jL H so (aL S)
theorem mg.all{wr w':World}{H g p q:Nat}{d:Option Addr}{f:Nat}{S:List Nat}(h:mg wr H g p q d f S)(l:Below wr.heap.size wr w'):mg w' H g p q d f S:=⟨h.box.all l,h.bits.below l,h.new⟩
theorem mg.put{wr:World}{H g p q:Nat}{d:Option Addr}{f:Nat}{S:List Nat}(h:mg wr H g p q d f S){b k:Nat}{l:Int}(u:wr.cell? ⟨b,k,none⟩=some (.int .u64 l))(D:b<H)(z:Int):mg (wr.setCell ⟨b,k,none⟩ (.int .u64 z)) H g p q d f S:=
 ⟨h.box.other (p:=⟨b,k,none⟩) (h.box.away u) _,h.bits.far h.new D k _,h.new⟩
theorem aw.three{w:World}{b g:Nat}{x y z:Value}(h:aw w b x y z)(f:b≠g)(u l d:Value):aw (((w.setCell ⟨g,0,none⟩ u).setCell ⟨g,1,none⟩ l).setCell ⟨g,2,none⟩ d) b x y z:=
 ((h.other (p:=⟨g,0,none⟩) f u).other (p:=⟨g,1,none⟩) f l).other (p:=⟨g,2,none⟩) f d
theorem iw{P:Program}{c:Code}{Q:Exit→Act→World→Prop}{a:Act}{w:World}{T:Type}(f:Act→T→Act)(J:T→World→Prop)(h:Code.wp P c (Exit.then (fun d w'=>∃t:T,d=f a t∧J t w') (fun _ _ _=>False)) a w)(k:∀t w',J t w'→Q .normal (f a t) w'):Code.wp P c Q a w:=
 Code.wp_mono (fun e d w' h=>by
  cases e<;>first
   |(obtain⟨t,l,u⟩:=h;rw[l];exact k t w' u)
   |exact h.elim) h
structure cD (w wr:World) (r c N M:Nat) (s:Sd) (wo vo:Option Addr) (wc vc:Nat):Prop where
 bel:Below w.heap.size w wr
 bw:aw wr w.heap.size (.int .i64 r) (.int .i64 c) (.slice wo N wc)
 bv:aw wr (w.heap.size+1) (.int .i64 c) (.int .i64 c) (.slice vo M vc)
 b6:aw wr (w.heap.size+1+1) (.int .i64 0) (.int .i64 0) (.slice none 0 0)
 b7:aw wr (w.heap.size+1+1+1) (.int .i64 0) (.int .i64 0) (.slice none 0 0)
 mw:Mx wr wo wc r c s.W
 mv:Mx wr vo vc c c s.V
 hN:s.W.length=N
 hM:s.V.length=M
theorem cD.all{w wr w':World}{r c N M:Nat}{s:Sd}{f l:Option Addr}{wc u:Nat}(h:cD w wr r c N M s f l wc u)(d:Below wr.heap.size wr w'):cD w w' r c N M s f l wc u:=
 ⟨h.bel.trans (d.mono h.bel.size),h.bw.all d,h.bv.all d,h.b6.all d,h.b7.all d,h.mw.below d,h.mv.below d,h.hN,h.hM⟩
theorem cD.start{w:World}{r c N M:Nat}{s:Sd}{d f:Option Addr}{wc h:Nat}(Y:Mx w d wc r c s.W)(Z:Mx w f h c c s.V)(hN:s.W.length=N)(hM:s.V.length=M):
  cD w ((((w.alloc (.cells #[.int .i64 r,.int .i64 c,.slice d N wc] 25)).alloc (.cells #[.int .i64 c,.int .i64 c,.slice f M h] 25)).alloc (.cells #[.int .i64 0,.int .i64 0,.slice none 0 0] 25)).alloc (.cells #[.int .i64 0,.int .i64 0,.slice none 0 0] 25)) r c N M s d f wc h:=by
 have J:=ac w (.cells #[.int .i64 r,.int .i64 c,.slice d N wc] 25)
 have D:=ah w (.cells #[.int .i64 r,.int .i64 c,.slice d N wc] 25)
 have x0:=aw.new w (.int .i64 r) (.int .i64 c) (.slice d N wc)
 generalize w.alloc (.cells #[.int .i64 r,.int .i64 c,.slice d N wc] 25)=u at*
 have K:=ac u (.cells #[.int .i64 c,.int .i64 c,.slice f M h] 25)
 have L:=ah u (.cells #[.int .i64 c,.int .i64 c,.slice f M h] 25)
 have O:=aw.new u (.int .i64 c) (.int .i64 c) (.slice f M h)
 generalize u.alloc (.cells #[.int .i64 c,.int .i64 c,.slice f M h] 25)=z at*
 have F:=ac z (.cells #[.int .i64 0,.int .i64 0,.slice none 0 0] 25)
 have s2:=ah z (.cells #[.int .i64 0,.int .i64 0,.slice none 0 0] 25)
 have Q:=aw.new z (.int .i64 0) (.int .i64 0) (.slice none 0 0)
 generalize z.alloc (.cells #[.int .i64 0,.int .i64 0,.slice none 0 0] 25)=H at*
 have l:=ac H (.cells #[.int .i64 0,.int .i64 0,.slice none 0 0] 25)
 have U:=aw.new H (.int .i64 0) (.int .i64 0) (.slice none 0 0)
 generalize H.alloc (.cells #[.int .i64 0,.int .i64 0,.slice none 0 0] 25)=we at*
 rw[s2,L,D]at U
 rw[L,D]at Q
 rw[D]at O
 have q:=J.trans (K.mono J.size)
 have X:=q.trans (F.mono q.size)
 have G:=X.trans (l.mono X.size)
 exact⟨G,((x0.all K).all F).all l,(O.all F).all l,Q.all l,U,Y.below G,Z.below G,hN,hM⟩
theorem Mx.putM{w:World}{z:Option Addr}{f r c:Nat}{S:List Nat}(h:Mx w z f r c S){g:Nat}{x y:Int}{a:Option Addr}{n d:Nat}(F:aw w g (.int .i64 x) (.int .i64 y) (.slice a n d))(u D l:Value):Mx (((w.setCell ⟨g,0,none⟩ u).setCell ⟨g,1,none⟩ D).setCell ⟨g,2,none⟩ l) z f r c S:=⟨af.putM h.1 F u D l,h.2⟩
theorem cD.putW{w wr:World}{r c N M:Nat}{s:Sd}{z l d:Option Addr}{wc u f:Nat}(h:cD w wr r c N M s z l wc u){W:List Nat}(D:Mx wr d f r c W)(F:W.length=N)(b:Bool):
  cD w (((wr.setCell ⟨w.heap.size,0,none⟩ (.int .i64 r)).setCell ⟨w.heap.size,1,none⟩ (.int .i64 c)).setCell ⟨w.heap.size,2,none⟩ (.slice d N f)) r c N M ⟨W,s.V,b⟩ d l f u:=
 ⟨aq (b:=w.heap.size) h.bel (Nat.le_refl _) _ _ _,h.bw.put _ _ _,h.bv.three (by omega) _ _ _,h.b6.three (by omega) _ _ _,h.b7.three (by omega) _ _ _,D.putM h.bw _ _ _,h.mv.putM h.bw _ _ _,F,h.hM⟩
theorem cD.putV{w wr:World}{r c N M:Nat}{s:Sd}{l u d:Option Addr}{wc z f:Nat}(h:cD w wr r c N M s l u wc z){V:List Nat}(D:Mx wr d f c c V)(F:V.length=M)(b:Bool):
  cD w (((wr.setCell ⟨w.heap.size+1,0,none⟩ (.int .i64 c)).setCell ⟨w.heap.size+1,1,none⟩ (.int .i64 c)).setCell ⟨w.heap.size+1,2,none⟩ (.slice d M f)) r c N M ⟨s.W,V,b⟩ l d wc f:=
 ⟨aq (b:=w.heap.size+1) h.bel (Nat.le_succ _) _ _ _,h.bw.three (by omega) _ _ _,h.bv.put _ _ _,h.b6.three (by omega) _ _ _,h.b7.three (by omega) _ _ _,h.mw.putM h.bv _ _ _,D.putM h.bv _ _ _,h.hN,F⟩
def BO(w':World)(r c N M:Nat)(s:Sd)(e:Ending):Prop:=
 ∃wo wc vo vc,e=.returned (.tuple #[.agg #[.int .i64 r,.int .i64 c,.slice wo N wc],.agg #[.int .i64 c,.int .i64 c,.slice vo M vc],.bool s.still])∧Mx w' wo wc r c s.W∧Mx w' vo vc c c s.V∧s.W.length=N∧s.V.length=M
theorem ow(r c k d:Nat)(f:Option Addr)(S:List Nat)(w:World)(h:af w f d (aL (gl r c S k)))(u:r≤6)(l:bT w):
  Calls Tryz.prog 209 #[.slice f r d] w fun e w'=>e=.returned (.int .u64 (jO r c S k:Nat))∧Below w.heap.size w w':=by
 have:=jP f d (aL (gl r c S k)) w h (by rw[av,bC];omega) l
 rwa[av,bC]at this
theorem yu(r c p q d l:Nat)(u f:Option Addr)(S:List Nat)(w:World)(h:af w u d (aL (gl r c S p)))(z:af w f l (aL (gl r c S q)))(F:r≤6)(D:bT w):
  Calls Tryz.prog 240 #[.slice u r d,.slice f r l] w fun e w'=>e=.returned (.int .u64 (yr r c S p q:Nat))∧Below w.heap.size w w':=by
 have:=lp u f d l (aL (gl r c S p)) (aL (gl r c S q)) w h z (by rw[av,bC,av,bC]) (by rw[av,bC];omega) D
 rwa[av,bC,av,bC]at this
theorem vg(r c p q d l:Nat)(u f:Option Addr)(S:List Nat)(w:World)(h:af w u d (aL (gl r c S p)))(z:af w f l (aL (gl r c S q)))(F:r≤6)(D:bT w):
  Calls Tryz.prog 241 #[.slice u r d,.slice f r l,.int .u64 (yr r c S p q:Nat)] w fun e w'=>e=.returned (.tuple #[.int .u64 (mI (jm r c S p q):Nat),.int .u64 (tq (jm r c S p q):Nat)])∧Below w.heap.size w w':=by
 have:=vf u f d l (yr r c S p q) (aL (gl r c S p)) (aL (gl r c S q)) w h z (by rw[av,bC,av,bC]) (by rw[av,bC];omega) (u4 _ _ _ _ _) D
 rwa[av,bC]at this
theorem EW{r c low:Nat}{S:List Nat}{p:Nat}(h:eJ low (jO r c S p)=false)(q:Nat):Ck r c low S p q=true:=by unfold Ck;rw[h];rfl
theorem oy{r c low p q:Nat}{s:Sd}(h:Ck r c low s.W p q=true):tX r c low p q s=s:=by unfold tX;rw[if_pos h]
theorem tr{r c low p:Nat}{s:Sd}{t:Nat}(h:eJ low (jO r c (mJ r c low p s t).W p)=false):∀k,mJ r c low p s (t+k)=mJ r c low p s t
 |0=>rfl
 |k+1=>by
  have e:mJ r c low p s (t+(k+1))=tX r c low p (p+1+(t+k)) (mJ r c low p s (t+k)):=rfl
  rw[e,tr h k]
  exact oy (EW h _)
theorem vh(r c N M low ba bb:Nat)(be bg:Option Addr)(W0 V0:List Nat)(w:World)(mw:Mx w be ba r c W0)(mv:Mx w bg bb c c V0)(hN:W0.length=N)(hM:V0.length=M)(a9:low<18446744073709551616)(hT:bT w):
  Calls Tryz.prog 210 #[.agg #[.int .i64 r,.int .i64 c,.slice be N ba],.agg #[.int .i64 c,.int .i64 c,.slice bg M bb],.int .u64 low] w fun e w'=>BO w' r c N M (mb r c low ⟨W0,V0,true⟩ c) e∧Below w.heap.size w w':=by
 have u:=aa (cD.start (s:=⟨W0,V0,true⟩) mw mv hN hM)
 have HT:=aa hT
 have am:c≤6:=mw.2.2.2
 have ao:r≤6:=mw.2.2.1
 have RN:=aa (show r*c=N∧c*c=M from⟨mw.2.1.symm.trans hN,mv.2.1.symm.trans hM⟩)
 have OI:=aa (fun p (h:p<c)=>(show mb r c low ⟨W0,V0,true⟩ (p+1)=mJ r c low p (mb r c low ⟨W0,V0,true⟩ p) (c-1-p)from rfl))
 generalize bE:(⟨W0,V0,true⟩:Sd)=s0 at*
 have e0:s0.still=true:=by rw[←bE]
 clear mw mv hN hM hT
 go_enter Tryz.func210,Tryz.ntmps210
 have y1:=(uH u).bw.c1
 go_wp2_with fail
 go_step3
 go_wp2_with fail
 go_step3
 go_wp2_with fail
 clear y1
 go_loopg [9,21] c (fun g b a wr=>∃(p:Nat) (H J:Option Addr) (wc L:Nat),p+g=c∧a=.int .i64 p∧b=.bool (mb r c low s0 p).still∧Hid (cD w wr r c N M (mb r c low s0 p) H J wc L))
 case atStart=>exact⟨0,be,bg,ba,bb,Nat.zero_add _,rfl,by show Value.bool true=.bool s0.still;rw[e0],u⟩
 case round=>
  clear u
  obtain⟨p,H,J,wc,L,hp,rfl,rfl,u⟩:=hrel
  cases gk with
  |succ gh=>
   have a4:p<c:=by omega
   have b5:(p:Int)<(c:Int):=by omega
   obtain⟨p1,bq⟩:∃p1,p1=p+1:=⟨_,rfl⟩
   have e1:IntKind.i64.wrap ((p:Int)+1)=(p1:Int):=(cX _ (by omega)).trans (by omega)
   have e2:(p:Int)+1=(p1:Int):=by omega
   have a5:=aa bq
   clear bq
   have OE:=aa (uH OI p a4)
   have PO:=aa (show∀P:Sd→Prop,P (mJ r c low p (mb r c low s0 p) (c-1-p))→P (mb r c low s0 (p+1))from fun P h=>by rw[uH OE];exact h)
   generalize b3:mb r c low s0 p=sp at*
   clear b3 OE
   go_wp2_with fail
   go_loopg [9,11] (c-1-p) (fun g2 b a wr=>∃(t:Nat) (H J:Option Addr) (wc L:Nat),t+g2=c-1-p∧a=.int .i64 ((p1+t:Nat):Int)∧b=.bool (mJ r c low p sp t).still∧Hid (cD w wr r c N M (mJ r c low p sp t) H J wc L))
   case atStart=>exact⟨0,H,J,wc,L,Nat.zero_add _,rfl,rfl,u⟩
   case round=>
    clear u
    obtain⟨t,H,J,wc,L,ht,rfl,rfl,u⟩:=hrel
    obtain⟨q,hq⟩:∃q,p1+t=q:=⟨_,rfl⟩
    have SK:=aa (fun h k=>tr (r:=r) (c:=c) (low:=low) (p:=p) (s:=sp) (t:=t) h k)
    have SU:=aa (show mJ r c low p sp (t+1)=tX r c low p (p+1+t) (mJ r c low p sp t)from rfl)
    rw[show p+1+t=q from by have:=uH a5;omega]at SU
    rw[hq]
    generalize hs:mJ r c low p sp t=s at*
    have y1:=(uH u).bw.c1
    cases gk with
    |succ g2=>
     have bi:q<c:=by have:=uH a5;omega
     have bx:(q:Int)<(c:Int):=by omega
     have bm:p≠q:=by have:=uH a5;omega
     go_wp2_with fail
     clear y1
     refine aj (fun W=>cD w W r c N M s H J wc L) (uH u) ?_
     clear u
     rintro V d
     have KP:=aa (fun w' (h:Below V.heap.size V w')=>lm r c wc p H s.W w' (d.mw.below h) a4)
     have KQ:=aa (fun w' (h:Below V.heap.size V w')=>lm r c wc q H s.W w' (d.mw.below h) bi)
     rw[d.hN]at KP KQ
     have HK:=aa (fun w' (h:Below V.heap.size V w')=>(show Below V.heap.size V w'∧(w'.cell? ⟨w.heap.size,0,none⟩=some (.int .i64 (r:Nat))∧w'.cell? ⟨w.heap.size,1,none⟩=some (.int .i64 (c:Nat))∧w'.cell? ⟨w.heap.size,2,none⟩=some (.slice H N wc))from⟨h,(d.bw.all h).c0,(d.bw.all h).c1,(d.bw.all h).c2⟩))
     have u:=aa d
     clear d
     go_region_held3(fun w'=>Below V.heap.size V w'∧(w'.cell? ⟨w.heap.size,0,none⟩=some (.int .i64 (r:Nat))∧w'.cell? ⟨w.heap.size,1,none⟩=some (.int .i64 (c:Nat))∧w'.cell? ⟨w.heap.size,2,none⟩=some (.slice H N wc)))
      (first|exact uH HK _ (Below.refl _ _).drew|exact uH HK _ (by assumption)|fail "KK")
      (first|(go_at_call 213;with_reducible refine Calls.mono (uH KP _ (And.left (by assumption))) ?_;rintro e w6 ⟨ap,d1,rfl,_,bt,ax⟩;have D:=aa bt;have bz:Below V.heap.size V w6:=Below.trans (And.left (by assumption)) (ax.mono (Below.size (And.left (by assumption))));clear ax bt KP)|(go_at_call 213;with_reducible refine Calls.mono (uH KQ _ (And.left (by assumption))) ?_;rintro e w7 ⟨aI,d2,rfl,_,Y,ax⟩;have F:=aa Y;replace D:=aa ((uH D).below ax);have bz:Below V.heap.size V w7:=Below.trans (And.left (by assumption)) (ax.mono (Below.size (And.left (by assumption))));clear ax Y KQ)|fail "NO ARM")
     all_goals
      have BB:=And.left (by assumption:Below V.heap.size V _∧_)
      replace u:=aa ((uH u).all BB)
      clear BB HK
      first
       |refine EK (fun W=>cD w W r c N M s H J wc L∧af W ap d1 (aL (gl r c s.W p))∧af W aI d2 (aL (gl r c s.W q))) ⟨uH u,uH D,uH F⟩ ?_
       |refine aj (fun W=>cD w W r c N M s H J wc L∧af W ap d1 (aL (gl r c s.W p))∧af W aI d2 (aL (gl r c s.W q))) ⟨uH u,uH D,uH F⟩ ?_
      clear u D F
      rintro U ⟨d,q1,q2⟩
      have u:=aa d;have D:=aa q1;have F:=aa q2
      clear d q1 q2
      go_wp2_with fail
      have K:=aa (ow r c p d1 ap s.W _ (uH D) ao ((uH HT).all (uH u).bel))
      refine Calls.mono (uH K) ?_
      rintro e w3 ⟨rfl,z⟩
      replace u:=aa ((uH u).all z);replace D:=aa ((uH D).below z);replace F:=aa ((uH F).below z)
      clear z K
      go_wp2_with fail
      have K:=aa (ow r c q d2 aI s.W _ (uH F) ao ((uH HT).all (uH u).bel))
      refine Calls.mono (uH K) ?_
      rintro e w3 ⟨rfl,z⟩
      replace u:=aa ((uH u).all z);replace D:=aa ((uH D).below z);replace F:=aa ((uH F).below z)
      clear z K
      go_wp2_with fail
      have K:=aa (yu r c p q d1 d2 ap aI s.W _ (uH D) (uH F) ao ((uH HT).all (uH u).bel))
      refine Calls.mono (uH K) ?_
      rintro e w3 ⟨rfl,z⟩
      replace u:=aa ((uH u).all z);replace D:=aa ((uH D).below z);replace F:=aa ((uH F).below z)
      clear z K
      have TT:=aa (fun W (q1:af W ap d1 (aL (gl r c s.W p))) (q2:af W aI d2 (aL (gl r c s.W q))) (hT:bT W)=>vg r c p q d1 d2 ap aI s.W W q1 q2 ao hT)
      have SB:=aa (show Ck r c low s.W p q=(!(eJ low (jO r c s.W p))||(!(eJ low (jO r c s.W q))|| !(eJ (xV (mV (jO r c s.W p) (jO r c s.W q)) (-44)) (fR (yr r c s.W p q)))))from rfl)
      have lx:=lj r c s.W p;have ly:=lj r c s.W q;have lg:=u4 r c s.W p q
      generalize jO r c s.W p=x at*
      generalize jO r c s.W q=y at*
      generalize yr r c s.W p q=g at*
      have K1:=aa (fun w'=>iq low x w' a9 lx)
      have K2:=aa (fun w'=>iq low y w' a9 ly)
      have K3:=aa (fun w' (hT:bT w')=>eh x y w' lx ly hT)
      have K4:=aa (fun w' (hT:bT w')=>eH (mV x y) (-44) w' (bM _ _) hT)
      have K5:=aa (fun w'=>kl g w' lg)
      have K6:=aa (fun w'=>iq (xV (mV x y) (-44)) (fR g) w' (gV _ _ (bM _ _)) (show fR _<18446744073709551616 by unfold fR;omega))
      clear lx ly
      go_wp2_with fail
      refine(uH K1 _).mono ?_
      rintro e w3 ⟨rfl,z⟩
      replace u:=aa ((uH u).all z);replace D:=aa ((uH D).below z);replace F:=aa ((uH F).below z)
      clear z K1
      cases h1:eJ low x
      ·clear D F TT SB K2 K3 K4 K5 K6
       have EE:=aa (uH SK h1 (c-1-p-t))
       rw[show t+(c-1-p-t)=c-1-p by omega]at EE
       go_wp2_with fail
       go_roundg gh
       case measure=>omega
       case rel=>exact⟨p+1,H,J,wc,L,by omega,by go_num,by refine uH PO (fun x=>Value.bool s.still=.bool x.still) ?_;rw[uH EE],aa (by refine uH PO (fun x=>cD w _ r c N M x H J wc L) ?_;rw[uH EE];exact uH u)⟩
      ·clear SK
       go_wp2_with fail
       refine(uH K2 _).mono ?_
       rintro e w3 ⟨rfl,z⟩
       replace u:=aa ((uH u).all z);replace D:=aa ((uH D).below z);replace F:=aa ((uH F).below z)
       clear z K2
       cases h2:eJ low y
       ·clear D F TT K3 K4 K5 K6
        have a3:tX r c low p q s=s:=oy (by rw[uH SB,h1,h2];rfl)
        rw[a3]at SU
        go_wp2_with fail
        go_roundg g2
        case measure=>omega
        case rel=>exact⟨t+1,H,J,wc,L,by omega,by go_num,by rw[uH SU],aa (by rw[uH SU];exact uH u)⟩
       ·go_wp2_with fail
        refine(uH K3 _ ((uH HT).all (uH u).bel)).mono ?_
        rintro e w3 ⟨rfl,z⟩
        replace u:=aa ((uH u).all z);replace D:=aa ((uH D).below z);replace F:=aa ((uH F).below z)
        clear z K3
        go_wp2_with fail
        refine(uH K4 _ ((uH HT).all (uH u).bel)).mono ?_
        rintro e w3 ⟨rfl,z⟩
        replace u:=aa ((uH u).all z);replace D:=aa ((uH D).below z);replace F:=aa ((uH F).below z)
        clear z K4
        go_wp2_with fail
        refine(uH K5 _).mono ?_
        rintro e w3 ⟨rfl,z⟩
        replace u:=aa ((uH u).all z);replace D:=aa ((uH D).below z);replace F:=aa ((uH F).below z)
        clear z K5
        go_wp2_with fail
        refine(uH K6 _).mono ?_
        rintro e w3 ⟨rfl,z⟩
        replace u:=aa ((uH u).all z);replace D:=aa ((uH D).below z);replace F:=aa ((uH F).below z)
        clear z K6
        cases h3:eJ (xV (mV x y) (-44)) (fR g)
        ·clear D F TT
         have a3:tX r c low p q s=s:=oy (by rw[uH SB,h1,h2,h3];rfl)
         rw[a3]at SU
         go_wp2_with fail
         go_roundg g2
         case measure=>omega
         case rel=>exact⟨t+1,H,J,wc,L,by omega,by go_num,by rw[uH SU],aa (by rw[uH SU];exact uH u)⟩
        ·have a3:tX r c low p q s=Is r c p q s:=by
          unfold tX
          rw[if_neg (by rw[uH SB,h1,h2,h3];decide)]
         rw[a3]at SU
         go_wp2_with fail
         refine(uH TT _ (uH D) (uH F) ((uH HT).all (uH u).bel)).mono ?_
         rintro e w3 ⟨rfl,z⟩
         replace u:=aa ((uH u).all z)
         clear z TT D F SB h1 h2 h3
         unfold Is at SU
         have lC:=qZ (jm r c s.W p q);have lS:=BK (jm r c s.W p q)
         generalize mI (jm r c s.W p q)=C at*
         generalize tq (jm r c s.W p q)=S at*
         have KM:=aa (fun w'=>ez S w' lS)
         have lM:=gH S lS
         generalize fN S=S' at*
         go_wp2_with fail
         refine aj (fun W=>cD w W r c N M s H J wc L) (uH u) ?_
         clear u
         rintro V2 d
         have d:=d.all (Below.refl V2.heap.size V2).drew
         have KC:=aa (fun w' (z:Below V2.drew.heap.size V2.drew w')=>tn r c wc p q C S' H s.W w' (d.mw.below z) a4 bi bm lC lM ((uH HT).all (d.bel.trans (z.mono d.bel.size))))
         rw[d.hN]at KC
         have u:=aa d
         clear d
         refine iw (T:=Option Addr×Nat) (fun a t=>((((((((((a.put (some 71) (.agg #[.int .i64 (r:Nat),.int .i64 (c:Nat),.slice H N wc])).put (some 72) (.int .i64 (p:Nat))).put (some 73) (.int .i64 (q:Nat))).put (some 74) (.int .u64 (C:Nat))).put (some 75) (.int .u64 (S:Nat))).put (some 76) (.int .u64 (S':Nat))).put (some 77) (.tuple #[.agg #[.int .i64 (r:Nat),.int .i64 (c:Nat),.slice t.1 N t.2],.int .i64 0])).put (some 70) (.tuple #[.agg #[.int .i64 (r:Nat),.int .i64 (c:Nat),.slice t.1 N t.2],.int .i64 0])).put (some 78) (.agg #[.int .i64 (r:Nat),.int .i64 (c:Nat),.slice t.1 N t.2])).put (some 79) (.int .i64 0))) (fun t w'=>cD w w' r c N M ⟨fu r c s.W p q C S',s.V,false⟩ t.1 J t.2 L) ?_ ?_
         ·have y0:=(uH u).bw.c0;have y1:=(uH u).bw.c1;have y2:=(uH u).bw.c2
          refine wp_region_held_drew (S:=fun w'=>True) (by kernel_rfl) ?_ (fun l=>?_)
          ·exact trivial
          refine wpAnyH_take (i:=1) (oi:={dst:=some 72,op:=Op.move (Operand.tmp 10),type:=3,pos:= "turns.go:44",after:=#[],guard:=none}) (v:=.int .i64 (p:Nat)) rfl (by kernel_rfl) (by kernel_rfl) (by kernel_rfl) (fun _ _ _ h=>h) (Or.inl ⟨by rfl,?_⟩) (by assumption) ?_
          ·(intro w f;(try dsimp only at f);go_simp)
          simp only[Act.put,List.setIfInBounds_toArray,List.set_cons_zero,List.set_cons_succ]
          refine wpAnyH_take (i:=2) (oi:={dst:=some 73,op:=Op.move (Operand.tmp 11),type:=3,pos:= "turns.go:44",after:=#[],guard:=none}) (v:=.int .i64 (q:Nat)) rfl (by kernel_rfl) (by kernel_rfl) (by kernel_rfl) (fun _ _ _ h=>h) (Or.inl ⟨by rfl,?_⟩) (by assumption) ?_
          ·(intro w f;(try dsimp only at f);go_simp)
          simp only[Act.put,List.setIfInBounds_toArray,List.set_cons_zero,List.set_cons_succ]
          refine wpAnyH_take (i:=3) (oi:={dst:=some 74,op:=Op.move (Operand.tmp 17),type:=28,pos:= "turns.go:44",after:=#[],guard:=none}) (v:=.int .u64 (C:Nat)) rfl (by kernel_rfl) (by kernel_rfl) (by kernel_rfl) (fun _ _ _ h=>h) (Or.inl ⟨by rfl,?_⟩) (by assumption) ?_
          ·(intro w f;(try dsimp only at f);go_simp)
          simp only[Act.put,List.setIfInBounds_toArray,List.set_cons_zero,List.set_cons_succ]
          refine wpAnyH_take (i:=4) (oi:={dst:=some 75,op:=Op.move (Operand.tmp 18),type:=28,pos:= "turns.go:44",after:=#[],guard:=none}) (v:=.int .u64 (S:Nat)) rfl (by kernel_rfl) (by kernel_rfl) (by kernel_rfl) (fun _ _ _ h=>h) (Or.inl ⟨by rfl,?_⟩) (by assumption) ?_
          ·(intro w f;(try dsimp only at f);go_simp)
          simp only[Act.put,List.setIfInBounds_toArray,List.set_cons_zero,List.set_cons_succ]
          refine wpAnyH_ready (rs:=[0,5]) (by kernel_rfl) (by simp) ?_
          refine AllReadyH.cons (o:={dst:=some 71,op:=Op.load 25 (Operand.tmp 3),type:=25,pos:= "turns.go:44",after:=#[],guard:=none}) rfl (fun K G=>?_) (AllReadyH.cons (o:={dst:=some 76,op:=Op.call {callee:=Callee.value (Operand.func 188),args:=#[Operand.tmp 75],argTypes:=#[28]},type:=28,pos:= "turns.go:44",after:=#[{on:=4,ground:=Ground.data}],guard:=none}) rfl (fun K G=>?_) AllReadyH.nil)
          ·go_simp
           refine G.out _ _ ?_ (fun l=>?_)
           ·exact trivial
           clear G K
           refine wpAnyH_ready (rs:=[5]) (by kernel_rfl) (by simp) ?_
           refine AllReadyH.cons (o:={dst:=some 76,op:=Op.call {callee:=Callee.value (Operand.func 188),args:=#[Operand.tmp 75],argTypes:=#[28]},type:=28,pos:= "turns.go:44",after:=#[{on:=4,ground:=Ground.data}],guard:=none}) rfl (fun K G=>?_) AllReadyH.nil
           go_simp
           refine(uH KM _).mono ?_
           rintro e w5 ⟨rfl,rfl⟩
           go_wp2_with fail
           refine G.out _ _ ?_ (fun l=>?_)
           ·exact trivial
           clear G K
           refine wpAnyH_ready (rs:=[6]) (by kernel_rfl) (by simp) ?_
           refine AllReadyH.cons (o:={dst:=some 77,op:=Op.call {callee:=Callee.value (Operand.func 200),args:=#[Operand.tmp 71,Operand.tmp 72,Operand.tmp 73,Operand.tmp 74,Operand.tmp 76],argTypes:=#[25,3,3,28,28]},type:=33,pos:= "turns.go:44",after:=#[{on:=0,ground:=Ground.data},{on:=1,ground:=Ground.data},{on:=2,ground:=Ground.data},{on:=3,ground:=Ground.data},{on:=5,ground:=Ground.data},{on:=5,ground:=Ground.chain}],guard:=none}) rfl (fun K G=>?_) AllReadyH.nil
           go_simp
           refine(uH KC _ (Below.refl _ _)).mono ?_
           rintro e w6 ⟨v,rfl,⟨O,Q,rfl,_,Y⟩,z⟩
           have d:=(uH u).all z
           have X:(fu r c s.W p q C S').length=N:=(co _ _ _ _ _ _ _).trans (uH RN).1
           rw[X]
           have z0:=d.bw.c0;have z1:=d.bw.c1;have z2:=d.bw.c2;have f0:=d.bw.free 0;have f1:=d.bw.free 1;have f2:=d.bw.free 2
           have S2:=aa (show cD w _ r c N M ⟨fu r c s.W p q C S',s.V,false⟩ O J Q L from d.putW (⟨Y,co _ _ _ _ _ _ _,ao,am⟩:Mx w6 O Q r c (fu r c s.W p q C S')) X false)
           clear d Y z X
           go_wp2_with fail
           refine G.out _ _ ?_ (fun l=>?_)
           ·exact trivial
           clear G K
           refine wpAnyH_take (i:=7) (oi:={dst:=some 70,op:=Op.move (Operand.tmp 77),type:=33,pos:= "turns.go:44",after:=#[{on:=6,ground:=Ground.data}],guard:=none}) (v:=.tuple #[.agg #[.int .i64 (r:Nat),.int .i64 (c:Nat),.slice O N Q],.int .i64 0]) rfl (by kernel_rfl) (by kernel_rfl) (by kernel_rfl) (fun _ _ _ h=>h) (Or.inl ⟨by rfl,?_⟩) (by assumption) ?_
           ·(intro w f;(try dsimp only at f);go_simp)
           simp only[Act.put,List.setIfInBounds_toArray,List.set_cons_zero,List.set_cons_succ]
           refine wpAnyH_take (i:=8) (oi:={dst:=some 78,op:=Op.extract (Operand.tmp 70) 0,type:=25,pos:= "turns.go:44",after:=#[{on:=7,ground:=Ground.data}],guard:=none}) (v:=.agg #[.int .i64 (r:Nat),.int .i64 (c:Nat),.slice O N Q]) rfl (by kernel_rfl) (by kernel_rfl) (by kernel_rfl) (fun _ _ _ h=>h) (Or.inl ⟨by rfl,?_⟩) (by assumption) ?_
           ·(intro w f;(try dsimp only at f);go_simp)
           simp only[Act.put,List.setIfInBounds_toArray,List.set_cons_zero,List.set_cons_succ]
           refine wpAnyH_take (i:=9) (oi:={dst:=some 79,op:=Op.extract (Operand.tmp 70) 1,type:=32,pos:= "turns.go:44",after:=#[{on:=7,ground:=Ground.data},{on:=10,ground:=Ground.gcOnly Departure.lateStores}],guard:=none}) (v:=.int .i64 0) rfl (by kernel_rfl) (by kernel_rfl) (by kernel_rfl) (fun _ _ _ h=>h) (Or.inl ⟨by rfl,?_⟩) (by assumption) ?_
           ·(intro w f;(try dsimp only at f);go_simp)
           simp only[Act.put,List.setIfInBounds_toArray,List.set_cons_zero,List.set_cons_succ]
           refine wpAnyH_ready (rs:=[10]) (by kernel_rfl) (by simp) ?_
           refine AllReadyH.cons (o:={dst:=none,op:=Op.store 25 (Operand.tmp 3) (Operand.tmp 78),type:=0,pos:= "turns.go:44",after:=#[{on:=8,ground:=Ground.data},{on:=6,ground:=Ground.chain},{on:=0,ground:=Ground.phase},{on:=1,ground:=Ground.phase},{on:=2,ground:=Ground.phase},{on:=3,ground:=Ground.phase},{on:=4,ground:=Ground.phase},{on:=5,ground:=Ground.phase},{on:=6,ground:=Ground.phase},{on:=7,ground:=Ground.phase},{on:=8,ground:=Ground.phase},{on:=9,ground:=Ground.textOnly Departure.lateStores}],guard:=none}) rfl (fun K G=>?_) AllReadyH.nil
           go_simp
           refine G.out _ _ ?_ (fun l=>?_)
           ·exact trivial
           clear G K
           refine wpAnyH_done (by kernel_rfl) ?_ _
           exact⟨⟨O,Q⟩,by first|rfl|simp[Act.put],uH S2⟩
          ·go_simp
           refine(uH KM _).mono ?_
           rintro e w5 ⟨rfl,rfl⟩
           go_wp2_with fail
           refine G.out _ _ ?_ (fun l=>?_)
           ·exact trivial
           clear G K
           refine wpAnyH_ready (rs:=[0]) (by kernel_rfl) (by simp) ?_
           refine AllReadyH.cons (o:={dst:=some 71,op:=Op.load 25 (Operand.tmp 3),type:=25,pos:= "turns.go:44",after:=#[],guard:=none}) rfl (fun K G=>?_) AllReadyH.nil
           go_simp
           refine G.out _ _ ?_ (fun l=>?_)
           ·exact trivial
           clear G K
           refine wpAnyH_ready (rs:=[6]) (by kernel_rfl) (by simp) ?_
           refine AllReadyH.cons (o:={dst:=some 77,op:=Op.call {callee:=Callee.value (Operand.func 200),args:=#[Operand.tmp 71,Operand.tmp 72,Operand.tmp 73,Operand.tmp 74,Operand.tmp 76],argTypes:=#[25,3,3,28,28]},type:=33,pos:= "turns.go:44",after:=#[{on:=0,ground:=Ground.data},{on:=1,ground:=Ground.data},{on:=2,ground:=Ground.data},{on:=3,ground:=Ground.data},{on:=5,ground:=Ground.data},{on:=5,ground:=Ground.chain}],guard:=none}) rfl (fun K G=>?_) AllReadyH.nil
           go_simp
           refine(uH KC _ (Below.refl _ _)).mono ?_
           rintro e w6 ⟨v,rfl,⟨O,Q,rfl,_,Y⟩,z⟩
           have d:=(uH u).all z
           have X:(fu r c s.W p q C S').length=N:=(co _ _ _ _ _ _ _).trans (uH RN).1
           rw[X]
           have z0:=d.bw.c0;have z1:=d.bw.c1;have z2:=d.bw.c2;have f0:=d.bw.free 0;have f1:=d.bw.free 1;have f2:=d.bw.free 2
           have S2:=aa (show cD w _ r c N M ⟨fu r c s.W p q C S',s.V,false⟩ O J Q L from d.putW (⟨Y,co _ _ _ _ _ _ _,ao,am⟩:Mx w6 O Q r c (fu r c s.W p q C S')) X false)
           clear d Y z X
           go_wp2_with fail
           refine G.out _ _ ?_ (fun l=>?_)
           ·exact trivial
           clear G K
           refine wpAnyH_take (i:=7) (oi:={dst:=some 70,op:=Op.move (Operand.tmp 77),type:=33,pos:= "turns.go:44",after:=#[{on:=6,ground:=Ground.data}],guard:=none}) (v:=.tuple #[.agg #[.int .i64 (r:Nat),.int .i64 (c:Nat),.slice O N Q],.int .i64 0]) rfl (by kernel_rfl) (by kernel_rfl) (by kernel_rfl) (fun _ _ _ h=>h) (Or.inl ⟨by rfl,?_⟩) (by assumption) ?_
           ·(intro w f;(try dsimp only at f);go_simp)
           simp only[Act.put,List.setIfInBounds_toArray,List.set_cons_zero,List.set_cons_succ]
           refine wpAnyH_take (i:=8) (oi:={dst:=some 78,op:=Op.extract (Operand.tmp 70) 0,type:=25,pos:= "turns.go:44",after:=#[{on:=7,ground:=Ground.data}],guard:=none}) (v:=.agg #[.int .i64 (r:Nat),.int .i64 (c:Nat),.slice O N Q]) rfl (by kernel_rfl) (by kernel_rfl) (by kernel_rfl) (fun _ _ _ h=>h) (Or.inl ⟨by rfl,?_⟩) (by assumption) ?_
           ·(intro w f;(try dsimp only at f);go_simp)
           simp only[Act.put,List.setIfInBounds_toArray,List.set_cons_zero,List.set_cons_succ]
           refine wpAnyH_take (i:=9) (oi:={dst:=some 79,op:=Op.extract (Operand.tmp 70) 1,type:=32,pos:= "turns.go:44",after:=#[{on:=7,ground:=Ground.data},{on:=10,ground:=Ground.gcOnly Departure.lateStores}],guard:=none}) (v:=.int .i64 0) rfl (by kernel_rfl) (by kernel_rfl) (by kernel_rfl) (fun _ _ _ h=>h) (Or.inl ⟨by rfl,?_⟩) (by assumption) ?_
           ·(intro w f;(try dsimp only at f);go_simp)
           simp only[Act.put,List.setIfInBounds_toArray,List.set_cons_zero,List.set_cons_succ]
           refine wpAnyH_ready (rs:=[10]) (by kernel_rfl) (by simp) ?_
           refine AllReadyH.cons (o:={dst:=none,op:=Op.store 25 (Operand.tmp 3) (Operand.tmp 78),type:=0,pos:= "turns.go:44",after:=#[{on:=8,ground:=Ground.data},{on:=6,ground:=Ground.chain},{on:=0,ground:=Ground.phase},{on:=1,ground:=Ground.phase},{on:=2,ground:=Ground.phase},{on:=3,ground:=Ground.phase},{on:=4,ground:=Ground.phase},{on:=5,ground:=Ground.phase},{on:=6,ground:=Ground.phase},{on:=7,ground:=Ground.phase},{on:=8,ground:=Ground.phase},{on:=9,ground:=Ground.textOnly Departure.lateStores}],guard:=none}) rfl (fun K G=>?_) AllReadyH.nil
           go_simp
           refine G.out _ _ ?_ (fun l=>?_)
           ·exact trivial
           clear G K
           refine wpAnyH_done (by kernel_rfl) ?_ _
           exact⟨⟨O,Q⟩,by first|rfl|simp[Act.put],uH S2⟩
         rintro⟨O,Q⟩ V3 d
         simp only[Act.put,List.setIfInBounds_toArray,List.set_cons_zero,List.set_cons_succ]
         have u:=aa d
         clear d
         go_wp2_with fail
         refine aj (fun W=>cD w W r c N M ⟨fu r c s.W p q C S',s.V,false⟩ O J Q L) (uH u) ?_
         clear u
         rintro V4 d
         have d:=d.all (Below.refl V4.heap.size V4).drew
         have bn:s.V.length=M:=d.hM
         have KC:=aa (fun w' (z:Below V4.drew.heap.size V4.drew w')=>tn c c L p q C S' J s.V w' (d.mv.below z) a4 bi bm lC lM ((uH HT).all (d.bel.trans (z.mono d.bel.size))))
         rw[bn]at KC
         have u:=aa d
         clear d bn
         refine iw (T:=Option Addr×Nat) (fun a t=>((((((((((a.put (some 81) (.agg #[.int .i64 (c:Nat),.int .i64 (c:Nat),.slice J M L])).put (some 82) (.int .i64 (p:Nat))).put (some 83) (.int .i64 (q:Nat))).put (some 84) (.int .u64 (C:Nat))).put (some 85) (.int .u64 (S:Nat))).put (some 86) (.int .u64 (S':Nat))).put (some 87) (.tuple #[.agg #[.int .i64 (c:Nat),.int .i64 (c:Nat),.slice t.1 M t.2],.int .i64 0])).put (some 80) (.tuple #[.agg #[.int .i64 (c:Nat),.int .i64 (c:Nat),.slice t.1 M t.2],.int .i64 0])).put (some 88) (.agg #[.int .i64 (c:Nat),.int .i64 (c:Nat),.slice t.1 M t.2])).put (some 89) (.int .i64 0))) (fun t w'=>cD w w' r c N M ⟨fu r c s.W p q C S',fu c c s.V p q C S',false⟩ O t.1 Q t.2) ?_ ?_
         ·have y0:=(uH u).bv.c0;have y1:=(uH u).bv.c1;have y2:=(uH u).bv.c2
          refine wp_region_held_drew (S:=fun w'=>True) (by kernel_rfl) ?_ (fun l=>?_)
          ·exact trivial
          refine wpAnyH_take (i:=1) (oi:={dst:=some 82,op:=Op.move (Operand.tmp 10),type:=3,pos:= "turns.go:45",after:=#[],guard:=none}) (v:=.int .i64 (p:Nat)) rfl (by kernel_rfl) (by kernel_rfl) (by kernel_rfl) (fun _ _ _ h=>h) (Or.inl ⟨by rfl,?_⟩) (by assumption) ?_
          ·(intro w f;(try dsimp only at f);go_simp)
          simp only[Act.put,List.setIfInBounds_toArray,List.set_cons_zero,List.set_cons_succ]
          refine wpAnyH_take (i:=2) (oi:={dst:=some 83,op:=Op.move (Operand.tmp 11),type:=3,pos:= "turns.go:45",after:=#[],guard:=none}) (v:=.int .i64 (q:Nat)) rfl (by kernel_rfl) (by kernel_rfl) (by kernel_rfl) (fun _ _ _ h=>h) (Or.inl ⟨by rfl,?_⟩) (by assumption) ?_
          ·(intro w f;(try dsimp only at f);go_simp)
          simp only[Act.put,List.setIfInBounds_toArray,List.set_cons_zero,List.set_cons_succ]
          refine wpAnyH_take (i:=3) (oi:={dst:=some 84,op:=Op.move (Operand.tmp 17),type:=28,pos:= "turns.go:45",after:=#[],guard:=none}) (v:=.int .u64 (C:Nat)) rfl (by kernel_rfl) (by kernel_rfl) (by kernel_rfl) (fun _ _ _ h=>h) (Or.inl ⟨by rfl,?_⟩) (by assumption) ?_
          ·(intro w f;(try dsimp only at f);go_simp)
          simp only[Act.put,List.setIfInBounds_toArray,List.set_cons_zero,List.set_cons_succ]
          refine wpAnyH_take (i:=4) (oi:={dst:=some 85,op:=Op.move (Operand.tmp 18),type:=28,pos:= "turns.go:45",after:=#[],guard:=none}) (v:=.int .u64 (S:Nat)) rfl (by kernel_rfl) (by kernel_rfl) (by kernel_rfl) (fun _ _ _ h=>h) (Or.inl ⟨by rfl,?_⟩) (by assumption) ?_
          ·(intro w f;(try dsimp only at f);go_simp)
          simp only[Act.put,List.setIfInBounds_toArray,List.set_cons_zero,List.set_cons_succ]
          refine wpAnyH_ready (rs:=[0,5]) (by kernel_rfl) (by simp) ?_
          refine AllReadyH.cons (o:={dst:=some 81,op:=Op.load 25 (Operand.tmp 4),type:=25,pos:= "turns.go:45",after:=#[],guard:=none}) rfl (fun K G=>?_) (AllReadyH.cons (o:={dst:=some 86,op:=Op.call {callee:=Callee.value (Operand.func 188),args:=#[Operand.tmp 85],argTypes:=#[28]},type:=28,pos:= "turns.go:45",after:=#[{on:=4,ground:=Ground.data}],guard:=none}) rfl (fun K G=>?_) AllReadyH.nil)
          ·go_simp
           refine G.out _ _ ?_ (fun l=>?_)
           ·exact trivial
           clear G K
           refine wpAnyH_ready (rs:=[5]) (by kernel_rfl) (by simp) ?_
           refine AllReadyH.cons (o:={dst:=some 86,op:=Op.call {callee:=Callee.value (Operand.func 188),args:=#[Operand.tmp 85],argTypes:=#[28]},type:=28,pos:= "turns.go:45",after:=#[{on:=4,ground:=Ground.data}],guard:=none}) rfl (fun K G=>?_) AllReadyH.nil
           go_simp
           refine(uH KM _).mono ?_
           rintro e w5 ⟨rfl,rfl⟩
           go_wp2_with fail
           refine G.out _ _ ?_ (fun l=>?_)
           ·exact trivial
           clear G K
           refine wpAnyH_ready (rs:=[6]) (by kernel_rfl) (by simp) ?_
           refine AllReadyH.cons (o:={dst:=some 87,op:=Op.call {callee:=Callee.value (Operand.func 200),args:=#[Operand.tmp 81,Operand.tmp 82,Operand.tmp 83,Operand.tmp 84,Operand.tmp 86],argTypes:=#[25,3,3,28,28]},type:=33,pos:= "turns.go:45",after:=#[{on:=0,ground:=Ground.data},{on:=1,ground:=Ground.data},{on:=2,ground:=Ground.data},{on:=3,ground:=Ground.data},{on:=5,ground:=Ground.data},{on:=5,ground:=Ground.chain}],guard:=none}) rfl (fun K G=>?_) AllReadyH.nil
           go_simp
           refine(uH KC _ (Below.refl _ _)).mono ?_
           rintro e w6 ⟨v,rfl,⟨Z,ae,rfl,_,Y⟩,z⟩
           have d:=(uH u).all z
           have X:(fu c c s.V p q C S').length=M:=(co _ _ _ _ _ _ _).trans (uH RN).2
           rw[X]
           have z0:=d.bv.c0;have z1:=d.bv.c1;have z2:=d.bv.c2;have f0:=d.bv.free 0;have f1:=d.bv.free 1;have f2:=d.bv.free 2
           have S2:=aa (show cD w _ r c N M ⟨fu r c s.W p q C S',fu c c s.V p q C S',false⟩ O Z Q ae from d.putV (⟨Y,co _ _ _ _ _ _ _,am,am⟩:Mx w6 Z ae c c (fu c c s.V p q C S')) X false)
           clear d Y z X
           go_wp2_with fail
           refine G.out _ _ ?_ (fun l=>?_)
           ·exact trivial
           clear G K
           refine wpAnyH_take (i:=7) (oi:={dst:=some 80,op:=Op.move (Operand.tmp 87),type:=33,pos:= "turns.go:45",after:=#[{on:=6,ground:=Ground.data}],guard:=none}) (v:=.tuple #[.agg #[.int .i64 (c:Nat),.int .i64 (c:Nat),.slice Z M ae],.int .i64 0]) rfl (by kernel_rfl) (by kernel_rfl) (by kernel_rfl) (fun _ _ _ h=>h) (Or.inl ⟨by rfl,?_⟩) (by assumption) ?_
           ·(intro w f;(try dsimp only at f);go_simp)
           simp only[Act.put,List.setIfInBounds_toArray,List.set_cons_zero,List.set_cons_succ]
           refine wpAnyH_take (i:=8) (oi:={dst:=some 88,op:=Op.extract (Operand.tmp 80) 0,type:=25,pos:= "turns.go:45",after:=#[{on:=7,ground:=Ground.data}],guard:=none}) (v:=.agg #[.int .i64 (c:Nat),.int .i64 (c:Nat),.slice Z M ae]) rfl (by kernel_rfl) (by kernel_rfl) (by kernel_rfl) (fun _ _ _ h=>h) (Or.inl ⟨by rfl,?_⟩) (by assumption) ?_
           ·(intro w f;(try dsimp only at f);go_simp)
           simp only[Act.put,List.setIfInBounds_toArray,List.set_cons_zero,List.set_cons_succ]
           refine wpAnyH_take (i:=9) (oi:={dst:=some 89,op:=Op.extract (Operand.tmp 80) 1,type:=32,pos:= "turns.go:45",after:=#[{on:=7,ground:=Ground.data},{on:=10,ground:=Ground.gcOnly Departure.lateStores}],guard:=none}) (v:=.int .i64 0) rfl (by kernel_rfl) (by kernel_rfl) (by kernel_rfl) (fun _ _ _ h=>h) (Or.inl ⟨by rfl,?_⟩) (by assumption) ?_
           ·(intro w f;(try dsimp only at f);go_simp)
           simp only[Act.put,List.setIfInBounds_toArray,List.set_cons_zero,List.set_cons_succ]
           refine wpAnyH_ready (rs:=[10]) (by kernel_rfl) (by simp) ?_
           refine AllReadyH.cons (o:={dst:=none,op:=Op.store 25 (Operand.tmp 4) (Operand.tmp 88),type:=0,pos:= "turns.go:45",after:=#[{on:=8,ground:=Ground.data},{on:=6,ground:=Ground.chain},{on:=0,ground:=Ground.phase},{on:=1,ground:=Ground.phase},{on:=2,ground:=Ground.phase},{on:=3,ground:=Ground.phase},{on:=4,ground:=Ground.phase},{on:=5,ground:=Ground.phase},{on:=6,ground:=Ground.phase},{on:=7,ground:=Ground.phase},{on:=8,ground:=Ground.phase},{on:=9,ground:=Ground.textOnly Departure.lateStores}],guard:=none}) rfl (fun K G=>?_) AllReadyH.nil
           go_simp
           refine G.out _ _ ?_ (fun l=>?_)
           ·exact trivial
           clear G K
           refine wpAnyH_done (by kernel_rfl) ?_ _
           exact⟨⟨Z,ae⟩,by first|rfl|simp[Act.put],uH S2⟩
          ·go_simp
           refine(uH KM _).mono ?_
           rintro e w5 ⟨rfl,rfl⟩
           go_wp2_with fail
           refine G.out _ _ ?_ (fun l=>?_)
           ·exact trivial
           clear G K
           refine wpAnyH_ready (rs:=[0]) (by kernel_rfl) (by simp) ?_
           refine AllReadyH.cons (o:={dst:=some 81,op:=Op.load 25 (Operand.tmp 4),type:=25,pos:= "turns.go:45",after:=#[],guard:=none}) rfl (fun K G=>?_) AllReadyH.nil
           go_simp
           refine G.out _ _ ?_ (fun l=>?_)
           ·exact trivial
           clear G K
           refine wpAnyH_ready (rs:=[6]) (by kernel_rfl) (by simp) ?_
           refine AllReadyH.cons (o:={dst:=some 87,op:=Op.call {callee:=Callee.value (Operand.func 200),args:=#[Operand.tmp 81,Operand.tmp 82,Operand.tmp 83,Operand.tmp 84,Operand.tmp 86],argTypes:=#[25,3,3,28,28]},type:=33,pos:= "turns.go:45",after:=#[{on:=0,ground:=Ground.data},{on:=1,ground:=Ground.data},{on:=2,ground:=Ground.data},{on:=3,ground:=Ground.data},{on:=5,ground:=Ground.data},{on:=5,ground:=Ground.chain}],guard:=none}) rfl (fun K G=>?_) AllReadyH.nil
           go_simp
           refine(uH KC _ (Below.refl _ _)).mono ?_
           rintro e w6 ⟨v,rfl,⟨Z,ae,rfl,_,Y⟩,z⟩
           have d:=(uH u).all z
           have X:(fu c c s.V p q C S').length=M:=(co _ _ _ _ _ _ _).trans (uH RN).2
           rw[X]
           have z0:=d.bv.c0;have z1:=d.bv.c1;have z2:=d.bv.c2;have f0:=d.bv.free 0;have f1:=d.bv.free 1;have f2:=d.bv.free 2
           have S2:=aa (show cD w _ r c N M ⟨fu r c s.W p q C S',fu c c s.V p q C S',false⟩ O Z Q ae from d.putV (⟨Y,co _ _ _ _ _ _ _,am,am⟩:Mx w6 Z ae c c (fu c c s.V p q C S')) X false)
           clear d Y z X
           go_wp2_with fail
           refine G.out _ _ ?_ (fun l=>?_)
           ·exact trivial
           clear G K
           refine wpAnyH_take (i:=7) (oi:={dst:=some 80,op:=Op.move (Operand.tmp 87),type:=33,pos:= "turns.go:45",after:=#[{on:=6,ground:=Ground.data}],guard:=none}) (v:=.tuple #[.agg #[.int .i64 (c:Nat),.int .i64 (c:Nat),.slice Z M ae],.int .i64 0]) rfl (by kernel_rfl) (by kernel_rfl) (by kernel_rfl) (fun _ _ _ h=>h) (Or.inl ⟨by rfl,?_⟩) (by assumption) ?_
           ·(intro w f;(try dsimp only at f);go_simp)
           simp only[Act.put,List.setIfInBounds_toArray,List.set_cons_zero,List.set_cons_succ]
           refine wpAnyH_take (i:=8) (oi:={dst:=some 88,op:=Op.extract (Operand.tmp 80) 0,type:=25,pos:= "turns.go:45",after:=#[{on:=7,ground:=Ground.data}],guard:=none}) (v:=.agg #[.int .i64 (c:Nat),.int .i64 (c:Nat),.slice Z M ae]) rfl (by kernel_rfl) (by kernel_rfl) (by kernel_rfl) (fun _ _ _ h=>h) (Or.inl ⟨by rfl,?_⟩) (by assumption) ?_
           ·(intro w f;(try dsimp only at f);go_simp)
           simp only[Act.put,List.setIfInBounds_toArray,List.set_cons_zero,List.set_cons_succ]
           refine wpAnyH_take (i:=9) (oi:={dst:=some 89,op:=Op.extract (Operand.tmp 80) 1,type:=32,pos:= "turns.go:45",after:=#[{on:=7,ground:=Ground.data},{on:=10,ground:=Ground.gcOnly Departure.lateStores}],guard:=none}) (v:=.int .i64 0) rfl (by kernel_rfl) (by kernel_rfl) (by kernel_rfl) (fun _ _ _ h=>h) (Or.inl ⟨by rfl,?_⟩) (by assumption) ?_
           ·(intro w f;(try dsimp only at f);go_simp)
           simp only[Act.put,List.setIfInBounds_toArray,List.set_cons_zero,List.set_cons_succ]
           refine wpAnyH_ready (rs:=[10]) (by kernel_rfl) (by simp) ?_
           refine AllReadyH.cons (o:={dst:=none,op:=Op.store 25 (Operand.tmp 4) (Operand.tmp 88),type:=0,pos:= "turns.go:45",after:=#[{on:=8,ground:=Ground.data},{on:=6,ground:=Ground.chain},{on:=0,ground:=Ground.phase},{on:=1,ground:=Ground.phase},{on:=2,ground:=Ground.phase},{on:=3,ground:=Ground.phase},{on:=4,ground:=Ground.phase},{on:=5,ground:=Ground.phase},{on:=6,ground:=Ground.phase},{on:=7,ground:=Ground.phase},{on:=8,ground:=Ground.phase},{on:=9,ground:=Ground.textOnly Departure.lateStores}],guard:=none}) rfl (fun K G=>?_) AllReadyH.nil
           go_simp
           refine G.out _ _ ?_ (fun l=>?_)
           ·exact trivial
           clear G K
           refine wpAnyH_done (by kernel_rfl) ?_ _
           exact⟨⟨Z,ae⟩,by first|rfl|simp[Act.put],uH S2⟩
         rintro⟨Z,ae⟩ V5 d
         simp only[Act.put,List.setIfInBounds_toArray,List.set_cons_zero,List.set_cons_succ]
         have u:=aa d
         clear d
         go_wp2_with fail
         go_roundg g2
         case measure=>omega
         case rel=>exact⟨t+1,O,Z,Q,ae,by omega,by go_num,by rw[uH SU],aa (by rw[uH SU];exact uH u)⟩
    |zero=>
     have bx:¬((q:Int)<(c:Int)):=by have:=uH a5;omega
     have bo:t=c-1-p:=by omega
     go_wp2_with fail
     clear y1
     go_roundg gh
     case measure=>omega
     case rel=>exact⟨p+1,H,J,wc,L,by omega,by go_num,by refine uH PO (fun x=>Value.bool s.still=.bool x.still) ?_;rw[←bo,hs],aa (by refine uH PO (fun x=>cD w wr r c N M x H J wc L) ?_;rw[←bo,hs];exact uH u)⟩
  |zero=>
   have bA:p=c:=by omega
   subst bA
   refine aj (fun W=>cD w W r p N M (mb r p low s0 p) H J wc L) (uH u) ?_
   clear u
   rintro V d
   generalize a7:mb r p low s0 p=s at*
   have d:=d.all (Below.refl V.heap.size V).drew
   have y0:=d.bw.c0;have y1:=d.bw.c1;have y2:=d.bw.c2;have u0:=d.bv.c0;have u1:=d.bv.c1;have u2:=d.bv.c2
   have s0:=d.b6.c0;have s1:=d.b6.c1;have s2:=d.b6.c2;have f0:=d.b6.free 0;have f1:=d.b6.free 1;have f2:=d.b6.free 2
   have X6:=d.b6.put (.int .i64 (r:Nat)) (.int .i64 (p:Nat)) (.slice H N wc)
   have X7:=d.b7.three (g:=w.heap.size+1+1) (by omega) (.int .i64 (r:Nat)) (.int .i64 (p:Nat)) (.slice H N wc)
   have t0:=X7.c0;have t1:=X7.c1;have t2:=X7.c2;have g0:=X7.free 0;have g1:=X7.free 1;have g2:=X7.free 2
   have X8:=X7.put (.int .i64 (p:Nat)) (.int .i64 (p:Nat)) (.slice J M L)
   have X9:=X6.three (g:=w.heap.size+1+1+1) (by omega) (.int .i64 (p:Nat)) (.int .i64 (p:Nat)) (.slice J M L)
   have a0:=X9.c0;have a1:=X9.c1;have a2:=X9.c2;have b0:=X8.c0;have b1:=X8.c1;have b2:=X8.c2
   have a6:=aa (show Mx ((((((V.drew.setCell ⟨w.heap.size+1+1,0,none⟩ (.int .i64 (r:Nat))).setCell ⟨w.heap.size+1+1,1,none⟩ (.int .i64 (p:Nat))).setCell ⟨w.heap.size+1+1,2,none⟩ (.slice H N wc)).setCell ⟨w.heap.size+1+1+1,0,none⟩ (.int .i64 (p:Nat))).setCell ⟨w.heap.size+1+1+1,1,none⟩ (.int .i64 (p:Nat))).setCell ⟨w.heap.size+1+1+1,2,none⟩ (.slice J M L)) H wc r p s.W∧Mx ((((((V.drew.setCell ⟨w.heap.size+1+1,0,none⟩ (.int .i64 (r:Nat))).setCell ⟨w.heap.size+1+1,1,none⟩ (.int .i64 (p:Nat))).setCell ⟨w.heap.size+1+1,2,none⟩ (.slice H N wc)).setCell ⟨w.heap.size+1+1+1,0,none⟩ (.int .i64 (p:Nat))).setCell ⟨w.heap.size+1+1+1,1,none⟩ (.int .i64 (p:Nat))).setCell ⟨w.heap.size+1+1+1,2,none⟩ (.slice J M L)) J L p p s.V∧Below w.heap.size w ((((((V.drew.setCell ⟨w.heap.size+1+1,0,none⟩ (.int .i64 (r:Nat))).setCell ⟨w.heap.size+1+1,1,none⟩ (.int .i64 (p:Nat))).setCell ⟨w.heap.size+1+1,2,none⟩ (.slice H N wc)).setCell ⟨w.heap.size+1+1+1,0,none⟩ (.int .i64 (p:Nat))).setCell ⟨w.heap.size+1+1+1,1,none⟩ (.int .i64 (p:Nat))).setCell ⟨w.heap.size+1+1+1,2,none⟩ (.slice J M L))∧s.W.length=N∧s.V.length=M from⟨(d.mw.putM d.b6 _ _ _).putM X7 _ _ _,(d.mv.putM d.b6 _ _ _).putM X7 _ _ _,aq (b:=w.heap.size+1+1+1) (aq (b:=w.heap.size+1+1) d.bel (by omega) _ _ _) (by omega) _ _ _,d.hN,d.hM⟩)
   have H0:=aa (show V.drew.cell? ⟨w.heap.size,0,none⟩=some (.int .i64 (r:Nat))∧V.drew.cell? ⟨w.heap.size,1,none⟩=some (.int .i64 (p:Nat))∧V.drew.cell? ⟨w.heap.size,2,none⟩=some (.slice H N wc)∧V.drew.cell? ⟨w.heap.size+1,0,none⟩=some (.int .i64 (p:Nat))∧V.drew.cell? ⟨w.heap.size+1,1,none⟩=some (.int .i64 (p:Nat))∧V.drew.cell? ⟨w.heap.size+1,2,none⟩=some (.slice J M L)from⟨y0,y1,y2,u0,u1,u2⟩)
   have YY:=(d.bw.three (g:=w.heap.size+1+1) (by omega) (.int .i64 (r:Nat)) (.int .i64 (p:Nat)) (.slice H N wc));have UU:=(d.bv.three (g:=w.heap.size+1+1) (by omega) (.int .i64 (r:Nat)) (.int .i64 (p:Nat)) (.slice H N wc))
   have H1:=aa (And.intro YY.c0 (And.intro YY.c1 (And.intro YY.c2 (And.intro UU.c0 (And.intro UU.c1 UU.c2)))))
   have Y2:=YY.three (g:=w.heap.size+1+1+1) (by omega) (.int .i64 (p:Nat)) (.int .i64 (p:Nat)) (.slice J M L);have U2:=UU.three (g:=w.heap.size+1+1+1) (by omega) (.int .i64 (p:Nat)) (.int .i64 (p:Nat)) (.slice J M L)
   have H2:=aa (And.intro Y2.c0 (And.intro Y2.c1 (And.intro Y2.c2 (And.intro U2.c0 (And.intro U2.c1 U2.c2)))))
   clear d X6 X7 X8 X9 OI e0 YY UU Y2 U2
   generalize b4:s.still=b at*
   go_wp2_with fail
   refine wp_region_held_drew (S:=fun w'=>w'.cell? ⟨w.heap.size,0,none⟩=some (.int .i64 (r:Nat))∧w'.cell? ⟨w.heap.size,1,none⟩=some (.int .i64 (p:Nat))∧w'.cell? ⟨w.heap.size,2,none⟩=some (.slice H N wc)∧w'.cell? ⟨w.heap.size+1,0,none⟩=some (.int .i64 (p:Nat))∧w'.cell? ⟨w.heap.size+1,1,none⟩=some (.int .i64 (p:Nat))∧w'.cell? ⟨w.heap.size+1,2,none⟩=some (.slice J M L)) (by kernel_rfl) ?_ (fun l=>?_)
   ·exact uH H0
   generalize V.drew=U at*
   refine wpAnyH_take (i:=0) (oi:={dst:=some 91,op:=Op.load 25 (Operand.tmp 3),type:=25,pos:= "turns.go:49",after:=#[],guard:=none}) (v:=.agg #[.int .i64 (r:Nat),.int .i64 (p:Nat),.slice H N wc]) rfl (by kernel_rfl) (by kernel_rfl) (by kernel_rfl) (fun _ _ _ h=>h) (Or.inl ⟨by rfl,?_⟩) (by assumption) ?_
   ·(intro w f;(try dsimp only at f);go_simp)
   simp only[Act.put,List.setIfInBounds_toArray,List.set_cons_zero,List.set_cons_succ]
   refine wpAnyH_take (i:=1) (oi:={dst:=some 92,op:=Op.load 25 (Operand.tmp 4),type:=25,pos:= "turns.go:49",after:=#[{on:=3,ground:=Ground.gcOnly Departure.lateStores}],guard:=none}) (v:=.agg #[.int .i64 (p:Nat),.int .i64 (p:Nat),.slice J M L]) rfl (by kernel_rfl) (by kernel_rfl) (by kernel_rfl) (fun _ _ _ h=>h) (Or.inl ⟨by rfl,?_⟩) (by assumption) ?_
   ·(intro w f;(try dsimp only at f);go_simp)
   simp only[Act.put,List.setIfInBounds_toArray,List.set_cons_zero,List.set_cons_succ]
   refine wpAnyH_take (i:=2) (oi:={dst:=some 93,op:=Op.move (Operand.tmp 9),type:=4,pos:= "turns.go:49",after:=#[{on:=4,ground:=Ground.gcOnly Departure.lateStores}],guard:=none}) (v:=.bool b) rfl (by kernel_rfl) (by kernel_rfl) (by kernel_rfl) (fun _ _ _ h=>h) (Or.inl ⟨by rfl,?_⟩) (by assumption) ?_
   ·(intro w f;(try dsimp only at f);go_simp)
   simp only[Act.put,List.setIfInBounds_toArray,List.set_cons_zero,List.set_cons_succ]
   refine wpAnyH_ready (rs:=[3]) (by kernel_rfl) (by simp) ?_
   refine AllReadyH.cons (o:={dst:=none,op:=Op.store 25 (Operand.tmp 6) (Operand.tmp 91),type:=0,pos:= "turns.go:49",after:=#[{on:=0,ground:=Ground.data},{on:=0,ground:=Ground.phase},{on:=1,ground:=Ground.textOnly Departure.lateStores},{on:=2,ground:=Ground.textOnly Departure.lateStores}],guard:=none}) rfl (fun K G=>?_) AllReadyH.nil
   go_simp
   refine G.out _ _ ?_ (fun l=>?_)
   ·exact uH H1
   clear G K
   refine wpAnyH_ready (rs:=[4]) (by kernel_rfl) (by simp) ?_
   refine AllReadyH.cons (o:={dst:=none,op:=Op.store 25 (Operand.tmp 7) (Operand.tmp 92),type:=0,pos:= "turns.go:49",after:=#[{on:=1,ground:=Ground.data},{on:=3,ground:=Ground.chain},{on:=0,ground:=Ground.phase},{on:=1,ground:=Ground.phase},{on:=2,ground:=Ground.textOnly Departure.lateStores},{on:=3,ground:=Ground.phase}],guard:=none}) rfl (fun K G=>?_) AllReadyH.nil
   go_simp
   refine G.out _ _ ?_ (fun l=>?_)
   ·exact uH H2
   clear G K
   refine wpAnyH_take (i:=5) (oi:={dst:=some 8,op:=Op.assign (Operand.tmp 93),type:=4,pos:= "turns.go:49",after:=#[{on:=2,ground:=Ground.data},{on:=4,ground:=Ground.chain},{on:=0,ground:=Ground.phase},{on:=1,ground:=Ground.phase},{on:=2,ground:=Ground.phase},{on:=3,ground:=Ground.phase},{on:=4,ground:=Ground.phase}],guard:=none}) (v:=.bool b) rfl (by kernel_rfl) (by kernel_rfl) (by kernel_rfl) (fun _ _ _ h=>h) (Or.inl ⟨by rfl,?_⟩) (by assumption) ?_
   ·(intro w f;(try dsimp only at f);go_simp)
   simp only[Act.put,List.setIfInBounds_toArray,List.set_cons_zero,List.set_cons_succ]
   refine wpAnyH_done (by kernel_rfl) ?_ _
   skip
   go_wp2_with fail
   try rw[Exit.noGoto_ret]
   exact bodyPost_ret (v:=.tuple #[.agg #[.int .i64 r,.int .i64 p,.slice H N wc],.agg #[.int .i64 p,.int .i64 p,.slice J M L],.bool b]) (by simp[results,Tryz.results210,go_sem,a0,a1,a2,b0,b1,b2]) rfl ⟨⟨H,wc,J,L,by rw[a7,b4],by rw[a7];exact(uH a6).1,by rw[a7];exact(uH a6).2.1,by rw[a7];exact(uH a6).2.2.2⟩,(uH a6).2.2.1⟩
structure lq (w wr:World) (g r c N M:Nat) (s:Sd) (wo vo:Option Addr) (wc vc:Nat):Prop where
 bel:Below w.heap.size w wr
 bw:aw wr w.heap.size (.int .i64 r) (.int .i64 c) (.slice wo N wc)
 b4:aw wr (w.heap.size+1) (.int .i64 0) (.int .i64 0) (.slice none 0 0)
 b5:aw wr (w.heap.size+1+1) (.int .i64 0) (.int .i64 0) (.slice none 0 0)
 bv:aw wr g (.int .i64 c) (.int .i64 c) (.slice vo M vc)
 hg:w.heap.size+1+1<g
 mw:Mx wr wo wc r c s.W
 mv:Mx wr vo vc c c s.V
 hN:s.W.length=N
 hM:s.V.length=M
theorem lq.all{w wr w':World}{g r c N M:Nat}{s:Sd}{f l:Option Addr}{wc u:Nat}(h:lq w wr g r c N M s f l wc u)(d:Below wr.heap.size wr w'):lq w w' g r c N M s f l wc u:=
 ⟨h.bel.trans (d.mono h.bel.size),h.bw.all d,h.b4.all d,h.b5.all d,h.bv.all d,h.hg,h.mw.below d,h.mv.below d,h.hN,h.hM⟩
theorem lq.put{w wr:World}{g r c N M:Nat}{s z:Sd}{D F d l:Option Addr}{wc G f u:Nat}(h:lq w wr g r c N M s D F wc G)(H:Mx wr d f r c z.W)(J:Mx wr l u c c z.V)(K:z.W.length=N)(L:z.V.length=M):
  lq w ((((((wr.setCell ⟨w.heap.size,0,none⟩ (.int .i64 r)).setCell ⟨w.heap.size,1,none⟩ (.int .i64 c)).setCell ⟨w.heap.size,2,none⟩ (.slice d N f)).setCell ⟨g,0,none⟩ (.int .i64 c)).setCell ⟨g,1,none⟩ (.int .i64 c)).setCell ⟨g,2,none⟩ (.slice l M u)) g r c N M z d l f u:=by
 have O:=h.hg
 have x:=h.bw.put (.int .i64 r) (.int .i64 c) (.slice d N f)
 have y:=h.bv.three (g:=w.heap.size) (by omega) (.int .i64 r) (.int .i64 c) (.slice d N f)
 exact⟨aq (b:=g) (aq (b:=w.heap.size) h.bel (Nat.le_refl _) _ _ _) (by omega) _ _ _,x.three (by omega) _ _ _,(h.b4.three (by omega) _ _ _).three (by omega) _ _ _,(h.b5.three (by omega) _ _ _).three (by omega) _ _ _,y.put _ _ _,O,(H.putM h.bw _ _ _).putM y _ _ _,(J.putM h.bw _ _ _).putM y _ _ _,K,L⟩
theorem lq.out{w wr:World}{g r c N M:Nat}{s:Sd}{d f:Option Addr}{wc l:Nat}(h:lq w wr g r c N M s d f wc l)(F:World)
  (hF:F=((((((wr.setCell ⟨w.heap.size+1,0,none⟩ (.int .i64 r)).setCell ⟨w.heap.size+1,1,none⟩ (.int .i64 c)).setCell ⟨w.heap.size+1,2,none⟩ (.slice d N wc)).setCell ⟨w.heap.size+1+1,0,none⟩ (.int .i64 c)).setCell ⟨w.heap.size+1+1,1,none⟩ (.int .i64 c)).setCell ⟨w.heap.size+1+1,2,none⟩ (.slice f M l))):
  aw F (w.heap.size+1) (.int .i64 r) (.int .i64 c) (.slice d N wc)∧aw F (w.heap.size+1+1) (.int .i64 c) (.int .i64 c) (.slice f M l)∧Mx F d wc r c s.W∧Mx F f l c c s.V∧Below w.heap.size w F∧s.W.length=N∧s.V.length=M:=by
 subst hF
 have x:=h.b4.put (.int .i64 r) (.int .i64 c) (.slice d N wc)
 have y:=h.b5.three (g:=w.heap.size+1) (by omega) (.int .i64 r) (.int .i64 c) (.slice d N wc)
 exact⟨x.three (by omega) _ _ _,y.put _ _ _,(h.mw.putM h.b4 _ _ _).putM y _ _ _,(h.mv.putM h.b4 _ _ _).putM y _ _ _,aq (b:=w.heap.size+1+1) (aq (b:=w.heap.size+1) h.bel (by omega) _ _ _) (by omega) _ _ _,h.hN,h.hM⟩
theorem kC{r c low:Nat}{s:Sd}{n:Nat}(h:(gu r c low s n).still=true):∀k,gu r c low s (n+k)=gu r c low s n
 |0=>rfl
 |k+1=>by
  have e:gu r c low s (n+(k+1))=if(gu r c low s (n+k)).still=true then gu r c low s (n+k)else GZ r c low (gu r c low s (n+k)):=rfl
  rw[e,kC h k,if_pos h]
theorem BQ{r c low:Nat}{s:Sd}{n:Nat}(h:(gu r c low s n).still=false):gu r c low s (n+1)=GZ r c low (gu r c low s n):=by
 show(if(gu r c low s n).still=true then gu r c low s n else GZ r c low (gu r c low s n))=_
 rw[h]
 rfl
def Fn(r c:Nat)(S:List Nat)(n:Nat):Sd:=gu r c (xV (nX (aL S)) (-44)) ⟨S,gE c,false⟩ n
theorem tt(r c N M k wc:Nat)(l:Option Addr)(W:List Nat)(w:World)(mw:Mx w l wc r c W)(hN:W.length=N)(hM:c*c=M)(hk:k≤1000)(hT:bT w):
  Calls Tryz.prog 154 #[.agg #[.int .i64 r,.int .i64 c,.slice l N wc],.int .i64 k] w fun e w'=>BO w' r c N M (Fn r c W k) e∧Below w.heap.size w w':=by
 have b3:=qT w (.int .i64 r) (.int .i64 c) (.slice l N wc) (.int .i64 0) (.int .i64 0) (.slice none 0 0) (.int .i64 0) (.int .i64 0) (.slice none 0 0) (((w.alloc (.cells #[.int .i64 r,.int .i64 c,.slice l N wc] 25)).alloc (.cells #[.int .i64 0,.int .i64 0,.slice none 0 0] 25)).alloc (.cells #[.int .i64 0,.int .i64 0,.slice none 0 0] 25)) (by have:=Below.refl (((w.alloc (.cells #[.int .i64 r,.int .i64 c,.slice l N wc] 25)).alloc (.cells #[.int .i64 0,.int .i64 0,.slice none 0 0] 25)).alloc (.cells #[.int .i64 0,.int .i64 0,.slice none 0 0] 25)).heap.size (((w.alloc (.cells #[.int .i64 r,.int .i64 c,.slice l N wc] 25)).alloc (.cells #[.int .i64 0,.int .i64 0,.slice none 0 0] 25)).alloc (.cells #[.int .i64 0,.int .i64 0,.slice none 0 0] 25));simpa only[ah]using this)
 have s3:(((w.alloc (.cells #[.int .i64 r,.int .i64 c,.slice l N wc] 25)).alloc (.cells #[.int .i64 0,.int .i64 0,.slice none 0 0] 25)).alloc (.cells #[.int .i64 0,.int .i64 0,.slice none 0 0] 25)).heap.size=w.heap.size+1+1+1:=by simp only[ah]
 obtain⟨b0,x0,x1,x2⟩:=b3
 have HB:=aa b0;have HX:=aa (And.intro x0 (And.intro x1 x2));have S3:=aa s3
 have bb:=mw.2.2.1;have ao:=mw.2.2.2
 have LW:=aa (show(aL W).length=N from(av W).trans hN)
 have MW:=aa mw;have HT:=aa hT
 have y1:=x0.c1
 have SW:=aa (show Fn r c W k=gu r c (xV (nX (aL W)) (-44)) ⟨W,gE c,false⟩ k from rfl)
 generalize Fn r c W k=a9 at*
 clear b0 x0 x1 x2 s3 mw hT
 go_enter Tryz.func154,Tryz.ntmps154
 go_wp2_with fail
 clear y1
 refine(EJ c _ ao).mono ?_
 rintro e w3 ⟨v,rfl,⟨J,L,rfl,_,hv⟩,X⟩
 rw[show(gE c).length=M from(bH _ _ _).trans hM]
 rw[uH S3]at X
 have be:w.heap.size+1+1+1≤w3.heap.size:=by have:=X.size;have:=uH S3;omega
 have ba:=ac w3 (.cells #[.int .i64 c,.int .i64 c,.slice J M L] 25)
 have xv:=aw.new w3 (.int .i64 c) (.int .i64 c) (.slice J M L)
 have ae:=(uH HB).trans (X.mono (by omega))
 have hX:=uH HX
 have z:=aa (show lq w _ w3.heap.size r c N M ⟨W,gE c,false⟩ l J wc L from⟨ae.trans (ba.mono ae.size),(hX.1.below X (by omega)).all ba,(hX.2.1.below X (by omega)).all ba,(hX.2.2.below X (by omega)).all ba,xv,by omega,((uH MW).below ae).below ba,⟨hv.below ba,(show(gE c).length=c*c from bH _ _ _),ao,ao⟩,hN,(show(gE c).length=M from(bH _ _ _).trans hM)⟩)
 clear X ba xv ae hX HX HB S3 hv
 have y2:=(uH z).bw.c2
 go_wp2_with fail
 clear y2
 generalize w3.alloc (.cells #[.int .i64 c,.int .i64 c,.slice J M L] 25)=w4 at*
 generalize w3.heap.size=g at*
 have K:=aa (jP l wc (aL W) w4 (uH z).mw.1 (by rw[uH LW];have:=(uH MW).small;omega) ((uH HT).all (uH z).bel))
 rw[uH LW]at K
 refine Calls.mono (uH K) ?_
 rintro e w5 ⟨rfl,X⟩
 replace z:=aa ((uH z).all X)
 clear X K
 have ap:=uT (aL W)
 go_wp2_with fail
 refine(eH (nX (aL W)) (-44) _ ap ((uH HT).all (uH z).bel)).mono ?_
 rintro e w6 ⟨rfl,X⟩
 replace z:=aa ((uH z).all X)
 have aI:=gV (nX (aL W)) (-44) ap
 clear X ap LW MW
 generalize xV (nX (aL W)) (-44)=low at*
 go_wp2_with fail
 go_loopw[22] (fun a wr=>∃(i:Nat) (l J:Option Addr) (wc L:Nat),i≤k∧a=.int .i64 i∧(gu r c low ⟨W,gE c,false⟩ i).still=false∧Hid (lq w wr g r c N M (gu r c low ⟨W,gE c,false⟩ i) l J wc L)) (fun a _=>k-(intOf a).toNat)
 case atStart=>exact⟨0,l,J,wc,L,Nat.zero_le _,rfl,rfl,z⟩
 case round=>
  clear z
  obtain⟨i,l,J,wc,L,hi,rfl,ax,z⟩:=hrel
  by_cases bg:i<k
  ·have bi:(i:Int)<(k:Int):=by omega
   have SU:=aa (show gu r c low ⟨W,gE c,false⟩ (i+1)=GZ r c low (gu r c low ⟨W,gE c,false⟩ i)from BQ ax)
   have SE:=aa (fun h=>kC (r:=r) (c:=c) (low:=low) (s:=⟨W,gE c,false⟩) (n:=i+1) h (k-(i+1)))
   rw[show i+1+(k-(i+1))=k by omega,←uH SW]at SE
   generalize am:gu r c low ⟨W,gE c,false⟩ (i+1)=s2 at*
   have a3:=aa am
   clear am
   generalize gu r c low ⟨W,gE c,false⟩ i=s at*
   have K:=aa (fun W' (h:lq w W' g r c N M s l J wc L)=>vh r c N M low wc L l J s.W s.V W' h.mw h.mv h.hN h.hM aI ((uH HT).all h.bel))
   rw[show mb r c low ⟨s.W,s.V,true⟩ c=s2 from(uH SU).symm]at K
   have y0:=(uH z).bw.c0;have y1:=(uH z).bw.c1;have y2:=(uH z).bw.c2;have u0:=(uH z).bv.c0;have u1:=(uH z).bv.c1;have u2:=(uH z).bv.c2
   go_wp2_with fail
   clear y0 y1 y2 u0 u1 u2
   refine(uH K _ (uH z)).mono ?_
   rintro e w7 ⟨⟨G,H,O,Q,rfl,hW,hV,a4,a5⟩,X⟩
   have d:=(uH z).all X
   have S2:=aa (d.put hW hV a4 a5)
   have hg:=d.hg
   have s0:=d.bw.c0;have s1:=d.bw.c1;have a6:=d.bw.c2;have f0:=d.bw.free 0;have f1:=d.bw.free 1;have f2:=d.bw.free 2
   have D:=d.bv.three (g:=w.heap.size) (by omega) (.int .i64 (r:Nat)) (.int .i64 (c:Nat)) (.slice G N H)
   have t0:=D.c0;have t1:=D.c1;have t2:=D.c2;have g0:=D.free 0;have g1:=D.free 1;have g2:=D.free 2
   clear d D z X K hW hV a4 a5 hg
   cases hs2:s2.still
   ·go_wp2_with fail
    go_round
    case rel=>exact⟨i+1,G,O,H,Q,by omega,by go_num,by rw[uH a3];exact hs2,by rw[uH a3];exact S2⟩
    case measure=>simp[intOf];omega
   ·have EE:=aa (uH SE hs2)
    clear SE SU
    go_wp2_with fail
    clear s0 s1 a6 f0 f1 f2 t0 t1 t2 g0 g1 g2
    refine aj (fun W=>lq w W g r c N M s2 G O H Q) (uH S2) ?_
    clear S2
    rintro V d
    have d:=d.all (Below.refl V.heap.size V).drew
    have y0:=d.bw.c0;have y1:=d.bw.c1;have y2:=d.bw.c2;have u0:=d.bv.c0;have u1:=d.bv.c1;have u2:=d.bv.c2
    have s0:=d.b4.c0;have s1:=d.b4.c1;have s2:=d.b4.c2;have f0:=d.b4.free 0;have f1:=d.b4.free 1;have f2:=d.b4.free 2
    have D:=d.b5.three (g:=w.heap.size+1) (by omega) (.int .i64 (r:Nat)) (.int .i64 (c:Nat)) (.slice G N H)
    have t0:=D.c0;have t1:=D.c1;have t2:=D.c2;have g0:=D.free 0;have g1:=D.free 1;have g2:=D.free 2
    have f:=aa (d.out _ rfl)
    have a0:=(uH f).1.c0;have a1:=(uH f).1.c1;have a2:=(uH f).1.c2;have b0:=(uH f).2.1.c0;have b1:=(uH f).2.1.c1;have b2:=(uH f).2.1.c2
    have H0:=aa (And.intro y0 (And.intro y1 (And.intro y2 (And.intro u0 (And.intro u1 u2)))))
    have hg:=d.hg
    have Z:=(d.bw.three (g:=w.heap.size+1) (by omega) (.int .i64 (r:Nat)) (.int .i64 (c:Nat)) (.slice G N H));have UU:=(d.bv.three (g:=w.heap.size+1) (by omega) (.int .i64 (r:Nat)) (.int .i64 (c:Nat)) (.slice G N H))
    have H1:=aa (And.intro Z.c0 (And.intro Z.c1 (And.intro Z.c2 (And.intro UU.c0 (And.intro UU.c1 UU.c2)))))
    have Y2:=Z.three (g:=w.heap.size+1+1) (by omega) (.int .i64 (c:Nat)) (.int .i64 (c:Nat)) (.slice O M Q);have U2:=UU.three (g:=w.heap.size+1+1) (by omega) (.int .i64 (c:Nat)) (.int .i64 (c:Nat)) (.slice O M Q)
    have H2:=aa (And.intro Y2.c0 (And.intro Y2.c1 (And.intro Y2.c2 (And.intro U2.c0 (And.intro U2.c1 U2.c2)))))
    clear d D Z UU Y2 U2 hg
    go_wp2_with fail
    refine wp_region_held_drew (S:=fun w'=>w'.cell? ⟨w.heap.size,0,none⟩=some (.int .i64 (r:Nat))∧w'.cell? ⟨w.heap.size,1,none⟩=some (.int .i64 (c:Nat))∧w'.cell? ⟨w.heap.size,2,none⟩=some (.slice G N H)∧w'.cell? ⟨g,0,none⟩=some (.int .i64 (c:Nat))∧w'.cell? ⟨g,1,none⟩=some (.int .i64 (c:Nat))∧w'.cell? ⟨g,2,none⟩=some (.slice O M Q)) (by kernel_rfl) ?_ (fun u=>?_)
    ·exact uH H0
    generalize V.drew=U at*
    refine wpAnyH_take (i:=0) (oi:={dst:=some 33,op:=Op.load 25 (Operand.tmp 2),type:=25,pos:= "turns.go:23",after:=#[],guard:=none}) (v:=.agg #[.int .i64 (r:Nat),.int .i64 (c:Nat),.slice G N H]) rfl (by kernel_rfl) (by kernel_rfl) (by kernel_rfl) (fun _ _ _ h=>h) (Or.inl ⟨by rfl,?_⟩) (by assumption) ?_
    ·(intro w F;(try dsimp only at F);go_simp)
    simp only[Act.put,List.setIfInBounds_toArray,List.set_cons_zero,List.set_cons_succ]
    refine wpAnyH_take (i:=1) (oi:={dst:=some 34,op:=Op.load 25 (Operand.tmp 7),type:=25,pos:= "turns.go:23",after:=#[{on:=2,ground:=Ground.gcOnly Departure.lateStores}],guard:=none}) (v:=.agg #[.int .i64 (c:Nat),.int .i64 (c:Nat),.slice O M Q]) rfl (by kernel_rfl) (by kernel_rfl) (by kernel_rfl) (fun _ _ _ h=>h) (Or.inl ⟨by rfl,?_⟩) (by assumption) ?_
    ·(intro w F;(try dsimp only at F);go_simp)
    simp only[Act.put,List.setIfInBounds_toArray,List.set_cons_zero,List.set_cons_succ]
    refine wpAnyH_ready (rs:=[2]) (by kernel_rfl) (by simp) ?_
    refine AllReadyH.cons (o:={dst:=none,op:=Op.store 25 (Operand.tmp 4) (Operand.tmp 33),type:=0,pos:= "turns.go:23",after:=#[{on:=0,ground:=Ground.data},{on:=0,ground:=Ground.phase},{on:=1,ground:=Ground.textOnly Departure.lateStores}],guard:=none}) rfl (fun K Y=>?_) AllReadyH.nil
    go_simp
    refine Y.out _ _ ?_ (fun u=>?_)
    ·exact uH H1
    clear Y K
    refine wpAnyH_ready (rs:=[3]) (by kernel_rfl) (by simp) ?_
    refine AllReadyH.cons (o:={dst:=none,op:=Op.store 25 (Operand.tmp 5) (Operand.tmp 34),type:=0,pos:= "turns.go:23",after:=#[{on:=1,ground:=Ground.data},{on:=2,ground:=Ground.chain},{on:=0,ground:=Ground.phase},{on:=1,ground:=Ground.phase},{on:=2,ground:=Ground.phase}],guard:=none}) rfl (fun K Y=>?_) AllReadyH.nil
    go_simp
    refine Y.out _ _ ?_ (fun u=>?_)
    ·exact uH H2
    clear Y K
    refine wpAnyH_take (i:=4) (oi:={dst:=some 6,op:=Op.assign (Operand.const (Value.bool true)),type:=4,pos:= "turns.go:23",after:=#[{on:=3,ground:=Ground.chain},{on:=0,ground:=Ground.phase},{on:=1,ground:=Ground.phase},{on:=2,ground:=Ground.phase},{on:=3,ground:=Ground.phase}],guard:=none}) (v:=.bool true) rfl (by kernel_rfl) (by kernel_rfl) (by kernel_rfl) (fun _ _ _ h=>h) (Or.inl ⟨by rfl,?_⟩) (by assumption) ?_
    ·(intro w F;(try dsimp only at F);go_simp)
    simp only[Act.put,List.setIfInBounds_toArray,List.set_cons_zero,List.set_cons_succ]
    refine wpAnyH_done (by kernel_rfl) ?_ _
    skip
    go_wp2_with fail
    exact bodyPost_ret (v:=.tuple #[.agg #[.int .i64 r,.int .i64 c,.slice G N H],.agg #[.int .i64 c,.int .i64 c,.slice O M Q],.bool true]) (by simp[results,Tryz.results154,go_sem,a0,a1,a2,b0,b1,b2]) rfl ⟨⟨G,H,O,Q,by rw[uH EE,hs2],by rw[uH EE];exact(uH f).2.2.1,by rw[uH EE];exact(uH f).2.2.2.1,by rw[uH EE];exact(uH f).2.2.2.2.2⟩,(uH f).2.2.2.2.1⟩
  ·have a7:i=k:=by omega
   subst a7
   rw[←uH SW]at ax z
   refine aj (fun W=>lq w W g r c N M a9 l J wc L) (uH z) ?_
   clear z SW
   rintro V d
   have d:=d.all (Below.refl V.heap.size V).drew
   have y0:=d.bw.c0;have y1:=d.bw.c1;have y2:=d.bw.c2;have u0:=d.bv.c0;have u1:=d.bv.c1;have u2:=d.bv.c2
   have s0:=d.b4.c0;have s1:=d.b4.c1;have s2:=d.b4.c2;have f0:=d.b4.free 0;have f1:=d.b4.free 1;have f2:=d.b4.free 2
   have D:=d.b5.three (g:=w.heap.size+1) (by omega) (.int .i64 (r:Nat)) (.int .i64 (c:Nat)) (.slice l N wc)
   have t0:=D.c0;have t1:=D.c1;have t2:=D.c2;have g0:=D.free 0;have g1:=D.free 1;have g2:=D.free 2
   have f:=aa (d.out _ rfl)
   have a0:=(uH f).1.c0;have a1:=(uH f).1.c1;have a2:=(uH f).1.c2;have b0:=(uH f).2.1.c0;have b1:=(uH f).2.1.c1;have b2:=(uH f).2.1.c2
   have H0:=aa (And.intro y0 (And.intro y1 (And.intro y2 (And.intro u0 (And.intro u1 u2)))))
   have hg:=d.hg
   have Z:=(d.bw.three (g:=w.heap.size+1) (by omega) (.int .i64 (r:Nat)) (.int .i64 (c:Nat)) (.slice l N wc));have UU:=(d.bv.three (g:=w.heap.size+1) (by omega) (.int .i64 (r:Nat)) (.int .i64 (c:Nat)) (.slice l N wc))
   have H1:=aa (And.intro Z.c0 (And.intro Z.c1 (And.intro Z.c2 (And.intro UU.c0 (And.intro UU.c1 UU.c2)))))
   have Y2:=Z.three (g:=w.heap.size+1+1) (by omega) (.int .i64 (c:Nat)) (.int .i64 (c:Nat)) (.slice J M L);have U2:=UU.three (g:=w.heap.size+1+1) (by omega) (.int .i64 (c:Nat)) (.int .i64 (c:Nat)) (.slice J M L)
   have H2:=aa (And.intro Y2.c0 (And.intro Y2.c1 (And.intro Y2.c2 (And.intro U2.c0 (And.intro U2.c1 U2.c2)))))
   clear d D Z UU Y2 U2 hg
   go_wp2_with fail
   refine wp_region_held_drew (S:=fun w'=>w'.cell? ⟨w.heap.size,0,none⟩=some (.int .i64 (r:Nat))∧w'.cell? ⟨w.heap.size,1,none⟩=some (.int .i64 (c:Nat))∧w'.cell? ⟨w.heap.size,2,none⟩=some (.slice l N wc)∧w'.cell? ⟨g,0,none⟩=some (.int .i64 (c:Nat))∧w'.cell? ⟨g,1,none⟩=some (.int .i64 (c:Nat))∧w'.cell? ⟨g,2,none⟩=some (.slice J M L)) (by kernel_rfl) ?_ (fun u=>?_)
   ·exact uH H0
   generalize V.drew=U at*
   refine wpAnyH_take (i:=0) (oi:={dst:=some 36,op:=Op.load 25 (Operand.tmp 2),type:=25,pos:= "turns.go:26",after:=#[],guard:=none}) (v:=.agg #[.int .i64 (r:Nat),.int .i64 (c:Nat),.slice l N wc]) rfl (by kernel_rfl) (by kernel_rfl) (by kernel_rfl) (fun _ _ _ h=>h) (Or.inl ⟨by rfl,?_⟩) (by assumption) ?_
   ·(intro w F;(try dsimp only at F);go_simp)
   simp only[Act.put,List.setIfInBounds_toArray,List.set_cons_zero,List.set_cons_succ]
   refine wpAnyH_take (i:=1) (oi:={dst:=some 37,op:=Op.load 25 (Operand.tmp 7),type:=25,pos:= "turns.go:26",after:=#[{on:=2,ground:=Ground.gcOnly Departure.lateStores}],guard:=none}) (v:=.agg #[.int .i64 (c:Nat),.int .i64 (c:Nat),.slice J M L]) rfl (by kernel_rfl) (by kernel_rfl) (by kernel_rfl) (fun _ _ _ h=>h) (Or.inl ⟨by rfl,?_⟩) (by assumption) ?_
   ·(intro w F;(try dsimp only at F);go_simp)
   simp only[Act.put,List.setIfInBounds_toArray,List.set_cons_zero,List.set_cons_succ]
   refine wpAnyH_ready (rs:=[2]) (by kernel_rfl) (by simp) ?_
   refine AllReadyH.cons (o:={dst:=none,op:=Op.store 25 (Operand.tmp 4) (Operand.tmp 36),type:=0,pos:= "turns.go:26",after:=#[{on:=0,ground:=Ground.data},{on:=0,ground:=Ground.phase},{on:=1,ground:=Ground.textOnly Departure.lateStores}],guard:=none}) rfl (fun K Y=>?_) AllReadyH.nil
   go_simp
   refine Y.out _ _ ?_ (fun u=>?_)
   ·exact uH H1
   clear Y K
   refine wpAnyH_ready (rs:=[3]) (by kernel_rfl) (by simp) ?_
   refine AllReadyH.cons (o:={dst:=none,op:=Op.store 25 (Operand.tmp 5) (Operand.tmp 37),type:=0,pos:= "turns.go:26",after:=#[{on:=1,ground:=Ground.data},{on:=2,ground:=Ground.chain},{on:=0,ground:=Ground.phase},{on:=1,ground:=Ground.phase},{on:=2,ground:=Ground.phase}],guard:=none}) rfl (fun K Y=>?_) AllReadyH.nil
   go_simp
   refine Y.out _ _ ?_ (fun u=>?_)
   ·exact uH H2
   clear Y K
   refine wpAnyH_take (i:=4) (oi:={dst:=some 6,op:=Op.assign (Operand.const (Value.bool false)),type:=4,pos:= "turns.go:26",after:=#[{on:=3,ground:=Ground.chain},{on:=0,ground:=Ground.phase},{on:=1,ground:=Ground.phase},{on:=2,ground:=Ground.phase},{on:=3,ground:=Ground.phase}],guard:=none}) (v:=.bool false) rfl (by kernel_rfl) (by kernel_rfl) (by kernel_rfl) (fun _ _ _ h=>h) (Or.inl ⟨by rfl,?_⟩) (by assumption) ?_
   ·(intro w F;(try dsimp only at F);go_simp)
   simp only[Act.put,List.setIfInBounds_toArray,List.set_cons_zero,List.set_cons_succ]
   refine wpAnyH_done (by kernel_rfl) ?_ _
   skip
   go_wp2_with fail
   exact bodyPost_ret (v:=.tuple #[.agg #[.int .i64 r,.int .i64 c,.slice l N wc],.agg #[.int .i64 c,.int .i64 c,.slice J M L],.bool false]) (by simp[results,Tryz.results154,go_sem,a0,a1,a2,b0,b1,b2]) rfl ⟨⟨l,wc,J,L,by rw[ax],(uH f).2.2.1,(uH f).2.2.2.1,(uH f).2.2.2.2.2⟩,(uH f).2.2.2.2.1⟩
def ph(f:Nat→Bool):Nat→Nat
 |0=>0
 |j+1=>if f j=true then ph f j else j+1
theorem re(f:Nat→Bool):∀j,ph f j≤j
 |0=>Nat.le_refl _
 |j+1=>by
  unfold ph
  split
  ·exact Nat.le_succ_of_le (re f j)
  ·exact Nat.le_refl _
theorem vi(f:Nat→Bool):∀n j,ph f n≤j→j<n→f j=true
 |0,j,_,h=>absurd h (Nat.not_lt_zero _)
 |n+1,j,h1,h2=>by
  unfold ph at h1
  split at h1
  ·rename_i d
   rcases Nat.lt_or_ge j n with e|e
   ·exact vi f n j h1 e
   ·obtain rfl:j=n:=by omega
    exact d
  ·omega
theorem rf(f:Nat→Bool):∀n,0<ph f n→f (ph f n-1)=false
 |0,h=>absurd h (Nat.not_lt_zero _)
 |n+1,h=>by
  unfold ph at h⊢
  split at h
  ·rename_i d
   rw[if_pos d]
   exact rf f n h
  ·rename_i d
   rw[if_neg d]
   exact Bool.eq_false_iff.2 d
def cE(I:List Nat):Nat→List Nat
 |0=>[]
 |i+1=>(cE I i).take (ph (fun j=>eJ (I.getD ((cE I i).getD j 0) 0) (I.getD i 0)) i)++i::(cE I i).drop (ph (fun j=>eJ (I.getD ((cE I i).getD j 0) 0) (I.getD i 0)) i)
def ry(I:List Nat)(i j:Nat):Bool:=eJ (I.getD ((cE I i).getD j 0) 0) (I.getD i 0)
def vj(n:Nat)(I:List Nat)(i j:Nat):List Nat:=(cE I i).take j++i::((cE I i).drop j++(List.range n).drop (i+1))
theorem dI(I:List Nat):∀i,(cE I i).length=i
 |0=>rfl
 |i+1=>by
  have h:=dI I i
  have d:=re (fun j=>eJ (I.getD ((cE I i).getD j 0) 0) (I.getD i 0)) i
  unfold cE
  simp only[List.length_append,List.length_take,List.length_cons,List.length_drop,h]
  omega
theorem kD(I:List Nat):∀i,∀x∈cE I i,x<i
 |0,x,h=>by cases h
 |i+1,x,h=>by
  have d:=kD I i
  unfold cE at h
  rcases List.mem_append.1 h with e|e
  ·exact Nat.lt_succ_of_lt (d x (List.mem_of_mem_take e))
  ·rcases List.mem_cons.1 e with e|e
   ·omega
   ·exact Nat.lt_succ_of_lt (d x (List.mem_of_mem_drop e))
theorem EX{n:Nat}(I:List Nat){i j:Nat}(d:i<n)(f:j≤i):(vj n I i j).length=n:=by
 unfold vj
 simp only[List.length_append,List.length_take,List.length_cons,List.length_drop,dI,List.length_range]
 omega
theorem EY(A B:List Nat)(x y:Nat):((A++x::y::B).set (A.length+1) x).set A.length y=A++y::x::B:=by
 induction A with
 |nil=>rfl
 |cons a A ih=>simp only[List.cons_append,List.length_cons,List.set_cons_succ,ih]
theorem G6(A B:List Nat)(x y:Nat):(A++x::y::B)[A.length+1]?.getD 0=y∧(A++x::y::B)[A.length]?.getD 0=x:=by
 induction A with
 |nil=>exact⟨rfl,rfl⟩
 |cons a A ih=>simpa only[List.cons_append,List.length_cons,List.getElem?_cons_succ]using ih
theorem BR{n:Nat}(I:List Nat){i j:Nat}(z:j<i):(vj n I i (j+1))[j+1]?.getD 0=i∧(vj n I i (j+1))[j]?.getD 0=(cE I i).getD j 0∧((vj n I i (j+1)).set (j+1) ((cE I i).getD j 0)).set j i=vj n I i j:=by
 have D:=dI I i
 have d:(cE I i).take (j+1)=(cE I i).take j++[(cE I i).getD j 0]:=by
  rw[List.take_add_one,List.getD_eq_getElem?_getD,List.getElem?_eq_getElem (by omega)]
  rfl
 have f:(cE I i).drop j=(cE I i).getD j 0::(cE I i).drop (j+1):=by
  rw[List.drop_eq_getElem_cons (by omega),List.getD_eq_getElem?_getD,List.getElem?_eq_getElem (by omega)]
  rfl
 have h:((cE I i).take j).length=j:=by rw[List.length_take];omega
 have l:vj n I i (j+1)=(cE I i).take j++(cE I i).getD j 0::i::((cE I i).drop (j+1)++(List.range n).drop (i+1)):=by
  unfold vj
  rw[d,List.append_assoc]
  rfl
 have u:vj n I i j=(cE I i).take j++i::(cE I i).getD j 0::((cE I i).drop (j+1)++(List.range n).drop (i+1)):=by
  unfold vj
  rw[f]
  rfl
 have a:=G6 ((cE I i).take j) ((cE I i).drop (j+1)++(List.range n).drop (i+1)) ((cE I i).getD j 0) i
 have b:=EY ((cE I i).take j) ((cE I i).drop (j+1)++(List.range n).drop (i+1)) ((cE I i).getD j 0) i
 rw[h,←l]at a b
 rw[←u]at b
 exact⟨a.1,a.2,b⟩
theorem vk(n i:Nat)(h:i<n):(List.range n).drop i=i::(List.range n).drop (i+1):=by
 rw[List.drop_eq_getElem_cons (by simpa using h)]
 simp
def EZ(n:Nat)(I:List Nat)(i:Nat):List Nat:=cE I i++(List.range n).drop i
theorem vl{n:Nat}(I:List Nat){i:Nat}(d:i<n):EZ n I i=vj n I i i:=by
 unfold EZ vj
 have f:(cE I i).take i=cE I i:=List.take_of_length_le (by rw[dI];exact Nat.le_refl _)
 have h:(cE I i).drop i= []:=List.drop_of_length_le (by rw[dI];exact Nat.le_refl _)
 rw[vk n i d,f,h]
 rfl
theorem rg(n:Nat)(I:List Nat)(i:Nat):vj n I i (ph (ry I i) i)=EZ n I (i+1):=by
 unfold EZ vj
 rw[show cE I (i+1)=(cE I i).take (ph (ry I i) i)++i::(cE I i).drop (ph (ry I i) i)from rfl]
 simp
theorem It(n:Nat)(I:List Nat):EZ n I 0=List.range n:=by unfold EZ cE;simp
theorem tu(n:Nat)(I:List Nat):EZ n I n=cE I n:=by unfold EZ;simp
theorem Fo{n:Nat}(I:List Nat)(d:0<n):EZ n I 1=List.range n:=by
 rw[←It n I,vl I d,←rg]
 rfl
theorem BS(n g Y:Nat)(u:Array Value)(A:Nat→Nat→List Nat)(P:Nat→Nat→Nat)(J:Nat→Nat)(o:Nat→Nat→Int)(w:World)(h6:n≤1000)(hn:0<n)
  (a2:∀l w,(callFunc Y l).run Tryz.prog w=.ok (.enter Y l) w)
  (hA:∀i j,i<n→j≤i→(A i j).length=n)
  (hP:∀i j,i<n→j<i→(A i (j+1))[j+1]?.getD 0=i∧(A i (j+1))[j]?.getD 0=P i j∧((A i (j+1)).set (j+1) (P i j)).set j i=A i j∧P i j<n)
  (hJ:∀i,i<n→J i≤i∧(∀j,J i≤j→j<i→o i (P i j)<0)∧∀j,J i=j+1→¬o i (P i j)<0)
  (hN:∀i,i+1<n→A i (J i)=A (i+1) (i+1)) (E:List Nat) (hE:∀i,i+1=n→A i (J i)=E) (hR:1<n→bB w g (A 1 1)) (ae:n=1→bB w g E)
  (C:∀w',w.grownBy w' (some g)→∀x y,x<n→y<n→Calls Tryz.prog Y (#[.int .i64 (x:Nat),.int .i64 (y:Nat)]++u) w' fun e ax=>e=.returned (.int .i64 (o x y))∧Below w'.heap.size w' ax):
  Calls Tryz.prog 272 #[.slice (some ⟨g,0,none⟩) n n,.int .i64 0,.int .i64 n,.func (.func Y) #[] u] w fun e w'=>e=.returned (.tuple #[])∧bB w' g E∧w.grownBy w' (some g):=by
 have KC:=aa C;have KA:=aa hA;have KP:=aa hP;have KJ:=aa hJ;have KN:=aa hN;have KE:=aa hE
 have RR:=aa (show bB w g (if n=1 then E else A 1 1)from by
  by_cases e:n=1
  ·rw[if_pos e];exact ae e
  ·rw[if_neg e];exact hR (by omega))
 have G0:=aa (cr (Below.refl w.heap.size w) (some g))
 clear C hA hP hJ hN hE hR ae
 go_enter Tryz.func272,Tryz.ntmps272
 go_wp2_with fail
 go_loopw[8] (fun a wr=>∃i:Nat,0<i∧i≤n∧a=.int .i64 i∧Hid (bB wr g (if n=i then E else A i i))∧Hid (w.grownBy wr (some g))) (fun a _=>n-(intOf a).toNat)
 case atStart=>exact⟨1,by omega,by omega,rfl,RR,G0⟩
 case round=>
  clear RR G0
  obtain⟨i,h0,hi,rfl,M,O⟩:=hrel
  by_cases G:i<n
  ·have a3:(i:Int)<(n:Int):=by omega
   have H:=aa (show bB wr g (A i i)from by have:=uH M;rwa[if_neg (by omega)]at this)
   clear M
   obtain⟨j1,j2,j3⟩:=uH KJ i G
   have J1:=aa j1;have J2:=aa j2;have J3:=aa j3
   clear j1 j2 j3
   go_wp2_with fail
   go_loopw[9] (fun a wq=>∃j:Nat,J i≤j∧j≤i∧a=.int .i64 j∧Hid (bB wq g (A i j))∧Hid (w.grownBy wq (some g))) (fun a _=>(intOf a).toNat)
   case atStart=>exact⟨i,uH J1,Nat.le_refl _,rfl,H,O⟩
   case round=>
    clear H O
    obtain⟨m,h2,h3,rfl,M,O⟩:=hrel
    rcases Nat.eq_zero_or_pos m with hz|hz
    ·subst hz
     have am:J i=0:=by omega
     have aI:=aa (bI (uH O) (cr ((Below.refl wr.heap.size wr).drew) (some g)))
     have Q:=aa (show bB _ g (if n=i+1 then E else A (i+1) (i+1))from by
      have:=uH M
      by_cases e:n=i+1
      ·rw[if_pos e,←uH KE i e.symm,am];exact this
      ·rw[if_neg e,←uH KN i (by omega),am];exact this)
     clear M O J2 J3
     rw[show((0:Nat):Int)=0 from rfl]
     go_wp2_with fail
     refine wp_region_held_drew (S:=fun w'=>True) (by kernel_rfl) ?_ (fun f=>?_)
     ·exact trivial
     refine wpAnyH_take (i:=0) (oi:={dst:=some 18,op:=Op.move (Operand.tmp 9),type:=3,pos:= "zsortanyfunc.go:12",after:=#[],guard:=none}) (v:=.int .i64 0) rfl (by kernel_rfl) (by kernel_rfl) (by kernel_rfl) (fun _ _ _ h=>h) (Or.inl ⟨by rfl,?_⟩) (by assumption) ?_
     ·(intro w d;(try dsimp only at d);go_simp)
     simp only[Act.put,List.setIfInBounds_toArray,List.set_cons_zero,List.set_cons_succ]
     refine wpAnyH_take (i:=1) (oi:={dst:=some 19,op:=Op.move (Operand.tmp 1),type:=3,pos:= "zsortanyfunc.go:12",after:=#[],guard:=none}) (v:=.int .i64 0) rfl (by kernel_rfl) (by kernel_rfl) (by kernel_rfl) (fun _ _ _ h=>h) (Or.inl ⟨by rfl,?_⟩) (by assumption) ?_
     ·(intro w d;(try dsimp only at d);go_simp)
     simp only[Act.put,List.setIfInBounds_toArray,List.set_cons_zero,List.set_cons_succ]
     refine wpAnyH_take (i:=2) (oi:={dst:=some 20,op:=Op.binOp BinOp.gtr 3 (Operand.tmp 18) (Operand.tmp 19) 3,type:=4,pos:= "zsortanyfunc.go:12",after:=#[{on:=0,ground:=Ground.data},{on:=1,ground:=Ground.data}],guard:=none}) (v:=.bool false) rfl (by kernel_rfl) (by kernel_rfl) (by kernel_rfl) (fun _ _ _ h=>h) (Or.inl ⟨by rfl,?_⟩) (by assumption) ?_
     ·(intro w d;(try dsimp only at d);go_simp)
     simp only[Act.put,List.setIfInBounds_toArray,List.set_cons_zero,List.set_cons_succ]
     refine wpAnyH_take (i:=3) (oi:={dst:=some 21,op:=Op.move (Operand.tmp 20),type:=4,pos:= "zsortanyfunc.go:12",after:=#[{on:=2,ground:=Ground.data}],guard:=none}) (v:=.bool false) rfl (by kernel_rfl) (by kernel_rfl) (by kernel_rfl) (fun _ _ _ h=>h) (Or.inl ⟨by rfl,?_⟩) (by assumption) ?_
     ·(intro w d;(try dsimp only at d);go_simp)
     simp only[Act.put,List.setIfInBounds_toArray,List.set_cons_zero,List.set_cons_succ]
     refine wpAnyH_take (i:=4) (oi:={dst:=some 22,op:=Op.move (Operand.tmp 3),type:=199,pos:= "zsortanyfunc.go:12",after:=#[{on:=3,ground:=Ground.guard}],guard:=some (3,true)}) (v:=undef) rfl (by kernel_rfl) (by kernel_rfl) (by kernel_rfl) (fun _ _ _ h=>h) (Or.inr ⟨by rfl,rfl⟩) (by assumption) ?_
     simp only[Act.put,List.setIfInBounds_toArray,List.set_cons_zero,List.set_cons_succ]
     refine wpAnyH_take (i:=5) (oi:={dst:=some 23,op:=Op.move (Operand.tmp 0),type:=118,pos:= "zsortanyfunc.go:12",after:=#[{on:=3,ground:=Ground.guard}],guard:=some (3,true)}) (v:=undef) rfl (by kernel_rfl) (by kernel_rfl) (by kernel_rfl) (fun _ _ _ h=>h) (Or.inr ⟨by rfl,rfl⟩) (by assumption) ?_
     simp only[Act.put,List.setIfInBounds_toArray,List.set_cons_zero,List.set_cons_succ]
     refine wpAnyH_take (i:=6) (oi:={dst:=some 24,op:=Op.move (Operand.tmp 9),type:=3,pos:= "zsortanyfunc.go:12",after:=#[{on:=3,ground:=Ground.guard}],guard:=some (3,true)}) (v:=undef) rfl (by kernel_rfl) (by kernel_rfl) (by kernel_rfl) (fun _ _ _ h=>h) (Or.inr ⟨by rfl,rfl⟩) (by assumption) ?_
     simp only[Act.put,List.setIfInBounds_toArray,List.set_cons_zero,List.set_cons_succ]
     refine wpAnyH_take (i:=7) (oi:={dst:=some 25,op:=Op.indexAddr 118 (Operand.tmp 23) (Operand.tmp 24),type:=0,pos:= "zsortanyfunc.go:12",after:=#[{on:=5,ground:=Ground.data},{on:=6,ground:=Ground.data},{on:=3,ground:=Ground.guard}],guard:=some (3,true)}) (v:=undef) rfl (by kernel_rfl) (by kernel_rfl) (by kernel_rfl) (fun _ _ _ h=>h) (Or.inr ⟨by rfl,rfl⟩) (by assumption) ?_
     simp only[Act.put,List.setIfInBounds_toArray,List.set_cons_zero,List.set_cons_succ]
     refine wpAnyH_take (i:=8) (oi:={dst:=some 26,op:=Op.load 3 (Operand.tmp 25),type:=3,pos:= "zsortanyfunc.go:12",after:=#[{on:=7,ground:=Ground.data},{on:=3,ground:=Ground.guard}],guard:=some (3,true)}) (v:=undef) rfl (by kernel_rfl) (by kernel_rfl) (by kernel_rfl) (fun _ _ _ h=>h) (Or.inr ⟨by rfl,rfl⟩) (by assumption) ?_
     simp only[Act.put,List.setIfInBounds_toArray,List.set_cons_zero,List.set_cons_succ]
     refine wpAnyH_take (i:=9) (oi:={dst:=some 27,op:=Op.move (Operand.tmp 0),type:=118,pos:= "zsortanyfunc.go:12",after:=#[{on:=3,ground:=Ground.guard}],guard:=some (3,true)}) (v:=undef) rfl (by kernel_rfl) (by kernel_rfl) (by kernel_rfl) (fun _ _ _ h=>h) (Or.inr ⟨by rfl,rfl⟩) (by assumption) ?_
     simp only[Act.put,List.setIfInBounds_toArray,List.set_cons_zero,List.set_cons_succ]
     refine wpAnyH_take (i:=10) (oi:={dst:=some 28,op:=Op.move (Operand.tmp 9),type:=3,pos:= "zsortanyfunc.go:12",after:=#[{on:=3,ground:=Ground.guard}],guard:=some (3,true)}) (v:=undef) rfl (by kernel_rfl) (by kernel_rfl) (by kernel_rfl) (fun _ _ _ h=>h) (Or.inr ⟨by rfl,rfl⟩) (by assumption) ?_
     simp only[Act.put,List.setIfInBounds_toArray,List.set_cons_zero,List.set_cons_succ]
     refine wpAnyH_take (i:=11) (oi:={dst:=some 29,op:=Op.binOp BinOp.sub 3 (Operand.tmp 28) (Operand.const (Value.int IntKind.i64 1)) 3,type:=3,pos:= "zsortanyfunc.go:12",after:=#[{on:=10,ground:=Ground.data},{on:=3,ground:=Ground.guard}],guard:=some (3,true)}) (v:=undef) rfl (by kernel_rfl) (by kernel_rfl) (by kernel_rfl) (fun _ _ _ h=>h) (Or.inr ⟨by rfl,rfl⟩) (by assumption) ?_
     simp only[Act.put,List.setIfInBounds_toArray,List.set_cons_zero,List.set_cons_succ]
     refine wpAnyH_take (i:=12) (oi:={dst:=some 30,op:=Op.indexAddr 118 (Operand.tmp 27) (Operand.tmp 29),type:=0,pos:= "zsortanyfunc.go:12",after:=#[{on:=9,ground:=Ground.data},{on:=11,ground:=Ground.data},{on:=3,ground:=Ground.guard}],guard:=some (3,true)}) (v:=undef) rfl (by kernel_rfl) (by kernel_rfl) (by kernel_rfl) (fun _ _ _ h=>h) (Or.inr ⟨by rfl,rfl⟩) (by assumption) ?_
     simp only[Act.put,List.setIfInBounds_toArray,List.set_cons_zero,List.set_cons_succ]
     refine wpAnyH_take (i:=13) (oi:={dst:=some 31,op:=Op.load 3 (Operand.tmp 30),type:=3,pos:= "zsortanyfunc.go:12",after:=#[{on:=12,ground:=Ground.data},{on:=3,ground:=Ground.guard}],guard:=some (3,true)}) (v:=undef) rfl (by kernel_rfl) (by kernel_rfl) (by kernel_rfl) (fun _ _ _ h=>h) (Or.inr ⟨by rfl,rfl⟩) (by assumption) ?_
     simp only[Act.put,List.setIfInBounds_toArray,List.set_cons_zero,List.set_cons_succ]
     refine wpAnyH_take (i:=14) (oi:={dst:=some 32,op:=Op.call {callee:=Callee.value (Operand.tmp 22),args:=#[Operand.tmp 26,Operand.tmp 31],argTypes:=#[3,3]},type:=3,pos:= "zsortanyfunc.go:12",after:=#[{on:=4,ground:=Ground.data},{on:=8,ground:=Ground.data},{on:=13,ground:=Ground.data},{on:=3,ground:=Ground.chain},{on:=3,ground:=Ground.guard}],guard:=some (3,true)}) (v:=undef) rfl (by kernel_rfl) (by kernel_rfl) (by kernel_rfl) (fun _ _ _ h=>h) (Or.inr ⟨by rfl,rfl⟩) (by assumption) ?_
     simp only[Act.put,List.setIfInBounds_toArray,List.set_cons_zero,List.set_cons_succ]
     refine wpAnyH_take (i:=15) (oi:={dst:=some 33,op:=Op.binOp BinOp.lss 3 (Operand.tmp 32) (Operand.const (Value.int IntKind.i64 0)) 3,type:=4,pos:= "zsortanyfunc.go:12",after:=#[{on:=14,ground:=Ground.data},{on:=3,ground:=Ground.guard}],guard:=some (3,true)}) (v:=undef) rfl (by kernel_rfl) (by kernel_rfl) (by kernel_rfl) (fun _ _ _ h=>h) (Or.inr ⟨by rfl,rfl⟩) (by assumption) ?_
     simp only[Act.put,List.setIfInBounds_toArray,List.set_cons_zero,List.set_cons_succ]
     refine wpAnyH_take (i:=16) (oi:={dst:=some 34,op:=Op.pick (Operand.tmp 21) (Operand.tmp 33) (Operand.const (Value.bool false)),type:=4,pos:= "zsortanyfunc.go:12",after:=#[{on:=3,ground:=Ground.data},{on:=15,ground:=Ground.data}],guard:=none}) (v:=.bool false) rfl (by kernel_rfl) (by kernel_rfl) (by kernel_rfl) (fun _ _ _ h=>h) (Or.inl ⟨by rfl,?_⟩) (by assumption) ?_
     ·(intro w d;(try dsimp only at d);go_simp)
     simp only[Act.put,List.setIfInBounds_toArray,List.set_cons_zero,List.set_cons_succ]
     refine wpAnyH_done (by kernel_rfl) ?_ _
     go_wp2_with fail
     go_round
     case rel=>exact⟨i+1,by omega,by omega,by go_num,Q,aI⟩
     case measure=>simp[intOf];omega
    ·obtain⟨j,hj⟩:∃j,m=j+1:=⟨m-1,by omega⟩
     have U:j<i:=by omega
     have a4:(0:Int)<(m:Int):=by omega
     have a5:(m:Int)<(n:Int):=by omega
     have a6:(j:Int)<(n:Int):=by omega
     have e1:IntKind.i64.wrap ((m:Int)-1)=(j:Int):=(cX _ (by omega)).trans (by omega)
     have e2:(m:Int)-1=(j:Int):=by omega
     have e3:IntKind.i64.wrap (j:Int)=(j:Int):=cX _ (by omega)
     obtain⟨p1,p2,p3,p4⟩:=uH KP i j G U
     have KO:=aa (show o i (P i j)<0↔J i≤j from by
      constructor
      ·intro q
       rcases Nat.lt_or_ge j (J i)with z|z
       ·have:=uH J3 j (by omega)
        exact absurd q (by omega)
       ·exact z
      ·intro q
       exact uH J2 j q U)
     have L:=aa (fun w' D=>uH KC w' D i (P i j) G p4)
     rw[←hj]at p1 p2 p3
     have S2:=aa (show∀W,bB W g (A i m)→bB ((W.setCell ⟨g,m,none⟩ (.int .i64 (P i j:Nat))).setCell ⟨g,j,none⟩ (.int .i64 (i:Nat))) g (A i j)from fun W h=>by
      have:=(h.set m (P i j)).set j i
      rwa[p3]at this)
     have LA:=aa (uH KA i m G h3)
     have PP:=aa (And.intro p1 p2)
     generalize hx:P i j=y at*
     generalize a1:o i y=ov at*
     clear p1 p2 p3 p4 J2 J3 hx a1
     have HJ:=aa hj;have a7:=aa U
     clear hj
     refine aj (fun W=>bB W g (A i m)∧w.grownBy W (some g)) ⟨uH M,uH O⟩ ?_
     clear M O
     rintro W ⟨F,hg⟩
     have X:=aa (show W.cell? ⟨g,m,none⟩=some (.int .i64 (i:Nat))∧W.cell? ⟨g,j,none⟩=some (.int .i64 (y:Nat))from by
      have c1:=F.cell m (by rw[uH LA];omega)
      have c2:=F.cell j (by rw[uH LA];omega)
      rw[(uH PP).1]at c1
      rw[(uH PP).2]at c2
      exact⟨c1,c2⟩)
     have N:=aa (show W.drew.cell? ⟨g,m,none⟩=some (.int .i64 (i:Nat))∧W.drew.cell? ⟨g,j,none⟩=some (.int .i64 (y:Nat))from uH X)
     have Z:=aa (show bB W.drew g (A i m)from F)
     have HG:=aa (bI hg (cr (Below.refl W.heap.size W).drew (some g)))
     clear F hg
     go_wp2_with fail
     by_cases ao:J i≤j
     ·have hO:ov<0:=(uH KO).2 ao
      refine wp_region_held_drew (S:=fun w'=>w'.cell? ⟨g,m,none⟩=some (.int .i64 (i:Nat))∧w'.cell? ⟨g,j,none⟩=some (.int .i64 (y:Nat))) (by kernel_rfl) ?_ (fun f=>?_)
      ·exact uH N
      refine wpAnyH_take (i:=0) (oi:={dst:=some 18,op:=Op.move (Operand.tmp 9),type:=3,pos:= "zsortanyfunc.go:12",after:=#[],guard:=none}) (v:=.int .i64 (m:Nat)) rfl (by kernel_rfl) (by kernel_rfl) (by kernel_rfl) (fun _ _ _ h=>h) (Or.inl ⟨by rfl,?_⟩) (by assumption) ?_
      ·(intro w d;(try dsimp only at d);go_simp)
      simp only[Act.put,List.setIfInBounds_toArray,List.set_cons_zero,List.set_cons_succ]
      refine wpAnyH_take (i:=1) (oi:={dst:=some 19,op:=Op.move (Operand.tmp 1),type:=3,pos:= "zsortanyfunc.go:12",after:=#[],guard:=none}) (v:=.int .i64 0) rfl (by kernel_rfl) (by kernel_rfl) (by kernel_rfl) (fun _ _ _ h=>h) (Or.inl ⟨by rfl,?_⟩) (by assumption) ?_
      ·(intro w d;(try dsimp only at d);go_simp)
      simp only[Act.put,List.setIfInBounds_toArray,List.set_cons_zero,List.set_cons_succ]
      refine wpAnyH_take (i:=2) (oi:={dst:=some 20,op:=Op.binOp BinOp.gtr 3 (Operand.tmp 18) (Operand.tmp 19) 3,type:=4,pos:= "zsortanyfunc.go:12",after:=#[{on:=0,ground:=Ground.data},{on:=1,ground:=Ground.data}],guard:=none}) (v:=.bool true) rfl (by kernel_rfl) (by kernel_rfl) (by kernel_rfl) (fun _ _ _ h=>h) (Or.inl ⟨by rfl,?_⟩) (by assumption) ?_
      ·(intro w d;(try dsimp only at d);go_simp)
      simp only[Act.put,List.setIfInBounds_toArray,List.set_cons_zero,List.set_cons_succ]
      refine wpAnyH_take (i:=3) (oi:={dst:=some 21,op:=Op.move (Operand.tmp 20),type:=4,pos:= "zsortanyfunc.go:12",after:=#[{on:=2,ground:=Ground.data}],guard:=none}) (v:=.bool true) rfl (by kernel_rfl) (by kernel_rfl) (by kernel_rfl) (fun _ _ _ h=>h) (Or.inl ⟨by rfl,?_⟩) (by assumption) ?_
      ·(intro w d;(try dsimp only at d);go_simp)
      simp only[Act.put,List.setIfInBounds_toArray,List.set_cons_zero,List.set_cons_succ]
      refine wpAnyH_take (i:=4) (oi:={dst:=some 22,op:=Op.move (Operand.tmp 3),type:=199,pos:= "zsortanyfunc.go:12",after:=#[{on:=3,ground:=Ground.guard}],guard:=some (3,true)}) (v:=.func (.func Y) #[] u) rfl (by kernel_rfl) (by kernel_rfl) (by kernel_rfl) (fun _ _ _ h=>h) (Or.inl ⟨by rfl,?_⟩) (by assumption) ?_
      ·(intro w d;(try dsimp only at d);go_simp)
      simp only[Act.put,List.setIfInBounds_toArray,List.set_cons_zero,List.set_cons_succ]
      refine wpAnyH_take (i:=5) (oi:={dst:=some 23,op:=Op.move (Operand.tmp 0),type:=118,pos:= "zsortanyfunc.go:12",after:=#[{on:=3,ground:=Ground.guard}],guard:=some (3,true)}) (v:=.slice (some ⟨g,0,none⟩) n n) rfl (by kernel_rfl) (by kernel_rfl) (by kernel_rfl) (fun _ _ _ h=>h) (Or.inl ⟨by rfl,?_⟩) (by assumption) ?_
      ·(intro w d;(try dsimp only at d);go_simp)
      simp only[Act.put,List.setIfInBounds_toArray,List.set_cons_zero,List.set_cons_succ]
      refine wpAnyH_take (i:=6) (oi:={dst:=some 24,op:=Op.move (Operand.tmp 9),type:=3,pos:= "zsortanyfunc.go:12",after:=#[{on:=3,ground:=Ground.guard}],guard:=some (3,true)}) (v:=.int .i64 (m:Nat)) rfl (by kernel_rfl) (by kernel_rfl) (by kernel_rfl) (fun _ _ _ h=>h) (Or.inl ⟨by rfl,?_⟩) (by assumption) ?_
      ·(intro w d;(try dsimp only at d);go_simp)
      simp only[Act.put,List.setIfInBounds_toArray,List.set_cons_zero,List.set_cons_succ]
      refine wpAnyH_take (i:=7) (oi:={dst:=some 25,op:=Op.indexAddr 118 (Operand.tmp 23) (Operand.tmp 24),type:=0,pos:= "zsortanyfunc.go:12",after:=#[{on:=5,ground:=Ground.data},{on:=6,ground:=Ground.data},{on:=3,ground:=Ground.guard}],guard:=some (3,true)}) (v:=.pointer (some ⟨g,m,none⟩)) rfl (by kernel_rfl) (by kernel_rfl) (by kernel_rfl) (fun _ _ _ h=>h) (Or.inl ⟨by rfl,?_⟩) (by assumption) ?_
      ·(intro w d;(try dsimp only at d);go_simp)
      simp only[Act.put,List.setIfInBounds_toArray,List.set_cons_zero,List.set_cons_succ]
      refine wpAnyH_take (i:=8) (oi:={dst:=some 26,op:=Op.load 3 (Operand.tmp 25),type:=3,pos:= "zsortanyfunc.go:12",after:=#[{on:=7,ground:=Ground.data},{on:=3,ground:=Ground.guard}],guard:=some (3,true)}) (v:=.int .i64 (i:Nat)) rfl (by kernel_rfl) (by kernel_rfl) (by kernel_rfl) (fun _ _ _ h=>h) (Or.inl ⟨by rfl,?_⟩) (by assumption) ?_
      ·(intro w d;(try dsimp only at d);go_simp)
      simp only[Act.put,List.setIfInBounds_toArray,List.set_cons_zero,List.set_cons_succ]
      refine wpAnyH_take (i:=9) (oi:={dst:=some 27,op:=Op.move (Operand.tmp 0),type:=118,pos:= "zsortanyfunc.go:12",after:=#[{on:=3,ground:=Ground.guard}],guard:=some (3,true)}) (v:=.slice (some ⟨g,0,none⟩) n n) rfl (by kernel_rfl) (by kernel_rfl) (by kernel_rfl) (fun _ _ _ h=>h) (Or.inl ⟨by rfl,?_⟩) (by assumption) ?_
      ·(intro w d;(try dsimp only at d);go_simp)
      simp only[Act.put,List.setIfInBounds_toArray,List.set_cons_zero,List.set_cons_succ]
      refine wpAnyH_take (i:=10) (oi:={dst:=some 28,op:=Op.move (Operand.tmp 9),type:=3,pos:= "zsortanyfunc.go:12",after:=#[{on:=3,ground:=Ground.guard}],guard:=some (3,true)}) (v:=.int .i64 (m:Nat)) rfl (by kernel_rfl) (by kernel_rfl) (by kernel_rfl) (fun _ _ _ h=>h) (Or.inl ⟨by rfl,?_⟩) (by assumption) ?_
      ·(intro w d;(try dsimp only at d);go_simp)
      simp only[Act.put,List.setIfInBounds_toArray,List.set_cons_zero,List.set_cons_succ]
      refine wpAnyH_take (i:=11) (oi:={dst:=some 29,op:=Op.binOp BinOp.sub 3 (Operand.tmp 28) (Operand.const (Value.int IntKind.i64 1)) 3,type:=3,pos:= "zsortanyfunc.go:12",after:=#[{on:=10,ground:=Ground.data},{on:=3,ground:=Ground.guard}],guard:=some (3,true)}) (v:=.int .i64 (j:Nat)) rfl (by kernel_rfl) (by kernel_rfl) (by kernel_rfl) (fun _ _ _ h=>h) (Or.inl ⟨by rfl,?_⟩) (by assumption) ?_
      ·(intro w d;(try dsimp only at d);go_simp)
      simp only[Act.put,List.setIfInBounds_toArray,List.set_cons_zero,List.set_cons_succ]
      refine wpAnyH_take (i:=12) (oi:={dst:=some 30,op:=Op.indexAddr 118 (Operand.tmp 27) (Operand.tmp 29),type:=0,pos:= "zsortanyfunc.go:12",after:=#[{on:=9,ground:=Ground.data},{on:=11,ground:=Ground.data},{on:=3,ground:=Ground.guard}],guard:=some (3,true)}) (v:=.pointer (some ⟨g,j,none⟩)) rfl (by kernel_rfl) (by kernel_rfl) (by kernel_rfl) (fun _ _ _ h=>h) (Or.inl ⟨by rfl,?_⟩) (by assumption) ?_
      ·(intro w d;(try dsimp only at d);go_simp)
      simp only[Act.put,List.setIfInBounds_toArray,List.set_cons_zero,List.set_cons_succ]
      refine wpAnyH_take (i:=13) (oi:={dst:=some 31,op:=Op.load 3 (Operand.tmp 30),type:=3,pos:= "zsortanyfunc.go:12",after:=#[{on:=12,ground:=Ground.data},{on:=3,ground:=Ground.guard}],guard:=some (3,true)}) (v:=.int .i64 (y:Nat)) rfl (by kernel_rfl) (by kernel_rfl) (by kernel_rfl) (fun _ _ _ h=>h) (Or.inl ⟨by rfl,?_⟩) (by assumption) ?_
      ·(intro w d;(try dsimp only at d);go_simp)
      simp only[Act.put,List.setIfInBounds_toArray,List.set_cons_zero,List.set_cons_succ]
      refine wpAnyH_ready (rs:=[14]) (by kernel_rfl) (by simp) ?_
      refine AllReadyH.cons (o:={dst:=some 32,op:=Op.call {callee:=Callee.value (Operand.tmp 22),args:=#[Operand.tmp 26,Operand.tmp 31],argTypes:=#[3,3]},type:=3,pos:= "zsortanyfunc.go:12",after:=#[{on:=4,ground:=Ground.data},{on:=8,ground:=Ground.data},{on:=13,ground:=Ground.data},{on:=3,ground:=Ground.chain},{on:=3,ground:=Ground.guard}],guard:=some (3,true)}) rfl (fun K hK=>?_) AllReadyH.nil
      go_simp
      refine(uH L _ (uH HG)).mono ?_
      rintro e w5 ⟨rfl,D⟩
      have R5:=aa ((uH Z).below D (uH Z).lt);have G5:=aa (bI (uH HG) (cr D (some g)));have D5:=aa (And.intro (ak (uH N).1 D) (ak (uH N).2 D))
      clear D
      go_wp2_with fail
      refine hK.out _ _ ?_ (fun f=>?_)
      ·exact uH D5
      clear hK K
      refine wpAnyH_take (i:=15) (oi:={dst:=some 33,op:=Op.binOp BinOp.lss 3 (Operand.tmp 32) (Operand.const (Value.int IntKind.i64 0)) 3,type:=4,pos:= "zsortanyfunc.go:12",after:=#[{on:=14,ground:=Ground.data},{on:=3,ground:=Ground.guard}],guard:=some (3,true)}) (v:=.bool true) rfl (by kernel_rfl) (by kernel_rfl) (by kernel_rfl) (fun _ _ _ h=>h) (Or.inl ⟨by rfl,?_⟩) (by assumption) ?_
      ·(intro w d;(try dsimp only at d);go_simp)
      simp only[Act.put,List.setIfInBounds_toArray,List.set_cons_zero,List.set_cons_succ]
      refine wpAnyH_take (i:=16) (oi:={dst:=some 34,op:=Op.pick (Operand.tmp 21) (Operand.tmp 33) (Operand.const (Value.bool false)),type:=4,pos:= "zsortanyfunc.go:12",after:=#[{on:=3,ground:=Ground.data},{on:=15,ground:=Ground.data}],guard:=none}) (v:=.bool true) rfl (by kernel_rfl) (by kernel_rfl) (by kernel_rfl) (fun _ _ _ h=>h) (Or.inl ⟨by rfl,?_⟩) (by assumption) ?_
      ·(intro w d;(try dsimp only at d);go_simp)
      simp only[Act.put,List.setIfInBounds_toArray,List.set_cons_zero,List.set_cons_succ]
      refine wpAnyH_done (by kernel_rfl) ?_ _
      clear L Z HG N X
      go_wp2_with fail
      refine aj (fun W=>bB W g (A i m)∧w.grownBy W (some g)) ⟨uH R5,uH G5⟩ ?_
      clear R5 G5 D5
      rintro V ⟨F,hg⟩
      have c1:=F.cell m (by rw[uH LA];omega)
      have c2:=F.cell j (by rw[uH LA];omega)
      rw[(uH PP).1]at c1
      rw[(uH PP).2]at c2
      have f1:=F.free m
      have f2:=F.free j
      have T1:=F.set m y
      have f3:=T1.free j
      have d3:=T1.cell j (by rw[List.length_set,uH LA];omega)
      generalize (((A i m).set m y)[j]?.getD 0)=u3 at d3
      have T2:=aa (uH S2 V F)
      have G2:=aa (bI (bI hg (fg V g m (.int .i64 (y:Nat)))) (fg _ g j (.int .i64 (i:Nat))))
      clear F hg T1
      go_region_with (fail "NO ARM")
      all_goals
       go_wp2_with fail
       go_round
       case rel=>exact⟨j,by omega,by omega,by go_num,T2,aa (bI (uH G2) (cr (Below.refl _ _).drew (some g)))⟩
       case measure=>have:=uH HJ;simp[intOf];omega
     ·have hO:¬ov<0:=fun q=>ao ((uH KO).1 q)
      have ap:J i=m:=by have:=uH HJ;omega
      refine wp_region_held_drew (S:=fun w'=>w'.cell? ⟨g,m,none⟩=some (.int .i64 (i:Nat))∧w'.cell? ⟨g,j,none⟩=some (.int .i64 (y:Nat))) (by kernel_rfl) ?_ (fun f=>?_)
      ·exact uH N
      refine wpAnyH_take (i:=0) (oi:={dst:=some 18,op:=Op.move (Operand.tmp 9),type:=3,pos:= "zsortanyfunc.go:12",after:=#[],guard:=none}) (v:=.int .i64 (m:Nat)) rfl (by kernel_rfl) (by kernel_rfl) (by kernel_rfl) (fun _ _ _ h=>h) (Or.inl ⟨by rfl,?_⟩) (by assumption) ?_
      ·(intro w d;(try dsimp only at d);go_simp)
      simp only[Act.put,List.setIfInBounds_toArray,List.set_cons_zero,List.set_cons_succ]
      refine wpAnyH_take (i:=1) (oi:={dst:=some 19,op:=Op.move (Operand.tmp 1),type:=3,pos:= "zsortanyfunc.go:12",after:=#[],guard:=none}) (v:=.int .i64 0) rfl (by kernel_rfl) (by kernel_rfl) (by kernel_rfl) (fun _ _ _ h=>h) (Or.inl ⟨by rfl,?_⟩) (by assumption) ?_
      ·(intro w d;(try dsimp only at d);go_simp)
      simp only[Act.put,List.setIfInBounds_toArray,List.set_cons_zero,List.set_cons_succ]
      refine wpAnyH_take (i:=2) (oi:={dst:=some 20,op:=Op.binOp BinOp.gtr 3 (Operand.tmp 18) (Operand.tmp 19) 3,type:=4,pos:= "zsortanyfunc.go:12",after:=#[{on:=0,ground:=Ground.data},{on:=1,ground:=Ground.data}],guard:=none}) (v:=.bool true) rfl (by kernel_rfl) (by kernel_rfl) (by kernel_rfl) (fun _ _ _ h=>h) (Or.inl ⟨by rfl,?_⟩) (by assumption) ?_
      ·(intro w d;(try dsimp only at d);go_simp)
      simp only[Act.put,List.setIfInBounds_toArray,List.set_cons_zero,List.set_cons_succ]
      refine wpAnyH_take (i:=3) (oi:={dst:=some 21,op:=Op.move (Operand.tmp 20),type:=4,pos:= "zsortanyfunc.go:12",after:=#[{on:=2,ground:=Ground.data}],guard:=none}) (v:=.bool true) rfl (by kernel_rfl) (by kernel_rfl) (by kernel_rfl) (fun _ _ _ h=>h) (Or.inl ⟨by rfl,?_⟩) (by assumption) ?_
      ·(intro w d;(try dsimp only at d);go_simp)
      simp only[Act.put,List.setIfInBounds_toArray,List.set_cons_zero,List.set_cons_succ]
      refine wpAnyH_take (i:=4) (oi:={dst:=some 22,op:=Op.move (Operand.tmp 3),type:=199,pos:= "zsortanyfunc.go:12",after:=#[{on:=3,ground:=Ground.guard}],guard:=some (3,true)}) (v:=.func (.func Y) #[] u) rfl (by kernel_rfl) (by kernel_rfl) (by kernel_rfl) (fun _ _ _ h=>h) (Or.inl ⟨by rfl,?_⟩) (by assumption) ?_
      ·(intro w d;(try dsimp only at d);go_simp)
      simp only[Act.put,List.setIfInBounds_toArray,List.set_cons_zero,List.set_cons_succ]
      refine wpAnyH_take (i:=5) (oi:={dst:=some 23,op:=Op.move (Operand.tmp 0),type:=118,pos:= "zsortanyfunc.go:12",after:=#[{on:=3,ground:=Ground.guard}],guard:=some (3,true)}) (v:=.slice (some ⟨g,0,none⟩) n n) rfl (by kernel_rfl) (by kernel_rfl) (by kernel_rfl) (fun _ _ _ h=>h) (Or.inl ⟨by rfl,?_⟩) (by assumption) ?_
      ·(intro w d;(try dsimp only at d);go_simp)
      simp only[Act.put,List.setIfInBounds_toArray,List.set_cons_zero,List.set_cons_succ]
      refine wpAnyH_take (i:=6) (oi:={dst:=some 24,op:=Op.move (Operand.tmp 9),type:=3,pos:= "zsortanyfunc.go:12",after:=#[{on:=3,ground:=Ground.guard}],guard:=some (3,true)}) (v:=.int .i64 (m:Nat)) rfl (by kernel_rfl) (by kernel_rfl) (by kernel_rfl) (fun _ _ _ h=>h) (Or.inl ⟨by rfl,?_⟩) (by assumption) ?_
      ·(intro w d;(try dsimp only at d);go_simp)
      simp only[Act.put,List.setIfInBounds_toArray,List.set_cons_zero,List.set_cons_succ]
      refine wpAnyH_take (i:=7) (oi:={dst:=some 25,op:=Op.indexAddr 118 (Operand.tmp 23) (Operand.tmp 24),type:=0,pos:= "zsortanyfunc.go:12",after:=#[{on:=5,ground:=Ground.data},{on:=6,ground:=Ground.data},{on:=3,ground:=Ground.guard}],guard:=some (3,true)}) (v:=.pointer (some ⟨g,m,none⟩)) rfl (by kernel_rfl) (by kernel_rfl) (by kernel_rfl) (fun _ _ _ h=>h) (Or.inl ⟨by rfl,?_⟩) (by assumption) ?_
      ·(intro w d;(try dsimp only at d);go_simp)
      simp only[Act.put,List.setIfInBounds_toArray,List.set_cons_zero,List.set_cons_succ]
      refine wpAnyH_take (i:=8) (oi:={dst:=some 26,op:=Op.load 3 (Operand.tmp 25),type:=3,pos:= "zsortanyfunc.go:12",after:=#[{on:=7,ground:=Ground.data},{on:=3,ground:=Ground.guard}],guard:=some (3,true)}) (v:=.int .i64 (i:Nat)) rfl (by kernel_rfl) (by kernel_rfl) (by kernel_rfl) (fun _ _ _ h=>h) (Or.inl ⟨by rfl,?_⟩) (by assumption) ?_
      ·(intro w d;(try dsimp only at d);go_simp)
      simp only[Act.put,List.setIfInBounds_toArray,List.set_cons_zero,List.set_cons_succ]
      refine wpAnyH_take (i:=9) (oi:={dst:=some 27,op:=Op.move (Operand.tmp 0),type:=118,pos:= "zsortanyfunc.go:12",after:=#[{on:=3,ground:=Ground.guard}],guard:=some (3,true)}) (v:=.slice (some ⟨g,0,none⟩) n n) rfl (by kernel_rfl) (by kernel_rfl) (by kernel_rfl) (fun _ _ _ h=>h) (Or.inl ⟨by rfl,?_⟩) (by assumption) ?_
      ·(intro w d;(try dsimp only at d);go_simp)
      simp only[Act.put,List.setIfInBounds_toArray,List.set_cons_zero,List.set_cons_succ]
      refine wpAnyH_take (i:=10) (oi:={dst:=some 28,op:=Op.move (Operand.tmp 9),type:=3,pos:= "zsortanyfunc.go:12",after:=#[{on:=3,ground:=Ground.guard}],guard:=some (3,true)}) (v:=.int .i64 (m:Nat)) rfl (by kernel_rfl) (by kernel_rfl) (by kernel_rfl) (fun _ _ _ h=>h) (Or.inl ⟨by rfl,?_⟩) (by assumption) ?_
      ·(intro w d;(try dsimp only at d);go_simp)
      simp only[Act.put,List.setIfInBounds_toArray,List.set_cons_zero,List.set_cons_succ]
      refine wpAnyH_take (i:=11) (oi:={dst:=some 29,op:=Op.binOp BinOp.sub 3 (Operand.tmp 28) (Operand.const (Value.int IntKind.i64 1)) 3,type:=3,pos:= "zsortanyfunc.go:12",after:=#[{on:=10,ground:=Ground.data},{on:=3,ground:=Ground.guard}],guard:=some (3,true)}) (v:=.int .i64 (j:Nat)) rfl (by kernel_rfl) (by kernel_rfl) (by kernel_rfl) (fun _ _ _ h=>h) (Or.inl ⟨by rfl,?_⟩) (by assumption) ?_
      ·(intro w d;(try dsimp only at d);go_simp)
      simp only[Act.put,List.setIfInBounds_toArray,List.set_cons_zero,List.set_cons_succ]
      refine wpAnyH_take (i:=12) (oi:={dst:=some 30,op:=Op.indexAddr 118 (Operand.tmp 27) (Operand.tmp 29),type:=0,pos:= "zsortanyfunc.go:12",after:=#[{on:=9,ground:=Ground.data},{on:=11,ground:=Ground.data},{on:=3,ground:=Ground.guard}],guard:=some (3,true)}) (v:=.pointer (some ⟨g,j,none⟩)) rfl (by kernel_rfl) (by kernel_rfl) (by kernel_rfl) (fun _ _ _ h=>h) (Or.inl ⟨by rfl,?_⟩) (by assumption) ?_
      ·(intro w d;(try dsimp only at d);go_simp)
      simp only[Act.put,List.setIfInBounds_toArray,List.set_cons_zero,List.set_cons_succ]
      refine wpAnyH_take (i:=13) (oi:={dst:=some 31,op:=Op.load 3 (Operand.tmp 30),type:=3,pos:= "zsortanyfunc.go:12",after:=#[{on:=12,ground:=Ground.data},{on:=3,ground:=Ground.guard}],guard:=some (3,true)}) (v:=.int .i64 (y:Nat)) rfl (by kernel_rfl) (by kernel_rfl) (by kernel_rfl) (fun _ _ _ h=>h) (Or.inl ⟨by rfl,?_⟩) (by assumption) ?_
      ·(intro w d;(try dsimp only at d);go_simp)
      simp only[Act.put,List.setIfInBounds_toArray,List.set_cons_zero,List.set_cons_succ]
      refine wpAnyH_ready (rs:=[14]) (by kernel_rfl) (by simp) ?_
      refine AllReadyH.cons (o:={dst:=some 32,op:=Op.call {callee:=Callee.value (Operand.tmp 22),args:=#[Operand.tmp 26,Operand.tmp 31],argTypes:=#[3,3]},type:=3,pos:= "zsortanyfunc.go:12",after:=#[{on:=4,ground:=Ground.data},{on:=8,ground:=Ground.data},{on:=13,ground:=Ground.data},{on:=3,ground:=Ground.chain},{on:=3,ground:=Ground.guard}],guard:=some (3,true)}) rfl (fun K hK=>?_) AllReadyH.nil
      go_simp
      refine(uH L _ (uH HG)).mono ?_
      rintro e w5 ⟨rfl,D⟩
      have R5:=aa ((uH Z).below D (uH Z).lt);have G5:=aa (bI (uH HG) (cr D (some g)));have D5:=aa (And.intro (ak (uH N).1 D) (ak (uH N).2 D))
      clear D
      go_wp2_with fail
      refine hK.out _ _ ?_ (fun f=>?_)
      ·exact uH D5
      clear hK K
      refine wpAnyH_take (i:=15) (oi:={dst:=some 33,op:=Op.binOp BinOp.lss 3 (Operand.tmp 32) (Operand.const (Value.int IntKind.i64 0)) 3,type:=4,pos:= "zsortanyfunc.go:12",after:=#[{on:=14,ground:=Ground.data},{on:=3,ground:=Ground.guard}],guard:=some (3,true)}) (v:=.bool false) rfl (by kernel_rfl) (by kernel_rfl) (by kernel_rfl) (fun _ _ _ h=>h) (Or.inl ⟨by rfl,?_⟩) (by assumption) ?_
      ·(intro w d;(try dsimp only at d);go_simp)
      simp only[Act.put,List.setIfInBounds_toArray,List.set_cons_zero,List.set_cons_succ]
      refine wpAnyH_take (i:=16) (oi:={dst:=some 34,op:=Op.pick (Operand.tmp 21) (Operand.tmp 33) (Operand.const (Value.bool false)),type:=4,pos:= "zsortanyfunc.go:12",after:=#[{on:=3,ground:=Ground.data},{on:=15,ground:=Ground.data}],guard:=none}) (v:=.bool false) rfl (by kernel_rfl) (by kernel_rfl) (by kernel_rfl) (fun _ _ _ h=>h) (Or.inl ⟨by rfl,?_⟩) (by assumption) ?_
      ·(intro w d;(try dsimp only at d);go_simp)
      simp only[Act.put,List.setIfInBounds_toArray,List.set_cons_zero,List.set_cons_succ]
      refine wpAnyH_done (by kernel_rfl) ?_ _
      clear L Z HG N X
      go_wp2_with fail
      have Q:=aa (show bB _ g (if n=i+1 then E else A (i+1) (i+1))from by
       have:=uH R5
       by_cases e:n=i+1
       ·rw[if_pos e,←uH KE i e.symm,ap];exact this
       ·rw[if_neg e,←uH KN i (by omega),ap];exact this)
      go_round
      case rel=>exact⟨i+1,by omega,by omega,by go_num,Q,G5⟩
      case measure=>simp[intOf];omega
  ·have a0:i=n:=by omega
   subst a0
   have H:=aa (show bB wr g E from by have:=uH M;rwa[if_pos rfl]at this)
   clear M
   go_wp2_with fail
   first|go_end0|refine bodyPost_ret (results_none rfl _ _ _) rfl ?_
   exact⟨rfl,uH H,uH O⟩
theorem tw(n g f:Nat)(d:Array Value)(E:List Nat)(w:World)(z:n≤6)
  (C:Calls Tryz.prog 272 #[.slice (some ⟨g,0,none⟩) n n,.int .i64 0,.int .i64 n,.func (.func f) #[] d] w fun e w'=>e=.returned (.tuple #[])∧bB w' g E∧w.grownBy w' (some g)):
  Calls Tryz.prog 242 #[.slice (some ⟨g,0,none⟩) n n,.int .i64 n,.func (.func f) #[] d] w fun e w'=>e=.returned (.tuple #[])∧bB w' g E∧w.grownBy w' (some g):=by
 have K:=aa C
 have D:¬((20:Int)≤(n:Int)):=by omega
 have u:¬((20:Int)<(n:Int)):=by omega
 clear C
 go_enter Tryz.func242,Tryz.ntmps242
 go_wp2_with fail
 go_loopw[7,8] (fun a b wr=>a=.int .i64 0∧b=.int .i64 20∧w=wr) (fun _ _ _=>0)
 case atStart=>exact⟨rfl,rfl,rfl⟩
 case round=>
  obtain⟨rfl,rfl,rfl⟩:=hrel
  go_wp2_with fail
  refine Calls.mono (uH K) ?_
  rintro e F ⟨rfl,h,l⟩
  have R:=aa (And.intro h l)
  clear h l K
  go_wp2_with fail
  go_loopw[6] (fun a wr=>a=.int .i64 20∧Hid (bB wr g E∧w.grownBy wr (some g))) (fun _ _=>0)
  case atStart=>exact⟨rfl,R⟩
  case round=>
   clear R
   obtain⟨rfl,R⟩:=hrel
   go_wp2_with fail
   first|go_end0|refine bodyPost_ret (results_none rfl _ _ _) rfl ?_
   exact⟨rfl,uH R⟩
theorem vm(n g h:Nat)(d:Array Value)(E:List Nat)(w:World)(l:n=0)(f:bB w g E):
  Calls Tryz.prog 272 #[.slice (some ⟨g,0,none⟩) n n,.int .i64 0,.int .i64 n,.func (.func h) #[] d] w fun e w'=>e=.returned (.tuple #[])∧bB w' g E∧w.grownBy w' (some g):=by
 subst l
 have R:=aa (show bB w g E∧w.grownBy w (some g)from⟨f,cr (Below.refl w.heap.size w) (some g)⟩)
 clear f
 rw[show((0:Nat):Int)=0 from rfl]
 go_enter Tryz.func272,Tryz.ntmps272
 go_wp2_with fail
 go_loopw[8] (fun a wr=>a=.int .i64 1∧w=wr) (fun _ _=>0)
 case atStart=>exact⟨rfl,rfl⟩
 case round=>
  obtain⟨rfl,rfl⟩:=hrel
  go_wp2_with fail
  first|go_end0|refine bodyPost_ret (results_none rfl _ _ _) rfl ?_
  exact⟨rfl,uH R⟩
theorem yv(n g f:Nat)(d:Array Value)(E:List Nat)(w:World)
  (C:Calls Tryz.prog 242 #[.slice (some ⟨g,0,none⟩) n n,.int .i64 n,.func (.func f) #[] d] w fun e w'=>e=.returned (.tuple #[])∧bB w' g E∧w.grownBy w' (some g)):
  Calls Tryz.prog 211 #[.slice (some ⟨g,0,none⟩) n n,.func (.func f) #[] d] w fun e w'=>e=.returned (.tuple #[])∧bB w' g E∧w.grownBy w' (some g):=by
 have K:=aa C
 clear C
 go_enter Tryz.func211,Tryz.ntmps211
 go_wp2_with fail
 refine Calls.mono (uH K) ?_
 rintro e u ⟨rfl,h,l⟩
 have R:=aa (And.intro h l)
 clear h l K
 go_wp2_with fail
 first|go_end0|refine bodyPost_ret (results_none rfl _ _ _) rfl ?_
 exact⟨rfl,uH R⟩
theorem yw(n p x y d f l u v:Nat)(w:World)(V:x<n)(X:y<n)(D:w.cell? ⟨p,0,none⟩=some (.slice (some ⟨d,f,none⟩) n l))(F:w.cell? ⟨d,f+x,none⟩=some (.int .u64 (u:Nat)))(G:w.cell? ⟨d,f+y,none⟩=some (.int .u64 (v:Nat)))(H:u<18446744073709551616)(J:v<18446744073709551616):
  Calls Tryz.prog 212 #[.int .i64 x,.int .i64 y,.pointer (some ⟨p,0,none⟩)] w fun e w'=>e=.returned (.int .i64 (cO v u))∧Below w.heap.size w w':=by
 have K:=aa (fun w'=>jG v u w' J H)
 have M:(x:Int)<(n:Int):=by omega
 have N:(y:Int)<(n:Int):=by omega
 generalize cO v u=o at*
 generalize cB v u=t at*
 have L:=aa (fun w' (h:Below w.heap.size w w')=>(show Below w.heap.size w w'∧w'.cell? ⟨p,0,none⟩=some (.slice (some ⟨d,f,none⟩) n l)∧w'.cell? ⟨d,f+x,none⟩=some (.int .u64 (u:Nat))∧w'.cell? ⟨d,f+y,none⟩=some (.int .u64 (v:Nat))from⟨h,ak D h,ak F h,ak G h⟩))
 clear D F G H J
 go_enter Tryz.func212,Tryz.ntmps212
 go_wp2_with fail
 go_region_held3(fun w'=>Below w.heap.size w w'∧w'.cell? ⟨p,0,none⟩=some (.slice (some ⟨d,f,none⟩) n l)∧w'.cell? ⟨d,f+x,none⟩=some (.int .u64 (u:Nat))∧w'.cell? ⟨d,f+y,none⟩=some (.int .u64 (v:Nat)))
  (first|exact uH L _ (Below.refl _ _).drew|exact uH L _ (by assumption)|fail "KK")
  (first|(go_at_call 167;refine(uH K _).mono ?_;rintro e U ⟨rfl,z⟩;have O:Below w.heap.size w U:=Below.trans (And.left (by assumption)) (z.mono (Below.size (And.left (by assumption))));clear z)|fail "NO ARM")
 all_goals
  have Q:=aa (And.left (by assumption:Below w.heap.size w _∧_))
  go_wp2_with fail
  exact bodyPost_ret (v:=.int .i64 o) (by simp[results,Tryz.results212,go_sem]) rfl ⟨rfl,uH Q⟩
theorem vn(n d:Nat)(f:Option Addr)(E:List Nat)(w:World)(h6:n≤6)
  (C:∀w' g,Below w.heap.size w w'→w.heap.size<g→w'.cell? ⟨w.heap.size,0,none⟩=some (.slice f n d)→bB w' g (List.range n)→Calls Tryz.prog 211 #[.slice (some ⟨g,0,none⟩) n n,.func (.func 212) #[] #[.pointer (some ⟨w.heap.size,0,none⟩)]] w' fun e u=>e=.returned (.tuple #[])∧bB u g E∧w'.grownBy u (some g)):
  Calls Tryz.prog 156 #[.slice f n d] w fun e w'=>∃g,e=.returned (.slice (some ⟨g,0,none⟩) n n)∧w.heap.size≤g∧bB w' g E∧Below w.heap.size w w':=by
 have K:=aa C
 have D:=run_make_row' (P:=Tryz.prog) 118 3 (.int .i64 0) 8 Tryz.underlying118 (by kernel_rfl) rfl .i64 .i64 n (by omega) (by omega)
 have F:=ac w (.cells #[.slice f n d] 23)
 have O:=ah w (.cells #[.slice f n d] 23)
 have G:(w.alloc (.cells #[.slice f n d] 23)).cell? ⟨w.heap.size,0,none⟩=some (.slice f n d):=by
  rw[cell_of_row _ w.heap.size 0 _ _ _ (heap_alloc_new w _)]
  rfl
 have y0:=G
 have H:=bB.made (w.alloc (.cells #[.slice f n d] 23)) n
 have J:=ac (w.alloc (.cells #[.slice f n d] 23)) (.cells (madeCells #[.int .i64 0] n) 3)
 rw[O]at H
 have L:=aa H
 rw[show List.replicate n 0=pU id n 0 from(sY id n).symm]at L
 have Q:=aa (F.trans (J.mono F.size))
 have U:=aa (ak G J)
 clear C F J H G O
 go_enter Tryz.func156,Tryz.ntmps156
 go_wp2_with fail
 clear D y0
 go_loopw[10] (fun a wr=>∃k:Nat,k≤n∧a=.int .i64 k∧Hid (bB wr (w.heap.size+1) (pU id n k))∧Hid (Below w.heap.size w wr)∧Hid (wr.cell? ⟨w.heap.size,0,none⟩=some (.slice f n d))) (fun a _=>n-(intOf a).toNat)
 case atStart=>exact⟨0,Nat.zero_le _,rfl,L,Q,U⟩
 case round=>
  clear L Q U
  obtain⟨j,hj,rfl,h,l,z⟩:=hrel
  by_cases M:j<n
  ·have ae:(j:Int)<(n:Int):=by omega
   have d1:=(uH h).cell j (by rw[kv];exact M)
   have f1:=(uH h).free j
   have V:=aa ((uH h).set j j)
   rw[show(pU id n j).set j j=pU id n (j+1)from kw id n j]at V
   have B1:=aa ((uH l).setCell (p:=⟨w.heap.size+1,j,none⟩) (Nat.le_succ _) (.int .i64 (j:Int)))
   have C1:=aa (show(wr.setCell ⟨w.heap.size+1,j,none⟩ (.int .i64 (j:Int))).cell? ⟨w.heap.size,0,none⟩=some (.slice f n d)from(aJ _ _ _ _ (by simp)).trans (uH z))
   clear h l z
   go_wp2_with fail
   go_round
   case rel=>exact⟨j+1,by omega,by go_num,V,B1,C1⟩
   case measure=>first|(simp[intOf];done)|(simp[intOf];omega)
  ·have N:j=n:=by omega
   subst N
   rw[show pU id j j=List.range j from by rw[iS,List.map_id]]at h
   have X:=aa (uH K wr (w.heap.size+1) (uH l) (Nat.lt_succ_self _) (uH z) (uH h))
   clear K z h
   go_wp2_with fail
   refine Calls.mono (uH X) ?_
   rintro e Y ⟨rfl,Z,hg⟩
   have R:=aa (show bB Y _ E∧Below w.heap.size w Y from⟨Z,(uH l).grown hg (uH l).size (fun k e=>by cases e;exact Nat.le_succ _)⟩)
   clear Z hg X l
   go_wp2_with fail
   go_ret
   exact⟨_,rfl,Nat.le_succ _,(uH R).1,(uH R).2⟩
theorem yx(d:Array Value)(w:World):(callFunc 212 d).run Tryz.prog w=.ok (.enter 212 d) w:=by
 simp only[callFunc,go_sem]
 rfl
theorem tC(d:Nat)(D:Option Addr)(I:List Nat)(w:World)(K:I.length≤6)(G:af w D d (aL I)):
  Calls Tryz.prog 156 #[.slice D I.length d] w fun e w'=>∃g,e=.returned (.slice (some ⟨g,0,none⟩) I.length I.length)∧w.heap.size≤g∧bB w' g (cE I I.length)∧Below w.heap.size w w':=by
 refine vn I.length d D (cE I I.length) w K (fun w' g X hg L F=>?_)
 refine yv I.length g _ _ _ w' (tw I.length g _ _ _ w' K ?_)
 rcases Nat.eq_zero_or_pos I.length with z|z
 ·refine vm _ g _ _ _ w' z ?_
  rw[z]at F⊢
  exact F
 ·refine BS I.length g 212 #[.pointer (some ⟨w.heap.size,0,none⟩)] (vj I.length I) (fun i j=>(cE I i).getD j 0) (fun i=>ph (ry I i) i) (fun x y=>cO (I.getD y 0) (I.getD x 0)) w' (by omega) z yx (fun i j f l=>EX I f l) (fun i j f l=>?_) (fun i f=>?_) (fun i f=>?_) _ (fun i f=>?_) (fun h=>?_) (fun h=>?_) (fun M u x y N O=>?_)
  ·obtain⟨a,b,c⟩:=BR (n:=I.length) I l
   refine⟨a,b,c,?_⟩
   have Z:(cE I i).getD j 0∈cE I i:=by
    rw[List.getD_eq_getElem?_getD,List.getElem?_eq_getElem (by rw[dI];exact l)]
    exact List.getElem_mem _
   exact Nat.lt_trans (kD I i _ Z) f
  ·refine⟨re _ _,fun j h Y=>?_,fun j l=>?_⟩
   ·have:=vi (ry I i) i j h Y
    unfold ry eJ at this
    exact of_decide_eq_true this
   ·have:=rf (ry I i) i (by omega)
    rw[show ph (ry I i) i-1=j by omega]at this
    unfold ry eJ at this
    exact of_decide_eq_false this
  ·rw[rg,vl I f]
  ·rw[rg,f,tu]
  ·rw[←vl I h,Fo I z];exact F
  ·rw[←tu,h,Fo I (by omega),←h];exact F
  ·have H:=yl.old G (g:=some g) (fun k e=>by cases e;omega)
   have q:=pf (G.below X) H u
   obtain⟨sb,so,V,_,cx⟩:=cC q N
   obtain⟨ae,am,J,_,cy⟩:=cC q O
   rw[V]at J
   simp only[Option.some.injEq,Addr.mk.injEq]at J
   obtain⟨rfl,rfl,_⟩:=J
   have Q:∀i,I.getD i 0<18446744073709551616:=fun i=>by rw[←eI];exact G.lt i
   have U:M.cell? ⟨w.heap.size,0,none⟩=some (.slice D I.length d):=by
    rw[←L]
    unfold World.cell?
    rw[u.block w.heap.size (Nat.lt_of_lt_of_le (World.block_lt_of_cell? w' _ L) (Nat.le_refl _)) (fun e=>by cases e;omega)]
   rw[V]at U
   exact yw I.length w.heap.size x y sb so d _ _ M N O U cx cy (Q x) (Q y)
end Go.Proofs.YtdhmglmccafbnaaGreatDoor
