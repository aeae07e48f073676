/- Part 26 of the texts. -/
import Derived.Test.YtdhmglmccafbnaaGreatDoorPartw25
import Derived.Laws.CopyOwn
set_option maxHeartbeats 16000000
set_option maxRecDepth 20000
namespace Go.Proofs.YtdhmglmccafbnaaGreatDoor
def dq(xs:List Nat):Bool:=iD (aL xs) xs.length
open Go.RowKit
attribute [local go_sem ↓] Go.wp_at_zero Go.wp_at_succ
theorem bI{a w w':World}{o:Option Nat}(h:a.grownBy w o)(k:w.grownBy w' o):a.grownBy w' o:=
 ⟨k.os.trans h.os,k.tape.trans h.tape,k.output.trans h.output,Nat.le_trans h.size k.size,fun i d f=>(k.block i (Nat.lt_of_lt_of_le d h.size) f).trans (h.block i d f)⟩
theorem cr{w w':World}(h:Below w.heap.size w w')(o:Option Nat):w.grownBy w' o:=⟨h.os,h.tape,h.output,h.size,fun k d _=>h.block k d⟩
theorem fg(w:World)(g j:Nat)(v:Value):w.grownBy (w.setCell ⟨g,j,none⟩ v) (some g):=by
 have h:=(Below.refl w.heap.size w)
 refine⟨rfl,rfl,rfl,?_,fun k _ d=>Below.heap_setCell w ⟨g,j,none⟩ v k (fun e=>d (by rw[e]))⟩
 simp[World.setCell]
def yl(g:Option Nat)(ao:Option Addr)(I:List Int):Prop:=I= []∨∃b off,ao=some ⟨b,off,none⟩∧some b≠g
theorem yl.old{w:World}{f:Option Addr}{c:Nat}{I:List Int}(h:af w f c I){g:Option Nat}(l:∀k,g=some k→w.heap.size≤k):yl g f I:=by
 rcases h.2.2 with e|⟨b,d,u,z,_⟩
 ·exact .inl e
 ·exact .inr ⟨b,d,u,fun e=>by have:=l b e.symm;omega⟩
theorem pf{w w':World}{l:Option Addr}{c:Nat}{I:List Int}{g:Option Nat}(h:af w l c I)(G:yl g l I)(z:w.grownBy w' g):af w' l c I:=by
 refine⟨h.1,h.2.1,?_⟩
 rcases h.2.2 with e|⟨b,d,e,D,J⟩
 ·exact .inl e
 ·rcases G with f|⟨K,F,f,u⟩
  ·exact .inl f
  ·rw[e]at f
   simp only[Option.some.injEq,Addr.mk.injEq]at f
   obtain⟨rfl,rfl,_⟩:=f
   refine .inr ⟨b,d,e,Nat.lt_of_lt_of_le D z.size,fun i H=>?_⟩
   rw[World.cell?_of_block (a:=⟨b,d+i,none⟩) (z.block b D u)]
   exact J i H
theorem th(a b:Nat)(w:World)(h:a<18446744073709551616)(l:b<18446744073709551616)(u:bT w):
  Calls Tryz.prog 174 #[.int .u64 a,.int .u64 b] w fun r w'=>r=.returned (.int .u64 (aV a (fN b):Nat))∧Below w.heap.size w w':=by
 have K:=aa (Ah a b w h l u)
 clear h l u
 generalize aV a (fN b)=o at*
 generalize aF a (fN b)=f at*
 go_enter Tryz.func174,Tryz.ntmps174
 go_wp2_with fail
 refine Calls.mono (uH K) ?_
 rintro e z ⟨rfl,d⟩
 clear K
 go_wp2
 go_ret
 exact⟨rfl,d⟩
theorem ti(a b:Nat)(w:World)(h:a<18446744073709551616)(l:b<18446744073709551616)(u:bT w):
  Calls Tryz.prog 176 #[.int .u64 a,.int .u64 b] w fun r w'=>r=.returned (.int .u64 (dV a b:Nat))∧Below w.heap.size w w':=by
 have K:=aa (Ap a b w h l u)
 clear h l u
 generalize dV a b=o at*
 generalize dF a b=f at*
 go_enter Tryz.func176,Tryz.ntmps176
 go_wp2_with fail
 refine Calls.mono (uH K) ?_
 rintro e z ⟨rfl,d⟩
 clear K
 go_wp2
 go_ret
 exact⟨rfl,d⟩
theorem p7(a:Nat)(w:World)(h:a<18446744073709551616)(l:bT w):
  Calls Tryz.prog 261 #[.int .u64 a] w fun r w'=>r=.returned (.int .u64 (sV a:Nat))∧Below w.heap.size w w':=by
 have K:=aa (pR a w h l)
 clear h l
 generalize sV a=o at*
 generalize sF a=f at*
 go_enter Tryz.func261,Tryz.ntmps261
 go_wp2_with fail
 refine Calls.mono (uH K) ?_
 rintro e u ⟨rfl,d⟩
 clear K
 go_wp2
 go_ret
 exact⟨rfl,d⟩
theorem jj(f s k n p q:Nat)(w:World)(u:(n:Int)*(s:Int)=(p:Int))(z:(f:Int)+(p:Int)=(q:Int))(h:q≤36):
  Calls Tryz.prog 262 #[.agg #[.int .i64 f,.int .i64 s,.int .i64 k],.int .i64 n] w fun e w'=>e=.returned (.int .i64 (q:Nat))∧Below w.heap.size w w':=by
 have d:=aa (ac w (.cells #[.int .i64 f,.int .i64 s,.int .i64 k] 217))
 have l:(p:Int)≤36:=by omega
 go_enter Tryz.func262,Tryz.ntmps262
 go_wp2
 go_ret
 exact⟨rfl,uH d⟩
theorem p8(r c n d i q:Nat)(f:Option Addr)(w:World)(J:(i:Int)*(c:Int)=(q:Int))(z:q≤36):
  Calls Tryz.prog 233 #[.agg #[.int .i64 r,.int .i64 c,.slice f n d],.int .i64 i] w fun e w'=>e=.returned (.agg #[.int .i64 (q:Nat),.int .i64 1,.int .i64 (c:Nat)])∧Below w.heap.size w w':=by
 have h:=ac w (.cells #[.int .i64 r,.int .i64 c,.slice f n d] 25)
 have l:=ah w (.cells #[.int .i64 r,.int .i64 c,.slice f n d] 25)
 have u:=ac (w.alloc (.cells #[.int .i64 r,.int .i64 c,.slice f n d] 25)) (.cells #[.int .i64 (q:Nat),.int .i64 1,.int .i64 (c:Nat)] 217)
 have X:=fm.new 217 (w.alloc (.cells #[.int .i64 r,.int .i64 c,.slice f n d] 25)) (.int .i64 (q:Nat)) (.int .i64 1) (.int .i64 (c:Nat))
 rw[l]at X
 have D:=X.c0;have F:=X.c1;have G:=X.c2
 have H:=aa (h.trans (u.mono h.size))
 clear h l u X
 go_enter Tryz.func233,Tryz.ntmps233
 go_wp2_with fail
 exact bodyPost_ret (v:=.agg #[.int .i64 (q:Nat),.int .i64 1,.int .i64 (c:Nat)]) (by simp[results,Tryz.results233,go_sem,D,F,G]) rfl ⟨rfl,uH H⟩
theorem p9(r c n d i:Nat)(f:Option Addr)(w:World):
  Calls Tryz.prog 234 #[.agg #[.int .i64 r,.int .i64 c,.slice f n d],.int .i64 i] w fun e w'=>e=.returned (.agg #[.int .i64 (i:Nat),.int .i64 (c:Nat),.int .i64 (r:Nat)])∧Below w.heap.size w w':=by
 have h:=ac w (.cells #[.int .i64 r,.int .i64 c,.slice f n d] 25)
 have l:=ah w (.cells #[.int .i64 r,.int .i64 c,.slice f n d] 25)
 have u:=ac (w.alloc (.cells #[.int .i64 r,.int .i64 c,.slice f n d] 25)) (.cells #[.int .i64 (i:Nat),.int .i64 (c:Nat),.int .i64 (r:Nat)] 217)
 have X:=fm.new 217 (w.alloc (.cells #[.int .i64 r,.int .i64 c,.slice f n d] 25)) (.int .i64 (i:Nat)) (.int .i64 (c:Nat)) (.int .i64 (r:Nat))
 rw[l]at X
 have z:=X.c0;have D:=X.c1;have F:=X.c2
 have G:=aa (h.trans (u.mono h.size))
 clear h l u X
 go_enter Tryz.func234,Tryz.ntmps234
 go_wp2_with fail
 exact bodyPost_ret (v:=.agg #[.int .i64 (i:Nat),.int .i64 (c:Nat),.int .i64 (r:Nat)]) (by simp[results,Tryz.results234,go_sem,z,D,F]) rfl ⟨rfl,uH G⟩
theorem ou(r c:Int)(F:Option Addr)(n f:Nat)(l i k:Int)(er:Int)(w:World)(L:n≤35184372088830)(h:kK r c n=true)
  (G:(i<0∧er=7)∨(0≤i∧l≤i∧er=7)∨(0≤i∧i<l∧k<0∧er=7)∨(0≤i∧i<l∧0≤k∧l≤k∧er=7)∨(0≤i∧i<l∧0≤k∧k<l∧i=k∧er=7)∨(0≤i∧i<l∧0≤k∧k<l∧¬i=k∧er=0)):
  Calls Tryz.prog 231 #[.agg #[.int .i64 r,.int .i64 c,.slice F n f],.int .i64 l,.int .i64 i,.int .i64 k] w fun e w'=>e=.returned (.int .i64 er)∧Below w.heap.size w w':=by
 have d:=aa (ac w (.cells #[.int .i64 r,.int .i64 c,.slice F n f] 25))
 have K:=aa (fun w'=>gd r c F n f w' L)
 rw[if_pos h]at K
 clear h
 rcases G with⟨z,rfl⟩|⟨z,D,rfl⟩|⟨z,D,H,rfl⟩|⟨z,D,H,J,rfl⟩|⟨z,D,H,J,rfl,rfl⟩|⟨z,D,H,J,X,rfl⟩
 rotate_left 5
 ·have N:decide (i<0)=false:=decide_eq_false (by omega)
  have O:decide (l≤i)=false:=decide_eq_false (by omega)
  have Q:decide (k<0)=false:=decide_eq_false (by omega)
  have U:decide (l≤k)=false:=decide_eq_false (by omega)
  have V:(i==k)=false:=by simp;omega
  go_enter Tryz.func231,Tryz.ntmps231
  go_wp2_with fail
  refine(uH K _).mono ?_
  rintro e M ⟨rfl,u⟩
  replace d:=aa ((uH d).trans (u.mono (uH d).size))
  clear u K
  go_wp2
  go_ret
  exact⟨rfl,uH d⟩
 all_goals
  go_enter Tryz.func231,Tryz.ntmps231
  go_wp2_with fail
  refine(uH K _).mono ?_
  rintro e M ⟨rfl,u⟩
  replace d:=aa ((uH d).trans (u.mono (uH d).size))
  clear u K
  go_wp2
  go_ret
  exact⟨rfl,uH d⟩
theorem Bx(x y c s p q u z D v:Nat)(w:World)
  (F:∀w',Below w.heap.size w w'→Calls Tryz.prog 175 #[.int .u64 c,.int .u64 x] w' fun e f=>e=.returned (.int .u64 (p:Nat))∧Below w'.heap.size w' f)
  (G:∀w',Below w.heap.size w w'→Calls Tryz.prog 175 #[.int .u64 s,.int .u64 y] w' fun e f=>e=.returned (.int .u64 (q:Nat))∧Below w'.heap.size w' f)
  (H:∀w',Below w.heap.size w w'→Calls Tryz.prog 260 #[.int .u64 p,.int .u64 q] w' fun e f=>e=.returned (.int .u64 (u:Nat))∧Below w'.heap.size w' f)
  (J:∀w',Below w.heap.size w w'→Calls Tryz.prog 175 #[.int .u64 c,.int .u64 y] w' fun e f=>e=.returned (.int .u64 (z:Nat))∧Below w'.heap.size w' f)
  (K:∀w',Below w.heap.size w w'→Calls Tryz.prog 175 #[.int .u64 s,.int .u64 x] w' fun e f=>e=.returned (.int .u64 (D:Nat))∧Below w'.heap.size w' f)
  (L:∀w',Below w.heap.size w w'→Calls Tryz.prog 174 #[.int .u64 z,.int .u64 D] w' fun e f=>e=.returned (.int .u64 (v:Nat))∧Below w'.heap.size w' f):
  Calls Tryz.prog 263 #[.int .u64 x,.int .u64 y,.int .u64 c,.int .u64 s] w fun e w'=>e=.returned (.tuple #[.int .u64 (u:Nat),.int .u64 (v:Nat)])∧Below w.heap.size w w':=by
 have M:=aa F;have N:=aa G;have O:=aa H;have Q:=aa J;have U:=aa K;have V:=aa L
 have d:=aa (Below.refl w.heap.size w)
 clear F G H J K L
 go_enter Tryz.func263,Tryz.ntmps263
 go_wp2_with fail
 refine(uH M _ (uH d)).mono ?_
 rintro e l ⟨rfl,h⟩
 replace d:=aa ((uH d).trans (h.mono (uH d).size))
 clear h M
 go_wp2_with fail
 refine(uH N _ (uH d)).mono ?_
 rintro e l ⟨rfl,h⟩
 replace d:=aa ((uH d).trans (h.mono (uH d).size))
 clear h N
 go_wp2_with fail
 refine(uH O _ (uH d)).mono ?_
 rintro e l ⟨rfl,h⟩
 replace d:=aa ((uH d).trans (h.mono (uH d).size))
 clear h O
 go_wp2_with fail
 refine(uH Q _ (uH d)).mono ?_
 rintro e l ⟨rfl,h⟩
 replace d:=aa ((uH d).trans (h.mono (uH d).size))
 clear h Q
 go_wp2_with fail
 refine(uH U _ (uH d)).mono ?_
 rintro e l ⟨rfl,h⟩
 replace d:=aa ((uH d).trans (h.mono (uH d).size))
 clear h U
 go_wp2_with fail
 refine(uH V _ (uH d)).mono ?_
 rintro e l ⟨rfl,h⟩
 replace d:=aa ((uH d).trans (h.mono (uH d).size))
 clear h V
 go_wp2
 exact bodyPost_ret (v:=.tuple #[.int .u64 (u:Nat),.int .u64 (v:Nat)]) (by simp[results,Tryz.results263,go_sem]) rfl ⟨rfl,uH d⟩
theorem qa(x y c s:Nat)(w:World)(h:x<18446744073709551616)(l:y<18446744073709551616)(u:c<18446744073709551616)(z:s<18446744073709551616)(f:bT w):
  Calls Tryz.prog 263 #[.int .u64 x,.int .u64 y,.int .u64 c,.int .u64 s] w fun e w'=>e=.returned (.tuple #[.int .u64 (aV (mV c x) (mV s y):Nat),.int .u64 (aV (mV c y) (fN (mV s x)):Nat)])∧Below w.heap.size w w':=
 Bx x y c s (mV c x) (mV s y) _ (mV c y) (mV s x) _ w (fun w' d=>eh _ _ w' u h (f.all d)) (fun w' d=>eh _ _ w' z l (f.all d)) (fun w' d=>iR _ _ w' (bM _ _) (bM _ _) (f.all d)) (fun w' d=>eh _ _ w' u l (f.all d)) (fun w' d=>eh _ _ w' z h (f.all d)) (fun w' d=>th _ _ w' (bM _ _) (bM _ _) (f.all d))
def pg(r c:Nat)(S:List Nat)(i k C s j:Nat):List Nat:=cG r c (fun p q=>if q<j then(if p=i then aV (mV C (bJ c S i q)) (mV s (bJ c S k q))else if p=k then aV (mV C (bJ c S k q)) (fN (mV s (bJ c S i q)))else bJ c S p q)else bJ c S p q)
theorem Fm(r c:Nat)(S:List Nat)(i k C s:Nat)(h:S.length=r*c):pg r c S i k C s 0=S:=by
 unfold pg
 rw[←qR r c S h]
 refine bh (fun p q _ _=>?_)
 rw[qR r c S h,if_neg (by omega)]
 rfl
theorem vX(r c:Nat)(S:List Nat)(i k C s:Nat):pg r c S i k C s c=tW r c S i k C s:=by
 unfold pg tW
 exact bh (fun p q _ d=>if_pos d)
theorem qU(r c:Nat)(S:List Nat)(i k C s j:Nat):(pg r c S i k C s j).length=r*c:=bH _ _ _
theorem vY(r c:Nat)(S:List Nat){i k C s j:Nat}(z:i<r)(D:k<r)(f:i≠k)(l:j<c):
  ((pg r c S i k C s j).set (i*c+j) (aV (mV C (bJ c S i j)) (mV s (bJ c S k j)))).set (k*c+j) (aV (mV C (bJ c S k j)) (fN (mV s (bJ c S i j))))=pg r c S i k C s (j+1):=by
 unfold pg
 rw[ip r c _ _ z l,ip r c _ _ D l]
 refine bh (fun p q _ _=>?_)
 by_cases u:q<j
 ·rw[if_neg (fun e=>by omega),if_neg (fun e=>by omega),if_pos u,if_pos (show q<j+1 by omega)]
 ·by_cases h:q=j
  ·subst h
   by_cases p2:p=k
   ·rw[if_pos ⟨p2,rfl⟩,if_pos (show q<q+1 by omega),if_neg (fun e=>f (e.symm.trans p2)),if_pos p2]
   ·rw[if_neg (fun e=>p2 e.1)]
    by_cases d:p=i
    ·rw[if_pos ⟨d,rfl⟩,if_pos (show q<q+1 by omega),if_pos d]
    ·rw[if_neg (fun e=>d e.1),if_neg (show¬q<q by omega),if_pos (show q<q+1 by omega),if_neg d,if_neg p2]
  ·rw[if_neg (fun e=>h e.2),if_neg (fun e=>h e.2),if_neg u,if_neg (show¬q<j+1 by omega)]
def mp(w wr:World)(r c n cap:Nat)(ao:Option Addr)(T:List Nat)(po:Option Addr)(pc:Nat):Prop:=
 aw wr w.heap.size (.int .i64 r) (.int .i64 c) (.slice ao n cap)∧aw wr (w.heap.size+1) (.int .i64 0) (.int .i64 0) (.slice none 0 0)∧aw wr (w.heap.size+1+1) (.int .i64 r) (.int .i64 c) (.slice po n pc)∧af wr po pc (aL T)∧T.length=n∧Below w.heap.size w wr
theorem mp.all{w wr w':World}{r c n d:Nat}{l:Option Addr}{T:List Nat}{u:Option Addr}{z:Nat}(h:mp w wr r c n d l T u z)(f:Below wr.heap.size wr w'):mp w w' r c n d l T u z:=
 ⟨h.1.all f,h.2.1.all f,h.2.2.1.all f,h.2.2.2.1.below f,h.2.2.2.2.1,h.2.2.2.2.2.trans (f.mono h.2.2.2.2.2.size)⟩
theorem mp.put{w wr:World}{r c n d:Nat}{D:Option Addr}{T:List Nat}{G:Option Addr}{H:Nat}(h:mp w wr r c n d D T G H){U:List Nat}{f:Option Addr}{l:Nat}(J:af wr f l (aL U))(K:U.length=n):
  mp w (((wr.setCell ⟨w.heap.size+1+1,0,none⟩ (.int .i64 r)).setCell ⟨w.heap.size+1+1,1,none⟩ (.int .i64 c)).setCell ⟨w.heap.size+1+1,2,none⟩ (.slice f n l)) r c n d D U f l:=by
 obtain⟨L,M,F,O,Q,N⟩:=h
 have u:w.heap.size≠w.heap.size+1+1:=by omega
 have z:w.heap.size+1≠w.heap.size+1+1:=by omega
 exact⟨((L.other (p:=⟨w.heap.size+1+1,0,none⟩) u _).other (p:=⟨w.heap.size+1+1,1,none⟩) u _).other (p:=⟨w.heap.size+1+1,2,none⟩) u _,((M.other (p:=⟨w.heap.size+1+1,0,none⟩) z _).other (p:=⟨w.heap.size+1+1,1,none⟩) z _).other (p:=⟨w.heap.size+1+1,2,none⟩) z _,F.put _ _ _,J.putM F _ _ _,K,aq N (by omega) _ _ _⟩
theorem mp.start(w:World)(r c n d:Nat)(f:Option Addr)(T:List Nat)(K:af w f d (aL T))(L:T.length=n):mp w (((w.alloc (.cells #[.int .i64 r,.int .i64 c,.slice f n d] 25)).alloc (.cells #[.int .i64 0,.int .i64 0,.slice none 0 0] 25)).alloc (.cells #[.int .i64 r,.int .i64 c,.slice f n d] 25)) r c n d f T f d:=by
 have z:=ac w (.cells #[.int .i64 r,.int .i64 c,.slice f n d] 25)
 have M:=ah w (.cells #[.int .i64 r,.int .i64 c,.slice f n d] 25)
 have N:=aw.new w (.int .i64 r) (.int .i64 c) (.slice f n d)
 have O:=K.below z
 generalize w.alloc (.cells #[.int .i64 r,.int .i64 c,.slice f n d] 25)=u at*
 have D:=ac u (.cells #[.int .i64 0,.int .i64 0,.slice none 0 0] 25)
 have F:=ah u (.cells #[.int .i64 0,.int .i64 0,.slice none 0 0] 25)
 have G:=aw.new u (.int .i64 0) (.int .i64 0) (.slice none 0 0)
 generalize u.alloc (.cells #[.int .i64 0,.int .i64 0,.slice none 0 0] 25)=J at*
 have l:=ac J (.cells #[.int .i64 r,.int .i64 c,.slice f n d] 25)
 have H:=aw.new J (.int .i64 r) (.int .i64 c) (.slice f n d)
 rw[M]at G F
 rw[F]at H
 have h:=z.trans (D.mono z.size)
 exact⟨(N.all D).all l,G.all l,H,(O.below D).below l,L,h.trans (l.mono h.size)⟩
theorem uX(r c n K i k C s:Nat)(X:Option Addr)(TJ TH:Nat→List Nat)(x y p1 p2 u q1 q2 v:Nat→Nat)(w:World)(hc:c≤6)(h0:af w X K (aL (TJ 0)))(lJ:∀j,(TJ j).length=n)(lH:∀j,(TH j).length=n)
  (A1:∀w' j,Below w.heap.size w w'→j<c→Calls Tryz.prog 59 #[.agg #[.int .i64 r,.int .i64 c,.slice X n K],.int .i64 i,.int .i64 (j:Nat)] w' fun e f=>e=.returned (.int .u64 (x j:Nat))∧Below w'.heap.size w' f)
  (A2:∀w' j,Below w.heap.size w w'→j<c→Calls Tryz.prog 59 #[.agg #[.int .i64 r,.int .i64 c,.slice X n K],.int .i64 k,.int .i64 (j:Nat)] w' fun e f=>e=.returned (.int .u64 (y j:Nat))∧Below w'.heap.size w' f)
  (M1:∀w' j,j<c→Calls Tryz.prog 133 #[.int .u64 C,.int .u64 (x j:Nat)] w' fun e f=>e=.returned (.int .u64 (p1 j:Nat))∧Below w'.heap.size w' f)
  (M2:∀w' j,j<c→Calls Tryz.prog 133 #[.int .u64 s,.int .u64 (y j:Nat)] w' fun e f=>e=.returned (.int .u64 (p2 j:Nat))∧Below w'.heap.size w' f)
  (S1:∀w' j,j<c→Calls Tryz.prog 132 #[.int .u64 (p1 j:Nat),.int .u64 (p2 j:Nat)] w' fun e f=>e=.returned (.int .u64 (u j:Nat))∧Below w'.heap.size w' f)
  (W1:∀w' j Y Z,j<c→af w' Y Z (aL (TJ j))→Calls Tryz.prog 54 #[.agg #[.int .i64 r,.int .i64 c,.slice Y n Z],.int .i64 i,.int .i64 (j:Nat),.int .u64 (u j:Nat)] w' fun e f=>∃v,e=.returned v∧(∃L M,v=.agg #[.int .i64 r,.int .i64 c,.slice L n M]∧af f L M (aL (TH j)))∧Below w'.heap.size w' f)
  (M3:∀w' j,j<c→Calls Tryz.prog 133 #[.int .u64 C,.int .u64 (y j:Nat)] w' fun e f=>e=.returned (.int .u64 (q1 j:Nat))∧Below w'.heap.size w' f)
  (M4:∀w' j,j<c→Calls Tryz.prog 133 #[.int .u64 s,.int .u64 (x j:Nat)] w' fun e f=>e=.returned (.int .u64 (q2 j:Nat))∧Below w'.heap.size w' f)
  (S2:∀w' j,j<c→Calls Tryz.prog 205 #[.int .u64 (q1 j:Nat),.int .u64 (q2 j:Nat)] w' fun e f=>e=.returned (.int .u64 (v j:Nat))∧Below w'.heap.size w' f)
  (W2:∀w' j Y Z,j<c→af w' Y Z (aL (TH j))→Calls Tryz.prog 54 #[.agg #[.int .i64 r,.int .i64 c,.slice Y n Z],.int .i64 k,.int .i64 (j:Nat),.int .u64 (v j:Nat)] w' fun e f=>∃v,e=.returned v∧(∃L M,v=.agg #[.int .i64 r,.int .i64 c,.slice L n M]∧af f L M (aL (TJ (j+1))))∧Below w'.heap.size w' f):
  Calls Tryz.prog 148 #[.agg #[.int .i64 r,.int .i64 c,.slice X n K],.int .i64 i,.int .i64 k,.int .u64 C,.int .u64 s] w fun e w'=>∃L M,e=.returned (.agg #[.int .i64 r,.int .i64 c,.slice L n M])∧af w' L M (aL (TJ c))∧Below w.heap.size w w':=by
 have ST:=aa (mp.start w r c n K X (TJ 0) h0 (lJ 0))
 have ap:=aa A1;have ax:=aa A2;have aI:=aa M1;have a0:=aa M2;have a1:=aa S1;have a2:=aa W1;have a3:=aa M3;have a4:=aa M4;have a5:=aa S2;have a6:=aa W2;have LJ:=aa lJ;have LH:=aa lH
 clear A1 A2 M1 M2 S1 W1 M3 M4 S2 W2 h0 lJ lH
 have z:=(uH ST).1.c0;have D:=(uH ST).1.c1;have F:=(uH ST).1.c2
 go_enter Tryz.func148,Tryz.ntmps148
 go_wp2_with fail
 clear z D F
 go_loopw[12] (fun a wr=>∃(j:Nat) (L:Option Addr) (M:Nat),j≤c∧a=.int .i64 j∧Hid (mp w wr r c n K X (TJ j) L M)) (fun a _=>c-(intOf a).toNat)
 case atStart=>exact⟨0,X,K,Nat.zero_le _,rfl,ST⟩
 case round=>
  clear ST
  obtain⟨j,L,M,hj,rfl,H⟩:=hrel
  by_cases J:j<c
  ·have bw:(j:Int)<(c:Int):=by omega
   have z:=(uH H).1.c0;have D:=(uH H).1.c1;have F:=(uH H).1.c2
   have a7:=aa (fun w'=>uH aI w' j J);have a9:=aa (fun w'=>uH a0 w' j J);have ba:=aa (fun w'=>uH a1 w' j J);have bb:=aa (fun w' Y Z h=>uH a2 w' j Y Z J h)
   have be:=aa (fun w'=>uH a3 w' j J);have bg:=aa (fun w'=>uH a4 w' j J);have bi:=aa (fun w'=>uH a5 w' j J);have bm:=aa (fun w' Y Z h=>uH a6 w' j Y Z J h)
   have ae:=aa (fun w' h=>uH ap w' j h J);have am:=aa (fun w' h=>uH ax w' j h J)
   generalize x j=xx at*
   generalize y j=yy at*
   go_wp2_with fail
   refine(uH ae _ (uH H).2.2.2.2.2).mono ?_
   rintro e w1 ⟨rfl,l⟩
   replace H:=aa ((uH H).all l)
   clear l z D F ae
   have z:=(uH H).1.c0;have D:=(uH H).1.c1;have F:=(uH H).1.c2
   go_wp2_with fail
   refine(uH am _ (uH H).2.2.2.2.2).mono ?_
   rintro e w2 ⟨rfl,l⟩
   replace H:=aa ((uH H).all l)
   clear l z D F am
   go_wp2_with fail
   refine aj (fun W=>mp w W r c n K X (TJ j) L M) (uH H) ?_
   clear H
   rintro W0 H
   have G:=aa (H.all ((Below.refl W0.heap.size W0).drew))
   clear H
   have z:=(uH G).2.2.1.c0;have D:=(uH G).2.2.1.c1;have F:=(uH G).2.2.1.c2
   go_region_with (first
    |(go_at_call_of 133 xx;refine(uH a7 _).mono ?_;rintro e w4 ⟨rfl,l⟩;clear z D F;have d:=(uH G).all l;have z:=d.2.2.1.c0;have D:=d.2.2.1.c1;have F:=d.2.2.1.c2;have O:=d.2.2.1.free 0;have U:=d.2.2.1.free 1;have V:=d.2.2.1.free 2;replace G:=aa d;clear d l;)
    |(go_at_call_of 133 yy;refine(uH a9 _).mono ?_;rintro e w4 ⟨rfl,l⟩;clear z D F;have d:=(uH G).all l;have z:=d.2.2.1.c0;have D:=d.2.2.1.c1;have F:=d.2.2.1.c2;have O:=d.2.2.1.free 0;have U:=d.2.2.1.free 1;have V:=d.2.2.1.free 2;replace G:=aa d;clear d l;)
    |(go_at_call 132;refine(uH ba _).mono ?_;rintro e w4 ⟨rfl,l⟩;clear z D F;have d:=(uH G).all l;have z:=d.2.2.1.c0;have D:=d.2.2.1.c1;have F:=d.2.2.1.c2;have O:=d.2.2.1.free 0;have U:=d.2.2.1.free 1;have V:=d.2.2.1.free 2;replace G:=aa d;clear d l;)
    |(go_at_call 54;refine(uH bb _ _ _ (uH G).2.2.2.1).mono ?_;rintro e w5 ⟨v5,rfl,⟨bo,bq,rfl,b5⟩,l⟩;clear z D F;have N:=(uH G).all l;have z:=N.2.2.1.c0;have D:=N.2.2.1.c1;have F:=N.2.2.1.c2;have O:=N.2.2.1.free 0;have U:=N.2.2.1.free 1;have V:=N.2.2.1.free 2;have P5:=aa (N.put b5 (uH LH j));clear N l b5 G)
    |fail "NO ARM")
   all_goals
    clear z D F O U V
    have H:=P5
    clear P5
    go_wp2_with fail
    refine aj (fun W=>mp w W r c n K X (TH j) bo bq) (uH H) ?_
    clear H
    rintro W0 H
    have G:=aa (H.all ((Below.refl W0.heap.size W0).drew))
    clear H
    have z:=(uH G).2.2.1.c0;have D:=(uH G).2.2.1.c1;have F:=(uH G).2.2.1.c2
    go_region_with (first
     |(go_at_call_of 133 yy;refine(uH be _).mono ?_;rintro e w4 ⟨rfl,l⟩;clear z D F;have d:=(uH G).all l;have z:=d.2.2.1.c0;have D:=d.2.2.1.c1;have F:=d.2.2.1.c2;have O:=d.2.2.1.free 0;have U:=d.2.2.1.free 1;have V:=d.2.2.1.free 2;replace G:=aa d;clear d l;)
     |(go_at_call_of 133 xx;refine(uH bg _).mono ?_;rintro e w4 ⟨rfl,l⟩;clear z D F;have d:=(uH G).all l;have z:=d.2.2.1.c0;have D:=d.2.2.1.c1;have F:=d.2.2.1.c2;have O:=d.2.2.1.free 0;have U:=d.2.2.1.free 1;have V:=d.2.2.1.free 2;replace G:=aa d;clear d l;)
     |(go_at_call 205;refine(uH bi _).mono ?_;rintro e w4 ⟨rfl,l⟩;clear z D F;have d:=(uH G).all l;have z:=d.2.2.1.c0;have D:=d.2.2.1.c1;have F:=d.2.2.1.c2;have O:=d.2.2.1.free 0;have U:=d.2.2.1.free 1;have V:=d.2.2.1.free 2;replace G:=aa d;clear d l;)
     |(go_at_call 54;refine(uH bm _ _ _ (uH G).2.2.2.1).mono ?_;rintro e w5 ⟨v5,rfl,⟨bt,bv,rfl,b6⟩,l⟩;clear z D F;have N:=(uH G).all l;have z:=N.2.2.1.c0;have D:=N.2.2.1.c1;have F:=N.2.2.1.c2;have O:=N.2.2.1.free 0;have U:=N.2.2.1.free 1;have V:=N.2.2.1.free 2;have P6:=aa (N.put b6 (uH LJ (j+1)));clear N l b6 G)
     |fail "NO ARM")
    all_goals
     clear z D F O U V
     go_wp2_with fail
     go_round
     case rel=>exact⟨j+1,bt,bv,by omega,by go_num,P6⟩
     case measure=>simp[intOf];omega
  ·have bn:j=c:=by omega
   subst bn
   obtain⟨h1,h2,h3,h4,h5,h6⟩:=uH H
   have t1:=h1.c1
   have z:=h3.c0;have D:=h3.c1;have F:=h3.c2
   have r0:=h2.c0;have r1:=h2.c1;have r2:=h2.c2
   have O:=h2.free 0;have U:=h2.free 1;have V:=h2.free 2
   have XP:=h2.put (.int .i64 r) (.int .i64 j) (.slice L n M)
   have z0:=XP.c0;have z1:=XP.c1;have z2:=XP.c2
   have Q:=aa (h4.putM h2 (.int .i64 r) (.int .i64 j) (.slice L n M))
   have BP:=aa (aq h6 (b:=w.heap.size+1) (by omega) (.int .i64 r) (.int .i64 j) (.slice L n M))
   clear XP H h1 h2 h3 h4 h5 h6
   go_wp2_with fail
   exact bodyPost_ret (v:=.agg #[.int .i64 r,.int .i64 j,.slice L n M]) (by simp[results,Tryz.results148,go_sem,z0,z1,z2]) rfl ⟨L,M,rfl,uH Q,uH BP⟩
def Ip(r c:Nat)(S:List Nat)(i k C s j:Nat):List Nat:=(pg r c S i k C s j).set (i*c+j) (aV (mV C (bJ c S i j)) (mV s (bJ c S k j)))
theorem tj(r c d i k C s:Nat)(u:Option Addr)(S:List Nat)(w:World)(h:Mx w u d r c S)(L:i<r)(M:k<r)(N:i≠k)(V:C<18446744073709551616)(X:s<18446744073709551616):
  Calls Tryz.prog 148 #[.agg #[.int .i64 r,.int .i64 c,.slice u S.length d],.int .i64 i,.int .i64 k,.int .u64 C,.int .u64 s] w fun e w'=>∃z D,e=.returned (.agg #[.int .i64 r,.int .i64 c,.slice z S.length D])∧af w' z D (aL (tW r c S i k C s))∧Below w.heap.size w w':=by
 have Y:=fun j=>h.el_lt i j
 have Z:=fun j=>h.el_lt k j
 have H:∀j,(pg r c S i k C s j).length=S.length:=fun j=>by rw[qU,h.2.1]
 have J:∀j,(Ip r c S i k C s j).length=S.length:=fun j=>by unfold Ip;rw[List.length_set];exact H j
 rw[←vX]
 refine uX r c S.length d i k C s u (fun j=>pg r c S i k C s j) (fun j=>Ip r c S i k C s j) (fun j=>bJ c S i j) (fun j=>bJ c S k j) (fun j=>mV C (bJ c S i j)) (fun j=>mV s (bJ c S k j)) (fun j=>aV (mV C (bJ c S i j)) (mV s (bJ c S k j))) (fun j=>mV C (bJ c S k j)) (fun j=>mV s (bJ c S i j)) (fun j=>aV (mV C (bJ c S k j)) (fN (mV s (bJ c S i j)))) w h.2.2.2 (by show af w u d (aL (pg r c S i k C s 0));rw[Fm r c S i k C s h.2.1];exact h.1) H J
  (fun w' j l f=>kB r c d i j u S w' (h.below l) L f) (fun w' j l f=>kB r c d k j u S w' (h.below l) M f)
  (fun w' j _=>cT C _ w' V (Y j)) (fun w' j _=>cT s _ w' X (Z j)) (fun w' j _=>fJ _ _ w' (bM _ _) (bM _ _)) (fun w' j F G f O=>?_)
  (fun w' j _=>cT C _ w' V (Z j)) (fun w' j _=>cT s _ w' X (Y j)) (fun w' j _=>p5 _ _ w' (bM _ _) (bM _ _)) (fun w' j F G f O=>?_)
 ·have Q:Mx w' F G r c (pg r c S i k C s j):=⟨O,qU _ _ _ _ _ _ _ _,h.2.2.1,h.2.2.2⟩
  have:=gZ r c G i j (aV (mV C (bJ c S i j)) (mV s (bJ c S k j))) F _ w' Q L f (dR _ _ (bM _ _) (bM _ _))
  rw[H j]at this
  refine this.mono ?_
  rintro e U ⟨v,rfl,⟨z,D,rfl,_,K⟩,l⟩
  exact⟨_,rfl,⟨z,D,by rw[show((pg r c S i k C s j).set (i*c+j) (aV (mV C (bJ c S i j)) (mV s (bJ c S k j)))).length=S.length from J j],K⟩,l⟩
 ·have Q:Mx w' F G r c (Ip r c S i k C s j):=⟨O,by rw[J j,h.2.1],h.2.2.1,h.2.2.2⟩
  have:=gZ r c G k j (aV (mV C (bJ c S k j)) (fN (mV s (bJ c S i j)))) F _ w' Q M f (dR _ _ (bM _ _) (gH _ (bM _ _)))
  rw[J j]at this
  refine this.mono ?_
  rintro e U ⟨v,rfl,⟨z,D,rfl,_,K⟩,l⟩
  have e5:(Ip r c S i k C s j).set (k*c+j) (aV (mV C (bJ c S k j)) (fN (mV s (bJ c S i j))))=pg r c S i k C s (j+1):=vY r c S L M N f
  rw[e5]at K⊢
  exact⟨_,rfl,⟨z,D,by rw[H (j+1)],K⟩,l⟩
def fu(r c:Nat)(S:List Nat)(i k C s:Nat):List Nat:=ru c r (tW c r (ru r c S) i k C s)
theorem co(r c:Nat)(S:List Nat)(i k C s:Nat):(fu r c S i k C s).length=r*c:=by
 unfold fu ru
 exact bH _ _ _
theorem uY(r c n f i k C s l:Nat)(J:Option Addr)(T R U:List Nat)(w:World)
  (C1:∀w',Below w.heap.size w w'→Calls Tryz.prog 17 #[.agg #[.int .i64 r,.int .i64 c,.slice J n f]] w' fun e d=>∃u z,e=.returned (.agg #[.int .i64 c,.int .i64 r,.slice u l z])∧af d u z (aL T)∧Below w'.heap.size w' d)
  (C2:∀w' u z,af w' u z (aL T)→Calls Tryz.prog 148 #[.agg #[.int .i64 c,.int .i64 r,.slice u l z],.int .i64 i,.int .i64 k,.int .u64 C,.int .u64 s] w' fun e d=>∃K L,e=.returned (.agg #[.int .i64 c,.int .i64 r,.slice K l L])∧af d K L (aL R)∧Below w'.heap.size w' d)
  (C3:∀w' u z,af w' u z (aL R)→Calls Tryz.prog 17 #[.agg #[.int .i64 c,.int .i64 r,.slice u l z]] w' fun e d=>∃K L,e=.returned (.agg #[.int .i64 r,.int .i64 c,.slice K n L])∧af d K L (aL U)∧Below w'.heap.size w' d):
  Calls Tryz.prog 149 #[.agg #[.int .i64 r,.int .i64 c,.slice J n f],.int .i64 i,.int .i64 k,.int .u64 C,.int .u64 s] w fun e w'=>∃u z,e=.returned (.agg #[.int .i64 r,.int .i64 c,.slice u n z])∧af w' u z (aL U)∧Below w.heap.size w w':=by
 have K1:=aa C1;have K2:=aa C2;have K3:=aa C3
 have X:=ac w (.cells #[.int .i64 r,.int .i64 c,.slice J n f] 25)
 have s0:=ah w (.cells #[.int .i64 r,.int .i64 c,.slice J n f] 25)
 have x0:=aw.new w (.int .i64 r) (.int .i64 c) (.slice J n f)
 have Y:=ac (w.alloc (.cells #[.int .i64 r,.int .i64 c,.slice J n f] 25)) (.cells #[.int .i64 0,.int .i64 0,.slice none 0 0] 25)
 have Z:=aw.new (w.alloc (.cells #[.int .i64 r,.int .i64 c,.slice J n f] 25)) (.int .i64 0) (.int .i64 0) (.slice none 0 0)
 rw[s0]at Z
 have h:=aa (And.intro Z (X.trans (Y.mono X.size)))
 have F:=x0.all Y
 have y0:=F.c0;have y1:=F.c1;have y2:=F.c2
 clear C1 C2 C3 X s0 x0 Y Z F
 go_enter Tryz.func149,Tryz.ntmps149
 go_wp2_with fail
 refine(uH K1 _ (uH h).2).mono ?_
 rintro e w1 ⟨u,z,rfl,H,D⟩
 replace h:=aa (show aw w1 (w.heap.size+1) (.int .i64 0) (.int .i64 0) (.slice none 0 0)∧Below w.heap.size w w1 from⟨(uH h).1.all D,(uH h).2.trans (D.mono (uH h).2.size)⟩)
 have O:=aa H
 clear D H K1 y0 y1 y2
 go_wp2_with fail
 refine(uH K2 _ _ _ (uH O)).mono ?_
 rintro e w2 ⟨K,L,rfl,H,D⟩
 replace h:=aa (show aw w2 (w.heap.size+1) (.int .i64 0) (.int .i64 0) (.slice none 0 0)∧Below w.heap.size w w2 from⟨(uH h).1.all D,(uH h).2.trans (D.mono (uH h).2.size)⟩)
 replace O:=aa H
 clear D H K2
 go_wp2_with fail
 refine(uH K3 _ _ _ (uH O)).mono ?_
 rintro e w3 ⟨M,N,rfl,H,D⟩
 have G:=(uH h).1.all D
 have h6:=(uH h).2.trans (D.mono (uH h).2.size)
 have r0:=G.c0;have r1:=G.c1;have r2:=G.c2
 have f0:=G.free 0;have f1:=G.free 1;have f2:=G.free 2
 have V:=G.put (.int .i64 r) (.int .i64 c) (.slice M n N)
 have z0:=V.c0;have z1:=V.c1;have z2:=V.c2
 have Q:=aa (H.putM G (.int .i64 r) (.int .i64 c) (.slice M n N))
 have BP:=aa (aq h6 (b:=w.heap.size+1) (by omega) (.int .i64 r) (.int .i64 c) (.slice M n N))
 clear V G h6 H D h O K3
 go_wp2_with fail
 exact bodyPost_ret (v:=.agg #[.int .i64 r,.int .i64 c,.slice M n N]) (by simp[results,Tryz.results149,go_sem,z0,z1,z2]) rfl ⟨M,N,rfl,uH Q,uH BP⟩
theorem lZ(r c d i k C s:Nat)(D:Option Addr)(S:List Nat)(w:World)(h:Mx w D d r c S)(Q:i<c)(U:k<c)(F:i≠k)(V:C<18446744073709551616)(X:s<18446744073709551616):
  Calls Tryz.prog 149 #[.agg #[.int .i64 r,.int .i64 c,.slice D S.length d],.int .i64 i,.int .i64 k,.int .u64 C,.int .u64 s] w fun e w'=>∃l u,e=.returned (.agg #[.int .i64 r,.int .i64 c,.slice l S.length u])∧af w' l u (aL (fu r c S i k C s))∧Below w.heap.size w w':=by
 have J:(ru r c S).length=c*r:=bH _ _ _
 have O:(tW c r (ru r c S) i k C s).length=(ru r c S).length:=by rw[EN,J]
 have Y:(fu r c S i k C s).length=S.length:=by rw[co,h.2.1]
 refine uY r c S.length d i k C s (ru r c S).length D (ru r c S) (tW c r (ru r c S) i k C s) (fu r c S i k C s) w (fun w' z=>?_) (fun w' l u z=>?_) (fun w' l u z=>?_)
 ·refine(pZ r c d D S w' (h.below z)).mono ?_
  rintro e K ⟨v,rfl,⟨L,M,rfl,_,N⟩,f⟩
  exact⟨L,M,rfl,N,f⟩
 ·exact tj c r u i k C s l (ru r c S) w' ⟨z,J,h.2.2.2,h.2.2.1⟩ Q U F V X
 ·have:=pZ c r u l (tW c r (ru r c S) i k C s) w' ⟨z,by rw[O,J],h.2.2.2,h.2.2.1⟩
  rw[O]at this
  refine this.mono ?_
  rintro e K ⟨v,rfl,⟨L,M,rfl,_,N⟩,f⟩
  exact⟨L,M,by rw[show(cG r c (fun G H=>bJ r (tW c r (ru r c S) i k C s) H G)).length=S.length from Y],N,f⟩
structure jN (w wr:World) (r c n cap f1 s1 k1 f2 s2 k2:Nat) (ao:Option Addr) (S:List Nat):Prop where
 bel:Below w.heap.size w wr
 m:aw wr w.heap.size (.int .i64 r) (.int .i64 c) (.slice ao n cap)
 u:fm 217 wr (w.heap.size+1) (.int .i64 f1) (.int .i64 s1) (.int .i64 k1)
 l:fm 217 wr (w.heap.size+1+1) (.int .i64 f2) (.int .i64 s2) (.int .i64 k2)
 res:aw wr (w.heap.size+1+1+1) (.int .i64 0) (.int .i64 0) (.slice none 0 0)
 row:bp wr (w.heap.size+1+1+1+1) S
theorem jN.all{w wr w':World}{r c n f z D F G H J:Nat}{K:Option Addr}{S:List Nat}(h:jN w wr r c n f z D F G H J K S)(d:Below wr.heap.size wr w'):jN w w' r c n f z D F G H J K S:=
 ⟨h.bel.trans (d.mono h.bel.size),h.m.all d,h.u.all d,h.l.all d,h.res.all d,h.row.below d h.row.lt⟩
theorem jN.set{w wr:World}{r c n d f z D F G H:Nat}{J:Option Addr}{S:List Nat}(h:jN w wr r c n d f z D F G H J S)(p x:Nat):jN w (wr.setCell ⟨w.heap.size+1+1+1+1,p,none⟩ (.int .u64 (x:Int))) r c n d f z D F G H J (S.set p x):=
 ⟨h.bel.setCell (p:=⟨w.heap.size+1+1+1+1,p,none⟩) (by show w.heap.size≤w.heap.size+1+1+1+1;omega) _,h.m.other (p:=⟨w.heap.size+1+1+1+1,p,none⟩) (by show w.heap.size≠w.heap.size+1+1+1+1;omega) _,h.u.other (p:=⟨w.heap.size+1+1+1+1,p,none⟩) (by show w.heap.size+1≠w.heap.size+1+1+1+1;omega) _,h.l.other (p:=⟨w.heap.size+1+1+1+1,p,none⟩) (by show w.heap.size+1+1≠w.heap.size+1+1+1+1;omega) _,h.res.other (p:=⟨w.heap.size+1+1+1+1,p,none⟩) (by show w.heap.size+1+1+1≠w.heap.size+1+1+1+1;omega) _,h.row.set p x⟩
theorem jN.start(w:World)(r c n d f h l u z D:Nat)(F:Option Addr):
  jN w (((((w.alloc (.cells #[.int .i64 r,.int .i64 c,.slice F n d] 25)).alloc (.cells #[.int .i64 f,.int .i64 h,.int .i64 l] 217)).alloc (.cells #[.int .i64 u,.int .i64 z,.int .i64 D] 217)).alloc (.cells #[.int .i64 0,.int .i64 0,.slice none 0 0] 25)).alloc (.cells (madeCells #[.int .u64 0] n) 28)) r c n d f h l u z D F (List.replicate n 0):=by
 have N:=ac w (.cells #[.int .i64 r,.int .i64 c,.slice F n d] 25)
 have s0:=ah w (.cells #[.int .i64 r,.int .i64 c,.slice F n d] 25)
 have x0:=aw.new w (.int .i64 r) (.int .i64 c) (.slice F n d)
 generalize w.alloc (.cells #[.int .i64 r,.int .i64 c,.slice F n d] 25)=J at*
 have O:=ac J (.cells #[.int .i64 f,.int .i64 h,.int .i64 l] 217)
 have z1:=ah J (.cells #[.int .i64 f,.int .i64 h,.int .i64 l] 217)
 have Q:=fm.new 217 J (.int .i64 f) (.int .i64 h) (.int .i64 l)
 generalize J.alloc (.cells #[.int .i64 f,.int .i64 h,.int .i64 l] 217)=K at*
 have M:=ac K (.cells #[.int .i64 u,.int .i64 z,.int .i64 D] 217)
 have z2:=ah K (.cells #[.int .i64 u,.int .i64 z,.int .i64 D] 217)
 have U:=fm.new 217 K (.int .i64 u) (.int .i64 z) (.int .i64 D)
 generalize K.alloc (.cells #[.int .i64 u,.int .i64 z,.int .i64 D] 217)=L at*
 have H:=ac L (.cells #[.int .i64 0,.int .i64 0,.slice none 0 0] 25)
 have V:=ah L (.cells #[.int .i64 0,.int .i64 0,.slice none 0 0] 25)
 have X:=aw.new L (.int .i64 0) (.int .i64 0) (.slice none 0 0)
 generalize L.alloc (.cells #[.int .i64 0,.int .i64 0,.slice none 0 0] 25)=w3 at*
 have G:=ac w3 (.cells (madeCells #[.int .u64 0] n) 28)
 have Y:=bp.made w3 n
 rw[s0]at Q z1
 rw[z1]at U z2
 rw[z2]at X V
 rw[V]at Y
 have Z:=N.trans (O.mono N.size)
 have c2:=Z.trans (M.mono Z.size)
 have c3:=c2.trans (H.mono c2.size)
 exact⟨c3.trans (G.mono c3.size),(((x0.all O).all M).all H).all G,((Q.all M).all H).all G,(U.all H).all G,X.all G,Y⟩
theorem jN.copied{w wr w':World}{r c n d z D F G H J:Nat}{K:Option Addr}{S T:List Nat}(h:jN w wr r c n d z D F G H J K S)(f:Below (w.heap.size+1+1+1+1) wr w')(L:bp w' (w.heap.size+1+1+1+1) T):jN w w' r c n d z D F G H J K T:=
 ⟨h.bel.trans (f.mono (by omega)),h.m.below f (by omega),h.u.below f (by omega),h.l.below f (by omega),h.res.below f (by omega),L⟩
theorem bp.three{w:World}{b g:Nat}{S:List Nat}(h:bp w b S)(f:b≠g)(u l d:Value):bp (((w.setCell ⟨g,0,none⟩ u).setCell ⟨g,1,none⟩ l).setCell ⟨g,2,none⟩ d) b S:=by
 unfold bp
 rw[Below.heap_setCell _ ⟨g,2,none⟩ d b f,Below.heap_setCell _ ⟨g,1,none⟩ l b f,Below.heap_setCell _ ⟨g,0,none⟩ u b f]
 exact h
theorem tk{w:World}{g b:Nat}{S:List Nat}(h:bp w g S){x y z:Value}(d:aw w b x y z):g≠b:=by
 intro e
 subst e
 unfold bp at h
 unfold aw at d
 rw[h]at d
 simp at d
theorem Bz(W:World)(g n f:Nat)(G:Option Addr)(S:List Nat)(h:bp W g (List.replicate n 0))(K:af W G f (aL S))(H:S.length=n):
  ∃w',(∀u,(Builtin.copy_ #[23,23] u #[.slice (some ⟨g,0,none⟩) n n,.slice G n f]).run Tryz.prog W=.ok (.int .i64 (n:Int)) w')∧bp w' g S∧Below g W w':=by
 rcases Nat.eq_zero_or_pos n with e|e
 ·subst e
  obtain rfl:S= []:=List.eq_nil_of_length_eq_zero H
  exact⟨W,fun u=>run_copy_none W _ _ u 28 _ _ 0 0 0 f Tryz.underlying23 (by kernel_rfl) rfl,h,Below.refl _ _⟩
 ·obtain⟨b,l,rfl,N,M⟩:=K.ne (by rw[av];omega)
  have D:∀j v,(S.map gW)[j]? =some v→W.cell? ((⟨b,l,none⟩:Addr).add j)=some v:=by
   intro j v z
   rw[List.getElem?_map]at z
   obtain⟨x,J,rfl⟩:=Option.map_eq_some_iff.1 z
   have L:j<S.length:=(List.getElem?_eq_some_iff.1 J).1
   have:=M j (by rw[av];exact L)
   rw[eI]at this
   rw[show(⟨b,l,none⟩:Addr).add j=⟨b,l+j,none⟩from by simp[Addr.add],this]
   rw[List.getD_eq_getElem?_getD,J]
   rfl
  have d:(S.map gW).length=n:=by rw[List.length_map,H]
  have F:=fun u=>run_copy_row Tryz.prog W 23 23 u 28 g 0 n n ⟨b,l,none⟩ n f ((List.replicate n 0).map gW).toArray 28 (S.map gW) Tryz.underlying23 (by kernel_rfl) h (by rw[d];exact(Nat.min_self n).symm) D (by rw[d];simp) (fun v z=>by obtain⟨x,_,rfl⟩:=List.mem_map.1 z;rfl)
  refine⟨_,fun u=>(F u).trans (by rw[d];rfl),?_,below_setRow (Below.refl _ _) (Nat.le_refl _) _⟩
  unfold bp
  rw[setRow_heap W g _ _ 28 _ h]
  congr 3
  simp
theorem ju(r c n z H L k J M N C s:Nat)(ao:Option Addr)(D:Nat→List Nat)(P Q X Y U V:Nat→Nat)(w:World)(a4:n≤36)(h6:k≤6)(O:af w ao z (aL (D 0)))(lJ:∀j,(D j).length=n)
  (hP:∀j,j<k→P j<n∧Q j<n∧P j≠Q j∧(D j)[P j]?.getD 0=X j∧(D j)[Q j]?.getD 0=Y j∧((D j).set (P j) (U j)).set (Q j) (V j)=D (j+1))
  (C1:∀w' j,j<k→Calls Tryz.prog 262 #[.agg #[.int .i64 H,.int .i64 L,.int .i64 k],.int .i64 (j:Nat)] w' fun e F=>e=.returned (.int .i64 (P j:Nat))∧Below w'.heap.size w' F)
  (C2:∀w' j,j<k→Calls Tryz.prog 262 #[.agg #[.int .i64 J,.int .i64 M,.int .i64 N],.int .i64 (j:Nat)] w' fun e F=>e=.returned (.int .i64 (Q j:Nat))∧Below w'.heap.size w' F)
  (C3:∀w' j,Below w.heap.size w w'→j<k→Calls Tryz.prog 263 #[.int .u64 (X j:Nat),.int .u64 (Y j:Nat),.int .u64 C,.int .u64 s] w' fun e F=>e=.returned (.tuple #[.int .u64 (U j:Nat),.int .u64 (V j:Nat)])∧Below w'.heap.size w' F):
  Calls Tryz.prog 232 #[.agg #[.int .i64 r,.int .i64 c,.slice ao n z],.agg #[.int .i64 H,.int .i64 L,.int .i64 k],.agg #[.int .i64 J,.int .i64 M,.int .i64 N],.int .u64 C,.int .u64 s] w fun e w'=>∃g,e=.returned (.agg #[.int .i64 r,.int .i64 c,.slice (some ⟨g,0,none⟩) n n])∧w.heap.size≤g∧bp w' g (D k)∧Below w.heap.size w w':=by
 have d:=aa (jN.start w r c n z H L k J M N ao)
 have am:=run_make_row' (P:=Tryz.prog) 23 28 (.int .u64 0) 8 Tryz.underlying23 (by kernel_rfl) rfl .i64 .i64 n (by omega) (by omega)
 have HP:=aa hP;have K1:=aa C1;have K2:=aa C2;have K3:=aa C3;have LJ:=aa lJ;have HS:=aa O
 obtain⟨w5,a2,ae,f⟩:=Bz _ (w.heap.size+1+1+1+1) n z ao (D 0) (uH d).row (O.below (uH d).bel) (lJ 0)
 have G:=aa ((uH d).copied f ae)
 clear hP C1 C2 C3 lJ O ae f
 have y0:=(uH d).m.c0;have y1:=(uH d).m.c1;have y2:=(uH d).m.c2
 have q0:=(uH G).u.c0;have q1:=(uH G).u.c1;have q2:=(uH G).u.c2
 go_enter Tryz.func232,Tryz.ntmps232
 go_wp2_with fail
 clear am a2 y0 y1 y2 q0 q1 q2 d
 go_loopw[25] (fun a wr=>∃j:Nat,j≤k∧a=.int .i64 j∧Hid (jN w wr r c n z H L k J M N ao (D j))) (fun a _=>k-(intOf a).toNat)
 case atStart=>exact⟨0,Nat.zero_le _,rfl,G⟩
 case round=>
  clear G
  obtain⟨j,hj,rfl,O⟩:=hrel
  by_cases K:j<k
  ·have a5:(j:Int)<(k:Int):=by omega
   obtain⟨hp,hq,a9,hx,hy,Z⟩:=uH HP j K
   have KP:=aa (fun w'=>uH K1 w' j K);have KQ:=aa (fun w'=>uH K2 w' j K);have KT:=aa (fun w' hb=>uH K3 w' j hb K)
   have LL:=aa (uH LJ j);have HX:=aa hx;have HY:=aa hy;have HN:=aa Z
   generalize ba:D j=TT at*
   generalize a3:D (j+1)=TN at*
   clear HP K1 K2 K3 LJ hx hy Z
   generalize P j=p at*
   generalize Q j=q at*
   generalize X j=x at*
   generalize Y j=y at*
   generalize U j=u at*
   generalize V j=v at*
   have a6:(p:Int)<(n:Int):=by omega
   have a7:(q:Int)<(n:Int):=by omega
   go_wp2_with fail
   refine aj (fun W=>jN w W r c n z H L k J M N ao TT) (uH O) ?_
   clear O
   intro W st
   have d:=aa st
   have HK:=aa (fun w' (h:Below W.heap.size W w')=>(show Below W.heap.size W w'∧(w'.cell? ⟨w.heap.size+1,0,none⟩=some (.int .i64 H)∧w'.cell? ⟨w.heap.size+1,1,none⟩=some (.int .i64 L)∧w'.cell? ⟨w.heap.size+1,2,none⟩=some (.int .i64 k))∧(w'.cell? ⟨w.heap.size+1+1,0,none⟩=some (.int .i64 J)∧w'.cell? ⟨w.heap.size+1+1,1,none⟩=some (.int .i64 M)∧w'.cell? ⟨w.heap.size+1+1,2,none⟩=some (.int .i64 N))from
    have y:=st.all h;⟨h,⟨y.u.c0,y.u.c1,y.u.c2⟩,y.l.c0,y.l.c1,y.l.c2⟩))
   clear st
   go_region_held3(fun w'=>Below W.heap.size W w'∧(w'.cell? ⟨w.heap.size+1,0,none⟩=some (.int .i64 H)∧w'.cell? ⟨w.heap.size+1,1,none⟩=some (.int .i64 L)∧w'.cell? ⟨w.heap.size+1,2,none⟩=some (.int .i64 k))∧(w'.cell? ⟨w.heap.size+1+1,0,none⟩=some (.int .i64 J)∧w'.cell? ⟨w.heap.size+1+1,1,none⟩=some (.int .i64 M)∧w'.cell? ⟨w.heap.size+1+1,2,none⟩=some (.int .i64 N)))
    (first|exact uH HK _ (Below.refl _ _).drew|exact uH HK _ (by assumption)|fail "KK")
    (first|(go_at_call 262;refine(uH KP _).mono ?_;rintro e w6 ⟨rfl,f⟩;have ap:Below W.heap.size W w6:=Below.trans (And.left (by assumption)) (f.mono (Below.size (And.left (by assumption))));clear f KP)|(go_at_call 262;refine(uH KQ _).mono ?_;rintro e w7 ⟨rfl,f⟩;have ap:Below W.heap.size W w7:=Below.trans (And.left (by assumption)) (f.mono (Below.size (And.left (by assumption))));clear f KQ)|fail "NO ARM")
   all_goals
    have d:=aa ((uH d).all (And.left (by assumption)))
    clear HK
    go_wp2_with fail
    refine aj (fun W=>jN w W r c n z H L k J M N ao TT) (uH d) ?_
    clear d
    rintro W0 st
    have d:=aa (st.all ((Below.refl W0.heap.size W0).drew))
    clear st
    have c1:=(uH d).row.cell p (by rw[uH LL];exact hp)
    have c2:=(uH d).row.cell q (by rw[uH LL];exact hq)
    rw[uH HX]at c1
    rw[uH HY]at c2
    go_region_with (first
     |(go_at_call 263;refine(uH KT _ (uH d).bel).mono ?_;rintro e w8 ⟨rfl,hb⟩;clear c1 c2;have S8:=(uH d).all hb;have d1:=S8.row.cell p (by rw[uH LL];exact hp);have d2:=S8.row.cell q (by rw[uH LL];exact hq);have ax:=S8.row.free p;have aI:=S8.row.free q;have S9:=S8.set p u;have d3:=S9.row.cell q (by rw[List.length_set,uH LL];exact hq);have a0:=S9.row.free q;have P9:=aa (S9.set q v);clear S8 S9 hb d KT)
     |fail "NO ARM")
    all_goals
     clear d1 d2 d3 ax aI a0
     go_wp2_with fail
     go_round
     case rel=>exact⟨j+1,by omega,by go_num,by rw[a3,←uH HN];exact P9⟩
     case measure=>simp[intOf];omega
  ·have a1:j=k:=by omega
   subst a1
   obtain⟨h6,h1,h2,h3,h4,h5⟩:=uH O
   have y0:=h1.c0;have y1:=h1.c1;have y2:=h1.c2
   have r0:=h4.c0;have r1:=h4.c1;have r2:=h4.c2
   have f0:=h4.free 0;have H:=h4.free 1;have J:=h4.free 2
   have XP:=h4.put (.int .i64 r) (.int .i64 c) (.slice (some ⟨w.heap.size+1+1+1+1,0,none⟩) n n)
   have z0:=XP.c0;have z1:=XP.c1;have z2:=XP.c2
   have RW:=aa (h5.three (g:=w.heap.size+1+1+1) (by omega) (.int .i64 r) (.int .i64 c) (.slice (some ⟨w.heap.size+1+1+1+1,0,none⟩) n n))
   have BP:=aa (aq h6 (b:=w.heap.size+1+1+1) (by omega) (.int .i64 r) (.int .i64 c) (.slice (some ⟨w.heap.size+1+1+1+1,0,none⟩) n n))
   clear XP h1 h2 h3 h4 h5 h6 O
   go_wp2_with fail
   exact bodyPost_ret (v:=.agg #[.int .i64 r,.int .i64 c,.slice (some ⟨w.heap.size+1+1+1+1,0,none⟩) n n]) (by simp[results,Tryz.results232,go_sem,z0,z1,z2]) rfl ⟨_,rfl,by omega,uH RW,uH BP⟩
end Go.Proofs.YtdhmglmccafbnaaGreatDoor
