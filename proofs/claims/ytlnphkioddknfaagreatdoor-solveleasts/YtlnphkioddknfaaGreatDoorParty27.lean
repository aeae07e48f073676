/- Part 27 of the texts. -/
import Derived.Test.YtlnphkioddknfaaGreatDoorParty26
import Derived.Deep.OwnRows
set_option maxHeartbeats 4000000
set_option maxRecDepth 20000
namespace Go.Proofs.YtlnphkioddknfaaGreatDoor
open Go.RowKit
def ac(w:World)(ao:Option Addr)(cap:Nat)(I:List Int):Prop:=
 I.length≤cap∧(∀x∈I,0≤x∧x≤18446744073709551615)∧(I= []∨∃b off,ao=some ⟨b,off,none⟩∧b<w.heap.size∧∀i,i<I.length→w.cell? ⟨b,off+i,none⟩=some (.int .u64 (I[i]?.getD 0)))
theorem ac.below{w f:World}{ao:Option Addr}{cap:Nat}{I:List Int}(h:ac w ao cap I)(l:Below w.heap.size w f):ac f ao cap I:=by
 refine⟨h.1,h.2.1,?_⟩
 rcases h.2.2 with h|⟨b,d,y,m,z⟩
 ·exact .inl h
 ·refine .inr ⟨b,d,y,Nat.lt_of_lt_of_le m l.size,fun i t=>?_⟩
  rw[l.cell (p:=⟨b,d+i,none⟩) m]
  exact z i t
def aM(I:List Int)(j:Nat):Nat:=(I[j]?.getD 0).toNat
theorem ac.wf{w:World}{ao:Option Addr}{cap:Nat}{I:List Int}(h:ac w ao cap I)(j:Nat):I[j]?.getD 0=(aM I j:Int)∧aM I j<18446744073709551616:=by
 unfold aM
 by_cases d:j<I.length
 ·have:=h.2.1 _ (List.getElem_mem d)
  rw[List.getElem?_eq_getElem d]
  simp only[Option.getD_some]
  omega
 ·rw[List.getElem?_eq_none (by omega)];simp
theorem ac.ne{w:World}{ao:Option Addr}{cap:Nat}{I:List Int}(h:ac w ao cap I)(f:0<I.length):∃b d,ao=some ⟨b,d,none⟩∧b<w.heap.size∧∀i,i<I.length→w.cell? ⟨b,d+i,none⟩=some (.int .u64 (aM I i:Int)):=by
 rcases h.2.2 with e|⟨b,d,m,t,y⟩
 ·rw[e]at f;simp at f
 ·exact⟨b,d,m,t,fun i l=>by rw[y i l,(h.wf i).1]⟩
theorem BT(a b:Nat)(w:World)(h:a<18446744073709551616)(l:b<18446744073709551616)(m:b7 w):
  Calls Tryz.prog 239 #[.int .u64 a,.int .u64 b] w fun r t=>r=.returned (.int .u64 (aV a b:Nat))∧Below w.heap.size w t:=by
 have K:=aa (sO a b w h l m)
 clear h l m
 generalize aV a b=o at*
 generalize aF a b=f at*
 go_enter Tryz.func239,Tryz.ntmps239
 go_wp2_with fail
 refine Calls.mono (uH K) ?_
 rintro e y ⟨rfl,d⟩
 clear K
 go_wp2
 go_ret
 exact⟨rfl,d⟩
theorem kQ(a b:Nat)(w:World)(h:a<18446744073709551616)(l:b<18446744073709551616)(m:b7 w):
  Calls Tryz.prog 165 #[.int .u64 a,.int .u64 b] w fun r t=>r=.returned (.int .u64 (mV a b:Nat))∧Below w.heap.size w t:=by
 have K:=aa (Bo a b w h l m)
 clear h l m
 generalize mV a b=o at*
 generalize mF a b=f at*
 go_enter Tryz.func165,Tryz.ntmps165
 go_wp2_with fail
 refine Calls.mono (uH K) ?_
 rintro e y ⟨rfl,d⟩
 clear K
 go_wp2
 go_ret
 exact⟨rfl,d⟩
theorem kf(a:Nat)(n:Int)(w:World)(h:a<18446744073709551616)(l:b7 w):
  Calls Tryz.prog 58 #[.int .u64 a,.int .i64 n] w fun r m=>r=.returned (.int .u64 (xV a n:Nat))∧Below w.heap.size w m:=by
 have K:=aa (uZ a n w h l)
 clear h l
 generalize xV a n=o at*
 generalize xF a n=f at*
 go_enter Tryz.func58,Tryz.ntmps58
 go_wp2_with fail
 refine Calls.mono (uH K) ?_
 rintro e t ⟨rfl,d⟩
 clear K
 go_wp2
 go_ret
 exact⟨rfl,d⟩
theorem BU(ao y:Option Addr)(n m c d:Nat)(w:World):
  Calls Tryz.prog 215 #[.slice ao n c,.slice y m d] w fun r z=>r=.returned (.bool (decide (n≤64∧n=m)))∧w=z:=by
 by_cases t:n≤64
 ·have f:(n:Int)≤64:=by omega
  by_cases l:n=m
  ·rw[decide_eq_true (And.intro t l)]
   subst l
   go_enter Tryz.func215,Tryz.ntmps215
   go_wp2
   go_ret
   exact⟨rfl,rfl⟩
  ·rw[decide_eq_false (fun h=>l h.2)]
   have A:decide ((n:Int)=(m:Int))=false:=decide_eq_false (by omega)
   go_enter Tryz.func215,Tryz.ntmps215
   go_wp2
   go_ret
   exact⟨by simp;omega,rfl⟩
 ·rw[decide_eq_false (fun h=>t h.1)]
  have f:(64:Int)<(n:Int):=by omega
  go_enter Tryz.func215,Tryz.ntmps215
  go_wp2
  go_ret
  exact⟨by simp,rfl⟩
theorem gW(b:Nat)(w:World)(_h:b<18446744073709551616):
  Calls Tryz.prog 109 #[.int .u64 b] w fun r d=>r=.returned (.float .f64 b)∧w=d:=by
 have hF:=fun W=>d9 b W
 have f:IntKind.u64.wrap (b:Int)=(b:Int):=by simp only[IntKind.wrap_u64];omega
 go_enter Tryz.func109,Tryz.ntmps109
 go_wp2
 go_ret
 exact⟨rfl,rfl⟩
theorem pV(R v:Nat)(w:World)(C:∀d,Calls Tryz.prog 129 #[.int .u64 (R:Nat)] d fun r f=>r=.returned (.int .u64 (v:Nat))∧d=f):
  Calls Tryz.prog 75 #[.float .f64 R] w fun r d=>r=.returned (.int .u64 (v:Nat))∧w=d:=by
 have K:=aa C
 have h:=fun R W=>kK R W
 clear C
 go_enter Tryz.func75,Tryz.ntmps75
 go_wp2_with fail
 refine(uH K _).mono ?_
 rintro e l ⟨rfl,rfl⟩
 clear K
 go_wp2
 go_ret
 exact⟨rfl,rfl⟩
theorem BV(a b v:Nat)(o:Option Nat)(w:World)
  (D:∀i d,(binOp .add i (.float .f64 a) (.float .f64 b)).run Tryz.prog d=.ok (.float .f64 (fC o a b d)) (lC o d))
  (h:∀d,Calls Tryz.prog 109 #[.int .u64 a] d fun r f=>r=.returned (.float .f64 a)∧d=f)
  (l:∀d,Calls Tryz.prog 109 #[.int .u64 b] d fun r f=>r=.returned (.float .f64 b)∧d=f)
  (m:∀u d,Calls Tryz.prog 75 #[.float .f64 (fC o a b u)] d fun r f=>r=.returned (.int .u64 v)∧d=f):
  Calls Tryz.prog 144 #[.int .u64 a,.int .u64 b] w fun r d=>r=.returned (.int .u64 (v:Nat))∧Below w.heap.size w d:=by
 have t:=aa h;have y:=aa l;have z:=aa m
 have B:=aa (gv o w)
 clear h l m
 go_enter Tryz.func144,Tryz.ntmps144
 go_wp2_with fail
 refine(uH t _).mono ?_
 rintro e A ⟨rfl,rfl⟩
 go_wp2_with fail
 refine(uH y _).mono ?_
 rintro e A ⟨rfl,rfl⟩
 go_wp2_with fail
 refine(uH z _ _).mono ?_
 rintro e A ⟨rfl,rfl⟩
 clear t y z
 go_wp2
 go_ret
 exact⟨rfl,uH B⟩
theorem pW(a b:Nat)(w:World)(h:a<18446744073709551616)(l:b<18446744073709551616):
  Calls Tryz.prog 144 #[.int .u64 a,.int .u64 b] w fun r d=>r=.returned (.int .u64 (aV a b:Nat))∧Below w.heap.size w d:=
 BV a b (aV a b) (Ieee.double.add a b) w (fun i d=>Bs i a b d) (fun d=>gW a d h) (fun d=>gW b d l) (fun u d=>pV _ _ d (fun f=>pR a b u f h l))
theorem Ca(a b v:Nat)(o:Option Nat)(w:World)
  (D:∀i d,(binOp .mul i (.float .f64 a) (.float .f64 b)).run Tryz.prog d=.ok (.float .f64 (fC o a b d)) (lC o d))
  (h:∀d,Calls Tryz.prog 109 #[.int .u64 a] d fun r f=>r=.returned (.float .f64 a)∧d=f)
  (l:∀d,Calls Tryz.prog 109 #[.int .u64 b] d fun r f=>r=.returned (.float .f64 b)∧d=f)
  (m:∀u d,Calls Tryz.prog 75 #[.float .f64 (fC o a b u)] d fun r f=>r=.returned (.int .u64 v)∧d=f):
  Calls Tryz.prog 50 #[.int .u64 a,.int .u64 b] w fun r d=>r=.returned (.int .u64 (v:Nat))∧Below w.heap.size w d:=by
 have t:=aa h;have y:=aa l;have z:=aa m
 have B:=aa (gv o w)
 clear h l m
 go_enter Tryz.func50,Tryz.ntmps50
 go_wp2_with fail
 refine(uH t _).mono ?_
 rintro e A ⟨rfl,rfl⟩
 go_wp2_with fail
 refine(uH y _).mono ?_
 rintro e A ⟨rfl,rfl⟩
 go_wp2_with fail
 refine(uH z _ _).mono ?_
 rintro e A ⟨rfl,rfl⟩
 clear t y z
 go_wp2
 go_ret
 exact⟨rfl,uH B⟩
theorem io(a b:Nat)(w:World)(h:a<18446744073709551616)(l:b<18446744073709551616):
  Calls Tryz.prog 50 #[.int .u64 a,.int .u64 b] w fun r d=>r=.returned (.int .u64 (mV a b:Nat))∧Below w.heap.size w d:=
 Ca a b (mV a b) (Ieee.double.mul a b) w (fun i d=>sU i a b d) (fun d=>gW a d h) (fun d=>gW b d l) (fun u d=>pV _ _ d (fun f=>yA a b u f h l))
theorem yR(a v:Nat)(o:Option Nat)(w:World)
  (h:∀f,Calls Tryz.prog 109 #[.int .u64 a] f fun r d=>r=.returned (.float .f64 a)∧f=d)
  (l:∀f,Calls Tryz.prog 223 #[.float .f64 a] f fun r d=>r=.returned (.float .f64 (fC o a a f))∧d=lC o f)
  (m:∀u f,Calls Tryz.prog 75 #[.float .f64 (fC o a a u)] f fun r d=>r=.returned (.int .u64 v)∧f=d):
  Calls Tryz.prog 198 #[.int .u64 a] w fun r f=>r=.returned (.int .u64 (v:Nat))∧Below w.heap.size w f:=by
 have t:=aa h;have y:=aa l;have z:=aa m
 have B:=aa (gv o w)
 clear h l m
 go_enter Tryz.func198,Tryz.ntmps198
 go_wp2_with fail
 refine(uH t _).mono ?_
 rintro e A ⟨rfl,rfl⟩
 go_wp2_with fail
 refine(uH y _).mono ?_
 rintro e A ⟨rfl,rfl⟩
 go_wp2_with fail
 refine(uH z _ _).mono ?_
 rintro e A ⟨rfl,rfl⟩
 clear t y z
 go_wp2
 go_ret
 exact⟨rfl,uH B⟩
theorem vv(a:Nat)(w:World)(h:a<18446744073709551616):
  Calls Tryz.prog 198 #[.int .u64 a] w fun r d=>r=.returned (.int .u64 (sV a:Nat))∧Below w.heap.size w d:=
 yR a (sV a) (Ieee.double.sqrt a) w (fun d=>gW a d h) (fun d=>yQ a _ d (fun W=>yP a W)) (fun u d=>pV _ _ d (fun f=>vu a u f h))
theorem vw(a l v:Nat)(n:Int)(w:World)
  (h:∀f,Calls Tryz.prog 109 #[.int .u64 a] f fun r d=>r=.returned (.float .f64 a)∧f=d)
  (m:∀f,Calls Tryz.prog 123 #[.float .f64 a,.int .i64 n] f fun r d=>r=.returned (.float .f64 l)∧f=d)
  (t:∀f,Calls Tryz.prog 75 #[.float .f64 l] f fun r d=>r=.returned (.int .u64 v)∧f=d):
  Calls Tryz.prog 69 #[.int .u64 a,.int .i64 n] w fun r f=>r=.returned (.int .u64 (v:Nat))∧Below w.heap.size w f:=by
 have y:=aa h;have z:=aa m;have A:=aa t
 clear h m t
 go_enter Tryz.func69,Tryz.ntmps69
 go_wp2_with fail
 refine(uH y _).mono ?_
 rintro e D ⟨rfl,rfl⟩
 go_wp2_with fail
 refine(uH z _).mono ?_
 rintro e D ⟨rfl,rfl⟩
 go_wp2_with fail
 refine(uH A _).mono ?_
 rintro e D ⟨rfl,rfl⟩
 clear y z A
 go_wp2
 go_ret
 exact⟨rfl,Below.refl _ _⟩
theorem jn(a:Nat)(n:Int)(w:World)(f:a<18446744073709551616)(l:-5000≤n∧n≤5000):
  Calls Tryz.prog 69 #[.int .u64 a,.int .i64 n] w fun r d=>r=.returned (.int .u64 (xV a n:Nat))∧Below w.heap.size w d:=
 vw a (lV a n) (xV a n) n w (fun d=>gW a d f) (fun d=>yI a n d f l) (fun d=>pV _ _ d (fun h=>BJ a n h f))
theorem ma(A:Nat)(l:Array Value)(n:Nat)(f:Nat→Nat)(w:World)
  (K:∀y w,(callFunc A y).run Tryz.prog w=.ok (.enter A y) w) (U:n≤35184372088830)
  (d:∀m k,Below w.heap.size w m→k<n→Calls Tryz.prog A (#[.int .u64 (f k:Nat),.int .i64 (k:Nat)]++l) m fun e F=>e=.returned (.int .u64 (f (k+1):Nat))∧Below m.heap.size m F):
  Calls Tryz.prog 113 #[.int .i64 n,.int .u64 (f 0:Nat),.func (.func A) #[] l] w fun e m=>e=.returned (.int .u64 (f n:Nat))∧Below w.heap.size w m:=by
 have L:=aa d
 clear d
 go_enter Tryz.func113,Tryz.ntmps113
 go_wp2_with fail
 go_loopw[7,11] (fun t i wr=>∃k:Nat,k≤n∧i=.int .i64 k∧t=.int .u64 (f k:Nat)∧Hid (Below w.heap.size w wr)) (fun _ i _=>n-(intOf i).toNat)
 case atStart=>exact⟨0,Nat.zero_le _,rfl,rfl,Below.refl _ _⟩
 case round=>
  obtain⟨k,V,rfl,rfl,D⟩:=hrel
  by_cases G:k<n
  ·have M:(k:Int)<(n:Int):=by omega
   have C:=aa (fun m h=>uH L m k h G)
   obtain⟨o,I⟩:∃o,f (k+1)=o:=⟨_,rfl⟩
   rw[I]at C
   have N:=aa I
   clear I
   go_wp2_with fail
   refine(uH C _ D.out).mono ?_
   rintro e Q ⟨rfl,z⟩
   have O:Hid (Below w.heap.size w Q):=D.out.trans (z.mono D.out.size)
   clear z C
   go_wp2_with fail
   go_round
   case rel=>exact⟨k+1,by omega,by go_num,by rw[uH N],O⟩
   case measure=>simp[intOf];omega
  ·have H:k=n:=by omega
   subst H
   go_wp2_with fail
   exact bodyPost_ret (v:=.int .u64 (f k:Nat)) (by simp[results,Tryz.results113,go_sem]) rfl ⟨rfl,D.out⟩
theorem s6(A:Nat)(l:Array Value)(n:Nat)(f:Nat→Bool)(w:World)
  (K:∀y w,(callFunc A y).run Tryz.prog w=.ok (.enter A y) w) (U:n≤35184372088830)
  (d:∀m k,Below w.heap.size w m→k<n→Calls Tryz.prog A (#[.bool (f k),.int .i64 (k:Nat)]++l) m fun e F=>e=.returned (.bool (f (k+1)))∧Below m.heap.size m F):
  Calls Tryz.prog 193 #[.int .i64 n,.bool (f 0),.func (.func A) #[] l] w fun e m=>e=.returned (.bool (f n))∧Below w.heap.size w m:=by
 have L:=aa d
 clear d
 go_enter Tryz.func193,Tryz.ntmps193
 go_wp2_with fail
 go_loopw[7,11] (fun t i wr=>∃k:Nat,k≤n∧i=.int .i64 k∧t=.bool (f k)∧Hid (Below w.heap.size w wr)) (fun _ i _=>n-(intOf i).toNat)
 case atStart=>exact⟨0,Nat.zero_le _,rfl,rfl,Below.refl _ _⟩
 case round=>
  obtain⟨k,V,rfl,rfl,D⟩:=hrel
  by_cases G:k<n
  ·have M:(k:Int)<(n:Int):=by omega
   have C:=aa (fun m h=>uH L m k h G)
   obtain⟨o,I⟩:∃o,f (k+1)=o:=⟨_,rfl⟩
   rw[I]at C
   have N:=aa I
   clear I
   go_wp2_with fail
   refine(uH C _ D.out).mono ?_
   rintro e Q ⟨rfl,z⟩
   have O:Hid (Below w.heap.size w Q):=D.out.trans (z.mono D.out.size)
   clear z C
   go_wp2_with fail
   go_round
   case rel=>exact⟨k+1,by omega,by go_num,by rw[uH N],O⟩
   case measure=>simp[intOf];omega
  ·have H:k=n:=by omega
   subst H
   go_wp2_with fail
   exact bodyPost_ret (v:=.bool (f k)) (by simp[results,Tryz.results193,go_sem]) rfl ⟨rfl,D.out⟩
def ip(x:Nat):Value:=.int .u64 (x:Int)
def aY(w:World)(g:Nat)(S:List Nat):Prop:=w.heap[g]? =some (.cells (S.map ip).toArray 37 (0,0))
theorem aY.cell{w:World}{g:Nat}{S:List Nat}(h:aY w g S)(j:Nat)(d:j<S.length):w.cell? ⟨g,j,none⟩=some (.int .u64 ((S[j]?.getD 0:Nat):Int)):=by
 rw[cell_of_row w g j _ _ _ h]
 simp[ip,d]
theorem aY.free{w:World}{g:Nat}{S:List Nat}(h:aY w g S)(j:Nat):w.frozen? ⟨g,j,none⟩=false:=frozen_of_row w g j _ _ h
theorem aY.set{w:World}{g:Nat}{S:List Nat}(h:aY w g S)(j x:Nat):aY (w.setCell ⟨g,j,none⟩ (.int .u64 (x:Int))) g (S.set j x):=by
 unfold aY
 rw[heap_setCell_same w g j _ _ _ h]
 simp[ip,List.map_set]
theorem aY.lt{w:World}{g:Nat}{S:List Nat}(h:aY w g S):g<w.heap.size:=(Array.getElem?_eq_some_iff.1 h).1
theorem aY.below{w d:World}{g:Nat}{S:List Nat}(h:aY w g S){B:Nat}(f:Below B w d)(l:g<B):aY d g S:=by
 unfold aY;rw[f.block g l];exact h
theorem aY.made(w:World)(n:Nat):aY (w.alloc (.cells (madeCells #[.int .u64 0] n) 37)) w.heap.size (List.replicate n 0):=by
 unfold aY
 rw[heap_alloc_new w _]
 have:madeCells #[Value.int .u64 0] n=((List.replicate n 0).map ip).toArray:=by
  apply Array.toList_inj.1
  refine List.ext_getElem (by simp[madeCells]) fun i d f=>?_
  simp[madeCells,ip,Nat.mod_one]
 rw[this]
def zP(f:Nat→Nat)(n k:Nat):List Nat:=(List.range n).map (fun j=>if j<k then f j else 0)
theorem Gr(f:Nat→Nat)(n:Nat):zP f n 0=List.replicate n 0:=by
 unfold zP
 refine List.ext_getElem (by simp) fun i d h=>?_
 simp
theorem wX(f:Nat→Nat)(n k:Nat):(zP f n k).length=n:=by simp[zP]
theorem wY(f:Nat→Nat)(n k:Nat):(zP f n k).set k (f k)=zP f n (k+1):=by
 unfold zP
 refine List.ext_getElem (by simp) fun i l m=>?_
 rw[List.getElem_set]
 simp only[List.getElem_map,List.getElem_range]
 by_cases h:k=i
 ·subst h;simp
 ·rw[if_neg h]
  by_cases d:i<k
  ·rw[if_pos d,if_pos (by omega)]
  ·rw[if_neg d,if_neg (by omega)]
theorem s7(f:Nat→Nat)(n:Nat):zP f n n=(List.range n).map f:=by
 unfold zP
 refine List.ext_getElem (by simp) fun i h d=>?_
 simp only[List.getElem_map,List.getElem_range]
 rw[if_pos (by simpa using d)]
theorem Cb(F:Nat)(t:Array Value)(n:Nat)(f:Nat→Nat)(w:World)
  (Q:∀y w,(callFunc F y).run Tryz.prog w=.ok (.enter F y) w) (hn:n≤35184372088830)
  (d:∀l k,Below w.heap.size w l→k<n→Calls Tryz.prog F (#[.int .i64 (k:Nat)]++t) l fun e H=>e=.returned (.int .u64 (f k:Nat))∧Below l.heap.size l H):
  Calls Tryz.prog 286 #[.int .i64 n,.func (.func F) #[] t] w fun e l=>∃g,e=.returned (.slice (some ⟨g,0,none⟩) n n)∧w.heap.size≤g∧aY l g ((List.range n).map f)∧Below w.heap.size w l:=by
 have U:=aa d
 have I:=run_make_row' (P:=Tryz.prog) 22 37 (.int .u64 0) 8 Tryz.underlying22 (by kernel_rfl) rfl .i64 .i64 n (by omega) (by omega)
 have M:=aa (aY.made w n)
 have N:=aa ((Below.refl w.heap.size w).alloc (Nat.le_refl _) (.cells (madeCells #[.int .u64 0] n) 37))
 clear d
 go_enter Tryz.func286,Tryz.ntmps286
 go_wp2_with fail
 clear I
 go_loopw[10] (fun i wr=>∃k:Nat,k≤n∧i=.int .i64 k∧Hid (aY wr w.heap.size (zP f n k))∧Hid (Below w.heap.size w wr)) (fun i _=>n-(intOf i).toNat)
 case atStart=>exact⟨0,Nat.zero_le _,rfl,by rw[Gr];exact M,N⟩
 case round=>
  clear M N
  obtain⟨k,hk,rfl,G,D⟩:=hrel
  by_cases A:k<n
  ·have V:(k:Int)<(n:Int):=by omega
   have C:=aa (fun l h=>uH U l k h A)
   obtain⟨o,L⟩:∃o,f k=o:=⟨_,rfl⟩
   rw[L]at C
   have X:=aa L
   clear L
   go_wp2_with fail
   refine(uH C _ D.out).mono ?_
   rintro e w2 ⟨rfl,z⟩
   have m:=(uH G).below z (uH G).lt
   have c0:=m.cell k (by rw[wX];exact A)
   have f0:=m.free k
   have Y:=aa (m.set k o)
   have O:Below w.heap.size w w2:=D.out.trans (z.mono D.out.size)
   have Z:=aa (O.setCell (p:=⟨w.heap.size,k,none⟩) (Nat.le_refl _) (.int .u64 (o:Int)))
   clear z C G D O m
   go_wp2_with fail
   go_round
   case rel=>exact⟨k+1,by omega,by go_num,by rw[←wY,uH X];exact Y,Z⟩
   case measure=>simp[intOf];omega
  ·have K:k=n:=by omega
   subst K
   go_wp2_with fail
   exact bodyPost_ret (v:=.slice (some ⟨w.heap.size,0,none⟩) k k) (by simp[results,Tryz.results286,go_sem]) rfl ⟨_,rfl,Nat.le_refl _,by rw[←s7];exact uH G,D.out⟩
attribute [local go_sem ↓] Go.wp_at_zero Go.wp_at_succ
theorem ah{w d:World}{p:Addr}{v:Value}(h:w.cell? p=some v)(f:Below w.heap.size w d):d.cell? p=some v:=by
 rw[f.cell (World.block_lt_of_cell? w _ h)];exact h
theorem Fv(s x y p o k n m c d I l:Nat)(z A D F:Nat)(w:World)(hk:k<n)(hm:k<m)
  (K:w.cell? ⟨I,0,none⟩=some (.slice (some ⟨z,A,none⟩) n c)) (L:w.cell? ⟨l,0,none⟩=some (.slice (some ⟨D,F,none⟩) m d))
  (M:w.cell? ⟨z,A+k,none⟩=some (.int .u64 (x:Nat))) (N:w.cell? ⟨D,F+k,none⟩=some (.int .u64 (y:Nat)))
  (O:∀f,Below w.heap.size w f→Calls Tryz.prog 165 #[.int .u64 x,.int .u64 y] f fun r t=>r=.returned (.int .u64 (p:Nat))∧Below f.heap.size f t)
  (Q:∀f,Below w.heap.size w f→Calls Tryz.prog 239 #[.int .u64 s,.int .u64 p] f fun r t=>r=.returned (.int .u64 (o:Nat))∧Below f.heap.size f t):
  Calls Tryz.prog 238 #[.int .u64 s,.int .i64 k,.pointer (some ⟨I,0,none⟩),.pointer (some ⟨l,0,none⟩)] w fun e f=>e=.returned (.int .u64 (o:Nat))∧Below w.heap.size w f:=by
 have V:=aa O;have X:=aa Q
 have Y:(k:Int)<(n:Int):=by omega
 have Z:(k:Int)<(m:Int):=by omega
 have U:=aa (fun f (h:Below w.heap.size w f)=>(show Below w.heap.size w f∧f.cell? ⟨I,0,none⟩=some (.slice (some ⟨z,A,none⟩) n c)∧f.cell? ⟨l,0,none⟩=some (.slice (some ⟨D,F,none⟩) m d)∧f.cell? ⟨z,A+k,none⟩=some (.int .u64 (x:Nat))∧f.cell? ⟨D,F+k,none⟩=some (.int .u64 (y:Nat))from
  ⟨h,ah K h,ah L h,ah M h,ah N h⟩))
 clear O Q K L M N
 go_enter Tryz.func238,Tryz.ntmps238
 go_wp2_with fail
 go_region_held3(fun f=>Below w.heap.size w f∧f.cell? ⟨I,0,none⟩=some (.slice (some ⟨z,A,none⟩) n c)∧f.cell? ⟨l,0,none⟩=some (.slice (some ⟨D,F,none⟩) m d)∧f.cell? ⟨z,A+k,none⟩=some (.int .u64 (x:Nat))∧f.cell? ⟨D,F+k,none⟩=some (.int .u64 (y:Nat)))
  (first|exact uH U _ (Below.refl _ _).drew|exact uH U _ (by assumption)|fail "KK")
  (first|(go_at_call 165;refine(uH V _ (And.left (by assumption))).mono ?_;rintro e w1 ⟨rfl,G⟩;have ae:Below w.heap.size w w1:=Below.trans (And.left (by assumption)) (G.mono (Below.size (And.left (by assumption))));clear G)|(go_at_call 239;refine(uH X _ (And.left (by assumption))).mono ?_;rintro e w2 ⟨rfl,H⟩;have aj:Below w.heap.size w w2:=Below.trans (And.left (by assumption)) (H.mono (Below.size (And.left (by assumption))));clear H)|fail "NO ARM")
 go_wp2
 go_ret
 exact⟨rfl,And.left (by assumption)⟩
theorem Cc(x o k n c t bk:Nat)(j:Int)(f l:Nat)(w:World)(M:k<n)(N:-5000≤j∧j≤5000)
  (z:w.cell? ⟨t,0,none⟩=some (.slice (some ⟨f,l,none⟩) n c)) (A:w.cell? ⟨bk,0,none⟩=some (.int .i64 j))
  (D:w.cell? ⟨f,l+k,none⟩=some (.int .u64 (x:Nat)))
  (F:∀d,Below w.heap.size w d→Calls Tryz.prog 58 #[.int .u64 x,.int .i64 (-j)] d fun r y=>r=.returned (.int .u64 (o:Nat))∧Below d.heap.size d y):
  Calls Tryz.prog 287 #[.int .i64 k,.pointer (some ⟨t,0,none⟩),.pointer (some ⟨bk,0,none⟩)] w fun e d=>e=.returned (.int .u64 (o:Nat))∧Below w.heap.size w d:=by
 have H:=aa F
 have I:(k:Int)<(n:Int):=by omega
 have O:IntKind.i64.wrap (-j)= -j:=by simp only[IntKind.wrap_i64];omega
 have G:=aa (fun d (h:Below w.heap.size w d)=>(show Below w.heap.size w d∧d.cell? ⟨t,0,none⟩=some (.slice (some ⟨f,l,none⟩) n c)∧d.cell? ⟨f,l+k,none⟩=some (.int .u64 (x:Nat))∧d.cell? ⟨bk,0,none⟩=some (.int .i64 j)from
  ⟨h,ah z h,ah D h,ah A h⟩))
 clear F z D A
 go_enter Tryz.func287,Tryz.ntmps287
 go_wp2_with fail
 go_region_held3(fun d=>Below w.heap.size w d∧d.cell? ⟨t,0,none⟩=some (.slice (some ⟨f,l,none⟩) n c)∧d.cell? ⟨f,l+k,none⟩=some (.int .u64 (x:Nat))∧d.cell? ⟨bk,0,none⟩=some (.int .i64 j))
  (first|exact uH G _ (Below.refl _ _).drew|exact uH G _ (by assumption)|fail "KK")
  (first|(go_at_call 58;refine(uH H _ (And.left (by assumption))).mono ?_;rintro e L ⟨rfl,m⟩;have K:Below w.heap.size w L:=Below.trans (And.left (by assumption)) (m.mono (Below.size (And.left (by assumption))));clear m)|fail "NO ARM")
 go_wp2
 go_ret
 exact⟨rfl,And.left (by assumption)⟩
theorem s8(m x r o k n c y:Nat)(z A:Nat)(w:World)(K:k<n)
  (L:w.cell? ⟨y,0,none⟩=some (.slice (some ⟨z,A,none⟩) n c))
  (M:w.cell? ⟨z,A+k,none⟩=some (.int .u64 (x:Nat)))
  (D:∀d,Below w.heap.size w d→Calls Tryz.prog 63 #[.int .u64 x] d fun e f=>e=.returned (.int .u64 (r:Nat))∧Below d.heap.size d f)
  (F:∀d,Below w.heap.size w d→Calls Tryz.prog 115 #[.int .u64 m,.int .u64 r] d fun e f=>e=.returned (.int .u64 (o:Nat))∧Below d.heap.size d f):
  Calls Tryz.prog 114 #[.int .u64 m,.int .i64 k,.pointer (some ⟨y,0,none⟩)] w fun e d=>e=.returned (.int .u64 (o:Nat))∧Below w.heap.size w d:=by
 have G:=aa D;have H:=aa F
 have I:(k:Int)<(n:Int):=by omega
 clear D F
 go_enter Tryz.func114,Tryz.ntmps114
 go_wp2_with fail
 refine(uH G _ (Below.refl _ _)).mono ?_
 rintro e N ⟨rfl,h⟩
 have l:=aa h
 clear G h
 go_wp2_with fail
 refine(uH H _ (uH l)).mono ?_
 rintro e O ⟨rfl,t⟩
 clear H
 go_wp2
 go_ret
 exact⟨rfl,(uH l).trans (t.mono (uH l).size)⟩
theorem vx(q r:Bool)(x k n c l:Nat)(m t:Nat)(w:World)(D:k<n)
  (F:w.cell? ⟨l,0,none⟩=some (.slice (some ⟨m,t,none⟩) n c))
  (G:w.cell? ⟨m,t+k,none⟩=some (.int .u64 (x:Nat)))
  (y:∀d,Below w.heap.size w d→Calls Tryz.prog 111 #[.int .u64 x] d fun e f=>e=.returned (.bool r)∧Below d.heap.size d f):
  Calls Tryz.prog 194 #[.bool q,.int .i64 k,.pointer (some ⟨l,0,none⟩)] w fun e d=>e=.returned (.bool (q&&r))∧Below w.heap.size w d:=by
 have z:=aa y
 have A:(k:Int)<(n:Int):=by omega
 clear y
 cases q
 ·go_enter Tryz.func194,Tryz.ntmps194
  go_wp2
  go_ret
  exact⟨rfl,Below.refl _ _⟩
 ·go_enter Tryz.func194,Tryz.ntmps194
  go_wp2_with fail
  refine(uH z _ (Below.refl _ _)).mono ?_
  rintro e H ⟨rfl,h⟩
  clear z
  go_wp2
  go_ret
  exact⟨rfl,h⟩
theorem cU(w:World)(x:Value)(t:TypeId):(w.alloc (.cells #[x] t)).cell? ⟨w.heap.size,0,none⟩=some x:=by
 rw[cell_of_row _ _ 0 _ _ _ (heap_alloc_new w _)];rfl
theorem ad(w:World)(o:Obj):(w.alloc o).heap.size=w.heap.size+1:=by simp
theorem ab(w:World)(o:Obj):Below w.heap.size w (w.alloc o):=(Below.refl _ _).alloc (Nat.le_refl _) o
theorem ac.lt{w:World}{ao:Option Addr}{cap:Nat}{I:List Int}(h:ac w ao cap I)(j:Nat):aM I j<18446744073709551616:=(h.wf j).2
def iZ(I J:List Int):Nat→Nat
 |0=>0
 |k+1=>aV (iZ I J k) (mV (aM I k) (aM J k))
def jo(I:List Int):Nat→Nat
 |0=>0
 |k+1=>mx (jo I k) (fR (aM I k))
def fu(I:List Int):Nat→Bool
 |0=>true
 |k+1=>fu I k&&aC (aM I k)
theorem gX(I J:List Int)(k:Nat):iZ I J k<18446744073709551616:=by
 induction k with
 |zero=>show 0<18446744073709551616;omega
 |succ k ih=>exact kG _ _ ih (gp _ _)
theorem Jo(a b:Nat)(d:a<18446744073709551616)(f:b<18446744073709551616):mx a b<18446744073709551616:=by
 unfold mx
 repeat' split
 all_goals omega
theorem kg(I:List Int)(k:Nat):jo I k<18446744073709551616:=by
 induction k with
 |zero=>show 0<18446744073709551616;omega
 |succ k ih=>exact Jo _ _ ih (by have:=kE (aM I k);omega)
theorem Ic(ao l:Option Addr)(n m c d r:Nat)(w:World)
  (C:Calls Tryz.prog 113 #[.int .i64 n,.int .u64 0,.func (.func 238) #[] #[.pointer (some ⟨w.heap.size,0,none⟩),.pointer (some ⟨w.heap.size+1,0,none⟩)]] ((w.alloc (.cells #[.slice ao n c] 22)).alloc (.cells #[.slice l m d] 22)) fun e f=>e=.returned (.int .u64 (r:Nat))∧Below w.heap.size w f):
  Calls Tryz.prog 216 #[.slice ao n c,.slice l m d] w fun e t=>e=.returned (.int .u64 (r:Nat))∧Below w.heap.size w t:=by
 have K:=aa C
 clear C
 go_enter Tryz.func216,Tryz.ntmps216
 go_wp2_with fail
 refine Calls.mono (uH K) ?_
 rintro e y ⟨rfl,h⟩
 clear K
 go_wp2
 go_ret
 exact⟨rfl,h⟩
theorem Ie(d:Array Value)(w:World):(callFunc 238 d).run Tryz.prog w=.ok (.enter 238 d) w:=by
 simp only[callFunc,go_sem]
 rfl
theorem wZ(ao m:Option Addr)(c d:Nat)(I J:List Int)(w:World)(D:ac w ao c I)(F:ac w m d J)(hl:I.length=J.length)(O:I.length≤35184372088830)(Q:b7 w):
  Calls Tryz.prog 216 #[.slice ao I.length c,.slice m J.length d] w fun e t=>e=.returned (.int .u64 (iZ I J I.length:Nat))∧Below w.heap.size w t:=by
 refine Ic _ _ _ _ _ _ _ w ?_
 have G:=ab w (.cells #[.slice ao I.length c] 22)
 have U:=cU w (.slice ao I.length c) 22
 have V:=ad w (.cells #[.slice ao I.length c] 22)
 generalize w.alloc (.cells #[.slice ao I.length c] 22)=A at*
 have H:=ab A (.cells #[.slice m J.length d] 22)
 have K:=cU A (.slice m J.length d) 22
 have X:=ah U H
 generalize A.alloc (.cells #[.slice m J.length d] 22)=N at*
 have z:Below w.heap.size w N:=G.trans (H.mono G.size)
 rw[V]at K
 refine Calls.mono (ma 238 #[.pointer (some ⟨w.heap.size,0,none⟩),.pointer (some ⟨w.heap.size+1,0,none⟩)] I.length (iZ I J) N Ie O ?_) ?_
 ·intro t k y M
  have l:Below w.heap.size w t:=z.trans (y.mono z.size)
  obtain⟨Y,Z,e1,_,z1⟩:=(D.below l).ne (by omega)
  obtain⟨g2,o2,e2,_,z2⟩:=(F.below l).ne (by omega)
  have u1:=ah X y
  have u2:=ah K y
  rw[e1]at u1
  rw[e2]at u2
  have L:=Q.all l
  exact Fv (iZ I J k) (aM I k) (aM J k) (mV (aM I k) (aM J k)) (iZ I J (k+1)) k I.length J.length c d w.heap.size (w.heap.size+1) Y Z g2 o2 t M (by omega) u1 u2 (z1 k M) (z2 k (by omega))
   (fun f h=>kQ _ _ f (D.lt k) (F.lt k) (L.all h)) (fun f h=>BT _ _ f (gX I J k) (gp _ _) (L.all h))
 ·rintro e t ⟨rfl,y⟩
  exact⟨rfl,z.trans (y.mono z.size)⟩
theorem Fw(ao l:Option Addr)(n m c d r:Nat)(w:World)
  (F:∀h,Calls Tryz.prog 215 #[.slice ao n c,.slice l m d] h fun e f=>e=.returned (.bool true)∧h=f)
  (C:Calls Tryz.prog 216 #[.slice ao n c,.slice l m d] w fun e f=>e=.returned (.int .u64 (r:Nat))∧Below w.heap.size w f):
  Calls Tryz.prog 183 #[.slice ao n c,.slice l m d] w fun e h=>e=.returned (.tuple #[.int .u64 (r:Nat),.int .i64 0])∧Below w.heap.size w h:=by
 have K:=aa C;have L:=aa F
 clear C F
 go_enter Tryz.func183,Tryz.ntmps183
 go_wp2_with fail
 refine(uH L _).mono ?_
 rintro e y ⟨rfl,rfl⟩
 go_wp2_with fail
 refine Calls.mono (uH K) ?_
 rintro e y ⟨rfl,t⟩
 clear K L
 go_wp2
 exact bodyPost_ret (v:=.tuple #[.int .u64 (r:Nat),.int .i64 0]) (by simp[results,Tryz.results183,go_sem]) rfl ⟨rfl,t⟩
theorem Fx(ao l:Option Addr)(n m c d:Nat)(w:World)
  (F:∀f,Calls Tryz.prog 215 #[.slice ao n c,.slice l m d] f fun e h=>e=.returned (.bool false)∧f=h):
  Calls Tryz.prog 183 #[.slice ao n c,.slice l m d] w fun e f=>e=.returned (.tuple #[.int .u64 0,.int .i64 3])∧Below w.heap.size w f:=by
 have L:=aa F
 clear F
 go_enter Tryz.func183,Tryz.ntmps183
 go_wp2_with fail
 refine(uH L _).mono ?_
 rintro e t ⟨rfl,rfl⟩
 clear L
 go_wp2
 exact bodyPost_ret (v:=.tuple #[.int .u64 0,.int .i64 3]) (by simp[results,Tryz.results183,go_sem]) rfl ⟨rfl,Below.refl _ _⟩
def Ig(I J:List Int):Bool:=decide (I.length≤64∧I.length=J.length)
theorem s9(ao f:Option Addr)(c d:Nat)(I J:List Int)(w:World)(m:ac w ao c I)(t:ac w f d J)(y:b7 w):
  Calls Tryz.prog 183 #[.slice ao I.length c,.slice f J.length d] w fun e l=>e=.returned (.tuple #[.int .u64 (if Ig I J=true then iZ I J I.length else 0:Nat),.int .i64 (if Ig I J=true then 0 else 3)])∧Below w.heap.size w l:=by
 have F:=fun l=>BU ao f I.length J.length c d l
 cases h:Ig I J
 ·unfold Ig at h
  rw[h]at F
  exact Fx ao f _ _ c d w F
 ·unfold Ig at h
  rw[h]at F
  have z:=of_decide_eq_true h
  exact Fw ao f _ _ c d _ w F (wZ ao f c d I J w m t z.2 (by omega) y)
theorem aY.bits{w:World}{g:Nat}{S:List Nat}(h:aY w g S)(f:∀x∈S,x<18446744073709551616):ac w (some ⟨g,0,none⟩) S.length (S.map (fun x:Nat=>(x:Int))):=by
 refine⟨by simp,?_,.inr ⟨g,0,rfl,h.lt,fun i l=>?_⟩⟩
 ·intro x t
  obtain⟨y,m,rfl⟩:=List.mem_map.1 t
  have:=f y m
  omega
 ·have d:i<S.length:=by simpa using l
  rw[Nat.zero_add,h.cell i d]
  simp[d]
def IP(n:Nat)(f:Nat→Nat):List Int:=((List.range n).map f).map (fun x:Nat=>(x:Int))
theorem Fy(n:Nat)(f:Nat→Nat):(IP n f).length=n:=by simp[IP]
theorem Ce(n:Nat)(f:Nat→Nat)(j:Nat)(d:j<n):aM (IP n f) j=f j:=by simp[IP,aM,d]
theorem vy(d:Array Value)(w:World):(callFunc 114 d).run Tryz.prog w=.ok (.enter 114 d) w:=by
 simp only[callFunc,go_sem]
 rfl
theorem yS(d:Array Value)(w:World):(callFunc 194 d).run Tryz.prog w=.ok (.enter 194 d) w:=by
 simp only[callFunc,go_sem]
 rfl
theorem Fz(d:Array Value)(w:World):(callFunc 287 d).run Tryz.prog w=.ok (.enter 287 d) w:=by
 simp only[callFunc,go_sem]
 rfl
end Go.Proofs.YtlnphkioddknfaaGreatDoor
