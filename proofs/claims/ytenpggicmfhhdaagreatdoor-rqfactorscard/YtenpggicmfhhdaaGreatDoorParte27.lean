/- Part 27 of the texts. -/
import Derived.Test.YtenpggicmfhhdaaGreatDoorParte26
import Derived.Deep.OwnRows
set_option maxHeartbeats 4000000
set_option maxRecDepth 20000
namespace Go.Proofs.YtenpggicmfhhdaaGreatDoor
open Go.RowKit
def ab(w:World)(ao:Option Addr)(cap:Nat)(I:List Int):Prop:=
 I.length≤cap∧(∀x∈I,0≤x∧x≤18446744073709551615)∧(I= []∨∃b off,ao=some ⟨b,off,none⟩∧b<w.heap.size∧∀i,i<I.length→w.cell? ⟨b,off+i,none⟩=some (.int .u64 (I[i]?.getD 0)))
theorem ab.below{w l:World}{m:Option Addr}{d:Nat}{I:List Int}(h:ab w m d I)(t:Below w.heap.size w l):ab l m d I:=by
 refine⟨h.1,h.2.1,?_⟩
 rcases h.2.2 with h|⟨b,f,A,y,D⟩
 ·exact .inl h
 ·refine .inr ⟨b,f,A,Nat.lt_of_lt_of_le y t.size,fun i z=>?_⟩
  rw[t.cell (p:=⟨b,f+i,none⟩) y]
  exact D i z
def aP(I:List Int)(j:Nat):Nat:=(I[j]?.getD 0).toNat
theorem ab.wf{w:World}{l:Option Addr}{d:Nat}{I:List Int}(h:ab w l d I)(j:Nat):I[j]?.getD 0=(aP I j:Int)∧aP I j<18446744073709551616:=by
 unfold aP
 by_cases f:j<I.length
 ·have:=h.2.1 _ (List.getElem_mem f)
  rw[List.getElem?_eq_getElem f]
  simp only[Option.getD_some]
  omega
 ·rw[List.getElem?_eq_none (by omega)];simp
theorem ab.ne{w:World}{l:Option Addr}{f:Nat}{I:List Int}(h:ab w l f I)(m:0<I.length):∃b d,l=some ⟨b,d,none⟩∧b<w.heap.size∧∀i,i<I.length→w.cell? ⟨b,d+i,none⟩=some (.int .u64 (aP I i:Int)):=by
 rcases h.2.2 with e|⟨b,d,y,z,A⟩
 ·rw[e]at m;simp at m
 ·exact⟨b,d,y,z,fun i t=>by rw[A i t,(h.wf i).1]⟩
theorem zp(a b:Nat)(w:World)(h:a<18446744073709551616)(l:b<18446744073709551616)(m:cd w):
  Calls Tryz.prog 157 #[.int .u64 a,.int .u64 b] w fun r t=>r=.returned (.int .u64 (aV a b:Nat))∧Below w.heap.size w t:=by
 have K:=aa (rl a b w h l m)
 clear h l m
 generalize aV a b=o at*
 generalize aF a b=f at*
 go_enter Tryz.func157,Tryz.ntmps157
 go_wp2_with fail
 refine Calls.mono (uH K) ?_
 rintro e y ⟨rfl,d⟩
 clear K
 go_wp2
 go_ret
 exact⟨rfl,d⟩
theorem mO(a b:Nat)(w:World)(h:a<18446744073709551616)(l:b<18446744073709551616)(m:cd w):
  Calls Tryz.prog 116 #[.int .u64 a,.int .u64 b] w fun r t=>r=.returned (.int .u64 (mV a b:Nat))∧Below w.heap.size w t:=by
 have K:=aa (yS a b w h l m)
 clear h l m
 generalize mV a b=o at*
 generalize mF a b=f at*
 go_enter Tryz.func116,Tryz.ntmps116
 go_wp2_with fail
 refine Calls.mono (uH K) ?_
 rintro e y ⟨rfl,d⟩
 clear K
 go_wp2
 go_ret
 exact⟨rfl,d⟩
theorem mP(a:Nat)(n:Int)(w:World)(h:a<18446744073709551616)(l:cd w):
  Calls Tryz.prog 130 #[.int .u64 a,.int .i64 n] w fun r m=>r=.returned (.int .u64 (xV a n:Nat))∧Below w.heap.size w m:=by
 have K:=aa (sZ a n w h l)
 clear h l
 generalize xV a n=o at*
 generalize xF a n=f at*
 go_enter Tryz.func130,Tryz.ntmps130
 go_wp2_with fail
 refine Calls.mono (uH K) ?_
 rintro e t ⟨rfl,d⟩
 clear K
 go_wp2
 go_ret
 exact⟨rfl,d⟩
theorem zq(y z:Option Addr)(n m c d:Nat)(w:World):
  Calls Tryz.prog 141 #[.slice y n c,.slice z m d] w fun r A=>r=.returned (.bool (decide (n≤64∧n=m)))∧w=A:=by
 by_cases t:n≤64
 ·have f:(n:Int)≤64:=by omega
  by_cases l:n=m
  ·rw[decide_eq_true (And.intro t l)]
   subst l
   go_enter Tryz.func141,Tryz.ntmps141
   go_wp2
   go_ret
   exact⟨rfl,rfl⟩
  ·rw[decide_eq_false (fun h=>l h.2)]
   have D:decide ((n:Int)=(m:Int))=false:=decide_eq_false (by omega)
   go_enter Tryz.func141,Tryz.ntmps141
   go_wp2
   go_ret
   exact⟨by simp;omega,rfl⟩
 ·rw[decide_eq_false (fun h=>t h.1)]
  have f:(64:Int)<(n:Int):=by omega
  go_enter Tryz.func141,Tryz.ntmps141
  go_wp2
  go_ret
  exact⟨by simp,rfl⟩
theorem gu(b:Nat)(w:World)(_h:b<18446744073709551616):
  Calls Tryz.prog 86 #[.int .u64 b] w fun r d=>r=.returned (.float .f64 b)∧w=d:=by
 have hF:=fun W=>dI b W
 have f:IntKind.u64.wrap (b:Int)=(b:Int):=by simp only[IntKind.wrap_u64];omega
 go_enter Tryz.func86,Tryz.ntmps86
 go_wp2
 go_ret
 exact⟨rfl,rfl⟩
theorem oW(R v:Nat)(w:World)(C:∀d,Calls Tryz.prog 105 #[.int .u64 (R:Nat)] d fun r f=>r=.returned (.int .u64 (v:Nat))∧d=f):
  Calls Tryz.prog 85 #[.float .f64 R] w fun r d=>r=.returned (.int .u64 (v:Nat))∧w=d:=by
 have K:=aa C
 have h:=fun R W=>jZ R W
 clear C
 go_enter Tryz.func85,Tryz.ntmps85
 go_wp2_with fail
 refine(uH K _).mono ?_
 rintro e l ⟨rfl,rfl⟩
 clear K
 go_wp2
 go_ret
 exact⟨rfl,rfl⟩
theorem zr(a b v:Nat)(o:Option Nat)(w:World)
  (D:∀i d,(binOp .add i (.float .f64 a) (.float .f64 b)).run Tryz.prog d=.ok (.float .f64 (e9 o a b d)) (kD o d))
  (h:∀d,Calls Tryz.prog 86 #[.int .u64 a] d fun r f=>r=.returned (.float .f64 a)∧d=f)
  (l:∀d,Calls Tryz.prog 86 #[.int .u64 b] d fun r f=>r=.returned (.float .f64 b)∧d=f)
  (m:∀u d,Calls Tryz.prog 85 #[.float .f64 (e9 o a b u)] d fun r f=>r=.returned (.int .u64 v)∧d=f):
  Calls Tryz.prog 83 #[.int .u64 a,.int .u64 b] w fun r d=>r=.returned (.int .u64 (v:Nat))∧Below w.heap.size w d:=by
 have t:=aa h;have y:=aa l;have z:=aa m
 have B:=aa (fU o w)
 clear h l m
 go_enter Tryz.func83,Tryz.ntmps83
 go_wp2_with fail
 refine(uH t _).mono ?_
 rintro e A ⟨rfl,rfl⟩
 go_wp2_with fail
 refine(uH y _).mono ?_
 rintro e A ⟨rfl,rfl⟩
 go_wp2_with fail
 refine(uH z _ _).mono ?_
 rintro e A ⟨rfl,rfl⟩
 clear t y z
 go_wp2
 go_ret
 exact⟨rfl,uH B⟩
theorem oX(a b:Nat)(w:World)(h:a<18446744073709551616)(l:b<18446744073709551616):
  Calls Tryz.prog 83 #[.int .u64 a,.int .u64 b] w fun r d=>r=.returned (.int .u64 (aV a b:Nat))∧Below w.heap.size w d:=
 zr a b (aV a b) (Ieee.double.add a b) w (fun i d=>yW i a b d) (fun d=>gu a d h) (fun d=>gu b d l) (fun u d=>oW _ _ d (fun f=>oT a b u f h l))
theorem zt(a b v:Nat)(o:Option Nat)(w:World)
  (D:∀i d,(binOp .mul i (.float .f64 a) (.float .f64 b)).run Tryz.prog d=.ok (.float .f64 (e9 o a b d)) (kD o d))
  (h:∀d,Calls Tryz.prog 86 #[.int .u64 a] d fun r f=>r=.returned (.float .f64 a)∧d=f)
  (l:∀d,Calls Tryz.prog 86 #[.int .u64 b] d fun r f=>r=.returned (.float .f64 b)∧d=f)
  (m:∀u d,Calls Tryz.prog 85 #[.float .f64 (e9 o a b u)] d fun r f=>r=.returned (.int .u64 v)∧d=f):
  Calls Tryz.prog 65 #[.int .u64 a,.int .u64 b] w fun r d=>r=.returned (.int .u64 (v:Nat))∧Below w.heap.size w d:=by
 have t:=aa h;have y:=aa l;have z:=aa m
 have B:=aa (fU o w)
 clear h l m
 go_enter Tryz.func65,Tryz.ntmps65
 go_wp2_with fail
 refine(uH t _).mono ?_
 rintro e A ⟨rfl,rfl⟩
 go_wp2_with fail
 refine(uH y _).mono ?_
 rintro e A ⟨rfl,rfl⟩
 go_wp2_with fail
 refine(uH z _ _).mono ?_
 rintro e A ⟨rfl,rfl⟩
 clear t y z
 go_wp2
 go_ret
 exact⟨rfl,uH B⟩
theorem i9(a b:Nat)(w:World)(h:a<18446744073709551616)(l:b<18446744073709551616):
  Calls Tryz.prog 65 #[.int .u64 a,.int .u64 b] w fun r d=>r=.returned (.int .u64 (mV a b:Nat))∧Below w.heap.size w d:=
 zt a b (mV a b) (Ieee.double.mul a b) w (fun i d=>ru i a b d) (fun d=>gu a d h) (fun d=>gu b d l) (fun u d=>oW _ _ d (fun f=>v4 a b u f h l))
theorem wA(a v:Nat)(o:Option Nat)(w:World)
  (h:∀f,Calls Tryz.prog 86 #[.int .u64 a] f fun r d=>r=.returned (.float .f64 a)∧f=d)
  (l:∀f,Calls Tryz.prog 104 #[.float .f64 a] f fun r d=>r=.returned (.float .f64 (e9 o a a f))∧d=kD o f)
  (m:∀u f,Calls Tryz.prog 85 #[.float .f64 (e9 o a a u)] f fun r d=>r=.returned (.int .u64 v)∧f=d):
  Calls Tryz.prog 84 #[.int .u64 a] w fun r f=>r=.returned (.int .u64 (v:Nat))∧Below w.heap.size w f:=by
 have t:=aa h;have y:=aa l;have z:=aa m
 have B:=aa (fU o w)
 clear h l m
 go_enter Tryz.func84,Tryz.ntmps84
 go_wp2_with fail
 refine(uH t _).mono ?_
 rintro e A ⟨rfl,rfl⟩
 go_wp2_with fail
 refine(uH y _).mono ?_
 rintro e A ⟨rfl,rfl⟩
 go_wp2_with fail
 refine(uH z _ _).mono ?_
 rintro e A ⟨rfl,rfl⟩
 clear t y z
 go_wp2
 go_ret
 exact⟨rfl,uH B⟩
theorem tt(a:Nat)(w:World)(h:a<18446744073709551616):
  Calls Tryz.prog 84 #[.int .u64 a] w fun r d=>r=.returned (.int .u64 (sV a:Nat))∧Below w.heap.size w d:=
 wA a (sV a) (Ieee.double.sqrt a) w (fun d=>gu a d h) (fun d=>wz a _ d (fun W=>wy a W)) (fun u d=>oW _ _ d (fun f=>tr a u f h))
theorem tu(a l v:Nat)(n:Int)(w:World)
  (h:∀f,Calls Tryz.prog 86 #[.int .u64 a] f fun r d=>r=.returned (.float .f64 a)∧f=d)
  (m:∀f,Calls Tryz.prog 103 #[.float .f64 a,.int .i64 n] f fun r d=>r=.returned (.float .f64 l)∧f=d)
  (t:∀f,Calls Tryz.prog 85 #[.float .f64 l] f fun r d=>r=.returned (.int .u64 v)∧f=d):
  Calls Tryz.prog 82 #[.int .u64 a,.int .i64 n] w fun r f=>r=.returned (.int .u64 (v:Nat))∧Below w.heap.size w f:=by
 have y:=aa h;have z:=aa m;have A:=aa t
 clear h m t
 go_enter Tryz.func82,Tryz.ntmps82
 go_wp2_with fail
 refine(uH y _).mono ?_
 rintro e D ⟨rfl,rfl⟩
 go_wp2_with fail
 refine(uH z _).mono ?_
 rintro e D ⟨rfl,rfl⟩
 go_wp2_with fail
 refine(uH A _).mono ?_
 rintro e D ⟨rfl,rfl⟩
 clear y z A
 go_wp2
 go_ret
 exact⟨rfl,Below.refl _ _⟩
theorem kU(a:Nat)(n:Int)(w:World)(f:a<18446744073709551616)(l:-5000≤n∧n≤5000):
  Calls Tryz.prog 82 #[.int .u64 a,.int .i64 n] w fun r d=>r=.returned (.int .u64 (xV a n:Nat))∧Below w.heap.size w d:=
 tu a (lV a n) (xV a n) n w (fun d=>gu a d f) (fun d=>wo a n d f l) (fun d=>oW _ _ d (fun h=>zi a n h f))
theorem kV(A:Nat)(l:Array Value)(n:Nat)(f:Nat→Nat)(w:World)
  (K:∀y w,(callFunc A y).run Tryz.prog w=.ok (.enter A y) w) (T:n≤35184372088830)
  (d:∀m k,Below w.heap.size w m→k<n→Calls Tryz.prog A (#[.int .u64 (f k:Nat),.int .i64 (k:Nat)]++l) m fun e F=>e=.returned (.int .u64 (f (k+1):Nat))∧Below m.heap.size m F):
  Calls Tryz.prog 88 #[.int .i64 n,.int .u64 (f 0:Nat),.func (.func A) #[] l] w fun e m=>e=.returned (.int .u64 (f n:Nat))∧Below w.heap.size w m:=by
 have L:=aa d
 clear d
 go_enter Tryz.func88,Tryz.ntmps88
 go_wp2_with fail
 go_loopw[7,11] (fun t i wr=>∃k:Nat,k≤n∧i=.int .i64 k∧t=.int .u64 (f k:Nat)∧Hid (Below w.heap.size w wr)) (fun _ i _=>n-(intOf i).toNat)
 case atStart=>exact⟨0,Nat.zero_le _,rfl,rfl,Below.refl _ _⟩
 case round=>
  obtain⟨k,U,rfl,rfl,D⟩:=hrel
  by_cases G:k<n
  ·have M:(k:Int)<(n:Int):=by omega
   have C:=aa (fun m h=>uH L m k h G)
   obtain⟨o,I⟩:∃o,f (k+1)=o:=⟨_,rfl⟩
   rw[I]at C
   have N:=aa I
   clear I
   go_wp2_with fail
   refine(uH C _ D.out).mono ?_
   rintro e Q ⟨rfl,z⟩
   have O:Hid (Below w.heap.size w Q):=D.out.trans (z.mono D.out.size)
   clear z C
   go_wp2_with fail
   go_round
   case rel=>exact⟨k+1,by omega,by go_num,by rw[uH N],O⟩
   case measure=>simp[intOf];omega
  ·have H:k=n:=by omega
   subst H
   go_wp2_with fail
   exact bodyPost_ret (v:=.int .u64 (f k:Nat)) (by simp[results,Tryz.results88,go_sem]) rfl ⟨rfl,D.out⟩
theorem rB(A:Nat)(l:Array Value)(n:Nat)(f:Nat→Bool)(w:World)
  (K:∀y w,(callFunc A y).run Tryz.prog w=.ok (.enter A y) w) (T:n≤35184372088830)
  (d:∀m k,Below w.heap.size w m→k<n→Calls Tryz.prog A (#[.bool (f k),.int .i64 (k:Nat)]++l) m fun e F=>e=.returned (.bool (f (k+1)))∧Below m.heap.size m F):
  Calls Tryz.prog 55 #[.int .i64 n,.bool (f 0),.func (.func A) #[] l] w fun e m=>e=.returned (.bool (f n))∧Below w.heap.size w m:=by
 have L:=aa d
 clear d
 go_enter Tryz.func55,Tryz.ntmps55
 go_wp2_with fail
 go_loopw[7,11] (fun t i wr=>∃k:Nat,k≤n∧i=.int .i64 k∧t=.bool (f k)∧Hid (Below w.heap.size w wr)) (fun _ i _=>n-(intOf i).toNat)
 case atStart=>exact⟨0,Nat.zero_le _,rfl,rfl,Below.refl _ _⟩
 case round=>
  obtain⟨k,U,rfl,rfl,D⟩:=hrel
  by_cases G:k<n
  ·have M:(k:Int)<(n:Int):=by omega
   have C:=aa (fun m h=>uH L m k h G)
   obtain⟨o,I⟩:∃o,f (k+1)=o:=⟨_,rfl⟩
   rw[I]at C
   have N:=aa I
   clear I
   go_wp2_with fail
   refine(uH C _ D.out).mono ?_
   rintro e Q ⟨rfl,z⟩
   have O:Hid (Below w.heap.size w Q):=D.out.trans (z.mono D.out.size)
   clear z C
   go_wp2_with fail
   go_round
   case rel=>exact⟨k+1,by omega,by go_num,by rw[uH N],O⟩
   case measure=>simp[intOf];omega
  ·have H:k=n:=by omega
   subst H
   go_wp2_with fail
   exact bodyPost_ret (v:=.bool (f k)) (by simp[results,Tryz.results55,go_sem]) rfl ⟨rfl,D.out⟩
def fY(x:Nat):Value:=.int .u64 (x:Int)
def bT(w:World)(g:Nat)(S:List Nat):Prop:=w.heap[g]? =some (.cells (S.map fY).toArray 30 (0,0))
theorem bT.cell{w:World}{g:Nat}{S:List Nat}(h:bT w g S)(j:Nat)(d:j<S.length):w.cell? ⟨g,j,none⟩=some (.int .u64 ((S[j]?.getD 0:Nat):Int)):=by
 rw[cell_of_row w g j _ _ _ h]
 simp[fY,d]
theorem bT.free{w:World}{g:Nat}{S:List Nat}(h:bT w g S)(j:Nat):w.frozen? ⟨g,j,none⟩=false:=frozen_of_row w g j _ _ h
theorem bT.set{w:World}{g:Nat}{S:List Nat}(h:bT w g S)(j x:Nat):bT (w.setCell ⟨g,j,none⟩ (.int .u64 (x:Int))) g (S.set j x):=by
 unfold bT
 rw[heap_setCell_same w g j _ _ _ h]
 simp[fY,List.map_set]
theorem bT.lt{w:World}{g:Nat}{S:List Nat}(h:bT w g S):g<w.heap.size:=(Array.getElem?_eq_some_iff.1 h).1
theorem bT.below{w d:World}{g:Nat}{S:List Nat}(h:bT w g S){B:Nat}(f:Below B w d)(l:g<B):bT d g S:=by
 unfold bT;rw[f.block g l];exact h
theorem bT.made(w:World)(n:Nat):bT (w.alloc (.cells (madeCells #[.int .u64 0] n) 30)) w.heap.size (List.replicate n 0):=by
 unfold bT
 rw[heap_alloc_new w _]
 have:madeCells #[Value.int .u64 0] n=((List.replicate n 0).map fY).toArray:=by
  apply Array.toList_inj.1
  refine List.ext_getElem (by simp[madeCells]) fun i d f=>?_
  simp[madeCells,fY,Nat.mod_one]
 rw[this]
def AR(f:Nat→Nat)(n k:Nat):List Nat:=(List.range n).map (fun j=>if j<k then f j else 0)
theorem Gg(f:Nat→Nat)(n:Nat):AR f n 0=List.replicate n 0:=by
 unfold AR
 refine List.ext_getElem (by simp) fun i d h=>?_
 simp
theorem Dg(f:Nat→Nat)(n k:Nat):(AR f n k).length=n:=by simp[AR]
theorem Dh(f:Nat→Nat)(n k:Nat):(AR f n k).set k (f k)=AR f n (k+1):=by
 unfold AR
 refine List.ext_getElem (by simp) fun i l m=>?_
 rw[List.getElem_set]
 simp only[List.getElem_map,List.getElem_range]
 by_cases h:k=i
 ·subst h;simp
 ·rw[if_neg h]
  by_cases d:i<k
  ·rw[if_pos d,if_pos (by omega)]
  ·rw[if_neg d,if_neg (by omega)]
theorem zu(f:Nat→Nat)(n:Nat):AR f n n=(List.range n).map f:=by
 unfold AR
 refine List.ext_getElem (by simp) fun i h d=>?_
 simp only[List.getElem_map,List.getElem_range]
 rw[if_pos (by simpa using d)]
theorem zv(F:Nat)(t:Array Value)(n:Nat)(f:Nat→Nat)(w:World)
  (Q:∀y w,(callFunc F y).run Tryz.prog w=.ok (.enter F y) w) (hn:n≤35184372088830)
  (d:∀l k,Below w.heap.size w l→k<n→Calls Tryz.prog F (#[.int .i64 (k:Nat)]++t) l fun e H=>e=.returned (.int .u64 (f k:Nat))∧Below l.heap.size l H):
  Calls Tryz.prog 128 #[.int .i64 n,.func (.func F) #[] t] w fun e l=>∃g,e=.returned (.slice (some ⟨g,0,none⟩) n n)∧w.heap.size≤g∧bT l g ((List.range n).map f)∧Below w.heap.size w l:=by
 have T:=aa d
 have I:=run_make_row' (P:=Tryz.prog) 22 30 (.int .u64 0) 8 Tryz.underlying22 (by kernel_rfl) rfl .i64 .i64 n (by omega) (by omega)
 have M:=aa (bT.made w n)
 have N:=aa ((Below.refl w.heap.size w).alloc (Nat.le_refl _) (.cells (madeCells #[.int .u64 0] n) 30))
 clear d
 go_enter Tryz.func128,Tryz.ntmps128
 go_wp2_with fail
 clear I
 go_loopw[10] (fun i wr=>∃k:Nat,k≤n∧i=.int .i64 k∧Hid (bT wr w.heap.size (AR f n k))∧Hid (Below w.heap.size w wr)) (fun i _=>n-(intOf i).toNat)
 case atStart=>exact⟨0,Nat.zero_le _,rfl,by rw[Gg];exact M,N⟩
 case round=>
  clear M N
  obtain⟨k,hk,rfl,G,D⟩:=hrel
  by_cases A:k<n
  ·have U:(k:Int)<(n:Int):=by omega
   have C:=aa (fun l h=>uH T l k h A)
   obtain⟨o,L⟩:∃o,f k=o:=⟨_,rfl⟩
   rw[L]at C
   have V:=aa L
   clear L
   go_wp2_with fail
   refine(uH C _ D.out).mono ?_
   rintro e Z ⟨rfl,z⟩
   have m:=(uH G).below z (uH G).lt
   have c0:=m.cell k (by rw[Dg];exact A)
   have f0:=m.free k
   have X:=aa (m.set k o)
   have O:Below w.heap.size w Z:=D.out.trans (z.mono D.out.size)
   have Y:=aa (O.setCell (p:=⟨w.heap.size,k,none⟩) (Nat.le_refl _) (.int .u64 (o:Int)))
   clear z C G D O m
   go_wp2_with fail
   go_round
   case rel=>exact⟨k+1,by omega,by go_num,by rw[←Dh,uH V];exact X,Y⟩
   case measure=>simp[intOf];omega
  ·have K:k=n:=by omega
   subst K
   go_wp2_with fail
   exact bodyPost_ret (v:=.slice (some ⟨w.heap.size,0,none⟩) k k) (by simp[results,Tryz.results128,go_sem]) rfl ⟨_,rfl,Nat.le_refl _,by rw[←zu];exact uH G,D.out⟩
attribute [local go_sem ↓] Go.wp_at_zero Go.wp_at_succ
theorem ag{w d:World}{p:Addr}{v:Value}(h:w.cell? p=some v)(f:Below w.heap.size w d):d.cell? p=some v:=by
 rw[f.cell (World.block_lt_of_cell? w _ h)];exact h
theorem Di(s x y p o k n m c d I l:Nat)(z A D F:Nat)(w:World)(hk:k<n)(hm:k<m)
  (K:w.cell? ⟨I,0,none⟩=some (.slice (some ⟨z,A,none⟩) n c)) (L:w.cell? ⟨l,0,none⟩=some (.slice (some ⟨D,F,none⟩) m d))
  (M:w.cell? ⟨z,A+k,none⟩=some (.int .u64 (x:Nat))) (N:w.cell? ⟨D,F+k,none⟩=some (.int .u64 (y:Nat)))
  (O:∀f,Below w.heap.size w f→Calls Tryz.prog 116 #[.int .u64 x,.int .u64 y] f fun r t=>r=.returned (.int .u64 (p:Nat))∧Below f.heap.size f t)
  (Q:∀f,Below w.heap.size w f→Calls Tryz.prog 157 #[.int .u64 s,.int .u64 p] f fun r t=>r=.returned (.int .u64 (o:Nat))∧Below f.heap.size f t):
  Calls Tryz.prog 156 #[.int .u64 s,.int .i64 k,.pointer (some ⟨I,0,none⟩),.pointer (some ⟨l,0,none⟩)] w fun e f=>e=.returned (.int .u64 (o:Nat))∧Below w.heap.size w f:=by
 have U:=aa O;have V:=aa Q
 have X:(k:Int)<(n:Int):=by omega
 have Y:(k:Int)<(m:Int):=by omega
 have T:=aa (fun f (h:Below w.heap.size w f)=>(show Below w.heap.size w f∧f.cell? ⟨I,0,none⟩=some (.slice (some ⟨z,A,none⟩) n c)∧f.cell? ⟨l,0,none⟩=some (.slice (some ⟨D,F,none⟩) m d)∧f.cell? ⟨z,A+k,none⟩=some (.int .u64 (x:Nat))∧f.cell? ⟨D,F+k,none⟩=some (.int .u64 (y:Nat))from
  ⟨h,ag K h,ag L h,ag M h,ag N h⟩))
 clear O Q K L M N
 go_enter Tryz.func156,Tryz.ntmps156
 go_wp2_with fail
 go_region_held3(fun f=>Below w.heap.size w f∧f.cell? ⟨I,0,none⟩=some (.slice (some ⟨z,A,none⟩) n c)∧f.cell? ⟨l,0,none⟩=some (.slice (some ⟨D,F,none⟩) m d)∧f.cell? ⟨z,A+k,none⟩=some (.int .u64 (x:Nat))∧f.cell? ⟨D,F+k,none⟩=some (.int .u64 (y:Nat)))
  (first|exact uH T _ (Below.refl _ _).drew|exact uH T _ (by assumption)|fail "KK")
  (first|(go_at_call 116;refine(uH U _ (And.left (by assumption))).mono ?_;rintro e w1 ⟨rfl,G⟩;have Z:Below w.heap.size w w1:=Below.trans (And.left (by assumption)) (G.mono (Below.size (And.left (by assumption))));clear G)|(go_at_call 157;refine(uH V _ (And.left (by assumption))).mono ?_;rintro e w2 ⟨rfl,H⟩;have ae:Below w.heap.size w w2:=Below.trans (And.left (by assumption)) (H.mono (Below.size (And.left (by assumption))));clear H)|fail "NO ARM")
 go_wp2
 go_ret
 exact⟨rfl,And.left (by assumption)⟩
theorem zw(x o k n c t bk:Nat)(j:Int)(f l:Nat)(w:World)(M:k<n)(N:-5000≤j∧j≤5000)
  (z:w.cell? ⟨t,0,none⟩=some (.slice (some ⟨f,l,none⟩) n c)) (A:w.cell? ⟨bk,0,none⟩=some (.int .i64 j))
  (D:w.cell? ⟨f,l+k,none⟩=some (.int .u64 (x:Nat)))
  (F:∀d,Below w.heap.size w d→Calls Tryz.prog 130 #[.int .u64 x,.int .i64 (-j)] d fun r y=>r=.returned (.int .u64 (o:Nat))∧Below d.heap.size d y):
  Calls Tryz.prog 129 #[.int .i64 k,.pointer (some ⟨t,0,none⟩),.pointer (some ⟨bk,0,none⟩)] w fun e d=>e=.returned (.int .u64 (o:Nat))∧Below w.heap.size w d:=by
 have H:=aa F
 have I:(k:Int)<(n:Int):=by omega
 have O:IntKind.i64.wrap (-j)= -j:=by simp only[IntKind.wrap_i64];omega
 have G:=aa (fun d (h:Below w.heap.size w d)=>(show Below w.heap.size w d∧d.cell? ⟨t,0,none⟩=some (.slice (some ⟨f,l,none⟩) n c)∧d.cell? ⟨f,l+k,none⟩=some (.int .u64 (x:Nat))∧d.cell? ⟨bk,0,none⟩=some (.int .i64 j)from
  ⟨h,ag z h,ag D h,ag A h⟩))
 clear F z D A
 go_enter Tryz.func129,Tryz.ntmps129
 go_wp2_with fail
 go_region_held3(fun d=>Below w.heap.size w d∧d.cell? ⟨t,0,none⟩=some (.slice (some ⟨f,l,none⟩) n c)∧d.cell? ⟨f,l+k,none⟩=some (.int .u64 (x:Nat))∧d.cell? ⟨bk,0,none⟩=some (.int .i64 j))
  (first|exact uH G _ (Below.refl _ _).drew|exact uH G _ (by assumption)|fail "KK")
  (first|(go_at_call 130;refine(uH H _ (And.left (by assumption))).mono ?_;rintro e L ⟨rfl,m⟩;have K:Below w.heap.size w L:=Below.trans (And.left (by assumption)) (m.mono (Below.size (And.left (by assumption))));clear m)|fail "NO ARM")
 go_wp2
 go_ret
 exact⟨rfl,And.left (by assumption)⟩
theorem rC(m x r o k n c y:Nat)(z A:Nat)(w:World)(K:k<n)
  (L:w.cell? ⟨y,0,none⟩=some (.slice (some ⟨z,A,none⟩) n c))
  (M:w.cell? ⟨z,A+k,none⟩=some (.int .u64 (x:Nat)))
  (D:∀d,Below w.heap.size w d→Calls Tryz.prog 91 #[.int .u64 x] d fun e f=>e=.returned (.int .u64 (r:Nat))∧Below d.heap.size d f)
  (F:∀d,Below w.heap.size w d→Calls Tryz.prog 90 #[.int .u64 m,.int .u64 r] d fun e f=>e=.returned (.int .u64 (o:Nat))∧Below d.heap.size d f):
  Calls Tryz.prog 89 #[.int .u64 m,.int .i64 k,.pointer (some ⟨y,0,none⟩)] w fun e d=>e=.returned (.int .u64 (o:Nat))∧Below w.heap.size w d:=by
 have G:=aa D;have H:=aa F
 have I:(k:Int)<(n:Int):=by omega
 clear D F
 go_enter Tryz.func89,Tryz.ntmps89
 go_wp2_with fail
 refine(uH G _ (Below.refl _ _)).mono ?_
 rintro e N ⟨rfl,h⟩
 have l:=aa h
 clear G h
 go_wp2_with fail
 refine(uH H _ (uH l)).mono ?_
 rintro e O ⟨rfl,t⟩
 clear H
 go_wp2
 go_ret
 exact⟨rfl,(uH l).trans (t.mono (uH l).size)⟩
theorem tw(q r:Bool)(x k n c l:Nat)(m t:Nat)(w:World)(D:k<n)
  (F:w.cell? ⟨l,0,none⟩=some (.slice (some ⟨m,t,none⟩) n c))
  (G:w.cell? ⟨m,t+k,none⟩=some (.int .u64 (x:Nat)))
  (y:∀d,Below w.heap.size w d→Calls Tryz.prog 49 #[.int .u64 x] d fun e f=>e=.returned (.bool r)∧Below d.heap.size d f):
  Calls Tryz.prog 56 #[.bool q,.int .i64 k,.pointer (some ⟨l,0,none⟩)] w fun e d=>e=.returned (.bool (q&&r))∧Below w.heap.size w d:=by
 have z:=aa y
 have A:(k:Int)<(n:Int):=by omega
 clear y
 cases q
 ·go_enter Tryz.func56,Tryz.ntmps56
  go_wp2
  go_ret
  exact⟨rfl,Below.refl _ _⟩
 ·go_enter Tryz.func56,Tryz.ntmps56
  go_wp2_with fail
  refine(uH z _ (Below.refl _ _)).mono ?_
  rintro e H ⟨rfl,h⟩
  clear z
  go_wp2
  go_ret
  exact⟨rfl,h⟩
theorem cD(w:World)(x:Value)(t:TypeId):(w.alloc (.cells #[x] t)).cell? ⟨w.heap.size,0,none⟩=some x:=by
 rw[cell_of_row _ _ 0 _ _ _ (heap_alloc_new w _)];rfl
theorem ai(w:World)(o:Obj):(w.alloc o).heap.size=w.heap.size+1:=by simp
theorem ac(w:World)(o:Obj):Below w.heap.size w (w.alloc o):=(Below.refl _ _).alloc (Nat.le_refl _) o
theorem ab.lt{w:World}{f:Option Addr}{d:Nat}{I:List Int}(h:ab w f d I)(j:Nat):aP I j<18446744073709551616:=(h.wf j).2
def jl(I J:List Int):Nat→Nat
 |0=>0
 |k+1=>aV (jl I J k) (mV (aP I k) (aP J k))
def ja(I:List Int):Nat→Nat
 |0=>0
 |k+1=>mx (ja I k) (fR (aP I k))
def fu(I:List Int):Nat→Bool
 |0=>true
 |k+1=>fu I k&&aD (aP I k)
theorem ia(I J:List Int)(k:Nat):jl I J k<18446744073709551616:=by
 induction k with
 |zero=>show 0<18446744073709551616;omega
 |succ k ih=>exact mn _ _ ih (iB _ _)
theorem Gh(a b:Nat)(d:a<18446744073709551616)(f:b<18446744073709551616):mx a b<18446744073709551616:=by
 unfold mx
 repeat' split
 all_goals omega
theorem mQ(I:List Int)(k:Nat):ja I k<18446744073709551616:=by
 induction k with
 |zero=>show 0<18446744073709551616;omega
 |succ k ih=>exact Gh _ _ ih (by have:=jV (aP I k);omega)
theorem Fg(l t:Option Addr)(n m c d r:Nat)(w:World)
  (C:Calls Tryz.prog 88 #[.int .i64 n,.int .u64 0,.func (.func 156) #[] #[.pointer (some ⟨w.heap.size,0,none⟩),.pointer (some ⟨w.heap.size+1,0,none⟩)]] ((w.alloc (.cells #[.slice l n c] 22)).alloc (.cells #[.slice t m d] 22)) fun e f=>e=.returned (.int .u64 (r:Nat))∧Below w.heap.size w f):
  Calls Tryz.prog 132 #[.slice l n c,.slice t m d] w fun e y=>e=.returned (.int .u64 (r:Nat))∧Below w.heap.size w y:=by
 have K:=aa C
 clear C
 go_enter Tryz.func132,Tryz.ntmps132
 go_wp2_with fail
 refine Calls.mono (uH K) ?_
 rintro e z ⟨rfl,h⟩
 clear K
 go_wp2
 go_ret
 exact⟨rfl,h⟩
theorem Fh(d:Array Value)(w:World):(callFunc 156 d).run Tryz.prog w=.ok (.enter 156 d) w:=by
 simp only[callFunc,go_sem]
 rfl
theorem uQ(m t:Option Addr)(c d:Nat)(I J:List Int)(w:World)(F:ab w m c I)(G:ab w t d J)(hl:I.length=J.length)(Q:I.length≤35184372088830)(T:cd w):
  Calls Tryz.prog 132 #[.slice m I.length c,.slice t J.length d] w fun e y=>e=.returned (.int .u64 (jl I J I.length:Nat))∧Below w.heap.size w y:=by
 refine Fg _ _ _ _ _ _ _ w ?_
 have H:=ac w (.cells #[.slice m I.length c] 22)
 have U:=cD w (.slice m I.length c) 22
 have V:=ai w (.cells #[.slice m I.length c] 22)
 generalize w.alloc (.cells #[.slice m I.length c] 22)=D at*
 have K:=ac D (.cells #[.slice t J.length d] 22)
 have L:=cD D (.slice t J.length d) 22
 have X:=ag U K
 generalize D.alloc (.cells #[.slice t J.length d] 22)=O at*
 have A:Below w.heap.size w O:=H.trans (K.mono H.size)
 rw[V]at L
 refine Calls.mono (kV 156 #[.pointer (some ⟨w.heap.size,0,none⟩),.pointer (some ⟨w.heap.size+1,0,none⟩)] I.length (jl I J) O Fh Q ?_) ?_
 ·intro y k z N
  have l:Below w.heap.size w y:=A.trans (z.mono A.size)
  obtain⟨Y,Z,e1,_,z1⟩:=(F.below l).ne (by omega)
  obtain⟨g2,o2,e2,_,z2⟩:=(G.below l).ne (by omega)
  have u1:=ag X z
  have u2:=ag L z
  rw[e1]at u1
  rw[e2]at u2
  have M:=T.all l
  exact Di (jl I J k) (aP I k) (aP J k) (mV (aP I k) (aP J k)) (jl I J (k+1)) k I.length J.length c d w.heap.size (w.heap.size+1) Y Z g2 o2 y N (by omega) u1 u2 (z1 k N) (z2 k (by omega))
   (fun f h=>mO _ _ f (F.lt k) (G.lt k) (M.all h)) (fun f h=>zp _ _ f (ia I J k) (iB _ _) (M.all h))
 ·rintro e y ⟨rfl,z⟩
  exact⟨rfl,A.trans (z.mono A.size)⟩
theorem Dj(l t:Option Addr)(n m c d r:Nat)(w:World)
  (F:∀h,Calls Tryz.prog 141 #[.slice l n c,.slice t m d] h fun e f=>e=.returned (.bool true)∧h=f)
  (C:Calls Tryz.prog 132 #[.slice l n c,.slice t m d] w fun e f=>e=.returned (.int .u64 (r:Nat))∧Below w.heap.size w f):
  Calls Tryz.prog 115 #[.slice l n c,.slice t m d] w fun e h=>e=.returned (.tuple #[.int .u64 (r:Nat),.int .i64 0])∧Below w.heap.size w h:=by
 have K:=aa C;have L:=aa F
 clear C F
 go_enter Tryz.func115,Tryz.ntmps115
 go_wp2_with fail
 refine(uH L _).mono ?_
 rintro e z ⟨rfl,rfl⟩
 go_wp2_with fail
 refine Calls.mono (uH K) ?_
 rintro e z ⟨rfl,y⟩
 clear K L
 go_wp2
 exact bodyPost_ret (v:=.tuple #[.int .u64 (r:Nat),.int .i64 0]) (by simp[results,Tryz.results115,go_sem]) rfl ⟨rfl,y⟩
theorem Dk(l t:Option Addr)(n m c d:Nat)(w:World)
  (F:∀f,Calls Tryz.prog 141 #[.slice l n c,.slice t m d] f fun e h=>e=.returned (.bool false)∧f=h):
  Calls Tryz.prog 115 #[.slice l n c,.slice t m d] w fun e f=>e=.returned (.tuple #[.int .u64 0,.int .i64 3])∧Below w.heap.size w f:=by
 have L:=aa F
 clear F
 go_enter Tryz.func115,Tryz.ntmps115
 go_wp2_with fail
 refine(uH L _).mono ?_
 rintro e y ⟨rfl,rfl⟩
 clear L
 go_wp2
 exact bodyPost_ret (v:=.tuple #[.int .u64 0,.int .i64 3]) (by simp[results,Tryz.results115,go_sem]) rfl ⟨rfl,Below.refl _ _⟩
def FK(I J:List Int):Bool:=decide (I.length≤64∧I.length=J.length)
theorem zA(f l:Option Addr)(c d:Nat)(I J:List Int)(w:World)(t:ab w f c I)(y:ab w l d J)(z:cd w):
  Calls Tryz.prog 115 #[.slice f I.length c,.slice l J.length d] w fun e m=>e=.returned (.tuple #[.int .u64 (if FK I J=true then jl I J I.length else 0:Nat),.int .i64 (if FK I J=true then 0 else 3)])∧Below w.heap.size w m:=by
 have F:=fun m=>zq f l I.length J.length c d m
 cases h:FK I J
 ·unfold FK at h
  rw[h]at F
  exact Dk f l _ _ c d w F
 ·unfold FK at h
  rw[h]at F
  have A:=of_decide_eq_true h
  exact Dj f l _ _ c d _ w F (uQ f l c d I J w t y A.2 (by omega) z)
theorem bT.bits{w:World}{g:Nat}{S:List Nat}(h:bT w g S)(f:∀x∈S,x<18446744073709551616):ab w (some ⟨g,0,none⟩) S.length (S.map (fun x:Nat=>(x:Int))):=by
 refine⟨by simp,?_,.inr ⟨g,0,rfl,h.lt,fun i l=>?_⟩⟩
 ·intro x t
  obtain⟨y,m,rfl⟩:=List.mem_map.1 t
  have:=f y m
  omega
 ·have d:i<S.length:=by simpa using l
  rw[Nat.zero_add,h.cell i d]
  simp[d]
def FN(n:Nat)(f:Nat→Nat):List Int:=((List.range n).map f).map (fun x:Nat=>(x:Int))
theorem Dl(n:Nat)(f:Nat→Nat):(FN n f).length=n:=by simp[FN]
theorem zB(n:Nat)(f:Nat→Nat)(j:Nat)(d:j<n):aP (FN n f) j=f j:=by simp[FN,aP,d]
theorem tC(d:Array Value)(w:World):(callFunc 89 d).run Tryz.prog w=.ok (.enter 89 d) w:=by
 simp only[callFunc,go_sem]
 rfl
theorem wB(d:Array Value)(w:World):(callFunc 56 d).run Tryz.prog w=.ok (.enter 56 d) w:=by
 simp only[callFunc,go_sem]
 rfl
theorem Dm(d:Array Value)(w:World):(callFunc 129 d).run Tryz.prog w=.ok (.enter 129 d) w:=by
 simp only[callFunc,go_sem]
 rfl
end Go.Proofs.YtenpggicmfhhdaaGreatDoor
