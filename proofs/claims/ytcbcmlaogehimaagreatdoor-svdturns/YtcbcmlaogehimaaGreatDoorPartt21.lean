/- Part 21 of the texts. -/
import Derived.Deep.OwnRows
import Derived.Test.YtcbcmlaogehimaaGreatDoorPartt20
set_option maxHeartbeats 8000000
set_option maxRecDepth 20000
namespace Go.Proofs.YtcbcmlaogehimaaGreatDoor
open Go.RowKit
theorem mR(D:Nat)(u:Array Value)(n:Nat)(f:Nat→Nat)(w:World)
  (K:∀args w,(callFunc D args).run Tryz.prog w=.ok (.enter D args) w) (X:n≤35184372088830)
  (d:∀z k,Below w.heap.size w z→k<n→Calls Tryz.prog D (#[.int .u64 (f k:Nat),.int .i64 (k:Nat)]++u) z fun e G=>e=.returned (.int .u64 (f (k+1):Nat))∧Below z.heap.size z G):
  Calls Tryz.prog 156 #[.int .i64 n,.int .u64 (f 0:Nat),.func (.func D) #[] u] w fun e z=>e=.returned (.int .u64 (f n:Nat))∧Below w.heap.size w z:=by
 have L:=ac d
 clear d
 go_enter Tryz.func156,Tryz.ntmps156
 go_wp2_with fail
 go_loopw[7,11] (fun t i wr=>∃k:Nat,k≤n∧i=.int .i64 k∧t=.int .u64 (f k:Nat)∧Hid (Below w.heap.size w wr)) (fun _ i _=>n-(intOf i).toNat)
 case atStart=>exact⟨0,Nat.zero_le _,rfl,rfl,Below.refl _ _⟩
 case round=>
  obtain⟨k,Y,rfl,rfl,F⟩:=hrel
  by_cases H:k<n
  ·have N:(k:Int)<(n:Int):=by omega
   have C:=ac (fun z h=>uH L z k h H)
   obtain⟨o,J⟩:∃o,f (k+1)=o:=⟨_,rfl⟩
   rw[J]at C
   have O:=ac J
   clear J
   go_wp2_with fail
   refine(uH C _ F.out).mono ?_
   rintro e U ⟨rfl,A⟩
   have Q:Hid (Below w.heap.size w U):=F.out.trans (A.mono F.out.size)
   clear A C
   go_wp2_with fail
   go_round
   case rel=>exact⟨k+1,by omega,by go_num,by rw[uH O],Q⟩
   case measure=>simp[intOf];omega
  ·have I:k=n:=by omega
   subst I
   go_wp2_with fail
   exact bodyPost_ret (v:=.int .u64 (f k:Nat)) (by simp[results,Tryz.results156,go_sem]) rfl ⟨rfl,F.out⟩
theorem uj(D:Nat)(u:Array Value)(n:Nat)(f:Nat→Bool)(w:World)
  (K:∀args w,(callFunc D args).run Tryz.prog w=.ok (.enter D args) w) (X:n≤35184372088830)
  (d:∀z k,Below w.heap.size w z→k<n→Calls Tryz.prog D (#[.bool (f k),.int .i64 (k:Nat)]++u) z fun e G=>e=.returned (.bool (f (k+1)))∧Below z.heap.size z G):
  Calls Tryz.prog 176 #[.int .i64 n,.bool (f 0),.func (.func D) #[] u] w fun e z=>e=.returned (.bool (f n))∧Below w.heap.size w z:=by
 have L:=ac d
 clear d
 go_enter Tryz.func176,Tryz.ntmps176
 go_wp2_with fail
 go_loopw[7,11] (fun t i wr=>∃k:Nat,k≤n∧i=.int .i64 k∧t=.bool (f k)∧Hid (Below w.heap.size w wr)) (fun _ i _=>n-(intOf i).toNat)
 case atStart=>exact⟨0,Nat.zero_le _,rfl,rfl,Below.refl _ _⟩
 case round=>
  obtain⟨k,Y,rfl,rfl,F⟩:=hrel
  by_cases H:k<n
  ·have N:(k:Int)<(n:Int):=by omega
   have C:=ac (fun z h=>uH L z k h H)
   obtain⟨o,J⟩:∃o,f (k+1)=o:=⟨_,rfl⟩
   rw[J]at C
   have O:=ac J
   clear J
   go_wp2_with fail
   refine(uH C _ F.out).mono ?_
   rintro e U ⟨rfl,A⟩
   have Q:Hid (Below w.heap.size w U):=F.out.trans (A.mono F.out.size)
   clear A C
   go_wp2_with fail
   go_round
   case rel=>exact⟨k+1,by omega,by go_num,by rw[uH O],Q⟩
   case measure=>simp[intOf];omega
  ·have I:k=n:=by omega
   subst I
   go_wp2_with fail
   exact bodyPost_ret (v:=.bool (f k)) (by simp[results,Tryz.results176,go_sem]) rfl ⟨rfl,F.out⟩
def kv(x:Nat):Value:=.int .u64 (x:Int)
def bY(w:World)(g:Nat)(S:List Nat):Prop:=w.heap[g]? =some (.cells (S.map kv).toArray 69 (0,0))
theorem bY.cell{w:World}{g:Nat}{S:List Nat}(h:bY w g S)(j:Nat)(d:j<S.length):w.cell? ⟨g,j,none⟩=some (.int .u64 ((S[j]?.getD 0:Nat):Int)):=by
 rw[cell_of_row w g j _ _ _ h]
 simp[kv,d]
theorem bY.free{w:World}{g:Nat}{S:List Nat}(h:bY w g S)(j:Nat):w.frozen? ⟨g,j,none⟩=false:=frozen_of_row w g j _ _ h
theorem bY.set{w:World}{g:Nat}{S:List Nat}(h:bY w g S)(j x:Nat):bY (w.setCell ⟨g,j,none⟩ (.int .u64 (x:Int))) g (S.set j x):=by
 unfold bY
 rw[heap_setCell_same w g j _ _ _ h]
 simp[kv,List.map_set]
theorem bY.lt{w:World}{g:Nat}{S:List Nat}(h:bY w g S):g<w.heap.size:=(Array.getElem?_eq_some_iff.1 h).1
theorem bY.below{w d:World}{g:Nat}{S:List Nat}(h:bY w g S){B:Nat}(u:Below B w d)(z:g<B):bY d g S:=by
 unfold bY;rw[u.block g z];exact h
theorem bY.made(w:World)(n:Nat):bY (w.alloc (.cells (madeCells #[.int .u64 0] n) 69)) w.heap.size (List.replicate n 0):=by
 unfold bY
 rw[heap_alloc_new w _]
 have:madeCells #[Value.int .u64 0] n=((List.replicate n 0).map kv).toArray:=by
  apply Array.toList_inj.1
  refine List.ext_getElem (by simp[madeCells]) fun i d h=>?_
  simp[madeCells,kv,Nat.mod_one]
 rw[this]
def uk(f:Nat→Nat)(n k:Nat):List Nat:=(List.range n).map (fun j=>if j<k then f j else 0)
theorem yf(f:Nat→Nat)(n:Nat):uk f n 0=List.replicate n 0:=by
 unfold uk
 refine List.ext_getElem (by simp) fun i d h=>?_
 simp
theorem nE(f:Nat→Nat)(n k:Nat):(uk f n k).length=n:=by simp[uk]
theorem nF(f:Nat→Nat)(n k:Nat):(uk f n k).set k (f k)=uk f n (k+1):=by
 unfold uk
 refine List.ext_getElem (by simp) fun i u z=>?_
 rw[List.getElem_set]
 simp only[List.getElem_map,List.getElem_range]
 by_cases h:k=i
 ·subst h;simp
 ·rw[if_neg h]
  by_cases d:i<k
  ·rw[if_pos d,if_pos (by omega)]
  ·rw[if_neg d,if_neg (by omega)]
theorem k8(f:Nat→Nat)(n:Nat):uk f n n=(List.range n).map f:=by
 unfold uk
 refine List.ext_getElem (by simp) fun i h d=>?_
 simp only[List.getElem_map,List.getElem_range]
 rw[if_pos (by simpa using d)]
theorem Dc(H:Nat)(A:Array Value)(n:Nat)(f:Nat→Nat)(w:World)
  (X:∀args w,(callFunc H args).run Tryz.prog w=.ok (.enter H args) w) (hn:n≤35184372088830)
  (d:∀u k,Below w.heap.size w u→k<n→Calls Tryz.prog H (#[.int .i64 (k:Nat)]++A) u fun e J=>e=.returned (.int .u64 (f k:Nat))∧Below u.heap.size u J):
  Calls Tryz.prog 269 #[.int .i64 n,.func (.func H) #[] A] w fun e u=>∃g,e=.returned (.slice (some ⟨g,0,none⟩) n n)∧w.heap.size≤g∧bY u g ((List.range n).map f)∧Below w.heap.size w u:=by
 have Y:=ac d
 have K:=run_make_row' (P:=Tryz.prog) 22 69 (.int .u64 0) 8 Tryz.underlying22 (by kernel_rfl) rfl .i64 .i64 n (by omega) (by omega)
 have O:=ac (bY.made w n)
 have Q:=ac ((Below.refl w.heap.size w).alloc (Nat.le_refl _) (.cells (madeCells #[.int .u64 0] n) 69))
 clear d
 go_enter Tryz.func269,Tryz.ntmps269
 go_wp2_with fail
 clear K
 go_loopw[10] (fun i wr=>∃k:Nat,k≤n∧i=.int .i64 k∧Hid (bY wr w.heap.size (uk f n k))∧Hid (Below w.heap.size w wr)) (fun i _=>n-(intOf i).toNat)
 case atStart=>exact⟨0,Nat.zero_le _,rfl,by rw[yf];exact O,Q⟩
 case round=>
  clear O Q
  obtain⟨k,hk,rfl,I,G⟩:=hrel
  by_cases F:k<n
  ·have Z:(k:Int)<(n:Int):=by omega
   have C:=ac (fun u h=>uH Y u k h F)
   obtain⟨o,N⟩:∃o,f k=o:=⟨_,rfl⟩
   rw[N]at C
   have eV:=ac N
   clear N
   go_wp2_with fail
   refine(uH C _ G.out).mono ?_
   rintro e w2 ⟨rfl,D⟩
   have z:=(uH I).below D (uH I).lt
   have c0:=z.cell k (by rw[nE];exact F)
   have f0:=z.free k
   have R3:=ac (z.set k o)
   have U:Below w.heap.size w w2:=G.out.trans (D.mono G.out.size)
   have B3:=ac (U.setCell (p:=⟨w.heap.size,k,none⟩) (Nat.le_refl _) (.int .u64 (o:Int)))
   clear D C I G U z
   go_wp2_with fail
   go_round
   case rel=>exact⟨k+1,by omega,by go_num,by rw[←nF,uH eV];exact R3,B3⟩
   case measure=>simp[intOf];omega
  ·have L:k=n:=by omega
   subst L
   go_wp2_with fail
   exact bodyPost_ret (v:=.slice (some ⟨w.heap.size,0,none⟩) k k) (by simp[results,Tryz.results269,go_sem]) rfl ⟨_,rfl,Nat.le_refl _,by rw[←k8];exact uH I,G.out⟩
attribute [local go_sem ↓] Go.wp_at_zero Go.wp_at_succ
theorem aG{w d:World}{p:Addr}{v:Value}(h:w.cell? p=some v)(u:Below w.heap.size w d):d.cell? p=some v:=by
 rw[u.cell (World.block_lt_of_cell? w _ h)];exact h
theorem Gq(s x y p o k n m c d K z:Nat)(D F G H:Nat)(w:World)(hk:k<n)(hm:k<m)
  (L:w.cell? ⟨K,0,none⟩=some (.slice (some ⟨D,F,none⟩) n c)) (N:w.cell? ⟨z,0,none⟩=some (.slice (some ⟨G,H,none⟩) m d))
  (O:w.cell? ⟨D,F+k,none⟩=some (.int .u64 (x:Nat))) (Q:w.cell? ⟨G,H+k,none⟩=some (.int .u64 (y:Nat)))
  (U:∀u,Below w.heap.size w u→Calls Tryz.prog 203 #[.int .u64 x,.int .u64 y] u fun r A=>r=.returned (.int .u64 (p:Nat))∧Below u.heap.size u A)
  (X:∀u,Below w.heap.size w u→Calls Tryz.prog 217 #[.int .u64 s,.int .u64 p] u fun r A=>r=.returned (.int .u64 (o:Nat))∧Below u.heap.size u A):
  Calls Tryz.prog 216 #[.int .u64 s,.int .i64 k,.pointer (some ⟨K,0,none⟩),.pointer (some ⟨z,0,none⟩)] w fun e u=>e=.returned (.int .u64 (o:Nat))∧Below w.heap.size w u:=by
 have Z:=ac U;have K2:=ac X
 have aa:(k:Int)<(n:Int):=by omega
 have ae:(k:Int)<(m:Int):=by omega
 have Y:=ac (fun u (h:Below w.heap.size w u)=>(show Below w.heap.size w u∧u.cell? ⟨K,0,none⟩=some (.slice (some ⟨D,F,none⟩) n c)∧u.cell? ⟨z,0,none⟩=some (.slice (some ⟨G,H,none⟩) m d)∧u.cell? ⟨D,F+k,none⟩=some (.int .u64 (x:Nat))∧u.cell? ⟨G,H+k,none⟩=some (.int .u64 (y:Nat))from
  ⟨h,aG L h,aG N h,aG O h,aG Q h⟩))
 clear U X L N O Q
 go_enter Tryz.func216,Tryz.ntmps216
 go_wp2_with fail
 go_region_held3(fun u=>Below w.heap.size w u∧u.cell? ⟨K,0,none⟩=some (.slice (some ⟨D,F,none⟩) n c)∧u.cell? ⟨z,0,none⟩=some (.slice (some ⟨G,H,none⟩) m d)∧u.cell? ⟨D,F+k,none⟩=some (.int .u64 (x:Nat))∧u.cell? ⟨G,H+k,none⟩=some (.int .u64 (y:Nat)))
  (first|exact uH Y _ (Below.refl _ _).drew|exact uH Y _ (by assumption)|fail "KK")
  (first|(go_at_call 203;refine(uH Z _ (And.left (by assumption))).mono ?_;rintro e w1 ⟨rfl,I⟩;have ah:Below w.heap.size w w1:=Below.trans (And.left (by assumption)) (I.mono (Below.size (And.left (by assumption))));clear I)|(go_at_call 217;refine(uH K2 _ (And.left (by assumption))).mono ?_;rintro e w2 ⟨rfl,J⟩;have am:Below w.heap.size w w2:=Below.trans (And.left (by assumption)) (J.mono (Below.size (And.left (by assumption))));clear J)|fail "NO ARM")
 go_wp2
 go_ret
 exact⟨rfl,And.left (by assumption)⟩
theorem Dd(x o k n c D bk:Nat)(j:Int)(u z:Nat)(w:World)(U:k<n)(X:-5000≤j∧j≤5000)
  (G:w.cell? ⟨D,0,none⟩=some (.slice (some ⟨u,z,none⟩) n c)) (H:w.cell? ⟨bk,0,none⟩=some (.int .i64 j))
  (I:w.cell? ⟨u,z+k,none⟩=some (.int .u64 (x:Nat)))
  (J:∀d,Below w.heap.size w d→Calls Tryz.prog 97 #[.int .u64 x,.int .i64 (-j)] d fun r F=>r=.returned (.int .u64 (o:Nat))∧Below d.heap.size d F):
  Calls Tryz.prog 270 #[.int .i64 k,.pointer (some ⟨D,0,none⟩),.pointer (some ⟨bk,0,none⟩)] w fun e d=>e=.returned (.int .u64 (o:Nat))∧Below w.heap.size w d:=by
 have L:=ac J
 have N:(k:Int)<(n:Int):=by omega
 have Y:IntKind.i64.wrap (-j)= -j:=by simp only[IntKind.wrap_i64];omega
 have K:=ac (fun d (h:Below w.heap.size w d)=>(show Below w.heap.size w d∧d.cell? ⟨D,0,none⟩=some (.slice (some ⟨u,z,none⟩) n c)∧d.cell? ⟨u,z+k,none⟩=some (.int .u64 (x:Nat))∧d.cell? ⟨bk,0,none⟩=some (.int .i64 j)from
  ⟨h,aG G h,aG I h,aG H h⟩))
 clear J G I H
 go_enter Tryz.func270,Tryz.ntmps270
 go_wp2_with fail
 go_region_held3(fun d=>Below w.heap.size w d∧d.cell? ⟨D,0,none⟩=some (.slice (some ⟨u,z,none⟩) n c)∧d.cell? ⟨u,z+k,none⟩=some (.int .u64 (x:Nat))∧d.cell? ⟨bk,0,none⟩=some (.int .i64 j))
  (first|exact uH K _ (Below.refl _ _).drew|exact uH K _ (by assumption)|fail "KK")
  (first|(go_at_call 97;refine(uH L _ (And.left (by assumption))).mono ?_;rintro e Q ⟨rfl,A⟩;have O:Below w.heap.size w Q:=Below.trans (And.left (by assumption)) (A.mono (Below.size (And.left (by assumption))));clear A)|fail "NO ARM")
 go_wp2
 go_ret
 exact⟨rfl,And.left (by assumption)⟩
theorem ul(m x r o k n c D:Nat)(F G:Nat)(w:World)(N:k<n)
  (O:w.cell? ⟨D,0,none⟩=some (.slice (some ⟨F,G,none⟩) n c))
  (Q:w.cell? ⟨F,G+k,none⟩=some (.int .u64 (x:Nat)))
  (H:∀d,Below w.heap.size w d→Calls Tryz.prog 102 #[.int .u64 x] d fun e h=>e=.returned (.int .u64 (r:Nat))∧Below d.heap.size d h)
  (I:∀d,Below w.heap.size w d→Calls Tryz.prog 158 #[.int .u64 m,.int .u64 r] d fun e h=>e=.returned (.int .u64 (o:Nat))∧Below d.heap.size d h):
  Calls Tryz.prog 157 #[.int .u64 m,.int .i64 k,.pointer (some ⟨D,0,none⟩)] w fun e d=>e=.returned (.int .u64 (o:Nat))∧Below w.heap.size w d:=by
 have J:=ac H;have K:=ac I
 have L:(k:Int)<(n:Int):=by omega
 clear H I
 go_enter Tryz.func157,Tryz.ntmps157
 go_wp2_with fail
 refine(uH J _ (Below.refl _ _)).mono ?_
 rintro e U ⟨rfl,u⟩
 have z:=ac u
 clear J u
 go_wp2_with fail
 refine(uH K _ (uH z)).mono ?_
 rintro e X ⟨rfl,A⟩
 clear K
 go_wp2
 go_ret
 exact⟨rfl,(uH z).trans (A.mono (uH z).size)⟩
theorem wB(q r:Bool)(x k n c z:Nat)(A D:Nat)(w:World)(I:k<n)
  (J:w.cell? ⟨z,0,none⟩=some (.slice (some ⟨A,D,none⟩) n c))
  (K:w.cell? ⟨A,D+k,none⟩=some (.int .u64 (x:Nat)))
  (F:∀d,Below w.heap.size w d→Calls Tryz.prog 118 #[.int .u64 x] d fun e h=>e=.returned (.bool r)∧Below d.heap.size d h):
  Calls Tryz.prog 177 #[.bool q,.int .i64 k,.pointer (some ⟨z,0,none⟩)] w fun e d=>e=.returned (.bool (q&&r))∧Below w.heap.size w d:=by
 have G:=ac F
 have H:(k:Int)<(n:Int):=by omega
 clear F
 cases q
 ·go_enter Tryz.func177,Tryz.ntmps177
  go_wp2
  go_ret
  exact⟨rfl,Below.refl _ _⟩
 ·go_enter Tryz.func177,Tryz.ntmps177
  go_wp2_with fail
  refine(uH G _ (Below.refl _ _)).mono ?_
  rintro e L ⟨rfl,u⟩
  clear G
  go_wp2
  go_ret
  exact⟨rfl,u⟩
theorem gj(w:World)(x:Value)(t:TypeId):(w.alloc (.cells #[x] t)).cell? ⟨w.heap.size,0,none⟩=some x:=by
 rw[cell_of_row _ _ 0 _ _ _ (heap_alloc_new w _)];rfl
theorem aq(w:World)(o:Obj):(w.alloc o).heap.size=w.heap.size+1:=by simp
theorem ad(w:World)(o:Obj):Below w.heap.size w (w.alloc o):=(Below.refl _ _).alloc (Nat.le_refl _) o
theorem al.lt{w:World}{u:Option Addr}{d:Nat}{I:List Int}(h:al w u d I)(j:Nat):bH I j<18446744073709551616:=(h.wf j).2
def mu(I J:List Int):Nat→Nat
 |0=>0
 |k+1=>aV (mu I J k) (mV (bH I k) (bH J k))
def jj(I:List Int):Nat→Nat
 |0=>0
 |k+1=>mx (jj I k) (fR (bH I k))
def ja(I:List Int):Nat→Bool
 |0=>true
 |k+1=>ja I k&&aj (bH I k)
theorem kw(I J:List Int)(k:Nat):mu I J k<18446744073709551616:=by
 induction k with
 |zero=>show 0<18446744073709551616;omega
 |succ k ih=>exact gY _ _ ih (de _ _)
theorem LC(a b:Nat)(d:a<18446744073709551616)(h:b<18446744073709551616):mx a b<18446744073709551616:=by
 unfold mx
 repeat' split
 all_goals omega
theorem my(I:List Int)(k:Nat):jj I k<18446744073709551616:=by
 induction k with
 |zero=>show 0<18446744073709551616;omega
 |succ k ih=>exact LC _ _ ih (by have:=jg (bH I k);omega)
theorem JI(z A:Option Addr)(n m c d r:Nat)(w:World)
  (C:Calls Tryz.prog 156 #[.int .i64 n,.int .u64 0,.func (.func 216) #[] #[.pointer (some ⟨w.heap.size,0,none⟩),.pointer (some ⟨w.heap.size+1,0,none⟩)]] ((w.alloc (.cells #[.slice z n c] 22)).alloc (.cells #[.slice A m d] 22)) fun e h=>e=.returned (.int .u64 (r:Nat))∧Below w.heap.size w h):
  Calls Tryz.prog 185 #[.slice z n c,.slice A m d] w fun e D=>e=.returned (.int .u64 (r:Nat))∧Below w.heap.size w D:=by
 have K:=ac C
 clear C
 go_enter Tryz.func185,Tryz.ntmps185
 go_wp2_with fail
 refine Calls.mono (uH K) ?_
 rintro e F ⟨rfl,u⟩
 clear K
 go_wp2
 go_ret
 exact⟨rfl,u⟩
theorem JJ(args:Array Value)(w:World):(callFunc 216 args).run Tryz.prog w=.ok (.enter 216 args) w:=by
 simp only[callFunc,go_sem]
 rfl
theorem yg(A D:Option Addr)(c d:Nat)(I J:List Int)(w:World)(L:al w A c I)(N:al w D d J)(hl:I.length=J.length)(hn:I.length≤35184372088830)(hT:cq w):
  Calls Tryz.prog 185 #[.slice A I.length c,.slice D J.length d] w fun e F=>e=.returned (.int .u64 (mu I J I.length:Nat))∧Below w.heap.size w F:=by
 refine JI _ _ _ _ _ _ _ w ?_
 have O:=ad w (.cells #[.slice A I.length c] 22)
 have x1:=gj w (.slice A I.length c) 22
 have s1:=aq w (.cells #[.slice A I.length c] 22)
 generalize w.alloc (.cells #[.slice A I.length c] 22)=K at*
 have Q:=ad K (.cells #[.slice D J.length d] 22)
 have U:=gj K (.slice D J.length d) 22
 have y1:=aG x1 Q
 generalize K.alloc (.cells #[.slice D J.length d] 22)=Z at*
 have H:Below w.heap.size w Z:=O.trans (Q.mono O.size)
 rw[s1]at U
 refine Calls.mono (mR 216 #[.pointer (some ⟨w.heap.size,0,none⟩),.pointer (some ⟨w.heap.size+1,0,none⟩)] I.length (mu I J) Z JJ hn ?_) ?_
 ·intro F k G Y
  have z:Below w.heap.size w F:=H.trans (G.mono H.size)
  obtain⟨g1,o1,e1,_,z1⟩:=(L.below z).ne (by omega)
  obtain⟨g2,o2,e2,_,z2⟩:=(N.below z).ne (by omega)
  have u1:=aG y1 G
  have u2:=aG U G
  rw[e1]at u1
  rw[e2]at u2
  have X:=hT.all z
  exact Gq (mu I J k) (bH I k) (bH J k) (mV (bH I k) (bH J k)) (mu I J (k+1)) k I.length J.length c d w.heap.size (w.heap.size+1) g1 o1 g2 o2 F Y (by omega) u1 u2 (z1 k Y) (z2 k (by omega))
   (fun u h=>fi _ _ u (L.lt k) (N.lt k) (X.all h)) (fun u h=>jB _ _ u (kw I J k) (de _ _) (X.all h))
 ·rintro e F ⟨rfl,G⟩
  exact⟨rfl,H.trans (G.mono H.size)⟩
theorem Gr(z A:Option Addr)(n m c d r:Nat)(w:World)
  (F:∀u,Calls Tryz.prog 184 #[.slice z n c,.slice A m d] u fun e h=>e=.returned (.bool true)∧u=h)
  (C:Calls Tryz.prog 185 #[.slice z n c,.slice A m d] w fun e h=>e=.returned (.int .u64 (r:Nat))∧Below w.heap.size w h):
  Calls Tryz.prog 136 #[.slice z n c,.slice A m d] w fun e u=>e=.returned (.tuple #[.int .u64 (r:Nat),.int .i64 0])∧Below w.heap.size w u:=by
 have K:=ac C;have L:=ac F
 clear C F
 go_enter Tryz.func136,Tryz.ntmps136
 go_wp2_with fail
 refine(uH L _).mono ?_
 rintro e G ⟨rfl,rfl⟩
 go_wp2_with fail
 refine Calls.mono (uH K) ?_
 rintro e G ⟨rfl,D⟩
 clear K L
 go_wp2
 exact bodyPost_ret (v:=.tuple #[.int .u64 (r:Nat),.int .i64 0]) (by simp[results,Tryz.results136,go_sem]) rfl ⟨rfl,D⟩
theorem Gs(z A:Option Addr)(n m c d:Nat)(w:World)
  (F:∀h,Calls Tryz.prog 184 #[.slice z n c,.slice A m d] h fun e u=>e=.returned (.bool false)∧h=u):
  Calls Tryz.prog 136 #[.slice z n c,.slice A m d] w fun e h=>e=.returned (.tuple #[.int .u64 0,.int .i64 3])∧Below w.heap.size w h:=by
 have L:=ac F
 clear F
 go_enter Tryz.func136,Tryz.ntmps136
 go_wp2_with fail
 refine(uH L _).mono ?_
 rintro e D ⟨rfl,rfl⟩
 clear L
 go_wp2
 exact bodyPost_ret (v:=.tuple #[.int .u64 0,.int .i64 3]) (by simp[results,Tryz.results136,go_sem]) rfl ⟨rfl,Below.refl _ _⟩
def Ks(I J:List Int):Bool:=decide (I.length≤64∧I.length=J.length)
theorem De(u z:Option Addr)(c d:Nat)(I J:List Int)(w:World)(D:al w u c I)(G:al w z d J)(H:cq w):
  Calls Tryz.prog 136 #[.slice u I.length c,.slice z J.length d] w fun e A=>e=.returned (.tuple #[.int .u64 (if Ks I J=true then mu I J I.length else 0:Nat),.int .i64 (if Ks I J=true then 0 else 3)])∧Below w.heap.size w A:=by
 have F:=fun A=>Db u z I.length J.length c d A
 cases h:Ks I J
 ·unfold Ks at h
  rw[h]at F
  exact Gs u z _ _ c d w F
 ·unfold Ks at h
  rw[h]at F
  have K:=of_decide_eq_true h
  exact Gr u z _ _ c d _ w F (yg u z c d I J w D G K.2 (by omega) H)
theorem bY.bits{w:World}{g:Nat}{S:List Nat}(h:bY w g S)(u:∀x∈S,x<18446744073709551616):al w (some ⟨g,0,none⟩) S.length (S.map (fun x:Nat=>(x:Int))):=by
 refine⟨by simp,?_,.inr ⟨g,0,rfl,h.lt,fun i z=>?_⟩⟩
 ·intro x D
  obtain⟨y,A,rfl⟩:=List.mem_map.1 D
  have:=u y A
  omega
 ·have d:i<S.length:=by simpa using z
  rw[Nat.zero_add,h.cell i d]
  simp[d]
def Kt(n:Nat)(f:Nat→Nat):List Int:=((List.range n).map f).map (fun x:Nat=>(x:Int))
theorem Gt(n:Nat)(f:Nat→Nat):(Kt n f).length=n:=by simp[Kt]
theorem JK(n:Nat)(f:Nat→Nat)(j:Nat)(d:j<n):bH (Kt n f) j=f j:=by simp[Kt,bH,d]
theorem wC(args:Array Value)(w:World):(callFunc 157 args).run Tryz.prog w=.ok (.enter 157 args) w:=by
 simp only[callFunc,go_sem]
 rfl
theorem zU(args:Array Value)(w:World):(callFunc 177 args).run Tryz.prog w=.ok (.enter 177 args) w:=by
 simp only[callFunc,go_sem]
 rfl
theorem Gu(args:Array Value)(w:World):(callFunc 270 args).run Tryz.prog w=.ok (.enter 270 args) w:=by
 simp only[callFunc,go_sem]
 rfl
theorem mT(a b:Nat):
  ∃l q,((cO a b=0∧cB a b=false∧l=false∧q=false)∨(cO a b= -1∧cB a b=true∧l=true∧q=false)∨(cO a b=0∧cB a b=true∧l=false∧q=true)∨(cO a b=1∧cB a b=true∧l=false∧q=false))∧cM a b l (cB a b)=mx a b:=by
 by_cases h:fK a=4∨fK b=4
 ·have u:cO a b=0:=by unfold cO;rw[if_pos h]
  have d:cB a b=false:=by unfold cB;rw[if_pos h]
  refine⟨false,false,.inl ⟨u,d,rfl,rfl⟩,?_⟩
  unfold mx cM
  rw[if_pos h,if_pos d]
 ·have u:cO a b=bt (fZ a) (fZ b):=by unfold cO;rw[if_neg h]
  have d:cB a b=true:=by unfold cB;rw[if_neg h]
  have D:mx a b=if fZ a<fZ b then b else a:=by unfold mx;rw[if_neg h]
  have z:∀l,cM a b l true=if l=true then b else a:=fun l=>by unfold cM;rw[if_neg (by decide)]
  rw[u,d,D]
  rcases(show fZ a<fZ b∨fZ a=fZ b∨fZ b<fZ a by omega)with g|g|g
  ·exact⟨true,false,.inr (.inl ⟨iA g,rfl,rfl,rfl⟩),by rw[z,if_pos rfl,if_pos g]⟩
  ·have A:¬fZ a<fZ b:=by omega
   exact⟨false,true,.inr (.inr (.inl ⟨jw g,rfl,rfl,rfl⟩)),by rw[z,if_neg (by decide),if_neg A]⟩
  ·have A:¬fZ a<fZ b:=by omega
   exact⟨false,false,.inr (.inr (.inr ⟨iB g,rfl,rfl,rfl⟩)),by rw[z,if_neg (by decide),if_neg A]⟩
theorem Df(a b:Nat)(w:World)(u:a<18446744073709551616)(z:b<18446744073709551616):
  Calls Tryz.prog 158 #[.int .u64 a,.int .u64 b] w fun r d=>r=.returned (.int .u64 (mx a b:Nat))∧Below w.heap.size w d:=by
 obtain⟨l,q,h,e⟩:=mT a b
 rw[←e]
 exact Jg a b _ _ l q w h (fun d=>ks a b d u z)
theorem zV(a b:Nat)(w:World)(u:a<18446744073709551616)(z:b<18446744073709551616):
  Calls Tryz.prog 141 #[.int .u64 a,.int .u64 b] w fun r d=>r=.returned (.int .u64 (mx a b:Nat))∧Below w.heap.size w d:=by
 obtain⟨l,q,h,e⟩:=mT a b
 rw[←e]
 exact FN a b _ _ l q w h (fun d=>ww a b d u z)
theorem wD(u:Option Addr)(n c r:Nat)(w:World)
  (C:Calls Tryz.prog 156 #[.int .i64 n,.int .u64 0,.func (.func 157) #[] #[.pointer (some ⟨w.heap.size,0,none⟩)]] (w.alloc (.cells #[.slice u n c] 22)) fun e d=>e=.returned (.int .u64 (r:Nat))∧Below w.heap.size w d):
  Calls Tryz.prog 98 #[.slice u n c] w fun e z=>e=.returned (.int .u64 (r:Nat))∧Below w.heap.size w z:=by
 have K:=ac C
 clear C
 go_enter Tryz.func98,Tryz.ntmps98
 go_wp2_with fail
 refine Calls.mono (uH K) ?_
 rintro e A ⟨rfl,h⟩
 clear K
 go_wp2
 go_ret
 exact⟨rfl,h⟩
theorem lf(u:Option Addr)(c:Nat)(I:List Int)(w:World)(G:al w u c I)(J:I.length≤35184372088830):
  Calls Tryz.prog 98 #[.slice u I.length c] w fun e z=>e=.returned (.int .u64 (jj I I.length:Nat))∧Below w.heap.size w z:=by
 refine wD u _ c _ w ?_
 have A:=ad w (.cells #[.slice u I.length c] 22)
 have K:=gj w (.slice u I.length c) 22
 generalize w.alloc (.cells #[.slice u I.length c] 22)=Q at*
 refine Calls.mono (mR 157 #[.pointer (some ⟨w.heap.size,0,none⟩)] I.length (jj I) Q wC J ?_) ?_
 ·intro z k D H
  have F:Below w.heap.size w z:=A.trans (D.mono A.size)
  obtain⟨L,N,O,_,z1⟩:=(G.below F).ne (by omega)
  have u1:=aG K D
  rw[O]at u1
  exact ul (jj I k) (bH I k) (fR (bH I k)) (jj I (k+1)) k I.length c w.heap.size L N z H u1 (z1 k H)
   (fun d h=>kX _ d (G.lt k)) (fun d h=>Df _ _ d (my I k) (by have:=jg (bH I k);omega))
 ·rintro e z ⟨rfl,D⟩
  exact⟨rfl,A.trans (D.mono A.size)⟩
theorem zW(u:Option Addr)(n c:Nat)(r:Bool)(w:World)
  (C:Calls Tryz.prog 176 #[.int .i64 n,.bool true,.func (.func 177) #[] #[.pointer (some ⟨w.heap.size,0,none⟩)]] (w.alloc (.cells #[.slice u n c] 22)) fun e d=>e=.returned (.bool r)∧Below w.heap.size w d):
  Calls Tryz.prog 125 #[.slice u n c] w fun e z=>e=.returned (.bool r)∧Below w.heap.size w z:=by
 have K:=ac C
 clear C
 go_enter Tryz.func125,Tryz.ntmps125
 go_wp2_with fail
 refine Calls.mono (uH K) ?_
 rintro e A ⟨rfl,h⟩
 clear K
 go_wp2
 go_ret
 exact⟨rfl,h⟩
theorem mU(d:Option Addr)(c:Nat)(I:List Int)(w:World)(G:al w d c I)(J:I.length≤35184372088830):
  Calls Tryz.prog 125 #[.slice d I.length c] w fun e u=>e=.returned (.bool (ja I I.length))∧Below w.heap.size w u:=by
 refine zW d _ c _ w ?_
 have z:=ad w (.cells #[.slice d I.length c] 22)
 have K:=gj w (.slice d I.length c) 22
 generalize w.alloc (.cells #[.slice d I.length c] 22)=Q at*
 refine Calls.mono (uj 177 #[.pointer (some ⟨w.heap.size,0,none⟩)] I.length (ja I) Q zU J ?_) ?_
 ·intro u k A H
  have F:Below w.heap.size w u:=z.trans (A.mono z.size)
  obtain⟨L,N,O,_,z1⟩:=(G.below F).ne (by omega)
  have u1:=aG K A
  rw[O]at u1
  exact wB (ja I k) (aj (bH I k)) (bH I k) k I.length c w.heap.size L N u H u1 (z1 k H) (fun D h=>gW _ D (G.lt k))
 ·rintro e u ⟨rfl,A⟩
  exact⟨rfl,z.trans (A.mono z.size)⟩
theorem Dg(s r:Nat)(f:Int)(w:World)(C:∀d,Below w.heap.size w d→Calls Tryz.prog 271 #[.int .u64 s] d fun e h=>e=.returned (.tuple #[.int .u64 (r:Nat),.int .u8 f])∧Below d.heap.size d h):
  Calls Tryz.prog 242 #[.int .u64 s] w fun e d=>e=.returned (.int .u64 (r:Nat))∧Below w.heap.size w d:=by
 have K:=ac C
 clear C
 go_enter Tryz.func242,Tryz.ntmps242
 go_wp2_with fail
 refine(uH K _ (Below.refl _ _)).mono ?_
 rintro e z ⟨rfl,u⟩
 clear K
 go_wp2
 go_ret
 exact⟨rfl,u⟩
theorem zX(I:Option Addr)(n c s r o:Nat)(k f:Int)(w:World)(Z:World→Nat→Prop)(_ZS:∀d u g,Z d g→Below d.heap.size d u→Z u g)
  (J:Calls Tryz.prog 269 #[.int .i64 n,.func (.func 270) #[] #[.pointer (some ⟨w.heap.size,0,none⟩),.pointer (some ⟨w.heap.size+1,0,none⟩)]] ((w.alloc (.cells #[.slice I n c] 22)).alloc (.cells #[.int .i64 k] 3)) fun e u=>∃g,e=.returned (.slice (some ⟨g,0,none⟩) n n)∧Z u g∧Below w.heap.size w u∧u.cell? ⟨w.heap.size+1,0,none⟩=some (.int .i64 k))
  (K:∀d g,Z d g→Below w.heap.size w d→Calls Tryz.prog 185 #[.slice (some ⟨g,0,none⟩) n n,.slice (some ⟨g,0,none⟩) n n] d fun e u=>e=.returned (.int .u64 (s:Nat))∧Below d.heap.size d u)
  (L:∀d,Below w.heap.size w d→Calls Tryz.prog 271 #[.int .u64 s] d fun e u=>e=.returned (.tuple #[.int .u64 (r:Nat),.int .u8 f])∧Below d.heap.size d u)
  (N:∀d,Below w.heap.size w d→Calls Tryz.prog 97 #[.int .u64 r,.int .i64 k] d fun e u=>e=.returned (.int .u64 (o:Nat))∧Below d.heap.size d u):
  Calls Tryz.prog 241 #[.slice I n c,.int .i64 k] w fun e d=>e=.returned (.int .u64 (o:Nat))∧Below w.heap.size w d:=by
 have Q:=ac J;have K2:=ac K;have K3:=ac (fun d (O:Below w.heap.size w d)=>Dg s r f d (fun u G=>L u (O.trans (G.mono O.size))));have K4:=ac N
 clear J K L N
 go_enter Tryz.func241,Tryz.ntmps241
 go_wp2_with fail
 refine Calls.mono (uH Q) ?_
 rintro e w1 ⟨g,rfl,hz,z,hc⟩
 have B:=ac z;have D:=ac hz;have U:=ac hc
 clear Q z hz hc
 go_wp2_with fail
 have X:=ac _ZS
 clear _ZS
 refine ap (fun W=>Below w.heap.size w W∧Z W g∧W.cell? ⟨w.heap.size+1,0,none⟩=some (.int .i64 k)) ⟨uH B,uH D,uH U⟩ ?_
 clear B D U
 rintro A ⟨H,zz,cc⟩
 have Y:=ac (fun d (h:Below A.heap.size A d)=>(show Below A.heap.size A d∧d.cell? ⟨w.heap.size+1,0,none⟩=some (.int .i64 k)from⟨h,aG cc h⟩))
 have F:=ac (fun d (h:Below A.heap.size A d)=>H.trans (h.mono H.size))
 have D:=ac (fun d (h:Below A.heap.size A d)=>uH X _ _ _ zz h)
 clear H zz cc X
 go_region_held3(fun d=>Below A.heap.size A d∧d.cell? ⟨w.heap.size+1,0,none⟩=some (.int .i64 k))
  (first|exact uH Y _ (Below.refl _ _).drew|exact uH Y _ (by assumption)|fail "KK")
  (first
   |(go_at_call 185;refine(uH K2 _ _ (uH D _ (And.left (by assumption))) (uH F _ (And.left (by assumption)))).mono ?_;rintro e wa ⟨rfl,z⟩;have aa:Below A.heap.size A wa:=Below.trans (And.left (by assumption)) (z.mono (Below.size (And.left (by assumption))));clear z)
   |(go_at_call 242;refine(uH K3 _ (uH F _ (And.left (by assumption)))).mono ?_;rintro e wb ⟨rfl,z⟩;have ae:Below A.heap.size A wb:=Below.trans (And.left (by assumption)) (z.mono (Below.size (And.left (by assumption))));clear z)
   |(go_at_call 97;refine(uH K4 _ (uH F _ (And.left (by assumption)))).mono ?_;rintro e wc ⟨rfl,z⟩;have ah:Below A.heap.size A wc:=Below.trans (And.left (by assumption)) (z.mono (Below.size (And.left (by assumption))));clear z)
   |fail "NO ARM")
 all_goals
  have hn:Below A.heap.size A wc:=And.left (by assumption)
  go_wp2
  go_ret
  exact⟨rfl,uH F _ hn⟩
def tL(k:Int)(I:List Int):List Int:=Kt I.length (fun i=>xV (bH I i) (-k))
theorem Dh(k:Int)(I:List Int):(tL k I).length=I.length:=Gt _ _
theorem wE(z:Option Addr)(c:Nat)(I:List Int)(k:Int)(w:World)(G:al w z c I)(hn:I.length≤64)(X:-5000≤k∧k≤5000)(D:cq w):
  Calls Tryz.prog 241 #[.slice z I.length c,.int .i64 k] w fun e u=>e=.returned (.int .u64 (xV (sV (mu (tL k I) (tL k I) I.length)) k:Nat))∧Below w.heap.size w u:=by
 refine zX z _ c (mu (tL k I) (tL k I) I.length) (sV (mu (tL k I) (tL k I) I.length)) _ k (sF (mu (tL k I) (tL k I) I.length)) w (fun u g=>al u (some ⟨g,0,none⟩) I.length (tL k I)) (fun _ _ _ h d=>h.below d) ?_ ?_ ?_ ?_
 ·have L:=ad w (.cells #[.slice z I.length c] 22)
  have Z:=gj w (.slice z I.length c) 22
  have s0:=aq w (.cells #[.slice z I.length c] 22)
  generalize w.alloc (.cells #[.slice z I.length c] 22)=K at*
  have N:=ad K (.cells #[.int .i64 k] 3)
  have J:=gj K (.int .i64 k) 3
  have y0:=aG Z N
  generalize K.alloc (.cells #[.int .i64 k] 3)=U at*
  have F:Below w.heap.size w U:=L.trans (N.mono L.size)
  rw[s0]at J
  refine Calls.mono (Dc 270 #[.pointer (some ⟨w.heap.size,0,none⟩),.pointer (some ⟨w.heap.size+1,0,none⟩)] I.length (fun i=>xV (bH I i) (-k)) U Gu (by omega) ?_) ?_
  ·intro u j d O
   have A:Below w.heap.size w u:=F.trans (d.mono F.size)
   obtain⟨g1,o1,e1,_,z1⟩:=(G.below A).ne (by omega)
   have u0:=aG y0 d
   have u1:=aG J d
   rw[e1]at u0
   have T':=D.all A
   exact Dd (bH I j) (xV (bH I j) (-k)) j I.length c w.heap.size (w.heap.size+1) k g1 o1 u O X u0 u1 (z1 j O)
    (fun H h=>gN _ _ H (G.lt j) (T'.all h))
  ·rintro e u ⟨g,rfl,hg,hR,d⟩
   refine⟨g,rfl,?_,F.trans (d.mono F.size),aG J d⟩
   have:=hR.bits (fun x Y=>by
    obtain⟨j,_,rfl⟩:=List.mem_map.1 Y
    exact oO _ _ (G.lt j))
   simpa[tL,Kt]using this
 ·intro u g Q d
  have:=yg _ _ _ _ (tL k I) (tL k I) u Q Q rfl (by rw[Dh];omega) (D.all d)
  rw[Dh]at this
  exact this
 ·intro u d
  exact qC _ u (kw _ _ _) (D.all d)
 ·intro u d
  exact gN _ _ u (xU _ (kw _ _ _)) (D.all d)
theorem lh(a:Nat)(d:a<18446744073709551616):-1074≤eX a∧eX a≤1024:=by
 unfold eX
 split
 ·omega
 ·rename_i h
  have u:=et a (fun e=>h (by omega)) (fun e=>h (by omega))
  obtain⟨z1,z2,z,A,D,F,G,H,I⟩:=ee a d u (fun e=>h (by omega))
  omega
theorem Di(I:List Int)(k:Nat):jj I k≤9218868437227405312∨jj I k=9221120237041090560:=by
 induction k with
 |zero=>exact .inl (by show 0≤9218868437227405312;omega)
 |succ k ih=>
  show mx (jj I k) (fR (bH I k))≤9218868437227405312∨mx (jj I k) (fR (bH I k))=9221120237041090560
  have u:=jg (bH I k)
  generalize bH I k=x at*
  generalize jj I k=m at*
  by_cases h:fK m=4∨fK (fR x)=4
  ·right;unfold mx;rw[if_pos h]
  ·have e:mx m (fR x)=m∨mx m (fR x)=fR x:=by
    unfold mx
    rw[if_neg h]
    split
    ·exact .inr rfl
    ·exact .inl rfl
   rcases e with e|e
   ·rw[e];exact ih
   ·rw[e]
    left
    have z:fR (fR x)=fR x:=(i9 (fR x) u).2.1
    have d:=(cf (fR x)).1
    rw[z]at d
    rcases Nat.lt_or_ge 9218868437227405312 (fR x)with g|g
    ·exact absurd (.inr (d.2 g)) h
    ·exact g
theorem Dj:aj 9218868437227405312=false∧aj 9221120237041090560=false:=by decide
theorem Dk{m:Nat}(h:m<9218868437227405312):aj m=true:=(cf m).2.2.2 (by rw[(i9 m (by omega)).2.1];exact h)
def nG(I:List Int):Nat:=if jj I I.length=0∨aj (jj I I.length)=false then jj I I.length else xV (sV (mu (tL (eX (jj I I.length)) I) (tL (eX (jj I I.length)) I) I.length)) (eX (jj I I.length))
theorem wF(I:List Int):nG I<18446744073709551616:=by
 unfold nG
 split
 ·exact my _ _
 ·exact oO _ _ (xU _ (kw _ _ _))
theorem oX(u:Option Addr)(n c m:Nat)(w:World)(H:n≤64)(D:m=0∨m=9218868437227405312∨m=9221120237041090560)
  (z:Calls Tryz.prog 98 #[.slice u n c] w fun e d=>e=.returned (.int .u64 (m:Nat))∧Below w.heap.size w d):
  Calls Tryz.prog 210 #[.slice u n c] w fun e F=>e=.returned (.tuple #[.int .u64 (m:Nat),.int .i64 0])∧Below w.heap.size w F:=by
 have G:(n:Int)≤64:=by omega
 have A:=ac z
 clear z
 rcases D with rfl|rfl|rfl
 all_goals
  go_enter Tryz.func210,Tryz.ntmps210
  go_wp2_with fail
  refine Calls.mono (uH A) ?_
  rintro e I ⟨rfl,h⟩
  clear A
  go_wp2
  refine bodyPost_ret (v:=.tuple #[.int .u64 _,.int .i64 0]) (by simp[results,Tryz.results210,go_sem]) rfl ⟨rfl,h⟩
theorem zY(F:Option Addr)(n c m o:Nat)(k:Int)(w:World)(X:n≤64)(N:m≠0)(O:m<9218868437227405312)
  (G:Calls Tryz.prog 98 #[.slice F n c] w fun e d=>e=.returned (.int .u64 (m:Nat))∧Below w.heap.size w d)
  (H:∀h,Below w.heap.size w h→Calls Tryz.prog 119 #[.int .u64 m] h fun e d=>e=.returned (.int .i64 k)∧Below h.heap.size h d)
  (I:∀h,Below w.heap.size w h→Calls Tryz.prog 241 #[.slice F n c,.int .i64 k] h fun e d=>e=.returned (.int .u64 (o:Nat))∧Below h.heap.size h d):
  Calls Tryz.prog 210 #[.slice F n c] w fun e h=>e=.returned (.tuple #[.int .u64 (o:Nat),.int .i64 0])∧Below w.heap.size w h:=by
 have Q:(n:Int)≤64:=by omega
 have J:=ac G;have K:=ac H;have L:=ac I
 have Y:¬((m:Int)=0):=by omega
 have Z:¬((m:Int)=9218868437227405312):=by omega
 have g2:¬((m:Int)=9221120237041090560):=by omega
 clear G H I O N
 go_enter Tryz.func210,Tryz.ntmps210
 go_wp2_with fail
 refine Calls.mono (uH J) ?_
 rintro e w1 ⟨rfl,u⟩
 have B:=ac u
 clear J u
 go_wp2_with fail
 refine(uH K _ (uH B)).mono ?_
 rintro e w2 ⟨rfl,z⟩
 have D:=ac ((uH B).trans (z.mono (uH B).size))
 clear K z B
 go_wp2_with fail
 refine(uH L _ (uH D)).mono ?_
 rintro e w3 ⟨rfl,A⟩
 have U:=ac ((uH D).trans (A.mono (uH D).size))
 clear L A D
 go_wp2
 exact bodyPost_ret (v:=.tuple #[.int .u64 (o:Nat),.int .i64 0]) (by simp[results,Tryz.results210,go_sem]) rfl ⟨rfl,uH U⟩
theorem Dl(d:Option Addr)(c:Nat)(I:List Int)(w:World)(G:al w d c I)(u:I.length≤64)(H:cq w):
  Calls Tryz.prog 210 #[.slice d I.length c] w fun e z=>e=.returned (.tuple #[.int .u64 (nG I:Nat),.int .i64 0])∧Below w.heap.size w z:=by
 have D:=lf d c I w G (by omega)
 have J:=my I I.length
 unfold nG
 by_cases F:jj I I.length=0
 ·rw[if_pos (.inl F)]
  exact oX d _ c _ w u (.inl F) D
 rcases Di I I.length with h|h
 ·rcases Nat.lt_or_ge (jj I I.length) 9218868437227405312 with g|g
  ·rw[if_neg (fun e=>e.elim F (fun e=>by rw[Dk g]at e;cases e))]
   have K:=lh _ J
   exact zY d _ c _ _ (eX (jj I I.length)) w u F g D (fun z A=>tW _ z J (H.all A)) (fun z A=>wE d c I _ z (G.below A) u (by omega) (H.all A))
  ·have e:jj I I.length=9218868437227405312:=by omega
   rw[if_pos (.inr (by rw[e];exact Dj.1))]
   exact oX d _ c _ w u (.inr (.inl e)) D
 ·rw[if_pos (.inr (by rw[h];exact Dj.2))]
  exact oX d _ c _ w u (.inr (.inr h)) D
theorem EP(G:Option Addr)(c:Nat)(I:List Int)(w:World)(H:al w G c I)(U:I.length≤35184372088830):
  Calls Tryz.prog 218 #[.slice G I.length c] w fun e h=>e=.returned (.int .u64 (jj I I.length:Nat))∧Below w.heap.size w h:=by
 have J:=ac H
 obtain⟨n,d⟩:∃n,I.length=n:=⟨_,rfl⟩
 rw[d]at U⊢
 have K:=ac d
 clear H d
 go_enter Tryz.func218,Tryz.ntmps218
 go_wp2_with fail
 go_loopw[3,4] (fun t i wr=>∃k:Nat,k≤n∧i=.int .i64 k∧t=.int .u64 (jj I k:Nat)∧Hid (Below w.heap.size w wr)) (fun _ i _=>n-(intOf i).toNat)
 case atStart=>exact⟨0,Nat.zero_le _,rfl,rfl,Below.refl _ _⟩
 case round=>
  obtain⟨k,hk,rfl,rfl,z⟩:=hrel
  by_cases A:k<n
  ·have X:(k:Int)<(n:Int):=by omega
   obtain⟨b,aa,F,hb,O⟩:=((uH J).below z.out).ne (by rw[uH K];omega)
   have Y:=O k (by rw[uH K];exact A)
   have L:=ac (fun h=>zN (bH I k) h ((uH J).lt k))
   have N:=ac (fun h=>zV (jj I k) (fR (bH I k)) h (my I k) (by have:=jg (bH I k);omega))
   have Z:Hid (jj I (k+1)=mx (jj I k) (fR (bH I k))):=rfl
   subst F
   clear O
   generalize mx (jj I k) (fR (bH I k))=o at*
   generalize fR (bH I k)=r at*
   generalize bH I k=x at*
   generalize jj I k=tv at*
   go_wp2_with fail
   refine(uH L _).mono ?_
   rintro e Q ⟨rfl,rfl⟩
   go_wp2_with fail
   refine(uH N _).mono ?_
   rintro e Q ⟨rfl,u⟩
   have B2:Hid (Below w.heap.size w Q):=z.out.trans (u.mono z.out.size)
   clear u L N
   go_wp2_with fail
   go_round
   case rel=>exact⟨k+1,by omega,by go_num,by rw[Z.out],B2⟩
   case measure=>simp[intOf];omega
  ·have D:k=n:=by omega
   subst D
   go_wp2_with fail
   exact bodyPost_ret (v:=.int .u64 (jj I k:Nat)) (by simp[results,Tryz.results218,go_sem]) rfl ⟨rfl,z.out⟩
theorem li(I:List Int):∀(m k:Nat),k≤m→ja I m=true→ja I k=true:=by
 intro m
 induction m with
 |zero=>intro k u _;rw[show k=0 by omega];rfl
 |succ m ih=>
  intro k u h
  have d:(ja I m&&aj (bH I m))=true:=h
  rw[Bool.and_eq_true]at d
  by_cases e:k=m+1
  ·subst e;exact h
  ·exact ih k (by omega) d.1
theorem JL(I:List Int)(n k:Nat)(u:k<n)(h:aj (bH I k)=false):ja I n=false:=by
 cases e:ja I n
 ·rfl
 ·have d:(ja I k&&aj (bH I k))=true:=li I n (k+1) (by omega) e
  rw[h,Bool.and_false]at d
  cases d
theorem rF(L:Option Addr)(c:Nat)(I:List Int)(w:World)(N:al w L c I)(hn:I.length≤35184372088830):
  Calls Tryz.prog 53 #[.slice L I.length c] w fun e D=>e=.returned (.bool (ja I I.length))∧Below w.heap.size w D:=by
 have O:=ac N
 obtain⟨n,d⟩:∃n,I.length=n:=⟨_,rfl⟩
 rw[d]at hn⊢
 have Q:=ac d
 clear N d
 obtain⟨v,J⟩:∃v,ja I n=v:=⟨_,rfl⟩
 rw[J]
 have U:=ac J
 clear J
 go_enter Tryz.func53,Tryz.ntmps53
 go_wp2_with fail
 go_loopw[3] (fun i wr=>∃k:Nat,k≤n∧i=.int .i64 k∧Hid (ja I k=true)∧Hid (Below w.heap.size w wr)) (fun i _=>n-(intOf i).toNat)
 case atStart=>exact⟨0,Nat.zero_le _,rfl,rfl,Below.refl _ _⟩
 case round=>
  obtain⟨k,hk,rfl,Y,A⟩:=hrel
  by_cases z:k<n
  ·have aa:(k:Int)<(n:Int):=by omega
   obtain⟨b,ah,K,hb,Z⟩:=((uH O).below A.out).ne (by rw[uH Q];omega)
   have ae:=Z k (by rw[uH Q];exact z)
   have u:=ac (fun D=>gX (bH I k) D ((uH O).lt k))
   have X:Hid (ja I (k+1)=(ja I k&&aj (bH I k))):=rfl
   have eF:=ac (fun h=>JL I n k z h)
   subst K
   clear Z
   generalize bH I k=x at*
   cases hf:aj x
   ·have F:=ac ((uH U).symm.trans (uH eF hf))
    rw[hf]at u
    have G:=uH F
    subst G
    go_wp2_with fail
    refine(uH u _).mono ?_
    rintro e w2 ⟨rfl,rfl⟩
    clear u
    go_wp2_with fail
    exact bodyPost_ret (v:=.bool false) (by simp[results,Tryz.results53,go_sem]) rfl ⟨rfl,A.out⟩
   ·rw[hf]at u X
    go_wp2_with fail
    refine(uH u _).mono ?_
    rintro e w2 ⟨rfl,rfl⟩
    clear u
    go_wp2_with fail
    go_round
    case rel=>exact⟨k+1,by omega,by go_num,by unfold Hid;rw[X.out,Y.out];rfl,A⟩
    case measure=>simp[intOf];omega
  ·have H:k=n:=by omega
   subst H
   have F:=(uH U).symm.trans Y.out
   subst F
   go_wp2_with fail
   exact bodyPost_ret (v:=.bool true) (by simp[results,Tryz.results53,go_sem]) rfl ⟨rfl,A.out⟩
def sK(K:Int)(x:Nat):Bool:=aj x&&(decide (fK x=0)||decide (-K≤eX x∧eX x<K))
def sL(K:Int)(I:List Int):Nat→Bool
 |0=>true
 |k+1=>sL K I k&&sK K (bH I k)
theorem Dm(K:Int)(I:List Int):∀(m k:Nat),k≤m→sL K I m=true→sL K I k=true:=by
 intro m
 induction m with
 |zero=>intro k u _;rw[show k=0 by omega];rfl
 |succ m ih=>
  intro k u h
  have d:(sL K I m&&sK K (bH I m))=true:=h
  rw[Bool.and_eq_true]at d
  by_cases e:k=m+1
  ·subst e;exact h
  ·exact ih k (by omega) d.1
theorem Dn(K:Int)(I:List Int)(n k:Nat)(u:k<n)(h:sL K I n=true):sK K (bH I k)=true:=by
 have d:(sL K I k&&sK K (bH I k))=true:=Dm K I n (k+1) (by omega) h
 rw[Bool.and_eq_true]at d
 exact d.2
theorem JM(K:Int)(I:List Int)(n k:Nat)(d:k<n)(h:sK K (bH I k)=false):sL K I n=false:=by
 cases e:sL K I n
 ·rfl
 ·rw[Dn K I n k d e]at h
  cases h
theorem Do(K:Int)(x:Nat):(aj x=false∧sK K x=false)∨(aj x=true∧fK x=0∧sK K x=true)∨(aj x=true∧fK x≠0∧eX x< -K∧sK K x=false)∨(aj x=true∧fK x≠0∧-K≤eX x∧K≤eX x∧sK K x=false)∨(aj x=true∧fK x≠0∧-K≤eX x∧eX x<K∧sK K x=true):=by
 unfold sK
 cases hf:aj x
 ·exact .inl ⟨rfl,rfl⟩
 ·right
  by_cases d:fK x=0
  ·left;exact⟨rfl,d,by rw[decide_eq_true d];rfl⟩
  ·right
   rw[decide_eq_false d]
   by_cases h:eX x< -K
   ·left;exact⟨rfl,d,h,by rw[decide_eq_false (by omega)];rfl⟩
   ·right
    by_cases u:K≤eX x
    ·left;exact⟨rfl,d,by omega,u,by rw[decide_eq_false (by omega)];rfl⟩
    ·right;exact⟨rfl,d,by omega,by omega,by rw[decide_eq_true (by omega)];rfl⟩
theorem wG(ao:Option Addr)(c:Nat)(I:List Int)(K:Int)(w:World)(hI:al w ao c I)(hn:I.length≤35184372088830)(hK:-5000≤K∧K≤5000):
  Calls Tryz.prog 44 #[.slice ao I.length c,.int .i64 K] w fun e Q=>e=.returned (.bool (sL K I I.length))∧Below w.heap.size w Q:=by
 have HI:=ac hI
 obtain⟨n,X⟩:∃n,I.length=n:=⟨_,rfl⟩
 rw[X]at hn⊢
 have HN:=ac X
 have hw:IntKind.i64.wrap (-K)= -K:=by simp only[IntKind.wrap_i64];omega
 clear hI X hK
 obtain⟨v,hv⟩:∃v,sL K I n=v:=⟨_,rfl⟩
 rw[hv]
 have HV:=ac hv
 clear hv
 go_enter Tryz.func44,Tryz.ntmps44
 go_wp2_with fail
 go_loopw[5] (fun i wr=>∃k:Nat,k≤n∧i=.int .i64 k∧Hid (sL K I k=true)∧Hid (Below w.heap.size w wr)) (fun i _=>n-(intOf i).toNat)
 case atStart=>exact⟨0,Nat.zero_le _,rfl,rfl,Below.refl _ _⟩
 case round=>
  obtain⟨k,hk,rfl,hq,J⟩:=hrel
  by_cases Z:k<n
  ·have an:(k:Int)<(n:Int):=by omega
   obtain⟨b,ar,am,hb,hc⟩:=((uH HI).below J.out).ne (by rw[uH HN];omega)
   have u:=ac (hc k (by rw[uH HN];exact Z))
   have L:=(uH HI).lt k
   have G:=ac (fun Q=>gX (bH I k) Q L)
   have N:=ac (fun Q=>jG (bH I k) Q L)
   have H:=ac (fun Q=>zK (bH I k) Q L)
   have eV:Hid (sL K I (k+1)=(sL K I k&&sK K (bH I k))):=rfl
   have O:=ac (fun h=>JM K I n k Z h)
   have Y:=ac (Do K (bH I k))
   subst am
   clear hc L
   generalize sK K (bH I k)=tb at*
   generalize eX (bH I k)=ex at*
   generalize fK (bH I k)=kd at*
   generalize aj (bH I k)=ff at*
   generalize bH I k=x at*
   rcases uH Y with⟨rfl,rfl⟩|⟨rfl,rfl,rfl⟩|⟨rfl,g0,g1,rfl⟩|⟨rfl,g0,g1,g2,rfl⟩|⟨rfl,g0,g1,g2,rfl⟩
   ·have D:=(uH HV).symm.trans (uH O rfl)
    subst D
    clear Y O
    have A:=uH u
    go_wp2_with fail
    refine(uH G _).mono ?_
    rintro e z ⟨rfl,rfl⟩
    clear G N H
    go_wp2_with fail
    exact bodyPost_ret (v:=.bool false) (by simp[results,Tryz.results44,go_sem]) rfl ⟨rfl,J.out⟩
   ·clear Y O
    have A:=uH u
    go_wp2_with fail
    refine(uH G _).mono ?_
    rintro e z ⟨rfl,rfl⟩
    go_wp2_with fail
    refine(uH N _).mono ?_
    rintro e z ⟨rfl,rfl⟩
    clear G N H
    go_wp2_with fail
    go_round
    case rel=>exact⟨k+1,by omega,by go_num,by unfold Hid;rw[eV.out,hq.out];rfl,J⟩
    case measure=>simp[intOf];omega
   ·have D:=(uH HV).symm.trans (uH O rfl)
    subst D
    clear Y O
    have A:=uH u
    have aa:(kd==0)=false:=by rw[beq_eq_false_iff_ne];exact g0
    go_wp2_with fail
    refine(uH G _).mono ?_
    rintro e z ⟨rfl,rfl⟩
    go_wp2_with fail
    refine(uH N _).mono ?_
    rintro e z ⟨rfl,rfl⟩
    go_wp2_with fail
    refine(uH H _).mono ?_
    rintro e z ⟨rfl,d⟩
    have U:Hid (Below w.heap.size w z):=J.out.trans (d.mono J.out.size)
    clear G N H d
    go_wp2_with fail
    exact bodyPost_ret (v:=.bool false) (by simp[results,Tryz.results44,go_sem]) rfl ⟨rfl,U.out⟩
   ·have D:=(uH HV).symm.trans (uH O rfl)
    subst D
    clear Y O
    have A:=uH u
    have HC:=u
    have aa:(kd==0)=false:=by rw[beq_eq_false_iff_ne];exact g0
    go_wp2_with fail
    refine(uH G _).mono ?_
    rintro e z ⟨rfl,rfl⟩
    go_wp2_with fail
    refine(uH N _).mono ?_
    rintro e z ⟨rfl,rfl⟩
    go_wp2_with fail
    refine(uH H _).mono ?_
    rintro e z ⟨rfl,d⟩
    have ae:=aG (uH HC) d
    have U:Hid (Below w.heap.size w z):=J.out.trans (d.mono J.out.size)
    clear G N d A
    go_wp2_with fail
    refine(uH H _).mono ?_
    rintro e w3 ⟨rfl,F⟩
    have B3:Hid (Below w.heap.size w w3):=U.out.trans (F.mono U.out.size)
    clear H F
    go_wp2_with fail
    exact bodyPost_ret (v:=.bool false) (by simp[results,Tryz.results44,go_sem]) rfl ⟨rfl,B3.out⟩
   ·clear Y O
    have A:=uH u
    have HC:=u
    have aa:(kd==0)=false:=by rw[beq_eq_false_iff_ne];exact g0
    go_wp2_with fail
    refine(uH G _).mono ?_
    rintro e z ⟨rfl,rfl⟩
    go_wp2_with fail
    refine(uH N _).mono ?_
    rintro e z ⟨rfl,rfl⟩
    go_wp2_with fail
    refine(uH H _).mono ?_
    rintro e z ⟨rfl,d⟩
    have ae:=aG (uH HC) d
    have U:Hid (Below w.heap.size w z):=J.out.trans (d.mono J.out.size)
    clear G N d A
    go_wp2_with fail
    refine(uH H _).mono ?_
    rintro e w3 ⟨rfl,F⟩
    have B3:Hid (Below w.heap.size w w3):=U.out.trans (F.mono U.out.size)
    clear H F
    go_wp2_with fail
    go_round
    case rel=>exact⟨k+1,by omega,by go_num,by unfold Hid;rw[eV.out,hq.out];rfl,B3⟩
    case measure=>simp[intOf];omega
  ·have ah:k=n:=by omega
   subst ah
   have e2:=(uH HV).symm.trans hq.out
   subst e2
   go_wp2_with fail
   exact bodyPost_ret (v:=.bool true) (by simp[results,Tryz.results44,go_sem]) rfl ⟨rfl,J.out⟩
end Go.Proofs.YtcbcmlaogehimaaGreatDoor
