/- Part 20 of the texts. -/
import Derived.Test.YtdhmglmccafbnaaGreatDoorPartw19
import Derived.Deep.OwnRows
set_option maxHeartbeats 4000000
set_option maxRecDepth 20000
namespace Go.Proofs.YtdhmglmccafbnaaGreatDoor
open Go.RowKit
theorem iR(a b:Nat)(w:World)(h:a<18446744073709551616)(l:b<18446744073709551616)(u:bT w):
  Calls Tryz.prog 260 #[.int .u64 a,.int .u64 b] w fun r w'=>r=.returned (.int .u64 (aV a b:Nat))∧Below w.heap.size w w':=by
 have K:=aa (sI a b w h l u)
 clear h l u
 generalize aV a b=o at*
 generalize aF a b=f at*
 go_enter Tryz.func260,Tryz.ntmps260
 go_wp2_with fail
 refine Calls.mono (uH K) ?_
 rintro e z ⟨rfl,d⟩
 clear K
 go_wp2
 go_ret
 exact⟨rfl,d⟩
theorem eh(a b:Nat)(w:World)(h:a<18446744073709551616)(l:b<18446744073709551616)(u:bT w):
  Calls Tryz.prog 175 #[.int .u64 a,.int .u64 b] w fun r w'=>r=.returned (.int .u64 (mV a b:Nat))∧Below w.heap.size w w':=by
 have K:=aa (Ai a b w h l u)
 clear h l u
 generalize mV a b=o at*
 generalize mF a b=f at*
 go_enter Tryz.func175,Tryz.ntmps175
 go_wp2_with fail
 refine Calls.mono (uH K) ?_
 rintro e z ⟨rfl,d⟩
 clear K
 go_wp2
 go_ret
 exact⟨rfl,d⟩
theorem eH(a:Nat)(n:Int)(w:World)(h:a<18446744073709551616)(l:bT w):
  Calls Tryz.prog 99 #[.int .u64 a,.int .i64 n] w fun r w'=>r=.returned (.int .u64 (xV a n:Nat))∧Below w.heap.size w w':=by
 have K:=aa (uv a n w h l)
 clear h l
 generalize xV a n=o at*
 generalize xF a n=f at*
 go_enter Tryz.func99,Tryz.ntmps99
 go_wp2_with fail
 refine Calls.mono (uH K) ?_
 rintro e u ⟨rfl,d⟩
 clear K
 go_wp2
 go_ret
 exact⟨rfl,d⟩
theorem AM(z D:Option Addr)(n m c d:Nat)(w:World):
  Calls Tryz.prog 228 #[.slice z n c,.slice D m d] w fun r w'=>r=.returned (.bool (decide (n≤64∧n=m)))∧w=w':=by
 by_cases u:n≤64
 ·have f:(n:Int)≤64:=by omega
  by_cases l:n=m
  ·rw[decide_eq_true (And.intro u l)]
   subst l
   go_enter Tryz.func228,Tryz.ntmps228
   go_wp2
   go_ret
   exact⟨rfl,rfl⟩
  ·rw[decide_eq_false (fun h=>l h.2)]
   have F:decide ((n:Int)=(m:Int))=false:=decide_eq_false (by omega)
   go_enter Tryz.func228,Tryz.ntmps228
   go_wp2
   go_ret
   exact⟨by simp;omega,rfl⟩
 ·rw[decide_eq_false (fun h=>u h.1)]
  have f:(64:Int)<(n:Int):=by omega
  go_enter Tryz.func228,Tryz.ntmps228
  go_wp2
  go_ret
  exact⟨by simp,rfl⟩
theorem gA(b:Nat)(w:World)(_h:b<18446744073709551616):
  Calls Tryz.prog 162 #[.int .u64 b] w fun r w'=>r=.returned (.float .f64 b)∧w=w':=by
 have hF:=fun W=>dW b W
 have d:IntKind.u64.wrap (b:Int)=(b:Int):=by simp only[IntKind.wrap_u64];omega
 go_enter Tryz.func162,Tryz.ntmps162
 go_wp2
 go_ret
 exact⟨rfl,rfl⟩
theorem pT(R v:Nat)(w:World)(C:∀w',Calls Tryz.prog 108 #[.int .u64 (R:Nat)] w' fun r d=>r=.returned (.int .u64 (v:Nat))∧w'=d):
  Calls Tryz.prog 55 #[.float .f64 R] w fun r w'=>r=.returned (.int .u64 (v:Nat))∧w=w':=by
 have K:=aa C
 have f:=fun R W=>kn R W
 clear C
 go_enter Tryz.func55,Tryz.ntmps55
 go_wp2_with fail
 refine(uH K _).mono ?_
 rintro e h ⟨rfl,rfl⟩
 clear K
 go_wp2
 go_ret
 exact⟨rfl,rfl⟩
theorem AN(a b v:Nat)(o:Option Nat)(w:World)
  (H:∀i w',(binOp .add i (.float .f64 a) (.float .f64 b)).run Tryz.prog w'=.ok (.float .f64 (fk o a b w')) (le o w'))
  (f:∀w',Calls Tryz.prog 162 #[.int .u64 a] w' fun r d=>r=.returned (.float .f64 a)∧w'=d)
  (h:∀w',Calls Tryz.prog 162 #[.int .u64 b] w' fun r d=>r=.returned (.float .f64 b)∧w'=d)
  (l:∀u w',Calls Tryz.prog 55 #[.float .f64 (fk o a b u)] w' fun r d=>r=.returned (.int .u64 v)∧w'=d):
  Calls Tryz.prog 132 #[.int .u64 a,.int .u64 b] w fun r w'=>r=.returned (.int .u64 (v:Nat))∧Below w.heap.size w w':=by
 have z:=aa f;have D:=aa h;have F:=aa l
 have B:=aa (f9 o w)
 clear f h l
 go_enter Tryz.func132,Tryz.ntmps132
 go_wp2_with fail
 refine(uH z _).mono ?_
 rintro e G ⟨rfl,rfl⟩
 go_wp2_with fail
 refine(uH D _).mono ?_
 rintro e G ⟨rfl,rfl⟩
 go_wp2_with fail
 refine(uH F _ _).mono ?_
 rintro e G ⟨rfl,rfl⟩
 clear z D F
 go_wp2
 go_ret
 exact⟨rfl,uH B⟩
theorem fJ(a b:Nat)(w:World)(f:a<18446744073709551616)(h:b<18446744073709551616):
  Calls Tryz.prog 132 #[.int .u64 a,.int .u64 b] w fun r w'=>r=.returned (.int .u64 (aV a b:Nat))∧Below w.heap.size w w':=
 AN a b (aV a b) (Ieee.double.add a b) w (fun i w'=>Am i a b w') (fun w'=>gA a w' f) (fun w'=>gA b w' h) (fun u w'=>pT _ _ w' (fun d=>pO a b u d f h))
theorem AO(a b v:Nat)(o:Option Nat)(w:World)
  (H:∀i w',(binOp .mul i (.float .f64 a) (.float .f64 b)).run Tryz.prog w'=.ok (.float .f64 (fk o a b w')) (le o w'))
  (f:∀w',Calls Tryz.prog 162 #[.int .u64 a] w' fun r d=>r=.returned (.float .f64 a)∧w'=d)
  (h:∀w',Calls Tryz.prog 162 #[.int .u64 b] w' fun r d=>r=.returned (.float .f64 b)∧w'=d)
  (l:∀u w',Calls Tryz.prog 55 #[.float .f64 (fk o a b u)] w' fun r d=>r=.returned (.int .u64 v)∧w'=d):
  Calls Tryz.prog 133 #[.int .u64 a,.int .u64 b] w fun r w'=>r=.returned (.int .u64 (v:Nat))∧Below w.heap.size w w':=by
 have z:=aa f;have D:=aa h;have F:=aa l
 have B:=aa (f9 o w)
 clear f h l
 go_enter Tryz.func133,Tryz.ntmps133
 go_wp2_with fail
 refine(uH z _).mono ?_
 rintro e G ⟨rfl,rfl⟩
 go_wp2_with fail
 refine(uH D _).mono ?_
 rintro e G ⟨rfl,rfl⟩
 go_wp2_with fail
 refine(uH F _ _).mono ?_
 rintro e G ⟨rfl,rfl⟩
 clear z D F
 go_wp2
 go_ret
 exact⟨rfl,uH B⟩
theorem cT(a b:Nat)(w:World)(f:a<18446744073709551616)(h:b<18446744073709551616):
  Calls Tryz.prog 133 #[.int .u64 a,.int .u64 b] w fun r w'=>r=.returned (.int .u64 (mV a b:Nat))∧Below w.heap.size w w':=
 AO a b (mV a b) (Ieee.double.mul a b) w (fun i w'=>sO i a b w') (fun w'=>gA a w' f) (fun w'=>gA b w' h) (fun u w'=>pT _ _ w' (fun d=>xG a b u d f h))
theorem ya(a v:Nat)(o:Option Nat)(w:World)
  (f:∀w',Calls Tryz.prog 162 #[.int .u64 a] w' fun r d=>r=.returned (.float .f64 a)∧w'=d)
  (h:∀w',Calls Tryz.prog 217 #[.float .f64 a] w' fun r d=>r=.returned (.float .f64 (fk o a a w'))∧d=le o w')
  (l:∀u w',Calls Tryz.prog 55 #[.float .f64 (fk o a a u)] w' fun r d=>r=.returned (.int .u64 v)∧w'=d):
  Calls Tryz.prog 163 #[.int .u64 a] w fun r w'=>r=.returned (.int .u64 (v:Nat))∧Below w.heap.size w w':=by
 have z:=aa f;have D:=aa h;have F:=aa l
 have B:=aa (f9 o w)
 clear f h l
 go_enter Tryz.func163,Tryz.ntmps163
 go_wp2_with fail
 refine(uH z _).mono ?_
 rintro e G ⟨rfl,rfl⟩
 go_wp2_with fail
 refine(uH D _).mono ?_
 rintro e G ⟨rfl,rfl⟩
 go_wp2_with fail
 refine(uH F _ _).mono ?_
 rintro e G ⟨rfl,rfl⟩
 clear z D F
 go_wp2
 go_ret
 exact⟨rfl,uH B⟩
theorem jJ(a:Nat)(w:World)(f:a<18446744073709551616):
  Calls Tryz.prog 163 #[.int .u64 a] w fun r w'=>r=.returned (.int .u64 (sV a:Nat))∧Below w.heap.size w w':=
 ya a (sV a) (Ieee.double.sqrt a) w (fun w'=>gA a w' f) (fun w'=>xZ a _ w' (fun W=>xY a W)) (fun u w'=>pT _ _ w' (fun d=>uN a u d f))
theorem uO(a l v:Nat)(n:Int)(w:World)
  (f:∀w',Calls Tryz.prog 162 #[.int .u64 a] w' fun r d=>r=.returned (.float .f64 a)∧w'=d)
  (h:∀w',Calls Tryz.prog 161 #[.float .f64 a,.int .i64 n] w' fun r d=>r=.returned (.float .f64 l)∧w'=d)
  (u:∀w',Calls Tryz.prog 55 #[.float .f64 l] w' fun r d=>r=.returned (.int .u64 v)∧w'=d):
  Calls Tryz.prog 93 #[.int .u64 a,.int .i64 n] w fun r w'=>r=.returned (.int .u64 (v:Nat))∧Below w.heap.size w w':=by
 have z:=aa f;have D:=aa h;have F:=aa u
 clear f h u
 go_enter Tryz.func93,Tryz.ntmps93
 go_wp2_with fail
 refine(uH z _).mono ?_
 rintro e G ⟨rfl,rfl⟩
 go_wp2_with fail
 refine(uH D _).mono ?_
 rintro e G ⟨rfl,rfl⟩
 go_wp2_with fail
 refine(uH F _).mono ?_
 rintro e G ⟨rfl,rfl⟩
 clear z D F
 go_wp2
 go_ret
 exact⟨rfl,Below.refl _ _⟩
theorem dY(a:Nat)(n:Int)(w:World)(d:a<18446744073709551616)(h:-5000≤n∧n≤5000):
  Calls Tryz.prog 93 #[.int .u64 a,.int .i64 n] w fun r w'=>r=.returned (.int .u64 (xV a n:Nat))∧Below w.heap.size w w':=
 uO a (lV a n) (xV a n) n w (fun w'=>gA a w' d) (fun w'=>xO a n w' d h) (fun w'=>pT _ _ w' (fun f=>Aw a n f d))
theorem lU(D:Nat)(l:Array Value)(n:Nat)(f:Nat→Nat)(w:World)
  (L:∀u w,(callFunc D u).run Tryz.prog w=.ok (.enter D u) w) (V:n≤35184372088830)
  (d:∀w' k,Below w.heap.size w w'→k<n→Calls Tryz.prog D (#[.int .u64 (f k:Nat),.int .i64 (k:Nat)]++l) w' fun e G=>e=.returned (.int .u64 (f (k+1):Nat))∧Below w'.heap.size w' G):
  Calls Tryz.prog 184 #[.int .i64 n,.int .u64 (f 0:Nat),.func (.func D) #[] l] w fun e w'=>e=.returned (.int .u64 (f n:Nat))∧Below w.heap.size w w':=by
 have M:=aa d
 clear d
 go_enter Tryz.func184,Tryz.ntmps184
 go_wp2_with fail
 go_loopw[7,11] (fun t i wr=>∃k:Nat,k≤n∧i=.int .i64 k∧t=.int .u64 (f k:Nat)∧Hid (Below w.heap.size w wr)) (fun _ i _=>n-(intOf i).toNat)
 case atStart=>exact⟨0,Nat.zero_le _,rfl,rfl,Below.refl _ _⟩
 case round=>
  obtain⟨k,X,rfl,rfl,F⟩:=hrel
  by_cases H:k<n
  ·have N:(k:Int)<(n:Int):=by omega
   have C:=aa (fun w' h=>uH M w' k h H)
   obtain⟨o,K⟩:∃o,f (k+1)=o:=⟨_,rfl⟩
   rw[K]at C
   have O:=aa K
   clear K
   go_wp2_with fail
   refine(uH C _ F.out).mono ?_
   rintro e U ⟨rfl,z⟩
   have Q:Hid (Below w.heap.size w U):=F.out.trans (z.mono F.out.size)
   clear z C
   go_wp2_with fail
   go_round
   case rel=>exact⟨k+1,by omega,by go_num,by rw[uH O],Q⟩
   case measure=>simp[intOf];omega
  ·have J:k=n:=by omega
   subst J
   go_wp2_with fail
   exact bodyPost_ret (v:=.int .u64 (f k:Nat)) (by simp[results,Tryz.results184,go_sem]) rfl ⟨rfl,F.out⟩
theorem sX(D:Nat)(l:Array Value)(n:Nat)(f:Nat→Bool)(w:World)
  (L:∀u w,(callFunc D u).run Tryz.prog w=.ok (.enter D u) w) (V:n≤35184372088830)
  (d:∀w' k,Below w.heap.size w w'→k<n→Calls Tryz.prog D (#[.bool (f k),.int .i64 (k:Nat)]++l) w' fun e G=>e=.returned (.bool (f (k+1)))∧Below w'.heap.size w' G):
  Calls Tryz.prog 201 #[.int .i64 n,.bool (f 0),.func (.func D) #[] l] w fun e w'=>e=.returned (.bool (f n))∧Below w.heap.size w w':=by
 have M:=aa d
 clear d
 go_enter Tryz.func201,Tryz.ntmps201
 go_wp2_with fail
 go_loopw[7,11] (fun t i wr=>∃k:Nat,k≤n∧i=.int .i64 k∧t=.bool (f k)∧Hid (Below w.heap.size w wr)) (fun _ i _=>n-(intOf i).toNat)
 case atStart=>exact⟨0,Nat.zero_le _,rfl,rfl,Below.refl _ _⟩
 case round=>
  obtain⟨k,X,rfl,rfl,F⟩:=hrel
  by_cases H:k<n
  ·have N:(k:Int)<(n:Int):=by omega
   have C:=aa (fun w' h=>uH M w' k h H)
   obtain⟨o,K⟩:∃o,f (k+1)=o:=⟨_,rfl⟩
   rw[K]at C
   have O:=aa K
   clear K
   go_wp2_with fail
   refine(uH C _ F.out).mono ?_
   rintro e U ⟨rfl,z⟩
   have Q:Hid (Below w.heap.size w U):=F.out.trans (z.mono F.out.size)
   clear z C
   go_wp2_with fail
   go_round
   case rel=>exact⟨k+1,by omega,by go_num,by rw[uH O],Q⟩
   case measure=>simp[intOf];omega
  ·have J:k=n:=by omega
   subst J
   go_wp2_with fail
   exact bodyPost_ret (v:=.bool (f k)) (by simp[results,Tryz.results201,go_sem]) rfl ⟨rfl,F.out⟩
def gW(x:Nat):Value:=.int .u64 (x:Int)
def bp(w:World)(g:Nat)(S:List Nat):Prop:=w.heap[g]? =some (.cells (S.map gW).toArray 28 (0,0))
theorem bp.cell{w:World}{g:Nat}{S:List Nat}(h:bp w g S)(j:Nat)(d:j<S.length):w.cell? ⟨g,j,none⟩=some (.int .u64 ((S[j]?.getD 0:Nat):Int)):=by
 rw[cell_of_row w g j _ _ _ h]
 simp[gW,d]
theorem bp.free{w:World}{g:Nat}{S:List Nat}(h:bp w g S)(j:Nat):w.frozen? ⟨g,j,none⟩=false:=frozen_of_row w g j _ _ h
theorem bp.set{w:World}{g:Nat}{S:List Nat}(h:bp w g S)(j x:Nat):bp (w.setCell ⟨g,j,none⟩ (.int .u64 (x:Int))) g (S.set j x):=by
 unfold bp
 rw[heap_setCell_same w g j _ _ _ h]
 simp[gW,List.map_set]
theorem bp.lt{w:World}{g:Nat}{S:List Nat}(h:bp w g S):g<w.heap.size:=(Array.getElem?_eq_some_iff.1 h).1
theorem bp.below{w w':World}{g:Nat}{S:List Nat}(h:bp w g S){B:Nat}(d:Below B w w')(f:g<B):bp w' g S:=by
 unfold bp;rw[d.block g f];exact h
theorem bp.made(w:World)(n:Nat):bp (w.alloc (.cells (madeCells #[.int .u64 0] n) 28)) w.heap.size (List.replicate n 0):=by
 unfold bp
 rw[heap_alloc_new w _]
 have:madeCells #[Value.int .u64 0] n=((List.replicate n 0).map gW).toArray:=by
  apply Array.toList_inj.1
  refine List.ext_getElem (by simp[madeCells]) fun i d f=>?_
  simp[madeCells,gW,Nat.mod_one]
 rw[this]
def pU(f:Nat→Nat)(n k:Nat):List Nat:=(List.range n).map (fun j=>if j<k then f j else 0)
theorem sY(f:Nat→Nat)(n:Nat):pU f n 0=List.replicate n 0:=by
 unfold pU
 refine List.ext_getElem (by simp) fun i d h=>?_
 simp
theorem kv(f:Nat→Nat)(n k:Nat):(pU f n k).length=n:=by simp[pU]
theorem kw(f:Nat→Nat)(n k:Nat):(pU f n k).set k (f k)=pU f n (k+1):=by
 unfold pU
 refine List.ext_getElem (by simp) fun i l u=>?_
 rw[List.getElem_set]
 simp only[List.getElem_map,List.getElem_range]
 by_cases h:k=i
 ·subst h;simp
 ·rw[if_neg h]
  by_cases d:i<k
  ·rw[if_pos d,if_pos (by omega)]
  ·rw[if_neg d,if_neg (by omega)]
theorem iS(f:Nat→Nat)(n:Nat):pU f n n=(List.range n).map f:=by
 unfold pU
 refine List.ext_getElem (by simp) fun i h d=>?_
 simp only[List.getElem_map,List.getElem_range]
 rw[if_pos (by simpa using d)]
theorem AP(H:Nat)(u:Array Value)(n:Nat)(f:Nat→Nat)(w:World)
  (V:∀z w,(callFunc H z).run Tryz.prog w=.ok (.enter H z) w) (hn:n≤35184372088830)
  (d:∀w' k,Below w.heap.size w w'→k<n→Calls Tryz.prog H (#[.int .i64 (k:Nat)]++u) w' fun e K=>e=.returned (.int .u64 (f k:Nat))∧Below w'.heap.size w' K):
  Calls Tryz.prog 291 #[.int .i64 n,.func (.func H) #[] u] w fun e w'=>∃g,e=.returned (.slice (some ⟨g,0,none⟩) n n)∧w.heap.size≤g∧bp w' g ((List.range n).map f)∧Below w.heap.size w w':=by
 have X:=aa d
 have L:=run_make_row' (P:=Tryz.prog) 23 28 (.int .u64 0) 8 Tryz.underlying23 (by kernel_rfl) rfl .i64 .i64 n (by omega) (by omega)
 have O:=aa (bp.made w n)
 have Q:=aa ((Below.refl w.heap.size w).alloc (Nat.le_refl _) (.cells (madeCells #[.int .u64 0] n) 28))
 clear d
 go_enter Tryz.func291,Tryz.ntmps291
 go_wp2_with fail
 clear L
 go_loopw[10] (fun i wr=>∃k:Nat,k≤n∧i=.int .i64 k∧Hid (bp wr w.heap.size (pU f n k))∧Hid (Below w.heap.size w wr)) (fun i _=>n-(intOf i).toNat)
 case atStart=>exact⟨0,Nat.zero_le _,rfl,by rw[sY];exact O,Q⟩
 case round=>
  clear O Q
  obtain⟨k,hk,rfl,J,G⟩:=hrel
  by_cases F:k<n
  ·have Y:(k:Int)<(n:Int):=by omega
   have C:=aa (fun w' h=>uH X w' k h F)
   obtain⟨o,N⟩:∃o,f k=o:=⟨_,rfl⟩
   rw[N]at C
   have Z:=aa N
   clear N
   go_wp2_with fail
   refine(uH C _ G.out).mono ?_
   rintro e w2 ⟨rfl,D⟩
   have l:=(uH J).below D (uH J).lt
   have c0:=l.cell k (by rw[kv];exact F)
   have f0:=l.free k
   have R3:=aa (l.set k o)
   have U:Below w.heap.size w w2:=G.out.trans (D.mono G.out.size)
   have B3:=aa (U.setCell (p:=⟨w.heap.size,k,none⟩) (Nat.le_refl _) (.int .u64 (o:Int)))
   clear D C J G U l
   go_wp2_with fail
   go_round
   case rel=>exact⟨k+1,by omega,by go_num,by rw[←kw,uH Z];exact R3,B3⟩
   case measure=>simp[intOf];omega
  ·have M:k=n:=by omega
   subst M
   go_wp2_with fail
   exact bodyPost_ret (v:=.slice (some ⟨w.heap.size,0,none⟩) k k) (by simp[results,Tryz.results291,go_sem]) rfl ⟨_,rfl,Nat.le_refl _,by rw[←iS];exact uH J,G.out⟩
attribute [local go_sem ↓] Go.wp_at_zero Go.wp_at_succ
theorem ak{w w':World}{p:Addr}{v:Value}(h:w.cell? p=some v)(d:Below w.heap.size w w'):w'.cell? p=some v:=by
 rw[d.cell (World.block_lt_of_cell? w _ h)];exact h
theorem Eo(s x y p o k n m c d J f:Nat)(u z D F:Nat)(w:World)(hk:k<n)(hm:k<m)
  (K:w.cell? ⟨J,0,none⟩=some (.slice (some ⟨u,z,none⟩) n c)) (L:w.cell? ⟨f,0,none⟩=some (.slice (some ⟨D,F,none⟩) m d))
  (M:w.cell? ⟨u,z+k,none⟩=some (.int .u64 (x:Nat))) (N:w.cell? ⟨D,F+k,none⟩=some (.int .u64 (y:Nat)))
  (O:∀w',Below w.heap.size w w'→Calls Tryz.prog 175 #[.int .u64 x,.int .u64 y] w' fun r l=>r=.returned (.int .u64 (p:Nat))∧Below w'.heap.size w' l)
  (Q:∀w',Below w.heap.size w w'→Calls Tryz.prog 260 #[.int .u64 s,.int .u64 p] w' fun r l=>r=.returned (.int .u64 (o:Nat))∧Below w'.heap.size w' l):
  Calls Tryz.prog 259 #[.int .u64 s,.int .i64 k,.pointer (some ⟨J,0,none⟩),.pointer (some ⟨f,0,none⟩)] w fun e w'=>e=.returned (.int .u64 (o:Nat))∧Below w.heap.size w w':=by
 have V:=aa O;have X:=aa Q
 have Y:(k:Int)<(n:Int):=by omega
 have Z:(k:Int)<(m:Int):=by omega
 have U:=aa (fun w' (h:Below w.heap.size w w')=>(show Below w.heap.size w w'∧w'.cell? ⟨J,0,none⟩=some (.slice (some ⟨u,z,none⟩) n c)∧w'.cell? ⟨f,0,none⟩=some (.slice (some ⟨D,F,none⟩) m d)∧w'.cell? ⟨u,z+k,none⟩=some (.int .u64 (x:Nat))∧w'.cell? ⟨D,F+k,none⟩=some (.int .u64 (y:Nat))from
  ⟨h,ak K h,ak L h,ak M h,ak N h⟩))
 clear O Q K L M N
 go_enter Tryz.func259,Tryz.ntmps259
 go_wp2_with fail
 go_region_held3(fun w'=>Below w.heap.size w w'∧w'.cell? ⟨J,0,none⟩=some (.slice (some ⟨u,z,none⟩) n c)∧w'.cell? ⟨f,0,none⟩=some (.slice (some ⟨D,F,none⟩) m d)∧w'.cell? ⟨u,z+k,none⟩=some (.int .u64 (x:Nat))∧w'.cell? ⟨D,F+k,none⟩=some (.int .u64 (y:Nat)))
  (first|exact uH U _ (Below.refl _ _).drew|exact uH U _ (by assumption)|fail "KK")
  (first|(go_at_call 175;refine(uH V _ (And.left (by assumption))).mono ?_;rintro e w1 ⟨rfl,G⟩;have ae:Below w.heap.size w w1:=Below.trans (And.left (by assumption)) (G.mono (Below.size (And.left (by assumption))));clear G)|(go_at_call 260;refine(uH X _ (And.left (by assumption))).mono ?_;rintro e w2 ⟨rfl,H⟩;have am:Below w.heap.size w w2:=Below.trans (And.left (by assumption)) (H.mono (Below.size (And.left (by assumption))));clear H)|fail "NO ARM")
 go_wp2
 go_ret
 exact⟨rfl,And.left (by assumption)⟩
theorem AQ(x o k n c u bk:Nat)(j:Int)(d f:Nat)(w:World)(O:k<n)(Q:-5000≤j∧j≤5000)
  (D:w.cell? ⟨u,0,none⟩=some (.slice (some ⟨d,f,none⟩) n c)) (F:w.cell? ⟨bk,0,none⟩=some (.int .i64 j))
  (G:w.cell? ⟨d,f+k,none⟩=some (.int .u64 (x:Nat)))
  (H:∀w',Below w.heap.size w w'→Calls Tryz.prog 99 #[.int .u64 x,.int .i64 (-j)] w' fun r z=>r=.returned (.int .u64 (o:Nat))∧Below w'.heap.size w' z):
  Calls Tryz.prog 292 #[.int .i64 k,.pointer (some ⟨u,0,none⟩),.pointer (some ⟨bk,0,none⟩)] w fun e w'=>e=.returned (.int .u64 (o:Nat))∧Below w.heap.size w w':=by
 have K:=aa H
 have L:(k:Int)<(n:Int):=by omega
 have U:IntKind.i64.wrap (-j)= -j:=by simp only[IntKind.wrap_i64];omega
 have J:=aa (fun w' (h:Below w.heap.size w w')=>(show Below w.heap.size w w'∧w'.cell? ⟨u,0,none⟩=some (.slice (some ⟨d,f,none⟩) n c)∧w'.cell? ⟨d,f+k,none⟩=some (.int .u64 (x:Nat))∧w'.cell? ⟨bk,0,none⟩=some (.int .i64 j)from
  ⟨h,ak D h,ak G h,ak F h⟩))
 clear H D G F
 go_enter Tryz.func292,Tryz.ntmps292
 go_wp2_with fail
 go_region_held3(fun w'=>Below w.heap.size w w'∧w'.cell? ⟨u,0,none⟩=some (.slice (some ⟨d,f,none⟩) n c)∧w'.cell? ⟨d,f+k,none⟩=some (.int .u64 (x:Nat))∧w'.cell? ⟨bk,0,none⟩=some (.int .i64 j))
  (first|exact uH J _ (Below.refl _ _).drew|exact uH J _ (by assumption)|fail "KK")
  (first|(go_at_call 99;refine(uH K _ (And.left (by assumption))).mono ?_;rintro e N ⟨rfl,l⟩;have M:Below w.heap.size w N:=Below.trans (And.left (by assumption)) (l.mono (Below.size (And.left (by assumption))));clear l)|fail "NO ARM")
 go_wp2
 go_ret
 exact⟨rfl,And.left (by assumption)⟩
theorem sZ(m x r o k n c u:Nat)(z D:Nat)(w:World)(L:k<n)
  (M:w.cell? ⟨u,0,none⟩=some (.slice (some ⟨z,D,none⟩) n c))
  (N:w.cell? ⟨z,D+k,none⟩=some (.int .u64 (x:Nat)))
  (F:∀w',Below w.heap.size w w'→Calls Tryz.prog 124 #[.int .u64 x] w' fun e d=>e=.returned (.int .u64 (r:Nat))∧Below w'.heap.size w' d)
  (G:∀w',Below w.heap.size w w'→Calls Tryz.prog 186 #[.int .u64 m,.int .u64 r] w' fun e d=>e=.returned (.int .u64 (o:Nat))∧Below w'.heap.size w' d):
  Calls Tryz.prog 185 #[.int .u64 m,.int .i64 k,.pointer (some ⟨u,0,none⟩)] w fun e w'=>e=.returned (.int .u64 (o:Nat))∧Below w.heap.size w w':=by
 have H:=aa F;have J:=aa G
 have K:(k:Int)<(n:Int):=by omega
 clear F G
 go_enter Tryz.func185,Tryz.ntmps185
 go_wp2_with fail
 refine(uH H _ (Below.refl _ _)).mono ?_
 rintro e O ⟨rfl,f⟩
 have h:=aa f
 clear H f
 go_wp2_with fail
 refine(uH J _ (uH h)).mono ?_
 rintro e Q ⟨rfl,l⟩
 clear J
 go_wp2
 go_ret
 exact⟨rfl,(uH h).trans (l.mono (uH h).size)⟩
theorem uP(q r:Bool)(x k n c h:Nat)(l u:Nat)(w:World)(G:k<n)
  (H:w.cell? ⟨h,0,none⟩=some (.slice (some ⟨l,u,none⟩) n c))
  (J:w.cell? ⟨l,u+k,none⟩=some (.int .u64 (x:Nat)))
  (z:∀w',Below w.heap.size w w'→Calls Tryz.prog 152 #[.int .u64 x] w' fun e d=>e=.returned (.bool r)∧Below w'.heap.size w' d):
  Calls Tryz.prog 202 #[.bool q,.int .i64 k,.pointer (some ⟨h,0,none⟩)] w fun e w'=>e=.returned (.bool (q&&r))∧Below w.heap.size w w':=by
 have D:=aa z
 have F:(k:Int)<(n:Int):=by omega
 clear z
 cases q
 ·go_enter Tryz.func202,Tryz.ntmps202
  go_wp2
  go_ret
  exact⟨rfl,Below.refl _ _⟩
 ·go_enter Tryz.func202,Tryz.ntmps202
  go_wp2_with fail
  refine(uH D _ (Below.refl _ _)).mono ?_
  rintro e K ⟨rfl,f⟩
  clear D
  go_wp2
  go_ret
  exact⟨rfl,f⟩
theorem fd(w:World)(x:Value)(t:TypeId):(w.alloc (.cells #[x] t)).cell? ⟨w.heap.size,0,none⟩=some x:=by
 rw[cell_of_row _ _ 0 _ _ _ (heap_alloc_new w _)];rfl
theorem ah(w:World)(o:Obj):(w.alloc o).heap.size=w.heap.size+1:=by simp
theorem ac(w:World)(o:Obj):Below w.heap.size w (w.alloc o):=(Below.refl _ _).alloc (Nat.le_refl _) o
theorem af.lt{w:World}{f:Option Addr}{d:Nat}{I:List Int}(h:af w f d I)(j:Nat):cd I j<18446744073709551616:=(h.wf j).2
def eM(I J:List Int):Nat→Nat
 |0=>0
 |k+1=>aV (eM I J k) (mV (cd I k) (cd J k))
def gD(I:List Int):Nat→Nat
 |0=>0
 |k+1=>mx (gD I k) (fR (cd I k))
def iD(I:List Int):Nat→Bool
 |0=>true
 |k+1=>iD I k&&aA (cd I k)
theorem ei(I J:List Int)(k:Nat):eM I J k<18446744073709551616:=by
 induction k with
 |zero=>show 0<18446744073709551616;omega
 |succ k ih=>exact dR _ _ ih (bM _ _)
theorem Im(a b:Nat)(d:a<18446744073709551616)(f:b<18446744073709551616):mx a b<18446744073709551616:=by
 unfold mx
 repeat' split
 all_goals omega
theorem im(I:List Int)(k:Nat):gD I k<18446744073709551616:=by
 induction k with
 |zero=>show 0<18446744073709551616;omega
 |succ k ih=>exact Im _ _ ih (by have:=kf (cd I k);omega)
theorem GH(l u:Option Addr)(n m c d r:Nat)(w:World)
  (C:Calls Tryz.prog 184 #[.int .i64 n,.int .u64 0,.func (.func 259) #[] #[.pointer (some ⟨w.heap.size,0,none⟩),.pointer (some ⟨w.heap.size+1,0,none⟩)]] ((w.alloc (.cells #[.slice l n c] 23)).alloc (.cells #[.slice u m d] 23)) fun e f=>e=.returned (.int .u64 (r:Nat))∧Below w.heap.size w f):
  Calls Tryz.prog 229 #[.slice l n c,.slice u m d] w fun e w'=>e=.returned (.int .u64 (r:Nat))∧Below w.heap.size w w':=by
 have K:=aa C
 clear C
 go_enter Tryz.func229,Tryz.ntmps229
 go_wp2_with fail
 refine Calls.mono (uH K) ?_
 rintro e z ⟨rfl,h⟩
 clear K
 go_wp2
 go_ret
 exact⟨rfl,h⟩
theorem GI(d:Array Value)(w:World):(callFunc 259 d).run Tryz.prog w=.ok (.enter 259 d) w:=by
 simp only[callFunc,go_sem]
 rfl
theorem vU(u z:Option Addr)(c d:Nat)(I J:List Int)(w:World)(H:af w u c I)(K:af w z d J)(hl:I.length=J.length)(V:I.length≤35184372088830)(X:bT w):
  Calls Tryz.prog 229 #[.slice u I.length c,.slice z J.length d] w fun e w'=>e=.returned (.int .u64 (eM I J I.length:Nat))∧Below w.heap.size w w':=by
 refine GH _ _ _ _ _ _ _ w ?_
 have L:=ac w (.cells #[.slice u I.length c] 23)
 have Y:=fd w (.slice u I.length c) 23
 have Z:=ah w (.cells #[.slice u I.length c] 23)
 generalize w.alloc (.cells #[.slice u I.length c] 23)=G at*
 have M:=ac G (.cells #[.slice z J.length d] 23)
 have N:=fd G (.slice z J.length d) 23
 have y1:=ak Y M
 generalize G.alloc (.cells #[.slice z J.length d] 23)=U at*
 have F:Below w.heap.size w U:=L.trans (M.mono L.size)
 rw[Z]at N
 refine Calls.mono (lU 259 #[.pointer (some ⟨w.heap.size,0,none⟩),.pointer (some ⟨w.heap.size+1,0,none⟩)] I.length (eM I J) U GI V ?_) ?_
 ·intro w' k D Q
  have l:Below w.heap.size w w':=F.trans (D.mono F.size)
  obtain⟨g1,o1,e1,_,z1⟩:=(H.below l).ne (by omega)
  obtain⟨g2,o2,e2,_,z2⟩:=(K.below l).ne (by omega)
  have u1:=ak y1 D
  have u2:=ak N D
  rw[e1]at u1
  rw[e2]at u2
  have O:=X.all l
  exact Eo (eM I J k) (cd I k) (cd J k) (mV (cd I k) (cd J k)) (eM I J (k+1)) k I.length J.length c d w.heap.size (w.heap.size+1) g1 o1 g2 o2 w' Q (by omega) u1 u2 (z1 k Q) (z2 k (by omega))
   (fun f h=>eh _ _ f (H.lt k) (K.lt k) (O.all h)) (fun f h=>iR _ _ f (ei I J k) (bM _ _) (O.all h))
 ·rintro e w' ⟨rfl,D⟩
  exact⟨rfl,F.trans (D.mono F.size)⟩
theorem Ep(h l:Option Addr)(n m c d r:Nat)(w:World)
  (F:∀w',Calls Tryz.prog 228 #[.slice h n c,.slice l m d] w' fun e f=>e=.returned (.bool true)∧w'=f)
  (C:Calls Tryz.prog 229 #[.slice h n c,.slice l m d] w fun e f=>e=.returned (.int .u64 (r:Nat))∧Below w.heap.size w f):
  Calls Tryz.prog 191 #[.slice h n c,.slice l m d] w fun e w'=>e=.returned (.tuple #[.int .u64 (r:Nat),.int .i64 0])∧Below w.heap.size w w':=by
 have K:=aa C;have L:=aa F
 clear C F
 go_enter Tryz.func191,Tryz.ntmps191
 go_wp2_with fail
 refine(uH L _).mono ?_
 rintro e z ⟨rfl,rfl⟩
 go_wp2_with fail
 refine Calls.mono (uH K) ?_
 rintro e z ⟨rfl,u⟩
 clear K L
 go_wp2
 exact bodyPost_ret (v:=.tuple #[.int .u64 (r:Nat),.int .i64 0]) (by simp[results,Tryz.results191,go_sem]) rfl ⟨rfl,u⟩
theorem Er(h l:Option Addr)(n m c d:Nat)(w:World)
  (F:∀w',Calls Tryz.prog 228 #[.slice h n c,.slice l m d] w' fun e f=>e=.returned (.bool false)∧w'=f):
  Calls Tryz.prog 191 #[.slice h n c,.slice l m d] w fun e w'=>e=.returned (.tuple #[.int .u64 0,.int .i64 3])∧Below w.heap.size w w':=by
 have L:=aa F
 clear F
 go_enter Tryz.func191,Tryz.ntmps191
 go_wp2_with fail
 refine(uH L _).mono ?_
 rintro e u ⟨rfl,rfl⟩
 clear L
 go_wp2
 exact bodyPost_ret (v:=.tuple #[.int .u64 0,.int .i64 3]) (by simp[results,Tryz.results191,go_sem]) rfl ⟨rfl,Below.refl _ _⟩
def He(I J:List Int):Bool:=decide (I.length≤64∧I.length=J.length)
theorem AR(f l:Option Addr)(c d:Nat)(I J:List Int)(w:World)(u:af w f c I)(z:af w l d J)(D:bT w):
  Calls Tryz.prog 191 #[.slice f I.length c,.slice l J.length d] w fun e w'=>e=.returned (.tuple #[.int .u64 (if He I J=true then eM I J I.length else 0:Nat),.int .i64 (if He I J=true then 0 else 3)])∧Below w.heap.size w w':=by
 have F:=fun w'=>AM f l I.length J.length c d w'
 cases h:He I J
 ·unfold He at h
  rw[h]at F
  exact Er f l _ _ c d w F
 ·unfold He at h
  rw[h]at F
  have G:=of_decide_eq_true h
  exact Ep f l _ _ c d _ w F (vU f l c d I J w u z G.2 (by omega) D)
theorem bp.bits{w:World}{g:Nat}{S:List Nat}(h:bp w g S)(f:∀x∈S,x<18446744073709551616):af w (some ⟨g,0,none⟩) S.length (S.map (fun x:Nat=>(x:Int))):=by
 refine⟨by simp,?_,.inr ⟨g,0,rfl,h.lt,fun i l=>?_⟩⟩
 ·intro x z
  obtain⟨y,u,rfl⟩:=List.mem_map.1 z
  have:=f y u
  omega
 ·have d:i<S.length:=by simpa using l
  rw[Nat.zero_add,h.cell i d]
  simp[d]
def Hf(n:Nat)(f:Nat→Nat):List Int:=((List.range n).map f).map (fun x:Nat=>(x:Int))
theorem Es(n:Nat)(f:Nat→Nat):(Hf n f).length=n:=by simp[Hf]
theorem AU(n:Nat)(f:Nat→Nat)(j:Nat)(d:j<n):cd (Hf n f) j=f j:=by simp[Hf,cd,d]
theorem uQ(d:Array Value)(w:World):(callFunc 185 d).run Tryz.prog w=.ok (.enter 185 d) w:=by
 simp only[callFunc,go_sem]
 rfl
theorem yb(d:Array Value)(w:World):(callFunc 202 d).run Tryz.prog w=.ok (.enter 202 d) w:=by
 simp only[callFunc,go_sem]
 rfl
theorem Et(d:Array Value)(w:World):(callFunc 292 d).run Tryz.prog w=.ok (.enter 292 d) w:=by
 simp only[callFunc,go_sem]
 rfl
theorem lX(a b:Nat):
  ∃l q,((cO a b=0∧cB a b=false∧l=false∧q=false)∨(cO a b= -1∧cB a b=true∧l=true∧q=false)∨(cO a b=0∧cB a b=true∧l=false∧q=true)∨(cO a b=1∧cB a b=true∧l=false∧q=false))∧cM a b l (cB a b)=mx a b:=by
 by_cases h:fK a=4∨fK b=4
 ·have f:cO a b=0:=by unfold cO;rw[if_pos h]
  have d:cB a b=false:=by unfold cB;rw[if_pos h]
  refine⟨false,false,.inl ⟨f,d,rfl,rfl⟩,?_⟩
  unfold mx cM
  rw[if_pos h,if_pos d]
 ·have f:cO a b=bc (fZ a) (fZ b):=by unfold cO;rw[if_neg h]
  have d:cB a b=true:=by unfold cB;rw[if_neg h]
  have D:mx a b=if fZ a<fZ b then b else a:=by unfold mx;rw[if_neg h]
  have u:∀l,cM a b l true=if l=true then b else a:=fun l=>by unfold cM;rw[if_neg (by decide)]
  rw[f,d,D]
  rcases(show fZ a<fZ b∨fZ a=fZ b∨fZ b<fZ a by omega)with g|g|g
  ·exact⟨true,false,.inr (.inl ⟨gT g,rfl,rfl,rfl⟩),by rw[u,if_pos rfl,if_pos g]⟩
  ·have z:¬fZ a<fZ b:=by omega
   exact⟨false,true,.inr (.inr (.inl ⟨iP g,rfl,rfl,rfl⟩)),by rw[u,if_neg (by decide),if_neg z]⟩
  ·have z:¬fZ a<fZ b:=by omega
   exact⟨false,false,.inr (.inr (.inr ⟨gU g,rfl,rfl,rfl⟩)),by rw[u,if_neg (by decide),if_neg z]⟩
theorem AV(a b:Nat)(w:World)(d:a<18446744073709551616)(f:b<18446744073709551616):
  Calls Tryz.prog 186 #[.int .u64 a,.int .u64 b] w fun r w'=>r=.returned (.int .u64 (mx a b:Nat))∧Below w.heap.size w w':=by
 obtain⟨l,q,h,e⟩:=lX a b
 rw[←e]
 exact F8 a b _ _ l q w h (fun w'=>jG a b w' d f)
theorem ye(a b:Nat)(w:World)(d:a<18446744073709551616)(f:b<18446744073709551616):
  Calls Tryz.prog 159 #[.int .u64 a,.int .u64 b] w fun r w'=>r=.returned (.int .u64 (mx a b:Nat))∧Below w.heap.size w w':=by
 obtain⟨l,q,h,e⟩:=lX a b
 rw[←e]
 exact DF a b _ _ l q w h (fun w'=>nL a b w' d f)
theorem uR(h:Option Addr)(n c r:Nat)(w:World)
  (C:Calls Tryz.prog 184 #[.int .i64 n,.int .u64 0,.func (.func 185) #[] #[.pointer (some ⟨w.heap.size,0,none⟩)]] (w.alloc (.cells #[.slice h n c] 23)) fun e d=>e=.returned (.int .u64 (r:Nat))∧Below w.heap.size w d):
  Calls Tryz.prog 122 #[.slice h n c] w fun e w'=>e=.returned (.int .u64 (r:Nat))∧Below w.heap.size w w':=by
 have K:=aa C
 clear C
 go_enter Tryz.func122,Tryz.ntmps122
 go_wp2_with fail
 refine Calls.mono (uH K) ?_
 rintro e l ⟨rfl,f⟩
 clear K
 go_wp2
 go_ret
 exact⟨rfl,f⟩
theorem kx(f:Option Addr)(c:Nat)(I:List Int)(w:World)(D:af w f c I)(G:I.length≤35184372088830):
  Calls Tryz.prog 122 #[.slice f I.length c] w fun e w'=>e=.returned (.int .u64 (gD I I.length:Nat))∧Below w.heap.size w w':=by
 refine uR f _ c _ w ?_
 have l:=ac w (.cells #[.slice f I.length c] 23)
 have H:=fd w (.slice f I.length c) 23
 generalize w.alloc (.cells #[.slice f I.length c] 23)=M at*
 refine Calls.mono (lU 185 #[.pointer (some ⟨w.heap.size,0,none⟩)] I.length (gD I) M uQ G ?_) ?_
 ·intro w' k u F
  have z:Below w.heap.size w w':=l.trans (u.mono l.size)
  obtain⟨J,K,L,_,z1⟩:=(D.below z).ne (by omega)
  have u1:=ak H u
  rw[L]at u1
  exact sZ (gD I k) (cd I k) (fR (cd I k)) (gD I (k+1)) k I.length c w.heap.size J K w' F u1 (z1 k F)
   (fun d h=>kl _ d (D.lt k)) (fun d h=>AV _ _ d (im I k) (by have:=kf (cd I k);omega))
 ·rintro e w' ⟨rfl,u⟩
  exact⟨rfl,l.trans (u.mono l.size)⟩
theorem yf(h:Option Addr)(n c:Nat)(r:Bool)(w:World)
  (C:Calls Tryz.prog 201 #[.int .i64 n,.bool true,.func (.func 202) #[] #[.pointer (some ⟨w.heap.size,0,none⟩)]] (w.alloc (.cells #[.slice h n c] 23)) fun e d=>e=.returned (.bool r)∧Below w.heap.size w d):
  Calls Tryz.prog 142 #[.slice h n c] w fun e w'=>e=.returned (.bool r)∧Below w.heap.size w w':=by
 have K:=aa C
 clear C
 go_enter Tryz.func142,Tryz.ntmps142
 go_wp2_with fail
 refine Calls.mono (uH K) ?_
 rintro e l ⟨rfl,f⟩
 clear K
 go_wp2
 go_ret
 exact⟨rfl,f⟩
theorem lY(d:Option Addr)(c:Nat)(I:List Int)(w:World)(D:af w d c I)(G:I.length≤35184372088830):
  Calls Tryz.prog 142 #[.slice d I.length c] w fun e w'=>e=.returned (.bool (iD I I.length))∧Below w.heap.size w w':=by
 refine yf d _ c _ w ?_
 have f:=ac w (.cells #[.slice d I.length c] 23)
 have H:=fd w (.slice d I.length c) 23
 generalize w.alloc (.cells #[.slice d I.length c] 23)=M at*
 refine Calls.mono (sX 202 #[.pointer (some ⟨w.heap.size,0,none⟩)] I.length (iD I) M yb G ?_) ?_
 ·intro w' k l F
  have z:Below w.heap.size w w':=f.trans (l.mono f.size)
  obtain⟨J,K,L,_,z1⟩:=(D.below z).ne (by omega)
  have u1:=ak H l
  rw[L]at u1
  exact uP (iD I k) (aA (cd I k)) (cd I k) k I.length c w.heap.size J K w' F u1 (z1 k F) (fun u h=>gg _ u (D.lt k))
 ·rintro e w' ⟨rfl,l⟩
  exact⟨rfl,f.trans (l.mono f.size)⟩
theorem AW(s r:Nat)(f:Int)(w:World)(C:∀w',Below w.heap.size w w'→Calls Tryz.prog 286 #[.int .u64 s] w' fun e d=>e=.returned (.tuple #[.int .u64 (r:Nat),.int .u8 f])∧Below w'.heap.size w' d):
  Calls Tryz.prog 261 #[.int .u64 s] w fun e w'=>e=.returned (.int .u64 (r:Nat))∧Below w.heap.size w w':=by
 have K:=aa C
 clear C
 go_enter Tryz.func261,Tryz.ntmps261
 go_wp2_with fail
 refine(uH K _ (Below.refl _ _)).mono ?_
 rintro e l ⟨rfl,h⟩
 clear K
 go_wp2
 go_ret
 exact⟨rfl,h⟩
theorem yg(H:Option Addr)(n c s r o:Nat)(k f:Int)(w:World)(Z:World→Nat→Prop)(_ZS:∀w' d g,Z w' g→Below w'.heap.size w' d→Z d g)
  (J:Calls Tryz.prog 291 #[.int .i64 n,.func (.func 292) #[] #[.pointer (some ⟨w.heap.size,0,none⟩),.pointer (some ⟨w.heap.size+1,0,none⟩)]] ((w.alloc (.cells #[.slice H n c] 23)).alloc (.cells #[.int .i64 k] 3)) fun e d=>∃g,e=.returned (.slice (some ⟨g,0,none⟩) n n)∧Z d g∧Below w.heap.size w d∧d.cell? ⟨w.heap.size+1,0,none⟩=some (.int .i64 k))
  (K:∀w' g,Z w' g→Below w.heap.size w w'→Calls Tryz.prog 229 #[.slice (some ⟨g,0,none⟩) n n,.slice (some ⟨g,0,none⟩) n n] w' fun e d=>e=.returned (.int .u64 (s:Nat))∧Below w'.heap.size w' d)
  (L:∀w',Below w.heap.size w w'→Calls Tryz.prog 286 #[.int .u64 s] w' fun e d=>e=.returned (.tuple #[.int .u64 (r:Nat),.int .u8 f])∧Below w'.heap.size w' d)
  (M:∀w',Below w.heap.size w w'→Calls Tryz.prog 99 #[.int .u64 r,.int .i64 k] w' fun e d=>e=.returned (.int .u64 (o:Nat))∧Below w'.heap.size w' d):
  Calls Tryz.prog 271 #[.slice H n c,.int .i64 k] w fun e w'=>e=.returned (.int .u64 (o:Nat))∧Below w.heap.size w w':=by
 have O:=aa J;have K2:=aa K;have K3:=aa (fun w' (N:Below w.heap.size w w')=>AW s r f w' (fun d F=>L d (N.trans (F.mono N.size))));have K4:=aa M
 clear J K L M
 go_enter Tryz.func271,Tryz.ntmps271
 go_wp2_with fail
 refine Calls.mono (uH O) ?_
 rintro e w1 ⟨g,rfl,X,l,Y⟩
 have B:=aa l;have z:=aa X;have Q:=aa Y
 clear O l X Y
 go_wp2_with fail
 have U:=aa _ZS
 clear _ZS
 refine aj (fun W=>Below w.heap.size w W∧Z W g∧W.cell? ⟨w.heap.size+1,0,none⟩=some (.int .i64 k)) ⟨uH B,uH z,uH Q⟩ ?_
 clear B z Q
 rintro u ⟨G,zz,cc⟩
 have V:=aa (fun w' (h:Below u.heap.size u w')=>(show Below u.heap.size u w'∧w'.cell? ⟨w.heap.size+1,0,none⟩=some (.int .i64 k)from⟨h,ak cc h⟩))
 have D:=aa (fun w' (h:Below u.heap.size u w')=>G.trans (h.mono G.size))
 have z:=aa (fun w' (h:Below u.heap.size u w')=>uH U _ _ _ zz h)
 clear G zz cc U
 go_region_held3(fun w'=>Below u.heap.size u w'∧w'.cell? ⟨w.heap.size+1,0,none⟩=some (.int .i64 k))
  (first|exact uH V _ (Below.refl _ _).drew|exact uH V _ (by assumption)|fail "KK")
  (first
   |(go_at_call 229;refine(uH K2 _ _ (uH z _ (And.left (by assumption))) (uH D _ (And.left (by assumption)))).mono ?_;rintro e wa ⟨rfl,l⟩;have ae:Below u.heap.size u wa:=Below.trans (And.left (by assumption)) (l.mono (Below.size (And.left (by assumption))));clear l)
   |(go_at_call 261;refine(uH K3 _ (uH D _ (And.left (by assumption)))).mono ?_;rintro e wb ⟨rfl,l⟩;have am:Below u.heap.size u wb:=Below.trans (And.left (by assumption)) (l.mono (Below.size (And.left (by assumption))));clear l)
   |(go_at_call 99;refine(uH K4 _ (uH D _ (And.left (by assumption)))).mono ?_;rintro e wc ⟨rfl,l⟩;have ap:Below u.heap.size u wc:=Below.trans (And.left (by assumption)) (l.mono (Below.size (And.left (by assumption))));clear l)
   |fail "NO ARM")
 all_goals
  have hn:Below u.heap.size u wc:=And.left (by assumption)
  go_wp2
  go_ret
  exact⟨rfl,uH D _ hn⟩
def tL(k:Int)(I:List Int):List Int:=Hf I.length (fun i=>xV (cd I i) (-k))
theorem AX(k:Int)(I:List Int):(tL k I).length=I.length:=Es _ _
theorem uS(f:Option Addr)(c:Nat)(I:List Int)(k:Int)(w:World)(D:af w f c I)(hn:I.length≤64)(O:-5000≤k∧k≤5000)(u:bT w):
  Calls Tryz.prog 271 #[.slice f I.length c,.int .i64 k] w fun e w'=>e=.returned (.int .u64 (xV (sV (eM (tL k I) (tL k I) I.length)) k:Nat))∧Below w.heap.size w w':=by
 refine yg f _ c (eM (tL k I) (tL k I) I.length) (sV (eM (tL k I) (tL k I) I.length)) _ k (sF (eM (tL k I) (tL k I) I.length)) w (fun w' g=>af w' (some ⟨g,0,none⟩) I.length (tL k I)) (fun _ _ _ h d=>h.below d) ?_ ?_ ?_ ?_
 ·have J:=ac w (.cells #[.slice f I.length c] 23)
  have U:=fd w (.slice f I.length c) 23
  have V:=ah w (.cells #[.slice f I.length c] 23)
  generalize w.alloc (.cells #[.slice f I.length c] 23)=H at*
  have K:=ac H (.cells #[.int .i64 k] 3)
  have G:=fd H (.int .i64 k) 3
  have X:=ak U K
  generalize H.alloc (.cells #[.int .i64 k] 3)=N at*
  have z:Below w.heap.size w N:=J.trans (K.mono J.size)
  rw[V]at G
  refine Calls.mono (AP 292 #[.pointer (some ⟨w.heap.size,0,none⟩),.pointer (some ⟨w.heap.size+1,0,none⟩)] I.length (fun i=>xV (cd I i) (-k)) N Et (by omega) ?_) ?_
  ·intro w' j d L
   have l:Below w.heap.size w w':=z.trans (d.mono z.size)
   obtain⟨Z,o1,e1,_,z1⟩:=(D.below l).ne (by omega)
   have u0:=ak X d
   have u1:=ak G d
   rw[e1]at u0
   have Y:=u.all l
   exact AQ (cd I j) (xV (cd I j) (-k)) j I.length c w.heap.size (w.heap.size+1) k Z o1 w' L O u0 u1 (z1 j L)
    (fun F h=>eH _ _ F (D.lt j) (Y.all h))
  ·rintro e w' ⟨g,rfl,hg,hR,d⟩
   refine⟨g,rfl,?_,z.trans (d.mono z.size),ak G d⟩
   have:=hR.bits (fun x Q=>by
    obtain⟨j,_,rfl⟩:=List.mem_map.1 Q
    exact gV _ _ (D.lt j))
   simpa[tL,Hf]using this
 ·intro w' g M d
  have:=vU _ _ _ _ (tL k I) (tL k I) w' M M rfl (by rw[AX];omega) (u.all d)
  rw[AX]at this
  exact this
 ·intro w' d
  exact pR _ w' (ei _ _ _) (u.all d)
 ·intro w' d
  exact eH _ _ w' (lO _ (ei _ _ _)) (u.all d)
theorem iT(a:Nat)(d:a<18446744073709551616):-1074≤eX a∧eX a≤1024:=by
 unfold eX
 split
 ·omega
 ·rename_i h
  have f:=aY a (fun e=>h (by omega)) (fun e=>h (by omega))
  obtain⟨z1,z2,l,u,z,D,F,G,H⟩:=f8 a d f (fun e=>h (by omega))
  omega
theorem AY(I:List Int)(k:Nat):gD I k≤9218868437227405312∨gD I k=9221120237041090560:=by
 induction k with
 |zero=>exact .inl (by show 0≤9218868437227405312;omega)
 |succ k ih=>
  show mx (gD I k) (fR (cd I k))≤9218868437227405312∨mx (gD I k) (fR (cd I k))=9221120237041090560
  have f:=kf (cd I k)
  generalize cd I k=x at*
  generalize gD I k=m at*
  by_cases h:fK m=4∨fK (fR x)=4
  ·right;unfold mx;rw[if_pos h]
  ·have e:mx m (fR x)=m∨mx m (fR x)=fR x:=by
    unfold mx
    rw[if_neg h]
    split
    ·exact .inr rfl
    ·exact .inl rfl
   rcases e with e|e
   ·rw[e];exact ih
   ·rw[e]
    left
    have l:fR (fR x)=fR x:=(nK (fR x) f).2.1
    have d:=(aP (fR x)).1
    rw[l]at d
    rcases Nat.lt_or_ge 9218868437227405312 (fR x)with g|g
    ·exact absurd (.inr (d.2 g)) h
    ·exact g
theorem AZ:aA 9218868437227405312=false∧aA 9221120237041090560=false:=by decide
theorem Ba{m:Nat}(h:m<9218868437227405312):aA m=true:=(aP m).2.2.2 (by rw[(nK m (by omega)).2.1];exact h)
def nX(I:List Int):Nat:=if gD I I.length=0∨aA (gD I I.length)=false then gD I I.length else xV (sV (eM (tL (eX (gD I I.length)) I) (tL (eX (gD I I.length)) I) I.length)) (eX (gD I I.length))
theorem uT(I:List Int):nX I<18446744073709551616:=by
 unfold nX
 split
 ·exact im _ _
 ·exact gV _ _ (lO _ (ei _ _ _))
theorem nY(h:Option Addr)(n c m:Nat)(w:World)(F:n≤64)(z:m=0∨m=9218868437227405312∨m=9221120237041090560)
  (l:Calls Tryz.prog 122 #[.slice h n c] w fun e d=>e=.returned (.int .u64 (m:Nat))∧Below w.heap.size w d):
  Calls Tryz.prog 239 #[.slice h n c] w fun e w'=>e=.returned (.tuple #[.int .u64 (m:Nat),.int .i64 0])∧Below w.heap.size w w':=by
 have D:(n:Int)≤64:=by omega
 have u:=aa l
 clear l
 rcases z with rfl|rfl|rfl
 all_goals
  go_enter Tryz.func239,Tryz.ntmps239
  go_wp2_with fail
  refine Calls.mono (uH u) ?_
  rintro e G ⟨rfl,f⟩
  clear u
  go_wp2
  refine bodyPost_ret (v:=.tuple #[.int .u64 _,.int .i64 0]) (by simp[results,Tryz.results239,go_sem]) rfl ⟨rfl,f⟩
theorem yh(z:Option Addr)(n c m o:Nat)(k:Int)(w:World)(Q:n≤64)(L:m≠0)(M:m<9218868437227405312)
  (D:Calls Tryz.prog 122 #[.slice z n c] w fun e d=>e=.returned (.int .u64 (m:Nat))∧Below w.heap.size w d)
  (F:∀w',Below w.heap.size w w'→Calls Tryz.prog 153 #[.int .u64 m] w' fun e d=>e=.returned (.int .i64 k)∧Below w'.heap.size w' d)
  (G:∀w',Below w.heap.size w w'→Calls Tryz.prog 271 #[.slice z n c,.int .i64 k] w' fun e d=>e=.returned (.int .u64 (o:Nat))∧Below w'.heap.size w' d):
  Calls Tryz.prog 239 #[.slice z n c] w fun e w'=>e=.returned (.tuple #[.int .u64 (o:Nat),.int .i64 0])∧Below w.heap.size w w':=by
 have N:(n:Int)≤64:=by omega
 have H:=aa D;have J:=aa F;have K:=aa G
 have U:¬((m:Int)=0):=by omega
 have V:¬((m:Int)=9218868437227405312):=by omega
 have X:¬((m:Int)=9221120237041090560):=by omega
 clear D F G M L
 go_enter Tryz.func239,Tryz.ntmps239
 go_wp2_with fail
 refine Calls.mono (uH H) ?_
 rintro e Y ⟨rfl,f⟩
 have B:=aa f
 clear H f
 go_wp2_with fail
 refine(uH J _ (uH B)).mono ?_
 rintro e Z ⟨rfl,h⟩
 have u:=aa ((uH B).trans (h.mono (uH B).size))
 clear J h B
 go_wp2_with fail
 refine(uH K _ (uH u)).mono ?_
 rintro e w3 ⟨rfl,l⟩
 have O:=aa ((uH u).trans (l.mono (uH u).size))
 clear K l u
 go_wp2
 exact bodyPost_ret (v:=.tuple #[.int .u64 (o:Nat),.int .i64 0]) (by simp[results,Tryz.results239,go_sem]) rfl ⟨rfl,uH O⟩
theorem Bb(d:Option Addr)(c:Nat)(I:List Int)(w:World)(D:af w d c I)(f:I.length≤64)(F:bT w):
  Calls Tryz.prog 239 #[.slice d I.length c] w fun e w'=>e=.returned (.tuple #[.int .u64 (nX I:Nat),.int .i64 0])∧Below w.heap.size w w':=by
 have u:=kx d c I w D (by omega)
 have G:=im I I.length
 unfold nX
 by_cases z:gD I I.length=0
 ·rw[if_pos (.inl z)]
  exact nY d _ c _ w f (.inl z) u
 rcases AY I I.length with h|h
 ·rcases Nat.lt_or_ge (gD I I.length) 9218868437227405312 with g|g
  ·rw[if_neg (fun e=>e.elim z (fun e=>by rw[Ba g]at e;cases e))]
   have H:=iT _ G
   exact yh d _ c _ _ (eX (gD I I.length)) w f z g u (fun w' l=>sE _ w' G (F.all l)) (fun w' l=>uS d c I _ w' (D.below l) f (by omega) (F.all l))
  ·have e:gD I I.length=9218868437227405312:=by omega
   rw[if_pos (.inr (by rw[e];exact AZ.1))]
   exact nY d _ c _ w f (.inr (.inl e)) u
 ·rw[if_pos (.inr (by rw[h];exact AZ.2))]
  exact nY d _ c _ w f (.inr (.inr h)) u
theorem jt(D:Option Addr)(c:Nat)(I:List Int)(w:World)(F:af w D c I)(N:I.length≤35184372088830):
  Calls Tryz.prog 91 #[.slice D I.length c] w fun e w'=>e=.returned (.int .u64 (gD I I.length:Nat))∧Below w.heap.size w w':=by
 have G:=aa F
 obtain⟨n,d⟩:∃n,I.length=n:=⟨_,rfl⟩
 rw[d]at N⊢
 have H:=aa d
 clear F d
 go_enter Tryz.func91,Tryz.ntmps91
 go_wp2_with fail
 go_loopw[3,4] (fun t i wr=>∃k:Nat,k≤n∧i=.int .i64 k∧t=.int .u64 (gD I k:Nat)∧Hid (Below w.heap.size w wr)) (fun _ i _=>n-(intOf i).toNat)
 case atStart=>exact⟨0,Nat.zero_le _,rfl,rfl,Below.refl _ _⟩
 case round=>
  obtain⟨k,Y,rfl,rfl,h⟩:=hrel
  by_cases l:k<n
  ·have O:(k:Int)<(n:Int):=by omega
   obtain⟨b,X,z,Z,L⟩:=((uH G).below h.out).ne (by rw[uH H];omega)
   have Q:=L k (by rw[uH H];exact l)
   have J:=aa (fun w'=>ld (cd I k) w' ((uH G).lt k))
   have K:=aa (fun w'=>ye (gD I k) (fR (cd I k)) w' (im I k) (by have:=kf (cd I k);omega))
   have U:Hid (gD I (k+1)=mx (gD I k) (fR (cd I k))):=rfl
   subst z
   clear L
   generalize mx (gD I k) (fR (cd I k))=o at*
   generalize fR (cd I k)=r at*
   generalize cd I k=x at*
   generalize gD I k=tv at*
   go_wp2_with fail
   refine(uH J _).mono ?_
   rintro e M ⟨rfl,rfl⟩
   go_wp2_with fail
   refine(uH K _).mono ?_
   rintro e M ⟨rfl,f⟩
   have V:Hid (Below w.heap.size w M):=h.out.trans (f.mono h.out.size)
   clear f J K
   go_wp2_with fail
   go_round
   case rel=>exact⟨k+1,by omega,by go_num,by rw[U.out],V⟩
   case measure=>simp[intOf];omega
  ·have u:k=n:=by omega
   subst u
   go_wp2_with fail
   exact bodyPost_ret (v:=.int .u64 (gD I k:Nat)) (by simp[results,Tryz.results91,go_sem]) rfl ⟨rfl,h.out⟩
theorem s8(I:List Int):∀(m k:Nat),k≤m→iD I m=true→iD I k=true:=by
 intro m
 induction m with
 |zero=>intro k f _;rw[show k=0 by omega];rfl
 |succ m ih=>
  intro k f h
  have d:(iD I m&&aA (cd I m))=true:=h
  rw[Bool.and_eq_true]at d
  by_cases e:k=m+1
  ·subst e;exact h
  ·exact ih k (by omega) d.1
theorem GJ(I:List Int)(n k:Nat)(f:k<n)(h:aA (cd I k)=false):iD I n=false:=by
 cases e:iD I n
 ·rfl
 ·have d:(iD I k&&aA (cd I k))=true:=s8 I n (k+1) (by omega) e
  rw[h,Bool.and_false]at d
  cases d
theorem es(J:Option Addr)(c:Nat)(I:List Int)(w:World)(K:af w J c I)(V:I.length≤35184372088830):
  Calls Tryz.prog 63 #[.slice J I.length c] w fun e w'=>e=.returned (.bool (iD I I.length))∧Below w.heap.size w w':=by
 have L:=aa K
 obtain⟨n,d⟩:∃n,I.length=n:=⟨_,rfl⟩
 rw[d]at V⊢
 have M:=aa d
 clear K d
 obtain⟨v,G⟩:∃v,iD I n=v:=⟨_,rfl⟩
 rw[G]
 have N:=aa G
 clear G
 go_enter Tryz.func63,Tryz.ntmps63
 go_wp2_with fail
 go_loopw[3] (fun i wr=>∃k:Nat,k≤n∧i=.int .i64 k∧Hid (iD I k=true)∧Hid (Below w.heap.size w wr)) (fun i _=>n-(intOf i).toNat)
 case atStart=>exact⟨0,Nat.zero_le _,rfl,rfl,Below.refl _ _⟩
 case round=>
  obtain⟨k,hk,rfl,Q,u⟩:=hrel
  by_cases l:k<n
  ·have X:(k:Int)<(n:Int):=by omega
   obtain⟨b,ae,H,hb,U⟩:=((uH L).below u.out).ne (by rw[uH M];omega)
   have Y:=U k (by rw[uH M];exact l)
   have f:=aa (fun w'=>gi (cd I k) w' ((uH L).lt k))
   have O:Hid (iD I (k+1)=(iD I k&&aA (cd I k))):=rfl
   have Z:=aa (fun h=>GJ I n k l h)
   subst H
   clear U
   generalize cd I k=x at*
   cases hf:aA x
   ·have z:=aa ((uH N).symm.trans (uH Z hf))
    rw[hf]at f
    have D:=uH z
    subst D
    go_wp2_with fail
    refine(uH f _).mono ?_
    rintro e w2 ⟨rfl,rfl⟩
    clear f
    go_wp2_with fail
    exact bodyPost_ret (v:=.bool false) (by simp[results,Tryz.results63,go_sem]) rfl ⟨rfl,u.out⟩
   ·rw[hf]at f O
    go_wp2_with fail
    refine(uH f _).mono ?_
    rintro e w2 ⟨rfl,rfl⟩
    clear f
    go_wp2_with fail
    go_round
    case rel=>exact⟨k+1,by omega,by go_num,by unfold Hid;rw[O.out,Q.out];rfl,u⟩
    case measure=>simp[intOf];omega
  ·have F:k=n:=by omega
   subst F
   have z:=(uH N).symm.trans Q.out
   subst z
   go_wp2_with fail
   exact bodyPost_ret (v:=.bool true) (by simp[results,Tryz.results63,go_sem]) rfl ⟨rfl,u.out⟩
end Go.Proofs.YtdhmglmccafbnaaGreatDoor
