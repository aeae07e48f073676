/- Part 22 of the texts. -/
import Derived.Deep.OwnRows
import Derived.Test.YtcbcmlaogehimaaGreatDoorPartu21
set_option maxHeartbeats 8000000
set_option maxRecDepth 20000
namespace Go.Proofs.YtcbcmlaogehimaaGreatDoor
open Go.RowKit
theorem ps(H:Nat)(D:Array Value)(n:Nat)(f:Nat->Nat)(w:World)
  (N:∀args w,(callFunc H args).run Tryz.prog w=.ok (.enter H args) w) (hn:n<=35184372088830)
  (l:∀F k,H8 w F->k<n->GF H (#[CI (f k:Nat),C0 (k:Nat)]++D) F fun e J=>e=.returned (CI (f (k+1):Nat))/\H8 F J):
  BS 156 #[C0 n,CI (f 0:Nat),.func (.func H) #[] D] w (CI (f n:Nat)):=by
 have O:=ac l;clear l
 go_enter Tryz.func156,Tryz.ntmps156
 go_wp2_with fail
 go_loopw[7,11] (fun t i wr=>∃k:Nat,k<=n/\i=.int .i64 k/\t=.int .u64 (f k:Nat)/\Hid (H8 w wr)) (fun _ i _=>n-(intOf i).toNat)
 case atStart=>exact⟨0,Nat.zero_le _,rfl,rfl,Below.refl _ _⟩
 case round=>
  obtain⟨k,hk,rfl,rfl,I⟩:=hrel
  by_cases K:k<n
  ·have Q:(k:Int)<(n:Int):=by omega
   have C:=ac (fun F h=>uH O F k h K);obtain⟨o,M⟩:∃o,f (k+1)=o:=⟨_,rfl⟩;rw[M]at C;have U:=ac M;clear M;go_wp2_with fail;refine(uH C _ I.out).mono ?_;rintro e w2 ⟨rfl,G⟩;have Z:Hid (H8 w w2):=I.out.trans (G.mono I.out.size);clear G C;go_wp2_with fail
   go_round
   case rel=>exact⟨k+1,by omega,by go_num,by rw[uH U],Z⟩
   case measure=>simp[intOf];omega
  ·have L:k=n:=by omega
   subst L;go_wp2_with fail;exact bodyPost_ret (v:=.int .u64 (f k:Nat)) (by simp[results,Tryz.results156,go_sem]) rfl ⟨rfl,I.out⟩
theorem wZ(H:Nat)(D:Array Value)(n:Nat)(f:Nat->Bool)(w:World)
  (N:∀args w,(callFunc H args).run Tryz.prog w=.ok (.enter H args) w) (hn:n<=35184372088830)
  (l:∀F k,H8 w F->k<n->GF H (#[.bool (f k),C0 (k:Nat)]++D) F fun e J=>e=.returned (.bool (f (k+1)))/\H8 F J):
  BS 176 #[C0 n,.bool (f 0),.func (.func H) #[] D] w (.bool (f n)):=by
 have O:=ac l;clear l
 go_enter Tryz.func176,Tryz.ntmps176
 go_wp2_with fail
 go_loopw[7,11] (fun t i wr=>∃k:Nat,k<=n/\i=.int .i64 k/\t=.bool (f k)/\Hid (H8 w wr)) (fun _ i _=>n-(intOf i).toNat)
 case atStart=>exact⟨0,Nat.zero_le _,rfl,rfl,Below.refl _ _⟩
 case round=>
  obtain⟨k,hk,rfl,rfl,I⟩:=hrel
  by_cases K:k<n
  ·have Q:(k:Int)<(n:Int):=by omega
   have C:=ac (fun F h=>uH O F k h K);obtain⟨o,M⟩:∃o,f (k+1)=o:=⟨_,rfl⟩;rw[M]at C;have U:=ac M;clear M;go_wp2_with fail;refine(uH C _ I.out).mono ?_;rintro e w2 ⟨rfl,G⟩;have Z:Hid (H8 w w2):=I.out.trans (G.mono I.out.size);clear G C;go_wp2_with fail
   go_round
   case rel=>exact⟨k+1,by omega,by go_num,by rw[uH U],Z⟩
   case measure=>simp[intOf];omega
  ·have L:k=n:=by omega
   subst L;go_wp2_with fail;exact bodyPost_ret (v:=.bool (f k)) (by simp[results,Tryz.results176,go_sem]) rfl ⟨rfl,I.out⟩
def ml(x:Nat):Value:=.int .u64 (x:Int)
def bS(w:World)(g:Nat)(S:H3):Prop:=w.heap[g]? =some (.cells (S.map ml).toArray 69 (0,0))
theorem bS.cell{w:World}{g:Nat}{S:H3}(h:bS w g S)(j:Nat)(l:j<S.length):w.cell? ⟨g,j,none⟩=some (CI ((S[j]?.getD 0:Nat):Int)):=by
 rw[cell_of_row w g j _ _ _ h]
 simp[ml,l]
theorem bS.free{w:World}{g:Nat}{S:H3}(h:bS w g S)(j:Nat):w.frozen? ⟨g,j,none⟩=false:=frozen_of_row w g j _ _ h
theorem bS.set{w:World}{g:Nat}{S:H3}(h:bS w g S)(j x:Nat):bS (w.setCell ⟨g,j,none⟩ (CI (x:Int))) g (S.set j x):=by
 unfold bS;rw[heap_setCell_same w g j _ _ _ h]
 simp[ml,List.map_set]
theorem bS.lt{w:World}{g:Nat}{S:H3}(h:bS w g S):g<w.heap.size:=(Array.getElem?_eq_some_iff.1 h).1
theorem bS.below{w l:World}{g:Nat}{S:H3}(h:bS w g S){B:Nat}(t:Below B w l)(D:g<B):bS l g S:=by
 unfold bS;rw[t.block g D];exact h
theorem bS.made(w:World)(n:Nat):bS (w.alloc (.cells (madeCells #[CI 0] n) 69)) w.heap.size (List.replicate n 0):=by
 unfold bS;rw[heap_alloc_new w _];have:madeCells #[Value.int .u64 0] n=((List.replicate n 0).map ml).toArray:=by
  apply Array.toList_inj.1
  refine List.ext_getElem (by simp[madeCells]) fun i h l=>?_
  simp[madeCells,ml,Nat.mod_one]
 rw[this]
def El(f:Nat->Nat)(n k:Nat):H3:=(List.range n).map (fun j=>if j<k then f j else 0)
theorem MG(f:Nat->Nat)(n:Nat):El f n 0=List.replicate n 0:=by
 unfold El;refine List.ext_getElem (by simp) fun i h l=>?_
 simp
theorem Bl(f:Nat->Nat)(n k:Nat):(El f n k).length=n:=by simp[El]
theorem Bm(f:Nat->Nat)(n k:Nat):(El f n k).set k (f k)=El f n (k+1):=by
 unfold El;refine List.ext_getElem (by simp) fun i t D=>?_
 rw[List.getElem_set];simp only[List.getElem_map,List.getElem_range]
 by_cases h:k=i
 ·subst h;simp
 ·rw[if_neg h]
  by_cases l:i<k
  ·rw[if_pos l,if_pos (by omega)]
  ·rw[if_neg l,if_neg (by omega)]
theorem xf(f:Nat->Nat)(n:Nat):El f n n=(List.range n).map f:=by
 unfold El;refine List.ext_getElem (by simp) fun i l h=>?_
 simp only[List.getElem_map,List.getElem_range];rw[if_pos (by simpa using h)]
theorem Gl(J:Nat)(F:Array Value)(n:Nat)(f:Nat->Nat)(w:World)
  (aa:∀args w,(callFunc J args).run Tryz.prog w=.ok (.enter J args) w) (hn:n<=35184372088830)
  (l:∀t k,H8 w t->k<n->GF J (#[C0 (k:Nat)]++F) t fun e L=>e=.returned (CI (f k:Nat))/\H8 t L):
  GF 269 #[C0 n,.func (.func J) #[] F] w fun e t=>∃g,e=.returned (.slice (some ⟨g,0,none⟩) n n)/\w.heap.size<=g/\bS t g ((List.range n).map f)/\H8 w t:=by
 have HS:=ac l;have M:=run_make_row' (P:=Tryz.prog) 22 69 (CI 0) 8 Tryz.underlying22 (by kernel_rfl) rfl .i64 .i64 n (by omega) (by omega);have Q:=ac (bS.made w n);have U:=ac ((Below.refl w.heap.size w).alloc (Nat.le_refl _) (.cells (madeCells #[CI 0] n) 69));clear l
 go_enter Tryz.func269,Tryz.ntmps269
 go_wp2_with fail;clear M
 go_loopw[10] (fun i wr=>∃k:Nat,k<=n/\i=.int .i64 k/\Hid (bS wr w.heap.size (El f n k))/\Hid (H8 w wr)) (fun i _=>n-(intOf i).toNat)
 case atStart=>exact⟨0,Nat.zero_le _,rfl,by rw[MG];exact Q,U⟩
 case round=>
  clear Q U;obtain⟨k,hk,rfl,K,I⟩:=hrel
  by_cases H:k<n
  ·have ae:(k:Int)<(n:Int):=by omega
   have C:=ac (fun t h=>uH HS t k h H);obtain⟨o,O⟩:∃o,f k=o:=⟨_,rfl⟩;rw[O]at C;have eV:=ac O;clear O;go_wp2_with fail;refine(uH C _ I.out).mono ?_;rintro e w2 ⟨rfl,G⟩;have D:=(uH K).below G (uH K).lt;have c0:=D.cell k (by rw[Bl];exact H);have f0:=D.free k;have R3:=ac (D.set k o);have Z:H8 w w2:=I.out.trans (G.mono I.out.size);have B3:=ac (Z.setCell (p:=⟨w.heap.size,k,none⟩) (Nat.le_refl _) (CI (o:Int)));clear G C K I Z D;go_wp2_with fail
   go_round
   case rel=>exact⟨k+1,by omega,by go_num,by rw[<-Bm,uH eV];exact R3,B3⟩
   case measure=>simp[intOf];omega
  ·have N:k=n:=by omega
   subst N;go_wp2_with fail;exact bodyPost_ret (v:=.slice (some ⟨w.heap.size,0,none⟩) k k) (by simp[results,Tryz.results269,go_sem]) rfl ⟨_,rfl,Nat.le_refl _,by rw[<-xf];exact uH K,I.out⟩
attribute [local go_sem ↓] Go.wp_at_zero Go.wp_at_succ
theorem ay{w l:World}{p:Addr}{v:Value}(h:w.cell? p=some v)(t:H8 w l):l.cell? p=some v:=by
 rw[t.cell (World.block_lt_of_cell? w _ h)];exact h
theorem Kq(s x y p o k n m c d L t:Nat)(F G H I:Nat)(w:World)(hk:k<n)(hm:k<m)
  (M:w.cell? ⟨L,0,none⟩=some (.slice (some ⟨F,G,none⟩) n c)) (N:w.cell? ⟨t,0,none⟩=some (.slice (some ⟨H,I,none⟩) m d))
  (O:w.cell? ⟨F,G+k,none⟩=some (CI (x:Nat))) (Q:w.cell? ⟨H,I+k,none⟩=some (CI (y:Nat)))
  (U:∀l,H8 w l->BS 203 #[CI x,CI y] l (CI (p:Nat)))
  (Z:∀l,H8 w l->BS 217 #[CI s,CI p] l (CI (o:Nat))):
  BS 216 #[CI s,C0 k,.pointer (some ⟨L,0,none⟩),.pointer (some ⟨t,0,none⟩)] w (CI (o:Nat)):=by
 have K1:=ac U;have K2:=ac Z;have aa:(k:Int)<(n:Int):=by omega
 have ae:(k:Int)<(m:Int):=by omega
 have HK:=ac (fun l (h:H8 w l)=>(show H8 w l/\l.cell? ⟨L,0,none⟩=some (.slice (some ⟨F,G,none⟩) n c)/\l.cell? ⟨t,0,none⟩=some (.slice (some ⟨H,I,none⟩) m d)/\l.cell? ⟨F,G+k,none⟩=some (CI (x:Nat))/\l.cell? ⟨H,I+k,none⟩=some (CI (y:Nat))from
  ⟨h,ay M h,ay N h,ay O h,ay Q h⟩))
 clear U Z M N O Q
 go_enter Tryz.func216,Tryz.ntmps216
 go_wp2_with fail
 go_region_held3(fun l=>H8 w l/\l.cell? ⟨L,0,none⟩=some (.slice (some ⟨F,G,none⟩) n c)/\l.cell? ⟨t,0,none⟩=some (.slice (some ⟨H,I,none⟩) m d)/\l.cell? ⟨F,G+k,none⟩=some (CI (x:Nat))/\l.cell? ⟨H,I+k,none⟩=some (CI (y:Nat)))
  (first|exact uH HK _ (Below.refl _ _).drew|exact uH HK _ (by assumption)|fail "KK")
  (first|(go_at_call 203;refine(uH K1 _ (And.left (by assumption))).mono ?_;rintro e w1 ⟨rfl,J⟩;have am:H8 w w1:=Below.trans (And.left (by assumption)) (J.mono (Below.size (And.left (by assumption))));clear J)|(go_at_call 217;refine(uH K2 _ (And.left (by assumption))).mono ?_;rintro e w2 ⟨rfl,K⟩;have ap:H8 w w2:=Below.trans (And.left (by assumption)) (K.mono (Below.size (And.left (by assumption))));clear K)|fail "NO ARM")
 go_wp2
 go_ret
 exact⟨rfl,And.left (by assumption)⟩
theorem Gm(x o k n c G bk:Nat)(j:Int)(t D:Nat)(w:World)(Z:k<n)(hj:-5000<=j/\j<=5000)
  (I:w.cell? ⟨G,0,none⟩=some (.slice (some ⟨t,D,none⟩) n c)) (J:w.cell? ⟨bk,0,none⟩=some (C0 j))
  (K:w.cell? ⟨t,D+k,none⟩=some (CI (x:Nat)))
  (L:∀l,H8 w l->BS 97 #[CI x,C0 (-j)] l (CI (o:Nat))):
  BS 270 #[C0 k,.pointer (some ⟨G,0,none⟩),.pointer (some ⟨bk,0,none⟩)] w (CI (o:Nat)):=by
 have N:=ac L;have O:(k:Int)<(n:Int):=by omega
 have hw:IntKind.i64.wrap (-j)= -j:=by simp only[IntKind.wrap_i64];omega
 have M:=ac (fun l (h:H8 w l)=>(show H8 w l/\l.cell? ⟨G,0,none⟩=some (.slice (some ⟨t,D,none⟩) n c)/\l.cell? ⟨t,D+k,none⟩=some (CI (x:Nat))/\l.cell? ⟨bk,0,none⟩=some (C0 j)from
  ⟨h,ay I h,ay K h,ay J h⟩))
 clear L I K J
 go_enter Tryz.func270,Tryz.ntmps270
 go_wp2_with fail
 go_region_held3(fun l=>H8 w l/\l.cell? ⟨G,0,none⟩=some (.slice (some ⟨t,D,none⟩) n c)/\l.cell? ⟨t,D+k,none⟩=some (CI (x:Nat))/\l.cell? ⟨bk,0,none⟩=some (C0 j))
  (first|exact uH M _ (Below.refl _ _).drew|exact uH M _ (by assumption)|fail "KK")
  (first|(go_at_call 97;refine(uH N _ (And.left (by assumption))).mono ?_;rintro e U ⟨rfl,F⟩;have Q:H8 w U:=Below.trans (And.left (by assumption)) (F.mono (Below.size (And.left (by assumption))));clear F)|fail "NO ARM")
 go_wp2
 go_ret
 exact⟨rfl,And.left (by assumption)⟩
theorem xg(m x r o k n c G:Nat)(H I:Nat)(w:World)(O:k<n)
  (Q:w.cell? ⟨G,0,none⟩=some (.slice (some ⟨H,I,none⟩) n c))
  (U:w.cell? ⟨H,I+k,none⟩=some (CI (x:Nat)))
  (J:∀h,H8 w h->BS 102 #[CI x] h (CI (r:Nat)))
  (K:∀h,H8 w h->BS 158 #[CI m,CI r] h (CI (o:Nat))):
  BS 157 #[CI m,C0 k,.pointer (some ⟨G,0,none⟩)] w (CI (o:Nat)):=by
 have L:=ac J;have M:=ac K;have N:(k:Int)<(n:Int):=by omega
 clear J K
 go_enter Tryz.func157,Tryz.ntmps157
 go_wp2_with fail;refine(uH L _ (Below.refl _ _)).mono ?_;rintro e Z ⟨rfl,t⟩;have D:=ac t;clear L t;go_wp2_with fail;refine(uH M _ (uH D)).mono ?_;rintro e w2 ⟨rfl,F⟩;clear M
 go_wp2
 go_ret
 exact⟨rfl,(uH D).trans (F.mono (uH D).size)⟩
theorem zE(q r:Bool)(x k n c D:Nat)(F G:Nat)(w:World)(K:k<n)
  (L:w.cell? ⟨D,0,none⟩=some (.slice (some ⟨F,G,none⟩) n c))
  (M:w.cell? ⟨F,G+k,none⟩=some (CI (x:Nat)))
  (H:∀h,H8 w h->BS 118 #[CI x] h (.bool r)):
  BS 177 #[.bool q,C0 k,.pointer (some ⟨D,0,none⟩)] w (.bool (q&&r)):=by
 have I:=ac H;have J:(k:Int)<(n:Int):=by omega
 clear H
 cases q
 ·go_enter Tryz.func177,Tryz.ntmps177
  go_wp2
  go_ret
  exact⟨rfl,Below.refl _ _⟩
 ·go_enter Tryz.func177,Tryz.ntmps177
  go_wp2_with fail;refine(uH I _ (Below.refl _ _)).mono ?_;rintro e N ⟨rfl,t⟩;clear I
  go_wp2
  go_ret
  exact⟨rfl,t⟩
theorem d9(w:World)(x:Value)(t:TypeId):(w.alloc (.cells #[x] t)).cell? ⟨w.heap.size,0,none⟩=some x:=by
 rw[cell_of_row _ _ 0 _ _ _ (heap_alloc_new w _)];rfl
theorem an(w:World)(o:Obj):(w.alloc o).heap.size=w.heap.size+1:=by simp
theorem ad(w:World)(o:Obj):H8 w (w.alloc o):=(Below.refl _ _).alloc (Nat.le_refl _) o
theorem ag.lt{w:World}{ao:GY}{cap:Nat}{I:List Int}(h:ag w ao cap I)(j:Nat):bg I j<18446744073709551616:=(h.wf j).2
def uR(I J:List Int):Nat->Nat
 |0=>0
 |k+1=>aV (uR I J k) (mV (bg I k) (bg J k))
def mv(I:List Int):Nat->Nat
 |0=>0
 |k+1=>mx (mv I k) (fR (bg I k))
def iD(I:List Int):Nat->Bool
 |0=>true
 |k+1=>iD I k&&ah (bg I k)
theorem rG(I J:List Int)(k:Nat):uR I J k<18446744073709551616:=by
 induction k with
 |zero=>show 0<18446744073709551616;omega
 |succ k ih=>exact jc _ _ ih (iQ _ _)
theorem Qj(a b:Nat)(h:a<18446744073709551616)(l:b<18446744073709551616):mx a b<18446744073709551616:=by
 unfold mx
 repeat' split
 all_goals omega
theorem rH(I:List Int)(k:Nat):mv I k<18446744073709551616:=by
 induction k with
 |zero=>show 0<18446744073709551616;omega
 |succ k ih=>exact Qj _ _ ih (by have:=kL (bg I k);omega)
theorem Ou(ao t:GY)(n m c d r:Nat)(w:World)
  (C:GF 156 #[C0 n,CI 0,.func (.func 216) #[] #[.pointer (some ⟨w.heap.size,0,none⟩),.pointer (some ⟨w.heap.size+1,0,none⟩)]] ((w.alloc (.cells #[.slice ao n c] 22)).alloc (.cells #[.slice t m d] 22)) fun e h=>e=.returned (CI (r:Nat))/\H8 w h):
  BS 185 #[.slice ao n c,.slice t m d] w (CI (r:Nat)):=by
 have K:=ac C;clear C
 go_enter Tryz.func185,Tryz.ntmps185
 go_wp2_with fail;refine Calls.mono (uH K) ?_;rintro e F ⟨rfl,l⟩;clear K
 go_wp2
 go_ret
 exact⟨rfl,l⟩
theorem Ov(args:Array Value)(w:World):(callFunc 216 args).run Tryz.prog w=.ok (.enter 216 args) w:=by
 simp only[callFunc,go_sem];rfl
theorem Bn(ao D:GY)(c d:Nat)(I J:List Int)(w:World)(L:ag w ao c I)(M:ag w D d J)(hl:I.length=J.length)(hn:I.length<=35184372088830)(hT:cX w):
  BS 185 #[.slice ao I.length c,.slice D J.length d] w (CI (uR I J I.length:Nat)):=by
 refine Ou _ _ _ _ _ _ _ w ?_;have N:=ad w (.cells #[.slice ao I.length c] 22);have x1:=d9 w (.slice ao I.length c) 22;have s1:=an w (.cells #[.slice ao I.length c] 22);generalize w.alloc (.cells #[.slice ao I.length c] 22)=K at*;have O:=ad K (.cells #[.slice D J.length d] 22);have Q:=d9 K (.slice D J.length d) 22;have y1:=ay x1 O;generalize K.alloc (.cells #[.slice D J.length d] 22)=w2 at*;have H:H8 w w2:=N.trans (O.mono N.size);rw[s1]at Q;refine Calls.mono (ps 216 #[.pointer (some ⟨w.heap.size,0,none⟩),.pointer (some ⟨w.heap.size+1,0,none⟩)] I.length (uR I J) w2 Ov hn ?_) ?_
 ·intro F k G Z
  have t:H8 w F:=H.trans (G.mono H.size);obtain⟨g1,o1,e1,_,z1⟩:=(L.below t).ne (by omega);obtain⟨g2,o2,e2,_,z2⟩:=(M.below t).ne (by omega);have u1:=ay y1 G;have u2:=ay Q G;rw[e1]at u1;rw[e2]at u2;have U:=hT.all t;exact Kq (uR I J k) (bg I k) (bg J k) (mV (bg I k) (bg J k)) (uR I J (k+1)) k I.length J.length c d w.heap.size (w.heap.size+1) g1 o1 g2 o2 F Z (by omega) u1 u2 (z1 k Z) (z2 k (by omega))
   (fun l h=>nX _ _ l (L.lt k) (M.lt k) (U.all h)) (fun l h=>Gj _ _ l (rG I J k) (iQ _ _) (U.all h))
 ·rintro e F ⟨rfl,G⟩
  exact⟨rfl,H.trans (G.mono H.size)⟩
theorem Kr(ao t:GY)(n m c d r:Nat)(w:World)
  (F:∀l,GF 184 #[.slice ao n c,.slice t m d] l fun e h=>e=.returned (.bool true)/\l=h)
  (C:BS 185 #[.slice ao n c,.slice t m d] w (CI (r:Nat))):
  BS 136 #[.slice ao n c,.slice t m d] w (.tuple #[CI (r:Nat),C0 0]):=by
 have K:=ac C;have L:=ac F;clear C F
 go_enter Tryz.func136,Tryz.ntmps136
 go_wp2_with fail;refine(uH L _).mono ?_;rintro e G ⟨rfl,rfl⟩;go_wp2_with fail;refine Calls.mono (uH K) ?_;rintro e G ⟨rfl,D⟩;clear K L
 go_wp2
 exact bodyPost_ret (v:=.tuple #[CI (r:Nat),C0 0]) (by simp[results,Tryz.results136,go_sem]) rfl ⟨rfl,D⟩
theorem Ks(ao t:GY)(n m c d:Nat)(w:World)
  (F:∀h,GF 184 #[.slice ao n c,.slice t m d] h fun e l=>e=.returned (.bool false)/\h=l):
  BS 136 #[.slice ao n c,.slice t m d] w (.tuple #[CI 0,C0 3]):=by
 have L:=ac F;clear F
 go_enter Tryz.func136,Tryz.ntmps136
 go_wp2_with fail;refine(uH L _).mono ?_;rintro e D ⟨rfl,rfl⟩;clear L
 go_wp2
 exact bodyPost_ret (v:=.tuple #[CI 0,C0 3]) (by simp[results,Tryz.results136,go_sem]) rfl ⟨rfl,Below.refl _ _⟩
def Ow(I J:List Int):Bool:=decide (I.length<=64/\I.length=J.length)
theorem xh(ao l:GY)(c d:Nat)(I J:List Int)(w:World)(D:ag w ao c I)(G:ag w l d J)(H:cX w):
  BS 136 #[.slice ao I.length c,.slice l J.length d] w (.tuple #[CI (if Ow I J=true then uR I J I.length else 0:Nat),C0 (if Ow I J=true then 0 else 3)]):=by
 have F:=fun t=>Gk ao l I.length J.length c d t
 cases h:Ow I J
 ·unfold Ow at h
  rw[h]at F;exact Ks ao l _ _ c d w F
 ·unfold Ow at h
  rw[h]at F;have K:=of_decide_eq_true h;exact Kr ao l _ _ c d _ w F (Bn ao l c d I J w D G K.2 (by omega) H)
theorem bS.bits{w:World}{g:Nat}{S:H3}(h:bS w g S)(t:∀x∈S,x<18446744073709551616):ag w (some ⟨g,0,none⟩) S.length (S.map (fun x:Nat=>(x:Int))):=by
 refine⟨by simp,?_,.inr ⟨g,0,rfl,h.lt,fun i D=>?_⟩⟩
 ·intro x G
  obtain⟨y,F,rfl⟩:=List.mem_map.1 G;have:=t y F;omega
 ·have l:i<S.length:=by simpa using D
  rw[Nat.zero_add,h.cell i l]
  simp[l]
def Pr(n:Nat)(f:Nat->Nat):List Int:=((List.range n).map f).map (fun x:Nat=>(x:Int))
theorem Kt(n:Nat)(f:Nat->Nat):(Pr n f).length=n:=by simp[Pr]
theorem Ox(n:Nat)(f:Nat->Nat)(j:Nat)(h:j<n):bg (Pr n f) j=f j:=by simp[Pr,bg,h]
theorem zF(args:Array Value)(w:World):(callFunc 157 args).run Tryz.prog w=.ok (.enter 157 args) w:=by
 simp only[callFunc,go_sem];rfl
theorem Ds(args:Array Value)(w:World):(callFunc 177 args).run Tryz.prog w=.ok (.enter 177 args) w:=by
 simp only[callFunc,go_sem];rfl
theorem Ku(args:Array Value)(w:World):(callFunc 270 args).run Tryz.prog w=.ok (.enter 270 args) w:=by
 simp only[callFunc,go_sem];rfl
theorem pu(a b:Nat):
  ∃l q,((cO a b=0/\cB a b=false/\l=false/\q=false)\/(cO a b= -1/\cB a b=true/\l=true/\q=false)\/(cO a b=0/\cB a b=true/\l=false/\q=true)\/(cO a b=1/\cB a b=true/\l=false/\q=false))/\cM a b l (cB a b)=mx a b:=by
 by_cases h:fK a=4\/fK b=4
 ·have D:cO a b=0:=by unfold cO;rw[if_pos h]
  have t:cB a b=false:=by unfold cB;rw[if_pos h]
  refine⟨false,false,.inl ⟨D,t,rfl,rfl⟩,?_⟩;unfold mx cM;rw[if_pos h,if_pos t]
 ·have D:cO a b=bY (fZ a) (fZ b):=by unfold cO;rw[if_neg h]
  have t:cB a b=true:=by unfold cB;rw[if_neg h]
  have H:mx a b=if fZ a<fZ b then b else a:=by unfold mx;rw[if_neg h]
  have F:∀l,cM a b l true=if l=true then b else a:=fun l=>by unfold cM;rw[if_neg (by decide)]
  rw[D,t,H];rcases(show fZ a<fZ b\/fZ a=fZ b\/fZ b<fZ a by omega)with g|g|g
  ·exact⟨true,false,.inr (.inl ⟨jN g,rfl,rfl,rfl⟩),by rw[F,if_pos rfl,if_pos g]⟩
  ·have G:¬fZ a<fZ b:=by omega
   exact⟨false,true,.inr (.inr (.inl ⟨kO g,rfl,rfl,rfl⟩)),by rw[F,if_neg (by decide),if_neg G]⟩
  ·have G:¬fZ a<fZ b:=by omega
   exact⟨false,false,.inr (.inr (.inr ⟨jO g,rfl,rfl,rfl⟩)),by rw[F,if_neg (by decide),if_neg G]⟩
theorem Gn(a b:Nat)(w:World)(D:a<18446744073709551616)(F:b<18446744073709551616):
  BS 158 #[CI a,CI b] w (CI (mx a b:Nat)):=by
 obtain⟨l,q,h,e⟩:=pu a b;rw[<-e];exact NT a b _ _ l q w h (fun t=>rm a b t D F)
theorem Dt(a b:Nat)(w:World)(D:a<18446744073709551616)(F:b<18446744073709551616):
  BS 141 #[CI a,CI b] w (CI (mx a b:Nat)):=by
 obtain⟨l,q,h,e⟩:=pu a b;rw[<-e];exact JM a b _ _ l q w h (fun t=>zA a b t D F)
theorem zG(ao:GY)(n c r:Nat)(w:World)
  (C:GF 156 #[C0 n,CI 0,.func (.func 157) #[] #[.pointer (some ⟨w.heap.size,0,none⟩)]] (w.alloc (.cells #[.slice ao n c] 22)) fun e h=>e=.returned (CI (r:Nat))/\H8 w h):
  BS 98 #[.slice ao n c] w (CI (r:Nat)):=by
 have K:=ac C;clear C
 go_enter Tryz.func98,Tryz.ntmps98
 go_wp2_with fail;refine Calls.mono (uH K) ?_;rintro e D ⟨rfl,l⟩;clear K
 go_wp2
 go_ret
 exact⟨rfl,l⟩
theorem fw(ao:GY)(c:Nat)(I:List Int)(w:World)(H:ag w ao c I)(K:I.length<=35184372088830):
  BS 98 #[.slice ao I.length c] w (CI (mv I I.length:Nat)):=by
 refine zG ao _ c _ w ?_;have D:=ad w (.cells #[.slice ao I.length c] 22);have L:=d9 w (.slice ao I.length c) 22;generalize w.alloc (.cells #[.slice ao I.length c] 22)=Q at*;refine Calls.mono (ps 157 #[.pointer (some ⟨w.heap.size,0,none⟩)] I.length (mv I) Q zF K ?_) ?_
 ·intro t k F J
  have G:H8 w t:=D.trans (F.mono D.size);obtain⟨M,N,O,_,z1⟩:=(H.below G).ne (by omega);have u1:=ay L F;rw[O]at u1;exact xg (mv I k) (bg I k) (fR (bg I k)) (mv I (k+1)) k I.length c w.heap.size M N t J u1 (z1 k J)
   (fun l h=>rl _ l (H.lt k)) (fun l h=>Gn _ _ l (rH I k) (by have:=kL (bg I k);omega))
 ·rintro e t ⟨rfl,F⟩
  exact⟨rfl,D.trans (F.mono D.size)⟩
theorem Du(ao:GY)(n c:Nat)(r:Bool)(w:World)
  (C:GF 176 #[C0 n,.bool true,.func (.func 177) #[] #[.pointer (some ⟨w.heap.size,0,none⟩)]] (w.alloc (.cells #[.slice ao n c] 22)) fun e h=>e=.returned (.bool r)/\H8 w h):
  BS 125 #[.slice ao n c] w (.bool r):=by
 have K:=ac C;clear C
 go_enter Tryz.func125,Tryz.ntmps125
 go_wp2_with fail;refine Calls.mono (uH K) ?_;rintro e D ⟨rfl,l⟩;clear K
 go_wp2
 go_ret
 exact⟨rfl,l⟩
theorem dO(ao:GY)(c:Nat)(I:List Int)(w:World)(H:ag w ao c I)(K:I.length<=35184372088830):
  BS 125 #[.slice ao I.length c] w (.bool (iD I I.length)):=by
 refine Du ao _ c _ w ?_;have t:=ad w (.cells #[.slice ao I.length c] 22);have L:=d9 w (.slice ao I.length c) 22;generalize w.alloc (.cells #[.slice ao I.length c] 22)=Q at*;refine Calls.mono (wZ 177 #[.pointer (some ⟨w.heap.size,0,none⟩)] I.length (iD I) Q Ds K ?_) ?_
 ·intro l k D J
  have G:H8 w l:=t.trans (D.mono t.size);obtain⟨M,N,O,_,z1⟩:=(H.below G).ne (by omega);have u1:=ay L D;rw[O]at u1;exact zE (iD I k) (ah (bg I k)) (bg I k) k I.length c w.heap.size M N l J u1 (z1 k J) (fun F h=>gE _ F (H.lt k))
 ·rintro e l ⟨rfl,D⟩
  exact⟨rfl,t.trans (D.mono t.size)⟩
theorem Gp(s r:Nat)(f:Int)(w:World)(C:∀h,H8 w h->BS 271 #[CI s] h (.tuple #[CI (r:Nat),.int .u8 f])):
  BS 242 #[CI s] w (CI (r:Nat)):=by
 have K:=ac C;clear C
 go_enter Tryz.func242,Tryz.ntmps242
 go_wp2_with fail;refine(uH K _ (Below.refl _ _)).mono ?_;rintro e D ⟨rfl,t⟩;clear K
 go_wp2
 go_ret
 exact⟨rfl,t⟩
theorem Dv(ao:GY)(n c s r o:Nat)(k f:Int)(w:World)(Z:World->Nat->Prop)(_ZS:∀l t g,Z l g->H8 l t->Z t g)
  (K:GF 269 #[C0 n,.func (.func 270) #[] #[.pointer (some ⟨w.heap.size,0,none⟩),.pointer (some ⟨w.heap.size+1,0,none⟩)]] ((w.alloc (.cells #[.slice ao n c] 22)).alloc (.cells #[C0 k] 3)) fun e t=>∃g,e=.returned (.slice (some ⟨g,0,none⟩) n n)/\Z t g/\H8 w t/\t.cell? ⟨w.heap.size+1,0,none⟩=some (C0 k))
  (L:∀l g,Z l g->H8 w l->BS 185 #[.slice (some ⟨g,0,none⟩) n n,.slice (some ⟨g,0,none⟩) n n] l (CI (s:Nat)))
  (M:∀l,H8 w l->BS 271 #[CI s] l (.tuple #[CI (r:Nat),.int .u8 f]))
  (N:∀l,H8 w l->BS 97 #[CI r,C0 k] l (CI (o:Nat))):
  BS 241 #[.slice ao n c,C0 k] w (CI (o:Nat)):=by
 have Q:=ac K;have K2:=ac L;have K3:=ac (fun l (O:H8 w l)=>Gp s r f l (fun t I=>M t (O.trans (I.mono O.size))));have K4:=ac N;clear K L M N
 go_enter Tryz.func241,Tryz.ntmps241
 go_wp2_with fail;refine Calls.mono (uH Q) ?_;rintro e w1 ⟨g,rfl,hz,D,hc⟩;have B:=ac D;have G:=ac hz;have U:=ac hc;clear Q D hz hc;go_wp2_with fail;have ZS:=ac _ZS;clear _ZS;refine aB (fun W=>H8 w W/\Z W g/\W.cell? ⟨w.heap.size+1,0,none⟩=some (C0 k)) ⟨uH B,uH G,uH U⟩ ?_;clear B G U;rintro F ⟨J,zz,cc⟩;have HK:=ac (fun l (h:H8 F l)=>(show H8 F l/\l.cell? ⟨w.heap.size+1,0,none⟩=some (C0 k)from⟨h,ay cc h⟩));have H:=ac (fun l (h:H8 F l)=>J.trans (h.mono J.size));have G:=ac (fun l (h:H8 F l)=>uH ZS _ _ _ zz h);clear J zz cc ZS
 go_region_held3(fun l=>H8 F l/\l.cell? ⟨w.heap.size+1,0,none⟩=some (C0 k))
  (first|exact uH HK _ (Below.refl _ _).drew|exact uH HK _ (by assumption)|fail "KK")
  (first
   |(go_at_call 185;refine(uH K2 _ _ (uH G _ (And.left (by assumption))) (uH H _ (And.left (by assumption)))).mono ?_;rintro e wa ⟨rfl,D⟩;have aa:H8 F wa:=Below.trans (And.left (by assumption)) (D.mono (Below.size (And.left (by assumption))));clear D)
   |(go_at_call 242;refine(uH K3 _ (uH H _ (And.left (by assumption)))).mono ?_;rintro e wb ⟨rfl,D⟩;have ae:H8 F wb:=Below.trans (And.left (by assumption)) (D.mono (Below.size (And.left (by assumption))));clear D)
   |(go_at_call 97;refine(uH K4 _ (uH H _ (And.left (by assumption)))).mono ?_;rintro e wc ⟨rfl,D⟩;have am:H8 F wc:=Below.trans (And.left (by assumption)) (D.mono (Below.size (And.left (by assumption))));clear D)
   |fail "NO ARM")
 all_goals
  have hn:H8 F wc:=And.left (by assumption)
  go_wp2
  go_ret
  exact⟨rfl,uH H _ hn⟩
def tL(k:Int)(I:List Int):List Int:=Pr I.length (fun i=>xV (bg I i) (-k))
theorem Gq(k:Int)(I:List Int):(tL k I).length=I.length:=Kt _ _
theorem zH(ao:GY)(c:Nat)(I:List Int)(k:Int)(w:World)(H:ag w ao c I)(hn:I.length<=64)(Z:-5000<=k/\k<=5000)(F:cX w):
  BS 241 #[.slice ao I.length c,C0 k] w (CI (xV (sV (uR (tL k I) (tL k I) I.length)) k:Nat)):=by
 refine Dv ao _ c (uR (tL k I) (tL k I) I.length) (sV (uR (tL k I) (tL k I) I.length)) _ k (sF (uR (tL k I) (tL k I) I.length)) w (fun t g=>ag t (some ⟨g,0,none⟩) I.length (tL k I)) (fun _ _ _ h l=>h.below l) ?_ ?_ ?_ ?_
 ·have M:=ad w (.cells #[.slice ao I.length c] 22)
  have x0:=d9 w (.slice ao I.length c) 22;have s0:=an w (.cells #[.slice ao I.length c] 22);generalize w.alloc (.cells #[.slice ao I.length c] 22)=L at*;have N:=ad L (.cells #[C0 k] 3);have K:=d9 L (C0 k) 3;have y0:=ay x0 N;generalize L.alloc (.cells #[C0 k] 3)=U at*;have G:H8 w U:=M.trans (N.mono M.size);rw[s0]at K;refine Calls.mono (Gl 270 #[.pointer (some ⟨w.heap.size,0,none⟩),.pointer (some ⟨w.heap.size+1,0,none⟩)] I.length (fun i=>xV (bg I i) (-k)) U Ku (by omega) ?_) ?_
  ·intro t j l O
   have D:H8 w t:=G.trans (l.mono G.size);obtain⟨g1,o1,e1,_,z1⟩:=(H.below D).ne (by omega);have u0:=ay y0 l;have u1:=ay K l;rw[e1]at u0;have T':=F.all D;exact Gm (bg I j) (xV (bg I j) (-k)) j I.length c w.heap.size (w.heap.size+1) k g1 o1 t O Z u0 u1 (z1 j O)
    (fun J h=>mU _ _ J (H.lt j) (T'.all h))
  ·rintro e t ⟨g,rfl,hg,hR,l⟩
   refine⟨g,rfl,?_,G.trans (l.mono G.size),ay K l⟩;have:=hR.bits (fun x hx=>by
    obtain⟨j,_,rfl⟩:=List.mem_map.1 hx;exact Bb _ _ (H.lt j))
   simpa[tL,Pr]using this
 ·intro t g Q l
  have:=Bn _ _ _ _ (tL k I) (tL k I) t Q Q rfl (by rw[Gq];omega) (F.all l);rw[Gq]at this;exact this
 ·intro t l
  exact Dr _ t (rG _ _ _) (F.all l)
 ·intro t l
  exact mU _ _ t (MC _ (rG _ _ _)) (F.all l)
theorem Gr(a:Nat)(l:a<18446744073709551616):-1074<=eX a/\eX a<=1024:=by
 unfold eX
 split
 ·omega
 ·rename_i h
  have t:=fO a (fun e=>h (by omega)) (fun e=>h (by omega));obtain⟨z1,z2,D,F,G,H,I,J,K⟩:=gf a l t (fun e=>h (by omega));omega
theorem Gs(I:List Int)(k:Nat):mv I k<=9218868437227405312\/mv I k=9221120237041090560:=by
 induction k with
 |zero=>exact .inl (by show 0<=9218868437227405312;omega)
 |succ k ih=>
  show mx (mv I k) (fR (bg I k))<=9218868437227405312\/mx (mv I k) (fR (bg I k))=9221120237041090560;have t:=kL (bg I k);generalize bg I k=x at*;generalize mv I k=m at*
  by_cases h:fK m=4\/fK (fR x)=4
  ·right;unfold mx;rw[if_pos h]
  ·have e:mx m (fR x)=m\/mx m (fR x)=fR x:=by
    unfold mx;rw[if_neg h]
    split
    ·exact .inr rfl
    ·exact .inl rfl
   rcases e with e|e
   ·rw[e];exact ih
   ·rw[e]
    left
    have D:fR (fR x)=fR x:=(kQ (fR x) t).2.1;have l:=(cY (fR x)).1;rw[D]at l;rcases Nat.lt_or_ge 9218868437227405312 (fR x)with g|g
    ·exact absurd (.inr (l.2 g)) h
    ·exact g
theorem Gt:ah 9218868437227405312=false/\ah 9221120237041090560=false:=by decide
theorem Gu{m:Nat}(h:m<9218868437227405312):ah m=true:=(cY m).2.2.2 (by rw[(kQ m (by omega)).2.1];exact h)
def Ps(I:List Int):Nat:=if mv I I.length=0\/ah (mv I I.length)=false then mv I I.length else xV (sV (uR (tL (eX (mv I I.length)) I) (tL (eX (mv I I.length)) I) I.length)) (eX (mv I I.length))
theorem Oy(I:List Int):Ps I<18446744073709551616:=by
 unfold Ps
 split
 ·exact rH _ _
 ·exact Bb _ _ (MC _ (rG _ _ _))
theorem rI(ao:GY)(n c m:Nat)(w:World)(I:n<=64)(F:m=0\/m=9218868437227405312\/m=9221120237041090560)
  (t:BS 98 #[.slice ao n c] w (CI (m:Nat))):
  BS 210 #[.slice ao n c] w (.tuple #[CI (m:Nat),C0 0]):=by
 have H:(n:Int)<=64:=by omega
 have D:=ac t;clear t;rcases F with rfl|rfl|rfl
 all_goals
  go_enter Tryz.func210,Tryz.ntmps210
  go_wp2_with fail;refine Calls.mono (uH D) ?_;rintro e J ⟨rfl,l⟩;clear D
  go_wp2
  refine bodyPost_ret (v:=.tuple #[CI _,C0 0]) (by simp[results,Tryz.results210,go_sem]) rfl ⟨rfl,l⟩
theorem Dw(ao:GY)(n c m o:Nat)(k:Int)(w:World)(Z:n<=64)(N:m≠0)(O:m<9218868437227405312)
  (H:BS 98 #[.slice ao n c] w (CI (m:Nat)))
  (I:∀l,H8 w l->BS 119 #[CI m] l (C0 k))
  (J:∀l,H8 w l->BS 241 #[.slice ao n c,C0 k] l (CI (o:Nat))):
  BS 210 #[.slice ao n c] w (.tuple #[CI (o:Nat),C0 0]):=by
 have Q:(n:Int)<=64:=by omega
 have K:=ac H;have L:=ac I;have M:=ac J;have g0:¬((m:Int)=0):=by omega
 have g1:¬((m:Int)=9218868437227405312):=by omega
 have g2:¬((m:Int)=9221120237041090560):=by omega
 clear H I J O N
 go_enter Tryz.func210,Tryz.ntmps210
 go_wp2_with fail;refine Calls.mono (uH K) ?_;rintro e w1 ⟨rfl,t⟩;have B:=ac t;clear K t;go_wp2_with fail;refine(uH L _ (uH B)).mono ?_;rintro e w2 ⟨rfl,D⟩;have G:=ac ((uH B).trans (D.mono (uH B).size));clear L D B;go_wp2_with fail;refine(uH M _ (uH G)).mono ?_;rintro e w3 ⟨rfl,F⟩;have U:=ac ((uH G).trans (F.mono (uH G).size));clear M F G
 go_wp2
 exact bodyPost_ret (v:=.tuple #[CI (o:Nat),C0 0]) (by simp[results,Tryz.results210,go_sem]) rfl ⟨rfl,uH U⟩
theorem Gv(ao:GY)(c:Nat)(I:List Int)(w:World)(H:ag w ao c I)(l:I.length<=64)(J:cX w):
  BS 210 #[.slice ao I.length c] w (.tuple #[CI (Ps I:Nat),C0 0]):=by
 have F:=fw ao c I w H (by omega);have K:=rH I I.length;unfold Ps
 by_cases G:mv I I.length=0
 ·rw[if_pos (.inl G)]
  exact rI ao _ c _ w l (.inl G) F
 rcases Gs I I.length with h|h
 ·rcases Nat.lt_or_ge (mv I I.length) 9218868437227405312 with g|g
  ·rw[if_neg (fun e=>e.elim G (fun e=>by rw[Gu g]at e;cases e))]
   have L:=Gr _ K;exact Dw ao _ c _ _ (eX (mv I I.length)) w l G g F (fun t D=>FQ _ t K (J.all D)) (fun t D=>zH ao c I _ t (H.below D) l (by omega) (J.all D))
  ·have e:mv I I.length=9218868437227405312:=by omega
   rw[if_pos (.inr (by rw[e];exact Gt.1))];exact rI ao _ c _ w l (.inr (.inl e)) F
 ·rw[if_pos (.inr (by rw[h];exact Gt.2))]
  exact rI ao _ c _ w l (.inr (.inr h)) F
theorem IG(ao:GY)(c:Nat)(I:List Int)(w:World)(K:ag w ao c I)(Z:I.length<=35184372088830):
  BS 218 #[.slice ao I.length c] w (CI (mv I I.length:Nat)):=by
 have L:=ac K;obtain⟨n,h⟩:∃n,I.length=n:=⟨_,rfl⟩;rw[h]at Z⊢;have M:=ac h;clear K h
 go_enter Tryz.func218,Tryz.ntmps218
 go_wp2_with fail
 go_loopw[3,4] (fun t i wr=>∃k:Nat,k<=n/\i=.int .i64 k/\t=.int .u64 (mv I k:Nat)/\Hid (H8 w wr)) (fun _ i _=>n-(intOf i).toNat)
 case atStart=>exact⟨0,Nat.zero_le _,rfl,rfl,Below.refl _ _⟩
 case round=>
  obtain⟨k,hk,rfl,rfl,F⟩:=hrel
  by_cases G:k<n
  ·have aa:(k:Int)<(n:Int):=by omega
   obtain⟨b,am,J,hb,Q⟩:=((uH L).below F.out).ne (by rw[uH M];omega);have ae:=Q k (by rw[uH M];exact G);have N:=ac (fun l=>Dk (bg I k) l ((uH L).lt k));have O:=ac (fun l=>Dt (mv I k) (fR (bg I k)) l (rH I k) (by have:=kL (bg I k);omega));have eV:Hid (mv I (k+1)=mx (mv I k) (fR (bg I k))):=rfl;subst J;clear Q;generalize mx (mv I k) (fR (bg I k))=o at*;generalize fR (bg I k)=r at*;generalize bg I k=x at*;generalize mv I k=tv at*;go_wp2_with fail;refine(uH N _).mono ?_;rintro e U ⟨rfl,rfl⟩;go_wp2_with fail;refine(uH O _).mono ?_;rintro e U ⟨rfl,D⟩;have B2:Hid (H8 w U):=F.out.trans (D.mono F.out.size);clear D N O;go_wp2_with fail
   go_round
   case rel=>exact⟨k+1,by omega,by go_num,by rw[eV.out],B2⟩
   case measure=>simp[intOf];omega
  ·have H:k=n:=by omega
   subst H;go_wp2_with fail;exact bodyPost_ret (v:=.int .u64 (mv I k:Nat)) (by simp[results,Tryz.results218,go_sem]) rfl ⟨rfl,F.out⟩
theorem nY(I:List Int):∀(m k:Nat),k<=m->iD I m=true->iD I k=true:=by
 intro m
 induction m with
 |zero=>intro k t _;rw[show k=0 by omega];rfl
 |succ m ih=>
  intro k t h;have l:(iD I m&&ah (bg I m))=true:=h;rw[Bool.and_eq_true]at l
  by_cases e:k=m+1
  ·subst e;exact h
  ·exact ih k (by omega) l.1
theorem Gw(I:List Int)(n k:Nat)(t:k<n)(h:ah (bg I k)=false):iD I n=false:=by
 cases e:iD I n
 ·rfl
 ·have l:(iD I k&&ah (bg I k))=true:=nY I n (k+1) (by omega) e
  rw[h,Bool.and_false]at l
  cases l
theorem uS(ao:GY)(c:Nat)(I:List Int)(w:World)(N:ag w ao c I)(hn:I.length<=35184372088830):
  BS 53 #[.slice ao I.length c] w (.bool (iD I I.length)):=by
 have O:=ac N;obtain⟨n,l⟩:∃n,I.length=n:=⟨_,rfl⟩;rw[l]at hn⊢;have Q:=ac l;clear N l;obtain⟨v,L⟩:∃v,iD I n=v:=⟨_,rfl⟩;rw[L];have U:=ac L;clear L
 go_enter Tryz.func53,Tryz.ntmps53
 go_wp2_with fail
 go_loopw[3] (fun i wr=>∃k:Nat,k<=n/\i=.int .i64 k/\Hid (iD I k=true)/\Hid (H8 w wr)) (fun i _=>n-(intOf i).toNat)
 case atStart=>exact⟨0,Nat.zero_le _,rfl,rfl,Below.refl _ _⟩
 case round=>
  obtain⟨k,hk,rfl,hq,F⟩:=hrel
  by_cases D:k<n
  ·have aa:(k:Int)<(n:Int):=by omega
   obtain⟨b,am,M,hb,hc⟩:=((uH O).below F.out).ne (by rw[uH Q];omega);have ae:=hc k (by rw[uH Q];exact D);have t:=ac (fun G=>jo (bg I k) G ((uH O).lt k));have Z:Hid (iD I (k+1)=(iD I k&&ah (bg I k))):=rfl;have eF:=ac (fun h=>Gw I n k D h);subst M;clear hc;generalize bg I k=x at*
   cases hf:ah x
   ·have H:=ac ((uH U).symm.trans (uH eF hf))
    rw[hf]at t;have J:=uH H;subst J;go_wp2_with fail;refine(uH t _).mono ?_;rintro e w2 ⟨rfl,rfl⟩;clear t;go_wp2_with fail;exact bodyPost_ret (v:=.bool false) (by simp[results,Tryz.results53,go_sem]) rfl ⟨rfl,F.out⟩
   ·rw[hf]at t Z
    go_wp2_with fail;refine(uH t _).mono ?_;rintro e w2 ⟨rfl,rfl⟩;clear t;go_wp2_with fail
    go_round
    case rel=>exact⟨k+1,by omega,by go_num,by unfold Hid;rw[Z.out,hq.out];rfl,F⟩
    case measure=>simp[intOf];omega
  ·have K:k=n:=by omega
   subst K;have H:=(uH U).symm.trans hq.out;subst H;go_wp2_with fail;exact bodyPost_ret (v:=.bool true) (by simp[results,Tryz.results53,go_sem]) rfl ⟨rfl,F.out⟩
def xi(K:Int)(x:Nat):Bool:=ah x&&(decide (fK x=0)||decide (-K<=eX x/\eX x<K))
def xj(K:Int)(I:List Int):Nat->Bool
 |0=>true
 |k+1=>xj K I k&&xi K (bg I k)
theorem Gx(K:Int)(I:List Int):∀(m k:Nat),k<=m->xj K I m=true->xj K I k=true:=by
 intro m
 induction m with
 |zero=>intro k t _;rw[show k=0 by omega];rfl
 |succ m ih=>
  intro k t h;have l:(xj K I m&&xi K (bg I m))=true:=h;rw[Bool.and_eq_true]at l
  by_cases e:k=m+1
  ·subst e;exact h
  ·exact ih k (by omega) l.1
theorem zI(K:Int)(I:List Int)(n k:Nat)(t:k<n)(h:xj K I n=true):xi K (bg I k)=true:=by
 have l:(xj K I k&&xi K (bg I k))=true:=Gx K I n (k+1) (by omega) h;rw[Bool.and_eq_true]at l;exact l.2
theorem Oz(K:Int)(I:List Int)(n k:Nat)(l:k<n)(h:xi K (bg I k)=false):xj K I n=false:=by
 cases e:xj K I n
 ·rfl
 ·rw[zI K I n k l e]at h
  cases h
theorem Gy(K:Int)(x:Nat):(ah x=false/\xi K x=false)\/(ah x=true/\fK x=0/\xi K x=true)\/(ah x=true/\fK x≠0/\eX x< -K/\xi K x=false)\/(ah x=true/\fK x≠0/\-K<=eX x/\K<=eX x/\xi K x=false)\/(ah x=true/\fK x≠0/\-K<=eX x/\eX x<K/\xi K x=true):=by
 unfold xi
 cases hf:ah x
 ·exact .inl ⟨rfl,rfl⟩
 ·right
  by_cases h:fK x=0
  ·left;exact⟨rfl,h,by rw[decide_eq_true h];rfl⟩
  ·right
   rw[decide_eq_false h]
   by_cases l:eX x< -K
   ·left;exact⟨rfl,h,l,by rw[decide_eq_false (by omega)];rfl⟩
   ·right
    by_cases t:K<=eX x
    ·left;exact⟨rfl,h,by omega,t,by rw[decide_eq_false (by omega)];rfl⟩
    ·right;exact⟨rfl,h,by omega,by omega,by rw[decide_eq_true (by omega)];rfl⟩
theorem zJ(ao:GY)(c:Nat)(I:List Int)(K:Int)(w:World)(hI:ag w ao c I)(hn:I.length<=35184372088830)(hK:-5000<=K/\K<=5000):
  BS 44 #[.slice ao I.length c,C0 K] w (.bool (xj K I I.length)):=by
 have HI:=ac hI;obtain⟨n,aa⟩:∃n,I.length=n:=⟨_,rfl⟩;rw[aa]at hn⊢;have HN:=ac aa;have hw:IntKind.i64.wrap (-K)= -K:=by simp only[IntKind.wrap_i64];omega
 clear hI aa hK;obtain⟨v,hv⟩:∃v,xj K I n=v:=⟨_,rfl⟩;rw[hv];have HV:=ac hv;clear hv
 go_enter Tryz.func44,Tryz.ntmps44
 go_wp2_with fail
 go_loopw[5] (fun i wr=>∃k:Nat,k<=n/\i=.int .i64 k/\Hid (xj K I k=true)/\Hid (H8 w wr)) (fun i _=>n-(intOf i).toNat)
 case atStart=>exact⟨0,Nat.zero_le _,rfl,rfl,Below.refl _ _⟩
 case round=>
  obtain⟨k,hk,rfl,hq,M⟩:=hrel
  by_cases ae:k<n
  ·have a0:(k:Int)<(n:Int):=by omega
   obtain⟨b,a1,aI,hb,hc⟩:=((uH HI).below M.out).ne (by rw[uH HN];omega);have t:=ac (hc k (by rw[uH HN];exact ae));have N:=(uH HI).lt k;have J:=ac (fun U=>jo (bg I k) U N);have O:=ac (fun U=>lw (bg I k) U N);have L:=ac (fun U=>Dh (bg I k) U N);have eV:Hid (xj K I (k+1)=(xj K I k&&xi K (bg I k))):=rfl;have Q:=ac (fun h=>Oz K I n k ae h);have WY:=ac (Gy K (bg I k));subst aI;clear hc N;generalize xi K (bg I k)=tb at*;generalize eX (bg I k)=ex at*;generalize fK (bg I k)=kd at*;generalize ah (bg I k)=ff at*;generalize bg I k=x at*;rcases uH WY with⟨rfl,rfl⟩|⟨rfl,rfl,rfl⟩|⟨rfl,g0,g1,rfl⟩|⟨rfl,g0,g1,g2,rfl⟩|⟨rfl,g0,g1,g2,rfl⟩
   ·have G:=(uH HV).symm.trans (uH Q rfl)
    subst G;clear WY Q;have F:=uH t;go_wp2_with fail;refine(uH J _).mono ?_;rintro e D ⟨rfl,rfl⟩;clear J O L;go_wp2_with fail;exact bodyPost_ret (v:=.bool false) (by simp[results,Tryz.results44,go_sem]) rfl ⟨rfl,M.out⟩
   ·clear WY Q
    have F:=uH t;go_wp2_with fail;refine(uH J _).mono ?_;rintro e D ⟨rfl,rfl⟩;go_wp2_with fail;refine(uH O _).mono ?_;rintro e D ⟨rfl,rfl⟩;clear J O L;go_wp2_with fail
    go_round
    case rel=>exact⟨k+1,by omega,by go_num,by unfold Hid;rw[eV.out,hq.out];rfl,M⟩
    case measure=>simp[intOf];omega
   ·have G:=(uH HV).symm.trans (uH Q rfl)
    subst G;clear WY Q;have F:=uH t;have am:(kd==0)=false:=by rw[beq_eq_false_iff_ne];exact g0
    go_wp2_with fail;refine(uH J _).mono ?_;rintro e D ⟨rfl,rfl⟩;go_wp2_with fail;refine(uH O _).mono ?_;rintro e D ⟨rfl,rfl⟩;go_wp2_with fail;refine(uH L _).mono ?_;rintro e D ⟨rfl,l⟩;have Z:Hid (H8 w D):=M.out.trans (l.mono M.out.size);clear J O L l;go_wp2_with fail;exact bodyPost_ret (v:=.bool false) (by simp[results,Tryz.results44,go_sem]) rfl ⟨rfl,Z.out⟩
   ·have G:=(uH HV).symm.trans (uH Q rfl)
    subst G;clear WY Q;have F:=uH t;have HC:=t;have am:(kd==0)=false:=by rw[beq_eq_false_iff_ne];exact g0
    go_wp2_with fail;refine(uH J _).mono ?_;rintro e D ⟨rfl,rfl⟩;go_wp2_with fail;refine(uH O _).mono ?_;rintro e D ⟨rfl,rfl⟩;go_wp2_with fail;refine(uH L _).mono ?_;rintro e D ⟨rfl,l⟩;have ap:=ay (uH HC) l;have Z:Hid (H8 w D):=M.out.trans (l.mono M.out.size);clear J O l F;go_wp2_with fail;refine(uH L _).mono ?_;rintro e w3 ⟨rfl,H⟩;have B3:Hid (H8 w w3):=Z.out.trans (H.mono Z.out.size);clear L H;go_wp2_with fail;exact bodyPost_ret (v:=.bool false) (by simp[results,Tryz.results44,go_sem]) rfl ⟨rfl,B3.out⟩
   ·clear WY Q
    have F:=uH t;have HC:=t;have am:(kd==0)=false:=by rw[beq_eq_false_iff_ne];exact g0
    go_wp2_with fail;refine(uH J _).mono ?_;rintro e D ⟨rfl,rfl⟩;go_wp2_with fail;refine(uH O _).mono ?_;rintro e D ⟨rfl,rfl⟩;go_wp2_with fail;refine(uH L _).mono ?_;rintro e D ⟨rfl,l⟩;have ap:=ay (uH HC) l;have Z:Hid (H8 w D):=M.out.trans (l.mono M.out.size);clear J O l F;go_wp2_with fail;refine(uH L _).mono ?_;rintro e w3 ⟨rfl,H⟩;have B3:Hid (H8 w w3):=Z.out.trans (H.mono Z.out.size);clear L H;go_wp2_with fail
    go_round
    case rel=>exact⟨k+1,by omega,by go_num,by unfold Hid;rw[eV.out,hq.out];rfl,B3⟩
    case measure=>simp[intOf];omega
  ·have ax:k=n:=by omega
   subst ax;have e2:=(uH HV).symm.trans hq.out;subst e2;go_wp2_with fail;exact bodyPost_ret (v:=.bool true) (by simp[results,Tryz.results44,go_sem]) rfl ⟨rfl,M.out⟩
end Go.Proofs.YtcbcmlaogehimaaGreatDoor
