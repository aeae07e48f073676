/- Part 42 of the texts. -/
import Derived.Test.YtenpggicmfhhdaaGreatDoorParte41
set_option maxHeartbeats 8000000
set_option maxRecDepth 20000
namespace Go.Proofs.YtenpggicmfhhdaaGreatDoor
open Go.RowKit
attribute [local go_sem ↓] Go.wp_at_zero Go.wp_at_succ
theorem wX(l:Option Addr)(n c:Nat)(w:World)(A:1≤n)(D:n≤64)
  (m:Calls Tryz.prog 37 #[.slice l n c] w fun e d=>e=.returned (.bool false)∧Below w.heap.size w d):
  Calls Tryz.prog 51 #[.slice l n c] w fun e y=>e=.returned (.tuple #[.slice none 0 0,.int .u64 0,.int .u64 0,.int .i64 4])∧Below w.heap.size w y:=by
 have t:=aa m
 have z:(n:Int)≤64:=by omega
 have f:¬(n:Int)=0:=by omega
 have F:((n:Int)==0)=false:=by rw[beq_eq_false_iff_ne];exact f
 clear m
 go_enter Tryz.func51,Tryz.ntmps51
 go_wp2_with fail
 refine Calls.mono (uH t) ?_
 rintro e G ⟨rfl,h⟩
 clear t
 go_wp2
 exact bodyPost_ret (v:=.tuple #[.slice none 0 0,.int .u64 0,.int .u64 0,.int .i64 4]) (by simp[results,Tryz.results51,go_sem]) rfl ⟨rfl,h⟩
theorem wY(w:World)(d:Nat):(w.alloc (.cells #[.int .u64 (d:Nat)] 30)).cell? ⟨w.heap.size,0,none⟩=some (.int .u64 (d:Nat)):=by
 rw[cell_of_row _ w.heap.size 0 _ _ _ (heap_alloc_new w (.cells #[.int .u64 (d:Nat)] 30))]
 rfl
theorem pb(w:World)(f d:Nat)(h:f<18446744073709551616)(y:d<18446744073709551616):
  ab ((w.alloc (.cells #[.int .u64 (d:Nat)] 30)).alloc (.cells #[.int .u64 (f:Nat),.int .u64 (d:Nat)] 30)) (some ⟨w.heap.size+1,0,none⟩) 2 [(f:Int),(d:Int)]∧Below w.heap.size w ((w.alloc (.cells #[.int .u64 (d:Nat)] 30)).alloc (.cells #[.int .u64 (f:Nat),.int .u64 (d:Nat)] 30))∧((w.alloc (.cells #[.int .u64 (d:Nat)] 30)).alloc (.cells #[.int .u64 (f:Nat),.int .u64 (d:Nat)] 30)).cell? ⟨w.heap.size,0,none⟩=some (.int .u64 (d:Nat)):=by
 have l:=rT (w.alloc (.cells #[.int .u64 (d:Nat)] 30)) f d h y
 rw[ai]at l
 have m:=ac w (.cells #[.int .u64 (d:Nat)] 30)
 have t:=ac (w.alloc (.cells #[.int .u64 (d:Nat)] 30)) (.cells #[.int .u64 (f:Nat),.int .u64 (d:Nat)] 30)
 exact⟨l,m.trans (t.mono m.size),ag (wY w d) t⟩
theorem rX(b h c a:Nat)(w:World)(Z:1≤c)
  (F:w.cell? ⟨b,h,none⟩=some (.int .u64 (a:Nat)))
  (G:Calls Tryz.prog 37 #[.slice (some ⟨b,h,none⟩) 1 c] w fun e d=>e=.returned (.bool true)∧Below w.heap.size w d)
  (H:∀f,Below w.heap.size w f→Calls Tryz.prog 70 #[.slice (some ⟨b,h,none⟩) 0 0] f fun e d=>e=.returned (.int .u64 (0:Nat))∧Below f.heap.size f d)
  (S:List Nat)
  (I:∀f,Below w.heap.size w f→Calls Tryz.prog 71 #[.slice (some ⟨b,h,none⟩) 0 0,.func (.func 72) #[] #[]] f fun e d=>∃l m,e=.returned (.slice l 1 m)∧bR f.heap.size l (ar S)∧ab d l m (ar S)∧Below f.heap.size f d):
  Calls Tryz.prog 51 #[.slice (some ⟨b,h,none⟩) 1 c] w fun e f=>∃l m,e=.returned (.tuple #[.slice l 1 m,.int .u64 0,.int .u64 (a:Nat),.int .i64 0])∧bR w.heap.size l (ar S)∧ab f l m (ar S)∧Below w.heap.size w f:=by
 have K:=aa G;have L:=aa H;have M:=aa I
 have T:(1:Int)≤(c:Int):=by omega
 clear G H I
 go_enter Tryz.func51,Tryz.ntmps51
 go_wp2_with fail
 refine Calls.mono (uH K) ?_
 rintro e w1 ⟨rfl,t⟩
 have U:=ag F t
 have N:=aa t
 clear K F t
 go_wp2_with fail
 go_quiet (fail)
 clear U
 go_wp2_with fail
 have D:=aa (below_drewN (uH N) nq)
 clear N
 refine(uH L _ (uH D)).mono ?_
 rintro e w2 ⟨rfl,z⟩
 have y:=aa ((uH D).trans (z.mono (uH D).size))
 clear L D z
 go_wp2_with fail
 refine(uH M _ (uH y)).mono ?_
 rintro e w3 ⟨l,m,rfl,O,Q,A⟩
 have V:=aa ((uH y).trans (A.mono (uH y).size))
 have X:=aa (bR.least O (uH y).size)
 have Y:=aa Q
 clear M y A O Q
 go_wp2
 exact bodyPost_ret (v:=.tuple #[.slice l 1 m,.int .u64 0,.int .u64 (a:Nat),.int .i64 0]) (by simp[results,Tryz.results51,go_sem]) rfl ⟨l,m,rfl,uH X,uH Y,uH V⟩
theorem uf(b h n c a:Nat)(w:World)(h1:2≤n)(h2:n≤64)(hc:n≤c)
  (G:w.cell? ⟨b,h,none⟩=some (.int .u64 (a:Nat)))
  (H:Calls Tryz.prog 37 #[.slice (some ⟨b,h,none⟩) n c] w fun e d=>e=.returned (.bool true)∧Below w.heap.size w d)
  (I:∀f,Below w.heap.size w f→Calls Tryz.prog 70 #[.slice (some ⟨b,h+1,none⟩) (n-1) (n-1)] f fun e d=>e=.returned (.int .u64 (0:Nat))∧Below f.heap.size f d)
  (S:List Nat)
  (K:∀f,Below w.heap.size w f→Calls Tryz.prog 71 #[.slice (some ⟨b,h+1,none⟩) (n-1) (n-1),.func (.func 72) #[] #[]] f fun e d=>∃l m,e=.returned (.slice l n m)∧bR f.heap.size l (ar S)∧ab d l m (ar S)∧Below f.heap.size f d):
  Calls Tryz.prog 51 #[.slice (some ⟨b,h,none⟩) n c] w fun e f=>∃l m,e=.returned (.tuple #[.slice l n m,.int .u64 0,.int .u64 (a:Nat),.int .i64 0])∧bR w.heap.size l (ar S)∧ab f l m (ar S)∧Below w.heap.size w f:=by
 have L:=aa H;have M:=aa I;have N:=aa K
 have U:(n:Int)≤64:=by omega
 have V:(2:Int)≤(n:Int):=by omega
 have X:(n:Int)≤(c:Int):=by omega
 have F:¬(n:Int)=0:=by omega
 have e0:((n:Int)==0)=false:=by rw[beq_eq_false_iff_ne];exact F
 have e1:decide ((64:Int)<(n:Int))=false:=decide_eq_false (by omega)
 clear H I K
 go_enter Tryz.func51,Tryz.ntmps51
 go_wp2_with fail
 refine Calls.mono (uH L) ?_
 rintro e w1 ⟨rfl,t⟩
 have Y:=ag G t
 have O:=aa t
 clear L G t
 go_wp2_with fail
 go_quiet (fail)
 clear Y
 go_wp2_with fail
 have D:=aa (below_drewN (uH O) nq)
 clear O
 refine(uH M _ (uH D)).mono ?_
 rintro e w2 ⟨rfl,z⟩
 have y:=aa ((uH D).trans (z.mono (uH D).size))
 clear M D z
 go_wp2_with fail
 refine(uH N _ (uH y)).mono ?_
 rintro e w3 ⟨l,m,rfl,Q,T,A⟩
 have Z:=aa ((uH y).trans (A.mono (uH y).size))
 have HN:=aa (bR.least Q (uH y).size)
 have HS:=aa T
 clear N y A Q T
 go_wp2
 exact bodyPost_ret (v:=.tuple #[.slice l n m,.int .u64 0,.int .u64 (a:Nat),.int .i64 0]) (by simp[results,Tryz.results51,go_sem]) rfl ⟨l,m,rfl,uH HN,uH HS,uH Z⟩
theorem rY(b y n c a m A d:Nat)(w:World)(h1:2≤n)(h2:n≤64)(hc:n≤c)(hm:¬m=0)(D:A<18446744073709551616)(N:d<18446744073709551616)
  (O:w.cell? ⟨b,y,none⟩=some (.int .u64 (a:Nat)))
  (Q:Calls Tryz.prog 37 #[.slice (some ⟨b,y,none⟩) n c] w fun e l=>e=.returned (.bool true)∧Below w.heap.size w l)
  (T:∀h,Below w.heap.size w h→Calls Tryz.prog 70 #[.slice (some ⟨b,y+1,none⟩) (n-1) (n-1)] h fun e l=>e=.returned (.int .u64 (m:Nat))∧Below h.heap.size h l)
  (U:∀h,Below w.heap.size w h→Calls Tryz.prog 73 #[.slice (some ⟨b,y,none⟩) n c] h fun e l=>e=.returned (.int .u64 (A:Nat))∧Below h.heap.size h l)
  (V:∀h,Below w.heap.size w h→Calls Tryz.prog 74 #[.int .u64 a,.int .u64 A] h fun e l=>e=.returned (.int .u64 (d:Nat))∧Below h.heap.size h l)
  (X:∀h Y,Below w.heap.size w h→ab h Y 2 [(A:Int),(d:Int)]→Calls Tryz.prog 37 #[.slice Y 2 2] h fun e l=>e=.returned (.bool false)∧Below h.heap.size h l):
  Calls Tryz.prog 51 #[.slice (some ⟨b,y,none⟩) n c] w fun e h=>e=.returned (.tuple #[.slice none 0 0,.int .u64 0,.int .u64 0,.int .i64 2])∧Below w.heap.size w h:=by
 have Z:=aa Q;have K2:=aa T;have K4:=aa U;have K5:=aa V;have K6:=aa X
 have ae:(n:Int)≤64:=by omega
 have aj:(2:Int)≤(n:Int):=by omega
 have am:(n:Int)≤(c:Int):=by omega
 have L:¬(n:Int)=0:=by omega
 have e0:((n:Int)==0)=false:=by rw[beq_eq_false_iff_ne];exact L
 have e1:decide ((64:Int)<(n:Int))=false:=decide_eq_false (by omega)
 have em:((m:Int)==0)=false:=by rw[beq_eq_false_iff_ne];omega
 have F:=aa D;have HD:=aa N
 clear D N
 clear Q T U V X
 go_enter Tryz.func51,Tryz.ntmps51
 go_wp2_with fail
 refine Calls.mono (uH Z) ?_
 rintro e w1 ⟨rfl,t⟩
 have c0:=ag O t
 have B1:=aa t
 clear Z O t
 go_wp2_with fail
 go_quiet (fail)
 clear c0
 go_wp2_with fail
 have G:=aa (below_drewN (uH B1) nq)
 clear B1
 refine(uH K2 _ (uH G)).mono ?_
 rintro e w2 ⟨rfl,z⟩
 have H:=aa ((uH G).trans (z.mono (uH G).size))
 clear K2 G z
 go_wp2_with fail
 refine(uH K4 _ (uH H)).mono ?_
 rintro e w3 ⟨rfl,f⟩
 have I:=aa ((uH H).trans (f.mono (uH H).size))
 clear K4 H f
 go_wp2_with fail
 refine(uH K5 _ (uH I)).mono ?_
 rintro e w4 ⟨rfl,f⟩
 have M:=aa ((uH I).trans (f.mono (uH I).size))
 clear K5 I f
 go_wp2_with fail
 obtain⟨t,z,f⟩:=pb w4 A d (uH F) (uH HD)
 have K:=aa ((uH M).trans (z.mono (uH M).size))
 have CB:=aa f
 refine(uH K6 _ _ (uH K) t).mono ?_
 clear t z f
 rintro e w5 ⟨rfl,f⟩
 have B7:=aa ((uH K).trans (f.mono (uH K).size))
 have CD:=aa (ag (uH CB) f)
 clear K6 M K CB f F HD
 go_wp2
 exact bodyPost_ret (v:=.tuple #[.slice none 0 0,.int .u64 0,.int .u64 0,.int .i64 2]) (by simp[results,Tryz.results51,go_sem]) rfl ⟨rfl,uH B7⟩
theorem AA(b y n c a m F d u t:Nat)(w:World)(h1:2≤n)(h2:n≤64)(hc:n≤c)(hm:¬m=0)(H:F<18446744073709551616)(Y:d<18446744073709551616)
  (Z:w.cell? ⟨b,y,none⟩=some (.int .u64 (a:Nat)))
  (C1:Calls Tryz.prog 37 #[.slice (some ⟨b,y,none⟩) n c] w fun e l=>e=.returned (.bool true)∧Below w.heap.size w l)
  (C2:∀h,Below w.heap.size w h→Calls Tryz.prog 70 #[.slice (some ⟨b,y+1,none⟩) (n-1) (n-1)] h fun e l=>e=.returned (.int .u64 (m:Nat))∧Below h.heap.size h l)
  (C4:∀h,Below w.heap.size w h→Calls Tryz.prog 73 #[.slice (some ⟨b,y,none⟩) n c] h fun e l=>e=.returned (.int .u64 (F:Nat))∧Below h.heap.size h l)
  (C5:∀h,Below w.heap.size w h→Calls Tryz.prog 74 #[.int .u64 a,.int .u64 F] h fun e l=>e=.returned (.int .u64 (d:Nat))∧Below h.heap.size h l)
  (C6:∀h ao,Below w.heap.size w h→ab h ao 2 [(F:Int),(d:Int)]→Calls Tryz.prog 37 #[.slice ao 2 2] h fun e l=>e=.returned (.bool true)∧Below h.heap.size h l)
  (S:List Nat)
  (C7:∀h g,Below w.heap.size w h→h.cell? ⟨g,0,none⟩=some (.int .u64 (d:Nat))→Calls Tryz.prog 71 #[.slice (some ⟨b,y+1,none⟩) (n-1) (n-1),.func (.func 75) #[] #[.pointer (some ⟨g,0,none⟩)]] h fun e l=>∃D G,e=.returned (.slice D n G)∧bR h.heap.size D (ar S)∧ab l D G (ar S)∧Below h.heap.size h l)
  (C8:∀h,Below w.heap.size w h→Calls Tryz.prog 74 #[.int .u64 F,.int .u64 a] h fun e l=>e=.returned (.int .u64 (u:Nat))∧Below h.heap.size h l)
  (C9:∀h,Below w.heap.size w h→Calls Tryz.prog 76 #[.int .u64 u,.int .u64 F] h fun e l=>e=.returned (.int .u64 (t:Nat))∧Below h.heap.size h l):
  Calls Tryz.prog 51 #[.slice (some ⟨b,y,none⟩) n c] w fun e h=>∃D G,e=.returned (.tuple #[.slice D n G,.int .u64 (t:Nat),.int .u64 (F:Nat),.int .i64 0])∧bR w.heap.size D (ar S)∧ab h D G (ar S)∧Below w.heap.size w h:=by
 have K1:=aa C1;have K2:=aa C2;have K4:=aa C4;have K5:=aa C5;have K6:=aa C6;have K7:=aa C7;have K8:=aa C8;have K9:=aa C9
 have ae:(n:Int)≤64:=by omega
 have aj:(2:Int)≤(n:Int):=by omega
 have am:(n:Int)≤(c:Int):=by omega
 have V:¬(n:Int)=0:=by omega
 have e0:((n:Int)==0)=false:=by rw[beq_eq_false_iff_ne];exact V
 have e1:decide ((64:Int)<(n:Int))=false:=decide_eq_false (by omega)
 have em:((m:Int)==0)=false:=by rw[beq_eq_false_iff_ne];omega
 have I:=aa H;have HD:=aa Y
 clear H Y
 clear C1 C2 C4 C5 C6 C7 C8 C9
 go_enter Tryz.func51,Tryz.ntmps51
 go_wp2_with fail
 refine Calls.mono (uH K1) ?_
 rintro e w1 ⟨rfl,z⟩
 have c0:=ag Z z
 have B1:=aa z
 clear K1 Z z
 go_wp2_with fail
 go_quiet (fail)
 clear c0
 go_wp2_with fail
 have M:=aa (below_drewN (uH B1) nq)
 clear B1
 refine(uH K2 _ (uH M)).mono ?_
 rintro e w2 ⟨rfl,A⟩
 have N:=aa ((uH M).trans (A.mono (uH M).size))
 clear K2 M A
 go_wp2_with fail
 refine(uH K4 _ (uH N)).mono ?_
 rintro e w3 ⟨rfl,f⟩
 have O:=aa ((uH N).trans (f.mono (uH N).size))
 clear K4 N f
 go_wp2_with fail
 refine(uH K5 _ (uH O)).mono ?_
 rintro e w4 ⟨rfl,f⟩
 have X:=aa ((uH O).trans (f.mono (uH O).size))
 clear K5 O f
 go_wp2_with fail
 obtain⟨z,A,f⟩:=pb w4 F d (uH I) (uH HD)
 have Q:=aa ((uH X).trans (A.mono (uH X).size))
 have CB:=aa f
 refine(uH K6 _ _ (uH Q) z).mono ?_
 clear z A f
 rintro e w5 ⟨rfl,f⟩
 have K:=aa ((uH Q).trans (f.mono (uH Q).size))
 have CD:=aa (ag (uH CB) f)
 clear K6 X Q CB f I HD
 go_wp2_with fail
 refine(uH K7 _ _ (uH K) (uH CD)).mono ?_
 rintro e w6 ⟨D,G,rfl,hn,hs,f⟩
 have T:=aa ((uH K).trans (f.mono (uH K).size))
 have HN:=aa (bR.least hn (uH K).size)
 have L:=aa hs
 clear K7 K f hn hs CD
 go_wp2_with fail
 refine(uH K8 _ (uH T)).mono ?_
 rintro e w7 ⟨rfl,f⟩
 have U:=aa ((uH T).trans (f.mono (uH T).size))
 replace L:=aa ((uH L).below f)
 clear K8 T f
 go_wp2_with fail
 refine(uH K9 _ (uH U)).mono ?_
 rintro e w8 ⟨rfl,f⟩
 have BA:=aa ((uH U).trans (f.mono (uH U).size))
 replace L:=aa ((uH L).below f)
 clear K9 U f
 go_wp2
 exact bodyPost_ret (v:=.tuple #[.slice D n G,.int .u64 (t:Nat),.int .u64 (F:Nat),.int .i64 0]) (by simp[results,Tryz.results51,go_sem]) rfl ⟨D,G,rfl,uH HN,uH L,uH BA⟩
end Go.Proofs.YtenpggicmfhhdaaGreatDoor
namespace Go.Proofs.YtenpggicmfhhdaaGreatDoor
open Go.RowKit
theorem ug{f:List Nat}(h:∀x∈f,aD x=true):nE 0 f=0↔ik f=true:=by
 obtain⟨y,z,m,d⟩:=Ck f 0 (by decide) h
 constructor
 ·intro A
  exact List.all_eq_true.2 (fun x l=>decide_eq_true ((bh x).2 (by have:=m x l;omega)))
 ·intro t
  rcases d with d|⟨x,l,d⟩
  ·exact d
  ·rw[←d]
   exact(bh x).1 (Ad t x l)
theorem ny(I:List Int)(k:Nat):aU (I.drop k)=(aU I).drop k:=by
 unfold aU
 rw[List.map_drop]
theorem kM{w:World}{b d c:Nat}{I:List Int}(h:ab w (some ⟨b,d,none⟩) c I)(D:2≤I.length):ab w (some ⟨b,d+1,none⟩) (I.length-1) (I.drop 1):=by
 obtain⟨F,l,e,z,A⟩:=h.ne (by omega)
 simp only[Option.some.injEq,Addr.mk.injEq]at e
 obtain⟨rfl,rfl,_⟩:=e
 refine⟨by rw[List.length_drop];omega,fun x m=>h.2.1 x (List.mem_of_mem_drop m),.inr ⟨b,d+1,rfl,z,fun i t=>?_⟩⟩
 have f:1+i<I.length:=by rw[List.length_drop]at t;omega
 have y:=A (1+i) f
 rw[List.getElem?_drop,show d+1+i=d+(1+i) by omega,y,(h.wf (1+i)).1]
theorem AB(I:List Int)(j:Nat):aP (I.drop 1) j=aP I (j+1):=by
 unfold aP
 rw[List.getElem?_drop,Nat.add_comm 1 j]
theorem nz{I:List Int}(h:fu I I.length=true):∀x∈(aU I).drop 1,aD x=true:=fun x d=>Dp I (fun x=>aD x=true) ((p6 _).1 h) x (List.mem_of_mem_drop d)
theorem uh(D:Option Addr)(c:Nat)(I:List Int)(w:World)(y:ab w D c I)(T:1≤I.length)(L:I.length≤64)(F:fu I I.length=true)(M:ik ((aU I).drop 1)=true):
  Calls Tryz.prog 51 #[.slice D I.length c] w fun e d=>∃A G,e=.returned (.tuple #[.slice A I.length G,.int .u64 0,.int .u64 (aP I 0:Nat),.int .i64 0])∧bR w.heap.size A (ar (nG (fun _=>0) I.length))∧ab d A G (ar (nG (fun _=>0) I.length))∧Below w.heap.size w d:=by
 obtain⟨b,t,rfl,U,Q⟩:=y.ne (by omega)
 have H:=Q 0 (by omega)
 have z:=cF _ c I w y (by omega)
 rw[F]at z
 have K:∀f w,(callFunc 72 f).run Tryz.prog w=.ok (.enter 72 f) w:=fun _ _=>by kernel_rfl
 have m:=y.1
 rcases Nat.lt_or_ge 1 I.length with g|g
 ·have R:=fun d (h:Below w.heap.size w d)=>kM (y.below h) g
  have e:((I.drop 1).length:Nat)=I.length-1:=by rw[List.length_drop]
  refine uf b t I.length c (aP I 0) w g L m H z (fun d h=>?_) (nG (fun _=>0) I.length) (fun d h=>?_)
  ·have B:=dY _ _ (I.drop 1) d (R d h) (by omega)
   rw[lE,ny,(ug (nz F)).2 M,e]at B
   exact B
  ·have O:=jB 72 #[] _ _ (I.drop 1) (fun _=>0) d K (R d h) (by omega) (fun _ _=>by show 0<18446744073709551616;decide) (fun l k _ _=>nm _ l)
   rw[e,show I.length-1+1=I.length by omega]at O
   exact O
 ·have N:I.length=1:=by omega
  rw[N]at m z⊢
  refine rX b t c (aP I 0) w m H z (fun d h=>dY _ _ [] d (ab.nilAt _ _ _) (by simp)) (nG (fun _=>0) 1) (fun d h=>?_)
  exact jB 72 #[] _ _ [] (fun _=>0) d K (ab.nilAt _ _ _) (by simp) (fun _ _=>by show 0<18446744073709551616;decide) (fun l k _ _=>nm _ l)
theorem vg{I:List Int}(d:ik ((aU I).drop 1)=false):2≤I.length:=by
 rcases Nat.lt_or_ge I.length 2 with g|g
 ·rw[List.drop_eq_nil_of_le (by rw[cP];omega)]at d
  cases d
 ·exact g
theorem AC(l:Option Addr)(c:Nat)(I:List Int)(w:World)(f:ab w l c I)(m:I.length≤64)(z:fu I I.length=true)(t:ik ((aU I).drop 1)=false)(H:(aD (fd (aP I 0) ((aU I).drop 1))&&aD (iK (aP I 0) ((aU I).drop 1)))=false)(A:cd w):
  Calls Tryz.prog 51 #[.slice l I.length c] w fun e d=>e=.returned (.tuple #[.slice none 0 0,.int .u64 0,.int .u64 0,.int .i64 2])∧Below w.heap.size w d:=by
 have g:=vg t
 obtain⟨b,y,rfl,O,N⟩:=f.ne (by omega)
 have L:=N 0 (by omega)
 have D:=cF _ c I w f (by omega)
 rw[z]at D
 have R:=fun d (h:Below w.heap.size w d)=>kM (f.below h) g
 have e:((I.drop 1).length:Nat)=I.length-1:=by rw[List.length_drop]
 have G:=f.lt 0
 have M:(if lf (aU I)=true then nF (aU I)else fN (nF (aU I)))=fd (aP I 0) ((aU I).drop 1):=by
  unfold fd
  rw[←gb (by omega)]
 refine rY b y I.length c (aP I 0) (nE 0 ((aU I).drop 1)) (fd (aP I 0) ((aU I).drop 1)) (iK (aP I 0) ((aU I).drop 1)) w g m f.1 (fun K=>by rw[(ug (nz z)).1 K]at t;cases t) (f9 _ _) (m8 _ _ G) L D (fun d h=>?_) (fun d h=>?_) (fun d h=>kh _ _ d G (f9 _ _) (A.all h)) (fun d l h m=>?_)
 ·have B:=dY _ _ (I.drop 1) d (R d h) (by omega)
  rw[lE,ny,e]at B
  exact B
 ·have B:=pa _ c I d (f.below h) m (A.all h)
  rw[M]at B
  exact B
 ·have F:=cF l 2 _ d m (by simp)
  rw[show fu [((fd (aP I 0) ((aU I).drop 1):Nat):Int),((iK (aP I 0) ((aU I).drop 1):Nat):Int)] [((fd (aP I 0) ((aU I).drop 1):Nat):Int),((iK (aP I 0) ((aU I).drop 1):Nat):Int)].length=false from(show fu [((fd (aP I 0) ((aU I).drop 1):Nat):Int),((iK (aP I 0) ((aU I).drop 1):Nat):Int)] 2=_ from by show((true&&aD (fd (aP I 0) ((aU I).drop 1)))&&aD (iK (aP I 0) ((aU I).drop 1)))=_;rw[Bool.true_and,H])]at F
  exact F
theorem wZ(y:Option Addr)(c:Nat)(I:List Int)(w:World)(l:ab w y c I)(z:I.length≤64)(L:fu I I.length=true)(A:ik ((aU I).drop 1)=false)(T:(aD (fd (aP I 0) ((aU I).drop 1))&&aD (iK (aP I 0) ((aU I).drop 1)))=true)(m:cd w):
  Calls Tryz.prog 51 #[.slice y I.length c] w fun e d=>∃H N,e=.returned (.tuple #[.slice H I.length N,.int .u64 (dV (aV (fd (aP I 0) ((aU I).drop 1)) (fN (aP I 0))) (fd (aP I 0) ((aU I).drop 1)):Nat),.int .u64 (fd (aP I 0) ((aU I).drop 1):Nat),.int .i64 0])∧bR w.heap.size H (ar (nG (fun j=>dV (aP I (j+1)) (iK (aP I 0) ((aU I).drop 1))) I.length))∧ab d H N (ar (nG (fun j=>dV (aP I (j+1)) (iK (aP I 0) ((aU I).drop 1))) I.length))∧Below w.heap.size w d:=by
 have g:=vg A
 obtain⟨b,K,rfl,G,hc⟩:=l.ne (by omega)
 have Y:=hc 0 (by omega)
 have Q:=cF _ c I w l (by omega)
 rw[L]at Q
 have R:=fun d (h:Below w.heap.size w d)=>kM (l.below h) g
 have e:((I.drop 1).length:Nat)=I.length-1:=by rw[List.length_drop]
 have t:=l.lt 0
 have Z:(if lf (aU I)=true then nF (aU I)else fN (nF (aU I)))=fd (aP I 0) ((aU I).drop 1):=by
  unfold fd
  rw[←gb (by omega)]
 have cf:∀f w,(callFunc 75 f).run Tryz.prog w=.ok (.enter 75 f) w:=fun _ _=>by kernel_rfl
 refine AA b K I.length c (aP I 0) (nE 0 ((aU I).drop 1)) (fd (aP I 0) ((aU I).drop 1)) (iK (aP I 0) ((aU I).drop 1)) (aV (fd (aP I 0) ((aU I).drop 1)) (fN (aP I 0))) _ w g z l.1 (fun U=>by rw[(ug (nz L)).1 U]at A;cases A) (f9 _ _) (m8 _ _ t) Y Q (fun d h=>?_) (fun d h=>?_) (fun d h=>kh _ _ d t (f9 _ _) (m.all h)) (fun d y h z=>?_) (nG (fun j=>dV (aP I (j+1)) (iK (aP I 0) ((aU I).drop 1))) I.length) (fun d M h V=>?_) (fun d h=>kh _ _ d (f9 _ _) t (m.all h)) (fun d h=>rV _ _ d (mn _ _ (f9 _ _) (jJ _ t)) (f9 _ _) (m.all h))
 ·have B:=dY _ _ (I.drop 1) d (R d h) (by omega)
  rw[lE,ny,e]at B
  exact B
 ·have B:=pa _ c I d (l.below h) z (m.all h)
  rw[Z]at B
  exact B
 ·have F:=cF y 2 _ d z (by simp)
  rw[show fu [((fd (aP I 0) ((aU I).drop 1):Nat):Int),((iK (aP I 0) ((aU I).drop 1):Nat):Int)] [((fd (aP I 0) ((aU I).drop 1):Nat):Int),((iK (aP I 0) ((aU I).drop 1):Nat):Int)].length=true from(show fu [((fd (aP I 0) ((aU I).drop 1):Nat):Int),((iK (aP I 0) ((aU I).drop 1):Nat):Int)] 2=_ from by show((true&&aD (fd (aP I 0) ((aU I).drop 1)))&&aD (iK (aP I 0) ((aU I).drop 1)))=_;rw[Bool.true_and,T])]at F
  exact F
 ·have O:=jB 75 #[.pointer (some ⟨M,0,none⟩)] _ _ (I.drop 1) (fun j=>dV (aP I (j+1)) (iK (aP I 0) ((aU I).drop 1))) d cf (R d h) (by omega) (fun _ _=>uG _ _) (fun D k G X=>by
   rw[AB]
   exact ue _ _ M D (l.lt _) (m8 _ _ t) (ag V G) ((m.all h).all G))
  rw[e,show I.length-1+1=I.length by omega]at O
  exact O
theorem AD(f:Option Addr)(c:Nat)(I:List Int)(w:World)(m:ab w f c I)(h:1≤I.length)(t:I.length≤64)(y:fu I I.length=true)(z:xp (aU I)=true)(H:cd w):
  Calls Tryz.prog 51 #[.slice f I.length c] w fun e d=>∃l A,e=.returned (.tuple #[.slice l I.length A,.int .u64 (kJ (aU I):Nat),.int .u64 (xn (aU I):Nat),.int .i64 0])∧bR w.heap.size l (ar (je (aU I)))∧ab d l A (ar (je (aU I)))∧Below w.heap.size w d:=by
 obtain⟨D,F,G⟩:=kf h
 cases hn:ik ((aU I).drop 1)
 ·rw[hn,Bool.false_or]at G
  rw[G]at z
  rw[D,F,hn,if_neg (by decide),if_neg (by decide),pW h (fun x=>dV x (iK (aP I 0) ((aU I).drop 1))) (fun x=>by rw[hn,if_neg (by decide)])]
  exact wZ f c I w m t y hn z H
 ·rw[D,F,hn,if_pos rfl,if_pos rfl,pW h (fun _=>0) (fun x=>by rw[hn,if_pos rfl])]
  exact uh f c I w m h t y hn
theorem ui(f:Option Addr)(c:Nat)(I:List Int)(w:World)(m:ab w f c I)(t:1≤I.length)(y:I.length≤64)(z:fu I I.length=true)(A:xp (aU I)=false)(D:cd w):
  Calls Tryz.prog 51 #[.slice f I.length c] w fun e h=>∃F G,e=.returned (.tuple #[.slice F 0 G,.int .u64 0,.int .u64 0,.int .i64 2])∧Below w.heap.size w h:=by
 obtain⟨_,_,l⟩:=kf t
 rw[A]at l
 have d:=l.symm
 rw[Bool.or_eq_false_iff]at d
 refine(AC f c I w m y z d.1 d.2 D).mono ?_
 rintro e K ⟨rfl,H⟩
 exact⟨_,_,rfl,H⟩
theorem xg(d:Option Addr)(c:Nat)(I:List Int)(w:World)(l:ab w d c I)(m:1≤I.length)(t:I.length≤64)(y:fu I I.length=false):
  Calls Tryz.prog 51 #[.slice d I.length c] w fun e f=>∃z A,e=.returned (.tuple #[.slice z 0 A,.int .u64 0,.int .u64 0,.int .i64 4])∧Below w.heap.size w f:=by
 have h:=cF d c I w l (by omega)
 rw[y]at h
 refine(wX d I.length c w m t h).mono ?_
 rintro e F ⟨rfl,D⟩
 exact⟨_,_,rfl,D⟩
attribute [local go_sem ↓] Go.wp_at_zero Go.wp_at_succ
theorem uk(t x y p o k n m c d K l L:Nat)(A D F G:Nat)(w:World)(hk:k<n)(hm:k<m)
  (M:w.cell? ⟨K,0,none⟩=some (.slice (some ⟨A,D,none⟩) n c)) (N:w.cell? ⟨l,0,none⟩=some (.slice (some ⟨F,G,none⟩) m d)) (O:w.cell? ⟨L,0,none⟩=some (.int .u64 (t:Nat)))
  (Q:w.cell? ⟨A,D+k,none⟩=some (.int .u64 (x:Nat))) (T:w.cell? ⟨F,G+k,none⟩=some (.int .u64 (y:Nat)))
  (U:∀f,Below w.heap.size w f→Calls Tryz.prog 116 #[.int .u64 t,.int .u64 y] f fun r z=>r=.returned (.int .u64 (p:Nat))∧Below f.heap.size f z)
  (V:∀f,Below w.heap.size w f→Calls Tryz.prog 74 #[.int .u64 x,.int .u64 p] f fun r z=>r=.returned (.int .u64 (o:Nat))∧Below f.heap.size f z):
  Calls Tryz.prog 117 #[.int .i64 k,.pointer (some ⟨K,0,none⟩),.pointer (some ⟨L,0,none⟩),.pointer (some ⟨l,0,none⟩)] w fun e f=>e=.returned (.int .u64 (o:Nat))∧Below w.heap.size w f:=by
 have Y:=aa U;have Z:=aa V
 have ae:(k:Int)<(n:Int):=by omega
 have aj:(k:Int)<(m:Int):=by omega
 have X:=aa (fun f (h:Below w.heap.size w f)=>(show Below w.heap.size w f∧f.cell? ⟨K,0,none⟩=some (.slice (some ⟨A,D,none⟩) n c)∧f.cell? ⟨l,0,none⟩=some (.slice (some ⟨F,G,none⟩) m d)∧f.cell? ⟨A,D+k,none⟩=some (.int .u64 (x:Nat))∧f.cell? ⟨F,G+k,none⟩=some (.int .u64 (y:Nat))∧f.cell? ⟨L,0,none⟩=some (.int .u64 (t:Nat))from
  ⟨h,ag M h,ag N h,ag Q h,ag T h,ag O h⟩))
 clear U V M N Q T O
 go_enter Tryz.func117,Tryz.ntmps117
 go_wp2_with fail
 go_region_held3(fun f=>Below w.heap.size w f∧f.cell? ⟨K,0,none⟩=some (.slice (some ⟨A,D,none⟩) n c)∧f.cell? ⟨l,0,none⟩=some (.slice (some ⟨F,G,none⟩) m d)∧f.cell? ⟨A,D+k,none⟩=some (.int .u64 (x:Nat))∧f.cell? ⟨F,G+k,none⟩=some (.int .u64 (y:Nat))∧f.cell? ⟨L,0,none⟩=some (.int .u64 (t:Nat)))
  (first|exact uH X _ (Below.refl _ _).drew|exact uH X _ (by assumption)|fail "KK")
  (first|(go_at_call 116;refine(uH Y _ (And.left (by assumption))).mono ?_;rintro e w1 ⟨rfl,H⟩;have am:Below w.heap.size w w1:=Below.trans (And.left (by assumption)) (H.mono (Below.size (And.left (by assumption))));clear H)|(go_at_call 74;refine(uH Z _ (And.left (by assumption))).mono ?_;rintro e w2 ⟨rfl,I⟩;have ao:Below w.heap.size w w2:=Below.trans (And.left (by assumption)) (I.mono (Below.size (And.left (by assumption))));clear I)|fail "NO ARM")
 go_wp2
 go_ret
 exact⟨rfl,And.left (by assumption)⟩
structure FB (w:World) (v:Value) (H:Nat) (xo vo:Option Addr) (n xc m vc t:Nat):Prop where
 ex:∃bx bt bv,v=.func (.func 117) #[] #[.pointer (some ⟨bx,0,none⟩),.pointer (some ⟨bt,0,none⟩),.pointer (some ⟨bv,0,none⟩)]∧H≤bx∧H≤bt∧H≤bv∧w.cell? ⟨bx,0,none⟩=some (.slice xo n xc)∧w.cell? ⟨bt,0,none⟩=some (.int .u64 (t:Nat))∧w.cell? ⟨bv,0,none⟩=some (.slice vo m vc)
theorem xh(y G:Option Addr)(n z m H I d t:Nat)(w:World)
  (O:∀l,Below w.heap.size w l→Calls Tryz.prog 115 #[.slice G m H,.slice y n z] l fun e A=>e=.returned (.tuple #[.int .u64 (d:Nat),.int .i64 0])∧Below l.heap.size l A)
  (Q:∀l,Below w.heap.size w l→Calls Tryz.prog 116 #[.int .u64 I,.int .u64 d] l fun e A=>e=.returned (.int .u64 (t:Nat))∧Below l.heap.size l A):
  Calls Tryz.prog 97 #[.slice y n z,.slice G m H,.int .u64 I] w fun e l=>∃v,e=.returned v∧FB l v w.heap.size y G n z m H t∧Below w.heap.size w l:=by
 have T:=aa O;have U:=aa Q
 clear O Q
 have L:=ac w (.cells #[.slice y n z] 22)
 have V:=cD w (.slice y n z) 22
 have X:=ai w (.cells #[.slice y n z] 22)
 have M:=ac (w.alloc (.cells #[.slice y n z] 22)) (.cells #[.slice G m H] 22)
 have N:=cD (w.alloc (.cells #[.slice y n z] 22)) (.slice G m H) 22
 have Y:=ag V M
 rw[X]at N
 have h:=aa (show Below w.heap.size w ((w.alloc (.cells #[.slice y n z] 22)).alloc (.cells #[.slice G m H] 22))from L.trans (M.mono L.size))
 have D:=aa Y;have F:=aa N
 clear L V X M N Y
 go_enter Tryz.func97,Tryz.ntmps97
 go_wp2_with fail
 refine(uH T _ (uH h)).mono ?_
 rintro e w1 ⟨rfl,f⟩
 replace D:=aa (ag (uH D) f)
 replace F:=aa (ag (uH F) f)
 replace h:=aa ((uH h).trans (f.mono (uH h).size))
 clear f T
 go_wp2_with fail
 refine(uH U _ (uH h)).mono ?_
 rintro e Z ⟨rfl,f⟩
 replace D:=aa (ag (uH D) f)
 replace F:=aa (ag (uH F) f)
 replace h:=aa ((uH h).trans (f.mono (uH h).size))
 clear f U
 have K:=ac Z (.cells #[.int .u64 (t:Nat)] 30)
 have x3:=aa (cD Z (.int .u64 (t:Nat)) 30)
 replace D:=aa (ag (uH D) K)
 replace F:=aa (ag (uH F) K)
 have HS:=aa (uH h).size
 replace h:=aa ((uH h).trans (K.mono (uH h).size))
 clear K
 go_wp2
 go_ret
 exact⟨_,rfl,⟨_,_,_,rfl,Nat.le_refl _,uH HS,Nat.le_succ _,uH D,uH x3,uH F⟩,uH h⟩
theorem ul(m t:Option Addr)(y z h:Nat)(f d:List Nat)(w:World)(H:ab w m y (ar f))(I:ab w t z (ar d))(A:f.length=d.length)(K:d.length≤64)(L:h<18446744073709551616)(G:cd w):
  Calls Tryz.prog 97 #[.slice m f.length y,.slice t d.length z,.int .u64 h] w fun e l=>∃v,e=.returned v∧FB l v w.heap.size m t f.length y d.length z (mV h (s6 0 d f))∧Below w.heap.size w l:=by
 refine xh m t f.length y d.length z h (s6 0 d f) _ w (fun l F=>?_) (fun l F=>?_)
 ·have D:=zA t m z y (ar d) (ar f) l (I.below F) (H.below F) (G.all F)
  have g:FK (ar d) (ar f)=true:=decide_eq_true ⟨by rw[aq];exact K,by rw[aq,aq,A]⟩
  rw[if_pos g,if_pos g,pT (ar d) (ar f) (ar d).length (Nat.le_refl _) (by rw[aq,aq,A];exact Nat.le_refl _),dg,dg,aq,aq,List.take_of_length_le (Nat.le_refl _),List.take_of_length_le (by rw[A];exact Nat.le_refl _)]at D
  exact D
 ·refine mO h (s6 0 d f) l L ?_ (G.all F)
  have:=ia (ar d) (ar f) (ar d).length
  rwa[pT (ar d) (ar f) (ar d).length (Nat.le_refl _) (by rw[aq,aq,A];exact Nat.le_refl _),dg,dg,aq,List.take_of_length_le (Nat.le_refl _),List.take_of_length_le (by rw[A];exact Nat.le_refl _)]at this
structure kj (w wr:World) (r c n cap:Nat) (ao:Option Addr) (S:List Nat):Prop where
 bel:Below w.heap.size w wr
 m:au wr w.heap.size (.int .i64 r) (.int .i64 c) (.slice ao n cap)
 res:au wr (w.heap.size+1) (.int .i64 0) (.int .i64 0) (.slice none 0 0)
 row:bT wr (w.heap.size+1+1) S
theorem kj.all{w wr l:World}{r c n d:Nat}{t:Option Addr}{S:List Nat}(h:kj w wr r c n d t S)(f:Below wr.heap.size wr l):kj w l r c n d t S:=
 ⟨h.bel.trans (f.mono h.bel.size),h.m.all f,h.res.all f,h.row.below f h.row.lt⟩
theorem kj.set{w wr:World}{r c n d:Nat}{f:Option Addr}{S:List Nat}(h:kj w wr r c n d f S)(p x:Nat):kj w (wr.setCell ⟨w.heap.size+1+1,p,none⟩ (.int .u64 (x:Int))) r c n d f (S.set p x):=
 ⟨h.bel.setCell (p:=⟨w.heap.size+1+1,p,none⟩) (by show w.heap.size≤w.heap.size+1+1;omega) _,h.m.other (p:=⟨w.heap.size+1+1,p,none⟩) (by show w.heap.size≠w.heap.size+1+1;omega) _,h.res.other (p:=⟨w.heap.size+1+1,p,none⟩) (by show w.heap.size+1≠w.heap.size+1+1;omega) _,h.row.set p x⟩
theorem kj.start(w:World)(r c n d:Nat)(f:Option Addr):
  kj w (((w.alloc (.cells #[.int .i64 r,.int .i64 c,.slice f n d] 24)).alloc (.cells #[.int .i64 0,.int .i64 0,.slice none 0 0] 24)).alloc (.cells (madeCells #[.int .u64 0] n) 30)) r c n d f (List.replicate n 0):=by
 have m:=ac w (.cells #[.int .i64 r,.int .i64 c,.slice f n d] 24)
 have G:=ai w (.cells #[.int .i64 r,.int .i64 c,.slice f n d] 24)
 have H:=au.new w (.int .i64 r) (.int .i64 c) (.slice f n d)
 generalize w.alloc (.cells #[.int .i64 r,.int .i64 c,.slice f n d] 24)=h at*
 have t:=ac h (.cells #[.int .i64 0,.int .i64 0,.slice none 0 0] 24)
 have y:=ai h (.cells #[.int .i64 0,.int .i64 0,.slice none 0 0] 24)
 have z:=au.new h (.int .i64 0) (.int .i64 0) (.slice none 0 0)
 generalize h.alloc (.cells #[.int .i64 0,.int .i64 0,.slice none 0 0] 24)=F at*
 have l:=ac F (.cells (madeCells #[.int .u64 0] n) 30)
 have A:=bT.made F n
 rw[G]at z y
 rw[y]at A
 have D:=m.trans (t.mono m.size)
 exact⟨D.trans (l.mono D.size),(H.all t).all l,z.all l,A⟩
theorem kj.copied{w wr f:World}{r c n d:Nat}{t:Option Addr}{S T:List Nat}(h:kj w wr r c n d t S)(l:Below (w.heap.size+1+1) wr f)(y:bT f (w.heap.size+1+1) T):kj w f r c n d t T:=
 ⟨h.bel.trans (l.mono (by omega)),h.m.below l (by omega),h.res.below l (by omega),y⟩
structure p8 (w wr:World) (r c n cap:Nat) (ao:Option Addr) (S:List Nat) (bx bt bv:Nat) (po vo:Option Addr) (L pc vc t:Nat) (X:List Int):Prop where
 st:kj w wr r c n cap ao S
 lx:w.heap.size+1+1+1≤bx
 lt:w.heap.size+1+1+1≤bt
 lv:w.heap.size+1+1+1≤bv
 cx:wr.cell? ⟨bx,0,none⟩=some (.slice po L pc)
 ct:wr.cell? ⟨bt,0,none⟩=some (.int .u64 (t:Nat))
 cv:wr.cell? ⟨bv,0,none⟩=some (.slice vo L vc)
 x:ab wr po pc X
 nx:bR (w.heap.size+1+1+1) po X
theorem p8.all{w wr l:World}{r c n d:Nat}{m:Option Addr}{S:List Nat}{y z A:Nat}{D F:Option Addr}{L G H t:Nat}{X:List Int}(h:p8 w wr r c n d m S y z A D F L G H t X)(f:Below wr.heap.size wr l):p8 w l r c n d m S y z A D F L G H t X:=
 ⟨h.st.all f,h.lx,h.lt,h.lv,ag h.cx f,ag h.ct f,ag h.cv f,h.x.below f,h.nx⟩
theorem p8.set{w wr:World}{r c n d:Nat}{y:Option Addr}{S:List Nat}{f l m:Nat}{z A:Option Addr}{L D F t:Nat}{X:List Int}(h:p8 w wr r c n d y S f l m z A L D F t X)(p x:Nat):p8 w (wr.setCell ⟨w.heap.size+1+1,p,none⟩ (.int .u64 (x:Int))) r c n d y (S.set p x) f l m z A L D F t X:=by
 have G:=h.lx;have H:=h.lt;have I:=h.lv
 refine⟨h.st.set p x,G,H,I,?_,?_,?_,h.x.far h.nx (by omega) p _,h.nx⟩
 ·rw[ak _ _ _ _ (show f≠w.heap.size+1+1 by omega)];exact h.cx
 ·rw[ak _ _ _ _ (show l≠w.heap.size+1+1 by omega)];exact h.ct
 ·rw[ak _ _ _ _ (show m≠w.heap.size+1+1 by omega)];exact h.cv
theorem rZ(r c n h i k L V aj:Nat)(H Y:Option Addr)(T:Nat→Nat→List Nat)(X:Nat→List Int)(P U:Nat→Nat→Nat)(t:Nat→Nat)(w:World)(bb:n≤36)(h6:c≤6)(bc:r≤6)(be:i+L≤r)(hk:k≤c)
  (y:ab w H h (ar (T k 0))) (lT:∀d j,(T d j).length=n) (G:∀d,T d L=T (d+1) 0)
  (hP:∀d j,k≤d→d<c→j<L→P d j<n∧(i+j)*c+d=P d j∧(T d j).set (P d j) (U d j)=T d (j+1))
  (C1:∀f d,Below w.heap.size w f→k≤d→d<c→Calls Tryz.prog 50 #[.agg #[.int .i64 r,.int .i64 c,.slice H n h],.int .i64 i,.int .i64 (d:Nat),.int .i64 L,.int .i64 1] f fun e D=>∃l z,e=.returned (.tuple #[.agg #[.int .i64 L,.int .i64 1,.slice l L z],.int .i64 0])∧bR f.heap.size l (X d)∧ab D l z (X d)∧Below f.heap.size f D)
  (C2:∀f d l z,Below w.heap.size w f→k≤d→d<c→ab f l z (X d)→Calls Tryz.prog 97 #[.slice l L z,.slice Y L V,.int .u64 aj] f fun e D=>∃v,e=.returned v∧FB D v f.heap.size l Y L z L V (t d)∧Below f.heap.size f D)
  (C3:∀f d j l z Z bt bv,Below w.heap.size w f→k≤d→d<c→j<L→ab f l z (X d)→f.cell? ⟨Z,0,none⟩=some (.slice l L z)→f.cell? ⟨bt,0,none⟩=some (.int .u64 (t d:Nat))→f.cell? ⟨bv,0,none⟩=some (.slice Y L V)→Calls Tryz.prog 117 #[.int .i64 (j:Nat),.pointer (some ⟨Z,0,none⟩),.pointer (some ⟨bt,0,none⟩),.pointer (some ⟨bv,0,none⟩)] f fun e D=>e=.returned (.int .u64 (U d j:Nat))∧Below f.heap.size f D):
  Calls Tryz.prog 77 #[.agg #[.int .i64 r,.int .i64 c,.slice H n h],.int .i64 i,.int .i64 k,.slice Y L V,.int .u64 aj] w fun e f=>∃g,e=.returned (.agg #[.int .i64 r,.int .i64 c,.slice (some ⟨g,0,none⟩) n n])∧w.heap.size≤g∧bT f g (T c 0)∧Below w.heap.size w f:=by
 have A:=aa (kj.start w r c n h H)
 have a0:=run_make_row' (P:=Tryz.prog) 22 30 (.int .u64 0) 8 Tryz.underlying22 (by kernel_rfl) rfl .i64 .i64 n (by omega) (by omega)
 have HP:=aa hP;have K1:=aa C1;have K2:=aa C2;have K3:=aa C3;have LT:=aa lT;have HX:=aa G
 obtain⟨w5,a7,ax,aI⟩:=Ax _ (w.heap.size+1+1) n h H (T k 0) (uH A).row (y.below (uH A).bel) (lT k 0)
 have am:=aa ((uH A).copied aI ax)
 clear hP C1 C2 C3 lT y ax aI G
 have y0:=(uH A).m.c0;have N:=(uH A).m.c1;have y2:=(uH A).m.c2
 go_enter Tryz.func77,Tryz.ntmps77
 go_wp2_with fail
 clear a0 a7 y0 N y2 A
 go_loopw[12] (fun a wr=>∃d:Nat,k≤d∧d≤c∧a=.int .i64 d∧Hid (kj w wr r c n h H (T d 0))) (fun a _=>c-(intOf a).toNat)
 case atStart=>exact⟨k,Nat.le_refl _,hk,rfl,am⟩
 case round=>
  clear am
  obtain⟨d,K,bn,rfl,y⟩:=hrel
  by_cases I:d<c
  ·have bi:(d:Int)<(c:Int):=by omega
   have y0:=(uH y).m.c0;have N:=(uH y).m.c1;have y2:=(uH y).m.c2
   go_wp2_with fail
   clear y0 N y2
   refine(uH K1 _ d (uH y).bel K I).mono ?_
   rintro e w2 ⟨l,z,rfl,hn,hx,F⟩
   have S2:=aa ((uH y).all F)
   have HN:=aa (bR.least hn (show w.heap.size+1+1+1≤wr.heap.size from(uH y).row.lt))
   have HB:=aa hx
   clear hn hx F y
   go_wp2_with fail
   have ba:=ac w2 (.cells #[.int .i64 L,.int .i64 1,.slice l L z] 24)
   replace S2:=aa ((uH S2).all ba)
   replace HB:=aa ((uH HB).below ba)
   clear ba
   have HL:=aa (show w.heap.size+1+1+1≤(w2.alloc (.cells #[.int .i64 L,.int .i64 1,.slice l L z] 24)).heap.size from(uH S2).row.lt)
   refine(uH K2 _ d l z (uH S2).bel K I (uH HB)).mono ?_
   rintro e w3 ⟨v,rfl,hv,F⟩
   obtain⟨Z,bt,bv,rfl,l1,l2,l3,c1,c2,c3⟩:=hv.ex
   have S3:=aa (show p8 w w3 r c n h H (T d 0) Z bt bv l Y L z V (t d) (X d)from⟨(uH S2).all F,Nat.le_trans (uH HL) l1,Nat.le_trans (uH HL) l2,Nat.le_trans (uH HL) l3,c1,c2,c3,(uH HB).below F,uH HN⟩)
   clear hv F l1 l2 l3 c1 c2 c3 S2 HN HB HL
   have KC:=aa (fun f j F hj hx M h2 h3=>uH K3 f d j l z Z bt bv F K I hj hx M h2 h3)
   have a1:=aa (fun j hj=>uH HP d j K I hj)
   have a2:=aa (uH LT d)
   have a3:=aa (uH HX d)
   generalize bo:T d=TD at*
   generalize bp:U d=UD at*
   generalize bq:P d=PD at*
   generalize t d=td at*
   generalize X d=XD at*
   go_wp2_with fail
   go_loopw[48] (fun a wr=>∃j:Nat,j≤L∧a=.int .i64 j∧Hid (p8 w wr r c n h H (TD j) Z bt bv l Y L z V td XD)) (fun a _=>L-(intOf a).toNat)
   case atStart=>exact⟨0,Nat.zero_le _,rfl,S3⟩
   case round=>
    clear S3
    obtain⟨j,hj,rfl,y⟩:=hrel
    by_cases av:j<L
    ·have bj:(j:Int)<(L:Int):=by omega
     obtain⟨hp,ae,O⟩:=uH a1 j av
     have KJ:=aa (fun f F hx M h2 h3=>uH KC f j F av hx M h2 h3)
     have LL:=aa (uH a2 j);have HN:=aa O
     clear O
     obtain⟨a,ha⟩:∃a,i+j=a:=⟨_,rfl⟩
     rw[ha]at ae
     obtain⟨q,hq⟩:∃q,a*c=q:=⟨_,rfl⟩
     rw[hq]at ae
     have e1:IntKind.i64.wrap ((i:Int)+(j:Int))=(a:Int):=(aW _ (by omega)).trans (by omega)
     have e2:IntKind.i64.wrap ((a:Int)*(c:Int))=(q:Int):=by
      rw[bJ a c,hq]
      exact aW _ (by omega)
     have e3:IntKind.i64.wrap ((q:Int)+(d:Int))=(PD j:Int):=(aW _ (by omega)).trans (by omega)
     have e4:(i:Int)+(j:Int)=(a:Int):=by omega
     have e5:(a:Int)*(c:Int)=(q:Int):=by rw[bJ a c,hq]
     have e6:(q:Int)+(d:Int)=(PD j:Int):=by omega
     have w1:IntKind.i64.wrap (a:Int)=(a:Int):=aW _ (by omega)
     have w2:IntKind.i64.wrap (q:Int)=(q:Int):=aW _ (by omega)
     have w3:IntKind.i64.wrap (PD j:Int)=(PD j:Int):=aW _ (by omega)
     generalize br:TD j=TT at*
     generalize a9:TD (j+1)=TN at*
     generalize PD j=p at*
     generalize UD j=u at*
     have bm:(p:Int)<(n:Int):=by omega
     clear hq ae ha
     go_wp2_with fail
     refine ap (fun W=>p8 w W r c n h H TT Z bt bv l Y L z V td XD) (uH y) ?_
     clear y
     intro W st
     have A:=aa (st.all ((Below.refl W.heap.size W).drew))
     clear st
     have N:=(uH A).st.m.c1
     go_region_with (first
      |(go_at_call 117;refine(uH KJ _ (uH A).st.bel (uH A).x (uH A).cx (uH A).ct (uH A).cv).mono ?_;rintro e w8 ⟨rfl,F⟩;clear N;have S8:=(uH A).all F;have N:=S8.st.m.c1;have d1:=S8.st.row.cell p (by rw[uH LL];exact hp);have a4:=S8.st.row.free p;have P9:=aa (S8.set p u);clear S8 F A KJ)
      |fail "NO ARM")
     all_goals
      clear d1 a4 N
      go_wp2_with fail
      go_round
      case rel=>exact⟨j+1,by omega,by go_num,by rw[a9,←uH HN];exact P9⟩
      case measure=>simp[intOf];omega
    ·have a5:j=L:=by omega
     subst a5
     have S4:=aa (uH y).st
     rw[uH a3]at S4
     clear y
     go_wp2_with fail
     go_round
     case rel=>exact⟨d+1,by omega,by omega,by go_num,S4⟩
     case measure=>simp[intOf];omega
  ·have a6:d=c:=by omega
   subst a6
   obtain⟨h6,M,Q,h5⟩:=uH y
   have y0:=M.c0;have N:=M.c1;have y2:=M.c2
   have r0:=Q.c0;have r1:=Q.c1;have r2:=Q.c2
   have f0:=Q.free 0;have f1:=Q.free 1;have f2:=Q.free 2
   have XP:=Q.put (.int .i64 r) (.int .i64 d) (.slice (some ⟨w.heap.size+1+1,0,none⟩) n n)
   have z0:=XP.c0;have z1:=XP.c1;have z2:=XP.c2
   have RW:=aa (h5.three (g:=w.heap.size+1) (by omega) (.int .i64 r) (.int .i64 d) (.slice (some ⟨w.heap.size+1+1,0,none⟩) n n))
   have BP:=aa (al h6 (b:=w.heap.size+1) (by omega) (.int .i64 r) (.int .i64 d) (.slice (some ⟨w.heap.size+1+1,0,none⟩) n n))
   clear XP M Q h5 h6 y
   go_wp2_with fail
   exact bodyPost_ret (v:=.agg #[.int .i64 r,.int .i64 d,.slice (some ⟨w.heap.size+1+1,0,none⟩) n n]) (by simp[results,Tryz.results77,go_sem,z0,z1,z2]) rfl ⟨_,rfl,by omega,uH RW,uH BP⟩
theorem Ed(r c:Int)(m:Option Addr)(n d:Nat)(i k:Int)(G:Option Addr)(L H y:Nat)(w:World)
  (A:∀h,Calls Tryz.prog 19 #[.agg #[.int .i64 r,.int .i64 c,.slice m n d]] h fun e z=>e=.returned (.int .i64 1)∧Below h.heap.size h z):
  Calls Tryz.prog 52 #[.agg #[.int .i64 r,.int .i64 c,.slice m n d],.int .i64 i,.int .i64 k,.slice G L H,.int .u64 y] w fun e h=>∃v,e=.returned (.tuple #[v,.int .i64 1])∧az w.heap.size h 0 0 [] v∧Below w.heap.size w h:=by
 have K:=aa (A ((w.alloc (.cells #[.int .i64 r,.int .i64 c,.slice m n d] 24)).alloc (.cells #[.int .i64 0,.int .i64 0,.slice none 0 0] 24)))
 simp only[ai]at K
 have D:=aa (f8 w (.int .i64 r) (.int .i64 c) (.slice m n d) (.int .i64 0) (.int .i64 0) (.slice none 0 0))
 clear A
 go_enter Tryz.func52,Tryz.ntmps52
 go_wp2_with fail
 refine Calls.mono (uH K) ?_
 rintro e O ⟨rfl,l⟩
 obtain⟨F,N,f⟩:=uH D O l
 clear K D l N
 have Q:=f.free 0;have T:=f.free 1;have U:=f.free 2
 have V:=f.c0;have X:=f.c1;have Y:=f.c2
 have t:=f.put (.int .i64 0) (.int .i64 0) (.slice none 0 0)
 have I:=t.c0;have z1:=t.c1;have z2:=t.c2
 have M:=aa (al F (b:=w.heap.size+1) (by omega) (.int .i64 0) (.int .i64 0) (.slice none 0 0))
 clear t f F
 go_wp2
 refine bodyPost_ret (v:=.tuple #[.agg #[.int .i64 0,.int .i64 0,.slice none 0 0],_]) (by simp[results,Tryz.results52,go_sem,I,z1,z2]) rfl ⟨_,rfl,az.zero _ _,uH M⟩
theorem xi(r c n d i k L M y:Nat)(t N:Option Addr)(S:List Nat)(w:World)(H:r≤6)(hi:i+L≤r)(hk:k≤c)
  (O:∀f,Calls Tryz.prog 19 #[.agg #[.int .i64 r,.int .i64 c,.slice t n d]] f fun e l=>e=.returned (.int .i64 0)∧Below f.heap.size f l)
  (T:∀f,Below w.heap.size w f→Calls Tryz.prog 77 #[.agg #[.int .i64 r,.int .i64 c,.slice t n d],.int .i64 i,.int .i64 k,.slice N L M,.int .u64 y] f fun e l=>∃g,e=.returned (.agg #[.int .i64 r,.int .i64 c,.slice (some ⟨g,0,none⟩) n n])∧f.heap.size≤g∧bT l g S∧Below f.heap.size f l):
  Calls Tryz.prog 52 #[.agg #[.int .i64 r,.int .i64 c,.slice t n d],.int .i64 i,.int .i64 k,.slice N L M,.int .u64 y] w fun e f=>∃g,e=.returned (.tuple #[.agg #[.int .i64 r,.int .i64 c,.slice (some ⟨g,0,none⟩) n n],.int .i64 0])∧w.heap.size+2≤g∧bT f g S∧Below w.heap.size w f:=by
 have K:=aa (O ((w.alloc (.cells #[.int .i64 r,.int .i64 c,.slice t n d] 24)).alloc (.cells #[.int .i64 0,.int .i64 0,.slice none 0 0] 24)))
 simp only[ai]at K
 have U:=aa (f8 w (.int .i64 r) (.int .i64 c) (.slice t n d) (.int .i64 0) (.int .i64 0) (.slice none 0 0))
 have V:=aa T
 have X:=aa (show w.heap.size+2≤((w.alloc (.cells #[.int .i64 r,.int .i64 c,.slice t n d] 24)).alloc (.cells #[.int .i64 0,.int .i64 0,.slice none 0 0] 24)).heap.size by rw[ai,ai];omega)
 have hw:IntKind.i64.wrap ((r:Int)-(L:Int))=(r:Int)-(L:Int):=aW _ (by omega)
 have h1:(i:Int)≤(r:Int)-(L:Int):=by omega
 have h2:(k:Int)≤(c:Int):=by omega
 clear O T
 go_enter Tryz.func52,Tryz.ntmps52
 go_wp2_with fail
 refine Calls.mono (uH K) ?_
 rintro e w1 ⟨rfl,m⟩
 obtain⟨A,G,h⟩:=uH U w1 m
 have z:=aa (Nat.le_trans (uH X) m.size)
 clear K U m X
 have a0:=G.c0;have a1:=G.c1;have a2:=G.c2
 have D:=aa A;have Y:=aa h
 clear A G h
 go_wp2_with fail
 clear a0 a1 a2
 refine(uH V _ (uH D)).mono ?_
 rintro e w2 ⟨g,rfl,hg,H,I⟩
 have A:=(uH D).trans (I.mono (uH D).size)
 have h:=(uH Y).all I
 have Z:=aa (Nat.le_trans (uH z) hg)
 have f0:=h.free 0;have f1:=h.free 1;have f2:=h.free 2
 have s0:=h.c0;have s1:=h.c1;have s2:=h.c2
 have F:=h.put (.int .i64 r) (.int .i64 c) (.slice (some ⟨g,0,none⟩) n n)
 have z0:=F.c0;have z1:=F.c1;have z2:=F.c2
 have Q:=aa (H.three (g:=w.heap.size+1) (by have:=uH Z;omega) (.int .i64 r) (.int .i64 c) (.slice (some ⟨g,0,none⟩) n n))
 have BP:=aa (al A (b:=w.heap.size+1) (by omega) (.int .i64 r) (.int .i64 c) (.slice (some ⟨g,0,none⟩) n n))
 clear A h I hg H F D Y V z
 go_wp2
 exact bodyPost_ret (v:=.tuple #[.agg #[.int .i64 r,.int .i64 c,.slice (some ⟨g,0,none⟩) n n],.int .i64 0]) (by simp[results,Tryz.results52,go_sem,z0,z1,z2]) rfl ⟨_,rfl,uH Z,uH Q,uH BP⟩
theorem FC{r c:Nat}{S:List Nat}(f:∀p q,dJ c S p q<18446744073709551616)(i k:Nat)(h:List Nat)(d:Nat):∀x∈km r c S i k h d,x<18446744073709551616:=by
 intro x l
 unfold km dC at l
 obtain⟨p,_,rfl⟩:=List.mem_map.1 l
 show(if _ then _ else _)<_
 split
 ·rename_i g
  exact tK c S i _ h d (by omega) f
 ·exact f _ _
theorem AE(c:Nat)(S:List Nat)(i d n:Nat):FO c S i d n 1=eg c S i n d:=by
 unfold FO dC eg
 rw[Nat.mul_one]
 refine List.map_congr_left (fun p _=>?_)
 show dJ c S (i+p/1) (d+p%1)=_
 rw[Nat.div_one,Nat.mod_one,Nat.add_zero]
theorem nA(r c m i k H f:Nat)(F K:Option Addr)(S l:List Nat)(w:World)(h:Mx w F m r c S)(hV:ab w K H (ar l))(T:i+l.length≤r)(hk:k≤c)(ht:f<18446744073709551616)(hT:cd w):
  Calls Tryz.prog 52 #[.agg #[.int .i64 r,.int .i64 c,.slice F S.length m],.int .i64 i,.int .i64 k,.slice K l.length H,.int .u64 f] w fun e G=>∃g,e=.returned (.tuple #[.agg #[.int .i64 r,.int .i64 c,.slice (some ⟨g,0,none⟩) S.length S.length],.int .i64 0])∧w.heap.size+2≤g∧bT G g (km r c S i k l f)∧Below w.heap.size w G:=by
 have aj:=h.small
 have r6:=h.2.2.1
 have c6:=h.2.2.2
 refine xi r c S.length m i k l.length H f F K (km r c S i k l f) w r6 T hk (fun G=>?_) (fun G Y=>?_)
 ·have:=ey (r:Int) (c:Int) F S.length m G (by omega)
  rw[if_pos (mX h)]at this
  exact this
 have hM:=h.below Y
 have N:=hV.below Y
 have O:=hT.all Y
 rw[←uT r c S i k l f c (Nat.le_refl _)]
 refine rZ r c S.length m i k l.length H f F K (fun d j=>rL r c S i k l f d j) (fun d=>ar (eg c S i l.length d)) (fun d j=>(i+j)*c+d) (fun d j=>(Ae c S i d l f).getD j 0) (fun d=>mV f (s6 0 l (eg c S i l.length d))) G aj c6 r6 T hk
  (by show ab G F m (ar (rL r c S i k l f k 0));rw[Ea r c S i k l f h.2.1];exact hM.1) (fun d j=>by rw[pQ,h.2.1]) (fun d=>rM r c S i k l f d)
  (fun d j U z D=>⟨by rw[h.2.1];exact cY (by omega) z,rfl,uU r c S T z U D⟩) (fun y d t U z=>?_) (fun y d V L t U z Z=>?_) (fun y d j V L bx bt bv t U z D Z X ae hv=>?_)
 ·refine(mY r c m i d l.length 1 F S y (hM.below t) T (by omega)).mono ?_
  rintro e M ⟨v,rfl,⟨V,L,rfl,hn,X⟩,A⟩
  rw[AE]at hn X⊢
  rw[bU]
  exact⟨V,L,rfl,hn,X,A⟩
 ·have I:=ul V K L H f (eg c S i l.length d) l y Z (N.below t) (bU _ _ _ _ _) (by omega) ht (O.all t)
  rw[bU]at I
  exact I
 ·have am:=N.below t
  have Q:=O.all t
  obtain⟨b1,o1,e1,_,z1⟩:=Z.ne (by rw[aq,bU];omega)
  obtain⟨b2,o2,e2,_,z2⟩:=am.ne (by rw[aq];omega)
  subst e1
  subst e2
  have q1:=z1 j (by rw[aq,bU];exact D)
  have q2:=z2 j (by rw[aq];exact D)
  rw[fc,pP c S i l.length d D]at q1
  rw[fc]at q2
  have lv:l.getD j 0<18446744073709551616:=by
   have:=hV.lt j
   rwa[fc]at this
  show Calls _ _ _ y fun e M=>e=.returned (.int .u64 ((Ae c S i d l f).getD j 0:Nat))∧_
  rw[pR c S i d l f D]
  exact uk _ _ _ (mV (mV f (s6 0 l (eg c S i l.length d))) (l.getD j 0)) _ j l.length l.length L H bx bv bt b1 o1 b2 o2 y D D X hv ae q1 q2
   (fun M A=>mO _ _ M (iB _ _) lv (Q.all A)) (fun M A=>kh _ _ M (h.el_lt _ _) (iB _ _) (Q.all A))
theorem xk(r c f i k t d:Nat)(y z:Option Addr)(S m:List Nat)(w:World)(h:Mx w y f r c S)(F:ab w z t (ar m))(G:i+m.length≤r)(H:k≤c)(I:d<18446744073709551616)(K:cd w):
  Calls Tryz.prog 52 #[.agg #[.int .i64 r,.int .i64 c,.slice y S.length f],.int .i64 i,.int .i64 k,.slice z m.length t,.int .u64 d] w fun e A=>∃v,e=.returned (.tuple #[v,.int .i64 0])∧az w.heap.size A r c (km r c S i k m d) v∧Below w.heap.size w A:=by
 refine(nA r c f i k t d y z S m w h F G H I K).mono ?_
 rintro e A ⟨g,rfl,N,L,M⟩
 have l:S.length=(km r c S i k m d).length:=by rw[gg,h.2.1]
 have D:=L.bits (FC (fun p q=>h.el_lt p q) i k m d)
 refine⟨_,rfl,⟨_,S.length,by rw[l],.inr ⟨g,0,rfl,by omega⟩,?_⟩,M⟩
 rw[l]
 exact D
end Go.Proofs.YtenpggicmfhhdaaGreatDoor
