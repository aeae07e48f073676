/- Part 28 of the texts. -/
import Derived.Test.YtenpggicmfhhdaaGreatDoorParte27
set_option maxHeartbeats 4000000
set_option maxRecDepth 20000
namespace Go.Proofs.YtenpggicmfhhdaaGreatDoor
open Go.RowKit
attribute [local go_sem ↓] Go.wp_at_zero Go.wp_at_succ
theorem kW(a b:Nat):
  ∃l q,((cO a b=0∧cB a b=false∧l=false∧q=false)∨(cO a b= -1∧cB a b=true∧l=true∧q=false)∨(cO a b=0∧cB a b=true∧l=false∧q=true)∨(cO a b=1∧cB a b=true∧l=false∧q=false))∧cM a b l (cB a b)=mx a b:=by
 by_cases h:fK a=4∨fK b=4
 ·have f:cO a b=0:=by unfold cO;rw[if_pos h]
  have d:cB a b=false:=by unfold cB;rw[if_pos h]
  refine⟨false,false,.inl ⟨f,d,rfl,rfl⟩,?_⟩
  unfold mx cM
  rw[if_pos h,if_pos d]
 ·have f:cO a b=bG (fZ a) (fZ b):=by unfold cO;rw[if_neg h]
  have d:cB a b=true:=by unfold cB;rw[if_neg h]
  have y:mx a b=if fZ a<fZ b then b else a:=by unfold mx;rw[if_neg h]
  have m:∀l,cM a b l true=if l=true then b else a:=fun l=>by unfold cM;rw[if_neg (by decide)]
  rw[f,d,y]
  rcases(show fZ a<fZ b∨fZ a=fZ b∨fZ b<fZ a by omega)with g|g|g
  ·exact⟨true,false,.inr (.inl ⟨gL g,rfl,rfl,rfl⟩),by rw[m,if_pos rfl,if_pos g]⟩
  ·have t:¬fZ a<fZ b:=by omega
   exact⟨false,true,.inr (.inr (.inl ⟨iC g,rfl,rfl,rfl⟩)),by rw[m,if_neg (by decide),if_neg t]⟩
  ·have t:¬fZ a<fZ b:=by omega
   exact⟨false,false,.inr (.inr (.inr ⟨gN g,rfl,rfl,rfl⟩)),by rw[m,if_neg (by decide),if_neg t]⟩
theorem zC(a b:Nat)(w:World)(f:a<18446744073709551616)(m:b<18446744073709551616):
  Calls Tryz.prog 90 #[.int .u64 a,.int .u64 b] w fun r d=>r=.returned (.int .u64 (mx a b:Nat))∧Below w.heap.size w d:=by
 obtain⟨l,q,h,e⟩:=kW a b
 rw[←e]
 exact EN a b _ _ l q w h (fun d=>sY a b d f m)
theorem wC(a b:Nat)(w:World)(f:a<18446744073709551616)(m:b<18446744073709551616):
  Calls Tryz.prog 99 #[.int .u64 a,.int .u64 b] w fun r d=>r=.returned (.int .u64 (mx a b:Nat))∧Below w.heap.size w d:=by
 obtain⟨l,q,h,e⟩:=kW a b
 rw[←e]
 exact Cf a b _ _ l q w h (fun d=>tf a b d f m)
theorem tD(h:Option Addr)(n c r:Nat)(w:World)
  (C:Calls Tryz.prog 88 #[.int .i64 n,.int .u64 0,.func (.func 89) #[] #[.pointer (some ⟨w.heap.size,0,none⟩)]] (w.alloc (.cells #[.slice h n c] 22)) fun e d=>e=.returned (.int .u64 (r:Nat))∧Below w.heap.size w d):
  Calls Tryz.prog 70 #[.slice h n c] w fun e l=>e=.returned (.int .u64 (r:Nat))∧Below w.heap.size w l:=by
 have K:=aa C
 clear C
 go_enter Tryz.func70,Tryz.ntmps70
 go_wp2_with fail
 refine Calls.mono (uH K) ?_
 rintro e m ⟨rfl,f⟩
 clear K
 go_wp2
 go_ret
 exact⟨rfl,f⟩
theorem dY(f:Option Addr)(c:Nat)(I:List Int)(w:World)(z:ab w f c I)(D:I.length≤35184372088830):
  Calls Tryz.prog 70 #[.slice f I.length c] w fun e l=>e=.returned (.int .u64 (ja I I.length:Nat))∧Below w.heap.size w l:=by
 refine tD f _ c _ w ?_
 have m:=ac w (.cells #[.slice f I.length c] 22)
 have F:=cD w (.slice f I.length c) 22
 generalize w.alloc (.cells #[.slice f I.length c] 22)=L at*
 refine Calls.mono (kV 89 #[.pointer (some ⟨w.heap.size,0,none⟩)] I.length (ja I) L tC D ?_) ?_
 ·intro l k t A
  have y:Below w.heap.size w l:=m.trans (t.mono m.size)
  obtain⟨G,H,K,_,z1⟩:=(z.below y).ne (by omega)
  have u1:=ag F t
  rw[K]at u1
  exact rC (ja I k) (aP I k) (fR (aP I k)) (ja I (k+1)) k I.length c w.heap.size G H l A u1 (z1 k A)
   (fun d h=>re _ d (z.lt k)) (fun d h=>zC _ _ d (mQ I k) (by have:=jV (aP I k);omega))
 ·rintro e l ⟨rfl,t⟩
  exact⟨rfl,m.trans (t.mono m.size)⟩
theorem wD(h:Option Addr)(n c:Nat)(r:Bool)(w:World)
  (C:Calls Tryz.prog 55 #[.int .i64 n,.bool true,.func (.func 56) #[] #[.pointer (some ⟨w.heap.size,0,none⟩)]] (w.alloc (.cells #[.slice h n c] 22)) fun e d=>e=.returned (.bool r)∧Below w.heap.size w d):
  Calls Tryz.prog 37 #[.slice h n c] w fun e l=>e=.returned (.bool r)∧Below w.heap.size w l:=by
 have K:=aa C
 clear C
 go_enter Tryz.func37,Tryz.ntmps37
 go_wp2_with fail
 refine Calls.mono (uH K) ?_
 rintro e m ⟨rfl,f⟩
 clear K
 go_wp2
 go_ret
 exact⟨rfl,f⟩
theorem cF(d:Option Addr)(c:Nat)(I:List Int)(w:World)(z:ab w d c I)(D:I.length≤35184372088830):
  Calls Tryz.prog 37 #[.slice d I.length c] w fun e f=>e=.returned (.bool (fu I I.length))∧Below w.heap.size w f:=by
 refine wD d _ c _ w ?_
 have l:=ac w (.cells #[.slice d I.length c] 22)
 have F:=cD w (.slice d I.length c) 22
 generalize w.alloc (.cells #[.slice d I.length c] 22)=L at*
 refine Calls.mono (rB 56 #[.pointer (some ⟨w.heap.size,0,none⟩)] I.length (fu I) L wB D ?_) ?_
 ·intro f k m A
  have y:Below w.heap.size w f:=l.trans (m.mono l.size)
  obtain⟨G,H,K,_,z1⟩:=(z.below y).ne (by omega)
  have u1:=ag F m
  rw[K]at u1
  exact tw (fu I k) (aD (aP I k)) (aP I k) k I.length c w.heap.size G H f A u1 (z1 k A) (fun t h=>eM _ t (z.lt k))
 ·rintro e f ⟨rfl,m⟩
  exact⟨rfl,l.trans (m.mono l.size)⟩
theorem zD(s r:Nat)(f:Int)(w:World)(C:∀d,Below w.heap.size w d→Calls Tryz.prog 155 #[.int .u64 s] d fun e h=>e=.returned (.tuple #[.int .u64 (r:Nat),.int .u8 f])∧Below d.heap.size d h):
  Calls Tryz.prog 131 #[.int .u64 s] w fun e d=>e=.returned (.int .u64 (r:Nat))∧Below w.heap.size w d:=by
 have K:=aa C
 clear C
 go_enter Tryz.func131,Tryz.ntmps131
 go_wp2_with fail
 refine(uH K _ (Below.refl _ _)).mono ?_
 rintro e m ⟨rfl,l⟩
 clear K
 go_wp2
 go_ret
 exact⟨rfl,l⟩
theorem wE(F:Option Addr)(n c s r o:Nat)(k f:Int)(w:World)(Z:World→Nat→Prop)(_ZS:∀d l g,Z d g→Below d.heap.size d l→Z l g)
  (G:Calls Tryz.prog 128 #[.int .i64 n,.func (.func 129) #[] #[.pointer (some ⟨w.heap.size,0,none⟩),.pointer (some ⟨w.heap.size+1,0,none⟩)]] ((w.alloc (.cells #[.slice F n c] 22)).alloc (.cells #[.int .i64 k] 3)) fun e l=>∃g,e=.returned (.slice (some ⟨g,0,none⟩) n n)∧Z l g∧Below w.heap.size w l∧l.cell? ⟨w.heap.size+1,0,none⟩=some (.int .i64 k))
  (H:∀d g,Z d g→Below w.heap.size w d→Calls Tryz.prog 132 #[.slice (some ⟨g,0,none⟩) n n,.slice (some ⟨g,0,none⟩) n n] d fun e l=>e=.returned (.int .u64 (s:Nat))∧Below d.heap.size d l)
  (I:∀d,Below w.heap.size w d→Calls Tryz.prog 155 #[.int .u64 s] d fun e l=>e=.returned (.tuple #[.int .u64 (r:Nat),.int .u8 f])∧Below d.heap.size d l)
  (K:∀d,Below w.heap.size w d→Calls Tryz.prog 130 #[.int .u64 r,.int .i64 k] d fun e l=>e=.returned (.int .u64 (o:Nat))∧Below d.heap.size d l):
  Calls Tryz.prog 110 #[.slice F n c,.int .i64 k] w fun e d=>e=.returned (.int .u64 (o:Nat))∧Below w.heap.size w d:=by
 have M:=aa G;have Y:=aa H;have K3:=aa (fun d (L:Below w.heap.size w d)=>zD s r f d (fun l A=>I l (L.trans (A.mono L.size))));have K4:=aa K
 clear G H I K
 go_enter Tryz.func110,Tryz.ntmps110
 go_wp2_with fail
 refine Calls.mono (uH M) ?_
 rintro e w1 ⟨g,rfl,T,m,U⟩
 have B:=aa m;have y:=aa T;have N:=aa U
 clear M m T U
 go_wp2_with fail
 have O:=aa _ZS
 clear _ZS
 refine ap (fun W=>Below w.heap.size w W∧Z W g∧W.cell? ⟨w.heap.size+1,0,none⟩=some (.int .i64 k)) ⟨uH B,uH y,uH N⟩ ?_
 clear B y N
 rintro t ⟨D,V,X⟩
 have Q:=aa (fun d (h:Below t.heap.size t d)=>(show Below t.heap.size t d∧d.cell? ⟨w.heap.size+1,0,none⟩=some (.int .i64 k)from⟨h,ag X h⟩))
 have z:=aa (fun d (h:Below t.heap.size t d)=>D.trans (h.mono D.size))
 have y:=aa (fun d (h:Below t.heap.size t d)=>uH O _ _ _ V h)
 clear D V X O
 go_region_held3(fun d=>Below t.heap.size t d∧d.cell? ⟨w.heap.size+1,0,none⟩=some (.int .i64 k))
  (first|exact uH Q _ (Below.refl _ _).drew|exact uH Q _ (by assumption)|fail "KK")
  (first
   |(go_at_call 132;refine(uH Y _ _ (uH y _ (And.left (by assumption))) (uH z _ (And.left (by assumption)))).mono ?_;rintro e wa ⟨rfl,m⟩;have ae:Below t.heap.size t wa:=Below.trans (And.left (by assumption)) (m.mono (Below.size (And.left (by assumption))));clear m)
   |(go_at_call 131;refine(uH K3 _ (uH z _ (And.left (by assumption)))).mono ?_;rintro e wb ⟨rfl,m⟩;have aj:Below t.heap.size t wb:=Below.trans (And.left (by assumption)) (m.mono (Below.size (And.left (by assumption))));clear m)
   |(go_at_call 130;refine(uH K4 _ (uH z _ (And.left (by assumption)))).mono ?_;rintro e wc ⟨rfl,m⟩;have am:Below t.heap.size t wc:=Below.trans (And.left (by assumption)) (m.mono (Below.size (And.left (by assumption))));clear m)
   |fail "NO ARM")
 all_goals
  have hn:Below t.heap.size t wc:=And.left (by assumption)
  go_wp2
  go_ret
  exact⟨rfl,uH z _ hn⟩
def tL(k:Int)(I:List Int):List Int:=FN I.length (fun i=>xV (aP I i) (-k))
theorem zE(k:Int)(I:List Int):(tL k I).length=I.length:=Dl _ _
theorem tE(l:Option Addr)(c:Nat)(I:List Int)(k:Int)(w:World)(z:ab w l c I)(hn:I.length≤64)(N:-5000≤k∧k≤5000)(t:cd w):
  Calls Tryz.prog 110 #[.slice l I.length c,.int .i64 k] w fun e f=>e=.returned (.int .u64 (xV (sV (jl (tL k I) (tL k I) I.length)) k:Nat))∧Below w.heap.size w f:=by
 refine wE l _ c (jl (tL k I) (tL k I) I.length) (sV (jl (tL k I) (tL k I) I.length)) _ k (sF (jl (tL k I) (tL k I) I.length)) w (fun f g=>ab f (some ⟨g,0,none⟩) I.length (tL k I)) (fun _ _ _ h d=>h.below d) ?_ ?_ ?_ ?_
 ·have G:=ac w (.cells #[.slice l I.length c] 22)
  have Q:=cD w (.slice l I.length c) 22
  have T:=ai w (.cells #[.slice l I.length c] 22)
  generalize w.alloc (.cells #[.slice l I.length c] 22)=F at*
  have H:=ac F (.cells #[.int .i64 k] 3)
  have D:=cD F (.int .i64 k) 3
  have U:=ag Q H
  generalize F.alloc (.cells #[.int .i64 k] 3)=M at*
  have y:Below w.heap.size w M:=G.trans (H.mono G.size)
  rw[T]at D
  refine Calls.mono (zv 129 #[.pointer (some ⟨w.heap.size,0,none⟩),.pointer (some ⟨w.heap.size+1,0,none⟩)] I.length (fun i=>xV (aP I i) (-k)) M Dm (by omega) ?_) ?_
  ·intro f j d K
   have m:Below w.heap.size w f:=y.trans (d.mono y.size)
   obtain⟨X,Y,Z,_,z1⟩:=(z.below m).ne (by omega)
   have u0:=ag U d
   have u1:=ag D d
   rw[Z]at u0
   have V:=t.all m
   exact zw (aP I j) (xV (aP I j) (-k)) j I.length c w.heap.size (w.heap.size+1) k X Y f K N u0 u1 (z1 j K)
    (fun A h=>mP _ _ A (z.lt j) (V.all h))
  ·rintro e f ⟨g,rfl,hg,hR,d⟩
   refine⟨g,rfl,?_,y.trans (d.mono y.size),ag D d⟩
   have:=hR.bits (fun x O=>by
    obtain⟨j,_,rfl⟩:=List.mem_map.1 O
    exact rg _ _ (z.lt j))
   simpa[tL,FN]using this
 ·intro f g L d
  have:=uQ _ _ _ _ (tL k I) (tL k I) f L L rfl (by rw[zE];omega) (t.all d)
  rw[zE]at this
  exact this
 ·intro f d
  exact wx _ f (ia _ _ _) (t.all d)
 ·intro f d
  exact mP _ _ f (uK _ (ia _ _ _)) (t.all d)
theorem rD(a:Nat)(d:a<18446744073709551616):-1074≤eX a∧eX a≤1024:=by
 unfold eX
 split
 ·omega
 ·rename_i h
  have f:=bf a (fun e=>h (by omega)) (fun e=>h (by omega))
  obtain⟨z1,z2,l,m,t,y,z,A,D⟩:=iD a d f (fun e=>h (by omega))
  omega
theorem zF(I:List Int)(k:Nat):ja I k≤9218868437227405312∨ja I k=9221120237041090560:=by
 induction k with
 |zero=>exact .inl (by show 0≤9218868437227405312;omega)
 |succ k ih=>
  show mx (ja I k) (fR (aP I k))≤9218868437227405312∨mx (ja I k) (fR (aP I k))=9221120237041090560
  have f:=jV (aP I k)
  generalize aP I k=x at*
  generalize ja I k=m at*
  by_cases h:fK m=4∨fK (fR x)=4
  ·right;unfold mx;rw[if_pos h]
  ·have e:mx m (fR x)=m∨mx m (fR x)=fR x:=by
    unfold mx
    rw[if_neg h]
    split
    ·exact .inr rfl
    ·exact .inl rfl
   rcases e with e|e
   ·rw[e];exact ih
   ·rw[e]
    left
    have l:fR (fR x)=fR x:=(pF (fR x) f).2.1
    have d:=(bs (fR x)).1
    rw[l]at d
    rcases Nat.lt_or_ge 9218868437227405312 (fR x)with g|g
    ·exact absurd (.inr (d.2 g)) h
    ·exact g
theorem zG:aD 9218868437227405312=false∧aD 9221120237041090560=false:=by decide
theorem zH{m:Nat}(h:m<9218868437227405312):aD m=true:=(bs m).2.2.2 (by rw[(pF m (by omega)).2.1];exact h)
def D7(I:List Int):Nat:=if ja I I.length=0∨aD (ja I I.length)=false then ja I I.length else xV (sV (jl (tL (eX (ja I I.length)) I) (tL (eX (ja I I.length)) I) I.length)) (eX (ja I I.length))
theorem Fi(I:List Int):D7 I<18446744073709551616:=by
 unfold D7
 split
 ·exact mQ _ _
 ·exact rg _ _ (uK _ (ia _ _ _))
theorem mR(h:Option Addr)(n c m:Nat)(w:World)(D:n≤64)(y:m=0∨m=9218868437227405312∨m=9221120237041090560)
  (l:Calls Tryz.prog 70 #[.slice h n c] w fun e d=>e=.returned (.int .u64 (m:Nat))∧Below w.heap.size w d):
  Calls Tryz.prog 92 #[.slice h n c] w fun e z=>e=.returned (.tuple #[.int .u64 (m:Nat),.int .i64 0])∧Below w.heap.size w z:=by
 have A:(n:Int)≤64:=by omega
 have t:=aa l
 clear l
 rcases y with rfl|rfl|rfl
 all_goals
  go_enter Tryz.func92,Tryz.ntmps92
  go_wp2_with fail
  refine Calls.mono (uH t) ?_
  rintro e F ⟨rfl,f⟩
  clear t
  go_wp2
  refine bodyPost_ret (v:=.tuple #[.int .u64 _,.int .i64 0]) (by simp[results,Tryz.results92,go_sem]) rfl ⟨rfl,f⟩
theorem wF(z:Option Addr)(n c m o:Nat)(k:Int)(w:World)(O:n≤64)(K:m≠0)(L:m<9218868437227405312)
  (A:Calls Tryz.prog 70 #[.slice z n c] w fun e d=>e=.returned (.int .u64 (m:Nat))∧Below w.heap.size w d)
  (D:∀f,Below w.heap.size w f→Calls Tryz.prog 111 #[.int .u64 m] f fun e d=>e=.returned (.int .i64 k)∧Below f.heap.size f d)
  (F:∀f,Below w.heap.size w f→Calls Tryz.prog 110 #[.slice z n c,.int .i64 k] f fun e d=>e=.returned (.int .u64 (o:Nat))∧Below f.heap.size f d):
  Calls Tryz.prog 92 #[.slice z n c] w fun e f=>e=.returned (.tuple #[.int .u64 (o:Nat),.int .i64 0])∧Below w.heap.size w f:=by
 have M:(n:Int)≤64:=by omega
 have G:=aa A;have H:=aa D;have I:=aa F
 have Q:¬((m:Int)=0):=by omega
 have T:¬((m:Int)=9218868437227405312):=by omega
 have U:¬((m:Int)=9221120237041090560):=by omega
 clear A D F L K
 go_enter Tryz.func92,Tryz.ntmps92
 go_wp2_with fail
 refine Calls.mono (uH G) ?_
 rintro e V ⟨rfl,h⟩
 have B:=aa h
 clear G h
 go_wp2_with fail
 refine(uH H _ (uH B)).mono ?_
 rintro e X ⟨rfl,l⟩
 have y:=aa ((uH B).trans (l.mono (uH B).size))
 clear H l B
 go_wp2_with fail
 refine(uH I _ (uH y)).mono ?_
 rintro e Y ⟨rfl,t⟩
 have N:=aa ((uH y).trans (t.mono (uH y).size))
 clear I t y
 go_wp2
 exact bodyPost_ret (v:=.tuple #[.int .u64 (o:Nat),.int .i64 0]) (by simp[results,Tryz.results92,go_sem]) rfl ⟨rfl,uH N⟩
theorem zI(d:Option Addr)(c:Nat)(I:List Int)(w:World)(z:ab w d c I)(f:I.length≤64)(A:cd w):
  Calls Tryz.prog 92 #[.slice d I.length c] w fun e l=>e=.returned (.tuple #[.int .u64 (D7 I:Nat),.int .i64 0])∧Below w.heap.size w l:=by
 have t:=dY d c I w z (by omega)
 have D:=mQ I I.length
 unfold D7
 by_cases y:ja I I.length=0
 ·rw[if_pos (.inl y)]
  exact mR d _ c _ w f (.inl y) t
 rcases zF I I.length with h|h
 ·rcases Nat.lt_or_ge (ja I I.length) 9218868437227405312 with g|g
  ·rw[if_neg (fun e=>e.elim y (fun e=>by rw[zH g]at e;cases e))]
   have F:=rD _ D
   exact wF d _ c _ _ (eX (ja I I.length)) w f y g t (fun l m=>yP _ l D (A.all m)) (fun l m=>tE d c I _ l (z.below m) f (by omega) (A.all m))
  ·have e:ja I I.length=9218868437227405312:=by omega
   rw[if_pos (.inr (by rw[e];exact zG.1))]
   exact mR d _ c _ w f (.inr (.inl e)) t
 ·rw[if_pos (.inr (by rw[h];exact zG.2))]
  exact mR d _ c _ w f (.inr (.inr h)) t
theorem iF:aD 4609715693590413312=true∧fK 4609715693590413312=2∧fS 4609715693590413312=false∧nS 4609715693590413312=25*2^58∧nT 4609715693590413312=2:=by decide+kernel
theorem Dn{N q:Nat}(d:q*q=N):rS N=2*q:=by
 have h:bu N=q:=eu (Nat.le_of_eq d) (by rw[←d,Nat.add_mul,Nat.mul_add];omega)
 unfold rS
 rw[h,if_pos d]
 omega
theorem wG:tB 4609715693590413312=2*(5*2^51):=by
 unfold tB
 rw[iF.2.2.2.1]
 exact Dn (by decide)
theorem Do:sV 4609715693590413312=4608308318706860032:=by
 obtain⟨y,d,t,_⟩:=iF
 have h:¬fK 4609715693590413312=4:=by rw[d];decide
 have l:¬(fK 4609715693590413312=0∨4609715693590413312=9218868437227405312):=by rw[d];decide
 have m:¬fS 4609715693590413312=true:=by rw[t];decide
 unfold sV
 rw[if_neg h,if_neg l,if_neg m]
 obtain⟨f,z⟩:=uP 4609715693590413312 (by decide) iF.1 (by rw[iF.2.1];decide)
 rw[wG,iF.2.2.2.2]at f
 rw[←f]
 decide+kernel
theorem nZ(A:Option Addr)(c:Nat)(I:List Int)(w:World)(D:ab w A c I)(N:I.length≤35184372088830):
  Calls Tryz.prog 80 #[.slice A I.length c] w fun e f=>e=.returned (.int .u64 (ja I I.length:Nat))∧Below w.heap.size w f:=by
 have F:=aa D
 obtain⟨n,d⟩:∃n,I.length=n:=⟨_,rfl⟩
 rw[d]at N⊢
 have G:=aa d
 clear D d
 go_enter Tryz.func80,Tryz.ntmps80
 go_wp2_with fail
 go_loopw[3,4] (fun t i wr=>∃k:Nat,k≤n∧i=.int .i64 k∧t=.int .u64 (ja I k:Nat)∧Hid (Below w.heap.size w wr)) (fun _ i _=>n-(intOf i).toNat)
 case atStart=>exact⟨0,Nat.zero_le _,rfl,rfl,Below.refl _ _⟩
 case round=>
  obtain⟨k,X,rfl,rfl,l⟩:=hrel
  by_cases m:k<n
  ·have O:(k:Int)<(n:Int):=by omega
   obtain⟨b,V,z,Y,L⟩:=((uH F).below l.out).ne (by rw[uH G];omega)
   have Q:=L k (by rw[uH G];exact m)
   have H:=aa (fun f=>vZ (aP I k) f ((uH F).lt k))
   have K:=aa (fun f=>wC (ja I k) (fR (aP I k)) f (mQ I k) (by have:=jV (aP I k);omega))
   have T:Hid (ja I (k+1)=mx (ja I k) (fR (aP I k))):=rfl
   subst z
   clear L
   generalize mx (ja I k) (fR (aP I k))=o at*
   generalize fR (aP I k)=r at*
   generalize aP I k=x at*
   generalize ja I k=Z at*
   go_wp2_with fail
   refine(uH H _).mono ?_
   rintro e M ⟨rfl,rfl⟩
   go_wp2_with fail
   refine(uH K _).mono ?_
   rintro e M ⟨rfl,h⟩
   have U:Hid (Below w.heap.size w M):=l.out.trans (h.mono l.out.size)
   clear h H K
   go_wp2_with fail
   go_round
   case rel=>exact⟨k+1,by omega,by go_num,by rw[T.out],U⟩
   case measure=>simp[intOf];omega
  ·have y:k=n:=by omega
   subst y
   go_wp2_with fail
   exact bodyPost_ret (v:=.int .u64 (ja I k:Nat)) (by simp[results,Tryz.results80,go_sem]) rfl ⟨rfl,l.out⟩
theorem rE(I:List Int):∀(m k:Nat),k≤m→fu I m=true→fu I k=true:=by
 intro m
 induction m with
 |zero=>intro k f _;rw[show k=0 by omega];rfl
 |succ m ih=>
  intro k f h
  have d:(fu I m&&aD (aP I m))=true:=h
  rw[Bool.and_eq_true]at d
  by_cases e:k=m+1
  ·subst e;exact h
  ·exact ih k (by omega) d.1
theorem zJ(I:List Int)(n k:Nat)(f:k<n)(h:aD (aP I k)=false):fu I n=false:=by
 cases e:fu I n
 ·rfl
 ·have d:(fu I k&&aD (aP I k))=true:=rE I n (k+1) (by omega) e
  rw[h,Bool.and_false]at d
  cases d
theorem j7(G:Option Addr)(c:Nat)(I:List Int)(w:World)(H:ab w G c I)(T:I.length≤35184372088830):
  Calls Tryz.prog 26 #[.slice G I.length c] w fun e t=>e=.returned (.bool (fu I I.length))∧Below w.heap.size w t:=by
 have K:=aa H
 obtain⟨n,d⟩:∃n,I.length=n:=⟨_,rfl⟩
 rw[d]at T⊢
 have L:=aa d
 clear H d
 obtain⟨v,D⟩:∃v,fu I n=v:=⟨_,rfl⟩
 rw[D]
 have M:=aa D
 clear D
 go_enter Tryz.func26,Tryz.ntmps26
 go_wp2_with fail
 go_loopw[3] (fun i wr=>∃k:Nat,k≤n∧i=.int .i64 k∧Hid (fu I k=true)∧Hid (Below w.heap.size w wr)) (fun i _=>n-(intOf i).toNat)
 case atStart=>exact⟨0,Nat.zero_le _,rfl,rfl,Below.refl _ _⟩
 case round=>
  obtain⟨k,hk,rfl,O,m⟩:=hrel
  by_cases l:k<n
  ·have U:(k:Int)<(n:Int):=by omega
   obtain⟨b,Y,F,hb,Q⟩:=((uH K).below m.out).ne (by rw[uH L];omega)
   have V:=Q k (by rw[uH L];exact l)
   have f:=aa (fun t=>cE (aP I k) t ((uH K).lt k))
   have N:Hid (fu I (k+1)=(fu I k&&aD (aP I k))):=rfl
   have X:=aa (fun h=>zJ I n k l h)
   subst F
   clear Q
   generalize aP I k=x at*
   cases hf:aD x
   ·have y:=aa ((uH M).symm.trans (uH X hf))
    rw[hf]at f
    have z:=uH y
    subst z
    go_wp2_with fail
    refine(uH f _).mono ?_
    rintro e Z ⟨rfl,rfl⟩
    clear f
    go_wp2_with fail
    exact bodyPost_ret (v:=.bool false) (by simp[results,Tryz.results26,go_sem]) rfl ⟨rfl,m.out⟩
   ·rw[hf]at f N
    go_wp2_with fail
    refine(uH f _).mono ?_
    rintro e Z ⟨rfl,rfl⟩
    clear f
    go_wp2_with fail
    go_round
    case rel=>exact⟨k+1,by omega,by go_num,by unfold Hid;rw[N.out,O.out];rfl,m⟩
    case measure=>simp[intOf];omega
  ·have A:k=n:=by omega
   subst A
   have y:=(uH M).symm.trans O.out
   subst y
   go_wp2_with fail
   exact bodyPost_ret (v:=.bool true) (by simp[results,Tryz.results26,go_sem]) rfl ⟨rfl,m.out⟩
theorem mT(z:Option Addr)(n c m:Nat)(f:Bool)(w:World)(F:m=0∨(m≠0∧f=false))
  (A:Calls Tryz.prog 80 #[.slice z n c] w fun e d=>e=.returned (.int .u64 (m:Nat))∧Below w.heap.size w d)
  (D:∀l,Calls Tryz.prog 38 #[.int .u64 m] l fun e d=>e=.returned (.bool f)∧l=d):
  Calls Tryz.prog 59 #[.slice z n c] w fun e l=>e=.returned (.int .u64 (m:Nat))∧Below w.heap.size w l:=by
 have t:=aa A;have y:=aa D
 clear A D
 rcases F with rfl|⟨H,rfl⟩
 ·go_enter Tryz.func59,Tryz.ntmps59
  go_wp2_with fail
  refine Calls.mono (uH t) ?_
  rintro e G ⟨rfl,h⟩
  clear t y
  go_wp2
  go_ret
  exact⟨rfl,h⟩
 ·have I:((m:Int)==0)=false:=by rw[beq_eq_false_iff_ne];omega
  clear H
  go_enter Tryz.func59,Tryz.ntmps59
  go_wp2_with fail
  refine Calls.mono (uH t) ?_
  rintro e G ⟨rfl,h⟩
  clear t
  go_wp2_with fail
  refine(uH y _).mono ?_
  rintro e K ⟨rfl,rfl⟩
  clear y
  go_wp2
  go_ret
  exact⟨rfl,h⟩
theorem rF(N:Option Addr)(c m:Nat)(k:Int)(I:List Int)(w:World)(Y:ab w N c I)(hn:I.length≤35184372088830)(h0:m≠0)(O:-5000≤k∧k≤5000)
  (Z:Calls Tryz.prog 80 #[.slice N I.length c] w fun e f=>e=.returned (.int .u64 (m:Nat))∧Below w.heap.size w f)
  (C2:∀d,Calls Tryz.prog 38 #[.int .u64 m] d fun e f=>e=.returned (.bool true)∧d=f)
  (C3:∀d,Calls Tryz.prog 81 #[.int .u64 m] d fun e f=>e=.returned (.int .i64 k)∧Below d.heap.size d f):
  Calls Tryz.prog 59 #[.slice N I.length c] w fun e d=>e=.returned (.int .u64 (xV (sV (jl (tL k I) (tL k I) I.length)) k:Nat))∧Below w.heap.size w d:=by
 have HI:=aa Y
 have Q:=aa Z;have K2:=aa C2;have K3:=aa C3
 have g0:((m:Int)==0)=false:=by rw[beq_eq_false_iff_ne];omega
 have hw:IntKind.i64.wrap (-k)= -k:=by simp only[IntKind.wrap_i64];omega
 have ae:(0:Int)-k= -k:=by omega
 have HK:=aa O
 have T:=aa (fun d=>tt (jl (tL k I) (tL k I) I.length) d (ia _ _ _))
 have U:=aa (fun d=>kU (sV (jl (tL k I) (tL k I) I.length)) k d (uK _ (ia _ _ _)) O)
 have HD:Hid (jl (tL k I) (tL k I) 0=0):=rfl
 have HS:=aa (fun j (hj:j<I.length)=>show jl (tL k I) (tL k I) (j+1)=aV (jl (tL k I) (tL k I) j) (mV (xV (aP I j) (-k)) (xV (aP I j) (-k))) by
  show aV (jl (tL k I) (tL k I) j) (mV (aP (tL k I) j) (aP (tL k I) j))=_
  rw[show aP (tL k I) j=xV (aP I j) (-k)from zB _ _ j hj])
 have HL:=aa (fun j=>ia (tL k I) (tL k I) j)
 generalize jl (tL k I) (tL k I)=F at*
 obtain⟨n,A⟩:∃n,I.length=n:=⟨_,rfl⟩
 rw[A]at hn Q HS T U⊢
 have HN:=aa A
 clear Y A Z C2 C3 h0 O
 generalize xV (sV (F n)) k=rr at*
 generalize sV (F n)=ss at*
 go_enter Tryz.func59,Tryz.ntmps59
 go_wp2_with fail
 refine Calls.mono (uH Q) ?_
 rintro e w1 ⟨rfl,K⟩
 have B:=aa K
 clear Q K
 go_wp2_with fail
 refine(uH K2 _).mono ?_
 rintro e w2 ⟨rfl,rfl⟩
 clear K2
 go_wp2_with fail
 refine(uH K3 _).mono ?_
 rintro e w2 ⟨rfl,L⟩
 have B2:=aa ((uH B).trans (L.mono (uH B).size))
 clear K3 L B
 go_wp2_with fail
 go_loopw[5,6] (fun t i wr=>∃j:Nat,j≤n∧i=.int .i64 j∧t=.int .u64 (F j:Nat)∧Hid (Below w.heap.size w wr)) (fun _ i _=>n-(intOf i).toNat)
 case atStart=>exact⟨0,Nat.zero_le _,rfl,by rw[uH HD];rfl,B2⟩
 case round=>
  clear B2
  obtain⟨j,hj,rfl,rfl,D⟩:=hrel
  by_cases G:j<n
  ·have aj:(j:Int)<(n:Int):=by omega
   obtain⟨b,av,X,hb,hc⟩:=((uH HI).below D.out).ne (by rw[uH HN];omega)
   have am:=hc j (by rw[uH HN];exact G)
   have y:=(uH HI).lt j
   have D1:=aa (fun d=>kU (aP I j) (-k) d y (by have:=uH HK;omega))
   have D2:=aa (fun d=>i9 (xV (aP I j) (-k)) (xV (aP I j) (-k)) d (rg _ _ y) (rg _ _ y))
   have D3:=aa (fun d=>oX (F j) (mV (xV (aP I j) (-k)) (xV (aP I j) (-k))) d (uH HL j) (iB _ _))
   have eV:=aa (uH HS j G)
   subst X
   clear hc y
   generalize aV (F j) (mV (xV (aP I j) (-k)) (xV (aP I j) (-k)))=o at*
   generalize mV (xV (aP I j) (-k)) (xV (aP I j) (-k))=p at*
   generalize xV (aP I j) (-k)=t at*
   generalize aP I j=x at*
   go_wp2_with fail
   refine(uH D1 _).mono ?_
   rintro e w3 ⟨rfl,h⟩
   have z:=aa (D.out.trans (h.mono D.out.size))
   clear h D1 D
   go_wp2_with fail
   refine(uH D2 _).mono ?_
   rintro e w4 ⟨rfl,l⟩
   have H:=aa ((uH z).trans (l.mono (uH z).size))
   clear l D2 z
   go_wp2_with fail
   refine(uH D3 _).mono ?_
   rintro e w5 ⟨rfl,M⟩
   have B5:=aa ((uH H).trans (M.mono (uH H).size))
   clear M D3 H
   go_wp2_with fail
   go_round
   case rel=>exact⟨j+1,by omega,by go_num,by rw[uH eV],B5⟩
   case measure=>simp[intOf];omega
  ·have V:j=n:=by omega
   subst V
   go_wp2_with fail
   refine(uH T _).mono ?_
   rintro e w3 ⟨rfl,h⟩
   have z:=aa (D.out.trans (h.mono D.out.size))
   clear h T D
   go_wp2_with fail
   refine(uH U _).mono ?_
   rintro e w4 ⟨rfl,l⟩
   have H:=aa ((uH z).trans (l.mono (uH z).size))
   clear l U z
   go_wp2
   exact bodyPost_ret (v:=.int .u64 (rr:Nat)) (by simp[results,Tryz.results59,go_sem]) rfl ⟨rfl,uH H⟩
theorem mU(d:Option Addr)(c:Nat)(I:List Int)(w:World)(y:ab w d c I)(z:I.length≤35184372088830):
  Calls Tryz.prog 59 #[.slice d I.length c] w fun e f=>e=.returned (.int .u64 (D7 I:Nat))∧Below w.heap.size w f:=by
 have m:=nZ d c I w y z
 have t:=mQ I I.length
 have h:=fun f=>cE (ja I I.length) f t
 unfold D7
 by_cases l:ja I I.length=0
 ·rw[if_pos (.inl l)]
  exact mT d _ c _ _ w (.inl l) m h
 cases hf:aD (ja I I.length)
 ·rw[hf]at h
  rw[if_pos (.inr rfl)]
  exact mT d _ c _ _ w (.inr ⟨l,rfl⟩) m h
 ·rw[hf]at h
  rw[if_neg (fun e=>e.elim l (fun e=>by cases e))]
  have A:=rD _ t
  exact rF d c _ _ I w y z l (by omega) m h (fun f=>vW _ f t)
def GA(I:List Int):Nat→Int
 |0=>0
 |k+1=>GA I k+fZ (aP I k)*fZ (aP I k)
end Go.Proofs.YtenpggicmfhhdaaGreatDoor
