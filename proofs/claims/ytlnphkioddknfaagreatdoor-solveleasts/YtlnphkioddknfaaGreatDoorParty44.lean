/- Part 44 of the texts. -/
import Derived.Test.YtlnphkioddknfaaGreatDoorParty43
set_option maxHeartbeats 8000000
set_option maxRecDepth 20000
namespace Go.Proofs.YtlnphkioddknfaaGreatDoor
open Go.RowKit
attribute [local go_sem ↓] Go.wp_at_zero Go.wp_at_succ
theorem wt(a b:Nat)(w:World)(l:a<18446744073709551616)(m:b<18446744073709551616):
  Calls Tryz.prog 62 #[.int .u64 a,.int .u64 b] w fun r d=>r=.returned (.bool (Js a b))∧Below w.heap.size w d:=by
 have C:=fun d=>nL a b d l m
 have t:cB a b=false→cO a b=0:=by
  unfold cB cO
  split
  ·intro _;rfl
  ·intro e;cases e
 have f:cO a b= -1∨cO a b=0∨cO a b=1:=by
  unfold cO bJ
  repeat' split
  all_goals simp
 unfold Js
 cases hc:cB a b
 ·have h:=t hc
  rw[h,hc]at C
  rw[h]
  exact mD a b 0 false false false w (.inl ⟨rfl,rfl,rfl,rfl⟩) C
 ·rw[hc]at C
  rcases f with e|e|e
  ·rw[e]at C⊢
   exact mD a b (-1) true true false w (.inr (.inl ⟨rfl,rfl,rfl,rfl⟩)) C
  ·rw[e]at C⊢
   exact mD a b 0 true false true w (.inr (.inr (.inl ⟨rfl,rfl,rfl,rfl⟩))) C
  ·rw[e]at C⊢
   exact mD a b 1 true false false w (.inr (.inr (.inr ⟨rfl,rfl,rfl,rfl⟩))) C
theorem Ge(d:Array Value)(w:World):(callFunc 61 d).run Tryz.prog w=.ok (.enter 61 d) w:=by
 simp only[callFunc,go_sem]
 rfl
theorem zG(d:Array Value)(w:World):(callFunc 107 d).run Tryz.prog w=.ok (.enter 107 d) w:=by
 simp only[callFunc,go_sem]
 rfl
theorem DC(x b a g:Nat)(o:Bool)(w:World)(t:w.cell? ⟨g,0,none⟩=some (.int .u64 (b:Nat)))
  (y:∀d,Below w.heap.size w d→Calls Tryz.prog 63 #[.int .u64 x] d fun r f=>r=.returned (.int .u64 (a:Nat))∧Below d.heap.size d f)
  (z:∀d,Below w.heap.size w d→Calls Tryz.prog 62 #[.int .u64 b,.int .u64 a] d fun r f=>r=.returned (.bool o)∧Below d.heap.size d f):
  Calls Tryz.prog 61 #[.int .u64 x,.pointer (some ⟨g,0,none⟩)] w fun e d=>e=.returned (.bool (!o))∧Below w.heap.size w d:=by
 have D:=aa y;have F:=aa z
 have A:=aa (fun d (h:Below w.heap.size w d)=>(show Below w.heap.size w d∧d.cell? ⟨g,0,none⟩=some (.int .u64 (b:Nat))from⟨h,ah t h⟩))
 clear y z t
 go_enter Tryz.func61,Tryz.ntmps61
 go_wp2_with fail
 go_region_held3(fun d=>Below w.heap.size w d∧d.cell? ⟨g,0,none⟩=some (.int .u64 (b:Nat)))
  (first|exact uH A _ (Below.refl _ _).drew|exact uH A _ (by assumption)|fail "KK")
  (first|(go_at_call 63;refine(uH D _ (And.left (by assumption))).mono ?_;rintro e I ⟨rfl,l⟩;have G:Below w.heap.size w I:=Below.trans (And.left (by assumption)) (l.mono (Below.size (And.left (by assumption))));clear l)|(go_at_call 62;refine(uH F _ (And.left (by assumption))).mono ?_;rintro e K ⟨rfl,m⟩;have H:Below w.heap.size w K:=Below.trans (And.left (by assumption)) (m.mono (Below.size (And.left (by assumption))));clear m)|fail "NO ARM")
 go_wp2
 go_ret
 exact⟨rfl,And.left (by assumption)⟩
theorem t7(x:Nat)(w:World)(h:x<18446744073709551616):
  Calls Tryz.prog 107 #[.int .u64 x] w fun e l=>e=.returned (.bool (decide (fK x=0)))∧Below w.heap.size w l:=by
 have K:=aa (cu x w h)
 have d:((fK x:Int)==0)=decide (fK x=0):=by
  rw[Bool.eq_iff_iff]
  simp
 generalize y:decide (fK x=0)=b at*
 generalize fK x=k at*
 go_enter Tryz.func107,Tryz.ntmps107
 go_wp2_with fail
 refine(uH K).mono ?_
 rintro e t ⟨rfl,f⟩
 have m:=aa f
 clear f K
 go_wp2
 go_ret
 exact⟨by first|(rw[d];done)|(rw[d];rfl)|simp,uH m⟩
theorem Gf(r c n cap q G s:Nat)(ao:Option Addr)(D:List Nat)(o:Bool)(w:World)
  (H:∀d,Below w.heap.size w d→Calls Tryz.prog 56 #[.agg #[.int .i64 r,.int .i64 c,.slice ao n cap]] d fun e h=>e=.returned (.int .i64 0)∧Below d.heap.size d h)
  (I:∀d,Below w.heap.size w d→Calls Tryz.prog 57 #[.agg #[.int .i64 r,.int .i64 c,.slice ao n cap]] d fun e h=>∃g,e=.returned (.slice (some ⟨g,0,none⟩) q q)∧d.heap.size≤g∧aY h g D∧Below d.heap.size d h)
  (K:∀d g,Below w.heap.size w d→aY d g D→Calls Tryz.prog 59 #[.slice (some ⟨g,0,none⟩) q q] d fun e h=>e=.returned (.int .u64 (G:Nat))∧Below d.heap.size d h)
  (L:∀d,Below w.heap.size w d→Calls Tryz.prog 58 #[.int .u64 G,.int .i64 (-40)] d fun e h=>e=.returned (.int .u64 (s:Nat))∧Below d.heap.size d h)
  (M:∀d g b,Below w.heap.size w d→aY d g D→d.cell? ⟨b,0,none⟩=some (.int .u64 (s:Nat))→Calls Tryz.prog 60 #[.slice (some ⟨g,0,none⟩) q q,.func (.func 61) #[] #[.pointer (some ⟨b,0,none⟩)]] d fun e h=>e=.returned (.bool o)∧Below d.heap.size d h):
  Calls Tryz.prog 18 #[.agg #[.int .i64 r,.int .i64 c,.slice ao n cap]] w fun e d=>e=.returned (.tuple #[.bool o,.int .i64 0])∧Below w.heap.size w d:=by
 have f:=aa (ab w (.cells #[.int .i64 r,.int .i64 c,.slice ao n cap] 24))
 have t:=aa (aq.new w (.int .i64 r) (.int .i64 c) (.slice ao n cap))
 have N:=aa (H _ (uH f));have O:=aa I;have Q:=aa K;have U:=aa L;have V:=aa M
 have y:=(uH t).c0;have z:=(uH t).c1;have A:=(uH t).c2
 clear H I K L M
 go_enter Tryz.func18,Tryz.ntmps18
 go_wp2_with fail
 clear y z A
 refine(uH N).mono ?_
 rintro e w1 ⟨rfl,l⟩
 replace t:=aa ((uH t).all l)
 replace f:=aa ((uH f).trans (l.mono (uH f).size))
 clear l N
 have y:=(uH t).c0;have z:=(uH t).c1;have A:=(uH t).c2
 go_wp2_with fail
 clear y z A
 refine(uH O _ (uH f)).mono ?_
 rintro e w2 ⟨g,rfl,_,Y,l⟩
 replace f:=aa ((uH f).trans (l.mono (uH f).size))
 have m:=aa Y
 clear l Y O t
 go_wp2_with fail
 refine(uH Q _ _ (uH f) (uH m)).mono ?_
 rintro e w3 ⟨rfl,l⟩
 replace f:=aa ((uH f).trans (l.mono (uH f).size))
 replace m:=aa ((uH m).below l (uH m).lt)
 clear l Q
 go_wp2_with fail
 refine(uH U _ (uH f)).mono ?_
 rintro e Z ⟨rfl,l⟩
 replace f:=aa ((uH f).trans (l.mono (uH f).size))
 replace m:=aa ((uH m).below l (uH m).lt)
 have F:=ab Z (.cells #[.int .u64 (s:Nat)] 37)
 have X:=aa (cU Z (.int .u64 (s:Nat)) 37)
 replace f:=aa ((uH f).trans (F.mono (uH f).size))
 replace m:=aa ((uH m).below F (uH m).lt)
 clear l F U
 go_wp2_with fail
 refine(uH V _ _ _ (uH f) (uH m) (uH X)).mono ?_
 rintro e w5 ⟨rfl,l⟩
 replace f:=aa ((uH f).trans (l.mono (uH f).size))
 clear l V m X
 go_wp2_with fail
 exact bodyPost_ret (v:=.tuple #[.bool o,.int .i64 0]) (by simp[results,Tryz.results18,go_sem]) rfl ⟨rfl,uH f⟩
theorem jx{w:World}{ao:Option Addr}{cap r c:Nat}{S:List Nat}(h:Mx w ao cap r c S)(d:bG S=true):gG (r:Int) (c:Int) (ar S)=0:=by
 unfold gG
 rw[al,kT h]
 have:fu (ar S) S.length=true:=d
 rw[this]
 rfl
theorem oG{w:World}{ao:Option Addr}{cap r c:Nat}{S:List Nat}(h:Mx w ao cap r c S):∀x∈gc r c S,x<18446744073709551616:=by
 intro x d
 obtain⟨i,_,rfl⟩:=List.mem_map.1 d
 exact h.el_lt _ _
theorem t8{d:List Nat}(h:∀x∈d,x<18446744073709551616)(k:Nat):d.getD k 0<18446744073709551616:=by
 rw[List.getD_eq_getElem?_getD]
 rcases Nat.lt_or_ge k d.length with g|g
 ·rw[List.getElem?_eq_getElem g];exact h _ (List.getElem_mem g)
 ·rw[List.getElem?_eq_none g];decide
theorem lN{w:World}{g q:Nat}{d:List Nat}(h:aY w g d)(f:d.length=q)(l:∀x∈d,x<18446744073709551616):ac w (some ⟨g,0,none⟩) q (ar d):=by
 have:=h.bits l
 rwa[f]at this
def Gg(n:Nat)(T M:List Nat):Int:=if zB (gc n n T)=true then 5 else if bG M=true then 0 else 2
def gR(w w':World)(f:Int)(n q:Nat)(M:List Nat)(e:Ending):Prop:=
 (f=0∧∃xo xc,e=.returned (.tuple #[.agg #[.int .i64 n,.int .i64 q,.slice xo (n*q) xc],.int .i64 0])∧bH w.heap.size xo (ar M)∧ac w' xo xc (ar M)∧M.length=n*q∧bG M=true)∨
 (f≠0∧e=.returned (.tuple #[.agg #[.int .i64 0,.int .i64 0,.slice none 0 0],.int .i64 f]))
theorem zH(n q t z G H:Nat)(y A:Option Addr)(T B:List Nat)(o:Nat→Nat)(F:Nat→Nat→Bool)(w:World)(D:Mx w y t n n T)(O:Mx w A z n q B)(fT:bG T=true)(fB:bG B=true)(hO:zA n o)
  (Q:∀l w,(callFunc G l).run Tryz.prog w=.ok (.enter G l) w) (U:∀l w,(callFunc H l).run Tryz.prog w=.ok (.enter H l) w)
  (CO:∀d m,m<n→Calls Tryz.prog G #[.int .i64 n,.int .i64 (m:Nat)] d fun e f=>e=.returned (.int .i64 (o m:Nat))∧Below d.heap.size d f)
  (CD:∀d i k,i<n→k<n→Calls Tryz.prog H #[.int .i64 (i:Nat),.int .i64 (k:Nat)] d fun e f=>e=.returned (.bool (F i k))∧Below d.heap.size d f) (I:b7 w):
  Calls Tryz.prog 45 #[.agg #[.int .i64 n,.int .i64 n,.slice y T.length t],.agg #[.int .i64 n,.int .i64 q,.slice A B.length z],.func (.func G) #[.int .i64 n] #[],.func (.func H) #[] #[]] w fun e d=>
   gR w d (Gg n T (ux n q (bB n T) (bB q B) o F)) n q (ux n q (bB n T) (bB q B) o F) e∧Below w.heap.size w d:=by
 have n6:=D.2.2.1
 have V:min n n=n:=Nat.min_self n
 have ae:=D.small;have aj:=O.small
 have X:∀d,Below w.heap.size w d→Calls Tryz.prog 70 #[.agg #[.int .i64 n,.int .i64 n,.slice y T.length t],.agg #[.int .i64 n,.int .i64 q,.slice A B.length z]] d fun e f=>e=.returned (.int .i64 0)∧Below d.heap.size d f:=fun d h=>by
  have:=gQ n n n q y A t z (ar T) (ar B) d (D.1.below h) (O.1.below h) (by rw[al];omega) (by rw[al];omega)
  rw[al,al]at this
  unfold ml at this
  rw[if_pos (jx D fT),jx O fB]at this
  exact this
 have Y:∀d,Below w.heap.size w d→Calls Tryz.prog 57 #[.agg #[.int .i64 n,.int .i64 n,.slice y T.length t]] d fun e f=>∃g,e=.returned (.slice (some ⟨g,0,none⟩) n n)∧d.heap.size≤g∧aY f g (gc n n T)∧Below d.heap.size d f:=fun d h=>
  k5 n n t n y T d (D.below h) V
 have K:∀d g,Below w.heap.size w d→aY d g (gc n n T)→Calls Tryz.prog 60 #[.slice (some ⟨g,0,none⟩) n n,.func (.func 107) #[] #[]] d fun e f=>e=.returned (.bool (zB (gc n n T)))∧Below d.heap.size d f:=fun d g h hr=>
  qh 107 #[] (some ⟨g,0,none⟩) n n (gc n n T) (fun x=>decide (fK x=0)) d (by rw[mM,V]) (by omega) (lN hr (by rw[mM,V]) (oG D)) zG (fun f k _ _=>t7 _ f (t8 (oG D) k))
 have C4:=fun d (h:Below w.heap.size w d)=>wi n q t z T.length B.length (n*q) G H y A T B o F d (D.below h) (O.below h) rfl rfl rfl hO Q U CO CD (I.all h)
 unfold Gg
 cases hz:zB (gc n n T)with
 |true=>
  rw[hz]at K
  refine(tZ n q T.length t B.length z n (gc n n T) y A _ _ w X Y K).mono ?_
  rintro e d ⟨rfl,h⟩
  exact⟨.inr ⟨by simp,by simp⟩,h⟩
 |false=>
  rw[hz]at K
  rw[if_neg (by decide)]
  cases hf:bG (ux n q (bB n T) (bB q B) o F)with
  |true=>
   rw[if_pos rfl]
   refine(zF n q T.length t B.length z n (n*q) (gc n n T) (ux n q (bB n T) (bB q B) o F) y A _ _ w X Y K (fun d h=>(C4 d h).mono ?_)).mono ?_
   ·rintro e f ⟨S,L,M,N,e2,e3,Z,e5,e6⟩
    rw[hf]at N
    rw[e2 hf]at Z e5
    exact⟨L,M,N,Z,e5,e6⟩
   ·rintro e d ⟨L,M,rfl,h1,h2,h⟩
    exact⟨.inl ⟨rfl,L,M,rfl,h1,h2,mL _ _ _ _ _ _,hf⟩,h⟩
  |false=>
   rw[if_neg (by decide)]
   refine(ws n q T.length t B.length z n (n*q) (gc n n T) y A _ _ w X Y K (fun d h=>(C4 d h).mono ?_)).mono ?_
   ·rintro e f ⟨S,L,M,N,e2,e3,Z,e5,e6⟩
    rw[hf]at N
    exact⟨L,M,N,e6⟩
   ·rintro e d ⟨rfl,h⟩
    exact⟨.inr ⟨by decide,rfl⟩,h⟩
def dO(r c p q:Int)(I J:List Int):Int:=if ml r c I p q J=0 then(if r=c∧r=p then 0 else 3)else ml r c I p q J
theorem zI(r c p q:Int)(ao l:Option Addr)(cap d:Nat)(I J:List Int)(t y:Value)(w:World)(D:ac w ao cap I)(F:ac w l d J)(G:I.length≤35184372088830)(H:J.length≤35184372088830)(h:dO r c p q I J≠0):
  Calls Tryz.prog 45 #[.agg #[.int .i64 r,.int .i64 c,.slice ao I.length cap],.agg #[.int .i64 p,.int .i64 q,.slice l J.length d],t,y] w fun e m=>e=.returned (.tuple #[.agg #[.int .i64 0,.int .i64 0,.slice none 0 0],.int .i64 (dO r c p q I J)])∧Below w.heap.size w m:=by
 have C:=fun m (A:Below w.heap.size w m)=>gQ r c p q ao l cap d I J m (D.below A) (F.below A) G H
 unfold dO at h⊢
 by_cases f:ml r c I p q J=0
 ·rw[if_pos f]at h⊢
  rw[f]at C
  by_cases z:r=c∧r=p
  ·rw[if_pos z]at h;exact absurd rfl h
  ·rw[if_neg z]
   refine rz r c p q I.length cap J.length d ao l t y w ?_ C
   by_cases e:r=c
   ·exact .inr ⟨e,fun K=>z ⟨e,K⟩⟩
   ·exact .inl e
 ·rw[if_neg f]at h⊢
  refine wo r c p q (ml r c I p q J) I.length cap J.length d ao l t y w ?_ C
  unfold ml at f⊢
  split at f
  ·rename_i g
   rw[if_pos g]
   rcases eg p q J with e|e|e
   ·exact absurd e f
   ·exact .inl e
   ·exact .inr e
  ·rename_i g
   rw[if_neg g]
   rcases eg r c I with e|e|e
   ·exact absurd e g
   ·exact .inl e
   ·exact .inr e
theorem t9(r c p q f:Int)(ao z:Option Addr)(k cap m d n u:Nat)(M:List Nat)(w:World)
  (C1:∀t,Below w.heap.size w t→Calls Tryz.prog 45 #[.agg #[.int .i64 r,.int .i64 c,.slice ao k cap],.agg #[.int .i64 p,.int .i64 q,.slice z m d],.func (.func 46) #[.int .i64 r] #[],.func (.func 47) #[] #[]] t fun e A=>gR t A f n u M e∧Below t.heap.size t A):
  Calls Tryz.prog 12 #[.agg #[.int .i64 r,.int .i64 c,.slice ao k cap],.agg #[.int .i64 p,.int .i64 q,.slice z m d]] w fun e t=>gR w t f n u M e∧Below w.heap.size w t:=by
 have KB:=aa (bp w (.int .i64 r) (.int .i64 c) (.slice ao k cap) (.int .i64 p) (.int .i64 q) (.slice z m d) (.int .i64 0) (.int .i64 0) (.slice none 0 0))
 obtain⟨X,K,N,x2⟩:=uH KB _ (by have:=Below.refl (((w.alloc (.cells #[.int .i64 r,.int .i64 c,.slice ao k cap] 24)).alloc (.cells #[.int .i64 p,.int .i64 q,.slice z m d] 24)).alloc (.cells #[.int .i64 0,.int .i64 0,.slice none 0 0] 24)).heap.size (((w.alloc (.cells #[.int .i64 r,.int .i64 c,.slice ao k cap] 24)).alloc (.cells #[.int .i64 p,.int .i64 q,.slice z m d] 24)).alloc (.cells #[.int .i64 0,.int .i64 0,.slice none 0 0] 24));simpa only[ad]using this)
 have K1:=aa (C1 _ X)
 have y:=aa X;have I:=aa x2
 have y0:=K.c0;have y1:=K.c1;have y2:=K.c2;have u0:=N.c0;have u1:=N.c1;have u2:=N.c2
 clear C1 KB X K N x2
 go_enter Tryz.func12,Tryz.ntmps12
 go_wp2_with fail
 clear y0 y1 y2 u0 u1 u2
 refine(uH K1).mono ?_
 rintro e w1 ⟨D,Z⟩
 replace I:=aa ((uH I).all Z)
 have O:=aa (uH y).size
 replace y:=aa ((uH y).trans (Z.mono (uH y).size))
 clear Z K1
 rcases D with⟨rfl,F,G,rfl,hn,hq,hl,H⟩|⟨H,rfl⟩
 ·have HN:=aa (hn.least (uH O))
  have HQ:=aa hq
  have HL:=aa hl;have Q:=aa H
  obtain⟨L,Y⟩:∃L,n*u=L:=⟨_,rfl⟩
  rw[Y]
  have EL:=aa Y
  have h:=uH I
  have f0:=h.free 0;have f1:=h.free 1;have f2:=h.free 2
  have s0:=h.c0;have s1:=h.c1;have s2:=h.c2
  have l:=h.put (.int .i64 n) (.int .i64 u) (.slice F L G)
  have U:=l.c0;have z1:=l.c1;have z2:=l.c2
  have V:=aa (ai (uH y) (b:=w.heap.size+1+1) (by omega) (.int .i64 n) (.int .i64 u) (.slice F L G))
  have QP:=aa ((uH HQ).putM h (.int .i64 n) (.int .i64 u) (.slice F L G))
  clear l h hn hq hl H Y
  go_wp2_with fail
  exact bodyPost_ret (v:=.tuple #[.agg #[.int .i64 n,.int .i64 u,.slice F L G],.int .i64 0]) (by simp[results,Tryz.results12,go_sem,U,z1,z2]) rfl ⟨.inl ⟨rfl,F,G,by rw[uH EL],uH HN,uH QP,uH HL,uH Q⟩,uH V⟩
 ·have h:=uH I
  have f0:=h.free 0;have f1:=h.free 1;have f2:=h.free 2
  have s0:=h.c0;have s1:=h.c1;have s2:=h.c2
  have l:=h.put (.int .i64 0) (.int .i64 0) (.slice none 0 0)
  have U:=l.c0;have z1:=l.c1;have z2:=l.c2
  have V:=aa (ai (uH y) (b:=w.heap.size+1+1) (by omega) (.int .i64 0) (.int .i64 0) (.slice none 0 0))
  have Q:=aa H
  clear l h H
  go_wp2_with fail
  exact bodyPost_ret (v:=.tuple #[.agg #[.int .i64 0,.int .i64 0,.slice none 0 0],.int .i64 f]) (by simp[results,Tryz.results12,go_sem,U,z1,z2]) rfl ⟨.inr ⟨uH Q,rfl⟩,uH V⟩
theorem DD(n q h l:Nat)(t y:Option Addr)(T B:List Nat)(w:World)(A:Mx w t h n n T)(D:Mx w y l n q B)(F:bG T=true)(G:bG B=true)(f:b7 w):
  Calls Tryz.prog 12 #[.agg #[.int .i64 n,.int .i64 n,.slice t T.length h],.agg #[.int .i64 n,.int .i64 q,.slice y B.length l]] w fun e d=>gR w d (Gg n T (rx n q T B)) n q (rx n q T B) e∧Below w.heap.size w d:=
 t9 n n n q (Gg n T (rx n q T B)) t y T.length h B.length l n q (rx n q T B) w (fun d z=>zH n q h l 46 47 t y T B (fun m=>n-1-m) DR d (A.below z) (D.below z) F G (tW n) II Jt (fun d m H=>ry n m d A.2.2.1 H) (fun d i k _ _=>Gd i k d) (f.all z))
theorem DE(r c p q:Int)(ao f:Option Addr)(cap d:Nat)(I J:List Int)(w:World)(y:ac w ao cap I)(z:ac w f d J)(A:I.length≤35184372088830)(D:J.length≤35184372088830)(h:dO r c p q I J≠0):
  Calls Tryz.prog 12 #[.agg #[.int .i64 r,.int .i64 c,.slice ao I.length cap],.agg #[.int .i64 p,.int .i64 q,.slice f J.length d]] w fun e l=>gR w l (dO r c p q I J) 0 0 [] e∧Below w.heap.size w l:=
 t9 r c p q (dO r c p q I J) ao f I.length cap J.length d 0 0 [] w (fun l t=>(zI r c p q ao f cap d I J _ _ l (y.below t) (z.below t) A D h).mono (by
  rintro e F ⟨rfl,m⟩
  exact⟨.inr ⟨h,rfl⟩,m⟩))
theorem GA(D:List Nat):jo (ar D) D.length=jl 0 D:=by
 have:=jJ (ar D)
 rwa[al,cR]at this
theorem ue(D:List Nat):jl 0 D<18446744073709551616:=by
 rw[←GA]
 exact kg _ _
theorem Gh(a:Nat):fR a<18446744073709551616:=by unfold fR;omega
theorem DF(r c cap:Nat)(ao:Option Addr)(S:List Nat)(w:World)(h:Mx w ao cap r c S)(A:bG S=true)(D:b7 w):
  Calls Tryz.prog 18 #[.agg #[.int .i64 r,.int .i64 c,.slice ao S.length cap]] w fun e d=>e=.returned (.tuple #[.bool (DB r c S),.int .i64 0])∧Below w.heap.size w d:=by
 have G:=h.small
 have K:=h.2.2.1
 have l:(gc r c S).length=min r c:=mM r c S
 refine Gf r c S.length cap (min r c) (jl 0 (gc r c S)) (xV (jl 0 (gc r c S)) (-40)) ao (gc r c S) (DB r c S) w (fun d f=>?_) (fun d f=>k5 r c cap (min r c) ao S d (h.below f) rfl) (fun d g f m=>?_) (fun d f=>kf _ (-40) d (ue _) (D.all f)) (fun d g b f m F=>?_)
 ·have:=iU r c ao cap (ar S) d (h.1.below f) (by rw[al];omega)
  rw[al,jx h A]at this
  exact this
 ·have:=du (some ⟨g,0,none⟩) (min r c) (ar (gc r c S)) d (lN m l (oG h)) (by rw[al,l];omega)
  rw[al,GA,l]at this
  exact this
 ·refine qh 61 #[.pointer (some ⟨b,0,none⟩)] (some ⟨g,0,none⟩) (min r c) (min r c) (gc r c S) (fun x=>!Js (xV (jl 0 (gc r c S)) (-40)) (fR x)) d l (by omega) (lN m l (oG h)) Ge (fun t k y I=>?_)
  have H:=t8 (oG h) k
  exact DC _ _ (fR ((gc r c S).getD k 0)) b (Js (xV (jl 0 (gc r c S)) (-40)) (fR ((gc r c S).getD k 0))) t (ah F y) (fun z _=>nK _ z H) (fun z _=>wt _ _ z (nM _ _ (ue _)) (Gh _))
theorem zJ(r c p q er:Int)(h l m t:Nat)(y z:Option Addr)(w:World)(L:er=1∨er=4)
  (X:∀f,Below w.heap.size w f→Calls Tryz.prog 70 #[.agg #[.int .i64 r,.int .i64 c,.slice y h l],.agg #[.int .i64 p,.int .i64 q,.slice z m t]] f fun e M=>e=.returned (.int .i64 er)∧Below f.heap.size f M):
  Calls Tryz.prog 22 #[.agg #[.int .i64 r,.int .i64 c,.slice y h l],.agg #[.int .i64 p,.int .i64 q,.slice z m t]] w fun e f=>e=.returned (.tuple #[.agg #[.int .i64 0,.int .i64 0,.slice none 0 0],.int .i64 er])∧Below w.heap.size w f:=by
 have Y:=aa (bp w (.int .i64 r) (.int .i64 c) (.slice y h l) (.int .i64 p) (.int .i64 q) (.slice z m t) (.int .i64 0) (.int .i64 0) (.slice none 0 0))
 obtain⟨V,F,G,x2⟩:=uH Y _ (by have:=Below.refl (((w.alloc (.cells #[.int .i64 r,.int .i64 c,.slice y h l] 24)).alloc (.cells #[.int .i64 p,.int .i64 q,.slice z m t] 24)).alloc (.cells #[.int .i64 0,.int .i64 0,.slice none 0 0] 24)).heap.size (((w.alloc (.cells #[.int .i64 r,.int .i64 c,.slice y h l] 24)).alloc (.cells #[.int .i64 p,.int .i64 q,.slice z m t] 24)).alloc (.cells #[.int .i64 0,.int .i64 0,.slice none 0 0] 24));simpa only[ad]using this)
 have Z:=aa (X _ V)
 have I:=aa V;have A:=aa F;have D:=aa G;have N:=aa x2
 have O:=F.c0;have Q:=F.c1;have U:=F.c2;have u0:=G.c0;have u1:=G.c1;have u2:=G.c2
 clear X Y V F G x2
 rcases L with rfl|rfl
 all_goals
  go_enter Tryz.func22,Tryz.ntmps22
  go_wp2_with fail
  clear O Q U u0 u1 u2
  refine(uH Z).mono ?_
  rintro e w1 ⟨rfl,H⟩
  replace A:=aa ((uH A).all H)
  replace D:=aa ((uH D).all H)
  replace N:=aa ((uH N).all H)
  replace I:=aa ((uH I).trans (H.mono (uH I).size))
  clear H Z
  have O:=(uH A).c0;have Q:=(uH A).c1;have U:=(uH A).c2;have u0:=(uH D).c0;have u1:=(uH D).c1;have u2:=(uH D).c2
  clear O Q U u0 u1 u2
  have d:=uH N
  have f0:=d.free 0;have f1:=d.free 1;have f2:=d.free 2
  have s0:=d.c0;have s1:=d.c1;have s2:=d.c2
  have K:=d.put (.int .i64 0) (.int .i64 0) (.slice none 0 0)
  have z0:=K.c0;have z1:=K.c1;have z2:=K.c2
  have BP:=aa (ai (uH I) (b:=w.heap.size+1+1) (by omega) (.int .i64 0) (.int .i64 0) (.slice none 0 0))
  clear K d
  go_wp2_with fail
  exact bodyPost_ret (v:=.tuple #[.agg #[.int .i64 0,.int .i64 0,.slice none 0 0],.int .i64 _]) (by simp[results,Tryz.results22,go_sem,z0,z1,z2]) rfl ⟨rfl,uH BP⟩
theorem uf(r c p q:Int)(F G H I:Nat)(K L:Option Addr)(w:World)(m:r<c∨(¬r<c∧¬r=p))
  (C1:∀A,Below w.heap.size w A→Calls Tryz.prog 70 #[.agg #[.int .i64 r,.int .i64 c,.slice K F G],.agg #[.int .i64 p,.int .i64 q,.slice L H I]] A fun e Y=>e=.returned (.int .i64 0)∧Below A.heap.size A Y):
  Calls Tryz.prog 22 #[.agg #[.int .i64 r,.int .i64 c,.slice K F G],.agg #[.int .i64 p,.int .i64 q,.slice L H I]] w fun e A=>e=.returned (.tuple #[.agg #[.int .i64 0,.int .i64 0,.slice none 0 0],.int .i64 3])∧Below w.heap.size w A:=by
 have KB:=aa (bp w (.int .i64 r) (.int .i64 c) (.slice K F G) (.int .i64 p) (.int .i64 q) (.slice L H I) (.int .i64 0) (.int .i64 0) (.slice none 0 0))
 obtain⟨b0,M,N,x2⟩:=uH KB _ (by have:=Below.refl (((w.alloc (.cells #[.int .i64 r,.int .i64 c,.slice K F G] 24)).alloc (.cells #[.int .i64 p,.int .i64 q,.slice L H I] 24)).alloc (.cells #[.int .i64 0,.int .i64 0,.slice none 0 0] 24)).heap.size (((w.alloc (.cells #[.int .i64 r,.int .i64 c,.slice K F G] 24)).alloc (.cells #[.int .i64 p,.int .i64 q,.slice L H I] 24)).alloc (.cells #[.int .i64 0,.int .i64 0,.slice none 0 0] 24));simpa only[ad]using this)
 have Q:=aa (C1 _ b0)
 have y:=aa b0;have h:=aa M;have l:=aa N;have D:=aa x2
 have U:=M.c0;have V:=M.c1;have X:=M.c2;have u0:=N.c0;have u1:=N.c1;have u2:=N.c2
 clear C1 KB b0 M N x2
 have z:¬r<c→¬r=p→(r != p)=true:=fun _ e=>bne_iff_ne.2 e
 rcases m with m|⟨m,O⟩
 ·clear z
  go_enter Tryz.func22,Tryz.ntmps22
  go_wp2_with fail
  clear U V X u0 u1 u2
  refine(uH Q).mono ?_
  rintro e w1 ⟨rfl,f⟩
  replace h:=aa ((uH h).all f)
  replace l:=aa ((uH l).all f)
  replace D:=aa ((uH D).all f)
  replace y:=aa ((uH y).trans (f.mono (uH y).size))
  clear f Q
  have U:=(uH h).c0;have V:=(uH h).c1;have X:=(uH h).c2;have u0:=(uH l).c0;have u1:=(uH l).c1;have u2:=(uH l).c2
  have d:=uH D
  have f0:=d.free 0;have f1:=d.free 1;have f2:=d.free 2
  have s0:=d.c0;have s1:=d.c1;have s2:=d.c2
  have t:=d.put (.int .i64 0) (.int .i64 0) (.slice none 0 0)
  have Z:=t.c0;have z1:=t.c1;have z2:=t.c2
  have BP:=aa (ai (uH y) (b:=w.heap.size+1+1) (by omega) (.int .i64 0) (.int .i64 0) (.slice none 0 0))
  clear t d
  go_wp2_with fail
  exact bodyPost_ret (v:=.tuple #[.agg #[.int .i64 0,.int .i64 0,.slice none 0 0],.int .i64 3]) (by simp[results,Tryz.results22,go_sem,Z,z1,z2]) rfl ⟨rfl,uH BP⟩
 ·replace z:=z m O
  go_enter Tryz.func22,Tryz.ntmps22
  go_wp2_with fail
  clear U V X u0 u1 u2
  refine(uH Q).mono ?_
  rintro e w1 ⟨rfl,f⟩
  replace h:=aa ((uH h).all f)
  replace l:=aa ((uH l).all f)
  replace D:=aa ((uH D).all f)
  replace y:=aa ((uH y).trans (f.mono (uH y).size))
  clear f Q
  have U:=(uH h).c0;have V:=(uH h).c1;have X:=(uH h).c2;have u0:=(uH l).c0;have u1:=(uH l).c1;have u2:=(uH l).c2
  have d:=uH D
  have f0:=d.free 0;have f1:=d.free 1;have f2:=d.free 2
  have s0:=d.c0;have s1:=d.c1;have s2:=d.c2
  have t:=d.put (.int .i64 0) (.int .i64 0) (.slice none 0 0)
  have Z:=t.c0;have z1:=t.c1;have z2:=t.c2
  have BP:=aa (ai (uH y) (b:=w.heap.size+1+1) (by omega) (.int .i64 0) (.int .i64 0) (.slice none 0 0))
  clear t d
  go_wp2_with fail
  exact bodyPost_ret (v:=.tuple #[.agg #[.int .i64 0,.int .i64 0,.slice none 0 0],.int .i64 3]) (by simp[results,Tryz.results22,go_sem,Z,z1,z2]) rfl ⟨rfl,uH BP⟩
theorem ug(r c q:Int)(A D H I:Nat)(F K:Option Addr)(w:World)(ae:¬r<c)
  (C1:∀f,Below w.heap.size w f→Calls Tryz.prog 70 #[.agg #[.int .i64 r,.int .i64 c,.slice F A D],.agg #[.int .i64 r,.int .i64 q,.slice K H I]] f fun e t=>e=.returned (.int .i64 0)∧Below f.heap.size f t)
  (C2:∀f,Below w.heap.size w f→Calls Tryz.prog 71 #[.agg #[.int .i64 r,.int .i64 c,.slice F A D]] f fun e t=>∃(N O Z b2:Int) (Q vo:Option Addr) (U V vn vd:Nat),e=.returned (.tuple #[.agg #[.int .i64 N,.int .i64 O,.slice Q U V],.agg #[.int .i64 Z,.int .i64 b2,.slice vo vn vd],.int .i64 2])∧Below f.heap.size f t):
  Calls Tryz.prog 22 #[.agg #[.int .i64 r,.int .i64 c,.slice F A D],.agg #[.int .i64 r,.int .i64 q,.slice K H I]] w fun e f=>e=.returned (.tuple #[.agg #[.int .i64 0,.int .i64 0,.slice none 0 0],.int .i64 2])∧Below w.heap.size w f:=by
 have KB:=aa (bp w (.int .i64 r) (.int .i64 c) (.slice F A D) (.int .i64 r) (.int .i64 q) (.slice K H I) (.int .i64 0) (.int .i64 0) (.slice none 0 0))
 obtain⟨b0,L,M,x2⟩:=uH KB _ (by have:=Below.refl (((w.alloc (.cells #[.int .i64 r,.int .i64 c,.slice F A D] 24)).alloc (.cells #[.int .i64 r,.int .i64 q,.slice K H I] 24)).alloc (.cells #[.int .i64 0,.int .i64 0,.slice none 0 0] 24)).heap.size (((w.alloc (.cells #[.int .i64 r,.int .i64 c,.slice F A D] 24)).alloc (.cells #[.int .i64 r,.int .i64 q,.slice K H I] 24)).alloc (.cells #[.int .i64 0,.int .i64 0,.slice none 0 0] 24));simpa only[ad]using this)
 have K1:=aa (C1 _ b0)
 have d:=aa b0;have G:=aa L;have l:=aa M;have y:=aa x2
 have K2:=aa C2
 have y0:=L.c0;have y1:=L.c1;have y2:=L.c2;have u0:=M.c0;have u1:=M.c1;have u2:=M.c2
 clear C2 C1 KB b0 L M x2
 go_enter Tryz.func22,Tryz.ntmps22
 go_wp2_with fail
 clear y0 y1 y2 u0 u1 u2
 refine(uH K1).mono ?_
 rintro e w1 ⟨rfl,h⟩
 replace G:=aa ((uH G).all h)
 replace l:=aa ((uH l).all h)
 replace y:=aa ((uH y).all h)
 replace d:=aa ((uH d).trans (h.mono (uH d).size))
 clear h K1
 have y0:=(uH G).c0;have y1:=(uH G).c1;have y2:=(uH G).c2;have u0:=(uH l).c0;have u1:=(uH l).c1;have u2:=(uH l).c2
 go_wp2_with fail
 clear y0 y1 y2 u0 u1 u2
 refine(uH K2 _ (uH d)).mono ?_
 rintro e w2 ⟨N,O,Z,b2,Q,vo,U,V,vn,vd,rfl,h⟩
 replace l:=aa ((uH l).all h)
 replace y:=aa ((uH y).all h)
 replace d:=aa ((uH d).trans (h.mono (uH d).size))
 clear h K2
 have X:=ab w2 (.cells #[.int .i64 N,.int .i64 O,.slice Q U V] 24)
 have z:=ab (w2.alloc (.cells #[.int .i64 N,.int .i64 O,.slice Q U V] 24)) (.cells #[.int .i64 Z,.int .i64 b2,.slice vo vn vd] 24)
 replace y:=aa (((uH y).all X).all z)
 replace d:=aa (((uH d).trans (X.mono (uH d).size)).trans (z.mono ((uH d).trans (X.mono (uH d).size)).size))
 clear X z G l
 have m:=uH y
 have f0:=m.free 0;have f1:=m.free 1;have f2:=m.free 2
 have s0:=m.c0;have s1:=m.c1;have s2:=m.c2
 have Y:=m.put (.int .i64 0) (.int .i64 0) (.slice none 0 0)
 have z0:=Y.c0;have z1:=Y.c1;have z2:=Y.c2
 have BP:=aa (ai (uH d) (b:=w.heap.size+1+1) (by omega) (.int .i64 0) (.int .i64 0) (.slice none 0 0))
 clear Y m
 go_wp2_with fail
 exact bodyPost_ret (v:=.tuple #[.agg #[.int .i64 0,.int .i64 0,.slice none 0 0],.int .i64 2]) (by simp[results,Tryz.results22,go_sem,z0,z1,z2]) rfl ⟨rfl,uH BP⟩
theorem wu(r c q:Int)(K L Q U M vn:Nat)(S V:List Nat)(N X:Option Addr)(w:World)(ae:¬r<c)
  (C1:∀f,Below w.heap.size w f→Calls Tryz.prog 70 #[.agg #[.int .i64 r,.int .i64 c,.slice N K L],.agg #[.int .i64 r,.int .i64 q,.slice X Q U]] f fun e l=>e=.returned (.int .i64 0)∧Below f.heap.size f l)
  (C2:∀f,Below w.heap.size w f→Calls Tryz.prog 71 #[.agg #[.int .i64 r,.int .i64 c,.slice N K L]] f fun e l=>∃F G z A,e=.returned (.tuple #[.agg #[.int .i64 r,.int .i64 c,.slice F M G],.agg #[.int .i64 c,.int .i64 c,.slice z vn A],.int .i64 0])∧ac l F G (ar S)∧ac l z A (ar V)∧Below f.heap.size f l)
  (C3:∀f z A,Below w.heap.size w f→ac f z A (ar V)→Calls Tryz.prog 18 #[.agg #[.int .i64 c,.int .i64 c,.slice z vn A]] f fun e l=>e=.returned (.tuple #[.bool true,.int .i64 0])∧Below f.heap.size f l):
  Calls Tryz.prog 22 #[.agg #[.int .i64 r,.int .i64 c,.slice N K L],.agg #[.int .i64 r,.int .i64 q,.slice X Q U]] w fun e f=>e=.returned (.tuple #[.agg #[.int .i64 0,.int .i64 0,.slice none 0 0],.int .i64 5])∧Below w.heap.size w f:=by
 have KB:=aa (bp w (.int .i64 r) (.int .i64 c) (.slice N K L) (.int .i64 r) (.int .i64 q) (.slice X Q U) (.int .i64 0) (.int .i64 0) (.slice none 0 0))
 obtain⟨b0,Z,x1,x2⟩:=uH KB _ (by have:=Below.refl (((w.alloc (.cells #[.int .i64 r,.int .i64 c,.slice N K L] 24)).alloc (.cells #[.int .i64 r,.int .i64 q,.slice X Q U] 24)).alloc (.cells #[.int .i64 0,.int .i64 0,.slice none 0 0] 24)).heap.size (((w.alloc (.cells #[.int .i64 r,.int .i64 c,.slice N K L] 24)).alloc (.cells #[.int .i64 r,.int .i64 q,.slice X Q U] 24)).alloc (.cells #[.int .i64 0,.int .i64 0,.slice none 0 0] 24));simpa only[ad]using this)
 have K1:=aa (C1 _ b0)
 have h:=aa b0;have O:=aa Z;have t:=aa x1;have D:=aa x2
 have K2:=aa C2;have K3:=aa C3
 have y0:=Z.c0;have y1:=Z.c1;have y2:=Z.c2;have u0:=x1.c0;have u1:=x1.c1;have u2:=x1.c2
 clear C3 C2 C1 KB b0 Z x1 x2
 go_enter Tryz.func22,Tryz.ntmps22
 go_wp2_with fail
 clear y0 y1 y2 u0 u1 u2
 refine(uH K1).mono ?_
 rintro e w1 ⟨rfl,d⟩
 replace O:=aa ((uH O).all d)
 replace t:=aa ((uH t).all d)
 replace D:=aa ((uH D).all d)
 replace h:=aa ((uH h).trans (d.mono (uH h).size))
 clear d K1
 have y0:=(uH O).c0;have y1:=(uH O).c1;have y2:=(uH O).c2;have u0:=(uH t).c0;have u1:=(uH t).c1;have u2:=(uH t).c2
 go_wp2_with fail
 clear y0 y1 y2 u0 u1 u2
 refine(uH K2 _ (uH h)).mono ?_
 rintro e w2 ⟨F,G,z,A,rfl,hs,hv,d⟩
 replace t:=aa ((uH t).all d)
 replace D:=aa ((uH D).all d)
 replace h:=aa ((uH h).trans (d.mono (uH h).size))
 have I:=ab w2 (.cells #[.int .i64 r,.int .i64 c,.slice F M G] 24)
 have sa:=ad w2 (.cells #[.int .i64 r,.int .i64 c,.slice F M G] 24)
 have xs:=aq.new w2 (.int .i64 r) (.int .i64 c) (.slice F M G)
 have m:=ab (w2.alloc (.cells #[.int .i64 r,.int .i64 c,.slice F M G] 24)) (.cells #[.int .i64 c,.int .i64 c,.slice z vn A] 24)
 have xv:=aq.new (w2.alloc (.cells #[.int .i64 r,.int .i64 c,.slice F M G] 24)) (.int .i64 c) (.int .i64 c) (.slice z vn A)
 rw[sa]at xv
 have HS:=aa ((hs.below I).below m)
 have HV:=aa ((hv.below I).below m)
 have Y:=aa (xs.all m)
 have y:=aa xv
 replace t:=aa (((uH t).all I).all m)
 replace D:=aa (((uH D).all I).all m)
 replace h:=aa (((uH h).trans (I.mono (uH h).size)).trans (m.mono ((uH h).trans (I.mono (uH h).size)).size))
 clear d K2 I m sa xs xv hs hv O
 have v0:=(uH y).c0;have v1:=(uH y).c1;have v2:=(uH y).c2
 go_wp2_with fail
 clear v0 v1 v2
 refine(uH K3 _ z A (uH h) (uH HV)).mono ?_
 rintro e w3 ⟨rfl,d⟩
 replace t:=aa ((uH t).all d)
 replace D:=aa ((uH D).all d)
 replace Y:=aa ((uH Y).all d)
 replace y:=aa ((uH y).all d)
 replace HS:=aa ((uH HS).below d)
 replace HV:=aa ((uH HV).below d)
 replace h:=aa ((uH h).trans (d.mono (uH h).size))
 clear d K3
 have H:=uH D
 have f0:=H.free 0;have f1:=H.free 1;have f2:=H.free 2
 have s0:=H.c0;have s1:=H.c1;have s2:=H.c2
 have XP:=H.put (.int .i64 0) (.int .i64 0) (.slice none 0 0)
 have z0:=XP.c0;have z1:=XP.c1;have z2:=XP.c2
 have BP:=aa (ai (uH h) (b:=w.heap.size+1+1) (by omega) (.int .i64 0) (.int .i64 0) (.slice none 0 0))
 clear XP H
 go_wp2_with fail
 exact bodyPost_ret (v:=.tuple #[.agg #[.int .i64 0,.int .i64 0,.slice none 0 0],.int .i64 5]) (by simp[results,Tryz.results22,go_sem,z0,z1,z2]) rfl ⟨rfl,uH BP⟩
theorem DG(r c q f:Int)(tn tc bn bc sn vn yn m u:Nat)(S V Y M:List Nat)(tq bo:Option Addr)(w:World)(ak:¬r<c)
  (C1:∀d,Below w.heap.size w d→Calls Tryz.prog 70 #[.agg #[.int .i64 r,.int .i64 c,.slice tq tn tc],.agg #[.int .i64 r,.int .i64 q,.slice bo bn bc]] d fun e t=>e=.returned (.int .i64 0)∧Below d.heap.size d t)
  (C2:∀d,Below w.heap.size w d→Calls Tryz.prog 71 #[.agg #[.int .i64 r,.int .i64 c,.slice tq tn tc]] d fun e t=>∃N O H I,e=.returned (.tuple #[.agg #[.int .i64 r,.int .i64 c,.slice N sn O],.agg #[.int .i64 c,.int .i64 c,.slice H vn I],.int .i64 0])∧ac t N O (ar S)∧ac t H I (ar V)∧Below d.heap.size d t)
  (C3:∀d H I,Below w.heap.size w d→ac d H I (ar V)→Calls Tryz.prog 18 #[.agg #[.int .i64 c,.int .i64 c,.slice H vn I]] d fun e t=>e=.returned (.tuple #[.bool false,.int .i64 0])∧Below d.heap.size d t)
  (C4:∀d N O,Below w.heap.size w d→ac d N O (ar S)→Calls Tryz.prog 72 #[.agg #[.int .i64 r,.int .i64 c,.slice N sn O],.agg #[.int .i64 r,.int .i64 q,.slice bo bn bc]] d fun e t=>∃Q U,e=.returned (.tuple #[.agg #[.int .i64 c,.int .i64 q,.slice Q yn U],.int .i64 0])∧ac t Q U (ar Y)∧Below d.heap.size d t)
  (C5:∀d H I Q U,Below w.heap.size w d→ac d H I (ar V)→ac d Q U (ar Y)→Calls Tryz.prog 12 #[.agg #[.int .i64 c,.int .i64 c,.slice H vn I],.agg #[.int .i64 c,.int .i64 q,.slice Q yn U]] d fun e t=>gR d t f m u M e∧Below d.heap.size d t):
  Calls Tryz.prog 22 #[.agg #[.int .i64 r,.int .i64 c,.slice tq tn tc],.agg #[.int .i64 r,.int .i64 q,.slice bo bn bc]] w fun e d=>gR w d f m u M e∧Below w.heap.size w d:=by
 have KB:=aa (bp w (.int .i64 r) (.int .i64 c) (.slice tq tn tc) (.int .i64 r) (.int .i64 q) (.slice bo bn bc) (.int .i64 0) (.int .i64 0) (.slice none 0 0))
 obtain⟨b0,x0,x1,x2⟩:=uH KB _ (by have:=Below.refl (((w.alloc (.cells #[.int .i64 r,.int .i64 c,.slice tq tn tc] 24)).alloc (.cells #[.int .i64 r,.int .i64 q,.slice bo bn bc] 24)).alloc (.cells #[.int .i64 0,.int .i64 0,.slice none 0 0] 24)).heap.size (((w.alloc (.cells #[.int .i64 r,.int .i64 c,.slice tq tn tc] 24)).alloc (.cells #[.int .i64 r,.int .i64 q,.slice bo bn bc] 24)).alloc (.cells #[.int .i64 0,.int .i64 0,.slice none 0 0] 24));simpa only[ad]using this)
 have K1:=aa (C1 _ b0)
 have l:=aa b0;have HT:=aa x0;have A:=aa x1;have F:=aa x2
 have K2:=aa C2;have K3:=aa C3;have K4:=aa C4;have K5:=aa C5
 have y0:=x0.c0;have y1:=x0.c1;have y2:=x0.c2;have u0:=x1.c0;have u1:=x1.c1;have u2:=x1.c2
 clear C5 C4 C3 C2 C1 KB b0 x0 x1 x2
 go_enter Tryz.func22,Tryz.ntmps22
 go_wp2_with fail
 clear y0 y1 y2 u0 u1 u2
 refine(uH K1).mono ?_
 rintro e w1 ⟨rfl,h⟩
 replace HT:=aa ((uH HT).all h)
 replace A:=aa ((uH A).all h)
 replace F:=aa ((uH F).all h)
 replace l:=aa ((uH l).trans (h.mono (uH l).size))
 clear h K1
 have y0:=(uH HT).c0;have y1:=(uH HT).c1;have y2:=(uH HT).c2;have u0:=(uH A).c0;have u1:=(uH A).c1;have u2:=(uH A).c2
 go_wp2_with fail
 clear y0 y1 y2 u0 u1 u2
 refine(uH K2 _ (uH l)).mono ?_
 rintro e w2 ⟨N,O,H,I,rfl,hs,hv,h⟩
 replace A:=aa ((uH A).all h)
 replace F:=aa ((uH F).all h)
 replace l:=aa ((uH l).trans (h.mono (uH l).size))
 have G:=ab w2 (.cells #[.int .i64 r,.int .i64 c,.slice N sn O] 24)
 have sa:=ad w2 (.cells #[.int .i64 r,.int .i64 c,.slice N sn O] 24)
 have xs:=aq.new w2 (.int .i64 r) (.int .i64 c) (.slice N sn O)
 have D:=ab (w2.alloc (.cells #[.int .i64 r,.int .i64 c,.slice N sn O] 24)) (.cells #[.int .i64 c,.int .i64 c,.slice H vn I] 24)
 have xv:=aq.new (w2.alloc (.cells #[.int .i64 r,.int .i64 c,.slice N sn O] 24)) (.int .i64 c) (.int .i64 c) (.slice H vn I)
 rw[sa]at xv
 have HS:=aa ((hs.below G).below D)
 have HV:=aa ((hv.below G).below D)
 have K:=aa (xs.all D)
 have y:=aa xv
 replace A:=aa (((uH A).all G).all D)
 replace F:=aa (((uH F).all G).all D)
 replace l:=aa (((uH l).trans (G.mono (uH l).size)).trans (D.mono ((uH l).trans (G.mono (uH l).size)).size))
 clear h K2 G D sa xs xv hs hv HT
 have v0:=(uH y).c0;have v1:=(uH y).c1;have v2:=(uH y).c2
 go_wp2_with fail
 clear v0 v1 v2
 refine(uH K3 _ H I (uH l) (uH HV)).mono ?_
 rintro e w3 ⟨rfl,h⟩
 replace A:=aa ((uH A).all h)
 replace F:=aa ((uH F).all h)
 replace K:=aa ((uH K).all h)
 replace y:=aa ((uH y).all h)
 replace HS:=aa ((uH HS).below h)
 replace HV:=aa ((uH HV).below h)
 replace l:=aa ((uH l).trans (h.mono (uH l).size))
 clear h K3
 have v0:=(uH K).c0;have v1:=(uH K).c1;have v2:=(uH K).c2;have u0:=(uH A).c0;have u1:=(uH A).c1;have u2:=(uH A).c2
 go_wp2_with fail
 clear v0 v1 v2 u0 u1 u2
 refine(uH K4 _ N O (uH l) (uH HS)).mono ?_
 rintro e w4 ⟨Q,U,rfl,hy,h⟩
 have G:=ab w4 (.cells #[.int .i64 c,.int .i64 q,.slice Q yn U] 24)
 have HY:=aa (hy.below G)
 have X:=aa (aq.new w4 (.int .i64 c) (.int .i64 q) (.slice Q yn U))
 replace F:=aa (((uH F).all h).all G)
 replace y:=aa (((uH y).all h).all G)
 replace HV:=aa (((uH HV).below h).below G)
 replace l:=aa (((uH l).trans (h.mono (uH l).size)).trans (G.mono ((uH l).trans (h.mono (uH l).size)).size))
 clear h G hy K4 A K HS
 have v0:=(uH y).c0;have v1:=(uH y).c1;have v2:=(uH y).c2;have u0:=(uH X).c0;have u1:=(uH X).c1;have u2:=(uH X).c2
 go_wp2_with fail
 clear v0 v1 v2 u0 u1 u2
 refine(uH K5 _ H I Q U (uH l) (uH HV) (uH HY)).mono ?_
 rintro e w5 ⟨ae,h⟩
 replace F:=aa ((uH F).all h)
 have aj:=aa (uH l).size
 replace l:=aa ((uH l).trans (h.mono (uH l).size))
 clear h K5 y X HV HY
 rcases ae with⟨rfl,xo,xc,rfl,hn,hq,hl,hf⟩|⟨hf,rfl⟩
 ·have HN:=aa (hn.least (uH aj))
  have HQ:=aa hq
  have HL:=aa hl;have HF:=aa hf
  obtain⟨L,hL⟩:∃L,m*u=L:=⟨_,rfl⟩
  rw[hL]
  have EL:=aa hL
  have z:=uH F
  have f0:=z.free 0;have f1:=z.free 1;have f2:=z.free 2
  have s0:=z.c0;have s1:=z.c1;have s2:=z.c2
  have Z:=z.put (.int .i64 m) (.int .i64 u) (.slice xo L xc)
  have z0:=Z.c0;have z1:=Z.c1;have z2:=Z.c2
  have BP:=aa (ai (uH l) (b:=w.heap.size+1+1) (by omega) (.int .i64 m) (.int .i64 u) (.slice xo L xc))
  have QP:=aa ((uH HQ).putM z (.int .i64 m) (.int .i64 u) (.slice xo L xc))
  clear Z z hn hq hl hf hL
  go_wp2_with fail
  exact bodyPost_ret (v:=.tuple #[.agg #[.int .i64 m,.int .i64 u,.slice xo L xc],.int .i64 0]) (by simp[results,Tryz.results22,go_sem,z0,z1,z2]) rfl ⟨.inl ⟨rfl,xo,xc,by rw[uH EL],uH HN,uH QP,uH HL,uH HF⟩,uH BP⟩
 ·have z:=uH F
  have f0:=z.free 0;have f1:=z.free 1;have f2:=z.free 2
  have s0:=z.c0;have s1:=z.c1;have s2:=z.c2
  have Z:=z.put (.int .i64 0) (.int .i64 0) (.slice none 0 0)
  have z0:=Z.c0;have z1:=Z.c1;have z2:=Z.c2
  have BP:=aa (ai (uH l) (b:=w.heap.size+1+1) (by omega) (.int .i64 0) (.int .i64 0) (.slice none 0 0))
  have HF:=aa hf
  clear Z z hf
  go_wp2_with fail
  exact bodyPost_ret (v:=.tuple #[.agg #[.int .i64 0,.int .i64 0,.slice none 0 0],.int .i64 f]) (by simp[results,Tryz.results22,go_sem,z0,z1,z2]) rfl ⟨.inr ⟨uH HF,rfl⟩,uH BP⟩
theorem zK(r c p q er:Int)(ao z:Option Addr)(k cap m d:Nat)(w:World)(A:er=1∨er=4)
  (K:∀y,Below w.heap.size w y→Calls Tryz.prog 19 #[.agg #[.int .i64 r,.int .i64 c,.slice ao k cap]] y fun e D=>e=.returned (.int .i64 er)∧Below y.heap.size y D):
  Calls Tryz.prog 48 #[.agg #[.int .i64 r,.int .i64 c,.slice ao k cap],.agg #[.int .i64 p,.int .i64 q,.slice z m d]] w fun e y=>e=.returned (.int .i64 er)∧Below w.heap.size w y:=by
 have L:=aa (dE w (.int .i64 r) (.int .i64 c) (.slice ao k cap) (.int .i64 p) (.int .i64 q) (.slice z m d))
 obtain⟨M,N,O⟩:=uH L ((w.alloc (.cells #[.int .i64 r,.int .i64 c,.slice ao k cap] 24)).alloc (.cells #[.int .i64 p,.int .i64 q,.slice z m d] 24)) (by have:=Below.refl ((w.alloc (.cells #[.int .i64 r,.int .i64 c,.slice ao k cap] 24)).alloc (.cells #[.int .i64 p,.int .i64 q,.slice z m d] 24)).heap.size ((w.alloc (.cells #[.int .i64 r,.int .i64 c,.slice ao k cap] 24)).alloc (.cells #[.int .i64 p,.int .i64 q,.slice z m d] 24));simpa only[ad]using this)
 have l:=aa M;have f:=aa N;have h:=aa O
 have F:=aa K
 clear K L M N O
 rcases A with rfl|rfl
 all_goals
  go_enter Tryz.func48,Tryz.ntmps48
  have G:=(uH f).c0;have H:=(uH f).c1;have I:=(uH f).c2;have u0:=(uH h).c0;have u1:=(uH h).c1;have u2:=(uH h).c2
  go_wp2_with fail
  clear G H I u0 u1 u2
  refine(uH F _ (uH l)).mono ?_
  rintro e Q ⟨rfl,t⟩
  replace f:=aa ((uH f).all t);replace h:=aa ((uH h).all t)
  replace l:=aa ((uH l).trans (t.mono (uH l).size))
  clear t
  have G:=(uH f).c0;have H:=(uH f).c1;have I:=(uH f).c2;have u0:=(uH h).c0;have u1:=(uH h).c1;have u2:=(uH h).c2
  go_wp2_with fail
  clear G H I u0 u1 u2
  refine(uH F _ (uH l)).mono ?_
  rintro e Q ⟨rfl,t⟩
  replace f:=aa ((uH f).all t);replace h:=aa ((uH h).all t)
  replace l:=aa ((uH l).trans (t.mono (uH l).size))
  clear t
  clear F f h
  go_wp2
  go_ret
  exact⟨rfl,uH l⟩
theorem zL(r c p q er:Int)(ao A:Option Addr)(k cap m d:Nat)(w:World)(H:er=1∨er=4)
  (K:∀y,Below w.heap.size w y→Calls Tryz.prog 19 #[.agg #[.int .i64 r,.int .i64 c,.slice ao k cap]] y fun e z=>e=.returned (.int .i64 0)∧Below y.heap.size y z)
  (L:∀y,Below w.heap.size w y→Calls Tryz.prog 19 #[.agg #[.int .i64 p,.int .i64 q,.slice A m d]] y fun e z=>e=.returned (.int .i64 er)∧Below y.heap.size y z):
  Calls Tryz.prog 48 #[.agg #[.int .i64 r,.int .i64 c,.slice ao k cap],.agg #[.int .i64 p,.int .i64 q,.slice A m d]] w fun e y=>e=.returned (.int .i64 er)∧Below w.heap.size w y:=by
 have M:=aa (dE w (.int .i64 r) (.int .i64 c) (.slice ao k cap) (.int .i64 p) (.int .i64 q) (.slice A m d))
 obtain⟨O,Q,U⟩:=uH M ((w.alloc (.cells #[.int .i64 r,.int .i64 c,.slice ao k cap] 24)).alloc (.cells #[.int .i64 p,.int .i64 q,.slice A m d] 24)) (by have:=Below.refl ((w.alloc (.cells #[.int .i64 r,.int .i64 c,.slice ao k cap] 24)).alloc (.cells #[.int .i64 p,.int .i64 q,.slice A m d] 24)).heap.size ((w.alloc (.cells #[.int .i64 r,.int .i64 c,.slice ao k cap] 24)).alloc (.cells #[.int .i64 p,.int .i64 q,.slice A m d] 24));simpa only[ad]using this)
 have t:=aa O;have f:=aa Q;have h:=aa U
 have N:=aa K
 have I:=aa L
 clear K L M O Q U
 rcases H with rfl|rfl
 all_goals
  go_enter Tryz.func48,Tryz.ntmps48
  have D:=(uH f).c0;have F:=(uH f).c1;have G:=(uH f).c2;have u0:=(uH h).c0;have u1:=(uH h).c1;have u2:=(uH h).c2
  go_wp2_with fail
  clear D F G u0 u1 u2
  refine(uH N _ (uH t)).mono ?_
  rintro e V ⟨rfl,l⟩
  replace f:=aa ((uH f).all l);replace h:=aa ((uH h).all l)
  replace t:=aa ((uH t).trans (l.mono (uH t).size))
  clear l
  have D:=(uH f).c0;have F:=(uH f).c1;have G:=(uH f).c2;have u0:=(uH h).c0;have u1:=(uH h).c1;have u2:=(uH h).c2
  go_wp2_with fail
  clear D F G u0 u1 u2
  refine(uH I _ (uH t)).mono ?_
  rintro e V ⟨rfl,l⟩
  replace f:=aa ((uH f).all l);replace h:=aa ((uH h).all l)
  replace t:=aa ((uH t).trans (l.mono (uH t).size))
  clear l
  have D:=(uH f).c0;have F:=(uH f).c1;have G:=(uH f).c2;have u0:=(uH h).c0;have u1:=(uH h).c1;have u2:=(uH h).c2
  go_wp2_with fail
  clear D F G u0 u1 u2
  refine(uH I _ (uH t)).mono ?_
  rintro e V ⟨rfl,l⟩
  replace f:=aa ((uH f).all l);replace h:=aa ((uH h).all l)
  replace t:=aa ((uH t).trans (l.mono (uH t).size))
  clear l
  clear N I f h
  go_wp2
  go_ret
  exact⟨rfl,uH t⟩
theorem uh(r c p q:Int)(ao D:Option Addr)(k cap m d:Nat)(w:World)(z:¬r=c∨(r=c∧¬r=p))
  (I:∀l,Below w.heap.size w l→Calls Tryz.prog 19 #[.agg #[.int .i64 r,.int .i64 c,.slice ao k cap]] l fun e A=>e=.returned (.int .i64 0)∧Below l.heap.size l A)
  (K:∀l,Below w.heap.size w l→Calls Tryz.prog 19 #[.agg #[.int .i64 p,.int .i64 q,.slice D m d]] l fun e A=>e=.returned (.int .i64 0)∧Below l.heap.size l A):
  Calls Tryz.prog 48 #[.agg #[.int .i64 r,.int .i64 c,.slice ao k cap],.agg #[.int .i64 p,.int .i64 q,.slice D m d]] w fun e l=>e=.returned (.int .i64 3)∧Below w.heap.size w l:=by
 have L:=aa (dE w (.int .i64 r) (.int .i64 c) (.slice ao k cap) (.int .i64 p) (.int .i64 q) (.slice D m d))
 obtain⟨O,Q,U⟩:=uH L ((w.alloc (.cells #[.int .i64 r,.int .i64 c,.slice ao k cap] 24)).alloc (.cells #[.int .i64 p,.int .i64 q,.slice D m d] 24)) (by have:=Below.refl ((w.alloc (.cells #[.int .i64 r,.int .i64 c,.slice ao k cap] 24)).alloc (.cells #[.int .i64 p,.int .i64 q,.slice D m d] 24)).heap.size ((w.alloc (.cells #[.int .i64 r,.int .i64 c,.slice ao k cap] 24)).alloc (.cells #[.int .i64 p,.int .i64 q,.slice D m d] 24));simpa only[ad]using this)
 have t:=aa O;have f:=aa Q;have h:=aa U
 have M:=aa I
 have N:=aa K
 clear I K L O Q U
 rcases z with z|⟨rfl,z⟩
 all_goals
  go_enter Tryz.func48,Tryz.ntmps48
  have F:=(uH f).c0;have G:=(uH f).c1;have H:=(uH f).c2;have u0:=(uH h).c0;have u1:=(uH h).c1;have u2:=(uH h).c2
  go_wp2_with fail
  clear F G H u0 u1 u2
  refine(uH M _ (uH t)).mono ?_
  rintro e V ⟨rfl,y⟩
  replace f:=aa ((uH f).all y);replace h:=aa ((uH h).all y)
  replace t:=aa ((uH t).trans (y.mono (uH t).size))
  clear y
  have F:=(uH f).c0;have G:=(uH f).c1;have H:=(uH f).c2;have u0:=(uH h).c0;have u1:=(uH h).c1;have u2:=(uH h).c2
  go_wp2_with fail
  clear F G H u0 u1 u2
  refine(uH N _ (uH t)).mono ?_
  rintro e V ⟨rfl,y⟩
  replace f:=aa ((uH f).all y);replace h:=aa ((uH h).all y)
  replace t:=aa ((uH t).trans (y.mono (uH t).size))
  clear y
  have F:=(uH f).c0;have G:=(uH f).c1;have H:=(uH f).c2;have u0:=(uH h).c0;have u1:=(uH h).c1;have u2:=(uH h).c2
  clear M N f h
  go_wp2
  go_ret
  exact⟨rfl,uH t⟩
theorem IJ{n:Nat}{T:List Nat}(i:Nat)(d:i<n)(h:fK (bB n T i i)=0):zB (gc n n T)=true:=by
 unfold zB gc
 rw[List.any_eq_true]
 exact⟨_,List.mem_map.2 ⟨i,List.mem_range.2 (by omega),rfl⟩,decide_eq_true h⟩
theorem Ju{n:Nat}{T:List Nat}(h:∀i,i<n→fK (bB n T i i)≠0):zB (gc n n T)=false:=by
 unfold zB gc
 rw[List.any_eq_false]
 intro x f
 obtain⟨i,d,rfl⟩:=List.mem_map.1 f
 have:=List.mem_range.1 d
 simpa using h i (by omega)
theorem DH(n q y N D O:Nat)(A Q:Option Addr)(T:List Nat)(w:World)(hT:Mx w A y n n T)(U:T.length=D)
  (C1:∀d,Below w.heap.size w d→Calls Tryz.prog 19 #[.agg #[.int .i64 n,.int .i64 n,.slice A D y]] d fun e G=>e=.returned (.int .i64 0)∧Below d.heap.size d G)
  (C2:∀d,Below w.heap.size w d→Calls Tryz.prog 19 #[.agg #[.int .i64 n,.int .i64 q,.slice Q O N]] d fun e G=>e=.returned (.int .i64 0)∧Below d.heap.size d G):
  Calls Tryz.prog 48 #[.agg #[.int .i64 n,.int .i64 n,.slice A D y],.agg #[.int .i64 n,.int .i64 q,.slice Q O N]] w fun e d=>e=.returned (.int .i64 (if zB (gc n n T)=true then 5 else 0))∧Below w.heap.size w d:=by
 have KB:=aa (dE w (.int .i64 n) (.int .i64 n) (.slice A D y) (.int .i64 n) (.int .i64 q) (.slice Q O N))
 obtain⟨b0,x0,x1⟩:=uH KB ((w.alloc (.cells #[.int .i64 n,.int .i64 n,.slice A D y] 24)).alloc (.cells #[.int .i64 n,.int .i64 q,.slice Q O N] 24)) (by have:=Below.refl ((w.alloc (.cells #[.int .i64 n,.int .i64 n,.slice A D y] 24)).alloc (.cells #[.int .i64 n,.int .i64 q,.slice Q O N] 24)).heap.size ((w.alloc (.cells #[.int .i64 n,.int .i64 n,.slice A D y] 24)).alloc (.cells #[.int .i64 n,.int .i64 q,.slice Q O N] 24));simpa only[ad]using this)
 have t:=aa b0;have l:=aa x0;have m:=aa x1
 have K1:=aa C1
 have K2:=aa C2
 have KA:=aa (fun d i (f:Below w.heap.size w d) (V:i<n)=>fW n n y i i A T d (hT.below f) V V)
 rw[U]at KA
 have KK:=aa (fun d i=>eP (bB n T i i) d (hT.el_lt i i))
 have ZY:=aa (fun i V (h:fK (bB n T i i)=0)=>(show(if zB (gc n n T)=true then(5:Int)else 0)=5 from if_pos (IJ (n:=n) (T:=T) i V h)))
 have ZN:=aa (fun(h:∀i,i<n→fK (bB n T i i)≠0)=>(show(if zB (gc n n T)=true then(5:Int)else 0)=0 from if_neg (by rw[Ju (n:=n) (T:=T) h];decide)))
 have n6:=hT.2.2.1
 generalize (if zB (gc n n T)=true then(5:Int)else 0)=z at*
 clear C1 C2 KB b0 x0 x1 hT U
 go_enter Tryz.func48,Tryz.ntmps48
 have F:=(uH l).c0;have H:=(uH l).c1;have I:=(uH l).c2;have u0:=(uH m).c0;have u1:=(uH m).c1;have u2:=(uH m).c2
 go_wp2_with fail
 clear F H I u0 u1 u2
 refine(uH K1 _ (uH t)).mono ?_
 rintro e wn ⟨rfl,f⟩
 replace l:=aa ((uH l).all f);replace m:=aa ((uH m).all f)
 replace t:=aa ((uH t).trans (f.mono (uH t).size))
 clear f
 have F:=(uH l).c0;have H:=(uH l).c1;have I:=(uH l).c2;have u0:=(uH m).c0;have u1:=(uH m).c1;have u2:=(uH m).c2
 go_wp2_with fail
 clear F H I u0 u1 u2
 refine(uH K2 _ (uH t)).mono ?_
 rintro e wn ⟨rfl,f⟩
 replace l:=aa ((uH l).all f);replace m:=aa ((uH m).all f)
 replace t:=aa ((uH t).trans (f.mono (uH t).size))
 clear f
 have F:=(uH l).c0;have H:=(uH l).c1;have I:=(uH l).c2;have u0:=(uH m).c0;have u1:=(uH m).c1;have u2:=(uH m).c2
 clear K1 K2
 go_wp2_with fail
 clear F H I u0 u1 u2
 go_loopw[5] (fun a wr=>∃i:Nat,i≤n∧a=.int .i64 i∧Hid (∀j,j<i→fK (bB n T j j)≠0)∧Hid (aq wr w.heap.size (.int .i64 n) (.int .i64 n) (.slice A D y))∧Hid (Below w.heap.size w wr)) (fun a _=>n-(intOf a).toNat)
 case atStart=>exact⟨0,Nat.zero_le _,rfl,fun j hj=>absurd hj (Nat.not_lt_zero j),l,t⟩
 case round=>
  clear l m t
  obtain⟨i,V,rfl,hF,L,M⟩:=hrel
  by_cases X:i<n
  ·have ae:(i:Int)<(n:Int):=by omega
   have Y:=aa (fun d f=>uH KA d i f X)
   have Z:=aa (fun d=>uH KK d i)
   have K:=aa (uH ZY i X)
   have GF:=aa (fun(e:fK (bB n T i i)≠0)=>(show∀j,j<i+1→fK (bB n T j j)≠0 from fun j hj=>by
    rcases Nat.lt_or_ge j i with g|g
    ·exact uH hF j g
    ·rw[show j=i by omega];exact e))
   generalize bB n T i i=x at*
   generalize ak:fK x=k at*
   have am:IntKind.i64.wrap ((i:Int)+1)=(i:Int)+1:=aP _ (by omega)
   clear ak
   have F:=(uH L).c0;have H:=(uH L).c1;have I:=(uH L).c2
   go_wp2_with fail
   clear F H I
   refine(uH Y _ (uH M)).mono ?_
   rintro e w3 ⟨rfl,f⟩
   replace L:=aa ((uH L).all f)
   replace M:=aa ((uH M).trans (f.mono (uH M).size))
   clear f Y
   go_wp2_with fail
   refine(uH Z _).mono ?_
   rintro e w4 ⟨rfl,rfl⟩
   clear Z
   by_cases hk:k=0
   ·have hz:=aa (uH K hk)
    subst hk
    clear GF K hF
    go_wp2_with fail
    exact bodyPost_ret (v:=.int .i64 5) (by simp[results,Tryz.results48,go_sem]) rfl ⟨by rw[uH hz],uH M⟩
   ·have aj:=aa (uH GF hk)
    have ax:((k:Int)==0)=false:=by rw[beq_eq_false_iff_ne];omega
    have aI:¬((k:Int)=0):=by omega
    clear GF K hF
    go_wp2_with fail
    go_round
    case rel=>exact⟨i+1,by omega,by go_num,aj,L,M⟩
    case measure=>first|(simp[intOf];done)|(simp[intOf];omega)
  ·have a0:i=n:=by omega
   have hz:=aa (uH ZN (fun j hj=>uH hF j (by omega)))
   have ae:¬((i:Int)<(n:Int)):=by omega
   have F:=(uH L).c0
   go_wp2_with fail
   exact bodyPost_ret (v:=.int .i64 0) (by simp[results,Tryz.results48,go_sem]) rfl ⟨by rw[uH hz],uH M⟩
def DI(f:Int)(n q L:Nat)(xo:Option Addr)(xc:Nat)(e:Ending):Prop:=
 (f=0∧e=.returned (.tuple #[.agg #[.int .i64 n,.int .i64 q,.slice xo L xc],.int .i64 0]))∨(f≠0∧e=.returned (.tuple #[.agg #[.int .i64 0,.int .i64 0,.slice none 0 0],.int .i64 f]))
theorem wv(n q L d:Nat)(h9:Option Addr)(M:List Nat)(w:World)(O:ac w h9 d (ar M))(H:M.length=L)(ae:L≤36):
  Calls Tryz.prog 53 #[.agg #[.int .i64 n,.int .i64 q,.slice h9 L d]] w fun e F=>DI (if bG M=true then 0 else 2) n q L h9 d e∧Below w.heap.size w F:=by
 have K:=aa (fun F (y:Below w.heap.size w F)=>iQ h9 d (ar M) F (O.below y) (by rw[al];omega))
 rw[al,H]at K
 have z:fu (ar M) L=bG M:=by unfold bG;rw[H]
 rw[z]at K
 have Q:=aa (dE w (.int .i64 n) (.int .i64 q) (.slice h9 L d) (.int .i64 0) (.int .i64 0) (.slice none 0 0))
 obtain⟨Z,x0,x1⟩:=uH Q ((w.alloc (.cells #[.int .i64 n,.int .i64 q,.slice h9 L d] 24)).alloc (.cells #[.int .i64 0,.int .i64 0,.slice none 0 0] 24)) (by have:=Below.refl ((w.alloc (.cells #[.int .i64 n,.int .i64 q,.slice h9 L d] 24)).alloc (.cells #[.int .i64 0,.int .i64 0,.slice none 0 0] 24)).heap.size ((w.alloc (.cells #[.int .i64 n,.int .i64 q,.slice h9 L d] 24)).alloc (.cells #[.int .i64 0,.int .i64 0,.slice none 0 0] 24));simpa only[ad]using this)
 have G:=aa Z;have A:=aa x0;have U:=aa x1
 generalize bG M=f at*
 clear O H z Q Z x0 x1
 cases f
 all_goals
  have V:=(uH A).c0;have X:=(uH A).c1;have Y:=(uH A).c2
  go_enter Tryz.func53,Tryz.ntmps53
  go_wp2_with fail
  clear V X Y
  refine(uH K _ (uH G)).mono ?_
  rintro e w1 ⟨rfl,y⟩
  have t:=aa ((uH A).all y)
  have l:=(uH U).all y
  have D:=aa ((uH G).trans (y.mono (uH G).size))
  clear y K A U G
  have V:=(uH t).c0;have X:=(uH t).c1;have Y:=(uH t).c2
  have f0:=l.free 0;have f1:=l.free 1;have f2:=l.free 2
  have s0:=l.c0;have s1:=l.c1;have s2:=l.c2
 ·have m:=l.put (.int .i64 0) (.int .i64 0) (.slice none 0 0)
  have I:=m.c0;have z1:=m.c1;have z2:=m.c2
  have N:=aa (ai (uH D) (b:=w.heap.size+1) (by omega) (.int .i64 0) (.int .i64 0) (.slice none 0 0))
  clear m l
  go_wp2_with fail
  exact bodyPost_ret (v:=.tuple #[.agg #[.int .i64 0,.int .i64 0,.slice none 0 0],.int .i64 2]) (by simp[results,Tryz.results53,go_sem,I,z1,z2]) rfl ⟨.inr ⟨by decide,rfl⟩,uH N⟩
 ·have m:=l.put (.int .i64 n) (.int .i64 q) (.slice h9 L d)
  have I:=m.c0;have z1:=m.c1;have z2:=m.c2
  have N:=aa (ai (uH D) (b:=w.heap.size+1) (by omega) (.int .i64 n) (.int .i64 q) (.slice h9 L d))
  clear m l
  go_wp2_with fail
  exact bodyPost_ret (v:=.tuple #[.agg #[.int .i64 n,.int .i64 q,.slice h9 L d],.int .i64 0]) (by simp[results,Tryz.results53,go_sem,I,z1,z2]) rfl ⟨.inl ⟨rfl,rfl⟩,uH N⟩
end Go.Proofs.YtlnphkioddknfaaGreatDoor
