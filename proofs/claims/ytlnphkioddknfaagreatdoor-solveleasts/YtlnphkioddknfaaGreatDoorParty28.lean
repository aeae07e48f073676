/- Part 28 of the texts. -/
import Derived.Test.YtlnphkioddknfaaGreatDoorParty27
set_option maxHeartbeats 4000000
set_option maxRecDepth 20000
namespace Go.Proofs.YtlnphkioddknfaaGreatDoor
open Go.RowKit
attribute [local go_sem ↓] Go.wp_at_zero Go.wp_at_succ
theorem me(a b:Nat):
  ∃l q,((cO a b=0∧cB a b=false∧l=false∧q=false)∨(cO a b= -1∧cB a b=true∧l=true∧q=false)∨(cO a b=0∧cB a b=true∧l=false∧q=true)∨(cO a b=1∧cB a b=true∧l=false∧q=false))∧cM a b l (cB a b)=mx a b:=by
 by_cases h:fK a=4∨fK b=4
 ·have f:cO a b=0:=by unfold cO;rw[if_pos h]
  have d:cB a b=false:=by unfold cB;rw[if_pos h]
  refine⟨false,false,.inl ⟨f,d,rfl,rfl⟩,?_⟩
  unfold mx cM
  rw[if_pos h,if_pos d]
 ·have f:cO a b=bJ (fZ a) (fZ b):=by unfold cO;rw[if_neg h]
  have d:cB a b=true:=by unfold cB;rw[if_neg h]
  have y:mx a b=if fZ a<fZ b then b else a:=by unfold mx;rw[if_neg h]
  have m:∀l,cM a b l true=if l=true then b else a:=fun l=>by unfold cM;rw[if_neg (by decide)]
  rw[f,d,y]
  rcases(show fZ a<fZ b∨fZ a=fZ b∨fZ b<fZ a by omega)with g|g|g
  ·exact⟨true,false,.inr (.inl ⟨il g,rfl,rfl,rfl⟩),by rw[m,if_pos rfl,if_pos g]⟩
  ·have t:¬fZ a<fZ b:=by omega
   exact⟨false,true,.inr (.inr (.inl ⟨jj g,rfl,rfl,rfl⟩)),by rw[m,if_neg (by decide),if_neg t]⟩
  ·have t:¬fZ a<fZ b:=by omega
   exact⟨false,false,.inr (.inr (.inr ⟨im g,rfl,rfl,rfl⟩)),by rw[m,if_neg (by decide),if_neg t]⟩
theorem Cf(a b:Nat)(w:World)(f:a<18446744073709551616)(m:b<18446744073709551616):
  Calls Tryz.prog 115 #[.int .u64 a,.int .u64 b] w fun r d=>r=.returned (.int .u64 (mx a b:Nat))∧Below w.heap.size w d:=by
 obtain⟨l,q,h,e⟩:=me a b
 rw[←e]
 exact Hj a b _ _ l q w h (fun d=>nL a b d f m)
theorem pX(a b:Nat)(w:World)(f:a<18446744073709551616)(m:b<18446744073709551616):
  Calls Tryz.prog 66 #[.int .u64 a,.int .u64 b] w fun r d=>r=.returned (.int .u64 (mx a b:Nat))∧Below w.heap.size w d:=by
 obtain⟨l,q,h,e⟩:=me a b
 rw[←e]
 exact ER a b _ _ l q w h (fun d=>nO a b d f m)
theorem vz(ao:Option Addr)(n c r:Nat)(w:World)
  (C:Calls Tryz.prog 113 #[.int .i64 n,.int .u64 0,.func (.func 114) #[] #[.pointer (some ⟨w.heap.size,0,none⟩)]] (w.alloc (.cells #[.slice ao n c] 22)) fun e d=>e=.returned (.int .u64 (r:Nat))∧Below w.heap.size w d):
  Calls Tryz.prog 59 #[.slice ao n c] w fun e h=>e=.returned (.int .u64 (r:Nat))∧Below w.heap.size w h:=by
 have K:=aa C
 clear C
 go_enter Tryz.func59,Tryz.ntmps59
 go_wp2_with fail
 refine Calls.mono (uH K) ?_
 rintro e l ⟨rfl,f⟩
 clear K
 go_wp2
 go_ret
 exact⟨rfl,f⟩
theorem du(ao:Option Addr)(c:Nat)(I:List Int)(w:World)(y:ac w ao c I)(A:I.length≤35184372088830):
  Calls Tryz.prog 59 #[.slice ao I.length c] w fun e f=>e=.returned (.int .u64 (jo I I.length:Nat))∧Below w.heap.size w f:=by
 refine vz ao _ c _ w ?_
 have l:=ab w (.cells #[.slice ao I.length c] 22)
 have D:=cU w (.slice ao I.length c) 22
 generalize w.alloc (.cells #[.slice ao I.length c] 22)=K at*
 refine Calls.mono (ma 114 #[.pointer (some ⟨w.heap.size,0,none⟩)] I.length (jo I) K vy A ?_) ?_
 ·intro f k m z
  have t:Below w.heap.size w f:=l.trans (m.mono l.size)
  obtain⟨F,G,H,_,z1⟩:=(y.below t).ne (by omega)
  have u1:=ah D m
  rw[H]at u1
  exact s8 (jo I k) (aM I k) (fR (aM I k)) (jo I (k+1)) k I.length c w.heap.size F G f z u1 (z1 k z)
   (fun d h=>nK _ d (y.lt k)) (fun d h=>Cf _ _ d (kg I k) (by have:=kE (aM I k);omega))
 ·rintro e f ⟨rfl,m⟩
  exact⟨rfl,l.trans (m.mono l.size)⟩
theorem yT(ao:Option Addr)(n c:Nat)(r:Bool)(w:World)
  (C:Calls Tryz.prog 193 #[.int .i64 n,.bool true,.func (.func 194) #[] #[.pointer (some ⟨w.heap.size,0,none⟩)]] (w.alloc (.cells #[.slice ao n c] 22)) fun e d=>e=.returned (.bool r)∧Below w.heap.size w d):
  Calls Tryz.prog 153 #[.slice ao n c] w fun e h=>e=.returned (.bool r)∧Below w.heap.size w h:=by
 have K:=aa C
 clear C
 go_enter Tryz.func153,Tryz.ntmps153
 go_wp2_with fail
 refine Calls.mono (uH K) ?_
 rintro e l ⟨rfl,f⟩
 clear K
 go_wp2
 go_ret
 exact⟨rfl,f⟩
theorem cK(ao:Option Addr)(c:Nat)(I:List Int)(w:World)(y:ac w ao c I)(A:I.length≤35184372088830):
  Calls Tryz.prog 153 #[.slice ao I.length c] w fun e d=>e=.returned (.bool (fu I I.length))∧Below w.heap.size w d:=by
 refine yT ao _ c _ w ?_
 have f:=ab w (.cells #[.slice ao I.length c] 22)
 have D:=cU w (.slice ao I.length c) 22
 generalize w.alloc (.cells #[.slice ao I.length c] 22)=K at*
 refine Calls.mono (s6 194 #[.pointer (some ⟨w.heap.size,0,none⟩)] I.length (fu I) K yS A ?_) ?_
 ·intro d k l z
  have t:Below w.heap.size w d:=f.trans (l.mono f.size)
  obtain⟨F,G,H,_,z1⟩:=(y.below t).ne (by omega)
  have u1:=ah D l
  rw[H]at u1
  exact vx (fu I k) (aC (aM I k)) (aM I k) k I.length c w.heap.size F G d z u1 (z1 k z) (fun m h=>d7 _ m (y.lt k))
 ·rintro e d ⟨rfl,l⟩
  exact⟨rfl,f.trans (l.mono f.size)⟩
theorem Cg(s r:Nat)(f:Int)(w:World)(C:∀d,Below w.heap.size w d→Calls Tryz.prog 261 #[.int .u64 s] d fun e h=>e=.returned (.tuple #[.int .u64 (r:Nat),.int .u8 f])∧Below d.heap.size d h):
  Calls Tryz.prog 241 #[.int .u64 s] w fun e d=>e=.returned (.int .u64 (r:Nat))∧Below w.heap.size w d:=by
 have K:=aa C
 clear C
 go_enter Tryz.func241,Tryz.ntmps241
 go_wp2_with fail
 refine(uH K _ (Below.refl _ _)).mono ?_
 rintro e m ⟨rfl,l⟩
 clear K
 go_wp2
 go_ret
 exact⟨rfl,l⟩
theorem yU(ao:Option Addr)(n c s r o:Nat)(k f:Int)(w:World)(Z:World→Nat→Prop)(_ZS:∀d l g,Z d g→Below d.heap.size d l→Z l g)
  (F:Calls Tryz.prog 286 #[.int .i64 n,.func (.func 287) #[] #[.pointer (some ⟨w.heap.size,0,none⟩),.pointer (some ⟨w.heap.size+1,0,none⟩)]] ((w.alloc (.cells #[.slice ao n c] 22)).alloc (.cells #[.int .i64 k] 3)) fun e l=>∃g,e=.returned (.slice (some ⟨g,0,none⟩) n n)∧Z l g∧Below w.heap.size w l∧l.cell? ⟨w.heap.size+1,0,none⟩=some (.int .i64 k))
  (G:∀d g,Z d g→Below w.heap.size w d→Calls Tryz.prog 216 #[.slice (some ⟨g,0,none⟩) n n,.slice (some ⟨g,0,none⟩) n n] d fun e l=>e=.returned (.int .u64 (s:Nat))∧Below d.heap.size d l)
  (H:∀d,Below w.heap.size w d→Calls Tryz.prog 261 #[.int .u64 s] d fun e l=>e=.returned (.tuple #[.int .u64 (r:Nat),.int .u8 f])∧Below d.heap.size d l)
  (I:∀d,Below w.heap.size w d→Calls Tryz.prog 58 #[.int .u64 r,.int .i64 k] d fun e l=>e=.returned (.int .u64 (o:Nat))∧Below d.heap.size d l):
  Calls Tryz.prog 281 #[.slice ao n c,.int .i64 k] w fun e d=>e=.returned (.int .u64 (o:Nat))∧Below w.heap.size w d:=by
 have L:=aa F;have Y:=aa G;have K3:=aa (fun d (K:Below w.heap.size w d)=>Cg s r f d (fun l A=>H l (K.trans (A.mono K.size))));have K4:=aa I
 clear F G H I
 go_enter Tryz.func281,Tryz.ntmps281
 go_wp2_with fail
 refine Calls.mono (uH L) ?_
 rintro e w1 ⟨g,rfl,Q,m,U⟩
 have B:=aa m;have y:=aa Q;have M:=aa U
 clear L m Q U
 go_wp2_with fail
 have N:=aa _ZS
 clear _ZS
 refine au (fun W=>Below w.heap.size w W∧Z W g∧W.cell? ⟨w.heap.size+1,0,none⟩=some (.int .i64 k)) ⟨uH B,uH y,uH M⟩ ?_
 clear B y M
 rintro t ⟨D,V,X⟩
 have O:=aa (fun d (h:Below t.heap.size t d)=>(show Below t.heap.size t d∧d.cell? ⟨w.heap.size+1,0,none⟩=some (.int .i64 k)from⟨h,ah X h⟩))
 have z:=aa (fun d (h:Below t.heap.size t d)=>D.trans (h.mono D.size))
 have y:=aa (fun d (h:Below t.heap.size t d)=>uH N _ _ _ V h)
 clear D V X N
 go_region_held3(fun d=>Below t.heap.size t d∧d.cell? ⟨w.heap.size+1,0,none⟩=some (.int .i64 k))
  (first|exact uH O _ (Below.refl _ _).drew|exact uH O _ (by assumption)|fail "KK")
  (first
   |(go_at_call 216;refine(uH Y _ _ (uH y _ (And.left (by assumption))) (uH z _ (And.left (by assumption)))).mono ?_;rintro e wa ⟨rfl,m⟩;have ae:Below t.heap.size t wa:=Below.trans (And.left (by assumption)) (m.mono (Below.size (And.left (by assumption))));clear m)
   |(go_at_call 241;refine(uH K3 _ (uH z _ (And.left (by assumption)))).mono ?_;rintro e wb ⟨rfl,m⟩;have aj:Below t.heap.size t wb:=Below.trans (And.left (by assumption)) (m.mono (Below.size (And.left (by assumption))));clear m)
   |(go_at_call 58;refine(uH K4 _ (uH z _ (And.left (by assumption)))).mono ?_;rintro e wc ⟨rfl,m⟩;have ak:Below t.heap.size t wc:=Below.trans (And.left (by assumption)) (m.mono (Below.size (And.left (by assumption))));clear m)
   |fail "NO ARM")
 all_goals
  have hn:Below t.heap.size t wc:=And.left (by assumption)
  go_wp2
  go_ret
  exact⟨rfl,uH z _ hn⟩
def tL(k:Int)(I:List Int):List Int:=IP I.length (fun i=>xV (aM I i) (-k))
theorem Ch(k:Int)(I:List Int):(tL k I).length=I.length:=Fy _ _
theorem vA(ao:Option Addr)(c:Nat)(I:List Int)(k:Int)(w:World)(y:ac w ao c I)(hn:I.length≤64)(M:-5000≤k∧k≤5000)(m:b7 w):
  Calls Tryz.prog 281 #[.slice ao I.length c,.int .i64 k] w fun e f=>e=.returned (.int .u64 (xV (sV (iZ (tL k I) (tL k I) I.length)) k:Nat))∧Below w.heap.size w f:=by
 refine yU ao _ c (iZ (tL k I) (tL k I) I.length) (sV (iZ (tL k I) (tL k I) I.length)) _ k (sF (iZ (tL k I) (tL k I) I.length)) w (fun f g=>ac f (some ⟨g,0,none⟩) I.length (tL k I)) (fun _ _ _ h d=>h.below d) ?_ ?_ ?_ ?_
 ·have F:=ab w (.cells #[.slice ao I.length c] 22)
  have O:=cU w (.slice ao I.length c) 22
  have Q:=ad w (.cells #[.slice ao I.length c] 22)
  generalize w.alloc (.cells #[.slice ao I.length c] 22)=D at*
  have G:=ab D (.cells #[.int .i64 k] 3)
  have A:=cU D (.int .i64 k) 3
  have U:=ah O G
  generalize D.alloc (.cells #[.int .i64 k] 3)=L at*
  have t:Below w.heap.size w L:=F.trans (G.mono F.size)
  rw[Q]at A
  refine Calls.mono (Cb 287 #[.pointer (some ⟨w.heap.size,0,none⟩),.pointer (some ⟨w.heap.size+1,0,none⟩)] I.length (fun i=>xV (aM I i) (-k)) L Fz (by omega) ?_) ?_
  ·intro f j d H
   have l:Below w.heap.size w f:=t.trans (d.mono t.size)
   obtain⟨X,Y,Z,_,z1⟩:=(y.below l).ne (by omega)
   have u0:=ah U d
   have u1:=ah A d
   rw[Z]at u0
   have V:=m.all l
   exact Cc (aM I j) (xV (aM I j) (-k)) j I.length c w.heap.size (w.heap.size+1) k X Y f H M u0 u1 (z1 j H)
    (fun z h=>kf _ _ z (y.lt j) (V.all h))
  ·rintro e f ⟨g,rfl,hg,hR,d⟩
   refine⟨g,rfl,?_,t.trans (d.mono t.size),ah A d⟩
   have:=hR.bits (fun x N=>by
    obtain⟨j,_,rfl⟩:=List.mem_map.1 N
    exact nM _ _ (y.lt j))
   simpa[tL,IP]using this
 ·intro f g K d
  have:=wZ _ _ _ _ (tL k I) (tL k I) f K K rfl (by rw[Ch];omega) (m.all d)
  rw[Ch]at this
  exact this
 ·intro f d
  exact yO _ f (gX _ _ _) (m.all d)
 ·intro f d
  exact kf _ _ f (wS _ (gX _ _ _)) (m.all d)
theorem te(a:Nat)(d:a<18446744073709551616):-1074≤eX a∧eX a≤1024:=by
 unfold eX
 split
 ·omega
 ·rename_i h
  have f:=bh a (fun e=>h (by omega)) (fun e=>h (by omega))
  obtain⟨z1,z2,l,m,t,y,z,A,D⟩:=jk a d f (fun e=>h (by omega))
  omega
theorem Ci(I:List Int)(k:Nat):jo I k≤9218868437227405312∨jo I k=9221120237041090560:=by
 induction k with
 |zero=>exact .inl (by show 0≤9218868437227405312;omega)
 |succ k ih=>
  show mx (jo I k) (fR (aM I k))≤9218868437227405312∨mx (jo I k) (fR (aM I k))=9221120237041090560
  have f:=kE (aM I k)
  generalize aM I k=x at*
  generalize jo I k=m at*
  by_cases h:fK m=4∨fK (fR x)=4
  ·right;unfold mx;rw[if_pos h]
  ·have e:mx m (fR x)=m∨mx m (fR x)=fR x:=by
    unfold mx
    rw[if_neg h]
    split
    ·exact .inr rfl
    ·exact .inl rfl
   rcases e with e|e
   ·rw[e];exact ih
   ·rw[e]
    left
    have l:fR (fR x)=fR x:=(qO (fR x) f).2.1
    have d:=(bu (fR x)).1
    rw[l]at d
    rcases Nat.lt_or_ge 9218868437227405312 (fR x)with g|g
    ·exact absurd (.inr (d.2 g)) h
    ·exact g
theorem Cj:aC 9218868437227405312=false∧aC 9221120237041090560=false:=by decide
theorem Ck{m:Nat}(h:m<9218868437227405312):aC m=true:=(bu m).2.2.2 (by rw[(qO m (by omega)).2.1];exact h)
def Gs(I:List Int):Nat:=if jo I I.length=0∨aC (jo I I.length)=false then jo I I.length else xV (sV (iZ (tL (eX (jo I I.length)) I) (tL (eX (jo I I.length)) I) I.length)) (eX (jo I I.length))
theorem Ih(I:List Int):Gs I<18446744073709551616:=by
 unfold Gs
 split
 ·exact kg _ _
 ·exact nM _ _ (wS _ (gX _ _ _))
theorem nZ(ao:Option Addr)(n c m:Nat)(w:World)(A:n≤64)(t:m=0∨m=9218868437227405312∨m=9221120237041090560)
  (h:Calls Tryz.prog 59 #[.slice ao n c] w fun e d=>e=.returned (.int .u64 (m:Nat))∧Below w.heap.size w d):
  Calls Tryz.prog 272 #[.slice ao n c] w fun e y=>e=.returned (.tuple #[.int .u64 (m:Nat),.int .i64 0])∧Below w.heap.size w y:=by
 have z:(n:Int)≤64:=by omega
 have l:=aa h
 clear h
 rcases t with rfl|rfl|rfl
 all_goals
  go_enter Tryz.func272,Tryz.ntmps272
  go_wp2_with fail
  refine Calls.mono (uH l) ?_
  rintro e D ⟨rfl,f⟩
  clear l
  go_wp2
  refine bodyPost_ret (v:=.tuple #[.int .u64 _,.int .i64 0]) (by simp[results,Tryz.results272,go_sem]) rfl ⟨rfl,f⟩
theorem yV(ao:Option Addr)(n c m o:Nat)(k:Int)(w:World)(N:n≤64)(I:m≠0)(K:m<9218868437227405312)
  (z:Calls Tryz.prog 59 #[.slice ao n c] w fun e d=>e=.returned (.int .u64 (m:Nat))∧Below w.heap.size w d)
  (A:∀f,Below w.heap.size w f→Calls Tryz.prog 240 #[.int .u64 m] f fun e d=>e=.returned (.int .i64 k)∧Below f.heap.size f d)
  (D:∀f,Below w.heap.size w f→Calls Tryz.prog 281 #[.slice ao n c,.int .i64 k] f fun e d=>e=.returned (.int .u64 (o:Nat))∧Below f.heap.size f d):
  Calls Tryz.prog 272 #[.slice ao n c] w fun e f=>e=.returned (.tuple #[.int .u64 (o:Nat),.int .i64 0])∧Below w.heap.size w f:=by
 have L:(n:Int)≤64:=by omega
 have F:=aa z;have G:=aa A;have H:=aa D
 have O:¬((m:Int)=0):=by omega
 have Q:¬((m:Int)=9218868437227405312):=by omega
 have U:¬((m:Int)=9221120237041090560):=by omega
 clear z A D K I
 go_enter Tryz.func272,Tryz.ntmps272
 go_wp2_with fail
 refine Calls.mono (uH F) ?_
 rintro e V ⟨rfl,h⟩
 have B:=aa h
 clear F h
 go_wp2_with fail
 refine(uH G _ (uH B)).mono ?_
 rintro e X ⟨rfl,l⟩
 have y:=aa ((uH B).trans (l.mono (uH B).size))
 clear G l B
 go_wp2_with fail
 refine(uH H _ (uH y)).mono ?_
 rintro e Y ⟨rfl,t⟩
 have M:=aa ((uH y).trans (t.mono (uH y).size))
 clear H t y
 go_wp2
 exact bodyPost_ret (v:=.tuple #[.int .u64 (o:Nat),.int .i64 0]) (by simp[results,Tryz.results272,go_sem]) rfl ⟨rfl,uH M⟩
theorem Cl(ao:Option Addr)(c:Nat)(I:List Int)(w:World)(y:ac w ao c I)(d:I.length≤64)(z:b7 w):
  Calls Tryz.prog 272 #[.slice ao I.length c] w fun e f=>e=.returned (.tuple #[.int .u64 (Gs I:Nat),.int .i64 0])∧Below w.heap.size w f:=by
 have m:=du ao c I w y (by omega)
 have A:=kg I I.length
 unfold Gs
 by_cases t:jo I I.length=0
 ·rw[if_pos (.inl t)]
  exact nZ ao _ c _ w d (.inl t) m
 rcases Ci I I.length with h|h
 ·rcases Nat.lt_or_ge (jo I I.length) 9218868437227405312 with g|g
  ·rw[if_neg (fun e=>e.elim t (fun e=>by rw[Ck g]at e;cases e))]
   have D:=te _ A
   exact yV ao _ c _ _ (eX (jo I I.length)) w d t g m (fun f l=>Bl _ f A (z.all l)) (fun f l=>vA ao c I _ f (y.below l) d (by omega) (z.all l))
  ·have e:jo I I.length=9218868437227405312:=by omega
   rw[if_pos (.inr (by rw[e];exact Cj.1))]
   exact nZ ao _ c _ w d (.inr (.inl e)) m
 ·rw[if_pos (.inr (by rw[h];exact Cj.2))]
  exact nZ ao _ c _ w d (.inr (.inr h)) m
theorem o8(ao:Option Addr)(c:Nat)(I:List Int)(w:World)(A:ac w ao c I)(M:I.length≤35184372088830):
  Calls Tryz.prog 222 #[.slice ao I.length c] w fun e f=>e=.returned (.int .u64 (jo I I.length:Nat))∧Below w.heap.size w f:=by
 have D:=aa A
 obtain⟨n,d⟩:∃n,I.length=n:=⟨_,rfl⟩
 rw[d]at M⊢
 have F:=aa d
 clear A d
 go_enter Tryz.func222,Tryz.ntmps222
 go_wp2_with fail
 go_loopw[3,4] (fun t i wr=>∃k:Nat,k≤n∧i=.int .i64 k∧t=.int .u64 (jo I k:Nat)∧Hid (Below w.heap.size w wr)) (fun _ i _=>n-(intOf i).toNat)
 case atStart=>exact⟨0,Nat.zero_le _,rfl,rfl,Below.refl _ _⟩
 case round=>
  obtain⟨k,X,rfl,rfl,l⟩:=hrel
  by_cases m:k<n
  ·have N:(k:Int)<(n:Int):=by omega
   obtain⟨b,V,z,Y,K⟩:=((uH D).below l.out).ne (by rw[uH F];omega)
   have O:=K k (by rw[uH F];exact m)
   have G:=aa (fun f=>pQ (aM I k) f ((uH D).lt k))
   have H:=aa (fun f=>pX (jo I k) (fR (aM I k)) f (kg I k) (by have:=kE (aM I k);omega))
   have Q:Hid (jo I (k+1)=mx (jo I k) (fR (aM I k))):=rfl
   subst z
   clear K
   generalize mx (jo I k) (fR (aM I k))=o at*
   generalize fR (aM I k)=r at*
   generalize aM I k=x at*
   generalize jo I k=Z at*
   go_wp2_with fail
   refine(uH G _).mono ?_
   rintro e L ⟨rfl,rfl⟩
   go_wp2_with fail
   refine(uH H _).mono ?_
   rintro e L ⟨rfl,h⟩
   have U:Hid (Below w.heap.size w L):=l.out.trans (h.mono l.out.size)
   clear h G H
   go_wp2_with fail
   go_round
   case rel=>exact⟨k+1,by omega,by go_num,by rw[Q.out],U⟩
   case measure=>simp[intOf];omega
  ·have y:k=n:=by omega
   subst y
   go_wp2_with fail
   exact bodyPost_ret (v:=.int .u64 (jo I k:Nat)) (by simp[results,Tryz.results222,go_sem]) rfl ⟨rfl,l.out⟩
theorem tg(I:List Int):∀(m k:Nat),k≤m→fu I m=true→fu I k=true:=by
 intro m
 induction m with
 |zero=>intro k f _;rw[show k=0 by omega];rfl
 |succ m ih=>
  intro k f h
  have d:(fu I m&&aC (aM I m))=true:=h
  rw[Bool.and_eq_true]at d
  by_cases e:k=m+1
  ·subst e;exact h
  ·exact ih k (by omega) d.1
theorem Cm(I:List Int)(n k:Nat)(f:k<n)(h:aC (aM I k)=false):fu I n=false:=by
 cases e:fu I n
 ·rfl
 ·have d:(fu I k&&aC (aM I k))=true:=tg I n (k+1) (by omega) e
  rw[h,Bool.and_false]at d
  cases d
theorem iQ(ao:Option Addr)(c:Nat)(I:List Int)(w:World)(G:ac w ao c I)(Q:I.length≤35184372088830):
  Calls Tryz.prog 65 #[.slice ao I.length c] w fun e t=>e=.returned (.bool (fu I I.length))∧Below w.heap.size w t:=by
 have H:=aa G
 obtain⟨n,d⟩:∃n,I.length=n:=⟨_,rfl⟩
 rw[d]at Q⊢
 have K:=aa d
 clear G d
 obtain⟨v,D⟩:∃v,fu I n=v:=⟨_,rfl⟩
 rw[D]
 have L:=aa D
 clear D
 go_enter Tryz.func65,Tryz.ntmps65
 go_wp2_with fail
 go_loopw[3] (fun i wr=>∃k:Nat,k≤n∧i=.int .i64 k∧Hid (fu I k=true)∧Hid (Below w.heap.size w wr)) (fun i _=>n-(intOf i).toNat)
 case atStart=>exact⟨0,Nat.zero_le _,rfl,rfl,Below.refl _ _⟩
 case round=>
  obtain⟨k,hk,rfl,N,m⟩:=hrel
  by_cases l:k<n
  ·have U:(k:Int)<(n:Int):=by omega
   obtain⟨b,Y,F,hb,O⟩:=((uH H).below m.out).ne (by rw[uH K];omega)
   have V:=O k (by rw[uH K];exact l)
   have f:=aa (fun t=>cJ (aM I k) t ((uH H).lt k))
   have M:Hid (fu I (k+1)=(fu I k&&aC (aM I k))):=rfl
   have X:=aa (fun h=>Cm I n k l h)
   subst F
   clear O
   generalize aM I k=x at*
   cases hf:aC x
   ·have y:=aa ((uH L).symm.trans (uH X hf))
    rw[hf]at f
    have z:=uH y
    subst z
    go_wp2_with fail
    refine(uH f _).mono ?_
    rintro e Z ⟨rfl,rfl⟩
    clear f
    go_wp2_with fail
    exact bodyPost_ret (v:=.bool false) (by simp[results,Tryz.results65,go_sem]) rfl ⟨rfl,m.out⟩
   ·rw[hf]at f M
    go_wp2_with fail
    refine(uH f _).mono ?_
    rintro e Z ⟨rfl,rfl⟩
    clear f
    go_wp2_with fail
    go_round
    case rel=>exact⟨k+1,by omega,by go_num,by unfold Hid;rw[M.out,N.out];rfl,m⟩
    case measure=>simp[intOf];omega
  ·have A:k=n:=by omega
   subst A
   have y:=(uH L).symm.trans N.out
   subst y
   go_wp2_with fail
   exact bodyPost_ret (v:=.bool true) (by simp[results,Tryz.results65,go_sem]) rfl ⟨rfl,m.out⟩
theorem n8(ao:Option Addr)(n c m:Nat)(f:Bool)(w:World)(D:m=0∨(m≠0∧f=false))
  (z:Calls Tryz.prog 222 #[.slice ao n c] w fun e d=>e=.returned (.int .u64 (m:Nat))∧Below w.heap.size w d)
  (A:∀l,Calls Tryz.prog 100 #[.int .u64 m] l fun e d=>e=.returned (.bool f)∧l=d):
  Calls Tryz.prog 196 #[.slice ao n c] w fun e l=>e=.returned (.int .u64 (m:Nat))∧Below w.heap.size w l:=by
 have t:=aa z;have y:=aa A
 clear z A
 rcases D with rfl|⟨G,rfl⟩
 ·go_enter Tryz.func196,Tryz.ntmps196
  go_wp2_with fail
  refine Calls.mono (uH t) ?_
  rintro e F ⟨rfl,h⟩
  clear t y
  go_wp2
  go_ret
  exact⟨rfl,h⟩
 ·have H:((m:Int)==0)=false:=by rw[beq_eq_false_iff_ne];omega
  clear G
  go_enter Tryz.func196,Tryz.ntmps196
  go_wp2_with fail
  refine Calls.mono (uH t) ?_
  rintro e F ⟨rfl,h⟩
  clear t
  go_wp2_with fail
  refine(uH y _).mono ?_
  rintro e I ⟨rfl,rfl⟩
  clear y
  go_wp2
  go_ret
  exact⟨rfl,h⟩
theorem th(ao:Option Addr)(c m:Nat)(k:Int)(I:List Int)(w:World)(Y:ac w ao c I)(hn:I.length≤35184372088830)(h0:m≠0)(N:-5000≤k∧k≤5000)
  (Z:Calls Tryz.prog 222 #[.slice ao I.length c] w fun e f=>e=.returned (.int .u64 (m:Nat))∧Below w.heap.size w f)
  (C2:∀d,Calls Tryz.prog 100 #[.int .u64 m] d fun e f=>e=.returned (.bool true)∧d=f)
  (C3:∀d,Calls Tryz.prog 133 #[.int .u64 m] d fun e f=>e=.returned (.int .i64 k)∧Below d.heap.size d f):
  Calls Tryz.prog 196 #[.slice ao I.length c] w fun e d=>e=.returned (.int .u64 (xV (sV (iZ (tL k I) (tL k I) I.length)) k:Nat))∧Below w.heap.size w d:=by
 have HI:=aa Y
 have O:=aa Z;have K2:=aa C2;have K3:=aa C3
 have g0:((m:Int)==0)=false:=by rw[beq_eq_false_iff_ne];omega
 have hw:IntKind.i64.wrap (-k)= -k:=by simp only[IntKind.wrap_i64];omega
 have ae:(0:Int)-k= -k:=by omega
 have HK:=aa N
 have Q:=aa (fun d=>vv (iZ (tL k I) (tL k I) I.length) d (gX _ _ _))
 have U:=aa (fun d=>jn (sV (iZ (tL k I) (tL k I) I.length)) k d (wS _ (gX _ _ _)) N)
 have HD:Hid (iZ (tL k I) (tL k I) 0=0):=rfl
 have HS:=aa (fun j (hj:j<I.length)=>show iZ (tL k I) (tL k I) (j+1)=aV (iZ (tL k I) (tL k I) j) (mV (xV (aM I j) (-k)) (xV (aM I j) (-k))) by
  show aV (iZ (tL k I) (tL k I) j) (mV (aM (tL k I) j) (aM (tL k I) j))=_
  rw[show aM (tL k I) j=xV (aM I j) (-k)from Ce _ _ j hj])
 have HL:=aa (fun j=>gX (tL k I) (tL k I) j)
 generalize iZ (tL k I) (tL k I)=F at*
 obtain⟨n,A⟩:∃n,I.length=n:=⟨_,rfl⟩
 rw[A]at hn O HS Q U⊢
 have HN:=aa A
 clear Y A Z C2 C3 h0 N
 generalize xV (sV (F n)) k=rr at*
 generalize sV (F n)=ss at*
 go_enter Tryz.func196,Tryz.ntmps196
 go_wp2_with fail
 refine Calls.mono (uH O) ?_
 rintro e w1 ⟨rfl,K⟩
 have B:=aa K
 clear O K
 go_wp2_with fail
 refine(uH K2 _).mono ?_
 rintro e w2 ⟨rfl,rfl⟩
 clear K2
 go_wp2_with fail
 refine(uH K3 _).mono ?_
 rintro e w2 ⟨rfl,L⟩
 have B2:=aa ((uH B).trans (L.mono (uH B).size))
 clear K3 L B
 go_wp2_with fail
 go_loopw[5,6] (fun t i wr=>∃j:Nat,j≤n∧i=.int .i64 j∧t=.int .u64 (F j:Nat)∧Hid (Below w.heap.size w wr)) (fun _ i _=>n-(intOf i).toNat)
 case atStart=>exact⟨0,Nat.zero_le _,rfl,by rw[uH HD];rfl,B2⟩
 case round=>
  clear B2
  obtain⟨j,hj,rfl,rfl,D⟩:=hrel
  by_cases G:j<n
  ·have aj:(j:Int)<(n:Int):=by omega
   obtain⟨b,am,X,hb,hc⟩:=((uH HI).below D.out).ne (by rw[uH HN];omega)
   have ak:=hc j (by rw[uH HN];exact G)
   have y:=(uH HI).lt j
   have D1:=aa (fun d=>jn (aM I j) (-k) d y (by have:=uH HK;omega))
   have D2:=aa (fun d=>io (xV (aM I j) (-k)) (xV (aM I j) (-k)) d (nM _ _ y) (nM _ _ y))
   have D3:=aa (fun d=>pW (F j) (mV (xV (aM I j) (-k)) (xV (aM I j) (-k))) d (uH HL j) (gp _ _))
   have eV:=aa (uH HS j G)
   subst X
   clear hc y
   generalize aV (F j) (mV (xV (aM I j) (-k)) (xV (aM I j) (-k)))=o at*
   generalize mV (xV (aM I j) (-k)) (xV (aM I j) (-k))=p at*
   generalize xV (aM I j) (-k)=t at*
   generalize aM I j=x at*
   go_wp2_with fail
   refine(uH D1 _).mono ?_
   rintro e w3 ⟨rfl,h⟩
   have z:=aa (D.out.trans (h.mono D.out.size))
   clear h D1 D
   go_wp2_with fail
   refine(uH D2 _).mono ?_
   rintro e w4 ⟨rfl,l⟩
   have H:=aa ((uH z).trans (l.mono (uH z).size))
   clear l D2 z
   go_wp2_with fail
   refine(uH D3 _).mono ?_
   rintro e w5 ⟨rfl,M⟩
   have B5:=aa ((uH H).trans (M.mono (uH H).size))
   clear M D3 H
   go_wp2_with fail
   go_round
   case rel=>exact⟨j+1,by omega,by go_num,by rw[uH eV],B5⟩
   case measure=>simp[intOf];omega
  ·have V:j=n:=by omega
   subst V
   go_wp2_with fail
   refine(uH Q _).mono ?_
   rintro e w3 ⟨rfl,h⟩
   have z:=aa (D.out.trans (h.mono D.out.size))
   clear h Q D
   go_wp2_with fail
   refine(uH U _).mono ?_
   rintro e w4 ⟨rfl,l⟩
   have H:=aa ((uH z).trans (l.mono (uH z).size))
   clear l U z
   go_wp2
   exact bodyPost_ret (v:=.int .u64 (rr:Nat)) (by simp[results,Tryz.results196,go_sem]) rfl ⟨rfl,uH H⟩
theorem oc(ao:Option Addr)(c:Nat)(I:List Int)(w:World)(t:ac w ao c I)(y:I.length≤35184372088830):
  Calls Tryz.prog 196 #[.slice ao I.length c] w fun e d=>e=.returned (.int .u64 (Gs I:Nat))∧Below w.heap.size w d:=by
 have l:=o8 ao c I w t y
 have m:=kg I I.length
 have f:=fun d=>cJ (jo I I.length) d m
 unfold Gs
 by_cases h:jo I I.length=0
 ·rw[if_pos (.inl h)]
  exact n8 ao _ c _ _ w (.inl h) l f
 cases hf:aC (jo I I.length)
 ·rw[hf]at f
  rw[if_pos (.inr rfl)]
  exact n8 ao _ c _ _ w (.inr ⟨h,rfl⟩) l f
 ·rw[hf]at f
  rw[if_neg (fun e=>e.elim h (fun e=>by cases e))]
  have z:=te _ m
  exact th ao c _ _ I w t y h (by omega) l f (fun d=>yx _ d m)
def JI(I:List Int):Nat→Int
 |0=>0
 |k+1=>JI I k+fZ (aM I k)*fZ (aM I k)
end Go.Proofs.YtlnphkioddknfaaGreatDoor
