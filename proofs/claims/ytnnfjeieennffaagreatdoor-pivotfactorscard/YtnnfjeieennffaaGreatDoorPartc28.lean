/- Part 28 of the texts. -/
import Derived.Test.YtnnfjeieennffaaGreatDoorPartc27
set_option maxHeartbeats 4000000
set_option maxRecDepth 20000
namespace Go.Proofs.YtnnfjeieennffaaGreatDoor
open Go.RowKit
attribute [local go_sem ↓] Go.wp_at_zero Go.wp_at_succ
theorem mh(a b:Nat):
  ∃l q,((cO a b=0∧cB a b=false∧l=false∧q=false)∨(cO a b= -1∧cB a b=true∧l=true∧q=false)∨(cO a b=0∧cB a b=true∧l=false∧q=true)∨(cO a b=1∧cB a b=true∧l=false∧q=false))∧cM a b l (cB a b)=mx a b:=by
 by_cases h:fK a=4∨fK b=4
 ·have f:cO a b=0:=by unfold cO;rw[if_pos h]
  have d:cB a b=false:=by unfold cB;rw[if_pos h]
  refine⟨false,false,.inl ⟨f,d,rfl,rfl⟩,?_⟩
  unfold mx cM
  rw[if_pos h,if_pos d]
 ·have f:cO a b=bs (fZ a) (fZ b):=by unfold cO;rw[if_neg h]
  have d:cB a b=true:=by unfold cB;rw[if_neg h]
  have z:mx a b=if fZ a<fZ b then b else a:=by unfold mx;rw[if_neg h]
  have m:∀l,cM a b l true=if l=true then b else a:=fun l=>by unfold cM;rw[if_neg (by decide)]
  rw[f,d,z]
  rcases(show fZ a<fZ b∨fZ a=fZ b∨fZ b<fZ a by omega)with g|g|g
  ·exact⟨true,false,.inr (.inl ⟨g9 g,rfl,rfl,rfl⟩),by rw[m,if_pos rfl,if_pos g]⟩
  ·have t:¬fZ a<fZ b:=by omega
   exact⟨false,true,.inr (.inr (.inl ⟨iY g,rfl,rfl,rfl⟩)),by rw[m,if_neg (by decide),if_neg t]⟩
  ·have t:¬fZ a<fZ b:=by omega
   exact⟨false,false,.inr (.inr (.inr ⟨ia g,rfl,rfl,rfl⟩)),by rw[m,if_neg (by decide),if_neg t]⟩
theorem BL(a b:Nat)(w:World)(d:a<18446744073709551616)(f:b<18446744073709551616):
  Calls Tryz.prog 166 #[.int .u64 a,.int .u64 b] w fun r w'=>r=.returned (.int .u64 (mx a b:Nat))∧Below w.heap.size w w':=by
 obtain⟨l,q,h,e⟩:=mh a b
 rw[←e]
 exact GU a b _ _ l q w h (fun w'=>nL a b w' d f)
theorem yO(a b:Nat)(w:World)(d:a<18446744073709551616)(f:b<18446744073709551616):
  Calls Tryz.prog 153 #[.int .u64 a,.int .u64 b] w fun r w'=>r=.returned (.int .u64 (mx a b:Nat))∧Below w.heap.size w w':=by
 obtain⟨l,q,h,e⟩:=mh a b
 rw[←e]
 exact Er a b _ _ l q w h (fun w'=>nU a b w' d f)
theorem vy(h:Option Addr)(n c r:Nat)(w:World)
  (C:Calls Tryz.prog 164 #[.int .i64 n,.int .u64 0,.func (.func 165) #[] #[.pointer (some ⟨w.heap.size,0,none⟩)]] (w.alloc (.cells #[.slice h n c] 22)) fun e d=>e=.returned (.int .u64 (r:Nat))∧Below w.heap.size w d):
  Calls Tryz.prog 143 #[.slice h n c] w fun e w'=>e=.returned (.int .u64 (r:Nat))∧Below w.heap.size w w':=by
 have K:=aa C
 clear C
 go_enter Tryz.func143,Tryz.ntmps143
 go_wp2_with fail
 refine Calls.mono (uH K) ?_
 rintro e l ⟨rfl,f⟩
 clear K
 go_wp2
 go_ret
 exact⟨rfl,f⟩
theorem eE(f:Option Addr)(c:Nat)(I:List Int)(w:World)(z:ad w f c I)(D:I.length≤35184372088830):
  Calls Tryz.prog 143 #[.slice f I.length c] w fun e w'=>e=.returned (.int .u64 (jp I I.length:Nat))∧Below w.heap.size w w':=by
 refine vy f _ c _ w ?_
 have l:=ac w (.cells #[.slice f I.length c] 22)
 have F:=dq w (.slice f I.length c) 22
 generalize w.alloc (.cells #[.slice f I.length c] 22)=L at*
 refine Calls.mono (mg 165 #[.pointer (some ⟨w.heap.size,0,none⟩)] I.length (jp I) L vx D ?_) ?_
 ·intro w' k m A
  have t:Below w.heap.size w w':=l.trans (m.mono l.size)
  obtain⟨G,H,K,_,z1⟩:=(z.below t).ne (by omega)
  have u1:=ai F m
  rw[K]at u1
  exact tn (jp I k) (aL I k) (fR (aL I k)) (jp I (k+1)) k I.length c w.heap.size G H w' A u1 (z1 k A)
   (fun d h=>sM _ d (z.lt k)) (fun d h=>BL _ _ d (ot I k) (by have:=jF (aL I k);omega))
 ·rintro e w' ⟨rfl,m⟩
  exact⟨rfl,l.trans (m.mono l.size)⟩
theorem yP(h:Option Addr)(n c:Nat)(r:Bool)(w:World)
  (C:Calls Tryz.prog 77 #[.int .i64 n,.bool true,.func (.func 78) #[] #[.pointer (some ⟨w.heap.size,0,none⟩)]] (w.alloc (.cells #[.slice h n c] 22)) fun e d=>e=.returned (.bool r)∧Below w.heap.size w d):
  Calls Tryz.prog 33 #[.slice h n c] w fun e w'=>e=.returned (.bool r)∧Below w.heap.size w w':=by
 have K:=aa C
 clear C
 go_enter Tryz.func33,Tryz.ntmps33
 go_wp2_with fail
 refine Calls.mono (uH K) ?_
 rintro e l ⟨rfl,f⟩
 clear K
 go_wp2
 go_ret
 exact⟨rfl,f⟩
theorem cL(d:Option Addr)(c:Nat)(I:List Int)(w:World)(z:ad w d c I)(D:I.length≤35184372088830):
  Calls Tryz.prog 33 #[.slice d I.length c] w fun e w'=>e=.returned (.bool (gA I I.length))∧Below w.heap.size w w':=by
 refine yP d _ c _ w ?_
 have f:=ac w (.cells #[.slice d I.length c] 22)
 have F:=dq w (.slice d I.length c) 22
 generalize w.alloc (.cells #[.slice d I.length c] 22)=L at*
 refine Calls.mono (tk 78 #[.pointer (some ⟨w.heap.size,0,none⟩)] I.length (gA I) L yN D ?_) ?_
 ·intro w' k l A
  have t:Below w.heap.size w w':=f.trans (l.mono f.size)
  obtain⟨G,H,K,_,z1⟩:=(z.below t).ne (by omega)
  have u1:=ai F l
  rw[K]at u1
  exact vw (gA I k) (ap (aL I k)) (aL I k) k I.length c w.heap.size G H w' A u1 (z1 k A) (fun m h=>d7 _ m (z.lt k))
 ·rintro e w' ⟨rfl,l⟩
  exact⟨rfl,f.trans (l.mono f.size)⟩
theorem BM(s r:Nat)(f:Int)(w:World)(C:∀w',Below w.heap.size w w'→Calls Tryz.prog 186 #[.int .u64 s] w' fun e d=>e=.returned (.tuple #[.int .u64 (r:Nat),.int .u8 f])∧Below w'.heap.size w' d):
  Calls Tryz.prog 169 #[.int .u64 s] w fun e w'=>e=.returned (.int .u64 (r:Nat))∧Below w.heap.size w w':=by
 have K:=aa C
 clear C
 go_enter Tryz.func169,Tryz.ntmps169
 go_wp2_with fail
 refine(uH K _ (Below.refl _ _)).mono ?_
 rintro e l ⟨rfl,h⟩
 clear K
 go_wp2
 go_ret
 exact⟨rfl,h⟩
theorem yQ(F:Option Addr)(n c s r o:Nat)(k f:Int)(w:World)(Z:World→Nat→Prop)(_ZS:∀w' d g,Z w' g→Below w'.heap.size w' d→Z d g)
  (G:Calls Tryz.prog 167 #[.int .i64 n,.func (.func 168) #[] #[.pointer (some ⟨w.heap.size,0,none⟩),.pointer (some ⟨w.heap.size+1,0,none⟩)]] ((w.alloc (.cells #[.slice F n c] 22)).alloc (.cells #[.int .i64 k] 3)) fun e d=>∃g,e=.returned (.slice (some ⟨g,0,none⟩) n n)∧Z d g∧Below w.heap.size w d∧d.cell? ⟨w.heap.size+1,0,none⟩=some (.int .i64 k))
  (H:∀w' g,Z w' g→Below w.heap.size w w'→Calls Tryz.prog 170 #[.slice (some ⟨g,0,none⟩) n n,.slice (some ⟨g,0,none⟩) n n] w' fun e d=>e=.returned (.int .u64 (s:Nat))∧Below w'.heap.size w' d)
  (K:∀w',Below w.heap.size w w'→Calls Tryz.prog 186 #[.int .u64 s] w' fun e d=>e=.returned (.tuple #[.int .u64 (r:Nat),.int .u8 f])∧Below w'.heap.size w' d)
  (L:∀w',Below w.heap.size w w'→Calls Tryz.prog 45 #[.int .u64 r,.int .i64 k] w' fun e d=>e=.returned (.int .u64 (o:Nat))∧Below w'.heap.size w' d):
  Calls Tryz.prog 144 #[.slice F n c,.int .i64 k] w fun e w'=>e=.returned (.int .u64 (o:Nat))∧Below w.heap.size w w':=by
 have N:=aa G;have K2:=aa H;have K3:=aa (fun w' (M:Below w.heap.size w w')=>BM s r f w' (fun d A=>K d (M.trans (A.mono M.size))));have K4:=aa L
 clear G H K L
 go_enter Tryz.func144,Tryz.ntmps144
 go_wp2_with fail
 refine Calls.mono (uH N) ?_
 rintro e w1 ⟨g,rfl,V,l,X⟩
 have B:=aa l;have t:=aa V;have O:=aa X
 clear N l V X
 go_wp2_with fail
 have Q:=aa _ZS
 clear _ZS
 refine aq (fun W=>Below w.heap.size w W∧Z W g∧W.cell? ⟨w.heap.size+1,0,none⟩=some (.int .i64 k)) ⟨uH B,uH t,uH O⟩ ?_
 clear B t O
 rintro m ⟨D,Y,cc⟩
 have U:=aa (fun w' (h:Below m.heap.size m w')=>(show Below m.heap.size m w'∧w'.cell? ⟨w.heap.size+1,0,none⟩=some (.int .i64 k)from⟨h,ai cc h⟩))
 have z:=aa (fun w' (h:Below m.heap.size m w')=>D.trans (h.mono D.size))
 have t:=aa (fun w' (h:Below m.heap.size m w')=>uH Q _ _ _ Y h)
 clear D Y cc Q
 go_region_held3(fun w'=>Below m.heap.size m w'∧w'.cell? ⟨w.heap.size+1,0,none⟩=some (.int .i64 k))
  (first|exact uH U _ (Below.refl _ _).drew|exact uH U _ (by assumption)|fail "KK")
  (first
   |(go_at_call 170;refine(uH K2 _ _ (uH t _ (And.left (by assumption))) (uH z _ (And.left (by assumption)))).mono ?_;rintro e wa ⟨rfl,l⟩;have ae:Below m.heap.size m wa:=Below.trans (And.left (by assumption)) (l.mono (Below.size (And.left (by assumption))));clear l)
   |(go_at_call 169;refine(uH K3 _ (uH z _ (And.left (by assumption)))).mono ?_;rintro e wb ⟨rfl,l⟩;have aj:Below m.heap.size m wb:=Below.trans (And.left (by assumption)) (l.mono (Below.size (And.left (by assumption))));clear l)
   |(go_at_call 45;refine(uH K4 _ (uH z _ (And.left (by assumption)))).mono ?_;rintro e wc ⟨rfl,l⟩;have am:Below m.heap.size m wc:=Below.trans (And.left (by assumption)) (l.mono (Below.size (And.left (by assumption))));clear l)
   |fail "NO ARM")
 all_goals
  have hn:Below m.heap.size m wc:=And.left (by assumption)
  go_wp2
  go_ret
  exact⟨rfl,uH z _ hn⟩
def tL(k:Int)(I:List Int):List Int:=IJ I.length (fun i=>xV (aL I i) (-k))
theorem BN(k:Int)(I:List Int):(tL k I).length=I.length:=Fj _ _
theorem vz(f:Option Addr)(c:Nat)(I:List Int)(k:Int)(w:World)(z:ad w f c I)(hn:I.length≤64)(N:-5000≤k∧k≤5000)(m:cC w):
  Calls Tryz.prog 144 #[.slice f I.length c,.int .i64 k] w fun e w'=>e=.returned (.int .u64 (xV (sV (jH (tL k I) (tL k I) I.length)) k:Nat))∧Below w.heap.size w w':=by
 refine yQ f _ c (jH (tL k I) (tL k I) I.length) (sV (jH (tL k I) (tL k I) I.length)) _ k (sF (jH (tL k I) (tL k I) I.length)) w (fun w' g=>ad w' (some ⟨g,0,none⟩) I.length (tL k I)) (fun _ _ _ h d=>h.below d) ?_ ?_ ?_ ?_
 ·have G:=ac w (.cells #[.slice f I.length c] 22)
  have Q:=dq w (.slice f I.length c) 22
  have U:=an w (.cells #[.slice f I.length c] 22)
  generalize w.alloc (.cells #[.slice f I.length c] 22)=F at*
  have H:=ac F (.cells #[.int .i64 k] 3)
  have D:=dq F (.int .i64 k) 3
  have V:=ai Q H
  generalize F.alloc (.cells #[.int .i64 k] 3)=M at*
  have t:Below w.heap.size w M:=G.trans (H.mono G.size)
  rw[U]at D
  refine Calls.mono (BH 168 #[.pointer (some ⟨w.heap.size,0,none⟩),.pointer (some ⟨w.heap.size+1,0,none⟩)] I.length (fun i=>xV (aL I i) (-k)) M Fk (by omega) ?_) ?_
  ·intro w' j d K
   have l:Below w.heap.size w w':=t.trans (d.mono t.size)
   obtain⟨Y,Z,e1,_,z1⟩:=(z.below l).ne (by omega)
   have u0:=ai V d
   have u1:=ai D d
   rw[e1]at u0
   have X:=m.all l
   exact BI (aL I j) (xV (aL I j) (-k)) j I.length c w.heap.size (w.heap.size+1) k Y Z w' K N u0 u1 (z1 j K)
    (fun A h=>oq _ _ A (z.lt j) (X.all h))
  ·rintro e w' ⟨g,rfl,hg,hR,d⟩
   refine⟨g,rfl,?_,t.trans (d.mono t.size),ai D d⟩
   have:=hR.bits (fun x O=>by
    obtain⟨j,_,rfl⟩:=List.mem_map.1 O
    exact pZ _ _ (z.lt j))
   simpa[tL,IJ]using this
 ·intro w' g L d
  have:=wU _ _ _ _ (tL k I) (tL k I) w' L L rfl (by rw[BN];omega) (m.all d)
  rw[BN]at this
  exact this
 ·intro w' d
  exact yG _ w' (iF _ _ _) (m.all d)
 ·intro w' d
  exact oq _ _ w' (wM _ (iF _ _ _)) (m.all d)
theorem ou(a:Nat)(d:a<18446744073709551616):-1074≤eX a∧eX a≤1024:=by
 unfold eX
 split
 ·omega
 ·rename_i h
  have f:=bf a (fun e=>h (by omega)) (fun e=>h (by omega))
  obtain⟨z1,z2,l,m,t,z,A,D,F⟩:=gv a d f (fun e=>h (by omega))
  omega
theorem BO(I:List Int)(k:Nat):jp I k≤9218868437227405312∨jp I k=9221120237041090560:=by
 induction k with
 |zero=>exact .inl (by show 0≤9218868437227405312;omega)
 |succ k ih=>
  show mx (jp I k) (fR (aL I k))≤9218868437227405312∨mx (jp I k) (fR (aL I k))=9221120237041090560
  have f:=jF (aL I k)
  generalize aL I k=x at*
  generalize jp I k=m at*
  by_cases h:fK m=4∨fK (fR x)=4
  ·right;unfold mx;rw[if_pos h]
  ·have e:mx m (fR x)=m∨mx m (fR x)=fR x:=by
    unfold mx
    rw[if_neg h]
    split
    ·exact .inr rfl
    ·exact .inl rfl
   rcases e with e|e
   ·rw[e];exact ih
   ·rw[e]
    left
    have l:fR (fR x)=fR x:=(iE (fR x) f).2.1
    have d:=(aQ (fR x)).1
    rw[l]at d
    rcases Nat.lt_or_ge 9218868437227405312 (fR x)with g|g
    ·exact absurd (.inr (d.2 g)) h
    ·exact g
theorem BQ:ap 9218868437227405312=false∧ap 9221120237041090560=false:=by decide
theorem BR{m:Nat}(h:m<9218868437227405312):ap m=true:=(aQ m).2.2.2 (by rw[(iE m (by omega)).2.1];exact h)
def Gg(I:List Int):Nat:=if jp I I.length=0∨ap (jp I I.length)=false then jp I I.length else xV (sV (jH (tL (eX (jp I I.length)) I) (tL (eX (jp I I.length)) I) I.length)) (eX (jp I I.length))
theorem BS(I:List Int):Gg I<18446744073709551616:=by
 unfold Gg
 split
 ·exact ot _ _
 ·exact pZ _ _ (wM _ (iF _ _ _))
theorem ov(h:Option Addr)(n c m:Nat)(w:World)(D:n≤64)(z:m=0∨m=9218868437227405312∨m=9221120237041090560)
  (l:Calls Tryz.prog 143 #[.slice h n c] w fun e d=>e=.returned (.int .u64 (m:Nat))∧Below w.heap.size w d):
  Calls Tryz.prog 120 #[.slice h n c] w fun e w'=>e=.returned (.tuple #[.int .u64 (m:Nat),.int .i64 0])∧Below w.heap.size w w':=by
 have A:(n:Int)≤64:=by omega
 have t:=aa l
 clear l
 rcases z with rfl|rfl|rfl
 all_goals
  go_enter Tryz.func120,Tryz.ntmps120
  go_wp2_with fail
  refine Calls.mono (uH t) ?_
  rintro e F ⟨rfl,f⟩
  clear t
  go_wp2
  refine bodyPost_ret (v:=.tuple #[.int .u64 _,.int .i64 0]) (by simp[results,Tryz.results120,go_sem]) rfl ⟨rfl,f⟩
theorem yR(z:Option Addr)(n c m o:Nat)(k:Int)(w:World)(Q:n≤64)(L:m≠0)(M:m<9218868437227405312)
  (A:Calls Tryz.prog 143 #[.slice z n c] w fun e d=>e=.returned (.int .u64 (m:Nat))∧Below w.heap.size w d)
  (D:∀w',Below w.heap.size w w'→Calls Tryz.prog 145 #[.int .u64 m] w' fun e d=>e=.returned (.int .i64 k)∧Below w'.heap.size w' d)
  (F:∀w',Below w.heap.size w w'→Calls Tryz.prog 144 #[.slice z n c,.int .i64 k] w' fun e d=>e=.returned (.int .u64 (o:Nat))∧Below w'.heap.size w' d):
  Calls Tryz.prog 120 #[.slice z n c] w fun e w'=>e=.returned (.tuple #[.int .u64 (o:Nat),.int .i64 0])∧Below w.heap.size w w':=by
 have N:(n:Int)≤64:=by omega
 have G:=aa A;have H:=aa D;have K:=aa F
 have U:¬((m:Int)=0):=by omega
 have V:¬((m:Int)=9218868437227405312):=by omega
 have X:¬((m:Int)=9221120237041090560):=by omega
 clear A D F M L
 go_enter Tryz.func120,Tryz.ntmps120
 go_wp2_with fail
 refine Calls.mono (uH G) ?_
 rintro e Y ⟨rfl,f⟩
 have B:=aa f
 clear G f
 go_wp2_with fail
 refine(uH H _ (uH B)).mono ?_
 rintro e Z ⟨rfl,h⟩
 have t:=aa ((uH B).trans (h.mono (uH B).size))
 clear H h B
 go_wp2_with fail
 refine(uH K _ (uH t)).mono ?_
 rintro e w3 ⟨rfl,l⟩
 have O:=aa ((uH t).trans (l.mono (uH t).size))
 clear K l t
 go_wp2
 exact bodyPost_ret (v:=.tuple #[.int .u64 (o:Nat),.int .i64 0]) (by simp[results,Tryz.results120,go_sem]) rfl ⟨rfl,uH O⟩
theorem tq(d:Option Addr)(c:Nat)(I:List Int)(w:World)(z:ad w d c I)(f:I.length≤64)(A:cC w):
  Calls Tryz.prog 120 #[.slice d I.length c] w fun e w'=>e=.returned (.tuple #[.int .u64 (Gg I:Nat),.int .i64 0])∧Below w.heap.size w w':=by
 have m:=eE d c I w z (by omega)
 have D:=ot I I.length
 unfold Gg
 by_cases t:jp I I.length=0
 ·rw[if_pos (.inl t)]
  exact ov d _ c _ w f (.inl t) m
 rcases BO I I.length with h|h
 ·rcases Nat.lt_or_ge (jp I I.length) 9218868437227405312 with g|g
  ·rw[if_neg (fun e=>e.elim t (fun e=>by rw[BR g]at e;cases e))]
   have F:=ou _ D
   exact yR d _ c _ _ (eX (jp I I.length)) w f t g m (fun w' l=>AM _ w' D (A.all l)) (fun w' l=>vz d c I _ w' (z.below l) f (by omega) (A.all l))
  ·have e:jp I I.length=9218868437227405312:=by omega
   rw[if_pos (.inr (by rw[e];exact BQ.1))]
   exact ov d _ c _ w f (.inr (.inl e)) m
 ·rw[if_pos (.inr (by rw[h];exact BQ.2))]
  exact ov d _ c _ w f (.inr (.inr h)) m
theorem kG:(Tryz.prog.info? 31).map (fun i=>(i.zero,i.size,i.bytes))=some (some (.int .u64 0),1,8):=by kernel_rfl
def bL(base:Nat)(w:World)(v:Value)(S:List Nat):Prop:=w.ownsRow base 31 1 v S.length (S.map ib)∧∀x∈S,x<18446744073709551616
theorem bL.below{d:Nat}{w w':World}{v:Value}{S:List Nat}(h:bL d w v S)(f:Below w.heap.size w w'):bL d w' v S:=
 ⟨h.1.kept (row:=none) ⟨f.os,f.tape,f.output,f.size,fun k l _=>f.block k l⟩ (by cases hv:v.ownBlock<;>simp),h.2⟩
theorem bL.bits{f:Nat}{w:World}{v:Value}{S:List Nat}(h:bL f w v S):∃t d,v=.slice t S.length d∧ad w t d (S.map (fun x:Nat=>(x:Int))):=by
 have L:(S.map ib).length=S.length:=by simp
 have D:∀x∈S.map (fun x:Nat=>(x:Int)),0≤x∧x≤18446744073709551615:=by
  intro x G
  obtain⟨y,F,rfl⟩:=List.mem_map.1 G
  have:=h.2 y F
  omega
 rcases h.1.2 with⟨m,M⟩|⟨g,d,H,m,N,z,O,Q,U,K⟩
 ·have:S= []:=List.length_eq_zero_iff.1 (by omega)
  subst this
  exact⟨none,0,m,⟨by simp,by simp,.inl rfl⟩⟩
 ·refine⟨some ⟨g,0,none⟩,d,m,⟨by simp;omega,D,.inr ⟨g,0,rfl,(Array.getElem?_eq_some_iff.1 z).1,fun i A=>?_⟩⟩⟩
  have l:i<S.length:=by simpa using A
  have q:(S.map ib)[i]? =some (.int .u64 ((S[i]:Nat):Int)):=by
   rw[List.getElem?_map,List.getElem?_eq_getElem l];rfl
  rw[←K,List.getElem?_take,if_pos (by omega)]at q
  rw[cell_of_row w g _ _ _ _ z,Nat.zero_add]
  have e:(S.map (fun x:Nat=>(x:Int)))[i]?.getD 0=((S[i]:Nat):Int):=by simp[l]
  rw[e]
  simpa using q
theorem bL.nil(w:World)(d:Nat)(h:d≤w.heap.size):bL d (w.alloc (.cells #[] 31)) (.slice (some ⟨w.heap.size,0,none⟩) 0 0) []:=
 ⟨World.ownsRow_made w #[] 0 h (by simp[maxLen]) (by simp),by simp⟩
theorem bL.snoc{d:Nat}{w:World}{v:Value}{S:List Nat}{x n:Nat}(l:n=S.length)(h:w.ownsRow d 31 1 v (n+1) (S.map ib++[.int .u64 (x:Int)]))(m:∀x∈S,x<18446744073709551616)(t:x<18446744073709551616):bL d w v (S++[x]):=by
 subst l
 refine⟨by simpa[ib]using h,fun y z=>?_⟩
 rcases List.mem_append.1 z with f|f
 ·exact m y f
 ·simp at f;subst f;exact t
def kH(f:Nat→Nat)(k:Nat):List Nat:=(List.range k).map f
theorem iG(f:Nat→Nat)(k:Nat):(kH f k).length=k:=by simp[kH]
theorem kI(f:Nat→Nat)(k:Nat):kH f (k+1)=kH f k++[f k]:=by simp[kH,List.range_succ]
def df(I:List Int):List Nat:=I.map Int.toNat
theorem gC(I:List Int):(df I).length=I.length:=by simp[df]
theorem qf{w:World}{d:Option Addr}{c:Nat}{I:List Int}(h:ad w d c I):(df I).map (fun x:Nat=>(x:Int))=I:=by
 unfold df
 rw[List.map_map]
 refine(List.map_congr_left fun x f=>?_).trans (List.map_id I)
 have:=h.2.1 x f
 simp
 omega
theorem Fl{w:World}{d:Option Addr}{c:Nat}{I:List Int}(h:ad w d c I):∀x∈df I,x<18446744073709551616:=by
 intro x l
 obtain⟨y,f,rfl⟩:=List.mem_map.1 l
 have:=h.2.1 y f
 omega
theorem append_nil(w:World)(d:TypeId)(g c:Nat):
  (Builtin.append_ #[22,22] d #[.slice (some ⟨g,0,none⟩) 0 0,.slice none 0 c]).run Tryz.prog w=.ok (.slice (some ⟨g,0,none⟩) 0 0) w:=by
 simp[Builtin.append_,go_sem]
theorem qg(w:World)(d:Nat)(G:TypeId)(H:Option Addr)(c:Nat)(I:List Int)(g:Nat)(h:ad w H c I)(hl:I.length≤17592186043904)(f:w.ownsRow d 31 1 (.slice (some ⟨g,0,none⟩) 0 0) 0 [])(l:d≤w.heap.size):
  ∃A D w',(Builtin.append_ #[22,22] G #[.slice (some ⟨g,0,none⟩) 0 0,.slice H I.length c]).run Tryz.prog w=.ok (.slice A I.length D) w'∧bL d w' (.slice A I.length D) (df I)∧w.grownBy w' (some g):=by
 obtain⟨X,Y,L,M,N⟩:=info_parts kG
 cases H with
 |none=>
  have V:I= []:=by
   rcases h.2.2 with e|⟨b,t,e,_⟩
   ·exact e
   ·cases e
  subst V
  refine⟨some ⟨g,0,none⟩,0,w,append_nil w G g c,⟨f,by simp[df]⟩,?_⟩
  exact⟨rfl,rfl,rfl,Nat.le_refl _,fun k _ _=>rfl⟩
 |some a=>
  have m:∀j u,((df I).map ib)[j]? =some u→w.cell? (a.add j)=some u:=by
   intro j u z
   rw[List.getElem?_map]at z
   have Q:j<I.length:=by
    rcases Nat.lt_or_ge j I.length with e|e
    ·exact e
    ·rw[List.getElem?_eq_none (by rw[gC];exact e)]at z;cases z
   obtain⟨b,t,F,U,O⟩:=h.ne (by omega)
   cases F
   rw[show(⟨b,t,none⟩:Addr).add j=⟨b,t+j,none⟩ by simp[Addr.add],O j Q]
   rw[←z]
   simp[df,Q,ib,aL]
  obtain⟨Z,w',F,U,O,e4,e5⟩:=run_append_own_at (P:=Tryz.prog) w d 22 G 31 X (.int .u64 0) 1 8 Tryz.underlying22 Y L M N rfl (by decide) _ 0 [] f a I.length c ((df I).map ib) (by simp[df]) m (fun u z=>by
   obtain⟨x,_,rfl⟩:=List.mem_map.1 z
   rfl) (by unfold maxLen;omega) (by omega) l
  have K:bL d w' Z (df I):=⟨by
   rw[gC]
   simpa using U,Fl h⟩
  obtain⟨A,D,rfl,_⟩:=K.bits
  rw[gC]at F K
  exact⟨A,D,w',F,K,O⟩
def my(w:World)(g n:Nat):Prop:=∃cur:Array Value,w.heap[g]? =some (.cells cur 31 (0,0))∧n≤cur.size∧∀j,j<n→∃z:Int,cur[j]? =some (.int .u64 z)
theorem my.cell{w:World}{g n:Nat}(h:my w g n){j:Nat}(d:j<n):∃z:Int,w.cell? ⟨g,j,none⟩=some (.int .u64 z):=by
 obtain⟨f,l,A,m⟩:=h
 obtain⟨z,t⟩:=m j d
 exact⟨z,by rw[cell_of_row w g j _ _ _ l];exact t⟩
theorem my.free{w:World}{g n:Nat}(h:my w g n)(j:Nat):w.frozen? ⟨g,j,none⟩=false:=by
 obtain⟨d,f,_⟩:=h
 exact frozen_of_row w g j _ _ f
theorem my.set{w:World}{g n:Nat}(h:my w g n)(b j:Nat)(z:Int):my (w.setCell ⟨b,j,none⟩ (.int .u64 z)) g n:=by
 obtain⟨d,l,m,t⟩:=h
 by_cases e:g=b
 ·subst e
  refine⟨d.setIfInBounds j (.int .u64 z),heap_setCell_same w g j _ _ _ l,by simpa using m,fun i A=>?_⟩
  rw[Array.getElem?_setIfInBounds]
  by_cases f:j=i
  ·subst f
   rw[if_pos rfl,if_pos (by omega)]
   exact⟨z,rfl⟩
  ·rw[if_neg f]
   exact t i A
 ·exact⟨d,(Below.heap_setCell w ⟨b,j,none⟩ (.int .u64 z) g e).trans l,m,t⟩
theorem my.below{w w':World}{g n:Nat}(h:my w g n)(l:Below w.heap.size w w'):my w' g n:=by
 obtain⟨d,f,m⟩:=h
 exact⟨d,(l.block g (Array.getElem?_eq_some_iff.1 f).1).trans f,m⟩
theorem bL.rowU{d:Nat}{w:World}{S:List Nat}{l:Option Addr}{n z:Nat}(h:bL d w (.slice l n z) S)(H:0<S.length):∃g,l=some ⟨g,0,none⟩∧d≤g∧g<w.heap.size∧my w g S.length:=by
 rcases h.1.2 with⟨_,K⟩|⟨g,D,f,m,F,t,L,M,N,G⟩
 ·omega
 ·simp only[Value.slice.injEq]at m
  refine⟨g,m.1,F,(Array.getElem?_eq_some_iff.1 t).1,f,t,by omega,fun j A=>?_⟩
  have q:(S.map ib)[j]? =some (.int .u64 ((S[j]:Nat):Int)):=by
   rw[List.getElem?_map,List.getElem?_eq_getElem A];rfl
  rw[←G,List.getElem?_take,if_pos (by omega)]at q
  exact⟨_,by simpa using q⟩
theorem ad.other{w:World}{f:Option Addr}{c:Nat}{I:List Int}(h:ad w f c I){p:Addr}(z:I= []∨∃b d,f=some ⟨b,d,none⟩∧b≠p.block)(u:Value):ad (w.setCell p u) f c I:=by
 refine⟨h.1,h.2.1,?_⟩
 rcases h.2.2 with e|⟨b,d,m,D,F⟩
 ·exact .inl e
 rcases z with e|⟨H,t,l,G⟩
 ·exact .inl e
 rw[m]at l
 simp only[Option.some.injEq,Addr.mk.injEq]at l
 obtain⟨rfl,rfl,_⟩:=l
 refine .inr ⟨b,d,m,by simpa[World.setCell]using D,fun i A=>?_⟩
 rw[ah _ _ _ _ G]
 exact F i A
theorem BT(G H:Option Addr)(c d:Nat)(I:List Int)(w:World)(K:ad w G c I)(L:ad w H d I)(M:I.length≤35184372088830):
  Calls Tryz.prog 43 #[.slice G I.length c,.slice H I.length d] w fun e w'=>e=.returned (.bool true)∧Below w.heap.size w w':=by
 have N:=aa K;have O:=aa L
 obtain⟨n,f⟩:∃n,I.length=n:=⟨_,rfl⟩
 rw[f]at M⊢
 have t:=aa f
 clear K L f
 go_enter Tryz.func43,Tryz.ntmps43
 go_wp2_with fail
 go_loopw[5] (fun i wr=>∃k:Nat,k≤n∧i=.int .i64 k∧Hid (Below w.heap.size w wr)) (fun i _=>n-(intOf i).toNat)
 case atStart=>exact⟨0,Nat.zero_le _,rfl,Below.refl _ _⟩
 case round=>
  obtain⟨k,Z,rfl,z⟩:=hrel
  by_cases h:k<n
  ·have Q:(k:Int)<(n:Int):=by omega
   obtain⟨b1,o1,D,U,l⟩:=((uH N).below z.out).ne (by rw[uH t];omega)
   obtain⟨b2,o2,F,V,m⟩:=((uH O).below z.out).ne (by rw[uH t];omega)
   have X:=l k (by rw[uH t];exact h)
   have Y:=m k (by rw[uH t];exact h)
   subst D
   subst F
   clear l m
   generalize aL I k=x at*
   go_wp2_with fail
   go_quiet (fail)
   go_wp2_with fail
   go_round
   case rel=>exact⟨k+1,by omega,by go_num,aa (below_drewN z.out _)⟩
   case measure=>simp[intOf];omega
  ·have A:k=n:=by omega
   subst A
   go_wp2_with fail
   exact bodyPost_ret (v:=.bool true) (by simp[results,Tryz.results43,go_sem]) rfl ⟨rfl,z.out⟩
def bD(H:Nat)(ao:Option Addr)(I:List Int):Prop:=I= []∨∃b off,ao=some ⟨b,off,none⟩∧H≤b
def ja(base H:Nat)(w:World)(po:Option Addr)(n:Nat):Prop:=n=0∨∃g,po=some ⟨g,0,none⟩∧base≤g∧g<H∧my w g n
theorem ja.below{d H:Nat}{w w':World}{f:Option Addr}{n:Nat}(h:ja d H w f n)(l:Below w.heap.size w w'):ja d H w' f n:=by
 rcases h with h|⟨g,m,t,z,A⟩
 ·exact .inl h
 ·exact .inr ⟨g,m,t,z,A.below l⟩
theorem ja.set{d H:Nat}{w:World}{f:Option Addr}{n:Nat}(h:ja d H w f n)(b j:Nat)(z:Int):ja d H (w.setCell ⟨b,j,none⟩ (.int .u64 z)) f n:=by
 rcases h with h|⟨g,l,m,t,A⟩
 ·exact .inl h
 ·exact .inr ⟨g,l,m,t,A.set b j z⟩
theorem ja.base{f d H:Nat}{w:World}{l:Option Addr}{n:Nat}(h:ja f H w l n)(A:d≤f):ja d H w l n:=by
 rcases h with h|⟨g,m,D,t,z⟩
 ·exact .inl h
 ·exact .inr ⟨g,m,by omega,t,z⟩
theorem bL.copy{d:Nat}{w:World}{I:List Int}{f:Option Addr}{m:Nat}(h:bL d w (.slice f I.length m) (df I)):ja d w.heap.size w f I.length:=by
 rcases Nat.eq_zero_or_pos I.length with e|e
 ·exact .inl e
 ·obtain⟨g,t,z,A,l⟩:=h.rowU (by rw[gC];exact e)
  rw[gC]at l
  exact .inr ⟨g,t,z,A,l⟩
theorem ad.far{H:Nat}{w:World}{d:Option Addr}{c:Nat}{I:List Int}(h:ad w d c I)(m:bD H d I){b:Nat}(z:b<H)(j:Nat)(u:Value):ad (w.setCell ⟨b,j,none⟩ u) d c I:=by
 refine h.other ?_ u
 rcases m with e|⟨l,f,t,A⟩
 ·exact .inl e
 ·exact .inr ⟨l,f,t,by show l≠b;omega⟩
theorem bL.same{d:Nat}{w z:World}{I:List Int}{f A:Option Addr}{l c:Nat}(h:bL d w (.slice f I.length l) (df I))(D:ad z A c I):ad w f l I:=by
 obtain⟨F,m,e,t⟩:=h.bits
 simp only[Value.slice.injEq]at e
 obtain⟨rfl,_,rfl⟩:=e
 rw[qf D]at t
 exact t
end Go.Proofs.YtnnfjeieennffaaGreatDoor
