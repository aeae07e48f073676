/- Part 34 of the texts. -/
import Derived.Test.YtmpkkhackbpflaaGreatDoorPartg33
set_option maxHeartbeats 4000000
set_option maxRecDepth 20000
namespace Go.Proofs.YtmpkkhackbpflaaGreatDoor
open Go.RowKit
attribute [local go_sem ↓] Go.wp_at_zero Go.wp_at_succ
theorem ei(w:World)(x:Value)(t:TypeId):(w.alloc (.cells #[x] t)).cell? ⟨w.heap.size,0,none⟩=some x:=by
 rw[cell_of_row _ _ 0 _ _ _ (heap_alloc_new w _)];rfl
theorem aH(w:World)(o:Obj):(w.alloc o).heap.size=w.heap.size+1:=by simp
theorem ag(w:World)(o:Obj):Below w.heap.size w (w.alloc o):=(Below.refl _ _).alloc (Nat.le_refl _) o
theorem ak.lt{w:World}{l:Option Addr}{d:Nat}{I:List Int}(h:ak w l d I)(j:Nat):bN I j<18446744073709551616:=(h.wf j).2
def wJ(I J:List Int):Nat→Nat
 |0=>0
 |k+1=>aV (wJ I J k) (mV (bN I k) (bN J k))
def p7(I:List Int):Nat→Nat
 |0=>0
 |k+1=>mx (p7 I k) (fR (bN I k))
def je(I:List Int):Nat→Bool
 |0=>true
 |k+1=>je I k&&ah (bN I k)
theorem p8(I J:List Int)(k:Nat):wJ I J k<18446744073709551616:=by
 induction k with
 |zero=>show 0<18446744073709551616;omega
 |succ k ih=>exact jT _ _ ih (kL _ _)
theorem Ni(a b:Nat)(d:a<18446744073709551616)(h:b<18446744073709551616):mx a b<18446744073709551616:=by
 unfold mx
 repeat' split
 all_goals omega
theorem xU(I:List Int)(k:Nat):p7 I k<18446744073709551616:=by
 induction k with
 |zero=>show 0<18446744073709551616;omega
 |succ k ih=>exact Ni _ _ ih (by have:=jG (bN I k);omega)
theorem Lt(t z:Option Addr)(n m c d r:Nat)(w:World)
  (C:Calls Tryz.prog 125 #[.int .i64 n,.int .u64 0,.func (.func 228) #[] #[.pointer (some ⟨w.heap.size,0,none⟩),.pointer (some ⟨w.heap.size+1,0,none⟩)]] ((w.alloc (.cells #[.slice t n c] 23)).alloc (.cells #[.slice z m d] 23)) fun e h=>e=.returned (.int .u64 (r:Nat))∧Below w.heap.size w h):
  Calls Tryz.prog 207 #[.slice t n c,.slice z m d] w fun e D=>e=.returned (.int .u64 (r:Nat))∧Below w.heap.size w D:=by
 have K:=ac C
 clear C
 go_enter Tryz.func207,Tryz.ntmps207
 go_wp2_with fail
 refine Calls.mono (uH K) ?_
 rintro e F ⟨rfl,l⟩
 clear K
 go_wp2
 go_ret
 exact⟨rfl,l⟩
theorem Lu(d:Array Value)(w:World):(callFunc 228 d).run Tryz.prog w=.ok (.enter 228 d) w:=by
 simp only[callFunc,go_sem]
 rfl
theorem zR(z D:Option Addr)(c d:Nat)(I J:List Int)(w:World)(M:ak w z c I)(N:ak w D d J)(hl:I.length=J.length)(Y:I.length≤35184372088830)(Z:c8 w):
  Calls Tryz.prog 207 #[.slice z I.length c,.slice D J.length d] w fun e F=>e=.returned (.int .u64 (wJ I J I.length:Nat))∧Below w.heap.size w F:=by
 refine Lt _ _ _ _ _ _ _ w ?_
 have O:=ag w (.cells #[.slice z I.length c] 23)
 have x1:=ei w (.slice z I.length c) 23
 have s1:=aH w (.cells #[.slice z I.length c] 23)
 generalize w.alloc (.cells #[.slice z I.length c] 23)=L at*
 have Q:=ag L (.cells #[.slice D J.length d] 23)
 have T:=ei L (.slice D J.length d) 23
 have y1:=av x1 Q
 generalize L.alloc (.cells #[.slice D J.length d] 23)=X at*
 have H:Below w.heap.size w X:=O.trans (Q.mono O.size)
 rw[s1]at T
 refine Calls.mono (om 228 #[.pointer (some ⟨w.heap.size,0,none⟩),.pointer (some ⟨w.heap.size+1,0,none⟩)] I.length (wJ I J) X Lu Y ?_) ?_
 ·intro F k G V
  have t:Below w.heap.size w F:=H.trans (G.mono H.size)
  obtain⟨g1,o1,e1,_,z1⟩:=(M.below t).ne (by omega)
  obtain⟨g2,o2,e2,_,z2⟩:=(N.below t).ne (by omega)
  have u1:=av y1 G
  have u2:=av T G
  rw[e1]at u1
  rw[e2]at u2
  have U:=Z.all t
  exact Hu (wJ I J k) (bN I k) (bN J k) (mV (bN I k) (bN J k)) (wJ I J (k+1)) k I.length J.length c d w.heap.size (w.heap.size+1) g1 o1 g2 o2 F V (by omega) u1 u2 (z1 k V) (z2 k (by omega))
   (fun l h=>pZ _ _ l (M.lt k) (N.lt k) (U.all h)) (fun l h=>Ev _ _ l (p8 I J k) (kL _ _) (U.all h))
 ·rintro e F ⟨rfl,G⟩
  exact⟨rfl,H.trans (G.mono H.size)⟩
theorem Hv(t z:Option Addr)(n m c d r:Nat)(w:World)
  (F:∀l,Calls Tryz.prog 206 #[.slice t n c,.slice z m d] l fun e h=>e=.returned (.bool true)∧l=h)
  (C:Calls Tryz.prog 207 #[.slice t n c,.slice z m d] w fun e h=>e=.returned (.int .u64 (r:Nat))∧Below w.heap.size w h):
  Calls Tryz.prog 177 #[.slice t n c,.slice z m d] w fun e l=>e=.returned (.tuple #[.int .u64 (r:Nat),.int .i64 0])∧Below w.heap.size w l:=by
 have K:=ac C;have L:=ac F
 clear C F
 go_enter Tryz.func177,Tryz.ntmps177
 go_wp2_with fail
 refine(uH L _).mono ?_
 rintro e G ⟨rfl,rfl⟩
 go_wp2_with fail
 refine Calls.mono (uH K) ?_
 rintro e G ⟨rfl,D⟩
 clear K L
 go_wp2
 exact bodyPost_ret (v:=.tuple #[.int .u64 (r:Nat),.int .i64 0]) (by simp[results,Tryz.results177,go_sem]) rfl ⟨rfl,D⟩
theorem Hw(t z:Option Addr)(n m c d:Nat)(w:World)
  (F:∀h,Calls Tryz.prog 206 #[.slice t n c,.slice z m d] h fun e l=>e=.returned (.bool false)∧h=l):
  Calls Tryz.prog 177 #[.slice t n c,.slice z m d] w fun e h=>e=.returned (.tuple #[.int .u64 0,.int .i64 3])∧Below w.heap.size w h:=by
 have L:=ac F
 clear F
 go_enter Tryz.func177,Tryz.ntmps177
 go_wp2_with fail
 refine(uH L _).mono ?_
 rintro e D ⟨rfl,rfl⟩
 clear L
 go_wp2
 exact bodyPost_ret (v:=.tuple #[.int .u64 0,.int .i64 3]) (by simp[results,Tryz.results177,go_sem]) rfl ⟨rfl,Below.refl _ _⟩
def Ms(I J:List Int):Bool:=decide (I.length≤64∧I.length=J.length)
theorem Ez(l t:Option Addr)(c d:Nat)(I J:List Int)(w:World)(D:ak w l c I)(G:ak w t d J)(H:c8 w):
  Calls Tryz.prog 177 #[.slice l I.length c,.slice t J.length d] w fun e z=>e=.returned (.tuple #[.int .u64 (if Ms I J=true then wJ I J I.length else 0:Nat),.int .i64 (if Ms I J=true then 0 else 3)])∧Below w.heap.size w z:=by
 have F:=fun z=>Ew l t I.length J.length c d z
 cases h:Ms I J
 ·unfold Ms at h
  rw[h]at F
  exact Hw l t _ _ c d w F
 ·unfold Ms at h
  rw[h]at F
  have L:=of_decide_eq_true h
  exact Hv l t _ _ c d _ w F (zR l t c d I J w D G L.2 (by omega) H)
theorem bI.bits{w:World}{g:Nat}{S:List Nat}(h:bI w g S)(l:∀x∈S,x<18446744073709551616):ak w (some ⟨g,0,none⟩) S.length (S.map (fun x:Nat=>(x:Int))):=by
 refine⟨by simp,?_,.inr ⟨g,0,rfl,h.lt,fun i t=>?_⟩⟩
 ·intro x D
  obtain⟨y,z,rfl⟩:=List.mem_map.1 D
  have:=l y z
  omega
 ·have d:i<S.length:=by simpa using t
  rw[Nat.zero_add,h.cell i d]
  simp[d]
def Mt(n:Nat)(f:Nat→Nat):List Int:=((List.range n).map f).map (fun x:Nat=>(x:Int))
theorem Hx(n:Nat)(f:Nat→Nat):(Mt n f).length=n:=by simp[Mt]
theorem Lv(n:Nat)(f:Nat→Nat)(j:Nat)(d:j<n):bN (Mt n f) j=f j:=by simp[Mt,bN,d]
theorem xW(d:Array Value)(w:World):(callFunc 126 d).run Tryz.prog w=.ok (.enter 126 d) w:=by
 simp only[callFunc,go_sem]
 rfl
theorem Bm(d:Array Value)(w:World):(callFunc 108 d).run Tryz.prog w=.ok (.enter 108 d) w:=by
 simp only[callFunc,go_sem]
 rfl
theorem Hy(d:Array Value)(w:World):(callFunc 212 d).run Tryz.prog w=.ok (.enter 212 d) w:=by
 simp only[callFunc,go_sem]
 rfl
theorem vQ(a b:Nat):
  ∃l q,((cO a b=0∧cB a b=false∧l=false∧q=false)∨(cO a b= -1∧cB a b=true∧l=true∧q=false)∨(cO a b=0∧cB a b=true∧l=false∧q=true)∨(cO a b=1∧cB a b=true∧l=false∧q=false))∧cM a b l (cB a b)=mx a b:=by
 by_cases h:fK a=4∨fK b=4
 ·have t:cO a b=0:=by unfold cO;rw[if_pos h]
  have d:cB a b=false:=by unfold cB;rw[if_pos h]
  refine⟨false,false,.inl ⟨t,d,rfl,rfl⟩,?_⟩
  unfold mx cM
  rw[if_pos h,if_pos d]
 ·have t:cO a b=cU (fZ a) (fZ b):=by unfold cO;rw[if_neg h]
  have d:cB a b=true:=by unfold cB;rw[if_neg h]
  have D:mx a b=if fZ a<fZ b then b else a:=by unfold mx;rw[if_neg h]
  have z:∀l,cM a b l true=if l=true then b else a:=fun l=>by unfold cM;rw[if_neg (by decide)]
  rw[t,d,D]
  rcases(show fZ a<fZ b∨fZ a=fZ b∨fZ b<fZ a by omega)with g|g|g
  ·exact⟨true,false,.inr (.inl ⟨pC g,rfl,rfl,rfl⟩),by rw[z,if_pos rfl,if_pos g]⟩
  ·have g':¬fZ a<fZ b:=by omega
   exact⟨false,true,.inr (.inr (.inl ⟨pE g,rfl,rfl,rfl⟩)),by rw[z,if_neg (by decide),if_neg g']⟩
  ·have g':¬fZ a<fZ b:=by omega
   exact⟨false,false,.inr (.inr (.inr ⟨pD g,rfl,rfl,rfl⟩)),by rw[z,if_neg (by decide),if_neg g']⟩
theorem EA(a b:Nat)(w:World)(t:a<18446744073709551616)(z:b<18446744073709551616):
  Calls Tryz.prog 127 #[.int .u64 a,.int .u64 b] w fun r d=>r=.returned (.int .u64 (mx a b:Nat))∧Below w.heap.size w d:=by
 obtain⟨l,q,h,e⟩:=vQ a b
 rw[←e]
 exact Ki a b _ _ l q w h (fun d=>pF a b d t z)
theorem xX(l:Option Addr)(n c r:Nat)(w:World)
  (C:Calls Tryz.prog 125 #[.int .i64 n,.int .u64 0,.func (.func 126) #[] #[.pointer (some ⟨w.heap.size,0,none⟩)]] (w.alloc (.cells #[.slice l n c] 23)) fun e d=>e=.returned (.int .u64 (r:Nat))∧Below w.heap.size w d):
  Calls Tryz.prog 67 #[.slice l n c] w fun e t=>e=.returned (.int .u64 (r:Nat))∧Below w.heap.size w t:=by
 have K:=ac C
 clear C
 go_enter Tryz.func67,Tryz.ntmps67
 go_wp2_with fail
 refine Calls.mono (uH K) ?_
 rintro e z ⟨rfl,h⟩
 clear K
 go_wp2
 go_ret
 exact⟨rfl,h⟩
theorem fO(l:Option Addr)(c:Nat)(I:List Int)(w:World)(G:ak w l c I)(J:I.length≤35184372088830):
  Calls Tryz.prog 67 #[.slice l I.length c] w fun e t=>e=.returned (.int .u64 (p7 I I.length:Nat))∧Below w.heap.size w t:=by
 refine xX l _ c _ w ?_
 have z:=ag w (.cells #[.slice l I.length c] 23)
 have L:=ei w (.slice l I.length c) 23
 generalize w.alloc (.cells #[.slice l I.length c] 23)=Q at*
 refine Calls.mono (om 126 #[.pointer (some ⟨w.heap.size,0,none⟩)] I.length (p7 I) Q xW J ?_) ?_
 ·intro t k D H
  have F:Below w.heap.size w t:=z.trans (D.mono z.size)
  obtain⟨M,N,O,_,z1⟩:=(G.below F).ne (by omega)
  have u1:=av L D
  rw[O]at u1
  exact vP (p7 I k) (bN I k) (fR (bN I k)) (p7 I (k+1)) k I.length c w.heap.size M N t H u1 (z1 k H)
   (fun d h=>pA _ d (G.lt k)) (fun d h=>EA _ _ d (xU I k) (by have:=jG (bN I k);omega))
 ·rintro e t ⟨rfl,D⟩
  exact⟨rfl,z.trans (D.mono z.size)⟩
theorem Bn(l:Option Addr)(n c:Nat)(r:Bool)(w:World)
  (C:Calls Tryz.prog 107 #[.int .i64 n,.bool true,.func (.func 108) #[] #[.pointer (some ⟨w.heap.size,0,none⟩)]] (w.alloc (.cells #[.slice l n c] 23)) fun e d=>e=.returned (.bool r)∧Below w.heap.size w d):
  Calls Tryz.prog 44 #[.slice l n c] w fun e t=>e=.returned (.bool r)∧Below w.heap.size w t:=by
 have K:=ac C
 clear C
 go_enter Tryz.func44,Tryz.ntmps44
 go_wp2_with fail
 refine Calls.mono (uH K) ?_
 rintro e z ⟨rfl,h⟩
 clear K
 go_wp2
 go_ret
 exact⟨rfl,h⟩
theorem du(d:Option Addr)(c:Nat)(I:List Int)(w:World)(G:ak w d c I)(J:I.length≤35184372088830):
  Calls Tryz.prog 44 #[.slice d I.length c] w fun e l=>e=.returned (.bool (je I I.length))∧Below w.heap.size w l:=by
 refine Bn d _ c _ w ?_
 have t:=ag w (.cells #[.slice d I.length c] 23)
 have L:=ei w (.slice d I.length c) 23
 generalize w.alloc (.cells #[.slice d I.length c] 23)=Q at*
 refine Calls.mono (vN 108 #[.pointer (some ⟨w.heap.size,0,none⟩)] I.length (je I) Q Bm J ?_) ?_
 ·intro l k z H
  have F:Below w.heap.size w l:=t.trans (z.mono t.size)
  obtain⟨M,N,O,_,z1⟩:=(G.below F).ne (by omega)
  have u1:=av L z
  rw[O]at u1
  exact xT (je I k) (ah (bN I k)) (bN I k) k I.length c w.heap.size M N l H u1 (z1 k H) (fun D h=>fi _ D (G.lt k))
 ·rintro e l ⟨rfl,z⟩
  exact⟨rfl,t.trans (z.mono t.size)⟩
theorem EB(s r:Nat)(f:Int)(w:World)(C:∀d,Below w.heap.size w d→Calls Tryz.prog 232 #[.int .u64 s] d fun e h=>e=.returned (.tuple #[.int .u64 (r:Nat),.int .u8 f])∧Below d.heap.size d h):
  Calls Tryz.prog 213 #[.int .u64 s] w fun e d=>e=.returned (.int .u64 (r:Nat))∧Below w.heap.size w d:=by
 have K:=ac C
 clear C
 go_enter Tryz.func213,Tryz.ntmps213
 go_wp2_with fail
 refine(uH K _ (Below.refl _ _)).mono ?_
 rintro e t ⟨rfl,l⟩
 clear K
 go_wp2
 go_ret
 exact⟨rfl,l⟩
theorem Bo(I:Option Addr)(n c s r o:Nat)(k f:Int)(w:World)(Z:World→Nat→Prop)(_ZS:∀d l g,Z d g→Below d.heap.size d l→Z l g)
  (J:Calls Tryz.prog 211 #[.int .i64 n,.func (.func 212) #[] #[.pointer (some ⟨w.heap.size,0,none⟩),.pointer (some ⟨w.heap.size+1,0,none⟩)]] ((w.alloc (.cells #[.slice I n c] 23)).alloc (.cells #[.int .i64 k] 3)) fun e l=>∃g,e=.returned (.slice (some ⟨g,0,none⟩) n n)∧Z l g∧Below w.heap.size w l∧l.cell? ⟨w.heap.size+1,0,none⟩=some (.int .i64 k))
  (L:∀d g,Z d g→Below w.heap.size w d→Calls Tryz.prog 207 #[.slice (some ⟨g,0,none⟩) n n,.slice (some ⟨g,0,none⟩) n n] d fun e l=>e=.returned (.int .u64 (s:Nat))∧Below d.heap.size d l)
  (M:∀d,Below w.heap.size w d→Calls Tryz.prog 232 #[.int .u64 s] d fun e l=>e=.returned (.tuple #[.int .u64 (r:Nat),.int .u8 f])∧Below d.heap.size d l)
  (N:∀d,Below w.heap.size w d→Calls Tryz.prog 46 #[.int .u64 r,.int .i64 k] d fun e l=>e=.returned (.int .u64 (o:Nat))∧Below d.heap.size d l):
  Calls Tryz.prog 185 #[.slice I n c,.int .i64 k] w fun e d=>e=.returned (.int .u64 (o:Nat))∧Below w.heap.size w d:=by
 have Q:=ac J;have K2:=ac L;have K3:=ac (fun d (O:Below w.heap.size w d)=>EB s r f d (fun l G=>M l (O.trans (G.mono O.size))));have K4:=ac N
 clear J L M N
 go_enter Tryz.func185,Tryz.ntmps185
 go_wp2_with fail
 refine Calls.mono (uH Q) ?_
 rintro e w1 ⟨g,rfl,X,t,Y⟩
 have B:=ac t;have D:=ac X;have T:=ac Y
 clear Q t X Y
 go_wp2_with fail
 have U:=ac _ZS
 clear _ZS
 refine aG (fun W=>Below w.heap.size w W∧Z W g∧W.cell? ⟨w.heap.size+1,0,none⟩=some (.int .i64 k)) ⟨uH B,uH D,uH T⟩ ?_
 clear B D T
 rintro z ⟨H,zz,cc⟩
 have V:=ac (fun d (h:Below z.heap.size z d)=>(show Below z.heap.size z d∧d.cell? ⟨w.heap.size+1,0,none⟩=some (.int .i64 k)from⟨h,av cc h⟩))
 have F:=ac (fun d (h:Below z.heap.size z d)=>H.trans (h.mono H.size))
 have D:=ac (fun d (h:Below z.heap.size z d)=>uH U _ _ _ zz h)
 clear H zz cc U
 go_region_held3(fun d=>Below z.heap.size z d∧d.cell? ⟨w.heap.size+1,0,none⟩=some (.int .i64 k))
  (first|exact uH V _ (Below.refl _ _).drew|exact uH V _ (by assumption)|fail "KK")
  (first
   |(go_at_call 207;refine(uH K2 _ _ (uH D _ (And.left (by assumption))) (uH F _ (And.left (by assumption)))).mono ?_;rintro e wa ⟨rfl,t⟩;have aa:Below z.heap.size z wa:=Below.trans (And.left (by assumption)) (t.mono (Below.size (And.left (by assumption))));clear t)
   |(go_at_call 213;refine(uH K3 _ (uH F _ (And.left (by assumption)))).mono ?_;rintro e wb ⟨rfl,t⟩;have ad:Below z.heap.size z wb:=Below.trans (And.left (by assumption)) (t.mono (Below.size (And.left (by assumption))));clear t)
   |(go_at_call 46;refine(uH K4 _ (uH F _ (And.left (by assumption)))).mono ?_;rintro e wc ⟨rfl,t⟩;have ae:Below z.heap.size z wc:=Below.trans (And.left (by assumption)) (t.mono (Below.size (And.left (by assumption))));clear t)
   |fail "NO ARM")
 all_goals
  have hn:Below z.heap.size z wc:=And.left (by assumption)
  go_wp2
  go_ret
  exact⟨rfl,uH F _ hn⟩
def tL(k:Int)(I:List Int):List Int:=Mt I.length (fun i=>xV (bN I i) (-k))
theorem EF(k:Int)(I:List Int):(tL k I).length=I.length:=Hx _ _
theorem xY(t:Option Addr)(c:Nat)(I:List Int)(k:Int)(w:World)(G:ak w t c I)(hn:I.length≤64)(U:-5000≤k∧k≤5000)(D:c8 w):
  Calls Tryz.prog 185 #[.slice t I.length c,.int .i64 k] w fun e l=>e=.returned (.int .u64 (xV (sV (wJ (tL k I) (tL k I) I.length)) k:Nat))∧Below w.heap.size w l:=by
 refine Bo t _ c (wJ (tL k I) (tL k I) I.length) (sV (wJ (tL k I) (tL k I) I.length)) _ k (sF (wJ (tL k I) (tL k I) I.length)) w (fun l g=>ak l (some ⟨g,0,none⟩) I.length (tL k I)) (fun _ _ _ h d=>h.below d) ?_ ?_ ?_ ?_
 ·have M:=ag w (.cells #[.slice t I.length c] 23)
  have X:=ei w (.slice t I.length c) 23
  have Y:=aH w (.cells #[.slice t I.length c] 23)
  generalize w.alloc (.cells #[.slice t I.length c] 23)=L at*
  have N:=ag L (.cells #[.int .i64 k] 3)
  have J:=ei L (.int .i64 k) 3
  have Z:=av X N
  generalize L.alloc (.cells #[.int .i64 k] 3)=T at*
  have F:Below w.heap.size w T:=M.trans (N.mono M.size)
  rw[Y]at J
  refine Calls.mono (Ex 212 #[.pointer (some ⟨w.heap.size,0,none⟩),.pointer (some ⟨w.heap.size+1,0,none⟩)] I.length (fun i=>xV (bN I i) (-k)) T Hy (by omega) ?_) ?_
  ·intro l j d O
   have z:Below w.heap.size w l:=F.trans (d.mono F.size)
   obtain⟨g1,o1,e1,_,z1⟩:=(G.below z).ne (by omega)
   have u0:=av Z d
   have u1:=av J d
   rw[e1]at u0
   have T':=D.all z
   exact Ey (bN I j) (xV (bN I j) (-k)) j I.length c w.heap.size (w.heap.size+1) k g1 o1 l O U u0 u1 (z1 j O)
    (fun H h=>lh _ _ H (G.lt j) (T'.all h))
  ·rintro e l ⟨g,rfl,hg,hR,d⟩
   refine⟨g,rfl,?_,F.trans (d.mono F.size),av J d⟩
   have:=hR.bits (fun x V=>by
    obtain⟨j,_,rfl⟩:=List.mem_map.1 V
    exact zq _ _ (G.lt j))
   simpa[tL,Mt]using this
 ·intro l g Q d
  have:=zR _ _ _ _ (tL k I) (tL k I) l Q Q rfl (by rw[EF];omega) (D.all d)
  rw[EF]at this
  exact this
 ·intro l d
  exact Bl _ l (p8 _ _ _) (D.all d)
 ·intro l d
  exact lh _ _ l (Jm _ (p8 _ _ _)) (D.all d)
theorem vR(a:Nat)(d:a<18446744073709551616):-1074≤eX a∧eX a≤1024:=by
 unfold eX
 split
 ·omega
 ·rename_i h
  have l:=gt a (fun e=>h (by omega)) (fun e=>h (by omega))
  obtain⟨z1,z2,t,z,D,F,G,H,I⟩:=fL a d l (fun e=>h (by omega))
  omega
theorem EG(I:List Int)(k:Nat):p7 I k≤9218868437227405312∨p7 I k=9221120237041090560:=by
 induction k with
 |zero=>exact .inl (by show 0≤9218868437227405312;omega)
 |succ k ih=>
  show mx (p7 I k) (fR (bN I k))≤9218868437227405312∨mx (p7 I k) (fR (bN I k))=9221120237041090560
  have l:=jG (bN I k)
  generalize bN I k=x at*
  generalize p7 I k=m at*
  by_cases h:fK m=4∨fK (fR x)=4
  ·right;unfold mx;rw[if_pos h]
  ·have e:mx m (fR x)=m∨mx m (fR x)=fR x:=by
    unfold mx
    rw[if_neg h]
    split
    ·exact .inr rfl
    ·exact .inl rfl
   rcases e with e|e
   ·rw[e];exact ih
   ·rw[e]
    left
    have t:fR (fR x)=fR x:=(iJ (fR x) l).2.1
    have d:=(cF (fR x)).1
    rw[t]at d
    rcases Nat.lt_or_ge 9218868437227405312 (fR x)with g|g
    ·exact absurd (.inr (d.2 g)) h
    ·exact g
theorem EH:ah 9218868437227405312=false∧ah 9221120237041090560=false:=by decide
theorem EI{m:Nat}(h:m<9218868437227405312):ah m=true:=(cF m).2.2.2 (by rw[(iJ m (by omega)).2.1];exact h)
def Mu(I:List Int):Nat:=if p7 I I.length=0∨ah (p7 I I.length)=false then p7 I I.length else xV (sV (wJ (tL (eX (p7 I I.length)) I) (tL (eX (p7 I I.length)) I) I.length)) (eX (p7 I I.length))
theorem Lw(I:List Int):Mu I<18446744073709551616:=by
 unfold Mu
 split
 ·exact xU _ _
 ·exact zq _ _ (Jm _ (p8 _ _ _))
theorem p9(l:Option Addr)(n c m:Nat)(w:World)(H:n≤64)(D:m=0∨m=9218868437227405312∨m=9221120237041090560)
  (t:Calls Tryz.prog 67 #[.slice l n c] w fun e d=>e=.returned (.int .u64 (m:Nat))∧Below w.heap.size w d):
  Calls Tryz.prog 156 #[.slice l n c] w fun e F=>e=.returned (.tuple #[.int .u64 (m:Nat),.int .i64 0])∧Below w.heap.size w F:=by
 have G:(n:Int)≤64:=by omega
 have z:=ac t
 clear t
 rcases D with rfl|rfl|rfl
 all_goals
  go_enter Tryz.func156,Tryz.ntmps156
  go_wp2_with fail
  refine Calls.mono (uH z) ?_
  rintro e I ⟨rfl,h⟩
  clear z
  go_wp2
  refine bodyPost_ret (v:=.tuple #[.int .u64 _,.int .i64 0]) (by simp[results,Tryz.results156,go_sem]) rfl ⟨rfl,h⟩
theorem Bq(F:Option Addr)(n c m o:Nat)(k:Int)(w:World)(U:n≤64)(N:m≠0)(O:m<9218868437227405312)
  (G:Calls Tryz.prog 67 #[.slice F n c] w fun e d=>e=.returned (.int .u64 (m:Nat))∧Below w.heap.size w d)
  (H:∀h,Below w.heap.size w h→Calls Tryz.prog 186 #[.int .u64 m] h fun e d=>e=.returned (.int .i64 k)∧Below h.heap.size h d)
  (I:∀h,Below w.heap.size w h→Calls Tryz.prog 185 #[.slice F n c,.int .i64 k] h fun e d=>e=.returned (.int .u64 (o:Nat))∧Below h.heap.size h d):
  Calls Tryz.prog 156 #[.slice F n c] w fun e h=>e=.returned (.tuple #[.int .u64 (o:Nat),.int .i64 0])∧Below w.heap.size w h:=by
 have Q:(n:Int)≤64:=by omega
 have J:=ac G;have L:=ac H;have M:=ac I
 have V:¬((m:Int)=0):=by omega
 have X:¬((m:Int)=9218868437227405312):=by omega
 have Y:¬((m:Int)=9221120237041090560):=by omega
 clear G H I O N
 go_enter Tryz.func156,Tryz.ntmps156
 go_wp2_with fail
 refine Calls.mono (uH J) ?_
 rintro e Z ⟨rfl,l⟩
 have B:=ac l
 clear J l
 go_wp2_with fail
 refine(uH L _ (uH B)).mono ?_
 rintro e w2 ⟨rfl,t⟩
 have D:=ac ((uH B).trans (t.mono (uH B).size))
 clear L t B
 go_wp2_with fail
 refine(uH M _ (uH D)).mono ?_
 rintro e w3 ⟨rfl,z⟩
 have T:=ac ((uH D).trans (z.mono (uH D).size))
 clear M z D
 go_wp2
 exact bodyPost_ret (v:=.tuple #[.int .u64 (o:Nat),.int .i64 0]) (by simp[results,Tryz.results156,go_sem]) rfl ⟨rfl,uH T⟩
theorem vS(d:Option Addr)(c:Nat)(I:List Int)(w:World)(G:ak w d c I)(l:I.length≤64)(H:c8 w):
  Calls Tryz.prog 156 #[.slice d I.length c] w fun e t=>e=.returned (.tuple #[.int .u64 (Mu I:Nat),.int .i64 0])∧Below w.heap.size w t:=by
 have D:=fO d c I w G (by omega)
 have J:=xU I I.length
 unfold Mu
 by_cases F:p7 I I.length=0
 ·rw[if_pos (.inl F)]
  exact p9 d _ c _ w l (.inl F) D
 rcases EG I I.length with h|h
 ·rcases Nat.lt_or_ge (p7 I I.length) 9218868437227405312 with g|g
  ·rw[if_neg (fun e=>e.elim F (fun e=>by rw[EI g]at e;cases e))]
   have L:=vR _ J
   exact Bq d _ c _ _ (eX (p7 I I.length)) w l F g D (fun t z=>DX _ t J (H.all z)) (fun t z=>xY d c I _ t (G.below z) l (by omega) (H.all z))
  ·have e:p7 I I.length=9218868437227405312:=by omega
   rw[if_pos (.inr (by rw[e];exact EH.1))]
   exact p9 d _ c _ w l (.inr (.inl e)) D
 ·rw[if_pos (.inr (by rw[h];exact EH.2))]
  exact p9 d _ c _ w l (.inr (.inr h)) D
theorem vT(I:List Int):∀(m k:Nat),k≤m→je I m=true→je I k=true:=by
 intro m
 induction m with
 |zero=>intro k l _;rw[show k=0 by omega];rfl
 |succ m ih=>
  intro k l h
  have d:(je I m&&ah (bN I m))=true:=h
  rw[Bool.and_eq_true]at d
  by_cases e:k=m+1
  ·subst e;exact h
  ·exact ih k (by omega) d.1
theorem LA(I:List Int)(n k:Nat)(l:k<n)(h:ah (bN I k)=false):je I n=false:=by
 cases e:je I n
 ·rfl
 ·have d:(je I k&&ah (bN I k))=true:=vT I n (k+1) (by omega) e
  rw[h,Bool.and_false]at d
  cases d
end Go.Proofs.YtmpkkhackbpflaaGreatDoor
namespace Go.Proofs.YtmpkkhackbpflaaGreatDoor
open Go.RowKit
def EJ(w:World)(v:Value)(lo z:Int):Prop:=bc w v (oM z) (oE z lo)
theorem Hz(b:Nat)(w:World)(h:b<18446744073709551616)(l:ah b=true):
  Calls Tryz.prog 49 #[.int .u64 b] w fun r d=>∃u,r=.returned u∧EJ d u (-1074) (fZ b)∧Below w.heap.size w d:=by
 obtain⟨t,z⟩:=fJ b h l
 unfold EJ
 rw[t,z]
 exact pu b w h
end Go.Proofs.YtmpkkhackbpflaaGreatDoor
