/- Part 14 of the texts. -/
import Derived.Test.YtmpkkhackbpflaaGreatDoorPartg13
import Derived.Shelf.Spec.TrailingZeros
set_option maxHeartbeats 1000000
namespace Go.Proofs.YtmpkkhackbpflaaGreatDoor
open Go.RowKit
def jm(x:Int):Bool:=decide (-9223372036854775808≤x∧x≤9223372036854775807)
def tR(neg:Bool)(L:List Nat):Int:=if aE neg L then(if jm (aj neg L)then 0 else 2)else 1
def tT(neg:Bool)(L:List Nat):Int:=if aE neg L&&jm (aj neg L)then aj neg L else 0
theorem pf(v x i:Nat)(d:v<2^i):v|||x*2^i=v+x*2^i:=by
 have:=Nat.two_pow_add_eq_or_of_lt d x
 rw[Nat.mul_comm x,Nat.or_comm,←this];omega
theorem Gs(v x k:Nat)(h:k≤1)(d:v<4294967296^k)(l:x<4294967296):
  bits BinOp.or IntKind.u64 (v:Int) (IntKind.u64.wrap ((x:Int)*2^(k*32)))=((v+4294967296^k*x:Nat):Int):=by
 rcases(show k=0∨k=1 by omega)with rfl|rfl
 ·have e:IntKind.u64.wrap ((x:Int)*2^(0*32))=((x:Nat):Int):=by
   simp only[IntKind.wrap,IntKind.signed,IntKind.bits];simp;omega
  rw[e,u64_or_nat v x (by simp at d;omega) (by omega)]
  have:v=0:=by simpa using d
  subst this;simp
 ·have e:IntKind.u64.wrap ((x:Int)*2^(1*32))=((x*2^32:Nat):Int):=by
   simp only[IntKind.wrap,IntKind.signed,IntKind.bits];simp;omega
  rw[e,u64_or_nat v (x*2^32) (by simp at d;omega) (by omega),pf v x 32 (by simpa using d)]
  congr 1
  simp;omega
theorem AA(v:Nat)(d:v≤9223372036854775808):wrap64 (IntKind.u64.wrap (-(v:Int)))= -(v:Int):=by
 unfold wrap64
 simp only[IntKind.wrap,IntKind.signed,IntKind.bits]
 simp
 omega
theorem uB(neg:Bool)(G:Option Addr)(l:Nat)(L:List Nat)(w:World)(h:af w G l L)(X:aE neg L=true)(hl:L.length≤2):
  Calls Tryz.prog 251 #[.agg #[.bool neg,.slice G L.length l]] w fun e w'=>e=.returned (.tuple #[.int .i64 (tT neg L),.int .i64 (tR neg L)])∧Below w.heap.size w w':=by
 have D:=e9 neg G l L (w.alloc (.cells #[.bool neg,.slice G L.length l] 55)) (h.below ((Below.refl _ _).alloc (Nat.le_refl _) _)) (by omega)
 have hz:fu neg L=0:=by simp[fu,X]
 rw[hz]at D
 have hF:(neg=true→val L≤9223372036854775808→tT neg L= -(val L:Int)∧tR neg L=0)∧(neg=true→9223372036854775808<val L→tT neg L=0∧tR neg L=2)∧(neg=false→val L<9223372036854775808→tT neg L=(val L:Int)∧tR neg L=0)∧(neg=false→9223372036854775808≤val L→tT neg L=0∧tR neg L=2):=by
  unfold tT tR
  rw[X]
  refine⟨?_,?_,?_,?_⟩<;>(rintro rfl d;simp only[aj,jm,if_true,Bool.true_and,Bool.false_eq_true,if_false])
  ·rw[decide_eq_true (by omega)];simp
  ·rw[decide_eq_false (by omega)];simp
  ·rw[decide_eq_true (by omega)];simp
  ·rw[decide_eq_false (by omega)];simp
 have z:=ac hF
 clear hF
 generalize tT neg L=r at*
 generalize tR neg L=e2 at*
 have I:=ac D
 clear D hz X
 go_enter Tryz.func251,Tryz.ntmps251
 go_wp2_with fail
 refine(uH I).mono ?_
 rintro e w1 ⟨rfl,F⟩
 have Y:aC w1 w.heap.size (.bool neg) (.slice G L.length l):=(aC.new _ _ _).below F (by simp)
 have p0:=Y.c0;have p1:=Y.c1
 have t:Below w.heap.size w w1:=((Below.refl _ _).alloc (Nat.le_refl _) _).trans (F.mono (by simp))
 clear Y F I
 go_wp2
 go_loop [5,19] (fun s i=>∃k:Nat,k≤L.length∧i=.int .i64 k∧s=.int .u64 ((val (L.take k):Nat):Int)) (fun _ i=>L.length-(intOf i).toNat)
 case atStart=>exact⟨0,Nat.zero_le _,rfl,by simp[val]⟩
 case round=>
  obtain⟨k,hk,rfl,rfl⟩:=hrel
  by_cases J:k<L.length
  ·obtain⟨b,V,ae,hb,hc⟩:=h.ne (by omega)
   have c1:=hc k J
   have d1:w1.cell? ⟨b,V+k,none⟩=some (.int .u32 ((L[k]?.getD 0:Nat):Int)):=by rw[t.cell (p:=⟨b,V+k,none⟩) hb];exact c1
   have hx:=h.lt k
   have d:=iy L h.2.1 k
   have M:=aR L k
   have Z:=ac M
   clear c1 hc M
   generalize L[k]?.getD 0=x at*
   generalize ai:val (L.take k)=v at*
   clear ai h
   subst ae
   have aa:k≤1:=by omega
   have N:=Gs v x k aa d hx
   have ad:=ac N
   clear N
   go_wp2
   go_round
   case rel=>exact⟨k+1,by omega,by go_num,dg (by rw[uH ad,uH Z])⟩
   case measure=>simp[intOf];omega
  ·have O:k=L.length:=by omega
   rw[O,List.take_length]
   clear O hk J
   have Q:=eW L h.2.1
   have T:val L<18446744073709551616:=by
    refine Nat.lt_of_lt_of_le Q ?_
    have:=Nat.pow_le_pow_right (n:=4294967296) (by decide) hl
    simpa using this
   generalize val L=v at*
   clear Q h
   cases neg
   ·rcases Nat.lt_or_ge v 9223372036854775808 with d|d
    ·have H:=ac ((uH z).2.2.1 rfl d)
     have U:(v:Int)<9223372036854775808:=by omega
     clear z d T
     go_wp2
     go_ret2
     exact⟨iT (uH H).1.symm (uH H).2.symm,t⟩
    ·have H:=ac ((uH z).2.2.2 rfl d)
     have U:¬(v:Int)<9223372036854775808:=by omega
     clear z
     go_wp2
     go_ret2
     exact⟨iT (uH H).1.symm (uH H).2.symm,t⟩
   ·rcases Nat.lt_or_ge 9223372036854775808 v with d|d
    ·have H:=ac ((uH z).2.1 rfl d)
     have U:¬(v:Int)≤9223372036854775808:=by omega
     clear z
     go_wp2
     go_ret2
     exact⟨iT (uH H).1.symm (uH H).2.symm,t⟩
    ·have H:=ac ((uH z).1 rfl d)
     clear z
     go_wp2
     go_ret2
     refine⟨iT ?_ (uH H).2.symm,t⟩
     rw[(uH H).1]
     exact AA v d
theorem rH(neg:Bool)(D:Option Addr)(d:Nat)(L:List Nat)(w:World)(h:af w D d L)(O:L.length≤35184372088830):
  Calls Tryz.prog 251 #[.agg #[.bool neg,.slice D L.length d]] w fun e T=>e=.returned (.tuple #[.int .i64 (tT neg L),.int .i64 (tR neg L)])∧Below w.heap.size w T:=by
 cases hr:aE neg L
 ·have l:=e9 neg D d L (w.alloc (.cells #[.bool neg,.slice D L.length d] 55)) (h.below ((Below.refl _ _).alloc (Nat.le_refl _) _)) O
  have F:fu neg L=1:=by simp[fu,hr]
  rw[F]at l
  have z:=ac l
  have H:=ac (show tT neg L=0∧tR neg L=1 by simp[tT,tR,hr])
  generalize tT neg L=r at*
  generalize tR neg L=V at*
  clear l F hr
  go_enter Tryz.func251,Tryz.ntmps251
  go_wp2_with fail
  refine(uH z).mono ?_
  rintro e N ⟨rfl,t⟩
  go_wp2
  go_ret2
  exact⟨iT (uH H).1.symm (uH H).2.symm,((Below.refl _ _).alloc (Nat.le_refl _) _).trans (t.mono (by simp))⟩
 ·by_cases I:L.length≤2
  ·exact uB neg D d L w h hr I
  ·have l:=e9 neg D d L (w.alloc (.cells #[.bool neg,.slice D L.length d] 55)) (h.below ((Below.refl _ _).alloc (Nat.le_refl _) _)) O
   have F:fu neg L=0:=by simp[fu,hr]
   rw[F]at l
   have z:=ac l
   have G:18446744073709551616≤val L:=by
    rcases(aN hr).2.1 with e|e
    ·rw[e]at I;simp at I
    ·have X:=mY L e
     have U:=Nat.pow_le_pow_right (n:=4294967296) (by decide) (show 2≤L.length-1 by omega)
     simp at U;omega
   have Q:jm (aj neg L)=false:=by
    unfold jm aj
    rw[decide_eq_false_iff_not]
    cases neg<;>simp<;>omega
   have H:=ac (show tT neg L=0∧tR neg L=2 by simp[tT,tR,hr,Q])
   generalize tT neg L=r at*
   generalize tR neg L=V at*
   clear l F hr G Q
   go_enter Tryz.func251,Tryz.ntmps251
   go_wp2_with fail
   refine(uH z).mono ?_
   rintro e N ⟨rfl,t⟩
   have J:aC N w.heap.size (.bool neg) (.slice D L.length d):=(aC.new _ _ _).below t (by simp)
   have Y:=J.c0;have Z:=J.c1
   have M:Below w.heap.size w N:=((Below.refl _ _).alloc (Nat.le_refl _) _).trans (t.mono (by simp))
   clear J t z
   go_wp2
   go_ret2
   exact⟨iT (uH H).1.symm (uH H).2.symm,M⟩
theorem g7(n:Int)(w:World)(h0:-9223372036854775808≤n)(h1:n≤9223372036854775807):
  Calls Tryz.prog 94 #[.int .i64 n] w fun e U=>∃v,e=.returned v∧aP 2 w.heap.size U v n∧Below w.heap.size w U:=by
 obtain⟨m,t⟩:∃m,m=n.natAbs:=⟨_,rfl⟩
 have V:bM [m%4294967296,m/4294967296]:=by intro x hx;simp at hx;omega
 have X:=ac V
 have L:=ac t
 clear V t
 by_cases hn:n<0
 ·have z:aj true [m%4294967296,m/4294967296]=n:=by
   have:=uH L
   unfold aj;rw[if_pos rfl,oD];omega
  have M:=ac z
  clear z
  go_enter Tryz.func94,Tryz.ntmps94
  go_wp2_with fail
  have t:=uH L
  have D:=kc (w.alloc (.cells #[.bool false,.slice none 0 0] 55)) (w.heap.size+1) ((-(n+1)+1)%4294967296) ((-(n+1)+1)/4294967296) (m%4294967296) (m/4294967296) (by simp) (by omega) (by omega)
  refine(dI (w.heap.size+1) true (some ⟨w.heap.size+1,0,none⟩) 2 [m%4294967296,m/4294967296] _ (D.limbs (uH X) 2 (by simp)) (.inr ⟨_,_,rfl,Nat.le_refl _⟩) (by simp)).mono ?_
  rw[uH M]
  rintro e T ⟨v,rfl,⟨F,G,H,I,rfl,J⟩,d⟩
  have h:aC T w.heap.size (.bool false) (.slice none 0 0):=((aC.new _ _ _).old _).below d (by simp;omega)
  have N:=h.c0;have O:=h.c1;have Y:=h.free 0;have Z:=h.free 1
  have Q:=ac J
  have l:=ac ((((Below.refl _ w).alloc (Nat.le_refl _) (.cells #[.bool false,.slice none 0 0] 55)).alloc (by simp) _).trans (d.mono (by simp;omega)))
  clear J d h D t
  go_wp2
  refine bodyPost_ret (v:=.agg #[.bool F,.slice G I.length H]) (by simp[results,Tryz.results94,go_sem,N,O]) rfl ⟨.agg #[.bool F,.slice G I.length H],rfl,?_,?_⟩
  ·exact aP.stored (uH Q) (by simp) (by simp) (by omega) _ _
  ·exact((uH l).setCell (by simp) _).setCell (by simp) _
 ·have z:aj false [m%4294967296,m/4294967296]=n:=by
   have:=uH L
   unfold aj;rw[if_neg (by decide),oD];omega
  have M:=ac z
  clear z
  go_enter Tryz.func94,Tryz.ntmps94
  go_wp2_with fail
  have t:=uH L
  have D:=kc (w.alloc (.cells #[.bool false,.slice none 0 0] 55)) (w.heap.size+1) (n%4294967296) (n/4294967296) (m%4294967296) (m/4294967296) (by simp) (by omega) (by omega)
  refine(dI (w.heap.size+1) false (some ⟨w.heap.size+1,0,none⟩) 2 [m%4294967296,m/4294967296] _ (D.limbs (uH X) 2 (by simp)) (.inr ⟨_,_,rfl,Nat.le_refl _⟩) (by simp)).mono ?_
  rw[uH M]
  rintro e T ⟨v,rfl,⟨F,G,H,I,rfl,J⟩,d⟩
  have h:aC T w.heap.size (.bool false) (.slice none 0 0):=((aC.new _ _ _).old _).below d (by simp;omega)
  have N:=h.c0;have O:=h.c1;have Y:=h.free 0;have Z:=h.free 1
  have Q:=ac J
  have l:=ac ((((Below.refl _ w).alloc (Nat.le_refl _) (.cells #[.bool false,.slice none 0 0] 55)).alloc (by simp) _).trans (d.mono (by simp;omega)))
  clear J d h D t
  go_wp2
  refine bodyPost_ret (v:=.agg #[.bool F,.slice G I.length H]) (by simp[results,Tryz.results94,go_sem,N,O]) rfl ⟨.agg #[.bool F,.slice G I.length H],rfl,?_,?_⟩
  ·exact aP.stored (uH Q) (by simp) (by simp) (by omega) _ _
  ·exact((uH l).setCell (by simp) _).setCell (by simp) _
def c8(w:World):Prop:=TabAt 1 Lib.deBruijn32tab w
theorem c8.below{w d:World}{B:Nat}(h:c8 w)(l:Below B w d)(t:1<B):c8 d:=fun j z=>by
 rw[l.cell (p:=⟨1,j,none⟩) t]
 exact h j z
theorem c8.pos{w:World}(h:c8 w):1<w.heap.size:=World.block_lt_of_cell? w _ (h 0 (by decide))
theorem c8.all{w d:World}(h:c8 w)(l:Below w.heap.size w d):c8 d:=h.below l h.pos
theorem AC(x k d:Nat)(w:World)(t:((x:Int)==0)=false)
  (h:bits BinOp.and IntKind.u32 (x:Int) (-(x:Int)%4294967296)*125613361%4294967296/134217728=(d:Int))
  (D:d<32) (F:k<32) (l:w.cell? ⟨1,d,none⟩=some (.int .u8 k)):
  Calls Tryz.prog 247 #[.int .u32 x] w fun e z=>e=.returned (.int .i64 k)∧w=z:=by
 go_enter Tryz.func247,Tryz.ntmps247
 go_wp2_with(simp only[h])
 go_ret
 exact⟨rfl,rfl⟩
theorem Dj(x:Nat)(w:World)(z:x<4294967296)(G:c8 w):
  Calls Tryz.prog 247 #[.int .u32 x] w fun e H=>e=.returned (.int .i64 (Lib.ctz 32 x))∧w=H:=by
 by_cases h:x=0
 ·subst h
  go_enter Tryz.func247,Tryz.ntmps247
  go_wp2
  go_ret
  exact⟨rfl,rfl⟩
 ·obtain⟨l,D⟩:=Lib.lowest_bit 32 x h z
  obtain⟨F,t⟩:=Lib.deBruijn32_at _ D
  have d:=G _ F
  rw[t]at d
  exact AC x _ _ w (by simp;omega) (tz32_key x _ z h l) F D d
theorem d7(n m:Int)(w:World)(G:0≤m)(D:m≤100000):
  Calls Tryz.prog 221 #[.int .i64 n,.int .i64 m] w fun e F=>e=.returned (.bool (decide (-m≤n∧n≤m)))∧w=F:=by
 have H:IntKind.i64.wrap (-m)= -m:=by
  simp only[IntKind.wrap,IntKind.signed,IntKind.bits]
  simp
  omega
 by_cases d:-m≤n
 ·by_cases l:n≤m
  ·go_enter Tryz.func221,Tryz.ntmps221
   go_wp2
   go_ret
   exact⟨iL (by simp[d,l]),rfl⟩
  ·go_enter Tryz.func221,Tryz.ntmps221
   go_wp2
   go_ret
   exact⟨iL (by simp[l]),rfl⟩
 ·have t:¬(-m≤n∧n≤m):=fun h=>d h.1
  have z:=ac (decide_eq_false t)
  rw[uH z]
  clear t z
  go_enter Tryz.func221,Tryz.ntmps221
  go_wp2
  go_ret
  exact⟨rfl,rfl⟩
theorem d8(neg:Bool)(l:Option Addr)(d:Nat)(n:Nat)(w:World):
  Calls Tryz.prog 236 #[.agg #[.bool neg,.slice l n d]] w fun e t=>e=.returned (.bool (decide (n=0)))∧Below w.heap.size w t:=by
 by_cases h:n=0
 ·subst h
  go_enter Tryz.func236,Tryz.ntmps236
  go_wp2
  go_ret
  exact⟨rfl,(Below.refl _ _).alloc (Nat.le_refl _) _⟩
 ·have z:((n:Int)==0)=false:=by simp;omega
  have H:=ac (decide_eq_false h)
  clear h
  go_enter Tryz.func236,Tryz.ntmps236
  go_wp2
  go_ret
  exact⟨iL (uH H).symm,(Below.refl _ _).alloc (Nat.le_refl _) _⟩
def gr(v:Nat):Int:=if v=0 then 0 else(tz v:Int)
theorem mg(v:Nat)(h:v≠0):gr v=tz v:=by unfold gr;rw[if_neg h]
theorem mh(neg:Bool)(ao:Option Addr)(d:Nat)(L:List Nat)(w:World)(h:af w ao d L)(hl:L.length≤1073741824)(hT:c8 w):
  Calls Tryz.prog 235 #[.agg #[.bool neg,.slice ao L.length d]] w fun e U=>e=.returned (.int .i64 (gr (val L)))∧Below w.heap.size w U:=by
 by_cases F:L= []
 ·subst F
  go_enter Tryz.func235,Tryz.ntmps235
  go_wp2
  refine wp_loop_rounds 1 ?_
  rw[rounds_succ]
  go_wp2
  go_ret
  exact⟨rfl,(Below.refl _ _).alloc (Nat.le_refl _) _⟩
 obtain⟨b,D,rfl,hb,hc⟩:=h.ne (List.length_pos_iff.2 F)
 have ad:=h.1
 have l:Below w.heap.size w (w.alloc (.cells #[.bool neg,.slice (some ⟨b,D,none⟩) L.length d] 55)):=(Below.refl _ _).alloc (Nat.le_refl _) _
 have G:∀i,i<L.length→(w.alloc (.cells #[.bool neg,.slice (some ⟨b,D,none⟩) L.length d] 55)).cell? ⟨b,D+i,none⟩=some (.int .u32 ((L[i]?.getD 0:Nat):Int)):=fun i hi=>by
  rw[l.cell (p:=⟨b,D+i,none⟩) hb];exact hc i hi
 have V:=hT.all l
 have X:=ac (fun k x=>Dd L k x)
 have Y:=ac (fun h:val L=0=>(show gr (val L)=0 by rw[h];rfl))
 have T:=ac (fun h=>mg (val L) h)
 have Z:=ac (fun i=>h.lt i)
 have HV:=ac (fun k (hk:L.length≤k)=>eu L k hk)
 have HS:=ac (fun k=>aR L k)
 have O:=ac l
 clear hT hc h hb F l
 generalize gr (val L)=z at*
 go_enter Tryz.func235,Tryz.ntmps235
 go_wp2
 go_loop [3,9] (fun c i=>∃k:Nat,k≤L.length∧i=.int .i64 k∧c=.int .i64 (32*(k:Int))∧Hid (val (L.take k)=0)) (fun _ i=>L.length-(intOf i).toNat)
 case atStart=>exact⟨0,Nat.zero_le _,rfl,rfl,by unfold Hid;simp[val]⟩
 case round=>
  obtain⟨k,hk,rfl,rfl,N⟩:=hrel
  by_cases aa:k<L.length
  ·have ae:=G k aa
   clear G
   have hx:=uH Z k
   have H:=ac (uH HS k)
   have I:=ac (fun M=>uH X k _ N.out rfl M hx)
   clear X Y HS Z HV
   generalize L[k]?.getD 0=x at*
   have TZ:=ac (Dj x _ hx V)
   have Q:(Lib.ctz 32 x:Int)≤32∧(0:Int)≤Lib.ctz 32 x:=by
    by_cases M:x=0
    ·subst M;decide
    ·have:=(Lib.lowest_bit 32 x M (by omega)).2
     omega
   have J:=ac (fun M=>JJ x M hx)
   have e0:x=0→Lib.ctz 32 x=32:=fun h=>by subst h;rfl
   generalize Lib.ctz 32 x=c at*
   obtain⟨c1,c2⟩:=Q
   by_cases t:x=0
   ·have ec:=e0 t
    subst t;subst ec
    have HN:Hid (val (L.take (k+1))=0):=by unfold Hid;rw[uH H,N.out];simp
    clear I H N J e0 T
    go_wp2_with(go_at_call 247;refine(uH TZ).mono ?_;rintro e U ⟨rfl,rfl⟩)
    go_round
    case rel=>exact⟨k+1,by omega,by go_num,dg (by omega),HN⟩
    case measure=>simp[intOf];omega
   ·have hr:=uH I t
    have HE:=ac (show z=32*(k:Int)+(c:Int) by rw[uH T hr.1,hr.2,uH J t];omega)
    have ai:((x:Int) != 0)=true:=by rw[bne_iff_ne];omega
    clear I H N J e0 T hr
    go_wp2_with(go_at_call 247;refine(uH TZ).mono ?_;rintro e U ⟨rfl,rfl⟩)
    go_ret
    exact⟨bj (uH HE).symm,uH O⟩
  ·have hz:=uH Y (by rw[←uH HV k (by omega)];exact N.out)
   subst hz
   clear X Y T Z HV HS N G
   go_wp2
   go_ret
   exact⟨rfl,uH O⟩
def a8(w:World)(b:Nat)(x y z:Value):Prop:=w.heap[b]? =some (.cells #[x,y,z] 57 (0,0))
theorem a8.c0{w:World}{b:Nat}{x y z:Value}(h:a8 w b x y z):w.cell? ⟨b,0,none⟩=some x:=by rw[cell_of_row w b 0 _ _ _ h];rfl
theorem a8.c1{w:World}{b:Nat}{x y z:Value}(h:a8 w b x y z):w.cell? ⟨b,1,none⟩=some y:=by rw[cell_of_row w b 1 _ _ _ h];rfl
theorem a8.c2{w:World}{b:Nat}{x y z:Value}(h:a8 w b x y z):w.cell? ⟨b,2,none⟩=some z:=by rw[cell_of_row w b 2 _ _ _ h];rfl
theorem a8.free{w:World}{b:Nat}{x y z:Value}(h:a8 w b x y z)(j:Nat):w.frozen? ⟨b,j,none⟩=false:=frozen_of_row w b j _ _ h
theorem a8.lt{w:World}{b:Nat}{x y z:Value}(h:a8 w b x y z):b<w.heap.size:=(Array.getElem?_eq_some_iff.1 h).1
theorem a8.below{w l:World}{b:Nat}{x y z:Value}(h:a8 w b x y z){B:Nat}(t:Below B w l)(d:b<B):a8 l b x y z:=(t.block b d).trans h
theorem a8.new(w:World)(x y z:Value):a8 (w.alloc (.cells #[x,y,z] 57)) w.heap.size x y z:=heap_alloc_new w _
theorem a8.old{w:World}{b:Nat}{x y z:Value}(h:a8 w b x y z)(o:Obj):a8 (w.alloc o) b x y z:=by
 unfold a8;rw[Below.heap_alloc w o b h.lt];exact h
theorem a8.all{w d:World}{b:Nat}{x y z:Value}(h:a8 w b x y z)(l:Below w.heap.size w d):a8 d b x y z:=h.below l h.lt
theorem aC.all{w d:World}{b:Nat}{x y:Value}(h:aC w b x y)(l:Below w.heap.size w d):aC d b x y:=h.below l h.lt
theorem a8.drew{w:World}{b:Nat}{x y z:Value}(h:a8 w b x y z):a8 w.drew b x y z:=h
theorem a8.other{w:World}{b:Nat}{x y z:Value}(h:a8 w b x y z){p:Addr}(d:b≠p.block)(u:Value):a8 (w.setCell p u) b x y z:=(Below.heap_setCell w p u b d).trans h
theorem bC{w l:World}{B b:Nat}(h:Below B w l)(d:B≤b)(u u' u'':Value):Below B w (((l.setCell ⟨b,0,none⟩ u).setCell ⟨b,1,none⟩ u').setCell ⟨b,2,none⟩ u''):=
 ((h.setCell d _).setCell d _).setCell d _
theorem af.box3{w:World}{D:Option Addr}{z g:Nat}{L:List Nat}(h:af w D z L){x:Bool}{a:Option Addr}{n c:Nat}{e:Int}(H:a8 w g (.bool x) (.slice a n c) (.int .i64 e))(u u' u'':Value):
  af (((w.setCell ⟨g,0,none⟩ u).setCell ⟨g,1,none⟩ u').setCell ⟨g,2,none⟩ u'') D z L:=by
 refine⟨h.1,h.2.1,?_⟩
 rcases h.2.2 with M|⟨b,d,N,O,G⟩
 ·exact .inl M
 ·by_cases F:L= []
  ·exact .inl F
  ·have J:0<L.length:=List.length_pos_iff.2 F
   have l:b≠g:=by
    rintro rfl
    have t:=G 0 J
    rw[cell_of_row w b (d+0) _ _ _ H]at t
    rcases(show d=0∨d=1∨d=2∨3≤d by omega)with e|e|e|e
    ·subst e;simp at t
    ·subst e;simp at t
    ·subst e;simp at t
    ·rw[Array.getElem?_eq_none (by simp;omega)]at t;simp at t
   refine .inr ⟨b,d,N,by simpa[World.setCell]using O,fun i I=>?_⟩
   rw[an _ _ _ _ (by simpa using l),an _ _ _ _ (by simpa using l),an _ _ _ _ (by simpa using l)]
   exact G i I
def oh(neg:Bool)(L:List Nat)(e:Int):Bool:=aE neg L&&(if L.length=0 then decide (e=0)else(decide (val L%2=1)&&decide (-16384≤e∧e≤16384)))
def pi(neg:Bool)(L:List Nat)(e:Int):Int:=if oh neg L e then 0 else 1
theorem Dk(v:Nat)(h:v≠0):0<gr v↔v%2=0:=by
 rw[mg v h]
 obtain⟨m,d⟩:=ji v (by omega)
 constructor
 ·intro t
  obtain⟨k,l⟩:∃k,tz v=k+1:=⟨tz v-1,by omega⟩
  rw[l,Nat.pow_succ,Nat.mul_assoc,Nat.mul_left_comm]at d
  omega
 ·intro t
  rcases Nat.eq_zero_or_pos (tz v)with e|e
  ·rw[e]at d;simp at d;omega
  ·omega
theorem zc(v:Nat)(h:v<eN):0≤gr v∧gr v<16384:=by
 by_cases d:v=0
 ·subst d;decide
 ·rw[mg v d]
  have e:eN=2^(32*sA):=by
   unfold eN
   rw[show(4294967296:Nat)=2^32 by decide,←Nat.pow_mul]
  rw[e]at h
  have:=kK v (32*sA) (by omega) h
  have l:32*sA=16384:=rfl
  omega
theorem jn(neg:Bool)(N:Option Addr)(G:Nat)(L:List Nat)(e:Int)(w:World)(h:af w N G L)(hl:L.length≤35184372088830)(Z:c8 w):
  Calls Tryz.prog 220 #[.agg #[.bool neg,.slice N L.length G,.int .i64 e]] w fun r V=>r=.returned (.int .i64 (pi neg L e))∧Below w.heap.size w V:=by
 have HC:=ac (fun V O=>e9 neg N G L V O hl)
 have H1:=ac (show aE neg L=false→pi neg L e=1 from fun h=>by simp[pi,oh,h])
 have Q:=ac (show¬(-16384≤e∧e≤16384)→pi neg L e=1 from fun h=>by
  unfold pi oh
  by_cases l:L.length=0
  ·rw[if_pos l,decide_eq_false (show¬e=0 by omega)];simp
  ·rw[if_neg l,decide_eq_false h];simp)
 have T:=ac (show L.length=0→e≠0→pi neg L e=1 from fun l h=>by
  unfold pi oh
  rw[if_pos l,decide_eq_false h];simp)
 have H4:=ac (show aE neg L=true→L.length=0→e=0→pi neg L e=0∧gr (val L)=0 from fun h l O=>by
  unfold pi oh
  rw[if_pos l,decide_eq_true O,h]
  have:L= []:=List.length_eq_zero_iff.1 l
  subst this
  exact⟨by simp,rfl⟩)
 have H5:=ac (show aE neg L=true→L.length≠0→(-16384≤e∧e≤16384)→pi neg L e=if 0<gr (val L)then 1 else 0 from fun h l O=>by
  have hv:val L≠0:=fun e=>l (by rw[(aS L (aN h).2.1).1 e];rfl)
  unfold pi oh
  rw[if_neg l,decide_eq_true O,h]
  have:=Dk _ hv
  by_cases h1:val L%2=1
  ·rw[decide_eq_true h1,if_neg (show¬0<gr (val L) by omega)];simp
  ·rw[decide_eq_false h1,if_pos (show 0<gr (val L) by omega)];simp)
 have HL:=ac (show aE neg L=true→L.length≤512 from fun h=>(aN h).1)
 have HE:=ac (show fu neg L=if aE neg L then 0 else 1 from rfl)
 have U:=ac (fun V O aa t=>mh neg N G L V O aa t)
 generalize pi neg L e=er at*
 generalize fu neg L=ce at*
 generalize gr (val L)=lz at*
 generalize aE neg L=rb at*
 have M:Below w.heap.size w (w.alloc (.cells #[.bool neg,.slice N L.length G,.int .i64 e] 57)):=(Below.refl _ _).alloc (Nat.le_refl _) _
 have F:=a8.new w (.bool neg) (.slice N L.length G) (.int .i64 e)
 go_enter Tryz.func220,Tryz.ntmps220
 go_wp2_with fail
 refine(uH HC _ (h.below M)).mono ?_
 rintro r w1 ⟨rfl,d⟩
 replace F:=F.all d
 have D:=M.trans (d.mono M.size)
 rw[uH HE]
 clear d HE HC M
 have p0:=F.c0;have p1:=F.c1;have p2:=F.c2
 cases rb
 ·have J:=uH H1 rfl
  subst J
  simp only[Bool.false_eq_true,if_false]
  clear H1 Q T H4 H5 HL U F
  go_wp2
  go_ret
  exact⟨rfl,D⟩
 have ad:=uH HL rfl
 have H:=ac (uH H4 rfl)
 have I:=ac (uH H5 rfl)
 clear HL H4 H5 H1
 simp only[if_true]
 go_wp2_with fail
 refine(d7 e 16384 _ (by decide) (by decide)).mono ?_
 rintro r w2 ⟨rfl,rfl⟩
 by_cases z:-16384≤e∧e≤16384
 case neg=>
  have J:=uH Q z
  subst J
  rw[decide_eq_false z]
  clear Q T H I ad U F z
  go_wp2
  go_ret
  exact⟨rfl,D⟩
 rw[decide_eq_true z]
 go_wp2_with fail
 refine(d8 neg N G L.length _).mono ?_
 rintro r w3 ⟨rfl,d⟩
 replace F:=F.all d
 replace D:=D.trans (d.mono D.size)
 clear d p0 p1 p2
 have p0:=F.c0;have p1:=F.c1;have p2:=F.c2
 by_cases l:L.length=0
 ·rw[decide_eq_true l]
  by_cases X:e=0
  ·obtain⟨J,Y⟩:=uH H l X
   subst J
   subst Y
   subst X
   clear Q T H I F z l
   go_wp2_with fail
   refine(uH U _ (h.below D) (by omega) (Z.all D)).mono ?_
   rintro r w4 ⟨rfl,d⟩
   go_wp2
   go_ret
   exact⟨rfl,D.trans (d.mono D.size)⟩
  ·have J:=uH T l X
   subst J
   have ae:(e != 0)=true:=by simpa using X
   clear Q T H I F z U
   go_wp2
   go_ret
   exact⟨rfl,D⟩
 ·have J:=uH I l z
  rw[decide_eq_false l]
  by_cases Y:0<lz
  ·rw[if_pos Y]at J
   subst J
   clear Q T H I F z l
   go_wp2_with fail
   refine(uH U _ (h.below D) (by omega) (Z.all D)).mono ?_
   rintro r w4 ⟨rfl,d⟩
   go_wp2
   go_ret
   exact⟨rfl,D.trans (d.mono D.size)⟩
  ·rw[if_neg Y]at J
   subst J
   clear Q T H I F z l
   go_wp2_with fail
   refine(uH U _ (h.below D) (by omega) (Z.all D)).mono ?_
   rintro r w4 ⟨rfl,d⟩
   go_wp2
   go_ret
   exact⟨rfl,D.trans (d.mono D.size)⟩
def bc(w:World)(v:Value)(m e:Int):Prop:=
 ∃(neg:Bool) (ao:Option Addr) (cap:Nat) (L:List Nat),v=.agg #[.bool neg,.slice ao L.length cap,.int .i64 e]∧ar 0 w (.agg #[.bool neg,.slice ao L.length cap]) m
theorem bc.below{w l:World}{v:Value}{m e:Int}(h:bc w v m e)(t:Below w.heap.size w l):bc l v m e:=by
 obtain⟨neg,z,d,L,D,F⟩:=h
 exact⟨neg,z,d,L,D,F.below t⟩
theorem bc.put3{w:World}{v:Value}{m e:Int}(h:bc w v m e){g:Nat}{x:Bool}{a:Option Addr}{n c:Nat}{k:Int}(l:a8 w g (.bool x) (.slice a n c) (.int .i64 k))(u u' u'':Value):bc (((w.setCell ⟨g,0,none⟩ u).setCell ⟨g,1,none⟩ u').setCell ⟨g,2,none⟩ u'') v m e:=by
 obtain⟨neg,t,d,L,z,D,a',F,G,H,I,J⟩:=h
 exact⟨neg,t,d,L,z,D,a',F,G,H,I.box3 l _ _ _,J⟩
theorem bc.zero(w:World)(h:Option Addr)(d:Nat):bc w (.agg #[.bool false,.slice h 0 d,.int .i64 0]) 0 0:=
 ⟨false,h,d,[],rfl,ar.zero _ _ _ _⟩
def nE(z e:Int):Bool:=decide (-32768≤e∧e≤32768)&&(decide (z=0)||decide (-16384≤e+tz z.natAbs∧e+tz z.natAbs≤16384))
def dz(z e:Int):Int:=if nE z e then 0 else 2
def dM(z e:Int):Int:=if nE z e then oM z else 0
def dX(z e:Int):Int:=if nE z e then oE z e else 0
def qP(na:Bool)(A:List Nat)(x:Int)(nb:Bool)(B:List Nat)(y:Int):Int:=if oh na A x&&oh nb B y then 0 else 1
theorem jN(d z:Bool)(I F:Option Addr)(J G:Nat)(A B:List Nat)(x y:Int)(w:World)(Y:af w I J A)(hB:af w F G B)(la:A.length≤35184372088830)(lb:B.length≤35184372088830)(O:c8 w):
  Calls Tryz.prog 254 #[.agg #[.bool d,.slice I A.length J,.int .i64 x],.agg #[.bool z,.slice F B.length G,.int .i64 y]] w fun r L=>r=.returned (.int .i64 (qP d A x z B y))∧Below w.heap.size w L:=by
 have T:=ac (show oh d A x=false→pi d A x=1∧qP d A x z B y=1 from fun h=>by simp[pi,qP,h])
 have U:=ac (show oh d A x=true→pi d A x=0∧qP d A x z B y=pi z B y from fun h=>by simp[pi,qP,h])
 have V:=ac (fun L Q t=>jn d I J A x L Q la t)
 have Z:=ac (fun L Q t=>jn z F G B y L Q lb t)
 generalize qP d A x z B y=er at*
 generalize pi d A x=e1 at*
 generalize pi z B y=e2 at*
 generalize oh d A x=ra at*
 have M:Below w.heap.size w ((w.alloc (.cells #[.bool d,.slice I A.length J,.int .i64 x] 57)).alloc (.cells #[.bool z,.slice F B.length G,.int .i64 y] 57)):=((Below.refl _ _).alloc (Nat.le_refl _) _).alloc (by simp) _
 have H:a8 ((w.alloc (.cells #[.bool d,.slice I A.length J,.int .i64 x] 57)).alloc (.cells #[.bool z,.slice F B.length G,.int .i64 y] 57)) (w.heap.size+1) (.bool z) (.slice F B.length G) (.int .i64 y):=by
  have:=a8.new (w.alloc (.cells #[.bool d,.slice I A.length J,.int .i64 x] 57)) (.bool z) (.slice F B.length G) (.int .i64 y)
  simpa using this
 have X:=ac H;have D:=ac M
 clear H M
 cases ra
 ·obtain⟨rfl,rfl⟩:=uH T rfl
  clear T U Z X
  go_enter Tryz.func254,Tryz.ntmps254
  go_wp2_with fail
  refine(uH V _ (Y.below (uH D)) (O.all (uH D))).mono ?_
  rintro r w1 ⟨rfl,l⟩
  go_wp2
  go_ret
  exact⟨rfl,(uH D).trans (l.mono (uH D).size)⟩
 ·obtain⟨rfl,rfl⟩:=uH U rfl
  clear T U
  go_enter Tryz.func254,Tryz.ntmps254
  go_wp2_with fail
  refine(uH V _ (Y.below (uH D)) (O.all (uH D))).mono ?_
  rintro r w1 ⟨rfl,l⟩
  have H:=(uH X).all l
  have p0:=H.c0;have p1:=H.c1;have p2:=H.c2
  have N:=ac ((uH D).trans (l.mono (uH D).size))
  clear l H X D V
  go_wp2_with fail
  refine(uH Z _ (hB.below (uH N)) (O.all (uH N))).mono ?_
  rintro r w2 ⟨rfl,l⟩
  go_wp2
  go_ret
  exact⟨rfl,(uH N).trans (l.mono (uH N).size)⟩
theorem Gt(d:Bool)(v:Nat)(h:v≠0):sg d (v/2^tz v)=oM (sg d v):=by
 obtain⟨m,l⟩:=ji v (by omega)
 have t:0<2^tz v:=Nat.pow_pos (by decide)
 have z:v/2^tz v=2*m+1:=by
  generalize 2^tz v=P at l t
  rw[l];exact Nat.mul_div_cancel_left _ t
 have D:jE (sg d v) (sg d (2*m+1)) (tz v):=by
  constructor
  ·have e:(v:Int)=(2*(m:Int)+1)*2^tz v:=by
    rw[Int.mul_comm]
    exact_mod_cast l
   unfold sg
   cases d
   ·simp only[Bool.false_eq_true,if_false];rw[e];push_cast;rfl
   ·simp only[if_true];rw[e];push_cast;rw[Int.neg_mul]
  ·unfold sg;cases d<;>simp<;>omega
 rw[z,D.eq.2.1]
theorem zd:0<eN:=Nat.pow_pos (by decide)
theorem xh(d:Bool)(A:List Nat)(e:Int)(J:aE d A=true)(O:bM A):
  (¬(-32768≤e∧e≤32768)∧dz (aj d A) e=2∧dM (aj d A) e=0∧dX (aj d A) e=0)∨
  ((-32768≤e∧e≤32768)∧A.length≠0∧¬(-16384≤e+gr (val A)∧e+gr (val A)≤16384)∧dz (aj d A) e=2∧dM (aj d A) e=0∧dX (aj d A) e=0)∨
  ((-32768≤e∧e≤32768)∧A.length=0∧dz (aj d A) e=0∧dM (aj d A) e=0∧dX (aj d A) e=0)∨
  ((-32768≤e∧e≤32768)∧A.length≠0∧(-16384≤e+gr (val A)∧e+gr (val A)≤16384)∧dz (aj d A) e=0∧dX (aj d A) e=e+gr (val A)∧wI d A (-gr (val A))=0∧uf d A (-gr (val A))=dM (aj d A) e):=by
 obtain⟨Y,N,_⟩:=aN J
 have Q:val A<eN:=(gj A O N).2 Y
 have T:=zc (val A) Q
 by_cases l:-32768≤e∧e≤32768
 case neg=>
  left
  have:nE (aj d A) e=false:=by unfold nE;rw[decide_eq_false l,Bool.false_and]
  exact⟨l,by simp[dz,this],by simp[dM,this],by simp[dX,this]⟩
 right
 by_cases z:A.length=0
 ·right;left
  have U:A= []:=List.length_eq_zero_iff.1 z
  subst U
  have:nE (aj d []) e=true:=by unfold nE;rw[decide_eq_true l,iN];simp
  refine⟨l,rfl,by simp[dz,this],?_,?_⟩
  ·simp[dM,iN,oM]
  ·simp[dX,iN,oE]
 have F:val A≠0:=fun e=>z (by rw[(aS A N).1 e];rfl)
 have h:=mg (val A) F
 have G:aj d A≠0:=fun e=>F (by rw[←bh d A,e];rfl)
 by_cases D:-16384≤e+gr (val A)∧e+gr (val A)≤16384
 case neg=>
  left
  have:nE (aj d A) e=false:=by
   unfold nE
   rw[bh,←h,decide_eq_false D,decide_eq_false G];simp
  exact⟨l,z,D,by simp[dz,this],by simp[dM,this],by simp[dX,this]⟩
 right;right
 have H:nE (aj d A) e=true:=by
  unfold nE
  rw[bh,←h,decide_eq_true l,decide_eq_true D];simp
 have L:qJ d A (-gr (val A))=oM (aj d A):=by
  rw[oF,eU,←Gt d (val A) F,h]
  congr 1
  unfold o4
  rcases Nat.eq_zero_or_pos (tz (val A))with e|e
  ·rw[e];simp
  ·rw[if_neg (by omega)]
   congr 2
   omega
 have V:=gW (aj d A) G
 have X:(oM (aj d A)).natAbs≤val A:=by
  have M:(aj d A).natAbs=(oM (aj d A)).natAbs*2^tz (aj d A).natAbs:=by
   conv=>lhs;rw[V.1]
   rw[Int.natAbs_mul,Int.natAbs_pow]
   rfl
  rw[bh]at M
  rw[M]
  exact Nat.le_mul_of_pos_right _ (Nat.pow_pos (by decide))
 have I:-16384≤-gr (val A)∧-gr (val A)≤16384:=by omega
 have t:nr d A (-gr (val A))=true:=by unfold nr;rw[J,decide_eq_true I];rfl
 refine⟨l,z,D,by simp[dz,H],?_,?_,?_⟩
 ·unfold dX oE;rw[if_pos H,if_neg G,bh,h]
 ·unfold wI;rw[if_pos t,L,gE _ (by omega)]
 ·unfold uf dM;rw[if_pos t,if_pos H,L,gF _ (by omega)]
theorem jo(D:Bool)(I:Option Addr)(J:Nat)(A:List Nat)(e:Int)(w:World)(hA:af w I J A)(hr:aE D A=true)(be:-9223372036854775808≤e∧e≤9223372036854775807)(hT:c8 w):
  Calls Tryz.prog 218 #[.agg #[.bool D,.slice I A.length J],.int .i64 e] w fun r V=>∃v,r=.returned (.tuple #[v,.int .i64 (dz (aj D A) e)])∧bc V v (dM (aj D A) e) (dX (aj D A) e)∧Below w.heap.size w V:=by
 have hl:=(aN hr).1
 have ae:fu D A=0:=by simp[fu,hr]
 have HM:=ac (xh D A e hr hA.2.1)
 have ad:=ac (fun V h'=>e9 D I J A V h' (by omega))
 rw[ae]at ad
 have ai:=ac (fun V h' t=>mh D I J A V h' (by omega) t)
 have T:=ac (fun n V h' bn=>iR D I J A n V h' (by omega) bn)
 have ay:=zc (val A) ((gj A hA.2.1 (aN hr).2.1).2 hl)
 clear ae hr
 generalize dz (aj D A) e=er at*
 generalize dM (aj D A) e=dm at*
 generalize dX (aj D A) e=dx at*
 generalize gr (val A)=lz at*
 obtain⟨az,aD⟩:=ay
 have aa:Below w.heap.size w ((w.alloc (.cells #[.bool D,.slice I A.length J] 55)).alloc (.cells #[.bool false,.slice none 0 0,.int .i64 0] 57)):=((Below.refl _ _).alloc (Nat.le_refl _) _).alloc (by simp) _
 have l:aC ((w.alloc (.cells #[.bool D,.slice I A.length J] 55)).alloc (.cells #[.bool false,.slice none 0 0,.int .i64 0] 57)) w.heap.size (.bool D) (.slice I A.length J):=(aC.new _ _ _).old _
 have h:a8 ((w.alloc (.cells #[.bool D,.slice I A.length J] 55)).alloc (.cells #[.bool false,.slice none 0 0,.int .i64 0] 57)) (w.heap.size+1) (.bool false) (.slice none 0 0) (.int .i64 0):=by
  have:=a8.new (w.alloc (.cells #[.bool D,.slice I A.length J] 55)) (.bool false) (.slice none 0 0) (.int .i64 0)
  simpa using this
 go_enter Tryz.func218,Tryz.ntmps218
 go_wp2_with fail
 refine(uH ad _ (hA.below aa)).mono ?_
 rintro r w1 ⟨rfl,d⟩
 replace l:=l.all d
 replace h:=h.all d
 have F:=aa.trans (d.mono aa.size)
 clear d aa ad
 have Q:=l.c0;have L:=l.c1
 have G:=ac l;have H:=ac h;have z:=ac F
 clear l h F
 go_wp2_with fail
 refine(uH ai _ (hA.below (uH z)) (hT.all (uH z))).mono ?_
 rintro r w2 ⟨rfl,d⟩
 have l:=(uH G).all d
 have h:=(uH H).all d
 have F:=(uH z).trans (d.mono (uH z).size)
 clear d ai Q L G H z
 have Q:=l.c0;have L:=l.c1
 have G:=ac l;have H:=ac h;have z:=ac F
 have M:=h.c0;have N:=h.c1;have O:=h.c2;have X:=h.free 0;have Y:=h.free 1;have Z:=h.free 2
 clear l h F
 rcases uH HM with⟨U,rfl,rfl,rfl⟩|⟨U,h0,h2,rfl,rfl,rfl⟩|⟨U,h0,rfl,rfl,rfl⟩|⟨U,h0,h2,rfl,rfl,aq,ax⟩
 ·clear HM T
  go_wp2_with fail
  refine(d7 e 32768 _ (by decide) (by decide)).mono ?_
  rw[decide_eq_false U]
  rintro r w3 ⟨rfl,rfl⟩
  clear U
  go_wp2
  refine bodyPost_ret (v:=.tuple #[.agg #[.bool false,.slice none 0 0,.int .i64 0],.int .i64 2]) (by simp[results,Tryz.results218,go_sem,M,N,O]) rfl ⟨_,rfl,bc.zero _ _ _,bC (uH z) (by omega) _ _ _⟩
 ·clear HM T
  go_wp2_with fail
  refine(d7 e 32768 _ (by decide) (by decide)).mono ?_
  rw[decide_eq_true U]
  rintro r w3 ⟨rfl,rfl⟩
  obtain⟨am,ap⟩:=U
  go_wp2_with fail
  refine(d8 D I J A.length _).mono ?_
  rw[decide_eq_false h0]
  rintro r w4 ⟨rfl,d⟩
  have l:=(uH G).all d
  have h:=(uH H).all d
  have F:=(uH z).trans (d.mono (uH z).size)
  clear d Q L G H z M N O X Y Z
  have Q:=l.c0;have L:=l.c1
  have G:=ac l;have H:=ac h;have z:=ac F
  have M:=h.c0;have N:=h.c1;have O:=h.c2;have X:=h.free 0;have Y:=h.free 1;have Z:=h.free 2
  clear l h F
  go_wp2_with fail
  refine(d7 (e+lz) 16384 _ (by decide) (by decide)).mono ?_
  rw[decide_eq_false h2]
  rintro r w5 ⟨rfl,rfl⟩
  clear h2
  go_wp2
  refine bodyPost_ret (v:=.tuple #[.agg #[.bool false,.slice none 0 0,.int .i64 0],.int .i64 2]) (by simp[results,Tryz.results218,go_sem,M,N,O]) rfl ⟨_,rfl,bc.zero _ _ _,bC (uH z) (by omega) _ _ _⟩
 ·clear HM T
  have H0:=ac h0
  clear h0
  go_wp2_with fail
  refine(d7 e 32768 _ (by decide) (by decide)).mono ?_
  rw[decide_eq_true U]
  rintro r w3 ⟨rfl,rfl⟩
  obtain⟨am,ap⟩:=U
  go_wp2_with fail
  refine(d8 D I J A.length _).mono ?_
  rw[decide_eq_true (uH H0)]
  rintro r w4 ⟨rfl,d⟩
  have l:=(uH G).all d
  have h:=(uH H).all d
  have F:=(uH z).trans (d.mono (uH z).size)
  clear d Q L G H z M N O X Y Z
  have Q:=l.c0;have L:=l.c1
  have G:=ac l;have H:=ac h;have z:=ac F
  have M:=h.c0;have N:=h.c1;have O:=h.c2;have X:=h.free 0;have Y:=h.free 1;have Z:=h.free 2
  clear l h F
  clear L
  have L:=(uH G).c1
  go_wp2_with fail
  refine(d8 D I J A.length _).mono ?_
  rw[decide_eq_true (uH H0)]
  rintro r w5 ⟨rfl,d⟩
  have l:=(uH G).all d
  have h:=(uH H).all d
  have F:=(uH z).trans (d.mono (uH z).size)
  clear d Q L G H z M N O X Y Z
  have z:=ac F
  have M:=h.c0;have N:=h.c1;have O:=h.c2;have X:=h.free 0;have Y:=h.free 1;have Z:=h.free 2
  clear l h F
  go_wp2
  refine bodyPost_ret (v:=.tuple #[.agg #[.bool false,.slice none 0 0,.int .i64 0],.int .i64 0]) (by simp[results,Tryz.results218,go_sem,M,N,O]) rfl ⟨_,rfl,bc.zero _ _ _,bC (uH z) (by omega) _ _ _⟩
 ·clear HM
  have HN:=ac ax
  have SH:=ac (fun V h'=>uH T (-lz) V h' (by omega))
  rw[aq]at SH
  clear ax aq T
  go_wp2_with fail
  refine(d7 e 32768 _ (by decide) (by decide)).mono ?_
  rw[decide_eq_true U]
  rintro r w3 ⟨rfl,rfl⟩
  obtain⟨am,ap⟩:=U
  go_wp2_with fail
  refine(d8 D I J A.length _).mono ?_
  rw[decide_eq_false h0]
  rintro r w4 ⟨rfl,d⟩
  have l:=(uH G).all d
  have h:=(uH H).all d
  have F:=(uH z).trans (d.mono (uH z).size)
  clear d Q L G H z M N O X Y Z
  have Q:=l.c0;have L:=l.c1
  have G:=ac l;have H:=ac h;have z:=ac F
  have M:=h.c0;have N:=h.c1;have O:=h.c2;have X:=h.free 0;have Y:=h.free 1;have Z:=h.free 2
  clear l h F
  go_wp2_with fail
  refine(d7 (e+lz) 16384 _ (by decide) (by decide)).mono ?_
  rw[decide_eq_true h2]
  rintro r w5 ⟨rfl,rfl⟩
  obtain⟨aI,a0⟩:=h2
  go_wp2_with fail
  refine(d8 D I J A.length _).mono ?_
  rw[decide_eq_false h0]
  rintro r w6 ⟨rfl,d⟩
  have l:=(uH G).all d
  have h:=(uH H).all d
  have F:=(uH z).trans (d.mono (uH z).size)
  clear d Q L G H z M N O X Y Z
  have Q:=l.c0;have L:=l.c1
  have G:=ac l;have H:=ac h;have z:=ac F
  clear l h F
  go_wp2_with fail
  refine(uH SH _ (hA.below (uH z))).mono ?_
  rintro r w7 ⟨v,rfl,⟨n2,a2,c2,L2,rfl,i1⟩,d⟩
  have h:=(uH H).all d
  have F:=(uH z).trans (d.mono (uH z).size)
  have I1:=ac i1;have B2:=ac F;have X2:=ac h
  clear d Q L G H z h F i1
  have h:=(uH X2).old (.cells #[.bool n2,.slice a2 L2.length c2] 55)
  have M:=h.c0;have N:=h.c1;have O:=h.c2;have X:=h.free 0;have Y:=h.free 1;have Z:=h.free 2
  have X3:=ac h
  clear h
  go_wp2
  have j:ar w6.heap.size w7 (.agg #[.bool n2,.slice a2 L2.length c2]) dm:=(uH HN)▸(⟨n2,a2,c2,L2,rfl,uH I1⟩:ar w6.heap.size w7 (.agg #[.bool n2,.slice a2 L2.length c2]) (uf D A (-lz)))
  have j2:bc (w7.alloc (.cells #[.bool n2,.slice a2 L2.length c2] 55)) (.agg #[.bool n2,.slice a2 L2.length c2,.int .i64 (e+lz)]) dm (e+lz):=⟨n2,a2,c2,L2,rfl,(j.below ((Below.refl _ _).alloc (Nat.le_refl _) _)).mono (Nat.zero_le _)⟩
  have b3:=(uH B2).alloc (uH B2).size (.cells #[.bool n2,.slice a2 L2.length c2] 55)
  refine bodyPost_ret (v:=.tuple #[.agg #[.bool n2,.slice a2 L2.length c2,.int .i64 (e+lz)],.int .i64 0]) (by simp[results,Tryz.results218,go_sem,M,N,O]) rfl ⟨_,rfl,j2.put3 (uH X3) _ _ _,bC b3 (by omega) _ _ _⟩
theorem jO{B:Nat}{w:World}{v:Value}{z:Int}(e:Int)(h:ar B w v z)(l:z.natAbs<eN)(t:-9223372036854775808≤e∧e≤9223372036854775807)(D:c8 w):
  Calls Tryz.prog 218 #[v,.int .i64 e] w fun r d=>∃u,r=.returned (.tuple #[u,.int .i64 (dz z e)])∧bc d u (dM z e) (dX z e)∧Below w.heap.size w d:=by
 obtain⟨F,G,H,A,rfl,I,J,L,M⟩:=h.right l
 have:=jo F G H A e w I J t D
 rwa[L]at this
theorem bF(x:Int)(h:-9000000000000000000≤x∧x≤9000000000000000000):IntKind.i64.wrap x=x:=by
 simp only[IntKind.wrap,IntKind.signed,IntKind.bits]
 simp
 omega
theorem Dl(L:List Nat):val L%2=L[0]?.getD 0%2:=by
 cases L with
 |nil=>rfl
 |cons x r=>simp[val];omega
theorem Gu(neg:Bool)(F:Option Addr)(l:Nat)(L:List Nat)(w:World)(h:af w F l L):
  Calls Tryz.prog 142 #[.agg #[.bool neg,.slice F L.length l]] w fun e I=>e=.returned (.bool (decide (val L%2=1)))∧Below w.heap.size w I:=by
 by_cases t:L= []
 ·subst t
  go_enter Tryz.func142,Tryz.ntmps142
  go_wp2
  go_ret
  exact⟨rfl,(Below.refl _ _).alloc (Nat.le_refl _) _⟩
 obtain⟨b,O,rfl,U,H⟩:=h.ne (List.length_pos_iff.2 t)
 have J:0<L.length:=List.length_pos_iff.2 t
 have M:(0:Int)<(L.length:Int):=by omega
 have z:=H 0 J
 have T:=h.lt 0
 have G:=h.1
 rw[Dl]
 generalize L[0]?.getD 0=x at*
 clear H h t
 rw[Nat.add_zero]at z
 generalize Q:L.length=n at*
 clear Q
 by_cases d:x%2=1
 ·have N:(((x:Int)%2)==1)=true:=by rw[beq_iff_eq];omega
  have D:=ac (decide_eq_true d)
  clear d
  go_enter Tryz.func142,Tryz.ntmps142
  go_wp2
  go_ret
  exact⟨iL (uH D).symm,(Below.refl _ _).alloc (Nat.le_refl _) _⟩
 ·have N:(((x:Int)%2)==1)=false:=by rw[beq_eq_false_iff_ne];omega
  have D:=ac (decide_eq_false d)
  clear d
  go_enter Tryz.func142,Tryz.ntmps142
  go_wp2
  go_ret
  exact⟨iL (uH D).symm,(Below.refl _ _).alloc (Nat.le_refl _) _⟩
theorem mj(neg:Bool)(t:Option Addr)(d:Nat)(L:List Nat)(e:Int)(w:World)(h:af w t d L)(Q:L.length≤35184372088830):
  Calls Tryz.prog 214 #[.agg #[.bool neg,.slice t L.length d,.int .i64 e]] w fun r l=>r=.returned (.int .i64 (IntKind.i64.wrap (iq L+e)))∧Below w.heap.size w l:=by
 have U:=ac (fun l T=>sJ neg t d L l T Q)
 generalize iq L=n at*
 have F:Below w.heap.size w (w.alloc (.cells #[.bool neg,.slice t L.length d,.int .i64 e] 57)):=(Below.refl _ _).alloc (Nat.le_refl _) _
 have D:=a8.new w (.bool neg) (.slice t L.length d) (.int .i64 e)
 have I:=ac D;have J:=ac F
 clear D F
 go_enter Tryz.func214,Tryz.ntmps214
 go_wp2
 refine aG (fun W=>Below w.heap.size w W∧a8 W w.heap.size (.bool neg) (.slice t L.length d) (.int .i64 e)) ⟨uH J,uH I⟩ ?_
 rintro z ⟨H,D⟩
 have M:∀l,Below z.heap.size z l→Below z.heap.size z l∧l.cell? ⟨w.heap.size,0,none⟩=some (.bool neg)∧l.cell? ⟨w.heap.size,1,none⟩=some (.slice t L.length d)∧l.cell? ⟨w.heap.size,2,none⟩=some (.int .i64 e):=fun l h=>
  ⟨h,(D.all h).c0,(D.all h).c1,(D.all h).c2⟩
 have N:=ac M
 have V:=ac (h.below H);have O:=ac H
 clear M D H h I J
 go_region_held3(fun l=>Below z.heap.size z l∧l.cell? ⟨w.heap.size,0,none⟩=some (.bool neg)∧l.cell? ⟨w.heap.size,1,none⟩=some (.slice t L.length d)∧l.cell? ⟨w.heap.size,2,none⟩=some (.int .i64 e))
  (first|exact uH N _ (Below.refl _ _).drew|exact uH N _ (by assumption))
  (first|(go_at_call 233;refine(uH U _ ((uH V).below (And.left (by assumption)))).mono ?_;rintro e Y ⟨rfl,G⟩;have X:Below z.heap.size z Y:=Below.trans (And.left (by assumption)) (G.mono (Below.size (And.left (by assumption))));clear G))
 go_wp2
 go_ret
 exact⟨rfl,(uH O).trans (Below.mono (And.left (by assumption)) (uH O).size)⟩
def AD(L:List Nat)(e:Int):Int:=if L.length=0 then 0 else iq L+e
theorem Dm(neg:Bool)(z:Option Addr)(d:Nat)(L:List Nat)(e:Int)(w:World)(h:af w z d L)(hl:L.length≤1073741824)(he:-100000≤e∧e≤100000):
  Calls Tryz.prog 54 #[.agg #[.bool neg,.slice z L.length d,.int .i64 e]] w fun r l=>r=.returned (.int .i64 (AD L e))∧Below w.heap.size w l:=by
 have U:=ac (fun l h'=>wZ neg z d L l h' (by omega))
 have M:L.length≠0→0≤iq L∧iq L≤40000000000:=fun F=>by
  unfold iq
  rw[if_neg F]
  have:=nD (L[L.length-1]?.getD 0)
  omega
 have J:=ac (show(L.length=0→AD L e=0)∧(L.length≠0→AD L e=iq L+e) by unfold AD;constructor<;>intro h<;>simp[h])
 generalize AD L e=t at*
 generalize iq L=n at*
 have H:Below w.heap.size w (w.alloc (.cells #[.bool neg,.slice z L.length d,.int .i64 e] 57)):=(Below.refl _ _).alloc (Nat.le_refl _) _
 have G:=a8.new w (.bool neg) (.slice z L.length d) (.int .i64 e)
 have V:=ac G;have N:=ac H
 clear G H
 by_cases F:L.length=0
 ·have O:=(uH J).1 F
  subst O
  have Q:((L.length:Int)==0)=true:=by rw[beq_iff_eq];omega
  clear J M U F
  go_enter Tryz.func54,Tryz.ntmps54
  go_wp2
  go_ret
  exact⟨rfl,uH N⟩
 have O:=(uH J).2 F
 subst O
 obtain⟨ad,ae⟩:=M F
 have Q:((L.length:Int)==0)=false:=by rw[beq_eq_false_iff_ne];omega
 clear J M F
 go_enter Tryz.func54,Tryz.ntmps54
 go_wp2
 refine aG (fun W=>Below w.heap.size w W∧a8 W w.heap.size (.bool neg) (.slice z L.length d) (.int .i64 e)) ⟨uH N,uH V⟩ ?_
 rintro D ⟨T,G⟩
 have X:∀l,Below D.heap.size D l→Below D.heap.size D l∧l.cell? ⟨w.heap.size,0,none⟩=some (.bool neg)∧l.cell? ⟨w.heap.size,1,none⟩=some (.slice z L.length d)∧l.cell? ⟨w.heap.size,2,none⟩=some (.int .i64 e):=fun l h=>
  ⟨h,(G.all h).c0,(G.all h).c1,(G.all h).c2⟩
 have Y:=ac X
 have HA:=ac (h.below T);have Z:=ac T
 clear X G T h V N
 go_region_held3(fun l=>Below D.heap.size D l∧l.cell? ⟨w.heap.size,0,none⟩=some (.bool neg)∧l.cell? ⟨w.heap.size,1,none⟩=some (.slice z L.length d)∧l.cell? ⟨w.heap.size,2,none⟩=some (.int .i64 e))
  (first|exact uH Y _ (Below.refl _ _).drew|exact uH Y _ (by assumption))
  (first|(go_at_call 120;refine(uH U _ ((uH HA).below (And.left (by assumption)))).mono ?_;rintro e w1 ⟨rfl,I⟩;have aa:Below D.heap.size D w1:=Below.trans (And.left (by assumption)) (I.mono (Below.size (And.left (by assumption))));clear I))
 go_wp2
 go_ret
 exact⟨bj (bF _ (by omega)),(uH Z).trans (Below.mono (And.left (by assumption)) (uH Z).size)⟩
end Go.Proofs.YtmpkkhackbpflaaGreatDoor
