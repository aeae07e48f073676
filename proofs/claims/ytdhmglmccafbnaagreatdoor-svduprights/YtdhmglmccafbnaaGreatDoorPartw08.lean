/- Part 8 of the texts. -/
import Derived.Test.YtdhmglmccafbnaaGreatDoorPartw07
import Derived.Shelf.Spec.TrailingZeros
set_option maxHeartbeats 4000000
set_option maxRecDepth 20000
namespace Go.Proofs.YtdhmglmccafbnaaGreatDoor
open Go.RowKit
def g9(x:Int):Bool:=decide (-9223372036854775808≤x∧x≤9223372036854775807)
def rp(neg:Bool)(L:List Nat):Int:=if al neg L then(if g9 (ad neg L)then 0 else 2)else 1
def rq(neg:Bool)(L:List Nat):Int:=if al neg L&&g9 (ad neg L)then ad neg L else 0
theorem jY(v x i:Nat)(d:v<2^i):v|||x*2^i=v+x*2^i:=by
 have:=Nat.two_pow_add_eq_or_of_lt d x
 rw[Nat.mul_comm x,Nat.or_comm,←this];omega
theorem Dk(v x k:Nat)(f:k≤1)(d:v<4294967296^k)(h:x<4294967296):
  bits BinOp.or IntKind.u64 (v:Int) (IntKind.u64.wrap ((x:Int)*2^(k*32)))=((v+4294967296^k*x:Nat):Int):=by
 rcases(show k=0∨k=1 by omega)with rfl|rfl
 ·have e:IntKind.u64.wrap ((x:Int)*2^(0*32))=((x:Nat):Int):=by
   simp only[IntKind.wrap,IntKind.signed,IntKind.bits];simp;omega
  rw[e,u64_or_nat v x (by simp at d;omega) (by omega)]
  have:v=0:=by simpa using d
  subst this;simp
 ·have e:IntKind.u64.wrap ((x:Int)*2^(1*32))=((x*2^32:Nat):Int):=by
   simp only[IntKind.wrap,IntKind.signed,IntKind.bits];simp;omega
  rw[e,u64_or_nat v (x*2^32) (by simp at d;omega) (by omega),jY v x 32 (by simpa using d)]
  congr 1
  simp;omega
theorem wM(v:Nat)(d:v≤9223372036854775808):wrap64 (IntKind.u64.wrap (-(v:Int)))= -(v:Int):=by
 unfold wrap64
 simp only[IntKind.wrap,IntKind.signed,IntKind.bits]
 simp
 omega
theorem rO(neg:Bool)(F:Option Addr)(f:Nat)(L:List Nat)(w:World)(h:ag w F f L)(X:al neg L=true)(hl:L.length≤2):
  Calls Tryz.prog 299 #[.agg #[.bool neg,.slice F L.length f]] w fun e w'=>e=.returned (.tuple #[.int .i64 (rq neg L),.int .i64 (rp neg L)])∧Below w.heap.size w w':=by
 have z:=dL neg F f L (w.alloc (.cells #[.bool neg,.slice F L.length f] 39)) (h.below ((Below.refl _ _).alloc (Nat.le_refl _) _)) (by omega)
 have hz:d6 neg L=0:=by simp[d6,X]
 rw[hz]at z
 have hF:(neg=true→ai L≤9223372036854775808→rq neg L= -(ai L:Int)∧rp neg L=0)∧(neg=true→9223372036854775808<ai L→rq neg L=0∧rp neg L=2)∧(neg=false→ai L<9223372036854775808→rq neg L=(ai L:Int)∧rp neg L=0)∧(neg=false→9223372036854775808≤ai L→rq neg L=0∧rp neg L=2):=by
  unfold rq rp
  rw[X]
  refine⟨?_,?_,?_,?_⟩<;>(rintro rfl d;simp only[ad,g9,if_true,Bool.true_and,Bool.false_eq_true,if_false])
  ·rw[decide_eq_true (by omega)];simp
  ·rw[decide_eq_false (by omega)];simp
  ·rw[decide_eq_true (by omega)];simp
  ·rw[decide_eq_false (by omega)];simp
 have u:=aa hF
 clear hF
 generalize rq neg L=r at*
 generalize rp neg L=e2 at*
 have G:=aa z
 clear z hz X
 go_enter Tryz.func299,Tryz.ntmps299
 go_wp2_with fail
 refine(uH G).mono ?_
 rintro e w1 ⟨rfl,D⟩
 have Y:az w1 w.heap.size (.bool neg) (.slice F L.length f):=(az.new _ _ _).below D (by simp)
 have p0:=Y.c0;have p1:=Y.c1
 have l:Below w.heap.size w w1:=((Below.refl _ _).alloc (Nat.le_refl _) _).trans (D.mono (by simp))
 clear Y D G
 go_wp2
 go_loop [5,19] (fun s i=>∃k:Nat,k≤L.length∧i=.int .i64 k∧s=.int .u64 ((ai (L.take k):Nat):Int)) (fun _ i=>L.length-(intOf i).toNat)
 case atStart=>exact⟨0,Nat.zero_le _,rfl,by simp[ai]⟩
 case round=>
  obtain⟨k,hk,rfl,rfl⟩:=hrel
  by_cases J:k<L.length
  ·obtain⟨b,V,ap,hb,hc⟩:=h.ne (by omega)
   have c1:=hc k J
   have d1:w1.cell? ⟨b,V+k,none⟩=some (.int .u32 ((L[k]?.getD 0:Nat):Int)):=by rw[l.cell (p:=⟨b,V+k,none⟩) hb];exact c1
   have hx:=h.lt k
   have d:=gf L h.2.1 k
   have K:=aD L k
   have Z:=aa K
   clear c1 hc K
   generalize L[k]?.getD 0=x at*
   generalize ax:ai (L.take k)=v at*
   clear ax h
   subst ap
   have ae:k≤1:=by omega
   have M:=Dk v x k ae d hx
   have am:=aa M
   clear M
   go_wp2
   go_round
   case rel=>exact⟨k+1,by omega,by go_num,cJ (by rw[uH am,uH Z])⟩
   case measure=>simp[intOf];omega
  ·have N:k=L.length:=by omega
   rw[N,List.take_length]
   clear N hk J
   have O:=dZ L h.2.1
   have Q:ai L<18446744073709551616:=by
    refine Nat.lt_of_lt_of_le O ?_
    have:=Nat.pow_le_pow_right (n:=4294967296) (by decide) hl
    simpa using this
   generalize ai L=v at*
   clear O h
   cases neg
   ·rcases Nat.lt_or_ge v 9223372036854775808 with d|d
    ·have H:=aa ((uH u).2.2.1 rfl d)
     have U:(v:Int)<9223372036854775808:=by omega
     clear u d Q
     go_wp2
     go_ret2
     exact⟨gK (uH H).1.symm (uH H).2.symm,l⟩
    ·have H:=aa ((uH u).2.2.2 rfl d)
     have U:¬(v:Int)<9223372036854775808:=by omega
     clear u
     go_wp2
     go_ret2
     exact⟨gK (uH H).1.symm (uH H).2.symm,l⟩
   ·rcases Nat.lt_or_ge 9223372036854775808 v with d|d
    ·have H:=aa ((uH u).2.1 rfl d)
     have U:¬(v:Int)≤9223372036854775808:=by omega
     clear u
     go_wp2
     go_ret2
     exact⟨gK (uH H).1.symm (uH H).2.symm,l⟩
    ·have H:=aa ((uH u).1 rfl d)
     clear u
     go_wp2
     go_ret2
     refine⟨gK ?_ (uH H).2.symm,l⟩
     rw[(uH H).1]
     exact wM v d
theorem py(neg:Bool)(z:Option Addr)(d:Nat)(L:List Nat)(w:World)(h:ag w z d L)(N:L.length≤35184372088830):
  Calls Tryz.prog 299 #[.agg #[.bool neg,.slice z L.length d]] w fun e w'=>e=.returned (.tuple #[.int .i64 (rq neg L),.int .i64 (rp neg L)])∧Below w.heap.size w w':=by
 cases hr:al neg L
 ·have f:=dL neg z d L (w.alloc (.cells #[.bool neg,.slice z L.length d] 39)) (h.below ((Below.refl _ _).alloc (Nat.le_refl _) _)) N
  have D:d6 neg L=1:=by simp[d6,hr]
  rw[D]at f
  have u:=aa f
  have H:=aa (show rq neg L=0∧rp neg L=1 by simp[rq,rp,hr])
  generalize rq neg L=r at*
  generalize rp neg L=U at*
  clear f D hr
  go_enter Tryz.func299,Tryz.ntmps299
  go_wp2_with fail
  refine(uH u).mono ?_
  rintro e M ⟨rfl,l⟩
  go_wp2
  go_ret2
  exact⟨gK (uH H).1.symm (uH H).2.symm,((Below.refl _ _).alloc (Nat.le_refl _) _).trans (l.mono (by simp))⟩
 ·by_cases G:L.length≤2
  ·exact rO neg z d L w h hr G
  ·have f:=dL neg z d L (w.alloc (.cells #[.bool neg,.slice z L.length d] 39)) (h.below ((Below.refl _ _).alloc (Nat.le_refl _) _)) N
   have D:d6 neg L=0:=by simp[d6,hr]
   rw[D]at f
   have u:=aa f
   have F:18446744073709551616≤ai L:=by
    rcases(au hr).2.1 with e|e
    ·rw[e]at G;simp at G
    ·have V:=kL L e
     have Q:=Nat.pow_le_pow_right (n:=4294967296) (by decide) (show 2≤L.length-1 by omega)
     simp at Q;omega
   have O:g9 (ad neg L)=false:=by
    unfold g9 ad
    rw[decide_eq_false_iff_not]
    cases neg<;>simp<;>omega
   have H:=aa (show rq neg L=0∧rp neg L=2 by simp[rq,rp,hr,O])
   generalize rq neg L=r at*
   generalize rp neg L=U at*
   clear f D hr F O
   go_enter Tryz.func299,Tryz.ntmps299
   go_wp2_with fail
   refine(uH u).mono ?_
   rintro e M ⟨rfl,l⟩
   have J:az M w.heap.size (.bool neg) (.slice z L.length d):=(az.new _ _ _).below l (by simp)
   have X:=J.c0;have Y:=J.c1
   have K:Below w.heap.size w M:=((Below.refl _ _).alloc (Nat.le_refl _) _).trans (l.mono (by simp))
   clear J l u
   go_wp2
   go_ret2
   exact⟨gK (uH H).1.symm (uH H).2.symm,K⟩
theorem fG(n:Int)(w:World)(h0:-9223372036854775808≤n)(h1:n≤9223372036854775807):
  Calls Tryz.prog 46 #[.int .i64 n] w fun e w'=>∃v,e=.returned v∧aB 2 w.heap.size w' v n∧Below w.heap.size w w':=by
 obtain⟨m,l⟩:∃m,m=n.natAbs:=⟨_,rfl⟩
 have U:aX [m%4294967296,m/4294967296]:=by intro x Z;simp at Z;omega
 have V:=aa U
 have K:=aa l
 clear U l
 by_cases hn:n<0
 ·have u:ad true [m%4294967296,m/4294967296]=n:=by
   have:=uH K
   unfold ad;rw[if_pos rfl,my];omega
  have L:=aa u
  clear u
  go_enter Tryz.func46,Tryz.ntmps46
  go_wp2_with fail
  have l:=uH K
  have z:=jc (w.alloc (.cells #[.bool false,.slice none 0 0] 39)) (w.heap.size+1) ((-(n+1)+1)%4294967296) ((-(n+1)+1)/4294967296) (m%4294967296) (m/4294967296) (by simp) (by omega) (by omega)
  refine(c8 (w.heap.size+1) true (some ⟨w.heap.size+1,0,none⟩) 2 [m%4294967296,m/4294967296] _ (z.limbs (uH V) 2 (by simp)) (.inr ⟨_,_,rfl,Nat.le_refl _⟩) (by simp)).mono ?_
  rw[uH L]
  rintro e Q ⟨v,rfl,⟨D,F,G,H,rfl,J⟩,d⟩
  have f:az Q w.heap.size (.bool false) (.slice none 0 0):=((az.new _ _ _).old _).below d (by simp;omega)
  have M:=f.c0;have N:=f.c1;have X:=f.free 0;have Y:=f.free 1
  have O:=aa J
  have h:=aa ((((Below.refl _ w).alloc (Nat.le_refl _) (.cells #[.bool false,.slice none 0 0] 39)).alloc (by simp) _).trans (d.mono (by simp;omega)))
  clear J d f z l
  go_wp2
  refine bodyPost_ret (v:=.agg #[.bool D,.slice F H.length G]) (by simp[results,Tryz.results46,go_sem,M,N]) rfl ⟨.agg #[.bool D,.slice F H.length G],rfl,?_,?_⟩
  ·exact aB.stored (uH O) (by simp) (by simp) (by omega) _ _
  ·exact((uH h).setCell (by simp) _).setCell (by simp) _
 ·have u:ad false [m%4294967296,m/4294967296]=n:=by
   have:=uH K
   unfold ad;rw[if_neg (by decide),my];omega
  have L:=aa u
  clear u
  go_enter Tryz.func46,Tryz.ntmps46
  go_wp2_with fail
  have l:=uH K
  have z:=jc (w.alloc (.cells #[.bool false,.slice none 0 0] 39)) (w.heap.size+1) (n%4294967296) (n/4294967296) (m%4294967296) (m/4294967296) (by simp) (by omega) (by omega)
  refine(c8 (w.heap.size+1) false (some ⟨w.heap.size+1,0,none⟩) 2 [m%4294967296,m/4294967296] _ (z.limbs (uH V) 2 (by simp)) (.inr ⟨_,_,rfl,Nat.le_refl _⟩) (by simp)).mono ?_
  rw[uH L]
  rintro e Q ⟨v,rfl,⟨D,F,G,H,rfl,J⟩,d⟩
  have f:az Q w.heap.size (.bool false) (.slice none 0 0):=((az.new _ _ _).old _).below d (by simp;omega)
  have M:=f.c0;have N:=f.c1;have X:=f.free 0;have Y:=f.free 1
  have O:=aa J
  have h:=aa ((((Below.refl _ w).alloc (Nat.le_refl _) (.cells #[.bool false,.slice none 0 0] 39)).alloc (by simp) _).trans (d.mono (by simp;omega)))
  clear J d f z l
  go_wp2
  refine bodyPost_ret (v:=.agg #[.bool D,.slice F H.length G]) (by simp[results,Tryz.results46,go_sem,M,N]) rfl ⟨.agg #[.bool D,.slice F H.length G],rfl,?_,?_⟩
  ·exact aB.stored (uH O) (by simp) (by simp) (by omega) _ _
  ·exact((uH h).setCell (by simp) _).setCell (by simp) _
def bT(w:World):Prop:=TabAt 1 Lib.deBruijn32tab w
theorem bT.below{w w':World}{B:Nat}(h:bT w)(d:Below B w w')(f:1<B):bT w':=fun j l=>by
 rw[d.cell (p:=⟨1,j,none⟩) f]
 exact h j l
theorem bT.pos{w:World}(h:bT w):1<w.heap.size:=World.block_lt_of_cell? w _ (h 0 (by decide))
theorem bT.all{w w':World}(h:bT w)(d:Below w.heap.size w w'):bT w':=h.below d h.pos
theorem wN(x k d:Nat)(w:World)(l:((x:Int)==0)=false)
  (f:bits BinOp.and IntKind.u32 (x:Int) (-(x:Int)%4294967296)*125613361%4294967296/134217728=(d:Int))
  (u:d<32) (z:k<32) (h:w.cell? ⟨1,d,none⟩=some (.int .u8 k)):
  Calls Tryz.prog 287 #[.int .u32 x] w fun e w'=>e=.returned (.int .i64 k)∧w=w':=by
 go_enter Tryz.func287,Tryz.ntmps287
 go_wp2_with(simp only[f])
 go_ret
 exact⟨rfl,rfl⟩
theorem zc(x:Nat)(w:World)(u:x<4294967296)(F:bT w):
  Calls Tryz.prog 287 #[.int .u32 x] w fun e w'=>e=.returned (.int .i64 (Lib.ctz 32 x))∧w=w':=by
 by_cases f:x=0
 ·subst f
  go_enter Tryz.func287,Tryz.ntmps287
  go_wp2
  go_ret
  exact⟨rfl,rfl⟩
 ·obtain⟨h,z⟩:=Lib.lowest_bit 32 x f u
  obtain⟨D,l⟩:=Lib.deBruijn32_at _ z
  have d:=F _ D
  rw[l]at d
  exact wN x _ _ w (by simp;omega) (tz32_key x _ u f h) D z d
theorem dc(n m:Int)(w:World)(D:0≤m)(z:m≤100000):
  Calls Tryz.prog 266 #[.int .i64 n,.int .i64 m] w fun e w'=>e=.returned (.bool (decide (-m≤n∧n≤m)))∧w=w':=by
 have F:IntKind.i64.wrap (-m)= -m:=by
  simp only[IntKind.wrap,IntKind.signed,IntKind.bits]
  simp
  omega
 by_cases d:-m≤n
 ·by_cases f:n≤m
  ·go_enter Tryz.func266,Tryz.ntmps266
   go_wp2
   go_ret
   exact⟨iE (by simp[d,f]),rfl⟩
  ·go_enter Tryz.func266,Tryz.ntmps266
   go_wp2
   go_ret
   exact⟨iE (by simp[f]),rfl⟩
 ·have l:¬(-m≤n∧n≤m):=fun h=>d h.1
  have u:=aa (decide_eq_false l)
  rw[uH u]
  clear l u
  go_enter Tryz.func266,Tryz.ntmps266
  go_wp2
  go_ret
  exact⟨rfl,rfl⟩
theorem de(neg:Bool)(h:Option Addr)(d:Nat)(n:Nat)(w:World):
  Calls Tryz.prog 267 #[.agg #[.bool neg,.slice h n d]] w fun e w'=>e=.returned (.bool (decide (n=0)))∧Below w.heap.size w w':=by
 by_cases f:n=0
 ·subst f
  go_enter Tryz.func267,Tryz.ntmps267
  go_wp2
  go_ret
  exact⟨rfl,(Below.refl _ _).alloc (Nat.le_refl _) _⟩
 ·have l:((n:Int)==0)=false:=by simp;omega
  have H:=aa (decide_eq_false f)
  clear f
  go_enter Tryz.func267,Tryz.ntmps267
  go_wp2
  go_ret
  exact⟨iE (uH H).symm,(Below.refl _ _).alloc (Nat.le_refl _) _⟩
def gx(neg:Bool)(n:Nat):Int:=if n=0 then 0 else if neg then-1 else 1
def eC(v:Nat):Int:=if v=0 then 0 else(tz v:Int)
theorem jZ(v:Nat)(h:v≠0):eC v=tz v:=by unfold eC;rw[if_neg h]
theorem j0(neg:Bool)(ao:Option Addr)(d:Nat)(L:List Nat)(w:World)(h:ag w ao d L)(hl:L.length≤1073741824)(hT:bT w):
  Calls Tryz.prog 265 #[.agg #[.bool neg,.slice ao L.length d]] w fun e w'=>e=.returned (.int .i64 (eC (ai L)))∧Below w.heap.size w w':=by
 by_cases D:L= []
 ·subst D
  go_enter Tryz.func265,Tryz.ntmps265
  go_wp2
  refine wp_loop_rounds 1 ?_
  rw[rounds_succ]
  go_wp2
  go_ret
  exact⟨rfl,(Below.refl _ _).alloc (Nat.le_refl _) _⟩
 obtain⟨b,u,rfl,hb,hc⟩:=h.ne (List.length_pos_iff.2 D)
 have am:=h.1
 have f:Below w.heap.size w (w.alloc (.cells #[.bool neg,.slice (some ⟨b,u,none⟩) L.length d] 39)):=(Below.refl _ _).alloc (Nat.le_refl _) _
 have F:∀i,i<L.length→(w.alloc (.cells #[.bool neg,.slice (some ⟨b,u,none⟩) L.length d] 39)).cell? ⟨b,u+i,none⟩=some (.int .u32 ((L[i]?.getD 0:Nat):Int)):=fun i hi=>by
  rw[f.cell (p:=⟨b,u+i,none⟩) hb];exact hc i hi
 have U:=hT.all f
 have V:=aa (fun k x=>yO L k x)
 have X:=aa (fun h:ai L=0=>(show eC (ai L)=0 by rw[h];rfl))
 have Q:=aa (fun h=>jZ (ai L) h)
 have Y:=aa (fun i=>h.lt i)
 have Z:=aa (fun k (hk:L.length≤k)=>di L k hk)
 have HS:=aa (fun k=>aD L k)
 have N:=aa f
 clear hT hc h hb D f
 generalize eC (ai L)=z at*
 go_enter Tryz.func265,Tryz.ntmps265
 go_wp2
 go_loop [3,9] (fun c i=>∃k:Nat,k≤L.length∧i=.int .i64 k∧c=.int .i64 (32*(k:Int))∧Hid (ai (L.take k)=0)) (fun _ i=>L.length-(intOf i).toNat)
 case atStart=>exact⟨0,Nat.zero_le _,rfl,rfl,by unfold Hid;simp[ai]⟩
 case round=>
  obtain⟨k,hk,rfl,rfl,M⟩:=hrel
  by_cases ae:k<L.length
  ·have ap:=F k ae
   clear F
   have hx:=uH Y k
   have G:=aa (uH HS k)
   have H:=aa (fun K=>uH V k _ M.out rfl K hx)
   clear V X HS Y Z
   generalize L[k]?.getD 0=x at*
   have TZ:=aa (zc x _ hx U)
   have O:(Lib.ctz 32 x:Int)≤32∧(0:Int)≤Lib.ctz 32 x:=by
    by_cases K:x=0
    ·subst K;decide
    ·have:=(Lib.lowest_bit 32 x K (by omega)).2
     omega
   have J:=aa (fun K=>Fw x K hx)
   have e0:x=0→Lib.ctz 32 x=32:=fun h=>by subst h;rfl
   generalize Lib.ctz 32 x=c at*
   obtain⟨c1,c2⟩:=O
   by_cases l:x=0
   ·have ec:=e0 l
    subst l;subst ec
    have HN:Hid (ai (L.take (k+1))=0):=by unfold Hid;rw[uH G,M.out];simp
    clear H G M J e0 Q
    go_wp2_with(go_at_call 287;refine(uH TZ).mono ?_;rintro e w' ⟨rfl,rfl⟩)
    go_round
    case rel=>exact⟨k+1,by omega,by go_num,cJ (by omega),HN⟩
    case measure=>simp[intOf];omega
   ·have hr:=uH H l
    have HE:=aa (show z=32*(k:Int)+(c:Int) by rw[uH Q hr.1,hr.2,uH J l];omega)
    have ax:((x:Int) != 0)=true:=by rw[bne_iff_ne];omega
    clear H G M J e0 Q hr
    go_wp2_with(go_at_call 287;refine(uH TZ).mono ?_;rintro e w' ⟨rfl,rfl⟩)
    go_ret
    exact⟨aH (uH HE).symm,uH N⟩
  ·have hz:=uH X (by rw[←uH Z k (by omega)];exact M.out)
   subst hz
   clear V X Q Y Z HS M F
   go_wp2
   go_ret
   exact⟨rfl,uH N⟩
def ay(w:World)(b:Nat)(x y z:Value):Prop:=w.heap[b]? =some (.cells #[x,y,z] 41 (0,0))
theorem ay.c0{w:World}{b:Nat}{x y z:Value}(h:ay w b x y z):w.cell? ⟨b,0,none⟩=some x:=by rw[cell_of_row w b 0 _ _ _ h];rfl
theorem ay.c1{w:World}{b:Nat}{x y z:Value}(h:ay w b x y z):w.cell? ⟨b,1,none⟩=some y:=by rw[cell_of_row w b 1 _ _ _ h];rfl
theorem ay.c2{w:World}{b:Nat}{x y z:Value}(h:ay w b x y z):w.cell? ⟨b,2,none⟩=some z:=by rw[cell_of_row w b 2 _ _ _ h];rfl
theorem ay.free{w:World}{b:Nat}{x y z:Value}(h:ay w b x y z)(j:Nat):w.frozen? ⟨b,j,none⟩=false:=frozen_of_row w b j _ _ h
theorem ay.lt{w:World}{b:Nat}{x y z:Value}(h:ay w b x y z):b<w.heap.size:=(Array.getElem?_eq_some_iff.1 h).1
theorem ay.below{w w':World}{b:Nat}{x y z:Value}(h:ay w b x y z){B:Nat}(f:Below B w w')(d:b<B):ay w' b x y z:=(f.block b d).trans h
theorem ay.new(w:World)(x y z:Value):ay (w.alloc (.cells #[x,y,z] 41)) w.heap.size x y z:=heap_alloc_new w _
theorem ay.old{w:World}{b:Nat}{x y z:Value}(h:ay w b x y z)(o:Obj):ay (w.alloc o) b x y z:=by
 unfold ay;rw[Below.heap_alloc w o b h.lt];exact h
theorem ay.all{w w':World}{b:Nat}{x y z:Value}(h:ay w b x y z)(d:Below w.heap.size w w'):ay w' b x y z:=h.below d h.lt
theorem az.all{w w':World}{b:Nat}{x y:Value}(h:az w b x y)(d:Below w.heap.size w w'):az w' b x y:=h.below d h.lt
theorem ay.drew{w:World}{b:Nat}{x y z:Value}(h:ay w b x y z):ay w.drew b x y z:=h
theorem ay.other{w:World}{b:Nat}{x y z:Value}(h:ay w b x y z){p:Addr}(d:b≠p.block)(u:Value):ay (w.setCell p u) b x y z:=(Below.heap_setCell w p u b d).trans h
theorem aK{w w':World}{B b:Nat}(h:Below B w w')(d:B≤b)(u l f:Value):Below B w (((w'.setCell ⟨b,0,none⟩ u).setCell ⟨b,1,none⟩ l).setCell ⟨b,2,none⟩ f):=
 ((h.setCell d _).setCell d _).setCell d _
theorem ag.box3{w:World}{F:Option Addr}{z g:Nat}{L:List Nat}(h:ag w F z L){x:Bool}{a:Option Addr}{n c:Nat}{e:Int}(J:ay w g (.bool x) (.slice a n c) (.int .i64 e))(u K D:Value):
  ag (((w.setCell ⟨g,0,none⟩ u).setCell ⟨g,1,none⟩ K).setCell ⟨g,2,none⟩ D) F z L:=by
 refine⟨h.1,h.2.1,?_⟩
 rcases h.2.2 with O|⟨b,d,Q,U,H⟩
 ·exact .inl O
 ·by_cases G:L= []
  ·exact .inl G
  ·have N:0<L.length:=List.length_pos_iff.2 G
   have f:b≠g:=by
    rintro rfl
    have l:=H 0 N
    rw[cell_of_row w b (d+0) _ _ _ J]at l
    rcases(show d=0∨d=1∨d=2∨3≤d by omega)with e|e|e|e
    ·subst e;simp at l
    ·subst e;simp at l
    ·subst e;simp at l
    ·rw[Array.getElem?_eq_none (by simp;omega)]at l;simp at l
   refine .inr ⟨b,d,Q,by simpa[World.setCell]using U,fun i M=>?_⟩
   rw[aJ _ _ _ _ (by simpa using f),aJ _ _ _ _ (by simpa using f),aJ _ _ _ _ (by simpa using f)]
   exact H i M
def jS(neg:Bool)(L:List Nat)(e:Int):Bool:=al neg L&&(if L.length=0 then decide (e=0)else(decide (ai L%2=1)&&decide (-16384≤e∧e≤16384)))
def nf(neg:Bool)(L:List Nat)(e:Int):Int:=if jS neg L e then 0 else 1
theorem zd(v:Nat)(h:v≠0):0<eC v↔v%2=0:=by
 rw[jZ v h]
 obtain⟨m,d⟩:=g7 v (by omega)
 constructor
 ·intro l
  obtain⟨k,f⟩:∃k,tz v=k+1:=⟨tz v-1,by omega⟩
  rw[f,Nat.pow_succ,Nat.mul_assoc,Nat.mul_left_comm]at d
  omega
 ·intro l
  rcases Nat.eq_zero_or_pos (tz v)with e|e
  ·rw[e]at d;simp at d;omega
  ·omega
theorem vA(v:Nat)(h:v<dt):0≤eC v∧eC v<16384:=by
 by_cases d:v=0
 ·subst d;decide
 ·rw[jZ v d]
  have e:dt=2^(32*kN):=by
   unfold dt
   rw[show(4294967296:Nat)=2^32 by decide,←Nat.pow_mul]
  rw[e]at h
  have:=lF v (32*kN) (by omega) h
  have f:32*kN=16384:=rfl
  omega
theorem h9(neg:Bool)(K:Option Addr)(D:Nat)(L:List Nat)(e:Int)(w:World)(h:ag w K D L)(hl:L.length≤35184372088830)(X:bT w):
  Calls Tryz.prog 275 #[.agg #[.bool neg,.slice K L.length D,.int .i64 e]] w fun r w'=>r=.returned (.int .i64 (nf neg L e))∧Below w.heap.size w w':=by
 have HC:=aa (fun w' M=>dL neg K D L w' M hl)
 have Z:=aa (show al neg L=false→nf neg L e=1 from fun h=>by simp[nf,jS,h])
 have N:=aa (show¬(-16384≤e∧e≤16384)→nf neg L e=1 from fun h=>by
  unfold nf jS
  by_cases f:L.length=0
  ·rw[if_pos f,decide_eq_false (show¬e=0 by omega)];simp
  ·rw[if_neg f,decide_eq_false h];simp)
 have O:=aa (show L.length=0→e≠0→nf neg L e=1 from fun f h=>by
  unfold nf jS
  rw[if_pos f,decide_eq_false h];simp)
 have H4:=aa (show al neg L=true→L.length=0→e=0→nf neg L e=0∧eC (ai L)=0 from fun h f M=>by
  unfold nf jS
  rw[if_pos f,decide_eq_true M,h]
  have:L= []:=List.length_eq_zero_iff.1 f
  subst this
  exact⟨by simp,rfl⟩)
 have H5:=aa (show al neg L=true→L.length≠0→(-16384≤e∧e≤16384)→nf neg L e=if 0<eC (ai L)then 1 else 0 from fun h f M=>by
  have hv:ai L≠0:=fun e=>f (by rw[(aG L (au h).2.1).1 e];rfl)
  unfold nf jS
  rw[if_neg f,decide_eq_true M,h]
  have:=zd _ hv
  by_cases h1:ai L%2=1
  ·rw[decide_eq_true h1,if_neg (show¬0<eC (ai L) by omega)];simp
  ·rw[decide_eq_false h1,if_pos (show 0<eC (ai L) by omega)];simp)
 have HL:=aa (show al neg L=true→L.length≤512 from fun h=>(au h).1)
 have HE:=aa (show d6 neg L=if al neg L then 0 else 1 from rfl)
 have Q:=aa (fun w' M Y t=>j0 neg K D L w' M Y t)
 generalize nf neg L e=er at*
 generalize d6 neg L=ce at*
 generalize eC (ai L)=lz at*
 generalize al neg L=rb at*
 have J:Below w.heap.size w (w.alloc (.cells #[.bool neg,.slice K L.length D,.int .i64 e] 41)):=(Below.refl _ _).alloc (Nat.le_refl _) _
 have z:=ay.new w (.bool neg) (.slice K L.length D) (.int .i64 e)
 go_enter Tryz.func275,Tryz.ntmps275
 go_wp2_with fail
 refine(uH HC _ (h.below J)).mono ?_
 rintro r w1 ⟨rfl,d⟩
 replace z:=z.all d
 have u:=J.trans (d.mono J.size)
 rw[uH HE]
 clear d HE HC J
 have p0:=z.c0;have p1:=z.c1;have p2:=z.c2
 cases rb
 ·have H:=uH Z rfl
  subst H
  simp only[Bool.false_eq_true,if_false]
  clear Z N O H4 H5 HL Q z
  go_wp2
  go_ret
  exact⟨rfl,u⟩
 have ae:=uH HL rfl
 have F:=aa (uH H4 rfl)
 have G:=aa (uH H5 rfl)
 clear HL H4 H5 Z
 simp only[if_true]
 go_wp2_with fail
 refine(dc e 16384 _ (by decide) (by decide)).mono ?_
 rintro r w2 ⟨rfl,rfl⟩
 by_cases l:-16384≤e∧e≤16384
 case neg=>
  have H:=uH N l
  subst H
  rw[decide_eq_false l]
  clear N O F G ae Q z l
  go_wp2
  go_ret
  exact⟨rfl,u⟩
 rw[decide_eq_true l]
 go_wp2_with fail
 refine(de neg K D L.length _).mono ?_
 rintro r w3 ⟨rfl,d⟩
 replace z:=z.all d
 replace u:=u.trans (d.mono u.size)
 clear d p0 p1 p2
 have p0:=z.c0;have p1:=z.c1;have p2:=z.c2
 by_cases f:L.length=0
 ·rw[decide_eq_true f]
  by_cases U:e=0
  ·obtain⟨H,V⟩:=uH F f U
   subst H
   subst V
   subst U
   clear N O F G z l f
   go_wp2_with fail
   refine(uH Q _ (h.below u) (by omega) (X.all u)).mono ?_
   rintro r w4 ⟨rfl,d⟩
   go_wp2
   go_ret
   exact⟨rfl,u.trans (d.mono u.size)⟩
  ·have H:=uH O f U
   subst H
   have am:(e != 0)=true:=by simpa using U
   clear N O F G z l Q
   go_wp2
   go_ret
   exact⟨rfl,u⟩
 ·have H:=uH G f l
  rw[decide_eq_false f]
  by_cases V:0<lz
  ·rw[if_pos V]at H
   subst H
   clear N O F G z l f
   go_wp2_with fail
   refine(uH Q _ (h.below u) (by omega) (X.all u)).mono ?_
   rintro r w4 ⟨rfl,d⟩
   go_wp2
   go_ret
   exact⟨rfl,u.trans (d.mono u.size)⟩
  ·rw[if_neg V]at H
   subst H
   clear N O F G z l f
   go_wp2_with fail
   refine(uH Q _ (h.below u) (by omega) (X.all u)).mono ?_
   rintro r w4 ⟨rfl,d⟩
   go_wp2
   go_ret
   exact⟨rfl,u.trans (d.mono u.size)⟩
def aC(w:World)(v:Value)(m e:Int):Prop:=
 ∃(neg:Bool) (ao:Option Addr) (cap:Nat) (L:List Nat),v=.agg #[.bool neg,.slice ao L.length cap,.int .i64 e]∧an 0 w (.agg #[.bool neg,.slice ao L.length cap]) m
theorem aC.below{w w':World}{v:Value}{m e:Int}(h:aC w v m e)(f:Below w.heap.size w w'):aC w' v m e:=by
 obtain⟨neg,l,d,L,u,z⟩:=h
 exact⟨neg,l,d,L,u,z.below f⟩
theorem aC.put3{w:World}{v:Value}{m e:Int}(h:aC w v m e){g:Nat}{x:Bool}{a:Option Addr}{n c:Nat}{k:Int}(l:ay w g (.bool x) (.slice a n c) (.int .i64 k))(u z d:Value):aC (((w.setCell ⟨g,0,none⟩ u).setCell ⟨g,1,none⟩ z).setCell ⟨g,2,none⟩ d) v m e:=by
 obtain⟨neg,D,f,L,F,G,H,J,K,M,N,O⟩:=h
 exact⟨neg,D,f,L,F,G,H,J,K,M,N.box3 l _ _ _,O⟩
theorem aC.zero(w:World)(f:Option Addr)(d:Nat):aC w (.agg #[.bool false,.slice f 0 d,.int .i64 0]) 0 0:=
 ⟨false,f,d,[],rfl,an.zero _ _ _ _⟩
def kU(z e:Int):Bool:=decide (-32768≤e∧e≤32768)&&(decide (z=0)||decide (-16384≤e+tz z.natAbs∧e+tz z.natAbs≤16384))
def cK(z e:Int):Int:=if kU z e then 0 else 2
def dM(z e:Int):Int:=if kU z e then oM z else 0
def dX(z e:Int):Int:=if kU z e then oE z e else 0
def oW(na:Bool)(A:List Nat)(x:Int)(nb:Bool)(B:List Nat)(y:Int):Int:=if jS na A x&&jS nb B y then 0 else 1
theorem iI(d l:Bool)(G z:Option Addr)(H D:Nat)(A B:List Nat)(x y:Int)(w:World)(V:ag w G H A)(Y:ag w z D B)(Z:A.length≤35184372088830)(lb:B.length≤35184372088830)(L:bT w):
  Calls Tryz.prog 297 #[.agg #[.bool d,.slice G A.length H,.int .i64 x],.agg #[.bool l,.slice z B.length D,.int .i64 y]] w fun r w'=>r=.returned (.int .i64 (oW d A x l B y))∧Below w.heap.size w w':=by
 have N:=aa (show jS d A x=false→nf d A x=1∧oW d A x l B y=1 from fun h=>by simp[nf,oW,h])
 have O:=aa (show jS d A x=true→nf d A x=0∧oW d A x l B y=nf l B y from fun h=>by simp[nf,oW,h])
 have Q:=aa (fun w' M t=>h9 d G H A x w' M Z t)
 have X:=aa (fun w' M t=>h9 l z D B y w' M lb t)
 generalize oW d A x l B y=er at*
 generalize nf d A x=e1 at*
 generalize nf l B y=e2 at*
 generalize jS d A x=ra at*
 have J:Below w.heap.size w ((w.alloc (.cells #[.bool d,.slice G A.length H,.int .i64 x] 41)).alloc (.cells #[.bool l,.slice z B.length D,.int .i64 y] 41)):=((Below.refl _ _).alloc (Nat.le_refl _) _).alloc (by simp) _
 have F:ay ((w.alloc (.cells #[.bool d,.slice G A.length H,.int .i64 x] 41)).alloc (.cells #[.bool l,.slice z B.length D,.int .i64 y] 41)) (w.heap.size+1) (.bool l) (.slice z B.length D) (.int .i64 y):=by
  have:=ay.new (w.alloc (.cells #[.bool d,.slice G A.length H,.int .i64 x] 41)) (.bool l) (.slice z B.length D) (.int .i64 y)
  simpa using this
 have U:=aa F;have u:=aa J
 clear F J
 cases ra
 ·obtain⟨rfl,rfl⟩:=uH N rfl
  clear N O X U
  go_enter Tryz.func297,Tryz.ntmps297
  go_wp2_with fail
  refine(uH Q _ (V.below (uH u)) (L.all (uH u))).mono ?_
  rintro r w1 ⟨rfl,f⟩
  go_wp2
  go_ret
  exact⟨rfl,(uH u).trans (f.mono (uH u).size)⟩
 ·obtain⟨rfl,rfl⟩:=uH O rfl
  clear N O
  go_enter Tryz.func297,Tryz.ntmps297
  go_wp2_with fail
  refine(uH Q _ (V.below (uH u)) (L.all (uH u))).mono ?_
  rintro r w1 ⟨rfl,f⟩
  have F:=(uH U).all f
  have p0:=F.c0;have p1:=F.c1;have p2:=F.c2
  have K:=aa ((uH u).trans (f.mono (uH u).size))
  clear f F U u Q
  go_wp2_with fail
  refine(uH X _ (Y.below (uH K)) (L.all (uH K))).mono ?_
  rintro r w2 ⟨rfl,f⟩
  go_wp2
  go_ret
  exact⟨rfl,(uH K).trans (f.mono (uH K).size)⟩
theorem Dl(d:Bool)(v:Nat)(h:v≠0):sg d (v/2^tz v)=oM (sg d v):=by
 obtain⟨m,f⟩:=g7 v (by omega)
 have l:0<2^tz v:=Nat.pow_pos (by decide)
 have u:v/2^tz v=2*m+1:=by
  generalize 2^tz v=P at f l
  rw[f];exact Nat.mul_div_cancel_left _ l
 have z:iy (sg d v) (sg d (2*m+1)) (tz v):=by
  constructor
  ·have e:(v:Int)=(2*(m:Int)+1)*2^tz v:=by
    rw[Int.mul_comm]
    exact_mod_cast f
   unfold sg
   cases d
   ·simp only[Bool.false_eq_true,if_false];rw[e];push_cast;rfl
   ·simp only[if_true];rw[e];push_cast;rw[Int.neg_mul]
  ·unfold sg;cases d<;>simp<;>omega
 rw[u,z.eq.2.1]
theorem mA:0<dt:=Nat.pow_pos (by decide)
theorem ue(d:Bool)(A:List Nat)(e:Int)(J:al d A=true)(N:aX A):
  (¬(-32768≤e∧e≤32768)∧cK (ad d A) e=2∧dM (ad d A) e=0∧dX (ad d A) e=0)∨
  ((-32768≤e∧e≤32768)∧A.length≠0∧¬(-16384≤e+eC (ai A)∧e+eC (ai A)≤16384)∧cK (ad d A) e=2∧dM (ad d A) e=0∧dX (ad d A) e=0)∨
  ((-32768≤e∧e≤32768)∧A.length=0∧cK (ad d A) e=0∧dM (ad d A) e=0∧dX (ad d A) e=0)∨
  ((-32768≤e∧e≤32768)∧A.length≠0∧(-16384≤e+eC (ai A)∧e+eC (ai A)≤16384)∧cK (ad d A) e=0∧dX (ad d A) e=e+eC (ai A)∧tU d A (-eC (ai A))=0∧rM d A (-eC (ai A))=dM (ad d A) e):=by
 obtain⟨Y,M,_⟩:=au J
 have O:ai A<dt:=(dJ A N M).2 Y
 have Q:=vA (ai A) O
 by_cases h:-32768≤e∧e≤32768
 case neg=>
  left
  have:kU (ad d A) e=false:=by unfold kU;rw[decide_eq_false h,Bool.false_and]
  exact⟨h,by simp[cK,this],by simp[dM,this],by simp[dX,this]⟩
 right
 by_cases u:A.length=0
 ·right;left
  have U:A= []:=List.length_eq_zero_iff.1 u
  subst U
  have:kU (ad d []) e=true:=by unfold kU;rw[decide_eq_true h,gG];simp
  refine⟨h,rfl,by simp[cK,this],?_,?_⟩
  ·simp[dM,gG,oM]
  ·simp[dX,gG,oE]
 have D:ai A≠0:=fun e=>u (by rw[(aG A M).1 e];rfl)
 have f:=jZ (ai A) D
 have F:ad d A≠0:=fun e=>D (by rw[←aM d A,e];rfl)
 by_cases z:-16384≤e+eC (ai A)∧e+eC (ai A)≤16384
 case neg=>
  left
  have:kU (ad d A) e=false:=by
   unfold kU
   rw[aM,←f,decide_eq_false z,decide_eq_false F];simp
  exact⟨h,u,z,by simp[cK,this],by simp[dM,this],by simp[dX,this]⟩
 right;right
 have G:kU (ad d A) e=true:=by
  unfold kU
  rw[aM,←f,decide_eq_true h,decide_eq_true z];simp
 have K:oT d A (-eC (ai A))=oM (ad d A):=by
  rw[mz,dn,←Dl d (ai A) D,f]
  congr 1
  unfold mY
  rcases Nat.eq_zero_or_pos (tz (ai A))with e|e
  ·rw[e];simp
  ·rw[if_neg (by omega)]
   congr 2
   omega
 have V:=fq (ad d A) F
 have X:(oM (ad d A)).natAbs≤ai A:=by
  have L:(ad d A).natAbs=(oM (ad d A)).natAbs*2^tz (ad d A).natAbs:=by
   conv=>lhs;rw[V.1]
   rw[Int.natAbs_mul,Int.natAbs_pow]
   rfl
  rw[aM]at L
  rw[L]
  exact Nat.le_mul_of_pos_right _ (Nat.pow_pos (by decide))
 have H:-16384≤-eC (ai A)∧-eC (ai A)≤16384:=by omega
 have l:kT d A (-eC (ai A))=true:=by unfold kT;rw[J,decide_eq_true H];rfl
 refine⟨h,u,z,by simp[cK,G],?_,?_,?_⟩
 ·unfold dX oE;rw[if_pos G,if_neg F,aM,f]
 ·unfold tU;rw[if_pos l,K,eU _ (by omega)]
 ·unfold rM dM;rw[if_pos l,if_pos G,K,eW _ (by omega)]
theorem ia(u:Bool)(G:Option Addr)(H:Nat)(A:List Nat)(e:Int)(w:World)(hA:ag w G H A)(hr:al u A=true)(be:-9223372036854775808≤e∧e≤9223372036854775807)(hT:bT w):
  Calls Tryz.prog 236 #[.agg #[.bool u,.slice G A.length H],.int .i64 e] w fun r w'=>∃v,r=.returned (.tuple #[v,.int .i64 (cK (ad u A) e)])∧aC w' v (dM (ad u A) e) (dX (ad u A) e)∧Below w.heap.size w w':=by
 have hl:=(au hr).1
 have am:d6 u A=0:=by simp[d6,hr]
 have HM:=aa (ue u A e hr hA.2.1)
 have ae:=aa (fun w' h'=>dL u G H A w' h' (by omega))
 rw[am]at ae
 have ap:=aa (fun w' h' t=>j0 u G H A w' h' (by omega) t)
 have O:=aa (fun n w' h' bn=>gL u G H A n w' h' (by omega) bn)
 have a3:=vA (ai A) ((dJ A hA.2.1 (au hr).2.1).2 hl)
 clear am hr
 generalize cK (ad u A) e=er at*
 generalize dM (ad u A) e=dm at*
 generalize dX (ad u A) e=dx at*
 generalize eC (ai A)=lz at*
 obtain⟨a4,a5⟩:=a3
 have Y:Below w.heap.size w ((w.alloc (.cells #[.bool u,.slice G A.length H] 39)).alloc (.cells #[.bool false,.slice none 0 0,.int .i64 0] 41)):=((Below.refl _ _).alloc (Nat.le_refl _) _).alloc (by simp) _
 have h:az ((w.alloc (.cells #[.bool u,.slice G A.length H] 39)).alloc (.cells #[.bool false,.slice none 0 0,.int .i64 0] 41)) w.heap.size (.bool u) (.slice G A.length H):=(az.new _ _ _).old _
 have f:ay ((w.alloc (.cells #[.bool u,.slice G A.length H] 39)).alloc (.cells #[.bool false,.slice none 0 0,.int .i64 0] 41)) (w.heap.size+1) (.bool false) (.slice none 0 0) (.int .i64 0):=by
  have:=ay.new (w.alloc (.cells #[.bool u,.slice G A.length H] 39)) (.bool false) (.slice none 0 0) (.int .i64 0)
  simpa using this
 go_enter Tryz.func236,Tryz.ntmps236
 go_wp2_with fail
 refine(uH ae _ (hA.below Y)).mono ?_
 rintro r w1 ⟨rfl,d⟩
 replace h:=h.all d
 replace f:=f.all d
 have z:=Y.trans (d.mono Y.size)
 clear d Y ae
 have N:=h.c0;have J:=h.c1
 have D:=aa h;have F:=aa f;have l:=aa z
 clear h f z
 go_wp2_with fail
 refine(uH ap _ (hA.below (uH l)) (hT.all (uH l))).mono ?_
 rintro r w2 ⟨rfl,d⟩
 have h:=(uH D).all d
 have f:=(uH F).all d
 have z:=(uH l).trans (d.mono (uH l).size)
 clear d ap N J D F l
 have N:=h.c0;have J:=h.c1
 have D:=aa h;have F:=aa f;have l:=aa z
 have K:=f.c0;have L:=f.c1;have M:=f.c2;have U:=f.free 0;have V:=f.free 1;have X:=f.free 2
 clear h f z
 rcases uH HM with⟨Q,rfl,rfl,rfl⟩|⟨Q,h0,h2,rfl,rfl,rfl⟩|⟨Q,h0,rfl,rfl,rfl⟩|⟨Q,h0,h2,rfl,rfl,a0,a1⟩
 ·clear HM O
  go_wp2_with fail
  refine(dc e 32768 _ (by decide) (by decide)).mono ?_
  rw[decide_eq_false Q]
  rintro r w3 ⟨rfl,rfl⟩
  clear Q
  go_wp2
  refine bodyPost_ret (v:=.tuple #[.agg #[.bool false,.slice none 0 0,.int .i64 0],.int .i64 2]) (by simp[results,Tryz.results236,go_sem,K,L,M]) rfl ⟨_,rfl,aC.zero _ _ _,aK (uH l) (by omega) _ _ _⟩
 ·clear HM O
  go_wp2_with fail
  refine(dc e 32768 _ (by decide) (by decide)).mono ?_
  rw[decide_eq_true Q]
  rintro r w3 ⟨rfl,rfl⟩
  obtain⟨ax,aI⟩:=Q
  go_wp2_with fail
  refine(de u G H A.length _).mono ?_
  rw[decide_eq_false h0]
  rintro r w4 ⟨rfl,d⟩
  have h:=(uH D).all d
  have f:=(uH F).all d
  have z:=(uH l).trans (d.mono (uH l).size)
  clear d N J D F l K L M U V X
  have N:=h.c0;have J:=h.c1
  have D:=aa h;have F:=aa f;have l:=aa z
  have K:=f.c0;have L:=f.c1;have M:=f.c2;have U:=f.free 0;have V:=f.free 1;have X:=f.free 2
  clear h f z
  go_wp2_with fail
  refine(dc (e+lz) 16384 _ (by decide) (by decide)).mono ?_
  rw[decide_eq_false h2]
  rintro r w5 ⟨rfl,rfl⟩
  clear h2
  go_wp2
  refine bodyPost_ret (v:=.tuple #[.agg #[.bool false,.slice none 0 0,.int .i64 0],.int .i64 2]) (by simp[results,Tryz.results236,go_sem,K,L,M]) rfl ⟨_,rfl,aC.zero _ _ _,aK (uH l) (by omega) _ _ _⟩
 ·clear HM O
  have H0:=aa h0
  clear h0
  go_wp2_with fail
  refine(dc e 32768 _ (by decide) (by decide)).mono ?_
  rw[decide_eq_true Q]
  rintro r w3 ⟨rfl,rfl⟩
  obtain⟨ax,aI⟩:=Q
  go_wp2_with fail
  refine(de u G H A.length _).mono ?_
  rw[decide_eq_true (uH H0)]
  rintro r w4 ⟨rfl,d⟩
  have h:=(uH D).all d
  have f:=(uH F).all d
  have z:=(uH l).trans (d.mono (uH l).size)
  clear d N J D F l K L M U V X
  have N:=h.c0;have J:=h.c1
  have D:=aa h;have F:=aa f;have l:=aa z
  have K:=f.c0;have L:=f.c1;have M:=f.c2;have U:=f.free 0;have V:=f.free 1;have X:=f.free 2
  clear h f z
  clear J
  have J:=(uH D).c1
  go_wp2_with fail
  refine(de u G H A.length _).mono ?_
  rw[decide_eq_true (uH H0)]
  rintro r w5 ⟨rfl,d⟩
  have h:=(uH D).all d
  have f:=(uH F).all d
  have z:=(uH l).trans (d.mono (uH l).size)
  clear d N J D F l K L M U V X
  have l:=aa z
  have K:=f.c0;have L:=f.c1;have M:=f.c2;have U:=f.free 0;have V:=f.free 1;have X:=f.free 2
  clear h f z
  go_wp2
  refine bodyPost_ret (v:=.tuple #[.agg #[.bool false,.slice none 0 0,.int .i64 0],.int .i64 0]) (by simp[results,Tryz.results236,go_sem,K,L,M]) rfl ⟨_,rfl,aC.zero _ _ _,aK (uH l) (by omega) _ _ _⟩
 ·clear HM
  have HN:=aa a1
  have SH:=aa (fun w' h'=>uH O (-lz) w' h' (by omega))
  rw[a0]at SH
  clear a1 a0 O
  go_wp2_with fail
  refine(dc e 32768 _ (by decide) (by decide)).mono ?_
  rw[decide_eq_true Q]
  rintro r w3 ⟨rfl,rfl⟩
  obtain⟨ax,aI⟩:=Q
  go_wp2_with fail
  refine(de u G H A.length _).mono ?_
  rw[decide_eq_false h0]
  rintro r w4 ⟨rfl,d⟩
  have h:=(uH D).all d
  have f:=(uH F).all d
  have z:=(uH l).trans (d.mono (uH l).size)
  clear d N J D F l K L M U V X
  have N:=h.c0;have J:=h.c1
  have D:=aa h;have F:=aa f;have l:=aa z
  have K:=f.c0;have L:=f.c1;have M:=f.c2;have U:=f.free 0;have V:=f.free 1;have X:=f.free 2
  clear h f z
  go_wp2_with fail
  refine(dc (e+lz) 16384 _ (by decide) (by decide)).mono ?_
  rw[decide_eq_true h2]
  rintro r w5 ⟨rfl,rfl⟩
  obtain⟨a6,a7⟩:=h2
  go_wp2_with fail
  refine(de u G H A.length _).mono ?_
  rw[decide_eq_false h0]
  rintro r w6 ⟨rfl,d⟩
  have h:=(uH D).all d
  have f:=(uH F).all d
  have z:=(uH l).trans (d.mono (uH l).size)
  clear d N J D F l K L M U V X
  have N:=h.c0;have J:=h.c1
  have D:=aa h;have F:=aa f;have l:=aa z
  clear h f z
  go_wp2_with fail
  refine(uH SH _ (hA.below (uH l))).mono ?_
  rintro r w7 ⟨v,rfl,⟨Z,a2,c2,L2,rfl,i1⟩,d⟩
  have f:=(uH F).all d
  have z:=(uH l).trans (d.mono (uH l).size)
  have I1:=aa i1;have B2:=aa z;have X2:=aa f
  clear d N J D F l f z i1
  have f:=(uH X2).old (.cells #[.bool Z,.slice a2 L2.length c2] 39)
  have K:=f.c0;have L:=f.c1;have M:=f.c2;have U:=f.free 0;have V:=f.free 1;have X:=f.free 2
  have X3:=aa f
  clear f
  go_wp2
  have j:an w6.heap.size w7 (.agg #[.bool Z,.slice a2 L2.length c2]) dm:=(uH HN)▸(⟨Z,a2,c2,L2,rfl,uH I1⟩:an w6.heap.size w7 (.agg #[.bool Z,.slice a2 L2.length c2]) (rM u A (-lz)))
  have j2:aC (w7.alloc (.cells #[.bool Z,.slice a2 L2.length c2] 39)) (.agg #[.bool Z,.slice a2 L2.length c2,.int .i64 (e+lz)]) dm (e+lz):=⟨Z,a2,c2,L2,rfl,(j.below ((Below.refl _ _).alloc (Nat.le_refl _) _)).mono (Nat.zero_le _)⟩
  have b3:=(uH B2).alloc (uH B2).size (.cells #[.bool Z,.slice a2 L2.length c2] 39)
  refine bodyPost_ret (v:=.tuple #[.agg #[.bool Z,.slice a2 L2.length c2,.int .i64 (e+lz)],.int .i64 0]) (by simp[results,Tryz.results236,go_sem,K,L,M]) rfl ⟨_,rfl,j2.put3 (uH X3) _ _ _,aK b3 (by omega) _ _ _⟩
theorem iJ{B:Nat}{w:World}{v:Value}{z:Int}(e:Int)(d:an B w v z)(f:z.natAbs<dt)(h:-9223372036854775808≤e∧e≤9223372036854775807)(l:bT w):
  Calls Tryz.prog 236 #[v,.int .i64 e] w fun r w'=>∃u,r=.returned (.tuple #[u,.int .i64 (cK z e)])∧aC w' u (dM z e) (dX z e)∧Below w.heap.size w w':=by
 obtain⟨D,F,G,A,rfl,H,J,K,L⟩:=d.right f
 have:=ia D F G A e w H J h l
 rwa[K]at this
theorem aW(x:Int)(h:-9000000000000000000≤x∧x≤9000000000000000000):IntKind.i64.wrap x=x:=by
 simp only[IntKind.wrap,IntKind.signed,IntKind.bits]
 simp
 omega
theorem ze(L:List Nat):ai L%2=L[0]?.getD 0%2:=by
 cases L with
 |nil=>rfl
 |cons x r=>simp[ai];omega
theorem Dm(neg:Bool)(D:Option Addr)(f:Nat)(L:List Nat)(w:World)(h:ag w D f L):
  Calls Tryz.prog 102 #[.agg #[.bool neg,.slice D L.length f]] w fun e w'=>e=.returned (.bool (decide (ai L%2=1)))∧Below w.heap.size w w':=by
 by_cases l:L= []
 ·subst l
  go_enter Tryz.func102,Tryz.ntmps102
  go_wp2
  go_ret
  exact⟨rfl,(Below.refl _ _).alloc (Nat.le_refl _) _⟩
 obtain⟨b,M,rfl,Q,G⟩:=h.ne (List.length_pos_iff.2 l)
 have H:0<L.length:=List.length_pos_iff.2 l
 have J:(0:Int)<(L.length:Int):=by omega
 have u:=G 0 H
 have O:=h.lt 0
 have F:=h.1
 rw[ze]
 generalize L[0]?.getD 0=x at*
 clear G h l
 rw[Nat.add_zero]at u
 generalize N:L.length=n at*
 clear N
 by_cases d:x%2=1
 ·have K:(((x:Int)%2)==1)=true:=by rw[beq_iff_eq];omega
  have z:=aa (decide_eq_true d)
  clear d
  go_enter Tryz.func102,Tryz.ntmps102
  go_wp2
  go_ret
  exact⟨iE (uH z).symm,(Below.refl _ _).alloc (Nat.le_refl _) _⟩
 ·have K:(((x:Int)%2)==1)=false:=by rw[beq_eq_false_iff_ne];omega
  have z:=aa (decide_eq_false d)
  clear d
  go_enter Tryz.func102,Tryz.ntmps102
  go_wp2
  go_ret
  exact⟨iE (uH z).symm,(Below.refl _ _).alloc (Nat.le_refl _) _⟩
theorem j4(neg:Bool)(f:Option Addr)(d:Nat)(L:List Nat)(e:Int)(w:World)(h:ag w f d L)(N:L.length≤35184372088830):
  Calls Tryz.prog 208 #[.agg #[.bool neg,.slice f L.length d,.int .i64 e]] w fun r w'=>r=.returned (.int .i64 (IntKind.i64.wrap (dw L+e)))∧Below w.heap.size w w':=by
 have Q:=aa (fun w' O=>qk neg f d L w' O N)
 generalize dw L=n at*
 have z:Below w.heap.size w (w.alloc (.cells #[.bool neg,.slice f L.length d,.int .i64 e] 41)):=(Below.refl _ _).alloc (Nat.le_refl _) _
 have u:=ay.new w (.bool neg) (.slice f L.length d) (.int .i64 e)
 have G:=aa u;have H:=aa z
 clear u z
 go_enter Tryz.func208,Tryz.ntmps208
 go_wp2
 refine aj (fun W=>Below w.heap.size w W∧ay W w.heap.size (.bool neg) (.slice f L.length d) (.int .i64 e)) ⟨uH H,uH G⟩ ?_
 rintro l ⟨F,u⟩
 have J:∀w',Below l.heap.size l w'→Below l.heap.size l w'∧w'.cell? ⟨w.heap.size,0,none⟩=some (.bool neg)∧w'.cell? ⟨w.heap.size,1,none⟩=some (.slice f L.length d)∧w'.cell? ⟨w.heap.size,2,none⟩=some (.int .i64 e):=fun w' h=>
  ⟨h,(u.all h).c0,(u.all h).c1,(u.all h).c2⟩
 have K:=aa J
 have U:=aa (h.below F);have M:=aa F
 clear J u F h G H
 go_region_held3(fun w'=>Below l.heap.size l w'∧w'.cell? ⟨w.heap.size,0,none⟩=some (.bool neg)∧w'.cell? ⟨w.heap.size,1,none⟩=some (.slice f L.length d)∧w'.cell? ⟨w.heap.size,2,none⟩=some (.int .i64 e))
  (first|exact uH K _ (Below.refl _ _).drew|exact uH K _ (by assumption))
  (first|(go_at_call 238;refine(uH Q _ ((uH U).below (And.left (by assumption)))).mono ?_;rintro e X ⟨rfl,D⟩;have V:Below l.heap.size l X:=Below.trans (And.left (by assumption)) (D.mono (Below.size (And.left (by assumption))));clear D))
 go_wp2
 go_ret
 exact⟨rfl,(uH M).trans (Below.mono (And.left (by assumption)) (uH M).size)⟩
def gy(L:List Nat)(e:Int):Int:=if L.length=0 then 0 else dw L+e
theorem ng(neg:Bool)(f:Option Addr)(d:Nat)(L:List Nat)(e:Int)(w:World)(h:ag w f d L)(hl:L.length≤1073741824)(he:-100000≤e∧e≤100000):
  Calls Tryz.prog 105 #[.agg #[.bool neg,.slice f L.length d,.int .i64 e]] w fun r w'=>r=.returned (.int .i64 (gy L e))∧Below w.heap.size w w':=by
 have O:=aa (fun w' Y=>t9 neg f d L w' Y (by omega))
 have H:L.length≠0→0≤dw L∧dw L≤40000000000:=fun u=>by
  unfold dw
  rw[if_neg u]
  have:=kS (L[L.length-1]?.getD 0)
  omega
 have G:=aa (show(L.length=0→gy L e=0)∧(L.length≠0→gy L e=dw L+e) by unfold gy;constructor<;>intro h<;>simp[h])
 generalize gy L e=t at*
 generalize dw L=n at*
 have D:Below w.heap.size w (w.alloc (.cells #[.bool neg,.slice f L.length d,.int .i64 e] 41)):=(Below.refl _ _).alloc (Nat.le_refl _) _
 have z:=ay.new w (.bool neg) (.slice f L.length d) (.int .i64 e)
 have Q:=aa z;have J:=aa D
 clear z D
 by_cases u:L.length=0
 ·have K:=(uH G).1 u
  subst K
  have M:((L.length:Int)==0)=true:=by rw[beq_iff_eq];omega
  clear G H O u
  go_enter Tryz.func105,Tryz.ntmps105
  go_wp2
  go_ret
  exact⟨rfl,uH J⟩
 have K:=(uH G).2 u
 subst K
 obtain⟨am,ap⟩:=H u
 have M:((L.length:Int)==0)=false:=by rw[beq_eq_false_iff_ne];omega
 clear G H u
 go_enter Tryz.func105,Tryz.ntmps105
 go_wp2
 refine aj (fun W=>Below w.heap.size w W∧ay W w.heap.size (.bool neg) (.slice f L.length d) (.int .i64 e)) ⟨uH J,uH Q⟩ ?_
 rintro l ⟨N,z⟩
 have U:∀w',Below l.heap.size l w'→Below l.heap.size l w'∧w'.cell? ⟨w.heap.size,0,none⟩=some (.bool neg)∧w'.cell? ⟨w.heap.size,1,none⟩=some (.slice f L.length d)∧w'.cell? ⟨w.heap.size,2,none⟩=some (.int .i64 e):=fun w' h=>
  ⟨h,(z.all h).c0,(z.all h).c1,(z.all h).c2⟩
 have V:=aa U
 have Z:=aa (h.below N);have X:=aa N
 clear U z N h Q J
 go_region_held3(fun w'=>Below l.heap.size l w'∧w'.cell? ⟨w.heap.size,0,none⟩=some (.bool neg)∧w'.cell? ⟨w.heap.size,1,none⟩=some (.slice f L.length d)∧w'.cell? ⟨w.heap.size,2,none⟩=some (.int .i64 e))
  (first|exact uH V _ (Below.refl _ _).drew|exact uH V _ (by assumption))
  (first|(go_at_call 170;refine(uH O _ ((uH Z).below (And.left (by assumption)))).mono ?_;rintro e w1 ⟨rfl,F⟩;have ae:Below l.heap.size l w1:=Below.trans (And.left (by assumption)) (F.mono (Below.size (And.left (by assumption))));clear F))
 go_wp2
 go_ret
 exact⟨aH (aW _ (by omega)),(uH X).trans (Below.mono (And.left (by assumption)) (uH X).size)⟩
def uf(neg:Bool)(n:Nat):Int:=if neg then-1 else if n=0 then 0 else 1
theorem kV(neg:Bool)(D:Option Addr)(l:Nat)(n:Nat)(e:Int)(w:World):
  Calls Tryz.prog 104 #[.agg #[.bool neg,.slice D n l,.int .i64 e]] w fun r w'=>r=.returned (.int .i64 (uf neg n))∧Below w.heap.size w w':=by
 have d:=aa (show uf neg n=if neg then-1 else if n=0 then 0 else 1 from rfl)
 generalize uf neg n=s at*
 have u:Below w.heap.size w (w.alloc (.cells #[.bool neg,.slice D n l,.int .i64 e] 41)):=(Below.refl _ _).alloc (Nat.le_refl _) _
 have z:=aa u
 clear u
 cases neg
 ·rcases(show n=0∨n=1∨2≤n by omega)with rfl|rfl|h
  ·have f:s=0:=by rw[uH d];rfl
   subst f
   clear d
   go_enter Tryz.func104,Tryz.ntmps104
   go_wp2
   go_ret
   exact⟨rfl,uH z⟩
  ·have f:s=1:=by rw[uH d];rfl
   subst f
   clear d
   go_enter Tryz.func104,Tryz.ntmps104
   go_wp2
   go_ret
   exact⟨rfl,uH z⟩
  ·have f:s=1:=by rw[uH d,if_neg (by decide),if_neg (by omega)]
   subst f
   have F:(1:Int)<(n:Int):=by omega
   clear d
   go_enter Tryz.func104,Tryz.ntmps104
   go_wp2
   go_ret
   exact⟨rfl,uH z⟩
 ·have f:s= -1:=by rw[uH d];rfl
  subst f
  clear d
  go_enter Tryz.func104,Tryz.ntmps104
  go_wp2
  go_ret
  exact⟨rfl,uH z⟩
attribute [local go_sem ↓] Go.wp_at_zero Go.wp_at_succ
theorem gN(x k:Int):IntKind.i64.wrap (IntKind.i64.wrap x+k)=IntKind.i64.wrap (x+k):=by
 simp only[IntKind.wrap,IntKind.signed,IntKind.bits]
 simp
 split<;>split<;>split<;>omega
theorem fH(x:Int):wrap64 x=IntKind.i64.wrap x:=by
 simp only[IntKind.wrap,IntKind.signed,IntKind.bits,wrap64]
 simp
 split<;>omega
theorem cX(x:Int)(h:-9223372036854775808≤x∧x≤9223372036854775807):IntKind.i64.wrap x=x:=by
 simp only[IntKind.wrap,IntKind.signed,IntKind.bits]
 simp
 omega
theorem dP(x e:Int)(j:Nat)(d:j<18446744073709551616)(h:x=IntKind.i64.wrap (e+j)):((x-e)%18446744073709551616).toNat=j:=by
 subst h
 simp only[IntKind.wrap,IntKind.signed,IntKind.bits]
 simp
 split<;>omega
theorem Fz(x:Int):sg (decide (x<0)) x.natAbs=x:=by
 unfold sg
 by_cases h:x<0
 ·rw[decide_eq_true h];simp;omega
 ·rw[decide_eq_false h];simp;omega
def wO(w wr:World)(z:Int)(j:Nat)(nn:Bool)(a:Option Addr)(c:Nat)(L:List Nat):Prop:=
 az wr w.heap.size (.bool nn) (.slice a L.length c)∧ay wr (w.heap.size+1) (.bool false) (.slice none 0 0) (.int .i64 0)∧ag wr a c L∧bG L∧L≠ []∧L.length≤30000∧sg nn (ai L)*2^j=z∧Below w.heap.size w wr
theorem wO.step{w f:World}{z x:Int}{F K l:Bool}{L u:Option Addr}{N O D v M B j:Nat}{d:List Nat}
  (G:az f w.heap.size (.bool K) (.slice L N O)) (Q:ay f (w.heap.size+1) (.bool false) (.slice none 0 0) (.int .i64 0))
  (i:ag f u D d∧bs B u d∧bG d∧l=decide (x<0)∧ai d=x.natAbs∧d.length≤M) (H:x=sg F v) (hv:v≠0) (U:sg F v*2^j=z) (hl:M≤30000) (h:Below w.heap.size w f):
  wO w ((f.setCell ⟨w.heap.size,0,none⟩ (.bool l)).setCell ⟨w.heap.size,1,none⟩ (.slice u d.length D)) z j l u D d:=by
 obtain⟨X,i2,Y,Z,J,i6⟩:=i
 have V:sg l (ai d)=x:=by rw[Z,J,Fz]
 refine⟨G.put _ _,(Q.other (by simp) _).other (by simp) _,X.box G _ _,Y,?_,by omega,?_,(h.setCell (by simp) _).setCell (by simp) _⟩
 ·rintro rfl
  simp[ai]at J
  have:x.natAbs=v:=by rw[H,jd]
  omega
 ·rw[V,H];exact U
theorem wO.tzs{w wr:World}{z:Int}{j:Nat}{d:Bool}{a:Option Addr}{c:Nat}{L:List Nat}(h:wO w wr z j d a c L):ai L≠0∧tz z.natAbs=j+tz (ai L):=by
 obtain⟨F,G,H,l,u,J,D,K⟩:=h
 have f:ai L≠0:=fun e=>u ((aG L l).1 e)
 refine⟨f,?_⟩
 rw[←yN (ai L) j (by omega),←D,Int.natAbs_mul,jd,Int.natAbs_pow,Nat.mul_comm]
 rfl
theorem wO.last{w wr:World}{z:Int}{j:Nat}{d:Bool}{a:Option Addr}{c:Nat}{L:List Nat}(h:wO w wr z j d a c L)(J:ai L%2=1):an 0 wr (.agg #[.bool d,.slice a L.length c]) (oM z)∧j=tz z.natAbs:=by
 obtain⟨K,M,f,u,D,N,F,O⟩:=h
 have l:iy z (sg d (ai L)) j:=⟨F.symm,by unfold sg;cases d<;>simp<;>omega⟩
 obtain⟨Q,G,H⟩:=l.eq
 rw[←G,←dn]
 exact⟨an.mk f (bs.zero f) u D (by omega),H⟩
theorem wP(L:List Nat)(d:aX L):ai L%4294967296=L[0]?.getD 0:=by
 cases L with
 |nil=>rfl
 |cons x r=>
  have:=d x (by simp)
  simp[ai]
  omega
theorem wO.down{w wr:World}{z:Int}{j:Nat}{d:Bool}{a:Option Addr}{c:Nat}{L:List Nat}(h:wO w wr z j d a c L)(k:Nat)(G:ai L%2^k=0):ai L/2^k≠0∧sg d (ai L/2^k)*2^(j+k)=z∧j+k≤tz z.natAbs:=by
 obtain⟨u,D⟩:=h.tzs
 obtain⟨H,J,K,M,N,O,F,Q⟩:=h
 have f:ai L=2^k*(ai L/2^k):=by have:=Nat.div_add_mod (ai L) (2^k);omega
 have l:ai L/2^k≠0:=fun e=>u (by rw[f,e];simp)
 refine⟨l,?_,?_⟩
 ·rw[←F]
  conv=>rhs;rw[f]
  generalize ai L/2^k=q
  have e:sg d (2^k*q)=sg d q*2^k:=by
   unfold sg
   cases d
   ·simp only[Bool.false_eq_true,if_false];push_cast;rw[Int.mul_comm]
   ·simp only[if_true];push_cast;rw[Int.neg_mul,Int.mul_comm]
  rw[e,Nat.add_comm,Int.pow_add,Int.mul_assoc]
 ·rw[D]
  have e:tz (ai L)=k+tz (ai L/2^k):=by
   conv=>lhs;rw[f]
   exact yN _ _ (Nat.pos_of_ne_zero l)
  omega
theorem zf(na:Bool)(ao:Option Addr)(ca:Nat)(A:List Nat)(e:Int)(w:World)(hA:ag w ao ca A)(h0:A≠ [])(hc:bG A)(la:A.length≤20000)(be:-9223372036854775808≤e∧e≤9223372036854775807):
  Calls Tryz.prog 45 #[.agg #[.bool na,.slice ao A.length ca],.int .i64 e] w fun r w'=>∃v,r=.returned v∧aC w' v (oM (ad na A)) (IntKind.i64.wrap (e+tz (ad na A).natAbs))∧Below w.heap.size w w':=by
 obtain⟨i0,hi,bm,bn,bo⟩:=info_parts Tryz.info122
 have HZ:=aa (dn na A).symm
 have hT:tz (ad na A).natAbs<18446744073709551616:=by
  rw[aM]
  have hv:ai A≠0:=fun e=>h0 ((aG A hc).1 e)
  have h1:=dZ A hA.2.1
  rw[show(4294967296:Nat)=2^32 by decide,←Nat.pow_mul]at h1
  have:=lF (ai A) _ (by omega) h1
  omega
 generalize ad na A=z at*
 obtain⟨T,a0⟩:∃T,T=tz z.natAbs:=⟨_,rfl⟩
 have am:=aa a0
 rw[←a0]at hT⊢
 have HM:=aa (show oM z=oM z from rfl)
 have ap:=aa h0;have HC:=aa hc
 clear h0 hc a0
 have hp:0<A.length:=List.length_pos_iff.2 (uH ap)
 have ax:((A.length:Int)==0)=false:=by rw[beq_eq_false_iff_ne];omega
 go_enter Tryz.func45,Tryz.ntmps45
 go_wp2
 clear HM
 go_loopw[1] (fun i wr=>∃(x:Int) (j:Nat) (M:Bool) (a:Option Addr) (c:Nat) (L:List Nat),i=.int .i64 x∧j≤T∧Hid (x=IntKind.i64.wrap (e+j))∧Hid (wO w wr z j M a c L)) (fun i _=>T-((intOf i-e)%18446744073709551616).toNat)
 case atStart=>
  refine⟨e,0,na,ao,ca,A,rfl,Nat.zero_le _,?_,(az.new _ _ _).old _,?_,hA.below (((Below.refl _ _).alloc (Nat.le_refl _) _).alloc (by simp) _),uH HC,uH ap,by omega,by rw[uH HZ];simp,((Below.refl _ _).alloc (Nat.le_refl _) _).alloc (by simp) _⟩
  ·unfold Hid;rw[cX _ (by omega)];omega
  ·have:=ay.new (w.alloc (.cells #[.bool na,.slice ao A.length ca] 39)) (.bool false) (.slice none 0 0) (.int .i64 0)
   simpa using this
 case round=>
  obtain⟨x,j,M,a,c,L,rfl,hj,X,V⟩:=hrel
  clear HZ HC ap hA la hp ax
  obtain⟨H,J,Y,hC,hS,D,hz,F⟩:=uH V
  have hp:0<L.length:=List.length_pos_iff.2 hS
  have ax:(0:Int)<(L.length:Int):=by omega
  have p0:=H.c0;have p1:=H.c1
  have a3:=Y.1
  obtain⟨b,a5,rfl,hb,a1⟩:=Y.ne hp
  have aI:=a1 0 hp
  rw[Nat.add_zero]at aI
  have K:=wP L Y.2.1
  have a6:=Y.lt 0
  by_cases hg:L[0]?.getD 0=0
  ·rw[hg]at aI K
   obtain⟨d1,d2,d3⟩:=(uH V).down 32 K
   rw[←uH am]at d3
   have Z:=aa d1;have ae:=aa d2
   have f:=aa F;have O:=aa H;have N:=aa J;have l:=aa D;have G:=aa (Y.below ((Below.refl _ _).drew))
   clear hz H J Y hC hS F V D a1 K hg d1 d2 a6
   go_wp2
   have bb:(1:Int)≤(L.length:Int):=by omega
   have bg:(L.length:Int)≤(c:Int):=by omega
   have bi:(1:Int)≤(c:Int):=by omega
   by_cases a7:c=1
   ·subst a7
    go_region_with (go_at_call 101;refine(m0 M b a5 L _ (uH G)).mono ?_;rintro e w2 ⟨v,rfl,⟨n2,a2,c2,L2,rfl,i1⟩,d⟩;have I1:=aa i1;have u:=(uH O).drew.below d (uH O).drew.lt;have Z1:=(uH N).drew.below d (uH N).drew.lt;have r0:=u.c0;have r1:=u.c1;have f0:=u.free 0;have f1:=u.free 1;have B2:=aa (((uH f).drew).trans (d.mono ((uH f).drew).size));have Q:=aa u;have U:=aa Z1;clear i1 d u Z1)
    all_goals
     go_wp2
     go_roundw
     case rel=>exact⟨_,j+32,n2,a2,c2,L2,rfl,d3,aa (by rw[fH,uH X,gN];congr 1;omega),wO.step (v:=ai L/4294967296) (uH Q) (uH U) (uH I1) rfl (uH Z) (uH ae) (by have:=uH l;omega) (uH B2)⟩
     case measure=>rw[fH,uH X,gN];simp only[intOf];rw[dP _ e j (by omega) rfl,dP _ e (j+32) (by omega) (by congr 1;omega)];omega
   ·have ba:¬(c:Int)=1:=by omega
    go_region_with (go_at_call 101;refine(pw M b a5 c L _ (uH G) (by have:=uH l;omega)).mono ?_;rintro e w2 ⟨v,rfl,⟨n2,a2,c2,L2,rfl,i1⟩,d⟩;have I1:=aa i1;have u:=(uH O).drew.below d (uH O).drew.lt;have Z1:=(uH N).drew.below d (uH N).drew.lt;have r0:=u.c0;have r1:=u.c1;have f0:=u.free 0;have f1:=u.free 1;have B2:=aa (((uH f).drew).trans (d.mono ((uH f).drew).size));have Q:=aa u;have U:=aa Z1;clear i1 d u Z1)
    all_goals
     go_wp2
     go_roundw
     case rel=>exact⟨_,j+32,n2,a2,c2,L2,rfl,d3,aa (by rw[fH,uH X,gN];congr 1;omega),wO.step (v:=ai L/4294967296) (uH Q) (uH U) (uH I1) rfl (uH Z) (uH ae) (by have:=uH l;omega) (uH B2)⟩
     case measure=>rw[fH,uH X,gN];simp only[intOf];rw[dP _ e j (by omega) rfl,dP _ e (j+32) (by omega) (by congr 1;omega)];omega
  ·have a9:(((L[0]?.getD 0:Nat):Int)==0)=false:=by rw[beq_eq_false_iff_ne];omega
   generalize L[0]?.getD 0=y at*
   have HI:=V
   clear V H J Y hC hS D hz F a1 K hg
   go_wp2
   go_loopw[1] (fun i wr=>∃(x:Int) (j:Nat) (M:Bool) (a:Option Addr) (c:Nat) (L:List Nat),i=.int .i64 x∧j≤T∧Hid (x=IntKind.i64.wrap (e+j))∧Hid (wO w wr z j M a c L)) (fun i _=>T-((intOf i-e)%18446744073709551616).toNat)
   case atStart=>exact⟨x,j,M,_,c,L,rfl,hj,X,HI⟩
   case round=>
    clear HI p0 p1 ax hp a9 aI hj X hb a3
    obtain⟨x,j,M,a,c,L,rfl,hj,X,V⟩:=hrel
    obtain⟨H,J,Y,hC,hS,D,hz,F⟩:=uH V
    have p0:=H.c0;have p1:=H.c1
    have O:=aa H;have N:=aa J;have f:=aa F;have l:=aa D;have G:=aa Y
    clear H J Y hC hS D hz F
    go_wp2_with fail
    refine(Dm M a c L wr (uH G)).mono ?_
    by_cases ho:ai L%2=1
    ·rw[decide_eq_true ho]
     rintro r w3 ⟨rfl,h⟩
     obtain⟨l1,l2⟩:=(uH V).last ho
     have L1:=aa (l1.below h);have L2:=aa l2
     have H:=(uH O).all h;have J:=(uH N).all h
     have b1:=(uH f).trans (h.mono (uH f).size)
     clear V l1 l2 h ho p0 p1 O N f G
     have p0:=H.c0;have p1:=H.c1
     have y0:=J.c0;have y1:=J.c1;have y2:=J.c2;have f0:=J.free 0;have f1:=J.free 1;have f2:=J.free 2
     have N:=aa J;have B1:=aa b1
     clear H J b1
     go_wp2
     have e1:IntKind.i64.wrap (e+(T:Int))=x:=by rw[uH X,uH am,←uH L2]
     rw[e1]
     have j2:aC w3 (.agg #[.bool M,.slice a L.length c,.int .i64 x]) (oM z) x:=⟨M,a,c,L,rfl,uH L1⟩
     refine bodyPost_ret (v:=.agg #[.bool M,.slice a L.length c,.int .i64 x]) (by simp[results,Tryz.results45,go_sem,y0,y1,y2]) rfl ⟨_,rfl,j2.put3 (uH N) _ _ _,aK (uH B1) (by omega) _ _ _⟩
    ·rw[decide_eq_false ho]
     rintro r w3 ⟨rfl,h⟩
     obtain⟨d1,d2,d3⟩:=(uH V).down 1 (by simp;omega)
     rw[←uH am]at d3
     rw[Nat.pow_one]at d1 d2
     have Z:=aa d1;have ae:=aa d2
     have H:=(uH O).all h;have J:=(uH N).all h
     have b1:=(uH f).trans (h.mono (uH f).size)
     have a4:=(uH G).below h
     clear V d1 d2 h ho p0 p1 O N f G
     have p0:=H.c0;have p1:=H.c1
     have O:=aa H;have N:=aa J;have B1:=aa b1;have G:=aa a4
     clear H J b1 a4
     go_wp2_with fail
     refine(rN M a c L w3 (uH G) (by have:=uH l;omega)).mono ?_
     rintro r w2 ⟨v,rfl,⟨n2,a2,c2,L2,rfl,i1⟩,d⟩
     have I1:=aa i1
     have u:=(uH O).all d
     have Z1:=(uH N).all d
     have r0:=u.c0;have r1:=u.c1;have f0:=u.free 0;have f1:=u.free 1
     have B2:=aa ((uH B1).trans (d.mono (uH B1).size))
     have Q:=aa u;have U:=aa Z1
     clear i1 d u Z1
     go_wp2
     go_roundw
     case rel=>exact⟨_,j+1,n2,a2,c2,L2,rfl,d3,aa (by rw[fH,uH X,gN];congr 1;omega),wO.step (v:=ai L/2) (uH Q) (uH U) (uH I1) rfl (uH Z) (uH ae) (by have:=uH l;omega) (uH B2)⟩
     case measure=>rw[fH,uH X,gN];simp only[intOf];rw[dP _ e j (by omega) rfl,dP _ e (j+1) (by omega) (by congr 1;omega)];omega
theorem zg(d:Bool)(f:Option Addr)(h:Nat)(e:Int)(w:World):
  Calls Tryz.prog 45 #[.agg #[.bool d,.slice f 0 h],.int .i64 e] w fun r w'=>∃v,r=.returned v∧aC w' v 0 0∧Below w.heap.size w w':=by
 go_enter Tryz.func45,Tryz.ntmps45
 go_wp2
 refine bodyPost_ret (v:=.agg #[.bool false,.slice none 0 0,.int .i64 0]) (by simp[results,Tryz.results45,go_sem]) rfl ⟨_,rfl,aC.zero _ _ _,?_⟩
 exact((Below.refl w.heap.size w).alloc (Nat.le_refl _) _).alloc (by simp) _
theorem Dn{M B:Nat}{w:World}{v:Value}{z:Int}(e:Int)(H:aB M B w v z)(Q:M≤20000)(J:-9223372036854775808≤e∧e≤9223372036854775807):
  Calls Tryz.prog 45 #[v,.int .i64 e] w fun r w'=>∃u,r=.returned u∧aC w' u (oM z) (if z=0 then 0 else IntKind.i64.wrap (e+tz z.natAbs))∧Below w.heap.size w w':=by
 obtain⟨h,l,D,A,rfl,N,U,F,O,G,V⟩:=H
 have d:=jB O G
 by_cases f:A= []
 ·subst f
  rw[gG]at d
  subst d
  rw[if_pos rfl,show oM 0=0 by simp[oM]]
  exact zg h l D e w
 ·have L:z≠0:=fun K=>f ((aG A F).1 (by rw[G,K];rfl))
  rw[if_neg L,←d]
  exact zf h l D A e w N f F (by omega) J
theorem gO{M B:Nat}{w:World}{v:Value}{z:Int}(e:Int)(f:aB M B w v z)(l:M≤20000)(F:-1000000≤e∧e≤1000000):
  Calls Tryz.prog 45 #[v,.int .i64 e] w fun r w'=>∃u,r=.returned u∧aC w' u (oM z) (oE z e)∧Below w.heap.size w w':=by
 have d:=Dn e f l (by omega)
 have:(if z=0 then 0 else IntKind.i64.wrap (e+tz z.natAbs))=oE z e:=by
  unfold oE
  split
  ·rfl
  ·rename_i U
   have G:tz z.natAbs<32*20000:=by
    obtain⟨H,J,K,A,rfl,D,L,N,O,h,Q⟩:=f
    rw[←h]
    have f:ai A≠0:=by rw[h];omega
    have d:=dZ A D.2.1
    rw[show(4294967296:Nat)=2^32 by decide,←Nat.pow_mul]at d
    have:=lF (ai A) _ (by omega) d
    omega
   exact aW _ (by omega)
 rwa[this]at d
def qn(n y:Int):Bool:=if n=0 then decide (y=0)else(decide (n%2=1)&&decide (-16384≤y∧y≤16384))
theorem aC.parts{w:World}{v:Value}{m e:Int}(h:aC w v m e):
  ∃(neg:Bool) (f:Option Addr) (d:Nat) (L:List Nat),v=.agg #[.bool neg,.slice f L.length d,.int .i64 e]∧ag w f d L∧bG L∧neg=decide (m<0)∧ai L=m.natAbs∧L.length≤35184372088832:=by
 obtain⟨neg,f,d,L,rfl,K,M,N,u,l,z,O,D,F,G,H⟩:=h
 simp only[Value.agg.injEq,Array.mk.injEq,List.cons.injEq,Value.bool.injEq,Value.slice.injEq,and_true]at l
 obtain⟨rfl,rfl,J,rfl⟩:=l
 exact⟨neg,f,d,u,by rw[J],z,D,F,G,H⟩
theorem rP(n:Int):(n.natAbs%2=1)↔(n%2=1):=by omega
theorem aC.right{w:World}{v:Value}{m e:Int}(h:aC w v m e)(O:m.natAbs<dt):
  ∃(neg:Bool) (l:Option Addr) (d:Nat) (L:List Nat),v=.agg #[.bool neg,.slice l L.length d,.int .i64 e]∧ag w l d L∧al neg L=true∧ad neg L=m∧L.length≤512∧jS neg L e=qn m e:=by
 obtain⟨neg,l,d,L,rfl,u,D,G,f,X⟩:=h.parts
 have U:an 0 w (.agg #[.bool neg,.slice l L.length d]) m:=⟨neg,l,d,L,rfl,u,bs.zero u,D,G,f,X⟩
 have V:L.length≤512:=(dJ L u.2.1 D).1 (by omega)
 have F:al neg L=true:=by
  obtain⟨H,Y,J,K,M,Z,N,e4,e5⟩:=U.right O
  simp only[Value.agg.injEq,Array.mk.injEq,List.cons.injEq,Value.bool.injEq,Value.slice.injEq,and_true]at M
  obtain⟨rfl,rfl,o3,rfl⟩:=M
  have:L=K:=by
   refine rz L K u.2.1 Z.2.1 D (au N).2.1 ?_
   rw[f,←e4,aM]
  rw[this];exact N
 refine⟨neg,l,d,L,rfl,u,F,jB G f,V,?_⟩
 unfold jS qn
 rw[F,Bool.true_and,f]
 by_cases z:L.length=0
 ·have:m=0:=by
   have:L= []:=List.length_eq_zero_iff.1 z
   rw[this]at f;simp[ai]at f;omega
  rw[if_pos z,if_pos this]
 ·have:m≠0:=fun Q=>z (by
   have:L= []:=(aG L D).1 (by rw[f,Q];rfl)
   rw[this];rfl)
  rw[if_neg z,if_neg this]
  congr 1
  rw[decide_eq_decide]
  exact rP m
theorem aC.num{w:World}{v:Value}{m e:Int}(h:aC w v m e):
  ∃(neg:Bool) (f:Option Addr) (d:Nat) (L:List Nat),v=.agg #[.bool neg,.slice f L.length d,.int .i64 e]∧an 0 w (.agg #[.bool neg,.slice f L.length d]) m:=h
end Go.Proofs.YtdhmglmccafbnaaGreatDoor
