/- Part 11 of the texts. -/
import Derived.Test.YtenpggicmfhhdaaGreatDoorParte10
import Derived.Shelf.Spec.TrailingZeros
set_option maxHeartbeats 4000000
set_option maxRecDepth 20000
namespace Go.Proofs.YtenpggicmfhhdaaGreatDoor
open Go.RowKit
def cd(w:World):Prop:=TabAt 1 Lib.deBruijn32tab w
theorem cd.below{w d:World}{B:Nat}(h:cd w)(f:Below B w d)(l:1<B):cd d:=fun j m=>by
 rw[f.cell (p:=⟨1,j,none⟩) l]
 exact h j m
theorem cd.pos{w:World}(h:cd w):1<w.heap.size:=World.block_lt_of_cell? w _ (h 0 (by decide))
theorem cd.all{w d:World}(h:cd w)(f:Below w.heap.size w d):cd d:=h.below f h.pos
theorem vv(x k d:Nat)(w:World)(l:((x:Int)==0)=false)
  (f:bits BinOp.and IntKind.u32 (x:Int) (-(x:Int)%4294967296)*125613361%4294967296/134217728=(d:Int))
  (t:d<32) (y:k<32) (h:w.cell? ⟨1,d,none⟩=some (.int .u8 k)):
  Calls Tryz.prog 184 #[.int .u32 x] w fun e m=>e=.returned (.int .i64 k)∧w=m:=by
 go_enter Tryz.func184,Tryz.ntmps184
 go_wp2_with(simp only[f])
 go_ret
 exact⟨rfl,rfl⟩
theorem xU(x:Nat)(w:World)(m:x<4294967296)(z:cd w):
  Calls Tryz.prog 184 #[.int .u32 x] w fun e A=>e=.returned (.int .i64 (Lib.ctz 32 x))∧w=A:=by
 by_cases f:x=0
 ·subst f
  go_enter Tryz.func184,Tryz.ntmps184
  go_wp2
  go_ret
  exact⟨rfl,rfl⟩
 ·obtain⟨h,t⟩:=Lib.lowest_bit 32 x f m
  obtain⟨y,l⟩:=Lib.deBruijn32_at _ t
  have d:=z _ y
  rw[l]at d
  exact vv x _ _ w (by simp;omega) (tz32_key x _ m f h) y t d
theorem cT(n m:Int)(w:World)(A:0≤m)(y:m≤100000):
  Calls Tryz.prog 166 #[.int .i64 n,.int .i64 m] w fun e z=>e=.returned (.bool (decide (-m≤n∧n≤m)))∧w=z:=by
 have D:IntKind.i64.wrap (-m)= -m:=by
  simp only[IntKind.wrap,IntKind.signed,IntKind.bits]
  simp
  omega
 by_cases d:-m≤n
 ·by_cases f:n≤m
  ·go_enter Tryz.func166,Tryz.ntmps166
   go_wp2
   go_ret
   exact⟨im (by simp[d,f]),rfl⟩
  ·go_enter Tryz.func166,Tryz.ntmps166
   go_wp2
   go_ret
   exact⟨im (by simp[f]),rfl⟩
 ·have l:¬(-m≤n∧n≤m):=fun h=>d h.1
  have t:=aa (decide_eq_false l)
  rw[uH t]
  clear l t
  go_enter Tryz.func166,Tryz.ntmps166
  go_wp2
  go_ret
  exact⟨rfl,rfl⟩
theorem cU(neg:Bool)(h:Option Addr)(d:Nat)(n:Nat)(w:World):
  Calls Tryz.prog 167 #[.agg #[.bool neg,.slice h n d]] w fun e l=>e=.returned (.bool (decide (n=0)))∧Below w.heap.size w l:=by
 by_cases f:n=0
 ·subst f
  go_enter Tryz.func167,Tryz.ntmps167
  go_wp2
  go_ret
  exact⟨rfl,(Below.refl _ _).alloc (Nat.le_refl _) _⟩
 ·have m:((n:Int)==0)=false:=by simp;omega
  have H:=aa (decide_eq_false f)
  clear f
  go_enter Tryz.func167,Tryz.ntmps167
  go_wp2
  go_ret
  exact⟨im (uH H).symm,(Below.refl _ _).alloc (Nat.le_refl _) _⟩
def gi(neg:Bool)(n:Nat):Int:=if n=0 then 0 else if neg then-1 else 1
def ek(v:Nat):Int:=if v=0 then 0 else(tz v:Int)
theorem jM(v:Nat)(h:v≠0):ek v=tz v:=by unfold ek;rw[if_neg h]
theorem jN(neg:Bool)(ao:Option Addr)(d:Nat)(L:List Nat)(w:World)(h:af w ao d L)(hl:L.length≤1073741824)(hT:cd w):
  Calls Tryz.prog 165 #[.agg #[.bool neg,.slice ao L.length d]] w fun e N=>e=.returned (.int .i64 (ek (ah L)))∧Below w.heap.size w N:=by
 by_cases t:L= []
 ·subst t
  go_enter Tryz.func165,Tryz.ntmps165
  go_wp2
  refine wp_loop_rounds 1 ?_
  rw[rounds_succ]
  go_wp2
  go_ret
  exact⟨rfl,(Below.refl _ _).alloc (Nat.le_refl _) _⟩
 obtain⟨b,m,rfl,hb,hc⟩:=h.ne (List.length_pos_iff.2 t)
 have ae:=h.1
 have f:Below w.heap.size w (w.alloc (.cells #[.bool neg,.slice (some ⟨b,m,none⟩) L.length d] 108)):=(Below.refl _ _).alloc (Nat.le_refl _) _
 have y:∀i,i<L.length→(w.alloc (.cells #[.bool neg,.slice (some ⟨b,m,none⟩) L.length d] 108)).cell? ⟨b,m+i,none⟩=some (.int .u32 ((L[i]?.getD 0:Nat):Int)):=fun i hi=>by
  rw[f.cell (p:=⟨b,m+i,none⟩) hb];exact hc i hi
 have O:=hT.all f
 have Q:=aa (fun k x=>xE L k x)
 have T:=aa (fun h:ah L=0=>(show ek (ah L)=0 by rw[h];rfl))
 have M:=aa (fun h=>jM (ah L) h)
 have U:=aa (fun i=>h.lt i)
 have V:=aa (fun k (hk:L.length≤k)=>cZ L k hk)
 have X:=aa (fun k=>aJ L k)
 have I:=aa f
 clear hT hc h hb t f
 generalize ek (ah L)=z at*
 go_enter Tryz.func165,Tryz.ntmps165
 go_wp2
 go_loop [3,9] (fun c i=>∃k:Nat,k≤L.length∧i=.int .i64 k∧c=.int .i64 (32*(k:Int))∧Hid (ah (L.take k)=0)) (fun _ i=>L.length-(intOf i).toNat)
 case atStart=>exact⟨0,Nat.zero_le _,rfl,rfl,by unfold Hid;simp[ah]⟩
 case round=>
  obtain⟨k,hk,rfl,rfl,H⟩:=hrel
  by_cases Y:k<L.length
  ·have aj:=y k Y
   clear y
   have Z:=uH U k
   have A:=aa (uH X k)
   have D:=aa (fun G=>uH Q k _ H.out rfl G Z)
   clear Q T X U V
   generalize L[k]?.getD 0=x at*
   have TZ:=aa (xU x _ Z O)
   have K:(Lib.ctz 32 x:Int)≤32∧(0:Int)≤Lib.ctz 32 x:=by
    by_cases G:x=0
    ·subst G;decide
    ·have:=(Lib.lowest_bit 32 x G (by omega)).2
     omega
   have F:=aa (fun G=>Eg x G Z)
   have e0:x=0→Lib.ctz 32 x=32:=fun h=>by subst h;rfl
   generalize Lib.ctz 32 x=c at*
   obtain⟨c1,c2⟩:=K
   by_cases l:x=0
   ·have ec:=e0 l
    subst l;subst ec
    have HN:Hid (ah (L.take (k+1))=0):=by unfold Hid;rw[uH A,H.out];simp
    clear D A H F e0 M
    go_wp2_with(go_at_call 184;refine(uH TZ).mono ?_;rintro e N ⟨rfl,rfl⟩)
    go_round
    case rel=>exact⟨k+1,by omega,by go_num,cH (by omega),HN⟩
    case measure=>simp[intOf];omega
   ·have hr:=uH D l
    have HE:=aa (show z=32*(k:Int)+(c:Int) by rw[uH M hr.1,hr.2,uH F l];omega)
    have am:((x:Int) != 0)=true:=by rw[bne_iff_ne];omega
    clear D A H F e0 M hr
    go_wp2_with(go_at_call 184;refine(uH TZ).mono ?_;rintro e N ⟨rfl,rfl⟩)
    go_ret
    exact⟨aQ (uH HE).symm,uH I⟩
  ·have hz:=uH T (by rw[←uH V k (by omega)];exact H.out)
   subst hz
   clear Q T M U V X H y
   go_wp2
   go_ret
   exact⟨rfl,uH I⟩
def aB(w:World)(b:Nat)(x y z:Value):Prop:=w.heap[b]? =some (.cells #[x,y,z] 110 (0,0))
theorem aB.c0{w:World}{b:Nat}{x y z:Value}(h:aB w b x y z):w.cell? ⟨b,0,none⟩=some x:=by rw[cell_of_row w b 0 _ _ _ h];rfl
theorem aB.c1{w:World}{b:Nat}{x y z:Value}(h:aB w b x y z):w.cell? ⟨b,1,none⟩=some y:=by rw[cell_of_row w b 1 _ _ _ h];rfl
theorem aB.c2{w:World}{b:Nat}{x y z:Value}(h:aB w b x y z):w.cell? ⟨b,2,none⟩=some z:=by rw[cell_of_row w b 2 _ _ _ h];rfl
theorem aB.free{w:World}{b:Nat}{x y z:Value}(h:aB w b x y z)(j:Nat):w.frozen? ⟨b,j,none⟩=false:=frozen_of_row w b j _ _ h
theorem aB.lt{w:World}{b:Nat}{x y z:Value}(h:aB w b x y z):b<w.heap.size:=(Array.getElem?_eq_some_iff.1 h).1
theorem aB.below{w f:World}{b:Nat}{x y z:Value}(h:aB w b x y z){B:Nat}(l:Below B w f)(d:b<B):aB f b x y z:=(l.block b d).trans h
theorem aB.new(w:World)(x y z:Value):aB (w.alloc (.cells #[x,y,z] 110)) w.heap.size x y z:=heap_alloc_new w _
theorem aB.old{w:World}{b:Nat}{x y z:Value}(h:aB w b x y z)(o:Obj):aB (w.alloc o) b x y z:=by
 unfold aB;rw[Below.heap_alloc w o b h.lt];exact h
theorem aB.all{w d:World}{b:Nat}{x y z:Value}(h:aB w b x y z)(f:Below w.heap.size w d):aB d b x y z:=h.below f h.lt
theorem aC.all{w d:World}{b:Nat}{x y:Value}(h:aC w b x y)(f:Below w.heap.size w d):aC d b x y:=h.below f h.lt
theorem aB.drew{w:World}{b:Nat}{x y z:Value}(h:aB w b x y z):aB w.drew b x y z:=h
theorem aB.other{w:World}{b:Nat}{x y z:Value}(h:aB w b x y z){p:Addr}(d:b≠p.block)(u:Value):aB (w.setCell p u) b x y z:=(Below.heap_setCell w p u b d).trans h
theorem aE{w f:World}{B b:Nat}(h:Below B w f)(d:B≤b)(u u' u'':Value):Below B w (((f.setCell ⟨b,0,none⟩ u).setCell ⟨b,1,none⟩ u').setCell ⟨b,2,none⟩ u''):=
 ((h.setCell d _).setCell d _).setCell d _
theorem af.box3{w:World}{t:Option Addr}{m g:Nat}{L:List Nat}(h:af w t m L){x:Bool}{a:Option Addr}{n c:Nat}{e:Int}(A:aB w g (.bool x) (.slice a n c) (.int .i64 e))(u u' u'':Value):
  af (((w.setCell ⟨g,0,none⟩ u).setCell ⟨g,1,none⟩ u').setCell ⟨g,2,none⟩ u'') t m L:=by
 refine⟨h.1,h.2.1,?_⟩
 rcases h.2.2 with G|⟨b,d,H,I,z⟩
 ·exact .inl G
 ·by_cases y:L= []
  ·exact .inl y
  ·have F:0<L.length:=List.length_pos_iff.2 y
   have f:b≠g:=by
    rintro rfl
    have l:=z 0 F
    rw[cell_of_row w b (d+0) _ _ _ A]at l
    rcases(show d=0∨d=1∨d=2∨3≤d by omega)with e|e|e|e
    ·subst e;simp at l
    ·subst e;simp at l
    ·subst e;simp at l
    ·rw[Array.getElem?_eq_none (by simp;omega)]at l;simp at l
   refine .inr ⟨b,d,H,by simpa[World.setCell]using I,fun i D=>?_⟩
   rw[ak _ _ _ _ (by simpa using f),ak _ _ _ _ (by simpa using f),ak _ _ _ _ (by simpa using f)]
   exact z i D
def jF(neg:Bool)(L:List Nat)(e:Int):Bool:=aw neg L&&(if L.length=0 then decide (e=0)else(decide (ah L%2=1)&&decide (-16384≤e∧e≤16384)))
def l8(neg:Bool)(L:List Nat)(e:Int):Int:=if jF neg L e then 0 else 1
theorem xW(v:Nat)(h:v≠0):0<ek v↔v%2=0:=by
 rw[jM v h]
 obtain⟨m,d⟩:=gV v (by omega)
 constructor
 ·intro l
  obtain⟨k,f⟩:∃k,tz v=k+1:=⟨tz v-1,by omega⟩
  rw[f,Nat.pow_succ,Nat.mul_assoc,Nat.mul_left_comm]at d
  omega
 ·intro l
  rcases Nat.eq_zero_or_pos (tz v)with e|e
  ·rw[e]at d;simp at d;omega
  ·omega
theorem ux(v:Nat)(h:v<di):0≤ek v∧ek v<16384:=by
 by_cases d:v=0
 ·subst d;decide
 ·rw[jM v d]
  have e:di=2^(32*ko):=by
   unfold di
   rw[show(4294967296:Nat)=2^32 by decide,←Nat.pow_mul]
  rw[e]at h
  have:=kO v (32*ko) (by omega) h
  have f:32*ko=16384:=rfl
  omega
theorem gY(neg:Bool)(H:Option Addr)(z:Nat)(L:List Nat)(e:Int)(w:World)(h:af w H z L)(hl:L.length≤35184372088830)(U:cd w):
  Calls Tryz.prog 169 #[.agg #[.bool neg,.slice H L.length z,.int .i64 e]] w fun r O=>r=.returned (.int .i64 (l8 neg L e))∧Below w.heap.size w O:=by
 have HC:=aa (fun O I=>dD neg H z L O I hl)
 have X:=aa (show aw neg L=false→l8 neg L e=1 from fun h=>by simp[l8,jF,h])
 have K:=aa (show¬(-16384≤e∧e≤16384)→l8 neg L e=1 from fun h=>by
  unfold l8 jF
  by_cases f:L.length=0
  ·rw[if_pos f,decide_eq_false (show¬e=0 by omega)];simp
  ·rw[if_neg f,decide_eq_false h];simp)
 have M:=aa (show L.length=0→e≠0→l8 neg L e=1 from fun f h=>by
  unfold l8 jF
  rw[if_pos f,decide_eq_false h];simp)
 have Y:=aa (show aw neg L=true→L.length=0→e=0→l8 neg L e=0∧ek (ah L)=0 from fun h f I=>by
  unfold l8 jF
  rw[if_pos f,decide_eq_true I,h]
  have:L= []:=List.length_eq_zero_iff.1 f
  subst this
  exact⟨by simp,rfl⟩)
 have Z:=aa (show aw neg L=true→L.length≠0→(-16384≤e∧e≤16384)→l8 neg L e=if 0<ek (ah L)then 1 else 0 from fun h f I=>by
  have hv:ah L≠0:=fun e=>f (by rw[(aM L (aA h).2.1).1 e];rfl)
  unfold l8 jF
  rw[if_neg f,decide_eq_true I,h]
  have:=xW _ hv
  by_cases h1:ah L%2=1
  ·rw[decide_eq_true h1,if_neg (show¬0<ek (ah L) by omega)];simp
  ·rw[decide_eq_false h1,if_pos (show 0<ek (ah L) by omega)];simp)
 have HL:=aa (show aw neg L=true→L.length≤512 from fun h=>(aA h).1)
 have HE:=aa (show dO neg L=if aw neg L then 0 else 1 from rfl)
 have N:=aa (fun O I V t=>jN neg H z L O I V t)
 generalize l8 neg L e=er at*
 generalize dO neg L=ce at*
 generalize ek (ah L)=lz at*
 generalize aw neg L=rb at*
 have G:Below w.heap.size w (w.alloc (.cells #[.bool neg,.slice H L.length z,.int .i64 e] 110)):=(Below.refl _ _).alloc (Nat.le_refl _) _
 have y:=aB.new w (.bool neg) (.slice H L.length z) (.int .i64 e)
 go_enter Tryz.func169,Tryz.ntmps169
 go_wp2_with fail
 refine(uH HC _ (h.below G)).mono ?_
 rintro r w1 ⟨rfl,d⟩
 replace y:=y.all d
 have m:=G.trans (d.mono G.size)
 rw[uH HE]
 clear d HE HC G
 have p0:=y.c0;have p1:=y.c1;have p2:=y.c2
 cases rb
 ·have F:=uH X rfl
  subst F
  simp only[Bool.false_eq_true,if_false]
  clear X K M Y Z HL N y
  go_wp2
  go_ret
  exact⟨rfl,m⟩
 have ae:=uH HL rfl
 have A:=aa (uH Y rfl)
 have D:=aa (uH Z rfl)
 clear HL Y Z X
 simp only[if_true]
 go_wp2_with fail
 refine(cT e 16384 _ (by decide) (by decide)).mono ?_
 rintro r w2 ⟨rfl,rfl⟩
 by_cases l:-16384≤e∧e≤16384
 case neg=>
  have F:=uH K l
  subst F
  rw[decide_eq_false l]
  clear K M A D ae N y l
  go_wp2
  go_ret
  exact⟨rfl,m⟩
 rw[decide_eq_true l]
 go_wp2_with fail
 refine(cU neg H z L.length _).mono ?_
 rintro r w3 ⟨rfl,d⟩
 replace y:=y.all d
 replace m:=m.trans (d.mono m.size)
 clear d p0 p1 p2
 have p0:=y.c0;have p1:=y.c1;have p2:=y.c2
 by_cases f:L.length=0
 ·rw[decide_eq_true f]
  by_cases Q:e=0
  ·obtain⟨F,T⟩:=uH A f Q
   subst F
   subst T
   subst Q
   clear K M A D y l f
   go_wp2_with fail
   refine(uH N _ (h.below m) (by omega) (U.all m)).mono ?_
   rintro r w4 ⟨rfl,d⟩
   go_wp2
   go_ret
   exact⟨rfl,m.trans (d.mono m.size)⟩
  ·have F:=uH M f Q
   subst F
   have aj:(e != 0)=true:=by simpa using Q
   clear K M A D y l N
   go_wp2
   go_ret
   exact⟨rfl,m⟩
 ·have F:=uH D f l
  rw[decide_eq_false f]
  by_cases T:0<lz
  ·rw[if_pos T]at F
   subst F
   clear K M A D y l f
   go_wp2_with fail
   refine(uH N _ (h.below m) (by omega) (U.all m)).mono ?_
   rintro r w4 ⟨rfl,d⟩
   go_wp2
   go_ret
   exact⟨rfl,m.trans (d.mono m.size)⟩
  ·rw[if_neg T]at F
   subst F
   clear K M A D y l f
   go_wp2_with fail
   refine(uH N _ (h.below m) (by omega) (U.all m)).mono ?_
   rintro r w4 ⟨rfl,d⟩
   go_wp2
   go_ret
   exact⟨rfl,m.trans (d.mono m.size)⟩
def aH(w:World)(v:Value)(m e:Int):Prop:=
 ∃(neg:Bool) (ao:Option Addr) (cap:Nat) (L:List Nat),v=.agg #[.bool neg,.slice ao L.length cap,.int .i64 e]∧ay 0 w (.agg #[.bool neg,.slice ao L.length cap]) m
theorem aH.below{w f:World}{v:Value}{m e:Int}(h:aH w v m e)(l:Below w.heap.size w f):aH f v m e:=by
 obtain⟨neg,t,d,L,y,z⟩:=h
 exact⟨neg,t,d,L,y,z.below l⟩
theorem aH.put3{w:World}{v:Value}{m e:Int}(h:aH w v m e){g:Nat}{x:Bool}{a:Option Addr}{n c:Nat}{k:Int}(f:aB w g (.bool x) (.slice a n c) (.int .i64 k))(u u' u'':Value):aH (((w.setCell ⟨g,0,none⟩ u).setCell ⟨g,1,none⟩ u').setCell ⟨g,2,none⟩ u'') v m e:=by
 obtain⟨neg,l,d,L,t,y,z,A,D,F,G,H⟩:=h
 exact⟨neg,l,d,L,t,y,z,A,D,F,G.box3 f _ _ _,H⟩
theorem aH.zero(w:World)(f:Option Addr)(d:Nat):aH w (.agg #[.bool false,.slice f 0 d,.int .i64 0]) 0 0:=
 ⟨false,f,d,[],rfl,ay.zero _ _ _ _⟩
def kt(z e:Int):Bool:=decide (-32768≤e∧e≤32768)&&(decide (z=0)||decide (-16384≤e+tz z.natAbs∧e+tz z.natAbs≤16384))
def cI(z e:Int):Int:=if kt z e then 0 else 2
def dM(z e:Int):Int:=if kt z e then oM z else 0
def dX(z e:Int):Int:=if kt z e then oE z e else 0
def nN(na:Bool)(A:List Nat)(x:Int)(nb:Bool)(B:List Nat)(y:Int):Int:=if jF na A x&&jF nb B y then 0 else 1
theorem ir(d l:Bool)(G z:Option Addr)(H D:Nat)(A B:List Nat)(x y:Int)(w:World)(V:af w G H A)(Y:af w z D B)(Z:A.length≤35184372088830)(lb:B.length≤35184372088830)(M:cd w):
  Calls Tryz.prog 179 #[.agg #[.bool d,.slice G A.length H,.int .i64 x],.agg #[.bool l,.slice z B.length D,.int .i64 y]] w fun r I=>r=.returned (.int .i64 (nN d A x l B y))∧Below w.heap.size w I:=by
 have O:=aa (show jF d A x=false→l8 d A x=1∧nN d A x l B y=1 from fun h=>by simp[l8,nN,h])
 have Q:=aa (show jF d A x=true→l8 d A x=0∧nN d A x l B y=l8 l B y from fun h=>by simp[l8,nN,h])
 have T:=aa (fun I N t=>gY d G H A x I N Z t)
 have X:=aa (fun I N t=>gY l z D B y I N lb t)
 generalize nN d A x l B y=er at*
 generalize l8 d A x=e1 at*
 generalize l8 l B y=e2 at*
 generalize jF d A x=ra at*
 have K:Below w.heap.size w ((w.alloc (.cells #[.bool d,.slice G A.length H,.int .i64 x] 110)).alloc (.cells #[.bool l,.slice z B.length D,.int .i64 y] 110)):=((Below.refl _ _).alloc (Nat.le_refl _) _).alloc (by simp) _
 have F:aB ((w.alloc (.cells #[.bool d,.slice G A.length H,.int .i64 x] 110)).alloc (.cells #[.bool l,.slice z B.length D,.int .i64 y] 110)) (w.heap.size+1) (.bool l) (.slice z B.length D) (.int .i64 y):=by
  have:=aB.new (w.alloc (.cells #[.bool d,.slice G A.length H,.int .i64 x] 110)) (.bool l) (.slice z B.length D) (.int .i64 y)
  simpa using this
 have U:=aa F;have m:=aa K
 clear F K
 cases ra
 ·obtain⟨rfl,rfl⟩:=uH O rfl
  clear O Q X U
  go_enter Tryz.func179,Tryz.ntmps179
  go_wp2_with fail
  refine(uH T _ (V.below (uH m)) (M.all (uH m))).mono ?_
  rintro r w1 ⟨rfl,f⟩
  go_wp2
  go_ret
  exact⟨rfl,(uH m).trans (f.mono (uH m).size)⟩
 ·obtain⟨rfl,rfl⟩:=uH Q rfl
  clear O Q
  go_enter Tryz.func179,Tryz.ntmps179
  go_wp2_with fail
  refine(uH T _ (V.below (uH m)) (M.all (uH m))).mono ?_
  rintro r w1 ⟨rfl,f⟩
  have F:=(uH U).all f
  have p0:=F.c0;have p1:=F.c1;have p2:=F.c2
  have L:=aa ((uH m).trans (f.mono (uH m).size))
  clear f F U m T
  go_wp2_with fail
  refine(uH X _ (Y.below (uH L)) (M.all (uH L))).mono ?_
  rintro r w2 ⟨rfl,f⟩
  go_wp2
  go_ret
  exact⟨rfl,(uH L).trans (f.mono (uH L).size)⟩
theorem BG(d:Bool)(v:Nat)(h:v≠0):sg d (v/2^tz v)=oM (sg d v):=by
 obtain⟨m,f⟩:=gV v (by omega)
 have l:0<2^tz v:=Nat.pow_pos (by decide)
 have t:v/2^tz v=2*m+1:=by
  generalize 2^tz v=P at f l
  rw[f];exact Nat.mul_div_cancel_left _ l
 have y:ii (sg d v) (sg d (2*m+1)) (tz v):=by
  constructor
  ·have e:(v:Int)=(2*(m:Int)+1)*2^tz v:=by
    rw[Int.mul_comm]
    exact_mod_cast f
   unfold sg
   cases d
   ·simp only[Bool.false_eq_true,if_false];rw[e];push_cast;rfl
   ·simp only[if_true];rw[e];push_cast;rw[Int.neg_mul]
  ·unfold sg;cases d<;>simp<;>omega
 rw[t,y.eq.2.1]
theorem lu:0<di:=Nat.pow_pos (by decide)
theorem sG(d:Bool)(A:List Nat)(e:Int)(G:aw d A=true)(L:bd A):
  (¬(-32768≤e∧e≤32768)∧cI (ad d A) e=2∧dM (ad d A) e=0∧dX (ad d A) e=0)∨
  ((-32768≤e∧e≤32768)∧A.length≠0∧¬(-16384≤e+ek (ah A)∧e+ek (ah A)≤16384)∧cI (ad d A) e=2∧dM (ad d A) e=0∧dX (ad d A) e=0)∨
  ((-32768≤e∧e≤32768)∧A.length=0∧cI (ad d A) e=0∧dM (ad d A) e=0∧dX (ad d A) e=0)∨
  ((-32768≤e∧e≤32768)∧A.length≠0∧(-16384≤e+ek (ah A)∧e+ek (ah A)≤16384)∧cI (ad d A) e=0∧dX (ad d A) e=e+ek (ah A)∧si d A (-ek (ah A))=0∧qz d A (-ek (ah A))=dM (ad d A) e):=by
 obtain⟨U,K,_⟩:=aA G
 have M:ah A<di:=(dw A L K).2 U
 have N:=ux (ah A) M
 by_cases h:-32768≤e∧e≤32768
 case neg=>
  left
  have:kt (ad d A) e=false:=by unfold kt;rw[decide_eq_false h,Bool.false_and]
  exact⟨h,by simp[cI,this],by simp[dM,this],by simp[dX,this]⟩
 right
 by_cases m:A.length=0
 ·right;left
  have O:A= []:=List.length_eq_zero_iff.1 m
  subst O
  have:kt (ad d []) e=true:=by unfold kt;rw[decide_eq_true h,gA];simp
  refine⟨h,rfl,by simp[cI,this],?_,?_⟩
  ·simp[dM,gA,oM]
  ·simp[dX,gA,oE]
 have y:ah A≠0:=fun e=>m (by rw[(aM A K).1 e];rfl)
 have f:=jM (ah A) y
 have z:ad d A≠0:=fun e=>y (by rw[←aS d A,e];rfl)
 by_cases t:-16384≤e+ek (ah A)∧e+ek (ah A)≤16384
 case neg=>
  left
  have:kt (ad d A) e=false:=by
   unfold kt
   rw[aS,←f,decide_eq_false t,decide_eq_false z];simp
  exact⟨h,m,t,by simp[cI,this],by simp[dM,this],by simp[dX,this]⟩
 right;right
 have D:kt (ad d A) e=true:=by
  unfold kt
  rw[aS,←f,decide_eq_true h,decide_eq_true t];simp
 have H:nK d A (-ek (ah A))=oM (ad d A):=by
  rw[ls,de,←BG d (ah A) y,f]
  congr 1
  unfold lW
  rcases Nat.eq_zero_or_pos (tz (ah A))with e|e
  ·rw[e];simp
  ·rw[if_neg (by omega)]
   congr 2
   omega
 have Q:=fg (ad d A) z
 have T:(oM (ad d A)).natAbs≤ah A:=by
  have I:(ad d A).natAbs=(oM (ad d A)).natAbs*2^tz (ad d A).natAbs:=by
   conv=>lhs;rw[Q.1]
   rw[Int.natAbs_mul,Int.natAbs_pow]
   rfl
  rw[aS]at I
  rw[I]
  exact Nat.le_mul_of_pos_right _ (Nat.pow_pos (by decide))
 have F:-16384≤-ek (ah A)∧-ek (ah A)≤16384:=by omega
 have l:ks d A (-ek (ah A))=true:=by unfold ks;rw[G,decide_eq_true F];rfl
 refine⟨h,m,t,by simp[cI,D],?_,?_,?_⟩
 ·unfold dX oE;rw[if_pos D,if_neg z,aS,f]
 ·unfold si;rw[if_pos l,H,eO _ (by omega)]
 ·unfold qz dM;rw[if_pos l,if_pos D,H,eP _ (by omega)]
theorem gZ(m:Bool)(F:Option Addr)(G:Nat)(A:List Nat)(e:Int)(w:World)(hA:af w F G A)(hr:aw m A=true)(be:-9223372036854775808≤e∧e≤9223372036854775807)(hT:cd w):
  Calls Tryz.prog 137 #[.agg #[.bool m,.slice F A.length G],.int .i64 e] w fun r Q=>∃v,r=.returned (.tuple #[v,.int .i64 (cI (ad m A) e)])∧aH Q v (dM (ad m A) e) (dX (ad m A) e)∧Below w.heap.size w Q:=by
 have hl:=(aA hr).1
 have aj:dO m A=0:=by simp[dO,hr]
 have HM:=aa (sG m A e hr hA.2.1)
 have ae:=aa (fun Q h'=>dD m F G A Q h' (by omega))
 rw[aj]at ae
 have am:=aa (fun Q h' t=>jN m F G A Q h' (by omega) t)
 have N:=aa (fun n Q h' bn=>gE m F G A n Q h' (by omega) bn)
 have a1:=ux (ah A) ((dw A hA.2.1 (aA hr).2.1).2 hl)
 clear aj hr
 generalize cI (ad m A) e=er at*
 generalize dM (ad m A) e=dm at*
 generalize dX (ad m A) e=dx at*
 generalize ek (ah A)=lz at*
 obtain⟨a3,a4⟩:=a1
 have X:Below w.heap.size w ((w.alloc (.cells #[.bool m,.slice F A.length G] 108)).alloc (.cells #[.bool false,.slice none 0 0,.int .i64 0] 110)):=((Below.refl _ _).alloc (Nat.le_refl _) _).alloc (by simp) _
 have h:aC ((w.alloc (.cells #[.bool m,.slice F A.length G] 108)).alloc (.cells #[.bool false,.slice none 0 0,.int .i64 0] 110)) w.heap.size (.bool m) (.slice F A.length G):=(aC.new _ _ _).old _
 have f:aB ((w.alloc (.cells #[.bool m,.slice F A.length G] 108)).alloc (.cells #[.bool false,.slice none 0 0,.int .i64 0] 110)) (w.heap.size+1) (.bool false) (.slice none 0 0) (.int .i64 0):=by
  have:=aB.new (w.alloc (.cells #[.bool m,.slice F A.length G] 108)) (.bool false) (.slice none 0 0) (.int .i64 0)
  simpa using this
 go_enter Tryz.func137,Tryz.ntmps137
 go_wp2_with fail
 refine(uH ae _ (hA.below X)).mono ?_
 rintro r w1 ⟨rfl,d⟩
 replace h:=h.all d
 replace f:=f.all d
 have y:=X.trans (d.mono X.size)
 clear d X ae
 have M:=h.c0;have H:=h.c1
 have z:=aa h;have D:=aa f;have l:=aa y
 clear h f y
 go_wp2_with fail
 refine(uH am _ (hA.below (uH l)) (hT.all (uH l))).mono ?_
 rintro r w2 ⟨rfl,d⟩
 have h:=(uH z).all d
 have f:=(uH D).all d
 have y:=(uH l).trans (d.mono (uH l).size)
 clear d am M H z D l
 have M:=h.c0;have H:=h.c1
 have z:=aa h;have D:=aa f;have l:=aa y
 have I:=f.c0;have K:=f.c1;have L:=f.c2;have T:=f.free 0;have U:=f.free 1;have V:=f.free 2
 clear h f y
 rcases uH HM with⟨O,rfl,rfl,rfl⟩|⟨O,h0,h2,rfl,rfl,rfl⟩|⟨O,h0,rfl,rfl,rfl⟩|⟨O,h0,h2,rfl,rfl,aI,a0⟩
 ·clear HM N
  go_wp2_with fail
  refine(cT e 32768 _ (by decide) (by decide)).mono ?_
  rw[decide_eq_false O]
  rintro r w3 ⟨rfl,rfl⟩
  clear O
  go_wp2
  refine bodyPost_ret (v:=.tuple #[.agg #[.bool false,.slice none 0 0,.int .i64 0],.int .i64 2]) (by simp[results,Tryz.results137,go_sem,I,K,L]) rfl ⟨_,rfl,aH.zero _ _ _,aE (uH l) (by omega) _ _ _⟩
 ·clear HM N
  go_wp2_with fail
  refine(cT e 32768 _ (by decide) (by decide)).mono ?_
  rw[decide_eq_true O]
  rintro r w3 ⟨rfl,rfl⟩
  obtain⟨av,ax⟩:=O
  go_wp2_with fail
  refine(cU m F G A.length _).mono ?_
  rw[decide_eq_false h0]
  rintro r w4 ⟨rfl,d⟩
  have h:=(uH z).all d
  have f:=(uH D).all d
  have y:=(uH l).trans (d.mono (uH l).size)
  clear d M H z D l I K L T U V
  have M:=h.c0;have H:=h.c1
  have z:=aa h;have D:=aa f;have l:=aa y
  have I:=f.c0;have K:=f.c1;have L:=f.c2;have T:=f.free 0;have U:=f.free 1;have V:=f.free 2
  clear h f y
  go_wp2_with fail
  refine(cT (e+lz) 16384 _ (by decide) (by decide)).mono ?_
  rw[decide_eq_false h2]
  rintro r w5 ⟨rfl,rfl⟩
  clear h2
  go_wp2
  refine bodyPost_ret (v:=.tuple #[.agg #[.bool false,.slice none 0 0,.int .i64 0],.int .i64 2]) (by simp[results,Tryz.results137,go_sem,I,K,L]) rfl ⟨_,rfl,aH.zero _ _ _,aE (uH l) (by omega) _ _ _⟩
 ·clear HM N
  have H0:=aa h0
  clear h0
  go_wp2_with fail
  refine(cT e 32768 _ (by decide) (by decide)).mono ?_
  rw[decide_eq_true O]
  rintro r w3 ⟨rfl,rfl⟩
  obtain⟨av,ax⟩:=O
  go_wp2_with fail
  refine(cU m F G A.length _).mono ?_
  rw[decide_eq_true (uH H0)]
  rintro r w4 ⟨rfl,d⟩
  have h:=(uH z).all d
  have f:=(uH D).all d
  have y:=(uH l).trans (d.mono (uH l).size)
  clear d M H z D l I K L T U V
  have M:=h.c0;have H:=h.c1
  have z:=aa h;have D:=aa f;have l:=aa y
  have I:=f.c0;have K:=f.c1;have L:=f.c2;have T:=f.free 0;have U:=f.free 1;have V:=f.free 2
  clear h f y
  clear H
  have H:=(uH z).c1
  go_wp2_with fail
  refine(cU m F G A.length _).mono ?_
  rw[decide_eq_true (uH H0)]
  rintro r w5 ⟨rfl,d⟩
  have h:=(uH z).all d
  have f:=(uH D).all d
  have y:=(uH l).trans (d.mono (uH l).size)
  clear d M H z D l I K L T U V
  have l:=aa y
  have I:=f.c0;have K:=f.c1;have L:=f.c2;have T:=f.free 0;have U:=f.free 1;have V:=f.free 2
  clear h f y
  go_wp2
  refine bodyPost_ret (v:=.tuple #[.agg #[.bool false,.slice none 0 0,.int .i64 0],.int .i64 0]) (by simp[results,Tryz.results137,go_sem,I,K,L]) rfl ⟨_,rfl,aH.zero _ _ _,aE (uH l) (by omega) _ _ _⟩
 ·clear HM
  have HN:=aa a0
  have SH:=aa (fun Q h'=>uH N (-lz) Q h' (by omega))
  rw[aI]at SH
  clear a0 aI N
  go_wp2_with fail
  refine(cT e 32768 _ (by decide) (by decide)).mono ?_
  rw[decide_eq_true O]
  rintro r w3 ⟨rfl,rfl⟩
  obtain⟨av,ax⟩:=O
  go_wp2_with fail
  refine(cU m F G A.length _).mono ?_
  rw[decide_eq_false h0]
  rintro r w4 ⟨rfl,d⟩
  have h:=(uH z).all d
  have f:=(uH D).all d
  have y:=(uH l).trans (d.mono (uH l).size)
  clear d M H z D l I K L T U V
  have M:=h.c0;have H:=h.c1
  have z:=aa h;have D:=aa f;have l:=aa y
  have I:=f.c0;have K:=f.c1;have L:=f.c2;have T:=f.free 0;have U:=f.free 1;have V:=f.free 2
  clear h f y
  go_wp2_with fail
  refine(cT (e+lz) 16384 _ (by decide) (by decide)).mono ?_
  rw[decide_eq_true h2]
  rintro r w5 ⟨rfl,rfl⟩
  obtain⟨a5,a6⟩:=h2
  go_wp2_with fail
  refine(cU m F G A.length _).mono ?_
  rw[decide_eq_false h0]
  rintro r w6 ⟨rfl,d⟩
  have h:=(uH z).all d
  have f:=(uH D).all d
  have y:=(uH l).trans (d.mono (uH l).size)
  clear d M H z D l I K L T U V
  have M:=h.c0;have H:=h.c1
  have z:=aa h;have D:=aa f;have l:=aa y
  clear h f y
  go_wp2_with fail
  refine(uH SH _ (hA.below (uH l))).mono ?_
  rintro r w7 ⟨v,rfl,⟨Y,Z,c2,L2,rfl,i1⟩,d⟩
  have f:=(uH D).all d
  have y:=(uH l).trans (d.mono (uH l).size)
  have I1:=aa i1;have B2:=aa y;have X2:=aa f
  clear d M H z D l f y i1
  have f:=(uH X2).old (.cells #[.bool Y,.slice Z L2.length c2] 108)
  have I:=f.c0;have K:=f.c1;have L:=f.c2;have T:=f.free 0;have U:=f.free 1;have V:=f.free 2
  have X3:=aa f
  clear f
  go_wp2
  have j:ay w6.heap.size w7 (.agg #[.bool Y,.slice Z L2.length c2]) dm:=(uH HN)▸(⟨Y,Z,c2,L2,rfl,uH I1⟩:ay w6.heap.size w7 (.agg #[.bool Y,.slice Z L2.length c2]) (qz m A (-lz)))
  have j2:aH (w7.alloc (.cells #[.bool Y,.slice Z L2.length c2] 108)) (.agg #[.bool Y,.slice Z L2.length c2,.int .i64 (e+lz)]) dm (e+lz):=⟨Y,Z,c2,L2,rfl,(j.below ((Below.refl _ _).alloc (Nat.le_refl _) _)).mono (Nat.zero_le _)⟩
  have b3:=(uH B2).alloc (uH B2).size (.cells #[.bool Y,.slice Z L2.length c2] 108)
  refine bodyPost_ret (v:=.tuple #[.agg #[.bool Y,.slice Z L2.length c2,.int .i64 (e+lz)],.int .i64 0]) (by simp[results,Tryz.results137,go_sem,I,K,L]) rfl ⟨_,rfl,j2.put3 (uH X3) _ _ _,aE b3 (by omega) _ _ _⟩
theorem iw{B:Nat}{w:World}{v:Value}{z:Int}(e:Int)(f:ay B w v z)(h:z.natAbs<di)(l:-9223372036854775808≤e∧e≤9223372036854775807)(m:cd w):
  Calls Tryz.prog 137 #[v,.int .i64 e] w fun r d=>∃u,r=.returned (.tuple #[u,.int .i64 (cI z e)])∧aH d u (dM z e) (dX z e)∧Below w.heap.size w d:=by
 obtain⟨t,y,D,A,rfl,F,G,H,I⟩:=f.right h
 have:=gZ t y D A e w F G l m
 rwa[H]at this
theorem a8(x:Int)(h:-9000000000000000000≤x∧x≤9000000000000000000):IntKind.i64.wrap x=x:=by
 simp only[IntKind.wrap,IntKind.signed,IntKind.bits]
 simp
 omega
theorem xX(L:List Nat):ah L%2=L[0]?.getD 0%2:=by
 cases L with
 |nil=>rfl
 |cons x r=>simp[ah];omega
theorem BH(neg:Bool)(y:Option Addr)(f:Nat)(L:List Nat)(w:World)(h:af w y f L):
  Calls Tryz.prog 146 #[.agg #[.bool neg,.slice y L.length f]] w fun e D=>e=.returned (.bool (decide (ah L%2=1)))∧Below w.heap.size w D:=by
 by_cases l:L= []
 ·subst l
  go_enter Tryz.func146,Tryz.ntmps146
  go_wp2
  go_ret
  exact⟨rfl,(Below.refl _ _).alloc (Nat.le_refl _) _⟩
 obtain⟨b,I,rfl,N,A⟩:=h.ne (List.length_pos_iff.2 l)
 have F:0<L.length:=List.length_pos_iff.2 l
 have G:(0:Int)<(L.length:Int):=by omega
 have m:=A 0 F
 have M:=h.lt 0
 have z:=h.1
 rw[xX]
 generalize L[0]?.getD 0=x at*
 clear A h l
 rw[Nat.add_zero]at m
 generalize K:L.length=n at*
 clear K
 by_cases d:x%2=1
 ·have H:(((x:Int)%2)==1)=true:=by rw[beq_iff_eq];omega
  have t:=aa (decide_eq_true d)
  clear d
  go_enter Tryz.func146,Tryz.ntmps146
  go_wp2
  go_ret
  exact⟨im (uH t).symm,(Below.refl _ _).alloc (Nat.le_refl _) _⟩
 ·have H:(((x:Int)%2)==1)=false:=by rw[beq_eq_false_iff_ne];omega
  have t:=aa (decide_eq_false d)
  clear d
  go_enter Tryz.func146,Tryz.ntmps146
  go_wp2
  go_ret
  exact⟨im (uH t).symm,(Below.refl _ _).alloc (Nat.le_refl _) _⟩
theorem jO(neg:Bool)(l:Option Addr)(d:Nat)(L:List Nat)(e:Int)(w:World)(h:af w l d L)(K:L.length≤35184372088830):
  Calls Tryz.prog 134 #[.agg #[.bool neg,.slice l L.length d,.int .i64 e]] w fun r f=>r=.returned (.int .i64 (IntKind.i64.wrap (dn L+e)))∧Below w.heap.size w f:=by
 have N:=aa (fun f M=>pm neg l d L f M K)
 generalize dn L=n at*
 have y:Below w.heap.size w (w.alloc (.cells #[.bool neg,.slice l L.length d,.int .i64 e] 110)):=(Below.refl _ _).alloc (Nat.le_refl _) _
 have t:=aB.new w (.bool neg) (.slice l L.length d) (.int .i64 e)
 have D:=aa t;have F:=aa y
 clear t y
 go_enter Tryz.func134,Tryz.ntmps134
 go_wp2
 refine ap (fun W=>Below w.heap.size w W∧aB W w.heap.size (.bool neg) (.slice l L.length d) (.int .i64 e)) ⟨uH F,uH D⟩ ?_
 rintro m ⟨A,t⟩
 have G:∀f,Below m.heap.size m f→Below m.heap.size m f∧f.cell? ⟨w.heap.size,0,none⟩=some (.bool neg)∧f.cell? ⟨w.heap.size,1,none⟩=some (.slice l L.length d)∧f.cell? ⟨w.heap.size,2,none⟩=some (.int .i64 e):=fun f h=>
  ⟨h,(t.all h).c0,(t.all h).c1,(t.all h).c2⟩
 have H:=aa G
 have O:=aa (h.below A);have I:=aa A
 clear G t A h D F
 go_region_held3(fun f=>Below m.heap.size m f∧f.cell? ⟨w.heap.size,0,none⟩=some (.bool neg)∧f.cell? ⟨w.heap.size,1,none⟩=some (.slice l L.length d)∧f.cell? ⟨w.heap.size,2,none⟩=some (.int .i64 e))
  (first|exact uH H _ (Below.refl _ _).drew|exact uH H _ (by assumption))
  (first|(go_at_call 159;refine(uH N _ ((uH O).below (And.left (by assumption)))).mono ?_;rintro e T ⟨rfl,z⟩;have Q:Below m.heap.size m T:=Below.trans (And.left (by assumption)) (z.mono (Below.size (And.left (by assumption))));clear z))
 go_wp2
 go_ret
 exact⟨rfl,(uH I).trans (Below.mono (And.left (by assumption)) (uH I).size)⟩
def gj(L:List Nat)(e:Int):Int:=if L.length=0 then 0 else dn L+e
theorem l9(neg:Bool)(l:Option Addr)(d:Nat)(L:List Nat)(e:Int)(w:World)(h:af w l d L)(hl:L.length≤1073741824)(he:-100000≤e∧e≤100000):
  Calls Tryz.prog 101 #[.agg #[.bool neg,.slice l L.length d,.int .i64 e]] w fun r f=>r=.returned (.int .i64 (gj L e))∧Below w.heap.size w f:=by
 have N:=aa (fun f V=>sC neg l d L f V (by omega))
 have G:L.length≠0→0≤dn L∧dn L≤40000000000:=fun y=>by
  unfold dn
  rw[if_neg y]
  have:=kr (L[L.length-1]?.getD 0)
  omega
 have F:=aa (show(L.length=0→gj L e=0)∧(L.length≠0→gj L e=dn L+e) by unfold gj;constructor<;>intro h<;>simp[h])
 generalize gj L e=t at*
 generalize dn L=n at*
 have A:Below w.heap.size w (w.alloc (.cells #[.bool neg,.slice l L.length d,.int .i64 e] 110)):=(Below.refl _ _).alloc (Nat.le_refl _) _
 have z:=aB.new w (.bool neg) (.slice l L.length d) (.int .i64 e)
 have O:=aa z;have H:=aa A
 clear z A
 by_cases y:L.length=0
 ·have I:=(uH F).1 y
  subst I
  have K:((L.length:Int)==0)=true:=by rw[beq_iff_eq];omega
  clear F G N y
  go_enter Tryz.func101,Tryz.ntmps101
  go_wp2
  go_ret
  exact⟨rfl,uH H⟩
 have I:=(uH F).2 y
 subst I
 obtain⟨Z,ae⟩:=G y
 have K:((L.length:Int)==0)=false:=by rw[beq_eq_false_iff_ne];omega
 clear F G y
 go_enter Tryz.func101,Tryz.ntmps101
 go_wp2
 refine ap (fun W=>Below w.heap.size w W∧aB W w.heap.size (.bool neg) (.slice l L.length d) (.int .i64 e)) ⟨uH H,uH O⟩ ?_
 rintro m ⟨M,z⟩
 have Q:∀f,Below m.heap.size m f→Below m.heap.size m f∧f.cell? ⟨w.heap.size,0,none⟩=some (.bool neg)∧f.cell? ⟨w.heap.size,1,none⟩=some (.slice l L.length d)∧f.cell? ⟨w.heap.size,2,none⟩=some (.int .i64 e):=fun f h=>
  ⟨h,(z.all h).c0,(z.all h).c1,(z.all h).c2⟩
 have T:=aa Q
 have X:=aa (h.below M);have U:=aa M
 clear Q z M h O H
 go_region_held3(fun f=>Below m.heap.size m f∧f.cell? ⟨w.heap.size,0,none⟩=some (.bool neg)∧f.cell? ⟨w.heap.size,1,none⟩=some (.slice l L.length d)∧f.cell? ⟨w.heap.size,2,none⟩=some (.int .i64 e))
  (first|exact uH T _ (Below.refl _ _).drew|exact uH T _ (by assumption))
  (first|(go_at_call 119;refine(uH N _ ((uH X).below (And.left (by assumption)))).mono ?_;rintro e w1 ⟨rfl,D⟩;have Y:Below m.heap.size m w1:=Below.trans (And.left (by assumption)) (D.mono (Below.size (And.left (by assumption))));clear D))
 go_wp2
 go_ret
 exact⟨aQ (a8 _ (by omega)),(uH U).trans (Below.mono (And.left (by assumption)) (uH U).size)⟩
def sH(neg:Bool)(n:Nat):Int:=if neg then-1 else if n=0 then 0 else 1
theorem ku(neg:Bool)(y:Option Addr)(l:Nat)(n:Nat)(e:Int)(w:World):
  Calls Tryz.prog 172 #[.agg #[.bool neg,.slice y n l,.int .i64 e]] w fun r z=>r=.returned (.int .i64 (sH neg n))∧Below w.heap.size w z:=by
 have d:=aa (show sH neg n=if neg then-1 else if n=0 then 0 else 1 from rfl)
 generalize sH neg n=s at*
 have m:Below w.heap.size w (w.alloc (.cells #[.bool neg,.slice y n l,.int .i64 e] 110)):=(Below.refl _ _).alloc (Nat.le_refl _) _
 have t:=aa m
 clear m
 cases neg
 ·rcases(show n=0∨n=1∨2≤n by omega)with rfl|rfl|h
  ·have f:s=0:=by rw[uH d];rfl
   subst f
   clear d
   go_enter Tryz.func172,Tryz.ntmps172
   go_wp2
   go_ret
   exact⟨rfl,uH t⟩
  ·have f:s=1:=by rw[uH d];rfl
   subst f
   clear d
   go_enter Tryz.func172,Tryz.ntmps172
   go_wp2
   go_ret
   exact⟨rfl,uH t⟩
  ·have f:s=1:=by rw[uH d,if_neg (by decide),if_neg (by omega)]
   subst f
   have A:(1:Int)<(n:Int):=by omega
   clear d
   go_enter Tryz.func172,Tryz.ntmps172
   go_wp2
   go_ret
   exact⟨rfl,uH t⟩
 ·have f:s= -1:=by rw[uH d];rfl
  subst f
  clear d
  go_enter Tryz.func172,Tryz.ntmps172
  go_wp2
  go_ret
  exact⟨rfl,uH t⟩
attribute [local go_sem ↓] Go.wp_at_zero Go.wp_at_succ
theorem gF(x k:Int):IntKind.i64.wrap (IntKind.i64.wrap x+k)=IntKind.i64.wrap (x+k):=by
 simp only[IntKind.wrap,IntKind.signed,IntKind.bits]
 simp
 split<;>split<;>split<;>omega
theorem fs(x:Int):wrap64 x=IntKind.i64.wrap x:=by
 simp only[IntKind.wrap,IntKind.signed,IntKind.bits,wrap64]
 simp
 split<;>omega
theorem aW(x:Int)(h:-9223372036854775808≤x∧x≤9223372036854775807):IntKind.i64.wrap x=x:=by
 simp only[IntKind.wrap,IntKind.signed,IntKind.bits]
 simp
 omega
theorem dH(x e:Int)(j:Nat)(d:j<18446744073709551616)(h:x=IntKind.i64.wrap (e+j)):((x-e)%18446744073709551616).toNat=j:=by
 subst h
 simp only[IntKind.wrap,IntKind.signed,IntKind.bits]
 simp
 split<;>omega
theorem Ej(x:Int):sg (decide (x<0)) x.natAbs=x:=by
 unfold sg
 by_cases h:x<0
 ·rw[decide_eq_true h];simp;omega
 ·rw[decide_eq_false h];simp;omega
def vw(w wr:World)(z:Int)(j:Nat)(nn:Bool)(a:Option Addr)(c:Nat)(L:List Nat):Prop:=
 aC wr w.heap.size (.bool nn) (.slice a L.length c)∧aB wr (w.heap.size+1) (.bool false) (.slice none 0 0) (.int .i64 0)∧af wr a c L∧bM L∧L≠ []∧L.length≤30000∧sg nn (ah L)*2^j=z∧Below w.heap.size w wr
theorem vw.step{w f:World}{z x:Int}{y G l:Bool}{H m:Option Addr}{I K t v M B j:Nat}{d:List Nat}
  (A:aC f w.heap.size (.bool G) (.slice H I K)) (L:aB f (w.heap.size+1) (.bool false) (.slice none 0 0) (.int .i64 0))
  (i:af f m t d∧bI B m d∧bM d∧l=decide (x<0)∧ah d=x.natAbs∧d.length≤M) (D:x=sg y v) (V:v≠0) (N:sg y v*2^j=z) (X:M≤30000) (h:Below w.heap.size w f):
  vw w ((f.setCell ⟨w.heap.size,0,none⟩ (.bool l)).setCell ⟨w.heap.size,1,none⟩ (.slice m d.length t)) z j l m t d:=by
 obtain⟨Q,Y,T,U,F,Z⟩:=i
 have O:sg l (ah d)=x:=by rw[U,F,Ej]
 refine⟨A.put _ _,(L.other (by simp) _).other (by simp) _,Q.box A _ _,T,?_,by omega,?_,(h.setCell (by simp) _).setCell (by simp) _⟩
 ·rintro rfl
  simp[ah]at F
  have:x.natAbs=v:=by rw[D,iV]
  omega
 ·rw[O,D];exact N
theorem vw.tzs{w wr:World}{z:Int}{j:Nat}{d:Bool}{a:Option Addr}{c:Nat}{L:List Nat}(h:vw w wr z j d a c L):ah L≠0∧tz z.natAbs=j+tz (ah L):=by
 obtain⟨y,A,D,l,m,F,t,G⟩:=h
 have f:ah L≠0:=fun e=>m ((aM L l).1 e)
 refine⟨f,?_⟩
 rw[←xD (ah L) j (by omega),←t,Int.natAbs_mul,iV,Int.natAbs_pow,Nat.mul_comm]
 rfl
theorem vw.last{w wr:World}{z:Int}{j:Nat}{d:Bool}{a:Option Addr}{c:Nat}{L:List Nat}(h:vw w wr z j d a c L)(F:ah L%2=1):ay 0 wr (.agg #[.bool d,.slice a L.length c]) (oM z)∧j=tz z.natAbs:=by
 obtain⟨G,H,f,m,t,I,y,K⟩:=h
 have l:ii z (sg d (ah L)) j:=⟨y.symm,by unfold sg;cases d<;>simp<;>omega⟩
 obtain⟨M,A,D⟩:=l.eq
 rw[←A,←de]
 exact⟨ay.mk f (bI.zero f) m t (by omega),D⟩
theorem vx(L:List Nat)(d:bd L):ah L%4294967296=L[0]?.getD 0:=by
 cases L with
 |nil=>rfl
 |cons x r=>
  have:=d x (by simp)
  simp[ah]
  omega
theorem vw.down{w wr:World}{z:Int}{j:Nat}{d:Bool}{a:Option Addr}{c:Nat}{L:List Nat}(h:vw w wr z j d a c L)(k:Nat)(A:ah L%2^k=0):ah L/2^k≠0∧sg d (ah L/2^k)*2^(j+k)=z∧j+k≤tz z.natAbs:=by
 obtain⟨m,t⟩:=h.tzs
 obtain⟨D,F,G,H,I,K,y,M⟩:=h
 have f:ah L=2^k*(ah L/2^k):=by have:=Nat.div_add_mod (ah L) (2^k);omega
 have l:ah L/2^k≠0:=fun e=>m (by rw[f,e];simp)
 refine⟨l,?_,?_⟩
 ·rw[←y]
  conv=>rhs;rw[f]
  generalize ah L/2^k=q
  have e:sg d (2^k*q)=sg d q*2^k:=by
   unfold sg
   cases d
   ·simp only[Bool.false_eq_true,if_false];push_cast;rw[Int.mul_comm]
   ·simp only[if_true];push_cast;rw[Int.neg_mul,Int.mul_comm]
  rw[e,Nat.add_comm,Int.pow_add,Int.mul_assoc]
 ·rw[t]
  have e:tz (ah L)=k+tz (ah L/2^k):=by
   conv=>lhs;rw[f]
   exact xD _ _ (Nat.pos_of_ne_zero l)
  omega
theorem xY(na:Bool)(ao:Option Addr)(ca:Nat)(A:List Nat)(e:Int)(w:World)(hA:af w ao ca A)(h0:A≠ [])(hc:bM A)(la:A.length≤20000)(be:-9223372036854775808≤e∧e≤9223372036854775807):
  Calls Tryz.prog 122 #[.agg #[.bool na,.slice ao A.length ca],.int .i64 e] w fun r w'=>∃v,r=.returned v∧aH w' v (oM (ad na A)) (IntKind.i64.wrap (e+tz (ad na A).natAbs))∧Below w.heap.size w w':=by
 obtain⟨i0,hi,bc,bi,bj⟩:=info_parts Tryz.info139
 have HZ:=aa (de na A).symm
 have hT:tz (ad na A).natAbs<18446744073709551616:=by
  rw[aS]
  have hv:ah A≠0:=fun e=>h0 ((aM A hc).1 e)
  have h1:=dL A hA.2.1
  rw[show(4294967296:Nat)=2^32 by decide,←Nat.pow_mul]at h1
  have:=kO (ah A) _ (by omega) h1
  omega
 generalize ad na A=z at*
 obtain⟨T,ax⟩:∃T,T=tz z.natAbs:=⟨_,rfl⟩
 have ae:=aa ax
 rw[←ax]at hT⊢
 have HM:=aa (show oM z=oM z from rfl)
 have aj:=aa h0;have HC:=aa hc
 clear h0 hc ax
 have hp:0<A.length:=List.length_pos_iff.2 (uH aj)
 have am:((A.length:Int)==0)=false:=by rw[beq_eq_false_iff_ne];omega
 go_enter Tryz.func122,Tryz.ntmps122
 go_wp2
 clear HM
 go_loopw[1] (fun i wr=>∃(x:Int) (j:Nat) (K:Bool) (a:Option Addr) (c:Nat) (L:List Nat),i=.int .i64 x∧j≤T∧Hid (x=IntKind.i64.wrap (e+j))∧Hid (vw w wr z j K a c L)) (fun i _=>T-((intOf i-e)%18446744073709551616).toNat)
 case atStart=>
  refine⟨e,0,na,ao,ca,A,rfl,Nat.zero_le _,?_,(aC.new _ _ _).old _,?_,hA.below (((Below.refl _ _).alloc (Nat.le_refl _) _).alloc (by simp) _),uH HC,uH aj,by omega,by rw[uH HZ];simp,((Below.refl _ _).alloc (Nat.le_refl _) _).alloc (by simp) _⟩
  ·unfold Hid;rw[aW _ (by omega)];omega
  ·have:=aB.new (w.alloc (.cells #[.bool na,.slice ao A.length ca] 108)) (.bool false) (.slice none 0 0) (.int .i64 0)
   simpa using this
 case round=>
  obtain⟨x,j,K,a,c,L,rfl,hj,V,U⟩:=hrel
  clear HZ HC aj hA la hp am
  obtain⟨G,H,X,hC,hS,t,hz,D⟩:=uH U
  have hp:0<L.length:=List.length_pos_iff.2 hS
  have am:(0:Int)<(L.length:Int):=by omega
  have p0:=G.c0;have p1:=G.c1
  have a0:=X.1
  obtain⟨b,a3,rfl,hb,aI⟩:=X.ne hp
  have av:=aI 0 hp
  rw[Nat.add_zero]at av
  have I:=vx L X.2.1
  have a4:=X.lt 0
  by_cases hg:L[0]?.getD 0=0
  ·rw[hg]at av I
   obtain⟨d1,d2,d3⟩:=(uH U).down 32 I
   rw[←uH ae]at d3
   have Y:=aa d1;have Z:=aa d2
   have f:=aa D;have N:=aa G;have M:=aa H;have l:=aa t;have F:=aa (X.below ((Below.refl _ _).drew))
   clear hz G H X hC hS D U t aI I hg d1 d2 a4
   go_wp2
   have a9:(1:Int)≤(L.length:Int):=by omega
   have ba:(L.length:Int)≤(c:Int):=by omega
   have bb:(1:Int)≤(c:Int):=by omega
   by_cases a5:c=1
   ·subst a5
    go_region_with (go_at_call 145;refine(lZ K b a3 L _ (uH F)).mono ?_;rintro e w2 ⟨v,rfl,⟨n2,a2,c2,L2,rfl,i1⟩,d⟩;have I1:=aa i1;have m:=(uH N).drew.below d (uH N).drew.lt;have Z1:=(uH M).drew.below d (uH M).drew.lt;have r0:=m.c0;have r1:=m.c1;have f0:=m.free 0;have f1:=m.free 1;have B2:=aa (((uH f).drew).trans (d.mono ((uH f).drew).size));have O:=aa m;have Q:=aa Z1;clear i1 d m Z1)
    all_goals
     go_wp2
     go_roundw
     case rel=>exact⟨_,j+32,n2,a2,c2,L2,rfl,d3,aa (by rw[fs,uH V,gF];congr 1;omega),vw.step (v:=ah L/4294967296) (uH O) (uH Q) (uH I1) rfl (uH Y) (uH Z) (by have:=uH l;omega) (uH B2)⟩
     case measure=>rw[fs,uH V,gF];simp only[intOf];rw[dH _ e j (by omega) rfl,dH _ e (j+32) (by omega) (by congr 1;omega)];omega
   ·have a7:¬(c:Int)=1:=by omega
    go_region_with (go_at_call 145;refine(oD K b a3 c L _ (uH F) (by have:=uH l;omega)).mono ?_;rintro e w2 ⟨v,rfl,⟨n2,a2,c2,L2,rfl,i1⟩,d⟩;have I1:=aa i1;have m:=(uH N).drew.below d (uH N).drew.lt;have Z1:=(uH M).drew.below d (uH M).drew.lt;have r0:=m.c0;have r1:=m.c1;have f0:=m.free 0;have f1:=m.free 1;have B2:=aa (((uH f).drew).trans (d.mono ((uH f).drew).size));have O:=aa m;have Q:=aa Z1;clear i1 d m Z1)
    all_goals
     go_wp2
     go_roundw
     case rel=>exact⟨_,j+32,n2,a2,c2,L2,rfl,d3,aa (by rw[fs,uH V,gF];congr 1;omega),vw.step (v:=ah L/4294967296) (uH O) (uH Q) (uH I1) rfl (uH Y) (uH Z) (by have:=uH l;omega) (uH B2)⟩
     case measure=>rw[fs,uH V,gF];simp only[intOf];rw[dH _ e j (by omega) rfl,dH _ e (j+32) (by omega) (by congr 1;omega)];omega
  ·have a6:(((L[0]?.getD 0:Nat):Int)==0)=false:=by rw[beq_eq_false_iff_ne];omega
   generalize L[0]?.getD 0=y at*
   have HI:=U
   clear U G H X hC hS t hz D aI I hg
   go_wp2
   go_loopw[1] (fun i wr=>∃(x:Int) (j:Nat) (K:Bool) (a:Option Addr) (c:Nat) (L:List Nat),i=.int .i64 x∧j≤T∧Hid (x=IntKind.i64.wrap (e+j))∧Hid (vw w wr z j K a c L)) (fun i _=>T-((intOf i-e)%18446744073709551616).toNat)
   case atStart=>exact⟨x,j,K,_,c,L,rfl,hj,V,HI⟩
   case round=>
    clear HI p0 p1 am hp a6 av hj V hb a0
    obtain⟨x,j,K,a,c,L,rfl,hj,V,U⟩:=hrel
    obtain⟨G,H,X,hC,hS,t,hz,D⟩:=uH U
    have p0:=G.c0;have p1:=G.c1
    have N:=aa G;have M:=aa H;have f:=aa D;have l:=aa t;have F:=aa X
    clear G H X hC hS t hz D
    go_wp2_with fail
    refine(BH K a c L wr (uH F)).mono ?_
    by_cases ho:ah L%2=1
    ·rw[decide_eq_true ho]
     rintro r w3 ⟨rfl,h⟩
     obtain⟨l1,l2⟩:=(uH U).last ho
     have L1:=aa (l1.below h);have L2:=aa l2
     have G:=(uH N).all h;have H:=(uH M).all h
     have b1:=(uH f).trans (h.mono (uH f).size)
     clear U l1 l2 h ho p0 p1 N M f F
     have p0:=G.c0;have p1:=G.c1
     have y0:=H.c0;have y1:=H.c1;have y2:=H.c2;have f0:=H.free 0;have f1:=H.free 1;have f2:=H.free 2
     have M:=aa H;have B1:=aa b1
     clear G H b1
     go_wp2
     have e1:IntKind.i64.wrap (e+(T:Int))=x:=by rw[uH V,uH ae,←uH L2]
     rw[e1]
     have j2:aH w3 (.agg #[.bool K,.slice a L.length c,.int .i64 x]) (oM z) x:=⟨K,a,c,L,rfl,uH L1⟩
     refine bodyPost_ret (v:=.agg #[.bool K,.slice a L.length c,.int .i64 x]) (by simp[results,Tryz.results122,go_sem,y0,y1,y2]) rfl ⟨_,rfl,j2.put3 (uH M) _ _ _,aE (uH B1) (by omega) _ _ _⟩
    ·rw[decide_eq_false ho]
     rintro r w3 ⟨rfl,h⟩
     obtain⟨d1,d2,d3⟩:=(uH U).down 1 (by simp;omega)
     rw[←uH ae]at d3
     rw[Nat.pow_one]at d1 d2
     have Y:=aa d1;have Z:=aa d2
     have G:=(uH N).all h;have H:=(uH M).all h
     have b1:=(uH f).trans (h.mono (uH f).size)
     have a1:=(uH F).below h
     clear U d1 d2 h ho p0 p1 N M f F
     have p0:=G.c0;have p1:=G.c1
     have N:=aa G;have M:=aa H;have B1:=aa b1;have F:=aa a1
     clear G H b1 a1
     go_wp2_with fail
     refine(qA K a c L w3 (uH F) (by have:=uH l;omega)).mono ?_
     rintro r w2 ⟨v,rfl,⟨n2,a2,c2,L2,rfl,i1⟩,d⟩
     have I1:=aa i1
     have m:=(uH N).all d
     have Z1:=(uH M).all d
     have r0:=m.c0;have r1:=m.c1;have f0:=m.free 0;have f1:=m.free 1
     have B2:=aa ((uH B1).trans (d.mono (uH B1).size))
     have O:=aa m;have Q:=aa Z1
     clear i1 d m Z1
     go_wp2
     go_roundw
     case rel=>exact⟨_,j+1,n2,a2,c2,L2,rfl,d3,aa (by rw[fs,uH V,gF];congr 1;omega),vw.step (v:=ah L/2) (uH O) (uH Q) (uH I1) rfl (uH Y) (uH Z) (by have:=uH l;omega) (uH B2)⟩
     case measure=>rw[fs,uH V,gF];simp only[intOf];rw[dH _ e j (by omega) rfl,dH _ e (j+1) (by omega) (by congr 1;omega)];omega
theorem xZ(f:Bool)(h:Option Addr)(l:Nat)(e:Int)(w:World):
  Calls Tryz.prog 122 #[.agg #[.bool f,.slice h 0 l],.int .i64 e] w fun r d=>∃v,r=.returned v∧aH d v 0 0∧Below w.heap.size w d:=by
 go_enter Tryz.func122,Tryz.ntmps122
 go_wp2
 refine bodyPost_ret (v:=.agg #[.bool false,.slice none 0 0,.int .i64 0]) (by simp[results,Tryz.results122,go_sem]) rfl ⟨_,rfl,aH.zero _ _ _,?_⟩
 exact((Below.refl w.heap.size w).alloc (Nat.le_refl _) _).alloc (by simp) _
theorem BI{M B:Nat}{w:World}{v:Value}{z:Int}(e:Int)(F:aG M B w v z)(N:M≤20000)(G:-9223372036854775808≤e∧e≤9223372036854775807):
  Calls Tryz.prog 122 #[v,.int .i64 e] w fun r h=>∃u,r=.returned u∧aH h u (oM z) (if z=0 then 0 else IntKind.i64.wrap (e+tz z.natAbs))∧Below w.heap.size w h:=by
 obtain⟨l,m,t,A,rfl,K,O,y,L,D,Q⟩:=F
 have d:=jt L D
 by_cases f:A= []
 ·subst f
  rw[gA]at d
  subst d
  rw[if_pos rfl,show oM 0=0 by simp[oM]]
  exact xZ l m t e w
 ·have I:z≠0:=fun H=>f ((aM A y).1 (by rw[D,H];rfl))
  rw[if_neg I,←d]
  exact xY l m t A e w K f y (by omega) G
theorem gG{M B:Nat}{w:World}{v:Value}{z:Int}(e:Int)(f:aG M B w v z)(m:M≤20000)(y:-1000000≤e∧e≤1000000):
  Calls Tryz.prog 122 #[v,.int .i64 e] w fun r h=>∃u,r=.returned u∧aH h u (oM z) (oE z e)∧Below w.heap.size w h:=by
 have d:=BI e f m (by omega)
 have:(if z=0 then 0 else IntKind.i64.wrap (e+tz z.natAbs))=oE z e:=by
  unfold oE
  split
  ·rfl
  ·rename_i O
   have D:tz z.natAbs<32*20000:=by
    obtain⟨F,G,H,A,rfl,t,I,K,L,l,N⟩:=f
    rw[←l]
    have f:ah A≠0:=by rw[l];omega
    have d:=dL A t.2.1
    rw[show(4294967296:Nat)=2^32 by decide,←Nat.pow_mul]at d
    have:=kO (ah A) _ (by omega) d
    omega
   exact a8 _ (by omega)
 rwa[this]at d
end Go.Proofs.YtenpggicmfhhdaaGreatDoor
