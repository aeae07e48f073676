/- Part 11 of the texts. -/
import Derived.Test.YtnnfjeieennffaaGreatDoorPartc10
import Derived.Shelf.Spec.TrailingZeros
set_option maxHeartbeats 4000000
set_option maxRecDepth 20000
namespace Go.Proofs.YtnnfjeieennffaaGreatDoor
open Go.RowKit
def cC(w:World):Prop:=TabAt 1 Lib.deBruijn32tab w
theorem cC.below{w w':World}{B:Nat}(h:cC w)(d:Below B w w')(f:1<B):cC w':=fun j l=>by
 rw[d.cell (p:=⟨1,j,none⟩) f]
 exact h j l
theorem cC.pos{w:World}(h:cC w):1<w.heap.size:=World.block_lt_of_cell? w _ (h 0 (by decide))
theorem cC.all{w w':World}(h:cC w)(d:Below w.heap.size w w'):cC w':=h.below d h.pos
theorem xC(x k d:Nat)(w:World)(l:((x:Int)==0)=false)
  (f:bits BinOp.and IntKind.u32 (x:Int) (-(x:Int)%4294967296)*125613361%4294967296/134217728=(d:Int))
  (m:d<32) (t:k<32) (h:w.cell? ⟨1,d,none⟩=some (.int .u8 k)):
  Calls Tryz.prog 207 #[.int .u32 x] w fun e w'=>e=.returned (.int .i64 k)∧w=w':=by
 go_enter Tryz.func207,Tryz.ntmps207
 go_wp2_with(simp only[f])
 go_ret
 exact⟨rfl,rfl⟩
theorem zW(x:Nat)(w:World)(m:x<4294967296)(A:cC w):
  Calls Tryz.prog 207 #[.int .u32 x] w fun e w'=>e=.returned (.int .i64 (Lib.ctz 32 x))∧w=w':=by
 by_cases f:x=0
 ·subst f
  go_enter Tryz.func207,Tryz.ntmps207
  go_wp2
  go_ret
  exact⟨rfl,rfl⟩
 ·obtain⟨h,t⟩:=Lib.lowest_bit 32 x f m
  obtain⟨z,l⟩:=Lib.deBruijn32_at _ t
  have d:=A _ z
  rw[l]at d
  exact xC x _ _ w (by simp;omega) (tz32_key x _ m f h) z t d
theorem dj(n m:Int)(w:World)(A:0≤m)(z:m≤100000):
  Calls Tryz.prog 183 #[.int .i64 n,.int .i64 m] w fun e w'=>e=.returned (.bool (decide (-m≤n∧n≤m)))∧w=w':=by
 have D:IntKind.i64.wrap (-m)= -m:=by
  simp only[IntKind.wrap,IntKind.signed,IntKind.bits]
  simp
  omega
 by_cases d:-m≤n
 ·by_cases f:n≤m
  ·go_enter Tryz.func183,Tryz.ntmps183
   go_wp2
   go_ret
   exact⟨iP (by simp[d,f]),rfl⟩
  ·go_enter Tryz.func183,Tryz.ntmps183
   go_wp2
   go_ret
   exact⟨iP (by simp[f]),rfl⟩
 ·have l:¬(-m≤n∧n≤m):=fun h=>d h.1
  have t:=aa (decide_eq_false l)
  rw[uH t]
  clear l t
  go_enter Tryz.func183,Tryz.ntmps183
  go_wp2
  go_ret
  exact⟨rfl,rfl⟩
theorem dk(neg:Bool)(h:Option Addr)(d:Nat)(n:Nat)(w:World):
  Calls Tryz.prog 197 #[.agg #[.bool neg,.slice h n d]] w fun e w'=>e=.returned (.bool (decide (n=0)))∧Below w.heap.size w w':=by
 by_cases f:n=0
 ·subst f
  go_enter Tryz.func197,Tryz.ntmps197
  go_wp2
  go_ret
  exact⟨rfl,(Below.refl _ _).alloc (Nat.le_refl _) _⟩
 ·have l:((n:Int)==0)=false:=by simp;omega
  have H:=aa (decide_eq_false f)
  clear f
  go_enter Tryz.func197,Tryz.ntmps197
  go_wp2
  go_ret
  exact⟨iP (uH H).symm,(Below.refl _ _).alloc (Nat.le_refl _) _⟩
def gN(neg:Bool)(n:Nat):Int:=if n=0 then 0 else if neg then-1 else 1
def eW(v:Nat):Int:=if v=0 then 0 else(tz v:Int)
theorem kl(v:Nat)(h:v≠0):eW v=tz v:=by unfold eW;rw[if_neg h]
theorem km(neg:Bool)(ao:Option Addr)(d:Nat)(L:List Nat)(w:World)(h:ag w ao d L)(hl:L.length≤1073741824)(hT:cC w):
  Calls Tryz.prog 196 #[.agg #[.bool neg,.slice ao L.length d]] w fun e w'=>e=.returned (.int .i64 (eW (ak L)))∧Below w.heap.size w w':=by
 by_cases t:L= []
 ·subst t
  go_enter Tryz.func196,Tryz.ntmps196
  go_wp2
  refine wp_loop_rounds 1 ?_
  rw[rounds_succ]
  go_wp2
  go_ret
  exact⟨rfl,(Below.refl _ _).alloc (Nat.le_refl _) _⟩
 obtain⟨b,m,rfl,hb,hc⟩:=h.ne (List.length_pos_iff.2 t)
 have aj:=h.1
 have f:Below w.heap.size w (w.alloc (.cells #[.bool neg,.slice (some ⟨b,m,none⟩) L.length d] 50)):=(Below.refl _ _).alloc (Nat.le_refl _) _
 have A:∀i,i<L.length→(w.alloc (.cells #[.bool neg,.slice (some ⟨b,m,none⟩) L.length d] 50)).cell? ⟨b,m+i,none⟩=some (.int .u32 ((L[i]?.getD 0:Nat):Int)):=fun i hi=>by
  rw[f.cell (p:=⟨b,m+i,none⟩) hb];exact hc i hi
 have Q:=hT.all f
 have U:=aa (fun k x=>zK L k x)
 have V:=aa (fun h:ak L=0=>(show eW (ak L)=0 by rw[h];rfl))
 have O:=aa (fun h=>kl (ak L) h)
 have X:=aa (fun i=>h.lt i)
 have Y:=aa (fun k (hk:L.length≤k)=>du L k hk)
 have Z:=aa (fun k=>aH L k)
 have M:=aa f
 clear hT hc h hb t f
 generalize eW (ak L)=z at*
 go_enter Tryz.func196,Tryz.ntmps196
 go_wp2
 go_loop [3,9] (fun c i=>∃k:Nat,k≤L.length∧i=.int .i64 k∧c=.int .i64 (32*(k:Int))∧Hid (ak (L.take k)=0)) (fun _ i=>L.length-(intOf i).toNat)
 case atStart=>exact⟨0,Nat.zero_le _,rfl,rfl,by unfold Hid;simp[ak]⟩
 case round=>
  obtain⟨k,hk,rfl,rfl,K⟩:=hrel
  by_cases ae:k<L.length
  ·have am:=A k ae
   clear A
   have hx:=uH X k
   have D:=aa (uH Z k)
   have F:=aa (fun H=>uH U k _ K.out rfl H hx)
   clear U V Z X Y
   generalize L[k]?.getD 0=x at*
   have TZ:=aa (zW x _ hx Q)
   have N:(Lib.ctz 32 x:Int)≤32∧(0:Int)≤Lib.ctz 32 x:=by
    by_cases H:x=0
    ·subst H;decide
    ·have:=(Lib.lowest_bit 32 x H (by omega)).2
     omega
   have G:=aa (fun H=>Gr x H hx)
   have e0:x=0→Lib.ctz 32 x=32:=fun h=>by subst h;rfl
   generalize Lib.ctz 32 x=c at*
   obtain⟨c1,c2⟩:=N
   by_cases l:x=0
   ·have ec:=e0 l
    subst l;subst ec
    have HN:Hid (ak (L.take (k+1))=0):=by unfold Hid;rw[uH D,K.out];simp
    clear F D K G e0 O
    go_wp2_with(go_at_call 207;refine(uH TZ).mono ?_;rintro e w' ⟨rfl,rfl⟩)
    go_round
    case rel=>exact⟨k+1,by omega,by go_num,cQ (by omega),HN⟩
    case measure=>simp[intOf];omega
   ·have hr:=uH F l
    have HE:=aa (show z=32*(k:Int)+(c:Int) by rw[uH O hr.1,hr.2,uH G l];omega)
    have ax:((x:Int) != 0)=true:=by rw[bne_iff_ne];omega
    clear F D K G e0 O hr
    go_wp2_with(go_at_call 207;refine(uH TZ).mono ?_;rintro e w' ⟨rfl,rfl⟩)
    go_ret
    exact⟨aM (uH HE).symm,uH M⟩
  ·have hz:=uH V (by rw[←uH Y k (by omega)];exact K.out)
   subst hz
   clear U V O X Y Z K A
   go_wp2
   go_ret
   exact⟨rfl,uH M⟩
def aB(w:World)(b:Nat)(x y z:Value):Prop:=w.heap[b]? =some (.cells #[x,y,z] 52 (0,0))
theorem aB.c0{w:World}{b:Nat}{x y z:Value}(h:aB w b x y z):w.cell? ⟨b,0,none⟩=some x:=by rw[cell_of_row w b 0 _ _ _ h];rfl
theorem aB.c1{w:World}{b:Nat}{x y z:Value}(h:aB w b x y z):w.cell? ⟨b,1,none⟩=some y:=by rw[cell_of_row w b 1 _ _ _ h];rfl
theorem aB.c2{w:World}{b:Nat}{x y z:Value}(h:aB w b x y z):w.cell? ⟨b,2,none⟩=some z:=by rw[cell_of_row w b 2 _ _ _ h];rfl
theorem aB.free{w:World}{b:Nat}{x y z:Value}(h:aB w b x y z)(j:Nat):w.frozen? ⟨b,j,none⟩=false:=frozen_of_row w b j _ _ h
theorem aB.lt{w:World}{b:Nat}{x y z:Value}(h:aB w b x y z):b<w.heap.size:=(Array.getElem?_eq_some_iff.1 h).1
theorem aB.below{w w':World}{b:Nat}{x y z:Value}(h:aB w b x y z){B:Nat}(f:Below B w w')(d:b<B):aB w' b x y z:=(f.block b d).trans h
theorem aB.new(w:World)(x y z:Value):aB (w.alloc (.cells #[x,y,z] 52)) w.heap.size x y z:=heap_alloc_new w _
theorem aB.old{w:World}{b:Nat}{x y z:Value}(h:aB w b x y z)(o:Obj):aB (w.alloc o) b x y z:=by
 unfold aB;rw[Below.heap_alloc w o b h.lt];exact h
theorem aB.all{w w':World}{b:Nat}{x y z:Value}(h:aB w b x y z)(d:Below w.heap.size w w'):aB w' b x y z:=h.below d h.lt
theorem aC.all{w w':World}{b:Nat}{x y:Value}(h:aC w b x y)(d:Below w.heap.size w w'):aC w' b x y:=h.below d h.lt
theorem aB.drew{w:World}{b:Nat}{x y z:Value}(h:aB w b x y z):aB w.drew b x y z:=h
theorem aB.other{w:World}{b:Nat}{x y z:Value}(h:aB w b x y z){p:Addr}(d:b≠p.block)(u:Value):aB (w.setCell p u) b x y z:=(Below.heap_setCell w p u b d).trans h
theorem aD{w w':World}{B b:Nat}(h:Below B w w')(d:B≤b)(u u' u'':Value):Below B w (((w'.setCell ⟨b,0,none⟩ u).setCell ⟨b,1,none⟩ u').setCell ⟨b,2,none⟩ u''):=
 ((h.setCell d _).setCell d _).setCell d _
theorem ag.box3{w:World}{t:Option Addr}{m g:Nat}{L:List Nat}(h:ag w t m L){x:Bool}{a:Option Addr}{n c:Nat}{e:Int}(D:aB w g (.bool x) (.slice a n c) (.int .i64 e))(u u' u'':Value):
  ag (((w.setCell ⟨g,0,none⟩ u).setCell ⟨g,1,none⟩ u').setCell ⟨g,2,none⟩ u'') t m L:=by
 refine⟨h.1,h.2.1,?_⟩
 rcases h.2.2 with H|⟨b,d,K,M,A⟩
 ·exact .inl H
 ·by_cases z:L= []
  ·exact .inl z
  ·have G:0<L.length:=List.length_pos_iff.2 z
   have f:b≠g:=by
    rintro rfl
    have l:=A 0 G
    rw[cell_of_row w b (d+0) _ _ _ D]at l
    rcases(show d=0∨d=1∨d=2∨3≤d by omega)with e|e|e|e
    ·subst e;simp at l
    ·subst e;simp at l
    ·subst e;simp at l
    ·rw[Array.getElem?_eq_none (by simp;omega)]at l;simp at l
   refine .inr ⟨b,d,K,by simpa[World.setCell]using M,fun i F=>?_⟩
   rw[ah _ _ _ _ (by simpa using f),ah _ _ _ _ (by simpa using f),ah _ _ _ _ (by simpa using f)]
   exact A i F
def j6(neg:Bool)(L:List Nat)(e:Int):Bool:=ar neg L&&(if L.length=0 then decide (e=0)else(decide (ak L%2=1)&&decide (-16384≤e∧e≤16384)))
def nv(neg:Bool)(L:List Nat)(e:Int):Int:=if j6 neg L e then 0 else 1
theorem zX(v:Nat)(h:v≠0):0<eW v↔v%2=0:=by
 rw[kl v h]
 obtain⟨m,d⟩:=il v (by omega)
 constructor
 ·intro l
  obtain⟨k,f⟩:∃k,tz v=k+1:=⟨tz v-1,by omega⟩
  rw[f,Nat.pow_succ,Nat.mul_assoc,Nat.mul_left_comm]at d
  omega
 ·intro l
  rcases Nat.eq_zero_or_pos (tz v)with e|e
  ·rw[e]at d;simp at d;omega
  ·omega
theorem ww(v:Nat)(h:v<dE):0≤eW v∧eW v<16384:=by
 by_cases d:v=0
 ·subst d;decide
 ·rw[kl v d]
  have e:dE=2^(32*kX):=by
   unfold dE
   rw[show(4294967296:Nat)=2^32 by decide,←Nat.pow_mul]
  rw[e]at h
  have:=lY v (32*kX) (by omega) h
  have f:32*kX=16384:=rfl
  omega
theorem ip(neg:Bool)(K:Option Addr)(A:Nat)(L:List Nat)(e:Int)(w:World)(h:ag w K A L)(hl:L.length≤35184372088830)(X:cC w):
  Calls Tryz.prog 182 #[.agg #[.bool neg,.slice K L.length A,.int .i64 e]] w fun r w'=>r=.returned (.int .i64 (nv neg L e))∧Below w.heap.size w w':=by
 have HC:=aa (fun w' M=>dZ neg K A L w' M hl)
 have Z:=aa (show ar neg L=false→nv neg L e=1 from fun h=>by simp[nv,j6,h])
 have N:=aa (show¬(-16384≤e∧e≤16384)→nv neg L e=1 from fun h=>by
  unfold nv j6
  by_cases f:L.length=0
  ·rw[if_pos f,decide_eq_false (show¬e=0 by omega)];simp
  ·rw[if_neg f,decide_eq_false h];simp)
 have O:=aa (show L.length=0→e≠0→nv neg L e=1 from fun f h=>by
  unfold nv j6
  rw[if_pos f,decide_eq_false h];simp)
 have H4:=aa (show ar neg L=true→L.length=0→e=0→nv neg L e=0∧eW (ak L)=0 from fun h f M=>by
  unfold nv j6
  rw[if_pos f,decide_eq_true M,h]
  have:L= []:=List.length_eq_zero_iff.1 f
  subst this
  exact⟨by simp,rfl⟩)
 have H5:=aa (show ar neg L=true→L.length≠0→(-16384≤e∧e≤16384)→nv neg L e=if 0<eW (ak L)then 1 else 0 from fun h f M=>by
  have hv:ak L≠0:=fun e=>f (by rw[(aK L (ay h).2.1).1 e];rfl)
  unfold nv j6
  rw[if_neg f,decide_eq_true M,h]
  have:=zX _ hv
  by_cases h1:ak L%2=1
  ·rw[decide_eq_true h1,if_neg (show¬0<eW (ak L) by omega)];simp
  ·rw[decide_eq_false h1,if_pos (show 0<eW (ak L) by omega)];simp)
 have HL:=aa (show ar neg L=true→L.length≤512 from fun h=>(ay h).1)
 have HE:=aa (show ei neg L=if ar neg L then 0 else 1 from rfl)
 have Q:=aa (fun w' M Y t=>km neg K A L w' M Y t)
 generalize nv neg L e=er at*
 generalize ei neg L=ce at*
 generalize eW (ak L)=lz at*
 generalize ar neg L=rb at*
 have H:Below w.heap.size w (w.alloc (.cells #[.bool neg,.slice K L.length A,.int .i64 e] 52)):=(Below.refl _ _).alloc (Nat.le_refl _) _
 have z:=aB.new w (.bool neg) (.slice K L.length A) (.int .i64 e)
 go_enter Tryz.func182,Tryz.ntmps182
 go_wp2_with fail
 refine(uH HC _ (h.below H)).mono ?_
 rintro r w1 ⟨rfl,d⟩
 replace z:=z.all d
 have m:=H.trans (d.mono H.size)
 rw[uH HE]
 clear d HE HC H
 have p0:=z.c0;have p1:=z.c1;have p2:=z.c2
 cases rb
 ·have G:=uH Z rfl
  subst G
  simp only[Bool.false_eq_true,if_false]
  clear Z N O H4 H5 HL Q z
  go_wp2
  go_ret
  exact⟨rfl,m⟩
 have ae:=uH HL rfl
 have D:=aa (uH H4 rfl)
 have F:=aa (uH H5 rfl)
 clear HL H4 H5 Z
 simp only[if_true]
 go_wp2_with fail
 refine(dj e 16384 _ (by decide) (by decide)).mono ?_
 rintro r w2 ⟨rfl,rfl⟩
 by_cases l:-16384≤e∧e≤16384
 case neg=>
  have G:=uH N l
  subst G
  rw[decide_eq_false l]
  clear N O D F ae Q z l
  go_wp2
  go_ret
  exact⟨rfl,m⟩
 rw[decide_eq_true l]
 go_wp2_with fail
 refine(dk neg K A L.length _).mono ?_
 rintro r w3 ⟨rfl,d⟩
 replace z:=z.all d
 replace m:=m.trans (d.mono m.size)
 clear d p0 p1 p2
 have p0:=z.c0;have p1:=z.c1;have p2:=z.c2
 by_cases f:L.length=0
 ·rw[decide_eq_true f]
  by_cases U:e=0
  ·obtain⟨G,V⟩:=uH D f U
   subst G
   subst V
   subst U
   clear N O D F z l f
   go_wp2_with fail
   refine(uH Q _ (h.below m) (by omega) (X.all m)).mono ?_
   rintro r w4 ⟨rfl,d⟩
   go_wp2
   go_ret
   exact⟨rfl,m.trans (d.mono m.size)⟩
  ·have G:=uH O f U
   subst G
   have aj:(e != 0)=true:=by simpa using U
   clear N O D F z l Q
   go_wp2
   go_ret
   exact⟨rfl,m⟩
 ·have G:=uH F f l
  rw[decide_eq_false f]
  by_cases V:0<lz
  ·rw[if_pos V]at G
   subst G
   clear N O D F z l f
   go_wp2_with fail
   refine(uH Q _ (h.below m) (by omega) (X.all m)).mono ?_
   rintro r w4 ⟨rfl,d⟩
   go_wp2
   go_ret
   exact⟨rfl,m.trans (d.mono m.size)⟩
  ·rw[if_neg V]at G
   subst G
   clear N O D F z l f
   go_wp2_with fail
   refine(uH Q _ (h.below m) (by omega) (X.all m)).mono ?_
   rintro r w4 ⟨rfl,d⟩
   go_wp2
   go_ret
   exact⟨rfl,m.trans (d.mono m.size)⟩
def aG(w:World)(v:Value)(m e:Int):Prop:=
 ∃(neg:Bool) (ao:Option Addr) (cap:Nat) (L:List Nat),v=.agg #[.bool neg,.slice ao L.length cap,.int .i64 e]∧au 0 w (.agg #[.bool neg,.slice ao L.length cap]) m
theorem aG.below{w w':World}{v:Value}{m e:Int}(h:aG w v m e)(f:Below w.heap.size w w'):aG w' v m e:=by
 obtain⟨neg,l,d,L,t,z⟩:=h
 exact⟨neg,l,d,L,t,z.below f⟩
theorem aG.put3{w:World}{v:Value}{m e:Int}(h:aG w v m e){g:Nat}{x:Bool}{a:Option Addr}{n c:Nat}{k:Int}(f:aB w g (.bool x) (.slice a n c) (.int .i64 k))(u u' u'':Value):aG (((w.setCell ⟨g,0,none⟩ u).setCell ⟨g,1,none⟩ u').setCell ⟨g,2,none⟩ u'') v m e:=by
 obtain⟨neg,l,d,L,t,z,A,D,F,G,H,K⟩:=h
 exact⟨neg,l,d,L,t,z,A,D,F,G,H.box3 f _ _ _,K⟩
theorem aG.zero(w:World)(f:Option Addr)(d:Nat):aG w (.agg #[.bool false,.slice f 0 d,.int .i64 0]) 0 0:=
 ⟨false,f,d,[],rfl,au.zero _ _ _ _⟩
def k9(z e:Int):Bool:=decide (-32768≤e∧e≤32768)&&(decide (z=0)||decide (-16384≤e+tz z.natAbs∧e+tz z.natAbs≤16384))
def cR(z e:Int):Int:=if k9 z e then 0 else 2
def dM(z e:Int):Int:=if k9 z e then oM z else 0
def dX(z e:Int):Int:=if k9 z e then oE z e else 0
def o4(na:Bool)(A:List Nat)(x:Int)(nb:Bool)(B:List Nat)(y:Int):Int:=if j6 na A x&&j6 nb B y then 0 else 1
theorem iT(d l:Bool)(G z:Option Addr)(H D:Nat)(A B:List Nat)(x y:Int)(w:World)(X:ag w G H A)(Z:ag w z D B)(la:A.length≤35184372088830)(lb:B.length≤35184372088830)(M:cC w):
  Calls Tryz.prog 220 #[.agg #[.bool d,.slice G A.length H,.int .i64 x],.agg #[.bool l,.slice z B.length D,.int .i64 y]] w fun r w'=>r=.returned (.int .i64 (o4 d A x l B y))∧Below w.heap.size w w':=by
 have O:=aa (show j6 d A x=false→nv d A x=1∧o4 d A x l B y=1 from fun h=>by simp[nv,o4,h])
 have Q:=aa (show j6 d A x=true→nv d A x=0∧o4 d A x l B y=nv l B y from fun h=>by simp[nv,o4,h])
 have U:=aa (fun w' N t=>ip d G H A x w' N la t)
 have Y:=aa (fun w' N t=>ip l z D B y w' N lb t)
 generalize o4 d A x l B y=er at*
 generalize nv d A x=e1 at*
 generalize nv l B y=e2 at*
 generalize j6 d A x=ra at*
 have K:Below w.heap.size w ((w.alloc (.cells #[.bool d,.slice G A.length H,.int .i64 x] 52)).alloc (.cells #[.bool l,.slice z B.length D,.int .i64 y] 52)):=((Below.refl _ _).alloc (Nat.le_refl _) _).alloc (by simp) _
 have F:aB ((w.alloc (.cells #[.bool d,.slice G A.length H,.int .i64 x] 52)).alloc (.cells #[.bool l,.slice z B.length D,.int .i64 y] 52)) (w.heap.size+1) (.bool l) (.slice z B.length D) (.int .i64 y):=by
  have:=aB.new (w.alloc (.cells #[.bool d,.slice G A.length H,.int .i64 x] 52)) (.bool l) (.slice z B.length D) (.int .i64 y)
  simpa using this
 have V:=aa F;have m:=aa K
 clear F K
 cases ra
 ·obtain⟨rfl,rfl⟩:=uH O rfl
  clear O Q Y V
  go_enter Tryz.func220,Tryz.ntmps220
  go_wp2_with fail
  refine(uH U _ (X.below (uH m)) (M.all (uH m))).mono ?_
  rintro r w1 ⟨rfl,f⟩
  go_wp2
  go_ret
  exact⟨rfl,(uH m).trans (f.mono (uH m).size)⟩
 ·obtain⟨rfl,rfl⟩:=uH Q rfl
  clear O Q
  go_enter Tryz.func220,Tryz.ntmps220
  go_wp2_with fail
  refine(uH U _ (X.below (uH m)) (M.all (uH m))).mono ?_
  rintro r w1 ⟨rfl,f⟩
  have F:=(uH V).all f
  have p0:=F.c0;have p1:=F.c1;have p2:=F.c2
  have L:=aa ((uH m).trans (f.mono (uH m).size))
  clear f F V m U
  go_wp2_with fail
  refine(uH Y _ (Z.below (uH L)) (M.all (uH L))).mono ?_
  rintro r w2 ⟨rfl,f⟩
  go_wp2
  go_ret
  exact⟨rfl,(uH L).trans (f.mono (uH L).size)⟩
theorem Eb(d:Bool)(v:Nat)(h:v≠0):sg d (v/2^tz v)=oM (sg d v):=by
 obtain⟨m,f⟩:=il v (by omega)
 have l:0<2^tz v:=Nat.pow_pos (by decide)
 have t:v/2^tz v=2*m+1:=by
  generalize 2^tz v=P at f l
  rw[f];exact Nat.mul_div_cancel_left _ l
 have z:iN (sg d v) (sg d (2*m+1)) (tz v):=by
  constructor
  ·have e:(v:Int)=(2*(m:Int)+1)*2^tz v:=by
    rw[Int.mul_comm]
    exact_mod_cast f
   unfold sg
   cases d
   ·simp only[Bool.false_eq_true,if_false];rw[e];push_cast;rfl
   ·simp only[if_true];rw[e];push_cast;rw[Int.neg_mul]
  ·unfold sg;cases d<;>simp<;>omega
 rw[t,z.eq.2.1]
theorem mG:0<dE:=Nat.pow_pos (by decide)
theorem uE(d:Bool)(A:List Nat)(e:Int)(H:ar d A=true)(N:bd A):
  (¬(-32768≤e∧e≤32768)∧cR (af d A) e=2∧dM (af d A) e=0∧dX (af d A) e=0)∨
  ((-32768≤e∧e≤32768)∧A.length≠0∧¬(-16384≤e+eW (ak A)∧e+eW (ak A)≤16384)∧cR (af d A) e=2∧dM (af d A) e=0∧dX (af d A) e=0)∨
  ((-32768≤e∧e≤32768)∧A.length=0∧cR (af d A) e=0∧dM (af d A) e=0∧dX (af d A) e=0)∨
  ((-32768≤e∧e≤32768)∧A.length≠0∧(-16384≤e+eW (ak A)∧e+eW (ak A)≤16384)∧cR (af d A) e=0∧dX (af d A) e=e+eW (ak A)∧ur d A (-eW (ak A))=0∧rW d A (-eW (ak A))=dM (af d A) e):=by
 obtain⟨Y,M,_⟩:=ay H
 have O:ak A<dE:=(dW A N M).2 Y
 have Q:=ww (ak A) O
 by_cases h:-32768≤e∧e≤32768
 case neg=>
  left
  have:k9 (af d A) e=false:=by unfold k9;rw[decide_eq_false h,Bool.false_and]
  exact⟨h,by simp[cR,this],by simp[dM,this],by simp[dX,this]⟩
 right
 by_cases m:A.length=0
 ·right;left
  have U:A= []:=List.length_eq_zero_iff.1 m
  subst U
  have:k9 (af d []) e=true:=by unfold k9;rw[decide_eq_true h,gT];simp
  refine⟨h,rfl,by simp[cR,this],?_,?_⟩
  ·simp[dM,gT,oM]
  ·simp[dX,gT,oE]
 have z:ak A≠0:=fun e=>m (by rw[(aK A M).1 e];rfl)
 have f:=kl (ak A) z
 have D:af d A≠0:=fun e=>z (by rw[←aP d A,e];rfl)
 by_cases t:-16384≤e+eW (ak A)∧e+eW (ak A)≤16384
 case neg=>
  left
  have:k9 (af d A) e=false:=by
   unfold k9
   rw[aP,←f,decide_eq_false t,decide_eq_false D];simp
  exact⟨h,m,t,by simp[cR,this],by simp[dM,this],by simp[dX,this]⟩
 right;right
 have F:k9 (af d A) e=true:=by
  unfold k9
  rw[aP,←f,decide_eq_true h,decide_eq_true t];simp
 have K:oY d A (-eW (ak A))=oM (af d A):=by
  rw[mE,dC,←Eb d (ak A) z,f]
  congr 1
  unfold nk
  rcases Nat.eq_zero_or_pos (tz (ak A))with e|e
  ·rw[e];simp
  ·rw[if_neg (by omega)]
   congr 2
   omega
 have V:=fL (af d A) D
 have X:(oM (af d A)).natAbs≤ak A:=by
  have L:(af d A).natAbs=(oM (af d A)).natAbs*2^tz (af d A).natAbs:=by
   conv=>lhs;rw[V.1]
   rw[Int.natAbs_mul,Int.natAbs_pow]
   rfl
  rw[aP]at L
  rw[L]
  exact Nat.le_mul_of_pos_right _ (Nat.pow_pos (by decide))
 have G:-16384≤-eW (ak A)∧-eW (ak A)≤16384:=by omega
 have l:k8 d A (-eW (ak A))=true:=by unfold k8;rw[H,decide_eq_true G];rfl
 refine⟨h,m,t,by simp[cR,F],?_,?_,?_⟩
 ·unfold dX oE;rw[if_pos F,if_neg D,aP,f]
 ·unfold ur;rw[if_pos l,K,fh _ (by omega)]
 ·unfold rW dM;rw[if_pos l,if_pos F,K,fi _ (by omega)]
theorem iq(m:Bool)(G:Option Addr)(H:Nat)(A:List Nat)(e:Int)(w:World)(hA:ag w G H A)(hr:ar m A=true)(be:-9223372036854775808≤e∧e≤9223372036854775807)(hT:cC w):
  Calls Tryz.prog 180 #[.agg #[.bool m,.slice G A.length H],.int .i64 e] w fun r w'=>∃v,r=.returned (.tuple #[v,.int .i64 (cR (af m A) e)])∧aG w' v (dM (af m A) e) (dX (af m A) e)∧Below w.heap.size w w':=by
 have hl:=(ay hr).1
 have aj:ei m A=0:=by simp[ei,hr]
 have HM:=aa (uE m A e hr hA.2.1)
 have ae:=aa (fun w' h'=>dZ m G H A w' h' (by omega))
 rw[aj]at ae
 have am:=aa (fun w' h' t=>km m G H A w' h' (by omega) t)
 have Q:=aa (fun n w' h' bn=>gW m G H A n w' h' (by omega) bn)
 have a3:=ww (ak A) ((dW A hA.2.1 (ay hr).2.1).2 hl)
 clear aj hr
 generalize cR (af m A) e=er at*
 generalize dM (af m A) e=dm at*
 generalize dX (af m A) e=dx at*
 generalize eW (ak A)=lz at*
 obtain⟨a4,a5⟩:=a3
 have Z:Below w.heap.size w ((w.alloc (.cells #[.bool m,.slice G A.length H] 50)).alloc (.cells #[.bool false,.slice none 0 0,.int .i64 0] 52)):=((Below.refl _ _).alloc (Nat.le_refl _) _).alloc (by simp) _
 have h:aC ((w.alloc (.cells #[.bool m,.slice G A.length H] 50)).alloc (.cells #[.bool false,.slice none 0 0,.int .i64 0] 52)) w.heap.size (.bool m) (.slice G A.length H):=(aC.new _ _ _).old _
 have f:aB ((w.alloc (.cells #[.bool m,.slice G A.length H] 50)).alloc (.cells #[.bool false,.slice none 0 0,.int .i64 0] 52)) (w.heap.size+1) (.bool false) (.slice none 0 0) (.int .i64 0):=by
  have:=aB.new (w.alloc (.cells #[.bool m,.slice G A.length H] 50)) (.bool false) (.slice none 0 0) (.int .i64 0)
  simpa using this
 go_enter Tryz.func180,Tryz.ntmps180
 go_wp2_with fail
 refine(uH ae _ (hA.below Z)).mono ?_
 rintro r w1 ⟨rfl,d⟩
 replace h:=h.all d
 replace f:=f.all d
 have z:=Z.trans (d.mono Z.size)
 clear d Z ae
 have O:=h.c0;have K:=h.c1
 have D:=aa h;have F:=aa f;have l:=aa z
 clear h f z
 go_wp2_with fail
 refine(uH am _ (hA.below (uH l)) (hT.all (uH l))).mono ?_
 rintro r w2 ⟨rfl,d⟩
 have h:=(uH D).all d
 have f:=(uH F).all d
 have z:=(uH l).trans (d.mono (uH l).size)
 clear d am O K D F l
 have O:=h.c0;have K:=h.c1
 have D:=aa h;have F:=aa f;have l:=aa z
 have L:=f.c0;have M:=f.c1;have N:=f.c2;have V:=f.free 0;have X:=f.free 1;have Y:=f.free 2
 clear h f z
 rcases uH HM with⟨U,rfl,rfl,rfl⟩|⟨U,h0,h2,rfl,rfl,rfl⟩|⟨U,h0,rfl,rfl,rfl⟩|⟨U,h0,h2,rfl,rfl,a0,a1⟩
 ·clear HM Q
  go_wp2_with fail
  refine(dj e 32768 _ (by decide) (by decide)).mono ?_
  rw[decide_eq_false U]
  rintro r w3 ⟨rfl,rfl⟩
  clear U
  go_wp2
  refine bodyPost_ret (v:=.tuple #[.agg #[.bool false,.slice none 0 0,.int .i64 0],.int .i64 2]) (by simp[results,Tryz.results180,go_sem,L,M,N]) rfl ⟨_,rfl,aG.zero _ _ _,aD (uH l) (by omega) _ _ _⟩
 ·clear HM Q
  go_wp2_with fail
  refine(dj e 32768 _ (by decide) (by decide)).mono ?_
  rw[decide_eq_true U]
  rintro r w3 ⟨rfl,rfl⟩
  obtain⟨ax,aI⟩:=U
  go_wp2_with fail
  refine(dk m G H A.length _).mono ?_
  rw[decide_eq_false h0]
  rintro r w4 ⟨rfl,d⟩
  have h:=(uH D).all d
  have f:=(uH F).all d
  have z:=(uH l).trans (d.mono (uH l).size)
  clear d O K D F l L M N V X Y
  have O:=h.c0;have K:=h.c1
  have D:=aa h;have F:=aa f;have l:=aa z
  have L:=f.c0;have M:=f.c1;have N:=f.c2;have V:=f.free 0;have X:=f.free 1;have Y:=f.free 2
  clear h f z
  go_wp2_with fail
  refine(dj (e+lz) 16384 _ (by decide) (by decide)).mono ?_
  rw[decide_eq_false h2]
  rintro r w5 ⟨rfl,rfl⟩
  clear h2
  go_wp2
  refine bodyPost_ret (v:=.tuple #[.agg #[.bool false,.slice none 0 0,.int .i64 0],.int .i64 2]) (by simp[results,Tryz.results180,go_sem,L,M,N]) rfl ⟨_,rfl,aG.zero _ _ _,aD (uH l) (by omega) _ _ _⟩
 ·clear HM Q
  have H0:=aa h0
  clear h0
  go_wp2_with fail
  refine(dj e 32768 _ (by decide) (by decide)).mono ?_
  rw[decide_eq_true U]
  rintro r w3 ⟨rfl,rfl⟩
  obtain⟨ax,aI⟩:=U
  go_wp2_with fail
  refine(dk m G H A.length _).mono ?_
  rw[decide_eq_true (uH H0)]
  rintro r w4 ⟨rfl,d⟩
  have h:=(uH D).all d
  have f:=(uH F).all d
  have z:=(uH l).trans (d.mono (uH l).size)
  clear d O K D F l L M N V X Y
  have O:=h.c0;have K:=h.c1
  have D:=aa h;have F:=aa f;have l:=aa z
  have L:=f.c0;have M:=f.c1;have N:=f.c2;have V:=f.free 0;have X:=f.free 1;have Y:=f.free 2
  clear h f z
  clear K
  have K:=(uH D).c1
  go_wp2_with fail
  refine(dk m G H A.length _).mono ?_
  rw[decide_eq_true (uH H0)]
  rintro r w5 ⟨rfl,d⟩
  have h:=(uH D).all d
  have f:=(uH F).all d
  have z:=(uH l).trans (d.mono (uH l).size)
  clear d O K D F l L M N V X Y
  have l:=aa z
  have L:=f.c0;have M:=f.c1;have N:=f.c2;have V:=f.free 0;have X:=f.free 1;have Y:=f.free 2
  clear h f z
  go_wp2
  refine bodyPost_ret (v:=.tuple #[.agg #[.bool false,.slice none 0 0,.int .i64 0],.int .i64 0]) (by simp[results,Tryz.results180,go_sem,L,M,N]) rfl ⟨_,rfl,aG.zero _ _ _,aD (uH l) (by omega) _ _ _⟩
 ·clear HM
  have HN:=aa a1
  have SH:=aa (fun w' h'=>uH Q (-lz) w' h' (by omega))
  rw[a0]at SH
  clear a1 a0 Q
  go_wp2_with fail
  refine(dj e 32768 _ (by decide) (by decide)).mono ?_
  rw[decide_eq_true U]
  rintro r w3 ⟨rfl,rfl⟩
  obtain⟨ax,aI⟩:=U
  go_wp2_with fail
  refine(dk m G H A.length _).mono ?_
  rw[decide_eq_false h0]
  rintro r w4 ⟨rfl,d⟩
  have h:=(uH D).all d
  have f:=(uH F).all d
  have z:=(uH l).trans (d.mono (uH l).size)
  clear d O K D F l L M N V X Y
  have O:=h.c0;have K:=h.c1
  have D:=aa h;have F:=aa f;have l:=aa z
  have L:=f.c0;have M:=f.c1;have N:=f.c2;have V:=f.free 0;have X:=f.free 1;have Y:=f.free 2
  clear h f z
  go_wp2_with fail
  refine(dj (e+lz) 16384 _ (by decide) (by decide)).mono ?_
  rw[decide_eq_true h2]
  rintro r w5 ⟨rfl,rfl⟩
  obtain⟨a6,a7⟩:=h2
  go_wp2_with fail
  refine(dk m G H A.length _).mono ?_
  rw[decide_eq_false h0]
  rintro r w6 ⟨rfl,d⟩
  have h:=(uH D).all d
  have f:=(uH F).all d
  have z:=(uH l).trans (d.mono (uH l).size)
  clear d O K D F l L M N V X Y
  have O:=h.c0;have K:=h.c1
  have D:=aa h;have F:=aa f;have l:=aa z
  clear h f z
  go_wp2_with fail
  refine(uH SH _ (hA.below (uH l))).mono ?_
  rintro r w7 ⟨v,rfl,⟨n2,a2,c2,L2,rfl,i1⟩,d⟩
  have f:=(uH F).all d
  have z:=(uH l).trans (d.mono (uH l).size)
  have I1:=aa i1;have B2:=aa z;have X2:=aa f
  clear d O K D F l f z i1
  have f:=(uH X2).old (.cells #[.bool n2,.slice a2 L2.length c2] 50)
  have L:=f.c0;have M:=f.c1;have N:=f.c2;have V:=f.free 0;have X:=f.free 1;have Y:=f.free 2
  have X3:=aa f
  clear f
  go_wp2
  have j:au w6.heap.size w7 (.agg #[.bool n2,.slice a2 L2.length c2]) dm:=(uH HN)▸(⟨n2,a2,c2,L2,rfl,uH I1⟩:au w6.heap.size w7 (.agg #[.bool n2,.slice a2 L2.length c2]) (rW m A (-lz)))
  have j2:aG (w7.alloc (.cells #[.bool n2,.slice a2 L2.length c2] 50)) (.agg #[.bool n2,.slice a2 L2.length c2,.int .i64 (e+lz)]) dm (e+lz):=⟨n2,a2,c2,L2,rfl,(j.below ((Below.refl _ _).alloc (Nat.le_refl _) _)).mono (Nat.zero_le _)⟩
  have b3:=(uH B2).alloc (uH B2).size (.cells #[.bool n2,.slice a2 L2.length c2] 50)
  refine bodyPost_ret (v:=.tuple #[.agg #[.bool n2,.slice a2 L2.length c2,.int .i64 (e+lz)],.int .i64 0]) (by simp[results,Tryz.results180,go_sem,L,M,N]) rfl ⟨_,rfl,j2.put3 (uH X3) _ _ _,aD b3 (by omega) _ _ _⟩
theorem iU{B:Nat}{w:World}{v:Value}{z:Int}(e:Int)(d:au B w v z)(f:z.natAbs<dE)(h:-9223372036854775808≤e∧e≤9223372036854775807)(l:cC w):
  Calls Tryz.prog 180 #[v,.int .i64 e] w fun r w'=>∃u,r=.returned (.tuple #[u,.int .i64 (cR z e)])∧aG w' u (dM z e) (dX z e)∧Below w.heap.size w w':=by
 obtain⟨m,t,D,A,rfl,F,G,H,K⟩:=d.right f
 have:=iq m t D A e w F G h l
 rwa[H]at this
theorem a8(x:Int)(h:-9000000000000000000≤x∧x≤9000000000000000000):IntKind.i64.wrap x=x:=by
 simp only[IntKind.wrap,IntKind.signed,IntKind.bits]
 simp
 omega
theorem zY(L:List Nat):ak L%2=L[0]?.getD 0%2:=by
 cases L with
 |nil=>rfl
 |cons x r=>simp[ak];omega
theorem Ec(neg:Bool)(z:Option Addr)(f:Nat)(L:List Nat)(w:World)(h:ag w z f L):
  Calls Tryz.prog 96 #[.agg #[.bool neg,.slice z L.length f]] w fun e w'=>e=.returned (.bool (decide (ak L%2=1)))∧Below w.heap.size w w':=by
 by_cases l:L= []
 ·subst l
  go_enter Tryz.func96,Tryz.ntmps96
  go_wp2
  go_ret
  exact⟨rfl,(Below.refl _ _).alloc (Nat.le_refl _) _⟩
 obtain⟨b,K,rfl,O,D⟩:=h.ne (List.length_pos_iff.2 l)
 have F:0<L.length:=List.length_pos_iff.2 l
 have G:(0:Int)<(L.length:Int):=by omega
 have m:=D 0 F
 have N:=h.lt 0
 have A:=h.1
 rw[zY]
 generalize L[0]?.getD 0=x at*
 clear D h l
 rw[Nat.add_zero]at m
 generalize M:L.length=n at*
 clear M
 by_cases d:x%2=1
 ·have H:(((x:Int)%2)==1)=true:=by rw[beq_iff_eq];omega
  have t:=aa (decide_eq_true d)
  clear d
  go_enter Tryz.func96,Tryz.ntmps96
  go_wp2
  go_ret
  exact⟨iP (uH t).symm,(Below.refl _ _).alloc (Nat.le_refl _) _⟩
 ·have H:(((x:Int)%2)==1)=false:=by rw[beq_eq_false_iff_ne];omega
  have t:=aa (decide_eq_false d)
  clear d
  go_enter Tryz.func96,Tryz.ntmps96
  go_wp2
  go_ret
  exact⟨iP (uH t).symm,(Below.refl _ _).alloc (Nat.le_refl _) _⟩
theorem kn(neg:Bool)(f:Option Addr)(d:Nat)(L:List Nat)(e:Int)(w:World)(h:ag w f d L)(M:L.length≤35184372088830):
  Calls Tryz.prog 171 #[.agg #[.bool neg,.slice f L.length d,.int .i64 e]] w fun r w'=>r=.returned (.int .i64 (IntKind.i64.wrap (dH L+e)))∧Below w.heap.size w w':=by
 have O:=aa (fun w' N=>qx neg f d L w' N M)
 generalize dH L=n at*
 have t:Below w.heap.size w (w.alloc (.cells #[.bool neg,.slice f L.length d,.int .i64 e] 52)):=(Below.refl _ _).alloc (Nat.le_refl _) _
 have m:=aB.new w (.bool neg) (.slice f L.length d) (.int .i64 e)
 have D:=aa m;have F:=aa t
 clear m t
 go_enter Tryz.func171,Tryz.ntmps171
 go_wp2
 refine aq (fun W=>Below w.heap.size w W∧aB W w.heap.size (.bool neg) (.slice f L.length d) (.int .i64 e)) ⟨uH F,uH D⟩ ?_
 rintro l ⟨A,m⟩
 have G:∀w',Below l.heap.size l w'→Below l.heap.size l w'∧w'.cell? ⟨w.heap.size,0,none⟩=some (.bool neg)∧w'.cell? ⟨w.heap.size,1,none⟩=some (.slice f L.length d)∧w'.cell? ⟨w.heap.size,2,none⟩=some (.int .i64 e):=fun w' h=>
  ⟨h,(m.all h).c0,(m.all h).c1,(m.all h).c2⟩
 have H:=aa G
 have Q:=aa (h.below A);have K:=aa A
 clear G m A h D F
 go_region_held3(fun w'=>Below l.heap.size l w'∧w'.cell? ⟨w.heap.size,0,none⟩=some (.bool neg)∧w'.cell? ⟨w.heap.size,1,none⟩=some (.slice f L.length d)∧w'.cell? ⟨w.heap.size,2,none⟩=some (.int .i64 e))
  (first|exact uH H _ (Below.refl _ _).drew|exact uH H _ (by assumption))
  (first|(go_at_call 189;refine(uH O _ ((uH Q).below (And.left (by assumption)))).mono ?_;rintro e V ⟨rfl,z⟩;have U:Below l.heap.size l V:=Below.trans (And.left (by assumption)) (z.mono (Below.size (And.left (by assumption))));clear z))
 go_wp2
 go_ret
 exact⟨rfl,(uH K).trans (Below.mono (And.left (by assumption)) (uH K).size)⟩
def gO(L:List Nat)(e:Int):Int:=if L.length=0 then 0 else dH L+e
theorem ny(neg:Bool)(f:Option Addr)(d:Nat)(L:List Nat)(e:Int)(w:World)(h:ag w f d L)(hl:L.length≤1073741824)(he:-100000≤e∧e≤100000):
  Calls Tryz.prog 61 #[.agg #[.bool neg,.slice f L.length d,.int .i64 e]] w fun r w'=>r=.returned (.int .i64 (gO L e))∧Below w.heap.size w w':=by
 have O:=aa (fun w' Y=>uB neg f d L w' Y (by omega))
 have G:L.length≠0→0≤dH L∧dH L≤40000000000:=fun m=>by
  unfold dH
  rw[if_neg m]
  have:=k7 (L[L.length-1]?.getD 0)
  omega
 have F:=aa (show(L.length=0→gO L e=0)∧(L.length≠0→gO L e=dH L+e) by unfold gO;constructor<;>intro h<;>simp[h])
 generalize gO L e=t at*
 generalize dH L=n at*
 have A:Below w.heap.size w (w.alloc (.cells #[.bool neg,.slice f L.length d,.int .i64 e] 52)):=(Below.refl _ _).alloc (Nat.le_refl _) _
 have z:=aB.new w (.bool neg) (.slice f L.length d) (.int .i64 e)
 have Q:=aa z;have H:=aa A
 clear z A
 by_cases m:L.length=0
 ·have K:=(uH F).1 m
  subst K
  have M:((L.length:Int)==0)=true:=by rw[beq_iff_eq];omega
  clear F G O m
  go_enter Tryz.func61,Tryz.ntmps61
  go_wp2
  go_ret
  exact⟨rfl,uH H⟩
 have K:=(uH F).2 m
 subst K
 obtain⟨aj,am⟩:=G m
 have M:((L.length:Int)==0)=false:=by rw[beq_eq_false_iff_ne];omega
 clear F G m
 go_enter Tryz.func61,Tryz.ntmps61
 go_wp2
 refine aq (fun W=>Below w.heap.size w W∧aB W w.heap.size (.bool neg) (.slice f L.length d) (.int .i64 e)) ⟨uH H,uH Q⟩ ?_
 rintro l ⟨N,z⟩
 have U:∀w',Below l.heap.size l w'→Below l.heap.size l w'∧w'.cell? ⟨w.heap.size,0,none⟩=some (.bool neg)∧w'.cell? ⟨w.heap.size,1,none⟩=some (.slice f L.length d)∧w'.cell? ⟨w.heap.size,2,none⟩=some (.int .i64 e):=fun w' h=>
  ⟨h,(z.all h).c0,(z.all h).c1,(z.all h).c2⟩
 have V:=aa U
 have Z:=aa (h.below N);have X:=aa N
 clear U z N h Q H
 go_region_held3(fun w'=>Below l.heap.size l w'∧w'.cell? ⟨w.heap.size,0,none⟩=some (.bool neg)∧w'.cell? ⟨w.heap.size,1,none⟩=some (.slice f L.length d)∧w'.cell? ⟨w.heap.size,2,none⟩=some (.int .i64 e))
  (first|exact uH V _ (Below.refl _ _).drew|exact uH V _ (by assumption))
  (first|(go_at_call 107;refine(uH O _ ((uH Z).below (And.left (by assumption)))).mono ?_;rintro e w1 ⟨rfl,D⟩;have ae:Below l.heap.size l w1:=Below.trans (And.left (by assumption)) (D.mono (Below.size (And.left (by assumption))));clear D))
 go_wp2
 go_ret
 exact⟨aM (a8 _ (by omega)),(uH X).trans (Below.mono (And.left (by assumption)) (uH X).size)⟩
def uF(neg:Bool)(n:Nat):Int:=if neg then-1 else if n=0 then 0 else 1
theorem ld(neg:Bool)(z:Option Addr)(l:Nat)(n:Nat)(e:Int)(w:World):
  Calls Tryz.prog 60 #[.agg #[.bool neg,.slice z n l,.int .i64 e]] w fun r w'=>r=.returned (.int .i64 (uF neg n))∧Below w.heap.size w w':=by
 have d:=aa (show uF neg n=if neg then-1 else if n=0 then 0 else 1 from rfl)
 generalize uF neg n=s at*
 have m:Below w.heap.size w (w.alloc (.cells #[.bool neg,.slice z n l,.int .i64 e] 52)):=(Below.refl _ _).alloc (Nat.le_refl _) _
 have t:=aa m
 clear m
 cases neg
 ·rcases(show n=0∨n=1∨2≤n by omega)with rfl|rfl|h
  ·have f:s=0:=by rw[uH d];rfl
   subst f
   clear d
   go_enter Tryz.func60,Tryz.ntmps60
   go_wp2
   go_ret
   exact⟨rfl,uH t⟩
  ·have f:s=1:=by rw[uH d];rfl
   subst f
   clear d
   go_enter Tryz.func60,Tryz.ntmps60
   go_wp2
   go_ret
   exact⟨rfl,uH t⟩
  ·have f:s=1:=by rw[uH d,if_neg (by decide),if_neg (by omega)]
   subst f
   have A:(1:Int)<(n:Int):=by omega
   clear d
   go_enter Tryz.func60,Tryz.ntmps60
   go_wp2
   go_ret
   exact⟨rfl,uH t⟩
 ·have f:s= -1:=by rw[uH d];rfl
  subst f
  clear d
  go_enter Tryz.func60,Tryz.ntmps60
  go_wp2
  go_ret
  exact⟨rfl,uH t⟩
attribute [local go_sem ↓] Go.wp_at_zero Go.wp_at_succ
theorem gX(x k:Int):IntKind.i64.wrap (IntKind.i64.wrap x+k)=IntKind.i64.wrap (x+k):=by
 simp only[IntKind.wrap,IntKind.signed,IntKind.bits]
 simp
 split<;>split<;>split<;>omega
theorem gc(x:Int):wrap64 x=IntKind.i64.wrap x:=by
 simp only[IntKind.wrap,IntKind.signed,IntKind.bits,wrap64]
 simp
 split<;>omega
theorem aR(x:Int)(h:-9223372036854775808≤x∧x≤9223372036854775807):IntKind.i64.wrap x=x:=by
 simp only[IntKind.wrap,IntKind.signed,IntKind.bits]
 simp
 omega
theorem d8(x e:Int)(j:Nat)(d:j<18446744073709551616)(h:x=IntKind.i64.wrap (e+j)):((x-e)%18446744073709551616).toNat=j:=by
 subst h
 simp only[IntKind.wrap,IntKind.signed,IntKind.bits]
 simp
 split<;>omega
theorem Gu(x:Int):sg (decide (x<0)) x.natAbs=x:=by
 unfold sg
 by_cases h:x<0
 ·rw[decide_eq_true h];simp;omega
 ·rw[decide_eq_false h];simp;omega
def xD(w wr:World)(z:Int)(j:Nat)(nn:Bool)(a:Option Addr)(c:Nat)(L:List Nat):Prop:=
 aC wr w.heap.size (.bool nn) (.slice a L.length c)∧aB wr (w.heap.size+1) (.bool false) (.slice none 0 0) (.int .i64 0)∧ag wr a c L∧bN L∧L≠ []∧L.length≤30000∧sg nn (ak L)*2^j=z∧Below w.heap.size w wr
theorem xD.step{w f:World}{z x:Int}{A H l:Bool}{K m:Option Addr}{L N t v M B j:Nat}{d:List Nat}
  (D:aC f w.heap.size (.bool H) (.slice K L N)) (O:aB f (w.heap.size+1) (.bool false) (.slice none 0 0) (.int .i64 0))
  (i:ag f m t d∧bG B m d∧bN d∧l=decide (x<0)∧ak d=x.natAbs∧d.length≤M) (F:x=sg A v) (Z:v≠0) (Q:sg A v*2^j=z) (hl:M≤30000) (h:Below w.heap.size w f):
  xD w ((f.setCell ⟨w.heap.size,0,none⟩ (.bool l)).setCell ⟨w.heap.size,1,none⟩ (.slice m d.length t)) z j l m t d:=by
 obtain⟨V,i2,X,Y,G,i6⟩:=i
 have U:sg l (ak d)=x:=by rw[Y,G,Gu]
 refine⟨D.put _ _,(O.other (by simp) _).other (by simp) _,V.box D _ _,X,?_,by omega,?_,(h.setCell (by simp) _).setCell (by simp) _⟩
 ·rintro rfl
  simp[ak]at G
  have:x.natAbs=v:=by rw[F,ji]
  omega
 ·rw[U,F];exact Q
theorem xD.tzs{w wr:World}{z:Int}{j:Nat}{d:Bool}{a:Option Addr}{c:Nat}{L:List Nat}(h:xD w wr z j d a c L):ak L≠0∧tz z.natAbs=j+tz (ak L):=by
 obtain⟨A,D,F,l,m,G,t,H⟩:=h
 have f:ak L≠0:=fun e=>m ((aK L l).1 e)
 refine⟨f,?_⟩
 rw[←zJ (ak L) j (by omega),←t,Int.natAbs_mul,ji,Int.natAbs_pow,Nat.mul_comm]
 rfl
theorem xD.last{w wr:World}{z:Int}{j:Nat}{d:Bool}{a:Option Addr}{c:Nat}{L:List Nat}(h:xD w wr z j d a c L)(G:ak L%2=1):au 0 wr (.agg #[.bool d,.slice a L.length c]) (oM z)∧j=tz z.natAbs:=by
 obtain⟨H,K,f,m,t,M,A,N⟩:=h
 have l:iN z (sg d (ak L)) j:=⟨A.symm,by unfold sg;cases d<;>simp<;>omega⟩
 obtain⟨O,D,F⟩:=l.eq
 rw[←D,←dC]
 exact⟨au.mk f (bG.zero f) m t (by omega),F⟩
theorem xG(L:List Nat)(d:bd L):ak L%4294967296=L[0]?.getD 0:=by
 cases L with
 |nil=>rfl
 |cons x r=>
  have:=d x (by simp)
  simp[ak]
  omega
theorem xD.down{w wr:World}{z:Int}{j:Nat}{d:Bool}{a:Option Addr}{c:Nat}{L:List Nat}(h:xD w wr z j d a c L)(k:Nat)(D:ak L%2^k=0):ak L/2^k≠0∧sg d (ak L/2^k)*2^(j+k)=z∧j+k≤tz z.natAbs:=by
 obtain⟨m,t⟩:=h.tzs
 obtain⟨F,G,H,K,M,N,A,O⟩:=h
 have f:ak L=2^k*(ak L/2^k):=by have:=Nat.div_add_mod (ak L) (2^k);omega
 have l:ak L/2^k≠0:=fun e=>m (by rw[f,e];simp)
 refine⟨l,?_,?_⟩
 ·rw[←A]
  conv=>rhs;rw[f]
  generalize ak L/2^k=q
  have e:sg d (2^k*q)=sg d q*2^k:=by
   unfold sg
   cases d
   ·simp only[Bool.false_eq_true,if_false];push_cast;rw[Int.mul_comm]
   ·simp only[if_true];push_cast;rw[Int.neg_mul,Int.mul_comm]
  rw[e,Nat.add_comm,Int.pow_add,Int.mul_assoc]
 ·rw[t]
  have e:tz (ak L)=k+tz (ak L/2^k):=by
   conv=>lhs;rw[f]
   exact zJ _ _ (Nat.pos_of_ne_zero l)
  omega
theorem zZ(na:Bool)(ao:Option Addr)(ca:Nat)(A:List Nat)(e:Int)(w:World)(hA:ag w ao ca A)(h0:A≠ [])(hc:bN A)(la:A.length≤20000)(be:-9223372036854775808≤e∧e≤9223372036854775807):
  Calls Tryz.prog 55 #[.agg #[.bool na,.slice ao A.length ca],.int .i64 e] w fun r w'=>∃v,r=.returned v∧aG w' v (oM (af na A)) (IntKind.i64.wrap (e+tz (af na A).natAbs))∧Below w.heap.size w w':=by
 obtain⟨i0,hi,bj,bm,bn⟩:=info_parts Tryz.info124
 have HZ:=aa (dC na A).symm
 have hT:tz (af na A).natAbs<18446744073709551616:=by
  rw[aP]
  have hv:ak A≠0:=fun e=>h0 ((aK A hc).1 e)
  have h1:=eh A hA.2.1
  rw[show(4294967296:Nat)=2^32 by decide,←Nat.pow_mul]at h1
  have:=lY (ak A) _ (by omega) h1
  omega
 generalize af na A=z at*
 obtain⟨T,a0⟩:∃T,T=tz z.natAbs:=⟨_,rfl⟩
 have aj:=aa a0
 rw[←a0]at hT⊢
 have HM:=aa (show oM z=oM z from rfl)
 have am:=aa h0;have HC:=aa hc
 clear h0 hc a0
 have hp:0<A.length:=List.length_pos_iff.2 (uH am)
 have ax:((A.length:Int)==0)=false:=by rw[beq_eq_false_iff_ne];omega
 go_enter Tryz.func55,Tryz.ntmps55
 go_wp2
 clear HM
 go_loopw[1] (fun i wr=>∃(x:Int) (j:Nat) (M:Bool) (a:Option Addr) (c:Nat) (L:List Nat),i=.int .i64 x∧j≤T∧Hid (x=IntKind.i64.wrap (e+j))∧Hid (xD w wr z j M a c L)) (fun i _=>T-((intOf i-e)%18446744073709551616).toNat)
 case atStart=>
  refine⟨e,0,na,ao,ca,A,rfl,Nat.zero_le _,?_,(aC.new _ _ _).old _,?_,hA.below (((Below.refl _ _).alloc (Nat.le_refl _) _).alloc (by simp) _),uH HC,uH am,by omega,by rw[uH HZ];simp,((Below.refl _ _).alloc (Nat.le_refl _) _).alloc (by simp) _⟩
  ·unfold Hid;rw[aR _ (by omega)];omega
  ·have:=aB.new (w.alloc (.cells #[.bool na,.slice ao A.length ca] 50)) (.bool false) (.slice none 0 0) (.int .i64 0)
   simpa using this
 case round=>
  obtain⟨x,j,M,a,c,L,rfl,hj,X,V⟩:=hrel
  clear HZ HC am hA la hp ax
  obtain⟨G,H,Y,hC,hS,t,hz,D⟩:=uH V
  have hp:0<L.length:=List.length_pos_iff.2 hS
  have ax:(0:Int)<(L.length:Int):=by omega
  have p0:=G.c0;have p1:=G.c1
  have a3:=Y.1
  obtain⟨b,a5,rfl,hb,a1⟩:=Y.ne hp
  have aI:=a1 0 hp
  rw[Nat.add_zero]at aI
  have K:=xG L Y.2.1
  have a6:=Y.lt 0
  by_cases hg:L[0]?.getD 0=0
  ·rw[hg]at aI K
   obtain⟨d1,d2,d3⟩:=(uH V).down 32 K
   rw[←uH aj]at d3
   have Z:=aa d1;have ae:=aa d2
   have f:=aa D;have O:=aa G;have N:=aa H;have l:=aa t;have F:=aa (Y.below ((Below.refl _ _).drew))
   clear hz G H Y hC hS D V t a1 K hg d1 d2 a6
   go_wp2
   have bb:(1:Int)≤(L.length:Int):=by omega
   have bc:(L.length:Int)≤(c:Int):=by omega
   have bi:(1:Int)≤(c:Int):=by omega
   by_cases a7:c=1
   ·subst a7
    go_region_with (go_at_call 95;refine(nm M b a5 L _ (uH F)).mono ?_;rintro e w2 ⟨v,rfl,⟨n2,a2,c2,L2,rfl,i1⟩,d⟩;have I1:=aa i1;have m:=(uH O).drew.below d (uH O).drew.lt;have Z1:=(uH N).drew.below d (uH N).drew.lt;have r0:=m.c0;have r1:=m.c1;have f0:=m.free 0;have f1:=m.free 1;have B2:=aa (((uH f).drew).trans (d.mono ((uH f).drew).size));have Q:=aa m;have U:=aa Z1;clear i1 d m Z1)
    all_goals
     go_wp2
     go_roundw
     case rel=>exact⟨_,j+32,n2,a2,c2,L2,rfl,d3,aa (by rw[gc,uH X,gX];congr 1;omega),xD.step (v:=ak L/4294967296) (uH Q) (uH U) (uH I1) rfl (uH Z) (uH ae) (by have:=uH l;omega) (uH B2)⟩
     case measure=>rw[gc,uH X,gX];simp only[intOf];rw[d8 _ e j (by omega) rfl,d8 _ e (j+32) (by omega) (by congr 1;omega)];omega
   ·have ba:¬(c:Int)=1:=by omega
    go_region_with (go_at_call 95;refine(pJ M b a5 c L _ (uH F) (by have:=uH l;omega)).mono ?_;rintro e w2 ⟨v,rfl,⟨n2,a2,c2,L2,rfl,i1⟩,d⟩;have I1:=aa i1;have m:=(uH O).drew.below d (uH O).drew.lt;have Z1:=(uH N).drew.below d (uH N).drew.lt;have r0:=m.c0;have r1:=m.c1;have f0:=m.free 0;have f1:=m.free 1;have B2:=aa (((uH f).drew).trans (d.mono ((uH f).drew).size));have Q:=aa m;have U:=aa Z1;clear i1 d m Z1)
    all_goals
     go_wp2
     go_roundw
     case rel=>exact⟨_,j+32,n2,a2,c2,L2,rfl,d3,aa (by rw[gc,uH X,gX];congr 1;omega),xD.step (v:=ak L/4294967296) (uH Q) (uH U) (uH I1) rfl (uH Z) (uH ae) (by have:=uH l;omega) (uH B2)⟩
     case measure=>rw[gc,uH X,gX];simp only[intOf];rw[d8 _ e j (by omega) rfl,d8 _ e (j+32) (by omega) (by congr 1;omega)];omega
  ·have a9:(((L[0]?.getD 0:Nat):Int)==0)=false:=by rw[beq_eq_false_iff_ne];omega
   generalize L[0]?.getD 0=y at*
   have HI:=V
   clear V G H Y hC hS t hz D a1 K hg
   go_wp2
   go_loopw[1] (fun i wr=>∃(x:Int) (j:Nat) (M:Bool) (a:Option Addr) (c:Nat) (L:List Nat),i=.int .i64 x∧j≤T∧Hid (x=IntKind.i64.wrap (e+j))∧Hid (xD w wr z j M a c L)) (fun i _=>T-((intOf i-e)%18446744073709551616).toNat)
   case atStart=>exact⟨x,j,M,_,c,L,rfl,hj,X,HI⟩
   case round=>
    clear HI p0 p1 ax hp a9 aI hj X hb a3
    obtain⟨x,j,M,a,c,L,rfl,hj,X,V⟩:=hrel
    obtain⟨G,H,Y,hC,hS,t,hz,D⟩:=uH V
    have p0:=G.c0;have p1:=G.c1
    have O:=aa G;have N:=aa H;have f:=aa D;have l:=aa t;have F:=aa Y
    clear G H Y hC hS t hz D
    go_wp2_with fail
    refine(Ec M a c L wr (uH F)).mono ?_
    by_cases ho:ak L%2=1
    ·rw[decide_eq_true ho]
     rintro r w3 ⟨rfl,h⟩
     obtain⟨l1,l2⟩:=(uH V).last ho
     have L1:=aa (l1.below h);have L2:=aa l2
     have G:=(uH O).all h;have H:=(uH N).all h
     have b1:=(uH f).trans (h.mono (uH f).size)
     clear V l1 l2 h ho p0 p1 O N f F
     have p0:=G.c0;have p1:=G.c1
     have y0:=H.c0;have y1:=H.c1;have y2:=H.c2;have f0:=H.free 0;have f1:=H.free 1;have f2:=H.free 2
     have N:=aa H;have B1:=aa b1
     clear G H b1
     go_wp2
     have e1:IntKind.i64.wrap (e+(T:Int))=x:=by rw[uH X,uH aj,←uH L2]
     rw[e1]
     have j2:aG w3 (.agg #[.bool M,.slice a L.length c,.int .i64 x]) (oM z) x:=⟨M,a,c,L,rfl,uH L1⟩
     refine bodyPost_ret (v:=.agg #[.bool M,.slice a L.length c,.int .i64 x]) (by simp[results,Tryz.results55,go_sem,y0,y1,y2]) rfl ⟨_,rfl,j2.put3 (uH N) _ _ _,aD (uH B1) (by omega) _ _ _⟩
    ·rw[decide_eq_false ho]
     rintro r w3 ⟨rfl,h⟩
     obtain⟨d1,d2,d3⟩:=(uH V).down 1 (by simp;omega)
     rw[←uH aj]at d3
     rw[Nat.pow_one]at d1 d2
     have Z:=aa d1;have ae:=aa d2
     have G:=(uH O).all h;have H:=(uH N).all h
     have b1:=(uH f).trans (h.mono (uH f).size)
     have a4:=(uH F).below h
     clear V d1 d2 h ho p0 p1 O N f F
     have p0:=G.c0;have p1:=G.c1
     have O:=aa G;have N:=aa H;have B1:=aa b1;have F:=aa a4
     clear G H b1 a4
     go_wp2_with fail
     refine(rX M a c L w3 (uH F) (by have:=uH l;omega)).mono ?_
     rintro r w2 ⟨v,rfl,⟨n2,a2,c2,L2,rfl,i1⟩,d⟩
     have I1:=aa i1
     have m:=(uH O).all d
     have Z1:=(uH N).all d
     have r0:=m.c0;have r1:=m.c1;have f0:=m.free 0;have f1:=m.free 1
     have B2:=aa ((uH B1).trans (d.mono (uH B1).size))
     have Q:=aa m;have U:=aa Z1
     clear i1 d m Z1
     go_wp2
     go_roundw
     case rel=>exact⟨_,j+1,n2,a2,c2,L2,rfl,d3,aa (by rw[gc,uH X,gX];congr 1;omega),xD.step (v:=ak L/2) (uH Q) (uH U) (uH I1) rfl (uH Z) (uH ae) (by have:=uH l;omega) (uH B2)⟩
     case measure=>rw[gc,uH X,gX];simp only[intOf];rw[d8 _ e j (by omega) rfl,d8 _ e (j+1) (by omega) (by congr 1;omega)];omega
theorem Aa(d:Bool)(f:Option Addr)(h:Nat)(e:Int)(w:World):
  Calls Tryz.prog 55 #[.agg #[.bool d,.slice f 0 h],.int .i64 e] w fun r w'=>∃v,r=.returned v∧aG w' v 0 0∧Below w.heap.size w w':=by
 go_enter Tryz.func55,Tryz.ntmps55
 go_wp2
 refine bodyPost_ret (v:=.agg #[.bool false,.slice none 0 0,.int .i64 0]) (by simp[results,Tryz.results55,go_sem]) rfl ⟨_,rfl,aG.zero _ _ _,?_⟩
 exact((Below.refl w.heap.size w).alloc (Nat.le_refl _) _).alloc (by simp) _
theorem Ed{M B:Nat}{w:World}{v:Value}{z:Int}(e:Int)(F:aE M B w v z)(O:M≤20000)(G:-9223372036854775808≤e∧e≤9223372036854775807):
  Calls Tryz.prog 55 #[v,.int .i64 e] w fun r w'=>∃u,r=.returned u∧aG w' u (oM z) (if z=0 then 0 else IntKind.i64.wrap (e+tz z.natAbs))∧Below w.heap.size w w':=by
 obtain⟨h,l,m,A,rfl,L,Q,t,N,D,U⟩:=F
 have d:=jP N D
 by_cases f:A= []
 ·subst f
  rw[gT]at d
  subst d
  rw[if_pos rfl,show oM 0=0 by simp[oM]]
  exact Aa h l m e w
 ·have K:z≠0:=fun H=>f ((aK A t).1 (by rw[D,H];rfl))
  rw[if_neg K,←d]
  exact zZ h l m A e w L f t (by omega) G
theorem gY{M B:Nat}{w:World}{v:Value}{z:Int}(e:Int)(f:aE M B w v z)(l:M≤20000)(t:-1000000≤e∧e≤1000000):
  Calls Tryz.prog 55 #[v,.int .i64 e] w fun r w'=>∃u,r=.returned u∧aG w' u (oM z) (oE z e)∧Below w.heap.size w w':=by
 have d:=Ed e f l (by omega)
 have:(if z=0 then 0 else IntKind.i64.wrap (e+tz z.natAbs))=oE z e:=by
  unfold oE
  split
  ·rfl
  ·rename_i Q
   have D:tz z.natAbs<32*20000:=by
    obtain⟨F,G,H,A,rfl,m,K,L,N,h,O⟩:=f
    rw[←h]
    have f:ak A≠0:=by rw[h];omega
    have d:=eh A m.2.1
    rw[show(4294967296:Nat)=2^32 by decide,←Nat.pow_mul]at d
    have:=lY (ak A) _ (by omega) d
    omega
   exact a8 _ (by omega)
 rwa[this]at d
end Go.Proofs.YtnnfjeieennffaaGreatDoor
