/- Part 11 of the texts. -/
import Derived.Test.YtlnphkioddknfaaGreatDoorParty10
import Derived.Shelf.Spec.TrailingZeros
set_option maxHeartbeats 4000000
set_option maxRecDepth 20000
namespace Go.Proofs.YtlnphkioddknfaaGreatDoor
open Go.RowKit
def b7(w:World):Prop:=TabAt 1 Lib.deBruijn32tab w
theorem b7.below{w d:World}{B:Nat}(h:b7 w)(f:Below B w d)(l:1<B):b7 d:=fun j m=>by
 rw[f.cell (p:=⟨1,j,none⟩) l]
 exact h j m
theorem b7.pos{w:World}(h:b7 w):1<w.heap.size:=World.block_lt_of_cell? w _ (h 0 (by decide))
theorem b7.all{w d:World}(h:b7 w)(f:Below w.heap.size w d):b7 d:=h.below f h.pos
theorem xO(x k d:Nat)(w:World)(l:((x:Int)==0)=false)
  (f:bits BinOp.and IntKind.u32 (x:Int) (-(x:Int)%4294967296)*125613361%4294967296/134217728=(d:Int))
  (t:d<32) (y:k<32) (h:w.cell? ⟨1,d,none⟩=some (.int .u8 k)):
  Calls Tryz.prog 268 #[.int .u32 x] w fun e m=>e=.returned (.int .i64 k)∧w=m:=by
 go_enter Tryz.func268,Tryz.ntmps268
 go_wp2_with(simp only[f])
 go_ret
 exact⟨rfl,rfl⟩
theorem As(x:Nat)(w:World)(m:x<4294967296)(z:b7 w):
  Calls Tryz.prog 268 #[.int .u32 x] w fun e A=>e=.returned (.int .i64 (Lib.ctz 32 x))∧w=A:=by
 by_cases f:x=0
 ·subst f
  go_enter Tryz.func268,Tryz.ntmps268
  go_wp2
  go_ret
  exact⟨rfl,rfl⟩
 ·obtain⟨h,t⟩:=Lib.lowest_bit 32 x f m
  obtain⟨y,l⟩:=Lib.deBruijn32_at _ t
  have d:=z _ y
  rw[l]at d
  exact xO x _ _ w (by simp;omega) (tz32_key x _ m f h) y t d
theorem dc(n m:Int)(w:World)(A:0≤m)(y:m≤100000):
  Calls Tryz.prog 232 #[.int .i64 n,.int .i64 m] w fun e z=>e=.returned (.bool (decide (-m≤n∧n≤m)))∧w=z:=by
 have D:IntKind.i64.wrap (-m)= -m:=by
  simp only[IntKind.wrap,IntKind.signed,IntKind.bits]
  simp
  omega
 by_cases d:-m≤n
 ·by_cases f:n≤m
  ·go_enter Tryz.func232,Tryz.ntmps232
   go_wp2
   go_ret
   exact⟨ja (by simp[d,f]),rfl⟩
  ·go_enter Tryz.func232,Tryz.ntmps232
   go_wp2
   go_ret
   exact⟨ja (by simp[f]),rfl⟩
 ·have l:¬(-m≤n∧n≤m):=fun h=>d h.1
  have t:=aa (decide_eq_false l)
  rw[uH t]
  clear l t
  go_enter Tryz.func232,Tryz.ntmps232
  go_wp2
  go_ret
  exact⟨rfl,rfl⟩
theorem de(neg:Bool)(ao:Option Addr)(cap:Nat)(n:Nat)(w:World):
  Calls Tryz.prog 251 #[.agg #[.bool neg,.slice ao n cap]] w fun e f=>e=.returned (.bool (decide (n=0)))∧Below w.heap.size w f:=by
 by_cases d:n=0
 ·subst d
  go_enter Tryz.func251,Tryz.ntmps251
  go_wp2
  go_ret
  exact⟨rfl,(Below.refl _ _).alloc (Nat.le_refl _) _⟩
 ·have h:((n:Int)==0)=false:=by simp;omega
  have H:=aa (decide_eq_false d)
  clear d
  go_enter Tryz.func251,Tryz.ntmps251
  go_wp2
  go_ret
  exact⟨ja (uH H).symm,(Below.refl _ _).alloc (Nat.le_refl _) _⟩
def gS(neg:Bool)(n:Nat):Int:=if n=0 then 0 else if neg then-1 else 1
def eW(v:Nat):Int:=if v=0 then 0 else(tz v:Int)
theorem kv(v:Nat)(h:v≠0):eW v=tz v:=by unfold eW;rw[if_neg h]
theorem kw(neg:Bool)(ao:Option Addr)(cap:Nat)(L:List Nat)(w:World)(h:ag w ao cap L)(hl:L.length≤1073741824)(hT:b7 w):
  Calls Tryz.prog 250 #[.agg #[.bool neg,.slice ao L.length cap]] w fun e M=>e=.returned (.int .i64 (eW (an L)))∧Below w.heap.size w M:=by
 by_cases m:L= []
 ·subst m
  go_enter Tryz.func250,Tryz.ntmps250
  go_wp2
  refine wp_loop_rounds 1 ?_
  rw[rounds_succ]
  go_wp2
  go_ret
  exact⟨rfl,(Below.refl _ _).alloc (Nat.le_refl _) _⟩
 obtain⟨b,l,rfl,hb,hc⟩:=h.ne (List.length_pos_iff.2 m)
 have ae:=h.1
 have d:Below w.heap.size w (w.alloc (.cells #[.bool neg,.slice (some ⟨b,l,none⟩) L.length cap] 45)):=(Below.refl _ _).alloc (Nat.le_refl _) _
 have t:∀i,i<L.length→(w.alloc (.cells #[.bool neg,.slice (some ⟨b,l,none⟩) L.length cap] 45)).cell? ⟨b,l+i,none⟩=some (.int .u32 ((L[i]?.getD 0:Nat):Int)):=fun i hi=>by
  rw[d.cell (p:=⟨b,l+i,none⟩) hb];exact hc i hi
 have N:=hT.all d
 have O:=aa (fun k x=>Af L k x)
 have Q:=aa (fun h:an L=0=>(show eW (an L)=0 by rw[h];rfl))
 have K:=aa (fun h=>kv (an L) h)
 have U:=aa (fun i=>h.lt i)
 have V:=aa (fun k (hk:L.length≤k)=>dl L k hk)
 have X:=aa (fun k=>aH L k)
 have H:=aa d
 clear hT hc h hb m d
 generalize eW (an L)=z at*
 go_enter Tryz.func250,Tryz.ntmps250
 go_wp2
 go_loop [3,9] (fun c i=>∃k:Nat,k≤L.length∧i=.int .i64 k∧c=.int .i64 (32*(k:Int))∧Hid (an (L.take k)=0)) (fun _ i=>L.length-(intOf i).toNat)
 case atStart=>exact⟨0,Nat.zero_le _,rfl,rfl,by unfold Hid;simp[an]⟩
 case round=>
  obtain⟨k,hk,rfl,rfl,G⟩:=hrel
  by_cases Y:k<L.length
  ·have aj:=t k Y
   clear t
   have Z:=uH U k
   have y:=aa (uH X k)
   have A:=aa (fun F=>uH O k _ G.out rfl F Z)
   clear O Q X U V
   generalize L[k]?.getD 0=x at*
   have TZ:=aa (As x _ Z N)
   have I:(Lib.ctz 32 x:Int)≤32∧(0:Int)≤Lib.ctz 32 x:=by
    by_cases F:x=0
    ·subst F;decide
    ·have:=(Lib.lowest_bit 32 x F (by omega)).2
     omega
   have D:=aa (fun F=>GD x F Z)
   have e0:x=0→Lib.ctz 32 x=32:=fun h=>by subst h;rfl
   generalize Lib.ctz 32 x=c at*
   obtain⟨c1,c2⟩:=I
   by_cases f:x=0
   ·have ec:=e0 f
    subst f;subst ec
    have HN:Hid (an (L.take (k+1))=0):=by unfold Hid;rw[uH y,G.out];simp
    clear A y G D e0 K
    go_wp2_with(go_at_call 268;refine(uH TZ).mono ?_;rintro e M ⟨rfl,rfl⟩)
    go_round
    case rel=>exact⟨k+1,by omega,by go_num,cN (by omega),HN⟩
    case measure=>simp[intOf];omega
   ·have hr:=uH A f
    have HE:=aa (show z=32*(k:Int)+(c:Int) by rw[uH K hr.1,hr.2,uH D f];omega)
    have ak:((x:Int) != 0)=true:=by rw[bne_iff_ne];omega
    clear A y G D e0 K hr
    go_wp2_with(go_at_call 268;refine(uH TZ).mono ?_;rintro e M ⟨rfl,rfl⟩)
    go_ret
    exact⟨aQ (uH HE).symm,uH H⟩
  ·have hz:=uH Q (by rw[←uH V k (by omega)];exact G.out)
   subst hz
   clear O Q K U V X G t
   go_wp2
   go_ret
   exact⟨rfl,uH H⟩
def az(w:World)(b:Nat)(x y z:Value):Prop:=w.heap[b]? =some (.cells #[x,y,z] 47 (0,0))
theorem az.c0{w:World}{b:Nat}{x y z:Value}(h:az w b x y z):w.cell? ⟨b,0,none⟩=some x:=by rw[cell_of_row w b 0 _ _ _ h];rfl
theorem az.c1{w:World}{b:Nat}{x y z:Value}(h:az w b x y z):w.cell? ⟨b,1,none⟩=some y:=by rw[cell_of_row w b 1 _ _ _ h];rfl
theorem az.c2{w:World}{b:Nat}{x y z:Value}(h:az w b x y z):w.cell? ⟨b,2,none⟩=some z:=by rw[cell_of_row w b 2 _ _ _ h];rfl
theorem az.free{w:World}{b:Nat}{x y z:Value}(h:az w b x y z)(j:Nat):w.frozen? ⟨b,j,none⟩=false:=frozen_of_row w b j _ _ h
theorem az.lt{w:World}{b:Nat}{x y z:Value}(h:az w b x y z):b<w.heap.size:=(Array.getElem?_eq_some_iff.1 h).1
theorem az.below{w f:World}{b:Nat}{x y z:Value}(h:az w b x y z){B:Nat}(l:Below B w f)(d:b<B):az f b x y z:=(l.block b d).trans h
theorem az.new(w:World)(x y z:Value):az (w.alloc (.cells #[x,y,z] 47)) w.heap.size x y z:=heap_alloc_new w _
theorem az.old{w:World}{b:Nat}{x y z:Value}(h:az w b x y z)(o:Obj):az (w.alloc o) b x y z:=by
 unfold az;rw[Below.heap_alloc w o b h.lt];exact h
theorem az.all{w d:World}{b:Nat}{x y z:Value}(h:az w b x y z)(f:Below w.heap.size w d):az d b x y z:=h.below f h.lt
theorem aA.all{w d:World}{b:Nat}{x y:Value}(h:aA w b x y)(f:Below w.heap.size w d):aA d b x y:=h.below f h.lt
theorem az.drew{w:World}{b:Nat}{x y z:Value}(h:az w b x y z):az w.drew b x y z:=h
theorem az.other{w:World}{b:Nat}{x y z:Value}(h:az w b x y z){p:Addr}(d:b≠p.block)(u:Value):az (w.setCell p u) b x y z:=(Below.heap_setCell w p u b d).trans h
theorem aD{w f:World}{B b:Nat}(h:Below B w f)(d:B≤b)(u u' u'':Value):Below B w (((f.setCell ⟨b,0,none⟩ u).setCell ⟨b,1,none⟩ u').setCell ⟨b,2,none⟩ u''):=
 ((h.setCell d _).setCell d _).setCell d _
theorem ag.box3{w:World}{ao:Option Addr}{cap g:Nat}{L:List Nat}(h:ag w ao cap L){x:Bool}{a:Option Addr}{n c:Nat}{e:Int}(y:az w g (.bool x) (.slice a n c) (.int .i64 e))(u u' u'':Value):
  ag (((w.setCell ⟨g,0,none⟩ u).setCell ⟨g,1,none⟩ u').setCell ⟨g,2,none⟩ u'') ao cap L:=by
 refine⟨h.1,h.2.1,?_⟩
 rcases h.2.2 with D|⟨b,d,F,G,t⟩
 ·exact .inl D
 ·by_cases m:L= []
  ·exact .inl m
  ·have A:0<L.length:=List.length_pos_iff.2 m
   have f:b≠g:=by
    rintro rfl
    have l:=t 0 A
    rw[cell_of_row w b (d+0) _ _ _ y]at l
    rcases(show d=0∨d=1∨d=2∨3≤d by omega)with e|e|e|e
    ·subst e;simp at l
    ·subst e;simp at l
    ·subst e;simp at l
    ·rw[Array.getElem?_eq_none (by simp;omega)]at l;simp at l
   refine .inr ⟨b,d,F,by simpa[World.setCell]using G,fun i z=>?_⟩
   rw[ap _ _ _ _ (by simpa using f),ap _ _ _ _ (by simpa using f),ap _ _ _ _ (by simpa using f)]
   exact t i z
def kn(neg:Bool)(L:List Nat)(e:Int):Bool:=av neg L&&(if L.length=0 then decide (e=0)else(decide (an L%2=1)&&decide (-16384≤e∧e≤16384)))
def m7(neg:Bool)(L:List Nat)(e:Int):Int:=if kn neg L e then 0 else 1
theorem At(v:Nat)(h:v≠0):0<eW v↔v%2=0:=by
 rw[kv v h]
 obtain⟨m,d⟩:=iF v (by omega)
 constructor
 ·intro l
  obtain⟨k,f⟩:∃k,tz v=k+1:=⟨tz v-1,by omega⟩
  rw[f,Nat.pow_succ,Nat.mul_assoc,Nat.mul_left_comm]at d
  omega
 ·intro l
  rcases Nat.eq_zero_or_pos (tz v)with e|e
  ·rw[e]at d;simp at d;omega
  ·omega
theorem wH(v:Nat)(h:v<dy):0≤eW v∧eW v<16384:=by
 by_cases d:v=0
 ·subst d;decide
 ·rw[kv v d]
  have e:dy=2^(32*k9):=by
   unfold dy
   rw[show(4294967296:Nat)=2^32 by decide,←Nat.pow_mul]
  rw[e]at h
  have:=lU v (32*k9) (by omega) h
  have f:32*k9=16384:=rfl
  omega
theorem iI(neg:Bool)(ao:Option Addr)(cap:Nat)(L:List Nat)(e:Int)(w:World)(h:ag w ao cap L)(hl:L.length≤35184372088830)(Q:b7 w):
  Calls Tryz.prog 231 #[.agg #[.bool neg,.slice ao L.length cap,.int .i64 e]] w fun r M=>r=.returned (.int .i64 (m7 neg L e))∧Below w.heap.size w M:=by
 have HC:=aa (fun M G=>dW neg ao cap L M G hl)
 have V:=aa (show av neg L=false→m7 neg L e=1 from fun h=>by simp[m7,kn,h])
 have H:=aa (show¬(-16384≤e∧e≤16384)→m7 neg L e=1 from fun h=>by
  unfold m7 kn
  by_cases f:L.length=0
  ·rw[if_pos f,decide_eq_false (show¬e=0 by omega)];simp
  ·rw[if_neg f,decide_eq_false h];simp)
 have I:=aa (show L.length=0→e≠0→m7 neg L e=1 from fun f h=>by
  unfold m7 kn
  rw[if_pos f,decide_eq_false h];simp)
 have X:=aa (show av neg L=true→L.length=0→e=0→m7 neg L e=0∧eW (an L)=0 from fun h f G=>by
  unfold m7 kn
  rw[if_pos f,decide_eq_true G,h]
  have:L= []:=List.length_eq_zero_iff.1 f
  subst this
  exact⟨by simp,rfl⟩)
 have Y:=aa (show av neg L=true→L.length≠0→(-16384≤e∧e≤16384)→m7 neg L e=if 0<eW (an L)then 1 else 0 from fun h f G=>by
  have hv:an L≠0:=fun e=>f (by rw[(aL L (ay h).2.1).1 e];rfl)
  unfold m7 kn
  rw[if_neg f,decide_eq_true G,h]
  have:=At _ hv
  by_cases h1:an L%2=1
  ·rw[decide_eq_true h1,if_neg (show¬0<eW (an L) by omega)];simp
  ·rw[decide_eq_false h1,if_pos (show 0<eW (an L) by omega)];simp)
 have Z:=aa (show av neg L=true→L.length≤512 from fun h=>(ay h).1)
 have HE:=aa (show ep neg L=if av neg L then 0 else 1 from rfl)
 have K:=aa (fun M G U t=>kw neg ao cap L M G U t)
 generalize m7 neg L e=er at*
 generalize ep neg L=ce at*
 generalize eW (an L)=lz at*
 generalize av neg L=rb at*
 have F:Below w.heap.size w (w.alloc (.cells #[.bool neg,.slice ao L.length cap,.int .i64 e] 47)):=(Below.refl _ _).alloc (Nat.le_refl _) _
 have y:=az.new w (.bool neg) (.slice ao L.length cap) (.int .i64 e)
 go_enter Tryz.func231,Tryz.ntmps231
 go_wp2_with fail
 refine(uH HC _ (h.below F)).mono ?_
 rintro r w1 ⟨rfl,d⟩
 replace y:=y.all d
 have m:=F.trans (d.mono F.size)
 rw[uH HE]
 clear d HE HC F
 have p0:=y.c0;have p1:=y.c1;have p2:=y.c2
 cases rb
 ·have D:=uH V rfl
  subst D
  simp only[Bool.false_eq_true,if_false]
  clear V H I X Y Z K y
  go_wp2
  go_ret
  exact⟨rfl,m⟩
 have ae:=uH Z rfl
 have z:=aa (uH X rfl)
 have A:=aa (uH Y rfl)
 clear Z X Y V
 simp only[if_true]
 go_wp2_with fail
 refine(dc e 16384 _ (by decide) (by decide)).mono ?_
 rintro r w2 ⟨rfl,rfl⟩
 by_cases l:-16384≤e∧e≤16384
 case neg=>
  have D:=uH H l
  subst D
  rw[decide_eq_false l]
  clear H I z A ae K y l
  go_wp2
  go_ret
  exact⟨rfl,m⟩
 rw[decide_eq_true l]
 go_wp2_with fail
 refine(de neg ao cap L.length _).mono ?_
 rintro r w3 ⟨rfl,d⟩
 replace y:=y.all d
 replace m:=m.trans (d.mono m.size)
 clear d p0 p1 p2
 have p0:=y.c0;have p1:=y.c1;have p2:=y.c2
 by_cases f:L.length=0
 ·rw[decide_eq_true f]
  by_cases N:e=0
  ·obtain⟨D,O⟩:=uH z f N
   subst D
   subst O
   subst N
   clear H I z A y l f
   go_wp2_with fail
   refine(uH K _ (h.below m) (by omega) (Q.all m)).mono ?_
   rintro r w4 ⟨rfl,d⟩
   go_wp2
   go_ret
   exact⟨rfl,m.trans (d.mono m.size)⟩
  ·have D:=uH I f N
   subst D
   have aj:(e != 0)=true:=by simpa using N
   clear H I z A y l K
   go_wp2
   go_ret
   exact⟨rfl,m⟩
 ·have D:=uH A f l
  rw[decide_eq_false f]
  by_cases O:0<lz
  ·rw[if_pos O]at D
   subst D
   clear H I z A y l f
   go_wp2_with fail
   refine(uH K _ (h.below m) (by omega) (Q.all m)).mono ?_
   rintro r w4 ⟨rfl,d⟩
   go_wp2
   go_ret
   exact⟨rfl,m.trans (d.mono m.size)⟩
  ·rw[if_neg O]at D
   subst D
   clear H I z A y l f
   go_wp2_with fail
   refine(uH K _ (h.below m) (by omega) (Q.all m)).mono ?_
   rintro r w4 ⟨rfl,d⟩
   go_wp2
   go_ret
   exact⟨rfl,m.trans (d.mono m.size)⟩
def aG(w:World)(v:Value)(m e:Int):Prop:=
 ∃(neg:Bool) (ao:Option Addr) (cap:Nat) (L:List Nat),v=.agg #[.bool neg,.slice ao L.length cap,.int .i64 e]∧aw 0 w (.agg #[.bool neg,.slice ao L.length cap]) m
theorem aG.below{w d:World}{v:Value}{m e:Int}(h:aG w v m e)(f:Below w.heap.size w d):aG d v m e:=by
 obtain⟨neg,ao,cap,L,l,t⟩:=h
 exact⟨neg,ao,cap,L,l,t.below f⟩
theorem aG.put3{w:World}{v:Value}{m e:Int}(h:aG w v m e){g:Nat}{x:Bool}{a:Option Addr}{n c:Nat}{k:Int}(d:az w g (.bool x) (.slice a n c) (.int .i64 k))(u u' u'':Value):aG (((w.setCell ⟨g,0,none⟩ u).setCell ⟨g,1,none⟩ u').setCell ⟨g,2,none⟩ u'') v m e:=by
 obtain⟨neg,ao,cap,L,f,l,t,y,z,A,D,F⟩:=h
 exact⟨neg,ao,cap,L,f,l,t,y,z,A,D.box3 d _ _ _,F⟩
theorem aG.zero(w:World)(ao:Option Addr)(cap:Nat):aG w (.agg #[.bool false,.slice ao 0 cap,.int .i64 0]) 0 0:=
 ⟨false,ao,cap,[],rfl,aw.zero _ _ _ _⟩
def lh(z e:Int):Bool:=decide (-32768≤e∧e≤32768)&&(decide (z=0)||decide (-16384≤e+tz z.natAbs∧e+tz z.natAbs≤16384))
def cP(z e:Int):Int:=if lh z e then 0 else 2
def dM(z e:Int):Int:=if lh z e then oM z else 0
def dX(z e:Int):Int:=if lh z e then oE z e else 0
def oU(na:Bool)(A:List Nat)(x:Int)(nb:Bool)(B:List Nat)(y:Int):Int:=if kn na A x&&kn nb B y then 0 else 1
theorem je(d l:Bool)(ao z:Option Addr)(G D:Nat)(A B:List Nat)(x y:Int)(w:World)(V:ag w ao G A)(Y:ag w z D B)(Z:A.length≤35184372088830)(lb:B.length≤35184372088830)(L:b7 w):
  Calls Tryz.prog 264 #[.agg #[.bool d,.slice ao A.length G,.int .i64 x],.agg #[.bool l,.slice z B.length D,.int .i64 y]] w fun r H=>r=.returned (.int .i64 (oU d A x l B y))∧Below w.heap.size w H:=by
 have N:=aa (show kn d A x=false→m7 d A x=1∧oU d A x l B y=1 from fun h=>by simp[m7,oU,h])
 have O:=aa (show kn d A x=true→m7 d A x=0∧oU d A x l B y=m7 l B y from fun h=>by simp[m7,oU,h])
 have Q:=aa (fun H M t=>iI d ao G A x H M Z t)
 have X:=aa (fun H M t=>iI l z D B y H M lb t)
 generalize oU d A x l B y=er at*
 generalize m7 d A x=e1 at*
 generalize m7 l B y=e2 at*
 generalize kn d A x=ra at*
 have I:Below w.heap.size w ((w.alloc (.cells #[.bool d,.slice ao A.length G,.int .i64 x] 47)).alloc (.cells #[.bool l,.slice z B.length D,.int .i64 y] 47)):=((Below.refl _ _).alloc (Nat.le_refl _) _).alloc (by simp) _
 have F:az ((w.alloc (.cells #[.bool d,.slice ao A.length G,.int .i64 x] 47)).alloc (.cells #[.bool l,.slice z B.length D,.int .i64 y] 47)) (w.heap.size+1) (.bool l) (.slice z B.length D) (.int .i64 y):=by
  have:=az.new (w.alloc (.cells #[.bool d,.slice ao A.length G,.int .i64 x] 47)) (.bool l) (.slice z B.length D) (.int .i64 y)
  simpa using this
 have U:=aa F;have m:=aa I
 clear F I
 cases ra
 ·obtain⟨rfl,rfl⟩:=uH N rfl
  clear N O X U
  go_enter Tryz.func264,Tryz.ntmps264
  go_wp2_with fail
  refine(uH Q _ (V.below (uH m)) (L.all (uH m))).mono ?_
  rintro r w1 ⟨rfl,f⟩
  go_wp2
  go_ret
  exact⟨rfl,(uH m).trans (f.mono (uH m).size)⟩
 ·obtain⟨rfl,rfl⟩:=uH O rfl
  clear N O
  go_enter Tryz.func264,Tryz.ntmps264
  go_wp2_with fail
  refine(uH Q _ (V.below (uH m)) (L.all (uH m))).mono ?_
  rintro r w1 ⟨rfl,f⟩
  have F:=(uH U).all f
  have p0:=F.c0;have p1:=F.c1;have p2:=F.c2
  have K:=aa ((uH m).trans (f.mono (uH m).size))
  clear f F U m Q
  go_wp2_with fail
  refine(uH X _ (Y.below (uH K)) (L.all (uH K))).mono ?_
  rintro r w2 ⟨rfl,f⟩
  go_wp2
  go_ret
  exact⟨rfl,(uH K).trans (f.mono (uH K).size)⟩
theorem Et(d:Bool)(v:Nat)(h:v≠0):sg d (v/2^tz v)=oM (sg d v):=by
 obtain⟨m,f⟩:=iF v (by omega)
 have l:0<2^tz v:=Nat.pow_pos (by decide)
 have t:v/2^tz v=2*m+1:=by
  generalize 2^tz v=P at f l
  rw[f];exact Nat.mul_div_cancel_left _ l
 have y:iY (sg d v) (sg d (2*m+1)) (tz v):=by
  constructor
  ·have e:(v:Int)=(2*(m:Int)+1)*2^tz v:=by
    rw[Int.mul_comm]
    exact_mod_cast f
   unfold sg
   cases d
   ·simp only[Bool.false_eq_true,if_false];rw[e];push_cast;rfl
   ·simp only[if_true];rw[e];push_cast;rw[Int.neg_mul]
  ·unfold sg;cases d<;>simp<;>omega
 rw[t,y.eq.2.1]
theorem mz:0<dy:=Nat.pow_pos (by decide)
theorem uJ(d:Bool)(A:List Nat)(e:Int)(G:av d A=true)(L:bf A):
  (¬(-32768≤e∧e≤32768)∧cP (af d A) e=2∧dM (af d A) e=0∧dX (af d A) e=0)∨
  ((-32768≤e∧e≤32768)∧A.length≠0∧¬(-16384≤e+eW (an A)∧e+eW (an A)≤16384)∧cP (af d A) e=2∧dM (af d A) e=0∧dX (af d A) e=0)∨
  ((-32768≤e∧e≤32768)∧A.length=0∧cP (af d A) e=0∧dM (af d A) e=0∧dX (af d A) e=0)∨
  ((-32768≤e∧e≤32768)∧A.length≠0∧(-16384≤e+eW (an A)∧e+eW (an A)≤16384)∧cP (af d A) e=0∧dX (af d A) e=e+eW (an A)∧uw d A (-eW (an A))=0∧rU d A (-eW (an A))=dM (af d A) e):=by
 obtain⟨V,K,_⟩:=ay G
 have M:an A<dy:=(dR A L K).2 V
 have N:=wH (an A) M
 by_cases h:-32768≤e∧e≤32768
 case neg=>
  left
  have:lh (af d A) e=false:=by unfold lh;rw[decide_eq_false h,Bool.false_and]
  exact⟨h,by simp[cP,this],by simp[dM,this],by simp[dX,this]⟩
 right
 by_cases m:A.length=0
 ·right;left
  have O:A= []:=List.length_eq_zero_iff.1 m
  subst O
  have:lh (af d []) e=true:=by unfold lh;rw[decide_eq_true h,g8];simp
  refine⟨h,rfl,by simp[cP,this],?_,?_⟩
  ·simp[dM,g8,oM]
  ·simp[dX,g8,oE]
 have y:an A≠0:=fun e=>m (by rw[(aL A K).1 e];rfl)
 have f:=kv (an A) y
 have z:af d A≠0:=fun e=>y (by rw[←aR d A,e];rfl)
 by_cases t:-16384≤e+eW (an A)∧e+eW (an A)≤16384
 case neg=>
  left
  have:lh (af d A) e=false:=by
   unfold lh
   rw[aR,←f,decide_eq_false t,decide_eq_false z];simp
  exact⟨h,m,t,by simp[cP,this],by simp[dM,this],by simp[dX,this]⟩
 right;right
 have D:lh (af d A) e=true:=by
  unfold lh
  rw[aR,←f,decide_eq_true h,decide_eq_true t];simp
 have H:oR d A (-eW (an A))=oM (af d A):=by
  rw[my,dr,←Et d (an A) y,f]
  congr 1
  unfold mY
  rcases Nat.eq_zero_or_pos (tz (an A))with e|e
  ·rw[e];simp
  ·rw[if_neg (by omega)]
   congr 2
   omega
 have Q:=fG (af d A) z
 have U:(oM (af d A)).natAbs≤an A:=by
  have I:(af d A).natAbs=(oM (af d A)).natAbs*2^tz (af d A).natAbs:=by
   conv=>lhs;rw[Q.1]
   rw[Int.natAbs_mul,Int.natAbs_pow]
   rfl
  rw[aR]at I
  rw[I]
  exact Nat.le_mul_of_pos_right _ (Nat.pow_pos (by decide))
 have F:-16384≤-eW (an A)∧-eW (an A)≤16384:=by omega
 have l:lg d A (-eW (an A))=true:=by unfold lg;rw[G,decide_eq_true F];rfl
 refine⟨h,m,t,by simp[cP,D],?_,?_,?_⟩
 ·unfold dX oE;rw[if_pos D,if_neg z,aR,f]
 ·unfold uw;rw[if_pos l,H,fj _ (by omega)]
 ·unfold rU dM;rw[if_pos l,if_pos D,H,fk _ (by omega)]
theorem iJ(m:Bool)(ao:Option Addr)(F:Nat)(A:List Nat)(e:Int)(w:World)(hA:ag w ao F A)(hr:av m A=true)(be:-9223372036854775808≤e∧e≤9223372036854775807)(hT:b7 w):
  Calls Tryz.prog 229 #[.agg #[.bool m,.slice ao A.length F],.int .i64 e] w fun r O=>∃v,r=.returned (.tuple #[v,.int .i64 (cP (af m A) e)])∧aG O v (dM (af m A) e) (dX (af m A) e)∧Below w.heap.size w O:=by
 have hl:=(ay hr).1
 have aj:ep m A=0:=by simp[ep,hr]
 have HM:=aa (uJ m A e hr hA.2.1)
 have ae:=aa (fun O h'=>dW m ao F A O h' (by omega))
 rw[aj]at ae
 have ak:=aa (fun O h' t=>kw m ao F A O h' (by omega) t)
 have M:=aa (fun n O h' bn=>ia m ao F A n O h' (by omega) bn)
 have a1:=wH (an A) ((dR A hA.2.1 (ay hr).2.1).2 hl)
 clear aj hr
 generalize cP (af m A) e=er at*
 generalize dM (af m A) e=dm at*
 generalize dX (af m A) e=dx at*
 generalize eW (an A)=lz at*
 obtain⟨a3,a4⟩:=a1
 have X:Below w.heap.size w ((w.alloc (.cells #[.bool m,.slice ao A.length F] 45)).alloc (.cells #[.bool false,.slice none 0 0,.int .i64 0] 47)):=((Below.refl _ _).alloc (Nat.le_refl _) _).alloc (by simp) _
 have h:aA ((w.alloc (.cells #[.bool m,.slice ao A.length F] 45)).alloc (.cells #[.bool false,.slice none 0 0,.int .i64 0] 47)) w.heap.size (.bool m) (.slice ao A.length F):=(aA.new _ _ _).old _
 have f:az ((w.alloc (.cells #[.bool m,.slice ao A.length F] 45)).alloc (.cells #[.bool false,.slice none 0 0,.int .i64 0] 47)) (w.heap.size+1) (.bool false) (.slice none 0 0) (.int .i64 0):=by
  have:=az.new (w.alloc (.cells #[.bool m,.slice ao A.length F] 45)) (.bool false) (.slice none 0 0) (.int .i64 0)
  simpa using this
 go_enter Tryz.func229,Tryz.ntmps229
 go_wp2_with fail
 refine(uH ae _ (hA.below X)).mono ?_
 rintro r w1 ⟨rfl,d⟩
 replace h:=h.all d
 replace f:=f.all d
 have y:=X.trans (d.mono X.size)
 clear d X ae
 have L:=h.c0;have G:=h.c1
 have z:=aa h;have D:=aa f;have l:=aa y
 clear h f y
 go_wp2_with fail
 refine(uH ak _ (hA.below (uH l)) (hT.all (uH l))).mono ?_
 rintro r w2 ⟨rfl,d⟩
 have h:=(uH z).all d
 have f:=(uH D).all d
 have y:=(uH l).trans (d.mono (uH l).size)
 clear d ak L G z D l
 have L:=h.c0;have G:=h.c1
 have z:=aa h;have D:=aa f;have l:=aa y
 have H:=f.c0;have I:=f.c1;have K:=f.c2;have Q:=f.free 0;have U:=f.free 1;have V:=f.free 2
 clear h f y
 rcases uH HM with⟨N,rfl,rfl,rfl⟩|⟨N,h0,h2,rfl,rfl,rfl⟩|⟨N,h0,rfl,rfl,rfl⟩|⟨N,h0,h2,rfl,rfl,aI,a0⟩
 ·clear HM M
  go_wp2_with fail
  refine(dc e 32768 _ (by decide) (by decide)).mono ?_
  rw[decide_eq_false N]
  rintro r w3 ⟨rfl,rfl⟩
  clear N
  go_wp2
  refine bodyPost_ret (v:=.tuple #[.agg #[.bool false,.slice none 0 0,.int .i64 0],.int .i64 2]) (by simp[results,Tryz.results229,go_sem,H,I,K]) rfl ⟨_,rfl,aG.zero _ _ _,aD (uH l) (by omega) _ _ _⟩
 ·clear HM M
  go_wp2_with fail
  refine(dc e 32768 _ (by decide) (by decide)).mono ?_
  rw[decide_eq_true N]
  rintro r w3 ⟨rfl,rfl⟩
  obtain⟨am,ax⟩:=N
  go_wp2_with fail
  refine(de m ao F A.length _).mono ?_
  rw[decide_eq_false h0]
  rintro r w4 ⟨rfl,d⟩
  have h:=(uH z).all d
  have f:=(uH D).all d
  have y:=(uH l).trans (d.mono (uH l).size)
  clear d L G z D l H I K Q U V
  have L:=h.c0;have G:=h.c1
  have z:=aa h;have D:=aa f;have l:=aa y
  have H:=f.c0;have I:=f.c1;have K:=f.c2;have Q:=f.free 0;have U:=f.free 1;have V:=f.free 2
  clear h f y
  go_wp2_with fail
  refine(dc (e+lz) 16384 _ (by decide) (by decide)).mono ?_
  rw[decide_eq_false h2]
  rintro r w5 ⟨rfl,rfl⟩
  clear h2
  go_wp2
  refine bodyPost_ret (v:=.tuple #[.agg #[.bool false,.slice none 0 0,.int .i64 0],.int .i64 2]) (by simp[results,Tryz.results229,go_sem,H,I,K]) rfl ⟨_,rfl,aG.zero _ _ _,aD (uH l) (by omega) _ _ _⟩
 ·clear HM M
  have H0:=aa h0
  clear h0
  go_wp2_with fail
  refine(dc e 32768 _ (by decide) (by decide)).mono ?_
  rw[decide_eq_true N]
  rintro r w3 ⟨rfl,rfl⟩
  obtain⟨am,ax⟩:=N
  go_wp2_with fail
  refine(de m ao F A.length _).mono ?_
  rw[decide_eq_true (uH H0)]
  rintro r w4 ⟨rfl,d⟩
  have h:=(uH z).all d
  have f:=(uH D).all d
  have y:=(uH l).trans (d.mono (uH l).size)
  clear d L G z D l H I K Q U V
  have L:=h.c0;have G:=h.c1
  have z:=aa h;have D:=aa f;have l:=aa y
  have H:=f.c0;have I:=f.c1;have K:=f.c2;have Q:=f.free 0;have U:=f.free 1;have V:=f.free 2
  clear h f y
  clear G
  have G:=(uH z).c1
  go_wp2_with fail
  refine(de m ao F A.length _).mono ?_
  rw[decide_eq_true (uH H0)]
  rintro r w5 ⟨rfl,d⟩
  have h:=(uH z).all d
  have f:=(uH D).all d
  have y:=(uH l).trans (d.mono (uH l).size)
  clear d L G z D l H I K Q U V
  have l:=aa y
  have H:=f.c0;have I:=f.c1;have K:=f.c2;have Q:=f.free 0;have U:=f.free 1;have V:=f.free 2
  clear h f y
  go_wp2
  refine bodyPost_ret (v:=.tuple #[.agg #[.bool false,.slice none 0 0,.int .i64 0],.int .i64 0]) (by simp[results,Tryz.results229,go_sem,H,I,K]) rfl ⟨_,rfl,aG.zero _ _ _,aD (uH l) (by omega) _ _ _⟩
 ·clear HM
  have HN:=aa a0
  have SH:=aa (fun O h'=>uH M (-lz) O h' (by omega))
  rw[aI]at SH
  clear a0 aI M
  go_wp2_with fail
  refine(dc e 32768 _ (by decide) (by decide)).mono ?_
  rw[decide_eq_true N]
  rintro r w3 ⟨rfl,rfl⟩
  obtain⟨am,ax⟩:=N
  go_wp2_with fail
  refine(de m ao F A.length _).mono ?_
  rw[decide_eq_false h0]
  rintro r w4 ⟨rfl,d⟩
  have h:=(uH z).all d
  have f:=(uH D).all d
  have y:=(uH l).trans (d.mono (uH l).size)
  clear d L G z D l H I K Q U V
  have L:=h.c0;have G:=h.c1
  have z:=aa h;have D:=aa f;have l:=aa y
  have H:=f.c0;have I:=f.c1;have K:=f.c2;have Q:=f.free 0;have U:=f.free 1;have V:=f.free 2
  clear h f y
  go_wp2_with fail
  refine(dc (e+lz) 16384 _ (by decide) (by decide)).mono ?_
  rw[decide_eq_true h2]
  rintro r w5 ⟨rfl,rfl⟩
  obtain⟨a5,a6⟩:=h2
  go_wp2_with fail
  refine(de m ao F A.length _).mono ?_
  rw[decide_eq_false h0]
  rintro r w6 ⟨rfl,d⟩
  have h:=(uH z).all d
  have f:=(uH D).all d
  have y:=(uH l).trans (d.mono (uH l).size)
  clear d L G z D l H I K Q U V
  have L:=h.c0;have G:=h.c1
  have z:=aa h;have D:=aa f;have l:=aa y
  clear h f y
  go_wp2_with fail
  refine(uH SH _ (hA.below (uH l))).mono ?_
  rintro r w7 ⟨v,rfl,⟨Y,Z,c2,L2,rfl,i1⟩,d⟩
  have f:=(uH D).all d
  have y:=(uH l).trans (d.mono (uH l).size)
  have I1:=aa i1;have B2:=aa y;have X2:=aa f
  clear d L G z D l f y i1
  have f:=(uH X2).old (.cells #[.bool Y,.slice Z L2.length c2] 45)
  have H:=f.c0;have I:=f.c1;have K:=f.c2;have Q:=f.free 0;have U:=f.free 1;have V:=f.free 2
  have X3:=aa f
  clear f
  go_wp2
  have j:aw w6.heap.size w7 (.agg #[.bool Y,.slice Z L2.length c2]) dm:=(uH HN)▸(⟨Y,Z,c2,L2,rfl,uH I1⟩:aw w6.heap.size w7 (.agg #[.bool Y,.slice Z L2.length c2]) (rU m A (-lz)))
  have j2:aG (w7.alloc (.cells #[.bool Y,.slice Z L2.length c2] 45)) (.agg #[.bool Y,.slice Z L2.length c2,.int .i64 (e+lz)]) dm (e+lz):=⟨Y,Z,c2,L2,rfl,(j.below ((Below.refl _ _).alloc (Nat.le_refl _) _)).mono (Nat.zero_le _)⟩
  have b3:=(uH B2).alloc (uH B2).size (.cells #[.bool Y,.slice Z L2.length c2] 45)
  refine bodyPost_ret (v:=.tuple #[.agg #[.bool Y,.slice Z L2.length c2,.int .i64 (e+lz)],.int .i64 0]) (by simp[results,Tryz.results229,go_sem,H,I,K]) rfl ⟨_,rfl,j2.put3 (uH X3) _ _ _,aD b3 (by omega) _ _ _⟩
theorem jf{B:Nat}{w:World}{v:Value}{z:Int}(e:Int)(f:aw B w v z)(h:z.natAbs<dy)(l:-9223372036854775808≤e∧e≤9223372036854775807)(m:b7 w):
  Calls Tryz.prog 229 #[v,.int .i64 e] w fun r d=>∃u,r=.returned (.tuple #[u,.int .i64 (cP z e)])∧aG d u (dM z e) (dX z e)∧Below w.heap.size w d:=by
 obtain⟨t,ao,y,A,rfl,D,F,G,H⟩:=f.right h
 have:=iJ t ao y A e w D F l m
 rwa[G]at this
theorem aW(x:Int)(h:-9000000000000000000≤x∧x≤9000000000000000000):IntKind.i64.wrap x=x:=by
 simp only[IntKind.wrap,IntKind.signed,IntKind.bits]
 simp
 omega
theorem Au(L:List Nat):an L%2=L[0]?.getD 0%2:=by
 cases L with
 |nil=>rfl
 |cons x r=>simp[an];omega
theorem Eu(neg:Bool)(ao:Option Addr)(cap:Nat)(L:List Nat)(w:World)(h:ag w ao cap L):
  Calls Tryz.prog 135 #[.agg #[.bool neg,.slice ao L.length cap]] w fun e z=>e=.returned (.bool (decide (an L%2=1)))∧Below w.heap.size w z:=by
 by_cases f:L= []
 ·subst f
  go_enter Tryz.func135,Tryz.ntmps135
  go_wp2
  go_ret
  exact⟨rfl,(Below.refl _ _).alloc (Nat.le_refl _) _⟩
 obtain⟨b,G,rfl,K,y⟩:=h.ne (List.length_pos_iff.2 f)
 have A:0<L.length:=List.length_pos_iff.2 f
 have D:(0:Int)<(L.length:Int):=by omega
 have l:=y 0 A
 have I:=h.lt 0
 have t:=h.1
 rw[Au]
 generalize L[0]?.getD 0=x at*
 clear y h f
 rw[Nat.add_zero]at l
 generalize H:L.length=n at*
 clear H
 by_cases d:x%2=1
 ·have F:(((x:Int)%2)==1)=true:=by rw[beq_iff_eq];omega
  have m:=aa (decide_eq_true d)
  clear d
  go_enter Tryz.func135,Tryz.ntmps135
  go_wp2
  go_ret
  exact⟨ja (uH m).symm,(Below.refl _ _).alloc (Nat.le_refl _) _⟩
 ·have F:(((x:Int)%2)==1)=false:=by rw[beq_eq_false_iff_ne];omega
  have m:=aa (decide_eq_false d)
  clear d
  go_enter Tryz.func135,Tryz.ntmps135
  go_wp2
  go_ret
  exact⟨ja (uH m).symm,(Below.refl _ _).alloc (Nat.le_refl _) _⟩
theorem kx(neg:Bool)(ao:Option Addr)(cap:Nat)(L:List Nat)(e:Int)(w:World)(h:ag w ao cap L)(H:L.length≤35184372088830):
  Calls Tryz.prog 254 #[.agg #[.bool neg,.slice ao L.length cap,.int .i64 e]] w fun r d=>r=.returned (.int .i64 (IntKind.i64.wrap (dD L+e)))∧Below w.heap.size w d:=by
 have K:=aa (fun d I=>qw neg ao cap L d I H)
 generalize dD L=n at*
 have m:Below w.heap.size w (w.alloc (.cells #[.bool neg,.slice ao L.length cap,.int .i64 e] 47)):=(Below.refl _ _).alloc (Nat.le_refl _) _
 have l:=az.new w (.bool neg) (.slice ao L.length cap) (.int .i64 e)
 have z:=aa l;have A:=aa m
 clear l m
 go_enter Tryz.func254,Tryz.ntmps254
 go_wp2
 refine au (fun W=>Below w.heap.size w W∧az W w.heap.size (.bool neg) (.slice ao L.length cap) (.int .i64 e)) ⟨uH A,uH z⟩ ?_
 rintro f ⟨y,l⟩
 have D:∀d,Below f.heap.size f d→Below f.heap.size f d∧d.cell? ⟨w.heap.size,0,none⟩=some (.bool neg)∧d.cell? ⟨w.heap.size,1,none⟩=some (.slice ao L.length cap)∧d.cell? ⟨w.heap.size,2,none⟩=some (.int .i64 e):=fun d h=>
  ⟨h,(l.all h).c0,(l.all h).c1,(l.all h).c2⟩
 have F:=aa D
 have M:=aa (h.below y);have G:=aa y
 clear D l y h z A
 go_region_held3(fun d=>Below f.heap.size f d∧d.cell? ⟨w.heap.size,0,none⟩=some (.bool neg)∧d.cell? ⟨w.heap.size,1,none⟩=some (.slice ao L.length cap)∧d.cell? ⟨w.heap.size,2,none⟩=some (.int .i64 e))
  (first|exact uH F _ (Below.refl _ _).drew|exact uH F _ (by assumption))
  (first|(go_at_call 266;refine(uH K _ ((uH M).below (And.left (by assumption)))).mono ?_;rintro e O ⟨rfl,t⟩;have N:Below f.heap.size f O:=Below.trans (And.left (by assumption)) (t.mono (Below.size (And.left (by assumption))));clear t))
 go_wp2
 go_ret
 exact⟨rfl,(uH G).trans (Below.mono (And.left (by assumption)) (uH G).size)⟩
def gT(L:List Nat)(e:Int):Int:=if L.length=0 then 0 else dD L+e
theorem m8(neg:Bool)(ao:Option Addr)(cap:Nat)(L:List Nat)(e:Int)(w:World)(h:ag w ao cap L)(hl:L.length≤1073741824)(he:-100000≤e∧e≤100000):
  Calls Tryz.prog 143 #[.agg #[.bool neg,.slice ao L.length cap,.int .i64 e]] w fun r d=>r=.returned (.int .i64 (gT L e))∧Below w.heap.size w d:=by
 have K:=aa (fun d U=>uF neg ao cap L d U (by omega))
 have D:L.length≠0→0≤dD L∧dD L≤40000000000:=fun l=>by
  unfold dD
  rw[if_neg l]
  have:=lf (L[L.length-1]?.getD 0)
  omega
 have A:=aa (show(L.length=0→gT L e=0)∧(L.length≠0→gT L e=dD L+e) by unfold gT;constructor<;>intro h<;>simp[h])
 generalize gT L e=t at*
 generalize dD L=n at*
 have y:Below w.heap.size w (w.alloc (.cells #[.bool neg,.slice ao L.length cap,.int .i64 e] 47)):=(Below.refl _ _).alloc (Nat.le_refl _) _
 have m:=az.new w (.bool neg) (.slice ao L.length cap) (.int .i64 e)
 have M:=aa m;have F:=aa y
 clear m y
 by_cases l:L.length=0
 ·have G:=(uH A).1 l
  subst G
  have H:((L.length:Int)==0)=true:=by rw[beq_iff_eq];omega
  clear A D K l
  go_enter Tryz.func143,Tryz.ntmps143
  go_wp2
  go_ret
  exact⟨rfl,uH F⟩
 have G:=(uH A).2 l
 subst G
 obtain⟨Y,Z⟩:=D l
 have H:((L.length:Int)==0)=false:=by rw[beq_eq_false_iff_ne];omega
 clear A D l
 go_enter Tryz.func143,Tryz.ntmps143
 go_wp2
 refine au (fun W=>Below w.heap.size w W∧az W w.heap.size (.bool neg) (.slice ao L.length cap) (.int .i64 e)) ⟨uH F,uH M⟩ ?_
 rintro f ⟨I,m⟩
 have N:∀d,Below f.heap.size f d→Below f.heap.size f d∧d.cell? ⟨w.heap.size,0,none⟩=some (.bool neg)∧d.cell? ⟨w.heap.size,1,none⟩=some (.slice ao L.length cap)∧d.cell? ⟨w.heap.size,2,none⟩=some (.int .i64 e):=fun d h=>
  ⟨h,(m.all h).c0,(m.all h).c1,(m.all h).c2⟩
 have O:=aa N
 have V:=aa (h.below I);have Q:=aa I
 clear N m I h M F
 go_region_held3(fun d=>Below f.heap.size f d∧d.cell? ⟨w.heap.size,0,none⟩=some (.bool neg)∧d.cell? ⟨w.heap.size,1,none⟩=some (.slice ao L.length cap)∧d.cell? ⟨w.heap.size,2,none⟩=some (.int .i64 e))
  (first|exact uH O _ (Below.refl _ _).drew|exact uH O _ (by assumption))
  (first|(go_at_call 187;refine(uH K _ ((uH V).below (And.left (by assumption)))).mono ?_;rintro e w1 ⟨rfl,z⟩;have X:Below f.heap.size f w1:=Below.trans (And.left (by assumption)) (z.mono (Below.size (And.left (by assumption))));clear z))
 go_wp2
 go_ret
 exact⟨aQ (aW _ (by omega)),(uH Q).trans (Below.mono (And.left (by assumption)) (uH Q).size)⟩
def uK(neg:Bool)(n:Nat):Int:=if neg then-1 else if n=0 then 0 else 1
theorem li(neg:Bool)(ao:Option Addr)(cap:Nat)(n:Nat)(e:Int)(w:World):
  Calls Tryz.prog 142 #[.agg #[.bool neg,.slice ao n cap,.int .i64 e]] w fun r t=>r=.returned (.int .i64 (uK neg n))∧Below w.heap.size w t:=by
 have d:=aa (show uK neg n=if neg then-1 else if n=0 then 0 else 1 from rfl)
 generalize uK neg n=s at*
 have l:Below w.heap.size w (w.alloc (.cells #[.bool neg,.slice ao n cap,.int .i64 e] 47)):=(Below.refl _ _).alloc (Nat.le_refl _) _
 have m:=aa l
 clear l
 cases neg
 ·rcases(show n=0∨n=1∨2≤n by omega)with rfl|rfl|h
  ·have f:s=0:=by rw[uH d];rfl
   subst f
   clear d
   go_enter Tryz.func142,Tryz.ntmps142
   go_wp2
   go_ret
   exact⟨rfl,uH m⟩
  ·have f:s=1:=by rw[uH d];rfl
   subst f
   clear d
   go_enter Tryz.func142,Tryz.ntmps142
   go_wp2
   go_ret
   exact⟨rfl,uH m⟩
  ·have f:s=1:=by rw[uH d,if_neg (by decide),if_neg (by omega)]
   subst f
   have y:(1:Int)<(n:Int):=by omega
   clear d
   go_enter Tryz.func142,Tryz.ntmps142
   go_wp2
   go_ret
   exact⟨rfl,uH m⟩
 ·have f:s= -1:=by rw[uH d];rfl
  subst f
  clear d
  go_enter Tryz.func142,Tryz.ntmps142
  go_wp2
  go_ret
  exact⟨rfl,uH m⟩
attribute [local go_sem ↓] Go.wp_at_zero Go.wp_at_succ
theorem ib(x k:Int):IntKind.i64.wrap (IntKind.i64.wrap x+k)=IntKind.i64.wrap (x+k):=by
 simp only[IntKind.wrap,IntKind.signed,IntKind.bits]
 simp
 split<;>split<;>split<;>omega
theorem f8(x:Int):wrap64 x=IntKind.i64.wrap x:=by
 simp only[IntKind.wrap,IntKind.signed,IntKind.bits,wrap64]
 simp
 split<;>omega
theorem aP(x:Int)(h:-9223372036854775808≤x∧x≤9223372036854775807):IntKind.i64.wrap x=x:=by
 simp only[IntKind.wrap,IntKind.signed,IntKind.bits]
 simp
 omega
theorem d8(x e:Int)(j:Nat)(d:j<18446744073709551616)(h:x=IntKind.i64.wrap (e+j)):((x-e)%18446744073709551616).toNat=j:=by
 subst h
 simp only[IntKind.wrap,IntKind.signed,IntKind.bits]
 simp
 split<;>omega
theorem GI(x:Int):sg (decide (x<0)) x.natAbs=x:=by
 unfold sg
 by_cases h:x<0
 ·rw[decide_eq_true h];simp;omega
 ·rw[decide_eq_false h];simp;omega
def xP(w wr:World)(z:Int)(j:Nat)(nn:Bool)(a:Option Addr)(c:Nat)(L:List Nat):Prop:=
 aA wr w.heap.size (.bool nn) (.slice a L.length c)∧az wr (w.heap.size+1) (.bool false) (.slice none 0 0) (.int .i64 0)∧ag wr a c L∧bP L∧L≠ []∧L.length≤30000∧sg nn (an L)*2^j=z∧Below w.heap.size w wr
theorem xP.step{w f:World}{z x:Int}{y G l:Bool}{H m:Option Addr}{I K t v M B j:Nat}{d:List Nat}
  (A:aA f w.heap.size (.bool G) (.slice H I K)) (L:az f (w.heap.size+1) (.bool false) (.slice none 0 0) (.int .i64 0))
  (i:ag f m t d∧bN B m d∧bP d∧l=decide (x<0)∧an d=x.natAbs∧d.length≤M) (D:x=sg y v) (X:v≠0) (N:sg y v*2^j=z) (Y:M≤30000) (h:Below w.heap.size w f):
  xP w ((f.setCell ⟨w.heap.size,0,none⟩ (.bool l)).setCell ⟨w.heap.size,1,none⟩ (.slice m d.length t)) z j l m t d:=by
 obtain⟨Q,Z,U,V,F,i6⟩:=i
 have O:sg l (an d)=x:=by rw[V,F,GI]
 refine⟨A.put _ _,(L.other (by simp) _).other (by simp) _,Q.box A _ _,U,?_,by omega,?_,(h.setCell (by simp) _).setCell (by simp) _⟩
 ·rintro rfl
  simp[an]at F
  have:x.natAbs=v:=by rw[D,jD]
  omega
 ·rw[O,D];exact N
theorem xP.tzs{w wr:World}{z:Int}{j:Nat}{d:Bool}{a:Option Addr}{c:Nat}{L:List Nat}(h:xP w wr z j d a c L):an L≠0∧tz z.natAbs=j+tz (an L):=by
 obtain⟨y,A,D,l,m,F,t,G⟩:=h
 have f:an L≠0:=fun e=>m ((aL L l).1 e)
 refine⟨f,?_⟩
 rw[←Ae (an L) j (by omega),←t,Int.natAbs_mul,jD,Int.natAbs_pow,Nat.mul_comm]
 rfl
theorem xP.last{w wr:World}{z:Int}{j:Nat}{d:Bool}{a:Option Addr}{c:Nat}{L:List Nat}(h:xP w wr z j d a c L)(F:an L%2=1):aw 0 wr (.agg #[.bool d,.slice a L.length c]) (oM z)∧j=tz z.natAbs:=by
 obtain⟨G,H,f,m,t,I,y,K⟩:=h
 have l:iY z (sg d (an L)) j:=⟨y.symm,by unfold sg;cases d<;>simp<;>omega⟩
 obtain⟨M,A,D⟩:=l.eq
 rw[←A,←dr]
 exact⟨aw.mk f (bN.zero f) m t (by omega),D⟩
theorem xQ(L:List Nat)(d:bf L):an L%4294967296=L[0]?.getD 0:=by
 cases L with
 |nil=>rfl
 |cons x r=>
  have:=d x (by simp)
  simp[an]
  omega
theorem xP.down{w wr:World}{z:Int}{j:Nat}{d:Bool}{a:Option Addr}{c:Nat}{L:List Nat}(h:xP w wr z j d a c L)(k:Nat)(A:an L%2^k=0):an L/2^k≠0∧sg d (an L/2^k)*2^(j+k)=z∧j+k≤tz z.natAbs:=by
 obtain⟨m,t⟩:=h.tzs
 obtain⟨D,F,G,H,I,K,y,M⟩:=h
 have f:an L=2^k*(an L/2^k):=by have:=Nat.div_add_mod (an L) (2^k);omega
 have l:an L/2^k≠0:=fun e=>m (by rw[f,e];simp)
 refine⟨l,?_,?_⟩
 ·rw[←y]
  conv=>rhs;rw[f]
  generalize an L/2^k=q
  have e:sg d (2^k*q)=sg d q*2^k:=by
   unfold sg
   cases d
   ·simp only[Bool.false_eq_true,if_false];push_cast;rw[Int.mul_comm]
   ·simp only[if_true];push_cast;rw[Int.neg_mul,Int.mul_comm]
  rw[e,Nat.add_comm,Int.pow_add,Int.mul_assoc]
 ·rw[t]
  have e:tz (an L)=k+tz (an L/2^k):=by
   conv=>lhs;rw[f]
   exact Ae _ _ (Nat.pos_of_ne_zero l)
  omega
theorem Av(na:Bool)(ao:Option Addr)(ca:Nat)(A:List Nat)(e:Int)(w:World)(hA:ag w ao ca A)(h0:A≠ [])(hc:bP A)(la:A.length≤20000)(be:-9223372036854775808≤e∧e≤9223372036854775807):
  Calls Tryz.prog 83 #[.agg #[.bool na,.slice ao A.length ca],.int .i64 e] w fun r w'=>∃v,r=.returned v∧aG w' v (oM (af na A)) (IntKind.i64.wrap (e+tz (af na A).natAbs))∧Below w.heap.size w w':=by
 obtain⟨i0,hi,bc,bi,bj⟩:=info_parts Tryz.info133
 have HZ:=aa (dr na A).symm
 have hT:tz (af na A).natAbs<18446744073709551616:=by
  rw[aR]
  have hv:an A≠0:=fun e=>h0 ((aL A hc).1 e)
  have h1:=ei A hA.2.1
  rw[show(4294967296:Nat)=2^32 by decide,←Nat.pow_mul]at h1
  have:=lU (an A) _ (by omega) h1
  omega
 generalize af na A=z at*
 obtain⟨T,ax⟩:∃T,T=tz z.natAbs:=⟨_,rfl⟩
 have ae:=aa ax
 rw[←ax]at hT⊢
 have HM:=aa (show oM z=oM z from rfl)
 have aj:=aa h0;have HC:=aa hc
 clear h0 hc ax
 have hp:0<A.length:=List.length_pos_iff.2 (uH aj)
 have ak:((A.length:Int)==0)=false:=by rw[beq_eq_false_iff_ne];omega
 go_enter Tryz.func83,Tryz.ntmps83
 go_wp2
 clear HM
 go_loopw[1] (fun i wr=>∃(x:Int) (j:Nat) (K:Bool) (a:Option Addr) (c:Nat) (L:List Nat),i=.int .i64 x∧j≤T∧Hid (x=IntKind.i64.wrap (e+j))∧Hid (xP w wr z j K a c L)) (fun i _=>T-((intOf i-e)%18446744073709551616).toNat)
 case atStart=>
  refine⟨e,0,na,ao,ca,A,rfl,Nat.zero_le _,?_,(aA.new _ _ _).old _,?_,hA.below (((Below.refl _ _).alloc (Nat.le_refl _) _).alloc (by simp) _),uH HC,uH aj,by omega,by rw[uH HZ];simp,((Below.refl _ _).alloc (Nat.le_refl _) _).alloc (by simp) _⟩
  ·unfold Hid;rw[aP _ (by omega)];omega
  ·have:=az.new (w.alloc (.cells #[.bool na,.slice ao A.length ca] 45)) (.bool false) (.slice none 0 0) (.int .i64 0)
   simpa using this
 case round=>
  obtain⟨x,j,K,a,c,L,rfl,hj,V,U⟩:=hrel
  clear HZ HC aj hA la hp ak
  obtain⟨G,H,X,hC,hS,t,hz,D⟩:=uH U
  have hp:0<L.length:=List.length_pos_iff.2 hS
  have ak:(0:Int)<(L.length:Int):=by omega
  have p0:=G.c0;have p1:=G.c1
  have a0:=X.1
  obtain⟨b,a3,rfl,hb,aI⟩:=X.ne hp
  have am:=aI 0 hp
  rw[Nat.add_zero]at am
  have I:=xQ L X.2.1
  have a4:=X.lt 0
  by_cases hg:L[0]?.getD 0=0
  ·rw[hg]at am I
   obtain⟨d1,d2,d3⟩:=(uH U).down 32 I
   rw[←uH ae]at d3
   have Y:=aa d1;have Z:=aa d2
   have f:=aa D;have N:=aa G;have M:=aa H;have l:=aa t;have F:=aa (X.below ((Below.refl _ _).drew))
   clear hz G H X hC hS D U t aI I hg d1 d2 a4
   go_wp2
   have a9:(1:Int)≤(L.length:Int):=by omega
   have ba:(L.length:Int)≤(c:Int):=by omega
   have bb:(1:Int)≤(c:Int):=by omega
   by_cases a5:c=1
   ·subst a5
    go_region_with (go_at_call 134;refine(m4 K b a3 L _ (uH F)).mono ?_;rintro e w2 ⟨v,rfl,⟨n2,a2,c2,L2,rfl,i1⟩,d⟩;have I1:=aa i1;have m:=(uH N).drew.below d (uH N).drew.lt;have Z1:=(uH M).drew.below d (uH M).drew.lt;have r0:=m.c0;have r1:=m.c1;have f0:=m.free 0;have f1:=m.free 1;have B2:=aa (((uH f).drew).trans (d.mono ((uH f).drew).size));have O:=aa m;have Q:=aa Z1;clear i1 d m Z1)
    all_goals
     go_wp2
     go_roundw
     case rel=>exact⟨_,j+32,n2,a2,c2,L2,rfl,d3,aa (by rw[f8,uH V,ib];congr 1;omega),xP.step (v:=an L/4294967296) (uH O) (uH Q) (uH I1) rfl (uH Y) (uH Z) (by have:=uH l;omega) (uH B2)⟩
     case measure=>rw[f8,uH V,ib];simp only[intOf];rw[d8 _ e j (by omega) rfl,d8 _ e (j+32) (by omega) (by congr 1;omega)];omega
   ·have a7:¬(c:Int)=1:=by omega
    go_region_with (go_at_call 134;refine(pz K b a3 c L _ (uH F) (by have:=uH l;omega)).mono ?_;rintro e w2 ⟨v,rfl,⟨n2,a2,c2,L2,rfl,i1⟩,d⟩;have I1:=aa i1;have m:=(uH N).drew.below d (uH N).drew.lt;have Z1:=(uH M).drew.below d (uH M).drew.lt;have r0:=m.c0;have r1:=m.c1;have f0:=m.free 0;have f1:=m.free 1;have B2:=aa (((uH f).drew).trans (d.mono ((uH f).drew).size));have O:=aa m;have Q:=aa Z1;clear i1 d m Z1)
    all_goals
     go_wp2
     go_roundw
     case rel=>exact⟨_,j+32,n2,a2,c2,L2,rfl,d3,aa (by rw[f8,uH V,ib];congr 1;omega),xP.step (v:=an L/4294967296) (uH O) (uH Q) (uH I1) rfl (uH Y) (uH Z) (by have:=uH l;omega) (uH B2)⟩
     case measure=>rw[f8,uH V,ib];simp only[intOf];rw[d8 _ e j (by omega) rfl,d8 _ e (j+32) (by omega) (by congr 1;omega)];omega
  ·have a6:(((L[0]?.getD 0:Nat):Int)==0)=false:=by rw[beq_eq_false_iff_ne];omega
   generalize L[0]?.getD 0=y at*
   have HI:=U
   clear U G H X hC hS t hz D aI I hg
   go_wp2
   go_loopw[1] (fun i wr=>∃(x:Int) (j:Nat) (K:Bool) (a:Option Addr) (c:Nat) (L:List Nat),i=.int .i64 x∧j≤T∧Hid (x=IntKind.i64.wrap (e+j))∧Hid (xP w wr z j K a c L)) (fun i _=>T-((intOf i-e)%18446744073709551616).toNat)
   case atStart=>exact⟨x,j,K,_,c,L,rfl,hj,V,HI⟩
   case round=>
    clear HI p0 p1 ak hp a6 am hj V hb a0
    obtain⟨x,j,K,a,c,L,rfl,hj,V,U⟩:=hrel
    obtain⟨G,H,X,hC,hS,t,hz,D⟩:=uH U
    have p0:=G.c0;have p1:=G.c1
    have N:=aa G;have M:=aa H;have f:=aa D;have l:=aa t;have F:=aa X
    clear G H X hC hS t hz D
    go_wp2_with fail
    refine(Eu K a c L wr (uH F)).mono ?_
    by_cases ho:an L%2=1
    ·rw[decide_eq_true ho]
     rintro r w3 ⟨rfl,h⟩
     obtain⟨l1,l2⟩:=(uH U).last ho
     have L1:=aa (l1.below h);have L2:=aa l2
     have G:=(uH N).all h;have H:=(uH M).all h
     have b1:=(uH f).trans (h.mono (uH f).size)
     clear U l1 l2 h ho p0 p1 N M f F
     have p0:=G.c0;have p1:=G.c1
     have y0:=H.c0;have y1:=H.c1;have y2:=H.c2;have f0:=H.free 0;have f1:=H.free 1;have f2:=H.free 2
     have M:=aa H;have B1:=aa b1
     clear G H b1
     go_wp2
     have e1:IntKind.i64.wrap (e+(T:Int))=x:=by rw[uH V,uH ae,←uH L2]
     rw[e1]
     have j2:aG w3 (.agg #[.bool K,.slice a L.length c,.int .i64 x]) (oM z) x:=⟨K,a,c,L,rfl,uH L1⟩
     refine bodyPost_ret (v:=.agg #[.bool K,.slice a L.length c,.int .i64 x]) (by simp[results,Tryz.results83,go_sem,y0,y1,y2]) rfl ⟨_,rfl,j2.put3 (uH M) _ _ _,aD (uH B1) (by omega) _ _ _⟩
    ·rw[decide_eq_false ho]
     rintro r w3 ⟨rfl,h⟩
     obtain⟨d1,d2,d3⟩:=(uH U).down 1 (by simp;omega)
     rw[←uH ae]at d3
     rw[Nat.pow_one]at d1 d2
     have Y:=aa d1;have Z:=aa d2
     have G:=(uH N).all h;have H:=(uH M).all h
     have b1:=(uH f).trans (h.mono (uH f).size)
     have a1:=(uH F).below h
     clear U d1 d2 h ho p0 p1 N M f F
     have p0:=G.c0;have p1:=G.c1
     have N:=aa G;have M:=aa H;have B1:=aa b1;have F:=aa a1
     clear G H b1 a1
     go_wp2_with fail
     refine(rV K a c L w3 (uH F) (by have:=uH l;omega)).mono ?_
     rintro r w2 ⟨v,rfl,⟨n2,a2,c2,L2,rfl,i1⟩,d⟩
     have I1:=aa i1
     have m:=(uH N).all d
     have Z1:=(uH M).all d
     have r0:=m.c0;have r1:=m.c1;have f0:=m.free 0;have f1:=m.free 1
     have B2:=aa ((uH B1).trans (d.mono (uH B1).size))
     have O:=aa m;have Q:=aa Z1
     clear i1 d m Z1
     go_wp2
     go_roundw
     case rel=>exact⟨_,j+1,n2,a2,c2,L2,rfl,d3,aa (by rw[f8,uH V,ib];congr 1;omega),xP.step (v:=an L/2) (uH O) (uH Q) (uH I1) rfl (uH Y) (uH Z) (by have:=uH l;omega) (uH B2)⟩
     case measure=>rw[f8,uH V,ib];simp only[intOf];rw[d8 _ e j (by omega) rfl,d8 _ e (j+1) (by omega) (by congr 1;omega)];omega
theorem Aw(f:Bool)(ao:Option Addr)(h:Nat)(e:Int)(w:World):
  Calls Tryz.prog 83 #[.agg #[.bool f,.slice ao 0 h],.int .i64 e] w fun r d=>∃v,r=.returned v∧aG d v 0 0∧Below w.heap.size w d:=by
 go_enter Tryz.func83,Tryz.ntmps83
 go_wp2
 refine bodyPost_ret (v:=.agg #[.bool false,.slice none 0 0,.int .i64 0]) (by simp[results,Tryz.results83,go_sem]) rfl ⟨_,rfl,aG.zero _ _ _,?_⟩
 exact((Below.refl w.heap.size w).alloc (Nat.le_refl _) _).alloc (by simp) _
theorem Ev{M B:Nat}{w:World}{v:Value}{z:Int}(e:Int)(D:aE M B w v z)(L:M≤20000)(F:-9223372036854775808≤e∧e≤9223372036854775807):
  Calls Tryz.prog 83 #[v,.int .i64 e] w fun r h=>∃u,r=.returned u∧aG h u (oM z) (if z=0 then 0 else IntKind.i64.wrap (e+tz z.natAbs))∧Below w.heap.size w h:=by
 obtain⟨l,ao,m,A,rfl,I,N,t,K,y,O⟩:=D
 have d:=j4 K y
 by_cases f:A= []
 ·subst f
  rw[g8]at d
  subst d
  rw[if_pos rfl,show oM 0=0 by simp[oM]]
  exact Aw l ao m e w
 ·have H:z≠0:=fun G=>f ((aL A t).1 (by rw[y,G];rfl))
  rw[if_neg H,←d]
  exact Av l ao m A e w I f t (by omega) F
theorem ic{M B:Nat}{w:World}{v:Value}{z:Int}(e:Int)(f:aE M B w v z)(m:M≤20000)(y:-1000000≤e∧e≤1000000):
  Calls Tryz.prog 83 #[v,.int .i64 e] w fun r h=>∃u,r=.returned u∧aG h u (oM z) (oE z e)∧Below w.heap.size w h:=by
 have d:=Ev e f m (by omega)
 have:(if z=0 then 0 else IntKind.i64.wrap (e+tz z.natAbs))=oE z e:=by
  unfold oE
  split
  ·rfl
  ·rename_i N
   have D:tz z.natAbs<32*20000:=by
    obtain⟨F,ao,G,A,rfl,t,H,I,K,l,L⟩:=f
    rw[←l]
    have f:an A≠0:=by rw[l];omega
    have d:=ei A t.2.1
    rw[show(4294967296:Nat)=2^32 by decide,←Nat.pow_mul]at d
    have:=lU (an A) _ (by omega) d
    omega
   exact aW _ (by omega)
 rwa[this]at d
end Go.Proofs.YtlnphkioddknfaaGreatDoor
