/- Part 9 of the texts. -/
import Derived.Deep.AppendLies
import Derived.Test.YtmpkkhackbpflaaGreatDoorPartg08
import Derived.Test.YtmpkkhackbpflaaGreatDoorPartg05
set_option maxHeartbeats 1000000
namespace Go.Proofs.YtmpkkhackbpflaaGreatDoor
open Go.RowKit
attribute [local go_sem ↓] Go.wp_at_zero Go.wp_at_succ
theorem af.box{w:World}{D:Option Addr}{l g:Nat}{L:List Nat}(h:af w D l L){x:Bool}{a:Option Addr}{n c:Nat}(H:aC w g (.bool x) (.slice a n c))(u u':Value):
  af ((w.setCell ⟨g,0,none⟩ u).setCell ⟨g,1,none⟩ u') D l L:=by
 refine⟨h.1,h.2.1,?_⟩
 rcases h.2.2 with M|⟨b,d,N,O,G⟩
 ·exact .inl M
 ·by_cases F:L= []
  ·exact .inl F
  ·have J:0<L.length:=List.length_pos_iff.2 F
   have t:b≠g:=by
    rintro rfl
    have z:=G 0 J
    rw[cell_of_row w b (d+0) _ _ _ H]at z
    rcases(show d=0∨d=1∨2≤d by omega)with e|e|e
    ·subst e;simp at z
    ·subst e;simp at z
    ·rw[Array.getElem?_eq_none (by simp;omega)]at z;simp at z
   refine .inr ⟨b,d,N,by simpa[World.setCell]using O,fun i I=>?_⟩
   rw[an _ _ _ _ (by simpa using t),an _ _ _ _ (by simpa using t)]
   exact G i I
theorem o0(l:Bool)(z:Option Addr)(D:Nat)(B:List Nat)(w:World)(L:af w z D B)(Y:B.length≤35184372088830):
  Calls Tryz.prog 115 #[.agg #[.bool l,.slice z B.length D]] w fun e M=>∃v,e=.returned v∧aP B.length 0 M v (-aj l B)∧Below w.heap.size w M:=by
 have Q:=ac (Cs l B)
 go_enter Tryz.func115,Tryz.ntmps115
 go_wp2_with fail
 have d:Below w.heap.size w ((w.alloc (.cells #[.bool l,.slice z B.length D] 55)).alloc (.cells #[.bool false,.slice none 0 0] 55)):=((Below.refl _ _).alloc (Nat.le_refl _) _).alloc (by simp) _
 refine(dI 0 (!l) z D B _ (L.below d) (bB.zero L) (by omega)).mono ?_
 rw[uH Q]
 rintro e X ⟨v,rfl,⟨G,H,I,J,rfl,O⟩,h⟩
 have t:aC X (w.heap.size+1) (.bool false) (.slice none 0 0):=by
  have:=aC.new (w.alloc (.cells #[.bool l,.slice z B.length D] 55)) (.bool false) (.slice none 0 0)
  exact aC.below (by simpa using this) h (by simp)
 have T:=t.c0;have U:=t.c1;have Z:=t.free 0;have f1:=t.free 1
 have N:=ac O
 have V:=ac t
 have F:=ac (d.trans (h.mono (by simp;omega)))
 clear O h d t
 go_wp2
 refine bodyPost_ret (v:=.agg #[.bool G,.slice H J.length I]) (by simp[results,Tryz.results115,go_sem,T,U]) rfl ⟨.agg #[.bool G,.slice H J.length I],rfl,?_,?_⟩
 ·exact⟨G,H,I,J,rfl,(uH N).1.box (uH V) _ _,(uH N).2⟩
 ·exact((uH F).setCell (by simp) _).setCell (by simp) _
theorem wV(t z:Bool)(F G:Option Addr)(H I:Nat)(A B:List Nat)(w:World)(hA:af w F H A)(hB:af w G I B)(la:A.length≤35184372088830)(lb:B.length≤35184372088830):
  Calls Tryz.prog 165 #[.agg #[.bool t,.slice F A.length H],.agg #[.bool z,.slice G B.length I]] w fun e d=>∃v,e=.returned v∧aP (max A.length B.length+1) w.heap.size d v (aj t A-aj z B)∧Below w.heap.size w d:=by
 go_enter Tryz.func165,Tryz.ntmps165
 go_wp2
 refine aG (fun W=>Below w.heap.size w W∧W.heap.size=w.heap.size+3∧aC W w.heap.size (.bool t) (.slice F A.length H)∧aC W (w.heap.size+1) (.bool z) (.slice G B.length I)∧aC W (w.heap.size+2) (.bool false) (.slice none 0 0)) ?_ ?_
 ·refine⟨((((Below.refl _ _).alloc (Nat.le_refl _) _).alloc (by simp) _).alloc (by simp;omega) _),by simp,((aC.new _ _ _).old _).old _,?_,?_⟩
  ·have:=(aC.new (w.alloc (.cells #[.bool t,.slice F A.length H] 55)) (.bool z) (.slice G B.length I)).old (.cells #[.bool false,.slice none 0 0] 55)
   simpa using this
  ·have:=aC.new ((w.alloc (.cells #[.bool t,.slice F A.length H] 55)).alloc (.cells #[.bool z,.slice G B.length I] 55)) (.bool false) (.slice none 0 0)
   simpa using this
 rintro O ⟨D,Q,Y,Z,x2⟩
 have hK:∀d,Below (w.heap.size+2) O d→Below (w.heap.size+2) O d∧d.cell? ⟨w.heap.size,0,none⟩=some (.bool t)∧d.cell? ⟨w.heap.size,1,none⟩=some (.slice F A.length H)∧d.cell? ⟨w.heap.size+1,0,none⟩=some (.bool z)∧d.cell? ⟨w.heap.size+1,1,none⟩=some (.slice G B.length I):=fun d h=>
  ⟨h,(Y.below h (by omega)).c0,(Y.below h (by omega)).c1,(Z.below h (by omega)).c0,(Z.below h (by omega)).c1⟩
 have T:=ac hK
 have HA:=ac (hA.below D)
 have HB:=ac (hB.below D)
 have X2:=ac x2
 have U:=ac D
 clear hK hA hB Y Z x2 D
 go_region_held3(fun d=>Below (w.heap.size+2) O d∧d.cell? ⟨w.heap.size,0,none⟩=some (.bool t)∧d.cell? ⟨w.heap.size,1,none⟩=some (.slice F A.length H)∧d.cell? ⟨w.heap.size+1,0,none⟩=some (.bool z)∧d.cell? ⟨w.heap.size+1,1,none⟩=some (.slice G B.length I))
  (first|exact uH T _ (Below.refl _ _).drew|exact uH T _ (by assumption)|exact uH T _ ((M.setCell (by simp) _).setCell (by simp) _))
  (first|(go_at_call 115;refine(o0 z G I B _ ((uH HB).below ((Below.refl _ _).drew)) lb).mono ?_;rintro e w1 ⟨v,rfl,⟨n1,a1,c1,L1,rfl,i1⟩,l⟩;have V:Below (w.heap.size+2) O w1:=((Below.refl _ _).drew).trans (l.mono (by simp[Q]));have X3:=ac ((uH X2).drew.below l (by simp[Q]));have G1:=ac i1;have X:=ac ((uH HA).below (((Below.refl _ _).drew).trans l));have L4:L1.length≤B.length:=i1.2.2.2.2.2;have L:=l.size;clear i1 l)|(go_at_call 92;refine(wT t n1 F a1 H c1 A L1 _ (uH X) (uH G1).1 la (by omega)).mono ?_;rintro e w2 ⟨v,rfl,⟨n2,a2,c2,L2,rfl,i2⟩,J⟩;have M:Below (w.heap.size+2) O w2:=V.trans (J.mono (by simp at L;omega));have N:=(uH X3).below J (by simp at L;omega);have y0:=N.c0;have y1:=N.c1;have f0:=N.free 0;have f1:=N.free 1;have I1:=ac i2;clear i2 J N))
 have hz:aj t A+aj n1 L1=aj t A-aj z B:=by
  have g:=uH G1
  rw[ie g.2.2.2.1 g.2.2.2.2.1];omega
 have HI:=ac (hz▸uH I1)
 clear hz
 go_wp2
 refine bodyPost_ret (v:=.agg #[.bool n2,.slice a2 L2.length c2]) (by simp[results,Tryz.results165,go_sem,y0,y1]) rfl ⟨.agg #[.bool n2,.slice a2 L2.length c2],rfl,?_,?_⟩
 ·exact(aP.stored (uH HI) (by simp at L;simp;omega) (by simp at L;simp;omega) (by simp at L;omega) _ _).more (by omega)
 ·exact(((uH U).trans (M.mono (by omega))).setCell (by simp;omega) _).setCell (by simp;omega) _
end Go.Proofs.YtmpkkhackbpflaaGreatDoor
namespace Go.Proofs.YtmpkkhackbpflaaGreatDoor
open Go.RowKit
theorem bits_nat(a b:Int):∃y:Nat,y<4294967296∧bits BinOp.xor IntKind.u32 a b=(y:Int):=by
 refine⟨(bits BinOp.xor IntKind.u32 a b).toNat,?_,?_⟩
 all_goals
  have h:0≤bits BinOp.xor IntKind.u32 a b∧bits BinOp.xor IntKind.u32 a b<4294967296:=by
   simp only[bits,IntKind.wrap,IntKind.signed,IntKind.bits]
   simp
   omega
  omega
theorem JI{w:World}{d g n c:Nat}{S:List Nat}(h:w.ownsRow d 147 1 (.slice (some ⟨g,0,none⟩) n c) n (S.map d6))(t:bM S):af w (some ⟨g,0,none⟩) c S∧S.length=n∧d≤g∧g<w.heap.size:=by
 obtain⟨G,z,l,D,H,F⟩:=iQ h t
 simp only[Value.slice.injEq]at l
 obtain⟨rfl,_,rfl⟩:=l
 exact⟨D,F,h.lt g rfl⟩
def o4(v:Nat)(m:Int):Nat:=if 0≤m then v*2^m.toNat else v/2^(-m).toNat
theorem oF(neg:Bool)(L:List Nat)(n:Int):qJ neg L n=sg neg (o4 (val L) n):=rfl
theorem o6(m:Int):o4 0 m=0:=by unfold o4;split<;>simp
theorem F2(v:Nat):o4 v 0=v:=by unfold o4;simp
theorem CH(v:Nat)(m:Int)(h:32≤m):o4 (4294967296*v) (m-32)=o4 v m:=by
 unfold o4
 rw[if_pos (by omega),if_pos (by omega),show m.toNat=32+(m-32).toNat by omega,Nat.pow_add,←Nat.mul_assoc,Nat.mul_comm v,show(2:Nat)^32=4294967296 from rfl]
theorem F3(v:Nat)(m:Int)(h:1≤m):o4 (v+v) (m-1)=o4 v m:=by
 unfold o4
 rw[if_pos (by omega),if_pos (by omega),show m.toNat=1+(m-1).toNat by omega,Nat.pow_add,←Nat.mul_assoc,show v*2^1=v+v by omega]
theorem CJ(v:Nat)(m:Int)(h:m≤-32):o4 (v/4294967296) (m+32)=o4 v m:=by
 unfold o4
 rw[if_neg (show¬0≤m by omega),show(-m).toNat=32+(-(m+32)).toNat by omega,Nat.pow_add,←Nat.div_div_eq_div_mul,show(2:Nat)^32=4294967296 from rfl]
 by_cases d:0≤m+32
 ·rw[if_pos d,show(m+32).toNat=0 by omega,show(-(m+32)).toNat=0 by omega];simp
 ·rw[if_neg d]
theorem F4(v:Nat)(m:Int)(h:m≤-1):o4 (v/2) (m+1)=o4 v m:=by
 unfold o4
 rw[if_neg (show¬0≤m by omega),show(-m).toNat=1+(-(m+1)).toNat by omega,Nat.pow_add,←Nat.div_div_eq_div_mul,show(2:Nat)^1=2 from rfl]
 by_cases d:0≤m+1
 ·rw[if_pos d,show(m+1).toNat=0 by omega,show(-(m+1)).toNat=0 by omega];simp
 ·rw[if_neg d]
theorem F5(d:Bool)(v:Nat)(m:Int):sg (decide (sg d v<0)) (o4 v m)=sg d (o4 v m):=by
 by_cases h:v=0
 ·subst h;rw[o6];unfold sg;simp
 ·have:decide (sg d v<0)=d:=by unfold sg;cases d<;>simp<;>omega
  rw[this]
theorem ke(d:Bool)(v:Nat):(sg d v).natAbs=v:=by unfold sg;cases d<;>simp
def As(w wr:World)(z m:Int)(nn:Bool)(a:Option Addr)(c:Nat)(L:List Nat):Prop:=
 aC wr w.heap.size (.bool nn) (.slice a L.length c)∧aC wr (w.heap.size+1) (.bool false) (.slice none 0 0)∧af wr a c L∧bZ L∧(nn=true→L≠ [])∧L.length+m.toNat≤20000∧sg nn (o4 (val L) m)=z∧Below w.heap.size w wr
theorem aC.put{w:World}{b:Nat}{x y:Value}(h:aC w b x y)(u u':Value):aC ((w.setCell ⟨b,0,none⟩ u).setCell ⟨b,1,none⟩ u') b u u':=by
 have d:=heap_setCell_same w b 0 _ _ u h
 have l:=heap_setCell_same (w.setCell ⟨b,0,none⟩ u) b 1 _ _ u' d
 unfold aC
 rw[l]
 simp
theorem As.step{w h:World}{z m x:Int}{H J D:Bool}{L a':Option Addr}{N O F v M B:Nat}{d:List Nat}
  (I:aC h w.heap.size (.bool J) (.slice L N O)) (Q:aC h (w.heap.size+1) (.bool false) (.slice none 0 0))
  (i:af h a' F d∧bB B a' d∧bZ d∧D=decide (x<0)∧val d=x.natAbs∧d.length≤M) (T:x=sg H v) (U:sg H (o4 v m)=z) (Y:M+m.toNat≤20000) (l:Below w.heap.size w h):
  As w ((h.setCell ⟨w.heap.size,0,none⟩ (.bool D)).setCell ⟨w.heap.size,1,none⟩ (.slice a' d.length F)) z m D a' F d:=by
 obtain⟨V,Z,X,G,t,i6⟩:=i
 subst T
 rw[ke]at t
 refine⟨I.put _ _,(Q.other (by simp) _).other (by simp) _,V.box I _ _,X,?_,by omega,?_,(l.setCell (by simp) _).setCell (by simp) _⟩
 ·rintro e rfl
  rw[e]at G
  simp[val]at t
  have:=of_decide_eq_true G.symm
  rw[←t]at this
  unfold sg at this
  simp at this
 ·rw[G,t,F5];exact U
theorem As.last{w wr:World}{z m:Int}{d:Bool}{a:Option Addr}{c:Nat}{L:List Nat}(h:As w wr z m d a c L)(t:m=0∨L= []):ar 0 wr (.agg #[.bool d,.slice a L.length c]) z:=by
 obtain⟨H,I,F,G,J,M,l,N⟩:=h
 by_cases D:L= []
 ·subst D
  have:d=false:=by cases d<;>simp_all
  subst this
  simp only[val,o6]at l
  rw[←l]
  exact ar.zero _ _ _ _
 ·rcases t with rfl|t
  ·rw[F2]at l
   rw[←l,←eU]
   exact ar.mk F (bB.zero F) G D (by omega)
  ·exact absurd t D
theorem af.drop1{w:World}{b d c:Nat}{L:List Nat}(h:af w (some ⟨b,d,none⟩) c L):af w (some ⟨b,d+1,none⟩) (c-1) (L.drop 1):=by
 refine⟨by have:=h.1;simp;omega,fun x z=>h.2.1 x (List.mem_of_mem_drop z),?_⟩
 rcases h.2.2 with F|⟨I,l,t,G,H⟩
 ·left;simp[F]
 ·simp only[Option.some.injEq,Addr.mk.injEq,and_true]at t
  obtain⟨rfl,rfl⟩:=t
  refine .inr ⟨b,d+1,rfl,G,fun i D=>?_⟩
  simp at D
  have:=H (i+1) (by omega)
  rw[show d+1+i=d+(i+1) by omega,this,List.getElem?_drop,Nat.add_comm 1 i]
theorem rt(neg:Bool)(b d c:Nat)(L:List Nat)(w:World)(h:af w (some ⟨b,d,none⟩) c L)(F:L.length≤30000):
  Calls Tryz.prog 141 #[.bool neg,.slice (some ⟨b,d+1,none⟩) (L.length-1) (c-1)] w fun e l=>∃v,e=.returned v∧aP L.length 0 l v (sg neg (val L/4294967296))∧Below w.heap.size w l:=by
 have:=dI 0 neg _ _ (L.drop 1) w h.drop1 (bB.zero h.drop1) (by simp;omega)
 rw[eU,t9 L h.2.1 1]at this
 simp only[List.length_drop,Nat.pow_one]at this
 exact this.mono fun e l ⟨v,t,z,D⟩=>⟨v,t,z.more (by omega),D⟩
theorem o7(neg:Bool)(b d:Nat)(L:List Nat)(w:World)(h:af w (some ⟨b,d,none⟩) 1 L):
  Calls Tryz.prog 141 #[.bool neg,.slice (some ⟨b,d,none⟩) 0 0] w fun e l=>∃v,e=.returned v∧aP L.length 0 l v (sg neg (val L/4294967296))∧Below w.heap.size w l:=by
 have:=dI 0 neg (some ⟨b,d,none⟩) 0 [] w (af.nil _ _ _) (.inl rfl) (by simp)
 have F:val L/4294967296=0:=by
  have t:=eW L h.2.1
  have z:=Nat.pow_le_pow_right (n:=4294967296) (by decide) h.1
  exact Nat.div_eq_of_lt (by omega)
 rw[F]
 rw[eU]at this
 exact this.mono fun e l ⟨v,t,z,D⟩=>⟨v,t,z.more (by simp),D⟩
theorem o8(L:List Nat):val (0::L)=4294967296*val L:=by simp[val]
attribute [local go_sem ↓] Go.wp_at_zero Go.wp_at_succ
theorem bP.cells{w:World}{b d l:Nat}{R:List Nm}(h:bP w (some ⟨b,d,none⟩) l R){k:Nat}(z:k<R.length):w.cell? ⟨b,d+k*2,none⟩=some (.bool (bT R k).neg)∧w.cell? ⟨b,d+k*2+1,none⟩=some (.slice (bT R k).ao (bT R k).L.length (bT R k).cap):=by
 obtain⟨F,t,e,_,D⟩:=h.ne (by omega)
 simp only[Option.some.injEq,Addr.mk.injEq,and_true]at e
 obtain⟨rfl,rfl⟩:=e
 exact D k z
end Go.Proofs.YtmpkkhackbpflaaGreatDoor
