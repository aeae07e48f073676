/- Part 30 of the texts. -/
import Derived.Test.YtenpggicmfhhdaaGreatDoorParte29
set_option maxHeartbeats 4000000
set_option maxRecDepth 20000
namespace Go.Proofs.YtenpggicmfhhdaaGreatDoor
open Go.RowKit
attribute [local go_sem ↓] Go.wp_at_zero Go.wp_at_succ
def cR(I:List Int):List Nat:=I.map Int.toNat
theorem f7(I:List Int):(cR I).length=I.length:=by simp[cR]
theorem wJ{w:World}{d:Option Addr}{c:Nat}{I:List Int}(h:ab w d c I):(cR I).map (fun x:Nat=>(x:Int))=I:=by
 unfold cR
 rw[List.map_map]
 refine(List.map_congr_left fun x f=>?_).trans (List.map_id I)
 have:=h.2.1 x f
 simp
 omega
theorem Du{w:World}{d:Option Addr}{c:Nat}{I:List Int}(h:ab w d c I):∀x∈cR I,x<18446744073709551616:=by
 intro x l
 obtain⟨y,f,rfl⟩:=List.mem_map.1 l
 have:=h.2.1 y f
 omega
theorem append_nil(w:World)(d:TypeId)(g c:Nat):
  (Builtin.append_ #[22,22] d #[.slice (some ⟨g,0,none⟩) 0 0,.slice none 0 c]).run Tryz.prog w=.ok (.slice (some ⟨g,0,none⟩) 0 0) w:=by
 simp[Builtin.append_,go_sem]
theorem wK(w:World)(d:Nat)(G:TypeId)(H:Option Addr)(c:Nat)(I:List Int)(g:Nat)(h:ab w H c I)(Z:I.length≤17592186043904)(f:w.ownsRow d 30 1 (.slice (some ⟨g,0,none⟩) 0 0) 0 [])(l:d≤w.heap.size):
  ∃A D z,(Builtin.append_ #[22,22] G #[.slice (some ⟨g,0,none⟩) 0 0,.slice H I.length c]).run Tryz.prog w=.ok (.slice A I.length D) z∧bK d z (.slice A I.length D) (cR I)∧w.grownBy z (some g):=by
 obtain⟨V,X,L,M,N⟩:=info_parts gO
 cases H with
 |none=>
  have U:I= []:=by
   rcases h.2.2 with e|⟨b,t,e,_⟩
   ·exact e
   ·cases e
  subst U
  refine⟨some ⟨g,0,none⟩,0,w,append_nil w G g c,⟨f,by simp[cR]⟩,?_⟩
  exact⟨rfl,rfl,rfl,Nat.le_refl _,fun k _ _=>rfl⟩
 |some a=>
  have m:∀j u,((cR I).map fY)[j]? =some u→w.cell? (a.add j)=some u:=by
   intro j u y
   rw[List.getElem?_map]at y
   have Q:j<I.length:=by
    rcases Nat.lt_or_ge j I.length with e|e
    ·exact e
    ·rw[List.getElem?_eq_none (by rw[f7];exact e)]at y;cases y
   obtain⟨b,t,F,T,O⟩:=h.ne (by omega)
   cases F
   rw[show(⟨b,t,none⟩:Addr).add j=⟨b,t+j,none⟩ by simp[Addr.add],O j Q]
   rw[←y]
   simp[cR,Q,fY,aP]
  obtain⟨Y,z,F,T,O,e4,e5⟩:=run_append_own_at (P:=Tryz.prog) w d 22 G 30 V (.int .u64 0) 1 8 Tryz.underlying22 X L M N rfl (by decide) _ 0 [] f a I.length c ((cR I).map fY) (by simp[cR]) m (fun u y=>by
   obtain⟨x,_,rfl⟩:=List.mem_map.1 y
   rfl) (by unfold maxLen;omega) (by omega) l
  have K:bK d z Y (cR I):=⟨by
   rw[f7]
   simpa using T,Du h⟩
  obtain⟨A,D,rfl,_⟩:=K.bits
  rw[f7]at F K
  exact⟨A,D,z,F,K,O⟩
theorem ab.other{w:World}{f:Option Addr}{c:Nat}{I:List Int}(h:ab w f c I){p:Addr}(y:I= []∨∃b d,f=some ⟨b,d,none⟩∧b≠p.block)(u:Value):ab (w.setCell p u) f c I:=by
 refine⟨h.1,h.2.1,?_⟩
 rcases h.2.2 with e|⟨b,d,m,A,D⟩
 ·exact .inl e
 rcases y with e|⟨G,t,l,F⟩
 ·exact .inl e
 rw[m]at l
 simp only[Option.some.injEq,Addr.mk.injEq]at l
 obtain⟨rfl,rfl,_⟩:=l
 refine .inr ⟨b,d,m,by simpa[World.setCell]using A,fun i z=>?_⟩
 rw[ak _ _ _ _ F]
 exact D i z
theorem zQ(F G:Option Addr)(c d:Nat)(I:List Int)(w:World)(H:ab w F c I)(K:ab w G d I)(L:I.length≤35184372088830):
  Calls Tryz.prog 21 #[.slice F I.length c,.slice G I.length d] w fun e M=>e=.returned (.bool true)∧Below w.heap.size w M:=by
 have N:=aa H;have O:=aa K
 obtain⟨n,f⟩:∃n,I.length=n:=⟨_,rfl⟩
 rw[f]at L⊢
 have t:=aa f
 clear H K f
 go_enter Tryz.func21,Tryz.ntmps21
 go_wp2_with fail
 go_loopw[5] (fun i wr=>∃k:Nat,k≤n∧i=.int .i64 k∧Hid (Below w.heap.size w wr)) (fun i _=>n-(intOf i).toNat)
 case atStart=>exact⟨0,Nat.zero_le _,rfl,Below.refl _ _⟩
 case round=>
  obtain⟨k,Y,rfl,y⟩:=hrel
  by_cases h:k<n
  ·have Q:(k:Int)<(n:Int):=by omega
   obtain⟨Z,o1,A,T,l⟩:=((uH N).below y.out).ne (by rw[uH t];omega)
   obtain⟨b2,o2,D,U,m⟩:=((uH O).below y.out).ne (by rw[uH t];omega)
   have V:=l k (by rw[uH t];exact h)
   have X:=m k (by rw[uH t];exact h)
   subst A
   subst D
   clear l m
   generalize aP I k=x at*
   go_wp2_with fail
   go_quiet (fail)
   go_wp2_with fail
   go_round
   case rel=>exact⟨k+1,by omega,by go_num,aa (below_drewN y.out _)⟩
   case measure=>simp[intOf];omega
  ·have z:k=n:=by omega
   subst z
   go_wp2_with fail
   exact bodyPost_ret (v:=.bool true) (by simp[results,Tryz.results21,go_sem]) rfl ⟨rfl,y.out⟩
def bR(H:Nat)(ao:Option Addr)(I:List Int):Prop:=I= []∨∃b off,ao=some ⟨b,off,none⟩∧H≤b
theorem ab.far{H:Nat}{w:World}{d:Option Addr}{c:Nat}{I:List Int}(h:ab w d c I)(m:bR H d I){b:Nat}(y:b<H)(j:Nat)(u:Value):ab (w.setCell ⟨b,j,none⟩ u) d c I:=by
 refine h.other ?_ u
 rcases m with e|⟨l,f,t,z⟩
 ·exact .inl e
 ·exact .inr ⟨l,f,t,by show l≠b;omega⟩
def au(w:World)(b:Nat)(x y z:Value):Prop:=w.heap[b]? =some (.cells #[x,y,z] 24 (0,0))
theorem au.c0{w:World}{b:Nat}{x y z:Value}(h:au w b x y z):w.cell? ⟨b,0,none⟩=some x:=by rw[cell_of_row w b 0 _ _ _ h];rfl
theorem au.c1{w:World}{b:Nat}{x y z:Value}(h:au w b x y z):w.cell? ⟨b,1,none⟩=some y:=by rw[cell_of_row w b 1 _ _ _ h];rfl
theorem au.c2{w:World}{b:Nat}{x y z:Value}(h:au w b x y z):w.cell? ⟨b,2,none⟩=some z:=by rw[cell_of_row w b 2 _ _ _ h];rfl
theorem au.free{w:World}{b:Nat}{x y z:Value}(h:au w b x y z)(j:Nat):w.frozen? ⟨b,j,none⟩=false:=frozen_of_row w b j _ _ h
theorem au.lt{w:World}{b:Nat}{x y z:Value}(h:au w b x y z):b<w.heap.size:=(Array.getElem?_eq_some_iff.1 h).1
theorem au.below{w f:World}{b:Nat}{x y z:Value}(h:au w b x y z){B:Nat}(l:Below B w f)(d:b<B):au f b x y z:=(l.block b d).trans h
theorem au.new(w:World)(x y z:Value):au (w.alloc (.cells #[x,y,z] 24)) w.heap.size x y z:=heap_alloc_new w _
theorem au.all{w d:World}{b:Nat}{x y z:Value}(h:au w b x y z)(f:Below w.heap.size w d):au d b x y z:=h.below f h.lt
theorem au.other{w:World}{b:Nat}{x y z:Value}(h:au w b x y z){p:Addr}(d:b≠p.block)(u:Value):au (w.setCell p u) b x y z:=(Below.heap_setCell w p u b d).trans h
theorem au.put{w:World}{b:Nat}{x y z:Value}(h:au w b x y z)(u u' u'':Value):au (((w.setCell ⟨b,0,none⟩ u).setCell ⟨b,1,none⟩ u').setCell ⟨b,2,none⟩ u'') b u u' u'':=by
 have d:=heap_setCell_same w b 0 _ _ u h
 have f:=heap_setCell_same (w.setCell ⟨b,0,none⟩ u) b 1 _ _ u' d
 have l:=heap_setCell_same ((w.setCell ⟨b,0,none⟩ u).setCell ⟨b,1,none⟩ u') b 2 _ _ u'' f
 unfold au
 rw[l]
 simp
theorem al{w f:World}{B b:Nat}(h:Below B w f)(d:B≤b)(u u' u'':Value):Below B w (((f.setCell ⟨b,0,none⟩ u).setCell ⟨b,1,none⟩ u').setCell ⟨b,2,none⟩ u''):=
 ((h.setCell d _).setCell d _).setCell d _
theorem au.grown{w d:World}{b:Nat}{x y z:Value}(h:au w b x y z){o:Option Nat}(f:w.grownBy d o)(l:o≠some b):au d b x y z:=
 (f.block b h.lt l.symm).trans h
def AU(r c:Int):Bool:=decide (0≤r∧r≤6∧0≤c∧c≤6)
def jA(r c:Int)(n:Nat):Bool:=decide ((0≤r∧r≤6∧0≤c∧c≤6)∧(n:Int)=r*c)
theorem kY(r c:Int)(w:World):
  Calls Tryz.prog 29 #[.int .i64 r,.int .i64 c] w fun e d=>e=.returned (.bool (AU r c))∧w=d:=by
 rcases(show(r<0∧AU r c=false)∨(0≤r∧6<r∧AU r c=false)∨(0≤r∧r≤6∧c<0∧AU r c=false)∨(0≤r∧r≤6∧0≤c∧6<c∧AU r c=false)∨(0≤r∧r≤6∧0≤c∧c≤6∧AU r c=true) by
  unfold AU
  by_cases h:0≤r∧r≤6∧0≤c∧c≤6
  ·rw[decide_eq_true h];simp;omega
  ·rw[decide_eq_false h];simp;omega)with⟨h1,e⟩|⟨h1,h2,e⟩|⟨h1,h2,h3,e⟩|⟨h1,h2,h3,h4,e⟩|⟨h1,h2,h3,h4,e⟩
 all_goals
  rw[e]
  clear e
  go_enter Tryz.func29,Tryz.ntmps29
  go_wp2
  go_ret
  refine⟨?_,rfl⟩
  first|rfl|(simp;omega)
theorem ey(r c:Int)(G:Option Addr)(n z:Nat)(w:World)(L:n≤35184372088830):
  Calls Tryz.prog 19 #[.agg #[.int .i64 r,.int .i64 c,.slice G n z]] w fun e A=>e=.returned (.int .i64 (if jA r c n=true then 0 else 1))∧Below w.heap.size w A:=by
 have f:=aa (fun A=>kY r c A)
 have t:=aa (ac w (.cells #[.int .i64 r,.int .i64 c,.slice G n z] 24))
 by_cases d:0≤r∧r≤6∧0≤c∧c≤6
 ·have y:AU r c=true:=decide_eq_true d
  rw[y]at f
  have D:∃m:Nat,r*c=(m:Int)∧m≤36:=by
   obtain⟨a,rfl⟩:=Int.eq_ofNat_of_zero_le d.1
   obtain⟨b,rfl⟩:=Int.eq_ofNat_of_zero_le d.2.2.1
   refine⟨a*b,by simp,?_⟩
   have:a*b≤6*6:=Nat.mul_le_mul (by omega) (by omega)
   omega
  obtain⟨m,D,K⟩:=D
  by_cases F:n=m
  ·have l:jA r c n=true:=decide_eq_true ⟨d,by rw[D,F]⟩
   rw[if_pos l]
   subst F
   clear y l d
   go_enter Tryz.func19,Tryz.ntmps19
   go_wp2_with fail
   refine(uH f _).mono ?_
   rintro e H ⟨rfl,rfl⟩
   clear f
   go_wp2
   go_ret
   exact⟨rfl,uH t⟩
  ·have l:jA r c n=false:=decide_eq_false (fun h=>F (by have:=h.2;omega))
   rw[if_neg (by rw[l];decide)]
   have I:decide ((n:Int)=(m:Int))=false:=decide_eq_false (by omega)
   clear y l d
   go_enter Tryz.func19,Tryz.ntmps19
   go_wp2_with fail
   refine(uH f _).mono ?_
   rintro e H ⟨rfl,rfl⟩
   clear f
   go_wp2
   go_ret
   exact⟨rfl,uH t⟩
 ·have y:AU r c=false:=decide_eq_false d
  rw[y]at f
  have l:jA r c n=false:=decide_eq_false (fun h=>d h.1)
  rw[if_neg (by rw[l];decide)]
  clear y l d
  go_enter Tryz.func19,Tryz.ntmps19
  go_wp2_with fail
  refine(uH f _).mono ?_
  rintro e H ⟨rfl,rfl⟩
  clear f
  go_wp2
  go_ret
  exact⟨rfl,uH t⟩
end Go.Proofs.YtenpggicmfhhdaaGreatDoor
namespace Go.Proofs.YtenpggicmfhhdaaGreatDoor
open Go.RowKit
def ar(S:List Nat):List Int:=S.map (fun x:Nat=>(x:Int))
theorem aq(S:List Nat):(ar S).length=S.length:=by simp[ar]
theorem fc(S:List Nat)(j:Nat):aP (ar S) j=S.getD j 0:=by
 unfold ar aP
 rw[List.getElem?_map,List.getD_eq_getElem?_getD]
 cases S[j]? <;>simp
theorem iH{w:World}{d:Option Addr}{c:Nat}{I:List Int}(h:ab w d c I):ar (cR I)=I:=wJ h
theorem zR(S:List Nat):cR (ar S)=S:=by
 unfold cR ar
 rw[List.map_map]
 refine(List.map_congr_left fun x _=>?_).trans (List.map_id S)
 simp
theorem ab.nat{w:World}{d:Option Addr}{c:Nat}{S:List Nat}(h:ab w d c (ar S)):∀x∈S,x<18446744073709551616:=by
 intro x f
 have:=h.2.1 (x:Int) (List.mem_map.2 ⟨x,f,rfl⟩)
 omega
theorem ab.none(w:World)(c:Nat):ab w .none c (ar []):=⟨by simp[ar],by simp[ar],.inl rfl⟩
theorem ab.nilAt(w:World)(d:Option Addr)(c:Nat):ab w d c (ar []):=⟨by simp[ar],by simp[ar],.inl rfl⟩
theorem ab.putM{w:World}{t:Option Addr}{c:Nat}{I:List Int}(h:ab w t c I){g:Nat}{x y:Int}{a:Option Addr}{n d:Nat}(D:au w g (.int .i64 x) (.int .i64 y) (.slice a n d))(u u' u'':Value):
  ab (((w.setCell ⟨g,0,.none⟩ u).setCell ⟨g,1,.none⟩ u').setCell ⟨g,2,.none⟩ u'') t c I:=by
 refine⟨h.1,h.2.1,?_⟩
 rcases h.2.2 with H|⟨b,f,K,L,A⟩
 ·exact .inl H
 ·by_cases z:I= []
  ·exact .inl z
  ·have G:0<I.length:=List.length_pos_iff.2 z
   have l:b≠g:=by
    rintro rfl
    have m:=A 0 G
    rw[cell_of_row w b (f+0) _ _ _ D]at m
    rcases(show f=0∨f=1∨f=2∨3≤f by omega)with e|e|e|e
    ·subst e;simp at m
    ·subst e;simp at m
    ·subst e;simp at m
    ·rw[Array.getElem?_eq_none (by simp;omega)]at m;simp at m
   refine .inr ⟨b,f,K,by simpa[World.setCell]using L,fun i F=>?_⟩
   rw[ak _ _ _ _ (by simpa using l),ak _ _ _ _ (by simpa using l),ak _ _ _ _ (by simpa using l)]
   exact A i F
def Mx(w:World)(ao:Option Addr)(cap r c:Nat)(S:List Nat):Prop:=ab w ao cap (ar S)∧S.length=r*c∧r≤6∧c≤6
theorem Mx.below{w f:World}{l:Option Addr}{d r c:Nat}{S:List Nat}(h:Mx w l d r c S)(m:Below w.heap.size w f):Mx f l d r c S:=⟨h.1.below m,h.2⟩
theorem Mx.small{w:World}{f:Option Addr}{d r c:Nat}{S:List Nat}(h:Mx w f d r c S):S.length≤36:=by
 rw[h.2.1]
 exact Nat.mul_le_mul h.2.2.1 h.2.2.2
theorem Mx.el_lt{w:World}{f:Option Addr}{d r c:Nat}{S:List Nat}(h:Mx w f d r c S)(i k:Nat):dJ c S i k<18446744073709551616:=by
 unfold dJ
 rw[List.getD_eq_getElem?_getD]
 by_cases g:i*c+k<S.length
 ·rw[List.getElem?_eq_getElem g];exact h.1.nat _ (List.getElem_mem g)
 ·rw[List.getElem?_eq_none (by omega)];decide
theorem Mx.cells{w:World}{l:Option Addr}{f r c:Nat}{S:List Nat}(h:Mx w l f r c S){i k:Nat}(t:i<r)(y:k<c):∃b d,l=some ⟨b,d,.none⟩∧b<w.heap.size∧w.cell? ⟨b,d+(i*c+k),.none⟩=some (.int .u64 (dJ c S i k:Nat))∧i*c+k<S.length:=by
 have m:i*c+k<S.length:=by rw[h.2.1];exact cY t y
 obtain⟨b,d,z,A,D⟩:=h.1.ne (by rw[aq];omega)
 refine⟨b,d,z,A,?_,m⟩
 rw[D _ (by rw[aq];exact m),fc]
 rfl
theorem mX{w:World}{f:Option Addr}{d r c:Nat}{S:List Nat}(h:Mx w f d r c S):jA (r:Int) (c:Int) S.length=true:=by
 refine decide_eq_true ⟨⟨by omega,?_,by omega,?_⟩,?_⟩
 ·have:=h.2.2.1;omega
 ·have:=h.2.2.2;omega
 ·rw[h.2.1];simp
theorem Mx.of{w:World}{f:Option Addr}{d:Nat}{I:List Int}{r c:Int}(h:ab w f d I)(l:jA r c I.length=true):∃p q:Nat,r=(p:Int)∧c=(q:Int)∧Mx w f d p q (cR I)∧ar (cR I)=I:=by
 obtain⟨⟨m,y,t,z⟩,A⟩:=of_decide_eq_true l
 obtain⟨p,rfl⟩:=Int.eq_ofNat_of_zero_le m
 obtain⟨q,rfl⟩:=Int.eq_ofNat_of_zero_le t
 refine⟨p,q,rfl,rfl,⟨by rw[iH h];exact h,?_,by omega,by omega⟩,iH h⟩
 rw[f7]
 have:((p*q:Nat):Int)=(p:Int)*(q:Int):=by simp
 omega
def az(H:Nat)(w':World)(r c:Nat)(S:List Nat)(v:Value):Prop:=∃ao cap,v=.agg #[.int .i64 r,.int .i64 c,.slice ao S.length cap]∧bR H ao (ar S)∧ab w' ao cap (ar S)
theorem az.zero(H:Nat)(w:World):az H w 0 0 [] (.agg #[.int .i64 0,.int .i64 0,.slice .none 0 0]):=⟨.none,0,rfl,.inl rfl,ab.none w 0⟩
theorem az.least{H H':Nat}{w:World}{r c:Nat}{S:List Nat}{v:Value}(h:az H w r c S v)(l:H'≤H):az H' w r c S v:=by
 obtain⟨m,d,t,y,z⟩:=h
 refine⟨m,d,t,?_,z⟩
 rcases y with e|⟨b,f,A,D⟩
 ·exact .inl e
 ·exact .inr ⟨b,f,A,Nat.le_trans l D⟩
attribute [local go_sem ↓] Go.wp_at_zero Go.wp_at_succ
theorem Fk(r c n f b d i k q x:Nat)(w:World)(z:(i:Int)*(c:Int)=(q:Int))(m:q+k<n)(A:n≤36)
  (l:w.cell? ⟨b,d+(q+k),none⟩=some (.int .u64 (x:Nat))):
  Calls Tryz.prog 48 #[.agg #[.int .i64 r,.int .i64 c,.slice (some ⟨b,d,none⟩) n f],.int .i64 i,.int .i64 k] w fun e t=>e=.returned (.int .u64 (x:Nat))∧Below w.heap.size w t:=by
 have h:=aa (ac w (.cells #[.int .i64 r,.int .i64 c,.slice (some ⟨b,d,none⟩) n f] 24))
 have D:=ag l (uH h)
 clear l
 have y:(q:Int)+(k:Int)<(n:Int):=by omega
 go_enter Tryz.func48,Tryz.ntmps48
 go_wp2
 go_ret
 exact⟨rfl,uH h⟩
theorem bJ(i c:Nat):(i:Int)*(c:Int)=((i*c:Nat):Int):=by simp
theorem uR(r c d i k:Nat)(l:Option Addr)(S:List Nat)(w:World)(h:Mx w l d r c S)(m:i<r)(t:k<c):
  Calls Tryz.prog 48 #[.agg #[.int .i64 r,.int .i64 c,.slice l S.length d],.int .i64 i,.int .i64 k] w fun e y=>e=.returned (.int .u64 (dJ c S i k:Nat))∧Below w.heap.size w y:=by
 obtain⟨b,f,rfl,D,z,A⟩:=h.cells m t
 exact Fk r c S.length d b f i k (i*c) _ w (bJ i c) A h.small z
def Fl(c:Nat)(S:List Nat)(i:Nat):List Nat:=(List.range c).map (fun k=>dJ c S i k)
theorem lG(c:Nat)(S:List Nat)(i:Nat):(Fl c S i).length=c:=by simp[Fl]
theorem zS{w A:World}{l:Option Addr}{d r c:Nat}{S:List Nat}(h:Mx w l d r c S)(D:Below w.heap.size w A){i:Nat}(m:i<r):ab A (if d=i*c then l else l.map (·.add (i*c*1))) (d-i*c) (ar (Fl c S i)):=by
 have I:(i+1)*c≤S.length:=by rw[h.2.1];exact Nat.mul_le_mul_right c m
 rw[Nat.add_mul,Nat.one_mul]at I
 have K:=h.1.1
 rw[aq]at K
 refine⟨by rw[aq,lG];omega,?_,?_⟩
 ·intro x O
  obtain⟨y,L,rfl⟩:=List.mem_map.1 O
  obtain⟨k,_,rfl⟩:=List.mem_map.1 L
  have:=h.el_lt i k
  omega
 ·rcases Nat.eq_zero_or_pos c with e|e
  ·subst e;exact .inl rfl
  ·obtain⟨b,t,F,M,Q,T⟩:=(h.below D).cells m e
   refine .inr ⟨b,t+i*c,?_,M,fun k H=>?_⟩
   ·rw[if_neg (by omega),F]
    simp[Addr.add]
   ·have f:k<c:=by rwa[aq,lG]at H
    obtain⟨U,G,z,V,N,X⟩:=(h.below D).cells m f
    rw[F]at z
    simp only[Option.some.injEq,Addr.mk.injEq]at z
    obtain⟨rfl,rfl,_⟩:=z
    rw[Nat.add_assoc,N]
    simp[ar,Fl,f]
theorem bR.least{H H':Nat}{f:Option Addr}{I:List Int}(h:bR H f I)(l:H'≤H):bR H' f I:=by
 rcases h with e|⟨b,d,m,t⟩
 ·exact .inl e
 ·exact .inr ⟨b,d,m,Nat.le_trans l t⟩
theorem bK.newB{d:Nat}{w:World}{l:Option Addr}{n f:Nat}{S:List Nat}(h:bK d w (.slice l n f) S):bR d l (ar S):=by
 rcases h.1.2 with⟨_,y⟩|⟨g,m,z,t,A,_⟩
 ·exact .inl (by rw[List.length_eq_zero_iff.1 y];rfl)
 ·simp only[Value.slice.injEq]at t
  exact .inr ⟨g,0,t.1,A⟩
theorem kH(fn:Nat)(I:Array Value)(r c:Nat)(f:Nat→Nat→Nat)(w:World)
  (a3:∀K w,(callFunc fn K).run Tryz.prog w=.ok (.enter fn K) w) (hr:r≤6) (hc:c≤6) (hf:∀i k,i<r→k<c→f i k<18446744073709551616)
  (m:∀A i k,Below w.heap.size w A→i<r→k<c→Calls Tryz.prog fn (#[.int .i64 (i:Nat),.int .i64 (k:Nat)]++I) A fun e am=>e=.returned (.int .u64 (f i k:Nat))∧Below A.heap.size A am):
  Calls Tryz.prog 46 #[.int .i64 r,.int .i64 c,.func (.func fn) #[] I] w fun e A=>∃v,e=.returned v∧az w.heap.size A r c (dC r c f) v∧Below w.heap.size w A:=by
 obtain⟨i0,ax,aI,a0,a1⟩:=info_parts gO
 have HS:=aa m;have HF:=aa hf
 have hm:(r:Int)*(c:Int)=((r*c:Nat):Int):=bJ r c
 have a4:r*c≤36:=Nat.mul_le_mul hr hc
 have X0:=aa (au.new w (.int .i64 0) (.int .i64 0) (.slice none 0 0))
 have B0:=aa (ac w (.cells #[.int .i64 0,.int .i64 0,.slice none 0 0] 24))
 obtain⟨w1,a2,N,U⟩:=run_make_own (P:=Tryz.prog) (w.alloc (.cells #[.int .i64 0,.int .i64 0,.slice none 0 0] 24)) (w.heap.size+1) 22 30 i0 (.int .u64 0) 1 Tryz.underlying22 ax aI a0 .i64 .i64 (r*c) (by rw[a1];omega) (by unfold maxLen;omega) (by simp)
 have B1:=aa ((uH B0).grown U (by simp) (fun g hg=>by cases hg))
 have X1:au w1 w.heap.size (.int .i64 0) (.int .i64 0) (.slice none 0 0):=(uH X0).grown U (by simp)
 have O1:=aa (show bK (w.heap.size+1) w1 (.slice (some ⟨w.heap.size+1,0,none⟩) 0 (r*c)) (ib (fun p=>f (p/c) (p%c)) (0*c))from⟨by rw[Nat.zero_mul];simpa[ib]using N,by rw[Nat.zero_mul];intro x hx;cases hx⟩)
 have V:=aa X1
 clear N U X0 B0 X1
 obtain⟨F,hF⟩:∃F:Nat→Nat,F=fun p=>f (p/c) (p%c):=⟨_,rfl⟩
 rw[←hF]at O1
 have FV:=aa (show∀j k,k<c→F (j*c+k)=f j k from fun j k hk=>by rw[hF];show f ((j*c+k)/c) ((j*c+k)%c)=_;rw[fv hk,fw hk])
 have FM:=aa (show dC r c f=ib F (r*c)from by rw[hF];rfl)
 rw[uH FM]
 generalize aj:r*c=n at*
 have X:=aa aj
 clear aj m hf hF
 go_enter Tryz.func46,Tryz.ntmps46
 go_wp2_with fail
 clear a2
 go_loopw[7,15] (fun v i wr=>∃j:Nat,j≤r∧i=.int .i64 j∧Hid (bK (w.heap.size+1) wr v (ib F (j*c)))∧Hid (au wr w.heap.size (.int .i64 0) (.int .i64 0) (.slice none 0 0))∧Hid (Below w.heap.size w wr)) (fun _ i _=>r-(intOf i).toNat)
 case atStart=>exact⟨0,Nat.zero_le _,rfl,O1,V,B1⟩
 case round=>
  clear O1 V B1
  obtain⟨j,hj,rfl,l,d,z⟩:=hrel
  by_cases T:j<r
  ·have a5:(j:Int)<(r:Int):=by omega
   have D:=aa (show bK (w.heap.size+1) wr _ (ib F (j*c+0))from uH l)
   clear l
   go_wp2_with fail
   go_loopw[7,19] (fun v i wr=>∃k:Nat,k≤c∧i=.int .i64 k∧Hid (bK (w.heap.size+1) wr v (ib F (j*c+k)))∧Hid (au wr w.heap.size (.int .i64 0) (.int .i64 0) (.slice none 0 0))∧Hid (Below w.heap.size w wr)) (fun _ i _=>c-(intOf i).toNat)
   case atStart=>exact⟨0,Nat.zero_le _,rfl,D,d,z⟩
   case round=>
    clear D d z
    obtain⟨k,hk,rfl,l,d,z⟩:=hrel
    by_cases G:k<c
    ·have a6:(k:Int)<(c:Int):=by omega
     have C:=aa (fun A h=>uH HS A j k h T G)
     have ho:=aa (uH HF j k T G)
     have eo:=aa (uH FV j k G)
     have L:=aa (show(ib F (j*c+k)).length≤1000000 from by
      rw[eD]
      have:=cY T G
      rw[uH X]at this
      omega)
     generalize f j k=o at*
     go_wp2_with fail
     refine(uH C _ z.out).mono ?_
     rintro e w2 ⟨rfl,H⟩
     have M:=(uH l).below H
     have t:=(uH d).all H
     have B2:=z.out.trans (H.mono z.out.size)
     obtain⟨v3,w3,O,Q,y,_,_⟩:=M.push o (uH ho) (uH L) (by have:=t.lt;omega) 22
     have Y:=aa O
     have O3:=aa (show bK (w.heap.size+1) w3 v3 (ib F (j*c+(k+1)))from by
      rw[←Nat.add_assoc,iG,uH eo];exact Q)
     have X3:=aa (t.below y (by omega))
     have B3:=aa (B2.trans (y.mono (by omega)))
     clear H C l d z M t B2 O Q y ho eo L
     go_wp2_with(at_builtin;refine aX _ rfl _ _ 22 rfl _ _ _ _ rfl rfl (uH Y) ?_;clear Y)
     go_round
     case rel=>exact⟨k+1,by omega,by go_num,O3,X3,B3⟩
     case measure=>simp[intOf];omega
    ·have ao:k=c:=by omega
     subst ao
     have D:=aa (show bK (w.heap.size+1) _ _ (ib F ((j+1)*k))from by rw[Nat.add_mul,Nat.one_mul];exact uH l)
     clear l
     go_wp2_with fail
     go_round
     case rel=>exact⟨j+1,by omega,by go_num,D,d,z⟩
     case measure=>simp[intOf];omega
  ·have av:j=r:=by omega
   subst av
   rw[uH X]at l
   obtain⟨b1,d1,e1,q1⟩:=(uH l).bits
   have Z:=(uH l).1
   rw[eD]at e1
   subst e1
   have ae:=aa ((uH l).newB.least (Nat.le_succ w.heap.size))
   have s0:=(uH d).c0;have s1:=(uH d).c1;have s2:=(uH d).c2
   have f0:=(uH d).free 0;have f1:=(uH d).free 1;have f2:=(uH d).free 2
   have XP:=(uH d).put (.int .i64 j) (.int .i64 c) (.slice b1 n d1)
   have z0:=XP.c0;have z1:=XP.c1;have z2:=XP.c2
   have QP:=aa (q1.putM (uH d) (.int .i64 j) (.int .i64 c) (.slice b1 n d1))
   have BP:=aa (al (uH z) (Nat.le_refl _) (.int .i64 j) (.int .i64 c) (.slice b1 n d1))
   clear q1 Z l d z XP
   go_wp2
   exact bodyPost_ret (v:=.agg #[.int .i64 j,.int .i64 c,.slice b1 n d1]) (by simp[results,Tryz.results46,go_sem,z0,z1,z2]) rfl ⟨_,rfl,⟨b1,d1,by rw[eD],uH ae,uH QP⟩,uH BP⟩
end Go.Proofs.YtenpggicmfhhdaaGreatDoor
