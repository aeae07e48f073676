/- Part 22 of the texts. -/
import Derived.Test.YtdhmglmccafbnaaGreatDoorPartw21
set_option maxHeartbeats 4000000
set_option maxRecDepth 20000
namespace Go.Proofs.YtdhmglmccafbnaaGreatDoor
open Go.RowKit
attribute [local go_sem ↓] Go.wp_at_zero Go.wp_at_succ
def a8(I:List Int):List Nat:=I.map Int.toNat
theorem dE(I:List Int):(a8 I).length=I.length:=by simp[a8]
theorem pV{w:World}{d:Option Addr}{c:Nat}{I:List Int}(h:af w d c I):(a8 I).map (fun x:Nat=>(x:Int))=I:=by
 unfold a8
 rw[List.map_map]
 refine(List.map_congr_left fun x f=>?_).trans (List.map_id I)
 have:=h.2.1 x f
 simp
 omega
theorem EF{w:World}{d:Option Addr}{c:Nat}{I:List Int}(h:af w d c I):∀x∈a8 I,x<18446744073709551616:=by
 intro x l
 obtain⟨y,f,rfl⟩:=List.mem_map.1 l
 have:=h.2.1 y f
 omega
theorem append_nil(w:World)(d:TypeId)(g c:Nat):
  (Builtin.append_ #[23,23] d #[.slice (some ⟨g,0,none⟩) 0 0,.slice none 0 c]).run Tryz.prog w=.ok (.slice (some ⟨g,0,none⟩) 0 0) w:=by
 simp[Builtin.append_,go_sem]
theorem pW(w:World)(d:Nat)(K:TypeId)(L:Option Addr)(c:Nat)(I:List Int)(g:Nat)(h:af w L c I)(hl:I.length≤17592186043904)(f:w.ownsRow d 28 1 (.slice (some ⟨g,0,none⟩) 0 0) 0 [])(l:d≤w.heap.size):
  ∃G H w',(Builtin.append_ #[23,23] K #[.slice (some ⟨g,0,none⟩) 0 0,.slice L I.length c]).run Tryz.prog w=.ok (.slice G I.length H) w'∧br d w' (.slice G I.length H) (a8 I)∧w.grownBy w' (some g):=by
 obtain⟨Z,hi,N,O,Q⟩:=info_parts ky
 cases L with
 |none=>
  have Y:I= []:=by
   rcases h.2.2 with e|⟨b,D,e,_⟩
   ·exact e
   ·cases e
  subst Y
  refine⟨some ⟨g,0,none⟩,0,w,append_nil w K g c,⟨f,by simp[a8]⟩,?_⟩
  exact⟨rfl,rfl,rfl,Nat.le_refl _,fun k _ _=>rfl⟩
 |some a=>
  have z:∀j u,((a8 I).map gW)[j]? =some u→w.cell? (a.add j)=some u:=by
   intro j u F
   rw[List.getElem?_map]at F
   have V:j<I.length:=by
    rcases Nat.lt_or_ge j I.length with e|e
    ·exact e
    ·rw[List.getElem?_eq_none (by rw[dE];exact e)]at F;cases F
   obtain⟨b,D,J,X,U⟩:=h.ne (by omega)
   cases J
   rw[show(⟨b,D,none⟩:Addr).add j=⟨b,D+j,none⟩ by simp[Addr.add],U j V]
   rw[←F]
   simp[a8,V,gW,cd]
  obtain⟨v',w',J,X,U,e4,e5⟩:=run_append_own_at (P:=Tryz.prog) w d 23 K 28 Z (.int .u64 0) 1 8 Tryz.underlying23 hi N O Q rfl (by decide) _ 0 [] f a I.length c ((a8 I).map gW) (by simp[a8]) z (fun u F=>by
   obtain⟨x,_,rfl⟩:=List.mem_map.1 F
   rfl) (by unfold maxLen;omega) (by omega) l
  have M:br d w' v' (a8 I):=⟨by
   rw[dE]
   simpa using X,EF h⟩
  obtain⟨G,H,rfl,_⟩:=M.bits
  rw[dE]at J M
  exact⟨G,H,w',J,M,U⟩
def mn(w:World)(g n:Nat):Prop:=∃cur:Array Value,w.heap[g]? =some (.cells cur 28 (0,0))∧n≤cur.size∧∀j,j<n→∃z:Int,cur[j]? =some (.int .u64 z)
theorem mn.cell{w:World}{g n:Nat}(h:mn w g n){j:Nat}(d:j<n):∃z:Int,w.cell? ⟨g,j,none⟩=some (.int .u64 z):=by
 obtain⟨f,l,F,u⟩:=h
 obtain⟨z,D⟩:=u j d
 exact⟨z,by rw[cell_of_row w g j _ _ _ l];exact D⟩
theorem mn.free{w:World}{g n:Nat}(h:mn w g n)(j:Nat):w.frozen? ⟨g,j,none⟩=false:=by
 obtain⟨d,f,_⟩:=h
 exact frozen_of_row w g j _ _ f
theorem mn.set{w:World}{g n:Nat}(h:mn w g n)(b j:Nat)(z:Int):mn (w.setCell ⟨b,j,none⟩ (.int .u64 z)) g n:=by
 obtain⟨d,l,u,D⟩:=h
 by_cases e:g=b
 ·subst e
  refine⟨d.setIfInBounds j (.int .u64 z),heap_setCell_same w g j _ _ _ l,by simpa using u,fun i F=>?_⟩
  rw[Array.getElem?_setIfInBounds]
  by_cases f:j=i
  ·subst f
   rw[if_pos rfl,if_pos (by omega)]
   exact⟨z,rfl⟩
  ·rw[if_neg f]
   exact D i F
 ·exact⟨d,(Below.heap_setCell w ⟨b,j,none⟩ (.int .u64 z) g e).trans l,u,D⟩
theorem mn.below{w w':World}{g n:Nat}(h:mn w g n)(l:Below w.heap.size w w'):mn w' g n:=by
 obtain⟨d,f,u⟩:=h
 exact⟨d,(l.block g (Array.getElem?_eq_some_iff.1 f).1).trans f,u⟩
theorem br.rowU{d:Nat}{w:World}{S:List Nat}{l:Option Addr}{n D:Nat}(h:br d w (.slice l n D) S)(K:0<S.length):∃g,l=some ⟨g,0,none⟩∧d≤g∧g<w.heap.size∧mn w g S.length:=by
 rcases h.1.2 with⟨_,L⟩|⟨g,G,f,u,H,z,M,N,O,J⟩
 ·omega
 ·simp only[Value.slice.injEq]at u
  refine⟨g,u.1,H,(Array.getElem?_eq_some_iff.1 z).1,f,z,by omega,fun j F=>?_⟩
  have q:(S.map gW)[j]? =some (.int .u64 ((S[j]:Nat):Int)):=by
   rw[List.getElem?_map,List.getElem?_eq_getElem F];rfl
  rw[←J,List.getElem?_take,if_pos (by omega)]at q
  exact⟨_,by simpa using q⟩
theorem af.other{w:World}{f:Option Addr}{c:Nat}{I:List Int}(h:af w f c I){p:Addr}(F:I= []∨∃b d,f=some ⟨b,d,none⟩∧b≠p.block)(u:Value):af (w.setCell p u) f c I:=by
 refine⟨h.1,h.2.1,?_⟩
 rcases h.2.2 with e|⟨b,d,z,H,J⟩
 ·exact .inl e
 rcases F with e|⟨L,D,l,K⟩
 ·exact .inl e
 rw[z]at l
 simp only[Option.some.injEq,Addr.mk.injEq]at l
 obtain⟨rfl,rfl,_⟩:=l
 refine .inr ⟨b,d,z,by simpa[World.setCell]using H,fun i G=>?_⟩
 rw[aJ _ _ _ _ K]
 exact J i G
theorem oh(J K:Option Addr)(c d:Nat)(I:List Int)(w:World)(L:af w J c I)(M:af w K d I)(N:I.length≤35184372088830):
  Calls Tryz.prog 39 #[.slice J I.length c,.slice K I.length d] w fun e w'=>e=.returned (.bool true)∧Below w.heap.size w w':=by
 have O:=aa L;have Q:=aa M
 obtain⟨n,f⟩:∃n,I.length=n:=⟨_,rfl⟩
 rw[f]at N⊢
 have z:=aa f
 clear L M f
 go_enter Tryz.func39,Tryz.ntmps39
 go_wp2_with fail
 go_loopw[5] (fun i wr=>∃k:Nat,k≤n∧i=.int .i64 k∧Hid (Below w.heap.size w wr)) (fun i _=>n-(intOf i).toNat)
 case atStart=>exact⟨0,Nat.zero_le _,rfl,Below.refl _ _⟩
 case round=>
  obtain⟨k,hk,rfl,D⟩:=hrel
  by_cases h:k<n
  ·have U:(k:Int)<(n:Int):=by omega
   obtain⟨b1,o1,G,V,l⟩:=((uH O).below D.out).ne (by rw[uH z];omega)
   obtain⟨b2,o2,H,X,u⟩:=((uH Q).below D.out).ne (by rw[uH z];omega)
   have Y:=l k (by rw[uH z];exact h)
   have Z:=u k (by rw[uH z];exact h)
   subst G
   subst H
   clear l u
   generalize cd I k=x at*
   go_wp2_with fail
   go_quiet (fail)
   go_wp2_with fail
   go_round
   case rel=>exact⟨k+1,by omega,by go_num,aa (below_drewN D.out _)⟩
   case measure=>simp[intOf];omega
  ·have F:k=n:=by omega
   subst F
   go_wp2_with fail
   exact bodyPost_ret (v:=.bool true) (by simp[results,Tryz.results39,go_sem]) rfl ⟨rfl,D.out⟩
def jL(H:Nat)(ao:Option Addr)(I:List Int):Prop:=I= []∨∃b off,ao=some ⟨b,off,none⟩∧H≤b
def iV(base H:Nat)(w:World)(po:Option Addr)(n:Nat):Prop:=n=0∨∃g,po=some ⟨g,0,none⟩∧base≤g∧g<H∧mn w g n
theorem iV.below{d H:Nat}{w w':World}{f:Option Addr}{n:Nat}(h:iV d H w f n)(l:Below w.heap.size w w'):iV d H w' f n:=by
 rcases h with h|⟨g,u,z,D,F⟩
 ·exact .inl h
 ·exact .inr ⟨g,u,z,D,F.below l⟩
theorem iV.set{d H:Nat}{w:World}{f:Option Addr}{n:Nat}(h:iV d H w f n)(b j:Nat)(z:Int):iV d H (w.setCell ⟨b,j,none⟩ (.int .u64 z)) f n:=by
 rcases h with h|⟨g,l,u,D,F⟩
 ·exact .inl h
 ·exact .inr ⟨g,l,u,D,F.set b j z⟩
theorem iV.base{f d H:Nat}{w:World}{l:Option Addr}{n:Nat}(h:iV f H w l n)(F:d≤f):iV d H w l n:=by
 rcases h with h|⟨g,u,G,z,D⟩
 ·exact .inl h
 ·exact .inr ⟨g,u,by omega,z,D⟩
theorem br.copy{d:Nat}{w:World}{I:List Int}{f:Option Addr}{u:Nat}(h:br d w (.slice f I.length u) (a8 I)):iV d w.heap.size w f I.length:=by
 rcases Nat.eq_zero_or_pos I.length with e|e
 ·exact .inl e
 ·obtain⟨g,z,D,F,l⟩:=h.rowU (by rw[dE];exact e)
  rw[dE]at l
  exact .inr ⟨g,z,D,F,l⟩
theorem af.far{H:Nat}{w:World}{d:Option Addr}{c:Nat}{I:List Int}(h:af w d c I)(z:jL H d I){b:Nat}(F:b<H)(j:Nat)(u:Value):af (w.setCell ⟨b,j,none⟩ u) d c I:=by
 refine h.other ?_ u
 rcases z with e|⟨l,f,D,G⟩
 ·exact .inl e
 ·exact .inr ⟨l,f,D,by show l≠b;omega⟩
theorem br.same{d:Nat}{w D:World}{I:List Int}{f F:Option Addr}{l c:Nat}(h:br d w (.slice f I.length l) (a8 I))(G:af D F c I):af w f l I:=by
 obtain⟨H,u,e,z⟩:=h.bits
 simp only[Value.slice.injEq]at e
 obtain⟨rfl,_,rfl⟩:=e
 rw[pV G]at z
 exact z
def aw(w:World)(b:Nat)(x y z:Value):Prop:=w.heap[b]? =some (.cells #[x,y,z] 25 (0,0))
theorem aw.c0{w:World}{b:Nat}{x y z:Value}(h:aw w b x y z):w.cell? ⟨b,0,none⟩=some x:=by rw[cell_of_row w b 0 _ _ _ h];rfl
theorem aw.c1{w:World}{b:Nat}{x y z:Value}(h:aw w b x y z):w.cell? ⟨b,1,none⟩=some y:=by rw[cell_of_row w b 1 _ _ _ h];rfl
theorem aw.c2{w:World}{b:Nat}{x y z:Value}(h:aw w b x y z):w.cell? ⟨b,2,none⟩=some z:=by rw[cell_of_row w b 2 _ _ _ h];rfl
theorem aw.free{w:World}{b:Nat}{x y z:Value}(h:aw w b x y z)(j:Nat):w.frozen? ⟨b,j,none⟩=false:=frozen_of_row w b j _ _ h
theorem aw.lt{w:World}{b:Nat}{x y z:Value}(h:aw w b x y z):b<w.heap.size:=(Array.getElem?_eq_some_iff.1 h).1
theorem aw.below{w w':World}{b:Nat}{x y z:Value}(h:aw w b x y z){B:Nat}(f:Below B w w')(d:b<B):aw w' b x y z:=(f.block b d).trans h
theorem aw.new(w:World)(x y z:Value):aw (w.alloc (.cells #[x,y,z] 25)) w.heap.size x y z:=heap_alloc_new w _
theorem aw.all{w w':World}{b:Nat}{x y z:Value}(h:aw w b x y z)(d:Below w.heap.size w w'):aw w' b x y z:=h.below d h.lt
theorem aw.other{w:World}{b:Nat}{x y z:Value}(h:aw w b x y z){p:Addr}(d:b≠p.block)(u:Value):aw (w.setCell p u) b x y z:=(Below.heap_setCell w p u b d).trans h
theorem aw.put{w:World}{b:Nat}{x y z:Value}(h:aw w b x y z)(u f d:Value):aw (((w.setCell ⟨b,0,none⟩ u).setCell ⟨b,1,none⟩ f).setCell ⟨b,2,none⟩ d) b u f d:=by
 have l:=heap_setCell_same w b 0 _ _ u h
 have D:=heap_setCell_same (w.setCell ⟨b,0,none⟩ u) b 1 _ _ f l
 have F:=heap_setCell_same ((w.setCell ⟨b,0,none⟩ u).setCell ⟨b,1,none⟩ f) b 2 _ _ d D
 unfold aw
 rw[F]
 simp
theorem aq{w w':World}{B b:Nat}(h:Below B w w')(d:B≤b)(u l f:Value):Below B w (((w'.setCell ⟨b,0,none⟩ u).setCell ⟨b,1,none⟩ l).setCell ⟨b,2,none⟩ f):=
 ((h.setCell d _).setCell d _).setCell d _
theorem aw.grown{w w':World}{b:Nat}{x y z:Value}(h:aw w b x y z){o:Option Nat}(d:w.grownBy w' o)(f:o≠some b):aw w' b x y z:=
 (d.block b h.lt f.symm).trans h
def Bk(r c:Int):Bool:=decide (0≤r∧r≤6∧0≤c∧c≤6)
def kK(r c:Int)(n:Nat):Bool:=decide ((0≤r∧r≤6∧0≤c∧c≤6)∧(n:Int)=r*c)
theorem iW(r c:Int)(w:World):
  Calls Tryz.prog 195 #[.int .i64 r,.int .i64 c] w fun e w'=>e=.returned (.bool (Bk r c))∧w=w':=by
 rcases(show(r<0∧Bk r c=false)∨(0≤r∧6<r∧Bk r c=false)∨(0≤r∧r≤6∧c<0∧Bk r c=false)∨(0≤r∧r≤6∧0≤c∧6<c∧Bk r c=false)∨(0≤r∧r≤6∧0≤c∧c≤6∧Bk r c=true) by
  unfold Bk
  by_cases h:0≤r∧r≤6∧0≤c∧c≤6
  ·rw[decide_eq_true h];simp;omega
  ·rw[decide_eq_false h];simp;omega)with⟨h1,e⟩|⟨h1,h2,e⟩|⟨h1,h2,h3,e⟩|⟨h1,h2,h3,h4,e⟩|⟨h1,h2,h3,h4,e⟩
 all_goals
  rw[e]
  clear e
  go_enter Tryz.func195,Tryz.ntmps195
  go_wp2
  go_ret
  refine⟨?_,rfl⟩
  first|rfl|(simp;omega)
theorem gd(r c:Int)(H:Option Addr)(n D:Nat)(w:World)(M:n≤35184372088830):
  Calls Tryz.prog 151 #[.agg #[.int .i64 r,.int .i64 c,.slice H n D]] w fun e w'=>e=.returned (.int .i64 (if kK r c n=true then 0 else 1))∧Below w.heap.size w w':=by
 have f:=aa (fun w'=>iW r c w')
 have u:=aa (ac w (.cells #[.int .i64 r,.int .i64 c,.slice H n D] 25))
 by_cases d:0≤r∧r≤6∧0≤c∧c≤6
 ·have z:Bk r c=true:=decide_eq_true d
  rw[z]at f
  have F:∃m:Nat,r*c=(m:Int)∧m≤36:=by
   obtain⟨a,rfl⟩:=Int.eq_ofNat_of_zero_le d.1
   obtain⟨b,rfl⟩:=Int.eq_ofNat_of_zero_le d.2.2.1
   refine⟨a*b,by simp,?_⟩
   have:a*b≤6*6:=Nat.mul_le_mul (by omega) (by omega)
   omega
  obtain⟨m,F,L⟩:=F
  by_cases G:n=m
  ·have l:kK r c n=true:=decide_eq_true ⟨d,by rw[F,G]⟩
   rw[if_pos l]
   subst G
   clear z l d
   go_enter Tryz.func151,Tryz.ntmps151
   go_wp2_with fail
   refine(uH f _).mono ?_
   rintro e J ⟨rfl,rfl⟩
   clear f
   go_wp2
   go_ret
   exact⟨rfl,uH u⟩
  ·have l:kK r c n=false:=decide_eq_false (fun h=>G (by have:=h.2;omega))
   rw[if_neg (by rw[l];decide)]
   have K:decide ((n:Int)=(m:Int))=false:=decide_eq_false (by omega)
   clear z l d
   go_enter Tryz.func151,Tryz.ntmps151
   go_wp2_with fail
   refine(uH f _).mono ?_
   rintro e J ⟨rfl,rfl⟩
   clear f
   go_wp2
   go_ret
   exact⟨rfl,uH u⟩
 ·have z:Bk r c=false:=decide_eq_false d
  rw[z]at f
  have l:kK r c n=false:=decide_eq_false (fun h=>d h.1)
  rw[if_neg (by rw[l];decide)]
  clear z l d
  go_enter Tryz.func151,Tryz.ntmps151
  go_wp2_with fail
  refine(uH f _).mono ?_
  rintro e J ⟨rfl,rfl⟩
  clear f
  go_wp2
  go_ret
  exact⟨rfl,uH u⟩
end Go.Proofs.YtdhmglmccafbnaaGreatDoor
namespace Go.Proofs.YtdhmglmccafbnaaGreatDoor
open Go.RowKit
def aL(S:List Nat):List Int:=S.map (fun x:Nat=>(x:Int))
theorem av(S:List Nat):(aL S).length=S.length:=by simp[aL]
theorem eI(S:List Nat)(j:Nat):cd (aL S) j=S.getD j 0:=by
 unfold aL cd
 rw[List.getElem?_map,List.getD_eq_getElem?_getD]
 cases S[j]? <;>simp
theorem te{w:World}{d:Option Addr}{c:Nat}{I:List Int}(h:af w d c I):aL (a8 I)=I:=pV h
theorem tf(S:List Nat):a8 (aL S)=S:=by
 unfold a8 aL
 rw[List.map_map]
 refine(List.map_congr_left fun x _=>?_).trans (List.map_id S)
 simp
theorem af.nat{w:World}{d:Option Addr}{c:Nat}{S:List Nat}(h:af w d c (aL S)):∀x∈S,x<18446744073709551616:=by
 intro x f
 have:=h.2.1 (x:Int) (List.mem_map.2 ⟨x,f,rfl⟩)
 omega
theorem af.none(w:World)(c:Nat):af w .none c (aL []):=⟨by simp[aL],by simp[aL],.inl rfl⟩
theorem af.nilAt(w:World)(d:Option Addr)(c:Nat):af w d c (aL []):=⟨by simp[aL],by simp[aL],.inl rfl⟩
theorem af.putM{w:World}{F:Option Addr}{c:Nat}{I:List Int}(h:af w F c I){g:Nat}{x y:Int}{a:Option Addr}{n d:Nat}(J:aw w g (.int .i64 x) (.int .i64 y) (.slice a n d))(u K D:Value):
  af (((w.setCell ⟨g,0,.none⟩ u).setCell ⟨g,1,.none⟩ K).setCell ⟨g,2,.none⟩ D) F c I:=by
 refine⟨h.1,h.2.1,?_⟩
 rcases h.2.2 with N|⟨b,f,O,Q,H⟩
 ·exact .inl N
 ·by_cases G:I= []
  ·exact .inl G
  ·have M:0<I.length:=List.length_pos_iff.2 G
   have l:b≠g:=by
    rintro rfl
    have z:=H 0 M
    rw[cell_of_row w b (f+0) _ _ _ J]at z
    rcases(show f=0∨f=1∨f=2∨3≤f by omega)with e|e|e|e
    ·subst e;simp at z
    ·subst e;simp at z
    ·subst e;simp at z
    ·rw[Array.getElem?_eq_none (by simp;omega)]at z;simp at z
   refine .inr ⟨b,f,O,by simpa[World.setCell]using Q,fun i L=>?_⟩
   rw[aJ _ _ _ _ (by simpa using l),aJ _ _ _ _ (by simpa using l),aJ _ _ _ _ (by simpa using l)]
   exact H i L
def Mx(w:World)(ao:Option Addr)(cap r c:Nat)(S:List Nat):Prop:=af w ao cap (aL S)∧S.length=r*c∧r≤6∧c≤6
theorem Mx.below{w w':World}{f:Option Addr}{d r c:Nat}{S:List Nat}(h:Mx w f d r c S)(l:Below w.heap.size w w'):Mx w' f d r c S:=⟨h.1.below l,h.2⟩
theorem Mx.small{w:World}{f:Option Addr}{d r c:Nat}{S:List Nat}(h:Mx w f d r c S):S.length≤36:=by
 rw[h.2.1]
 exact Nat.mul_le_mul h.2.2.1 h.2.2.2
theorem Mx.el_lt{w:World}{f:Option Addr}{d r c:Nat}{S:List Nat}(h:Mx w f d r c S)(i k:Nat):bJ c S i k<18446744073709551616:=by
 unfold bJ
 rw[List.getD_eq_getElem?_getD]
 by_cases g:i*c+k<S.length
 ·rw[List.getElem?_eq_getElem g];exact h.1.nat _ (List.getElem_mem g)
 ·rw[List.getElem?_eq_none (by omega)];decide
theorem Mx.cells{w:World}{l:Option Addr}{f r c:Nat}{S:List Nat}(h:Mx w l f r c S){i k:Nat}(z:i<r)(D:k<c):∃b d,l=some ⟨b,d,.none⟩∧b<w.heap.size∧w.cell? ⟨b,d+(i*c+k),.none⟩=some (.int .u64 (bJ c S i k:Nat))∧i*c+k<S.length:=by
 have u:i*c+k<S.length:=by rw[h.2.1];exact bW z D
 obtain⟨b,d,F,G,H⟩:=h.1.ne (by rw[av];omega)
 refine⟨b,d,F,G,?_,u⟩
 rw[H _ (by rw[av];exact u),eI]
 rfl
theorem vW{w:World}{f:Option Addr}{d r c:Nat}{S:List Nat}(h:Mx w f d r c S):kK (r:Int) (c:Int) S.length=true:=by
 refine decide_eq_true ⟨⟨by omega,?_,by omega,?_⟩,?_⟩
 ·have:=h.2.2.1;omega
 ·have:=h.2.2.2;omega
 ·rw[h.2.1];simp
theorem Mx.of{w:World}{f:Option Addr}{d:Nat}{I:List Int}{r c:Int}(h:af w f d I)(l:kK r c I.length=true):∃p q:Nat,r=(p:Int)∧c=(q:Int)∧Mx w f d p q (a8 I)∧aL (a8 I)=I:=by
 obtain⟨⟨u,D,z,F⟩,G⟩:=of_decide_eq_true l
 obtain⟨p,rfl⟩:=Int.eq_ofNat_of_zero_le u
 obtain⟨q,rfl⟩:=Int.eq_ofNat_of_zero_le z
 refine⟨p,q,rfl,rfl,⟨by rw[te h];exact h,?_,by omega,by omega⟩,te h⟩
 rw[dE]
 have:((p*q:Nat):Int)=(p:Int)*(q:Int):=by simp
 omega
def bK(H:Nat)(w':World)(r c:Nat)(S:List Nat)(v:Value):Prop:=∃ao cap,v=.agg #[.int .i64 r,.int .i64 c,.slice ao S.length cap]∧jL H ao (aL S)∧af w' ao cap (aL S)
theorem bK.zero(H:Nat)(w:World):bK H w 0 0 [] (.agg #[.int .i64 0,.int .i64 0,.slice .none 0 0]):=⟨.none,0,rfl,.inl rfl,af.none w 0⟩
theorem bK.least{H H':Nat}{w:World}{r c:Nat}{S:List Nat}{v:Value}(h:bK H w r c S v)(l:H'≤H):bK H' w r c S v:=by
 obtain⟨u,d,z,D,F⟩:=h
 refine⟨u,d,z,?_,F⟩
 rcases D with e|⟨b,f,G,J⟩
 ·exact .inl e
 ·exact .inr ⟨b,f,G,Nat.le_trans l J⟩
attribute [local go_sem ↓] Go.wp_at_zero Go.wp_at_succ
theorem GN(r c n f b d i k q x:Nat)(w:World)(D:(i:Int)*(c:Int)=(q:Int))(u:q+k<n)(F:n≤36)
  (l:w.cell? ⟨b,d+(q+k),none⟩=some (.int .u64 (x:Nat))):
  Calls Tryz.prog 183 #[.agg #[.int .i64 r,.int .i64 c,.slice (some ⟨b,d,none⟩) n f],.int .i64 i,.int .i64 k] w fun e w'=>e=.returned (.int .u64 (x:Nat))∧Below w.heap.size w w':=by
 have h:=aa (ac w (.cells #[.int .i64 r,.int .i64 c,.slice (some ⟨b,d,none⟩) n f] 25))
 have G:=ak l (uH h)
 clear l
 have z:(q:Int)+(k:Int)<(n:Int):=by omega
 go_enter Tryz.func183,Tryz.ntmps183
 go_wp2
 go_ret
 exact⟨rfl,uH h⟩
theorem bu(i c:Nat):(i:Int)*(c:Int)=((i*c:Nat):Int):=by simp
theorem EG(r c d i k:Nat)(l:Option Addr)(S:List Nat)(w:World)(h:Mx w l d r c S)(u:i<r)(z:k<c):
  Calls Tryz.prog 183 #[.agg #[.int .i64 r,.int .i64 c,.slice l S.length d],.int .i64 i,.int .i64 k] w fun e w'=>e=.returned (.int .u64 (bJ c S i k:Nat))∧Below w.heap.size w w':=by
 obtain⟨b,f,rfl,G,D,F⟩:=h.cells u z
 exact GN r c S.length d b f i k (i*c) _ w (bu i c) F h.small D
theorem jL.least{H H':Nat}{f:Option Addr}{I:List Int}(h:jL H f I)(l:H'≤H):jL H' f I:=by
 rcases h with e|⟨b,d,u,z⟩
 ·exact .inl e
 ·exact .inr ⟨b,d,u,Nat.le_trans l z⟩
theorem br.newB{d:Nat}{w:World}{l:Option Addr}{n f:Nat}{S:List Nat}(h:br d w (.slice l n f) S):jL d l (aL S):=by
 rcases h.1.2 with⟨_,D⟩|⟨g,u,F,z,G,_⟩
 ·exact .inl (by rw[List.length_eq_zero_iff.1 D];rfl)
 ·simp only[Value.slice.injEq]at z
  exact .inr ⟨g,0,z.1,G⟩
theorem pX(fn:Nat)(L:Array Value)(r c:Nat)(f:Nat→Nat→Nat)(w:World)
  (a7:∀M w,(callFunc fn M).run Tryz.prog w=.ok (.enter fn M) w) (hr:r≤6) (hc:c≤6) (hf:∀i k,i<r→k<c→f i k<18446744073709551616)
  (u:∀w' i k,Below w.heap.size w w'→i<r→k<c→Calls Tryz.prog fn (#[.int .i64 (i:Nat),.int .i64 (k:Nat)]++L) w' fun e aI=>e=.returned (.int .u64 (f i k:Nat))∧Below w'.heap.size w' aI):
  Calls Tryz.prog 181 #[.int .i64 r,.int .i64 c,.func (.func fn) #[] L] w fun e w'=>∃v,e=.returned v∧bK w.heap.size w' r c (cG r c f) v∧Below w.heap.size w w':=by
 obtain⟨i0,a2,a3,a4,a5⟩:=info_parts ky
 have HS:=aa u;have HF:=aa hf
 have hm:(r:Int)*(c:Int)=((r*c:Nat):Int):=bu r c
 have a9:r*c≤36:=Nat.mul_le_mul hr hc
 have X0:=aa (aw.new w (.int .i64 0) (.int .i64 0) (.slice none 0 0))
 have B0:=aa (ac w (.cells #[.int .i64 0,.int .i64 0,.slice none 0 0] 25))
 obtain⟨w1,a6,Q,Y⟩:=run_make_own (P:=Tryz.prog) (w.alloc (.cells #[.int .i64 0,.int .i64 0,.slice none 0 0] 25)) (w.heap.size+1) 23 28 i0 (.int .u64 0) 1 Tryz.underlying23 a2 a3 a4 .i64 .i64 (r*c) (by rw[a5];omega) (by unfold maxLen;omega) (by simp)
 have B1:=aa ((uH B0).grown Y (by simp) (fun g hg=>by cases hg))
 have X1:aw w1 w.heap.size (.int .i64 0) (.int .i64 0) (.slice none 0 0):=(uH X0).grown Y (by simp)
 have O1:=aa (show br (w.heap.size+1) w1 (.slice (some ⟨w.heap.size+1,0,none⟩) 0 (r*c)) (jK (fun p=>f (p/c) (p%c)) (0*c))from⟨by rw[Nat.zero_mul];simpa[jK]using Q,by rw[Nat.zero_mul];intro x hx;cases hx⟩)
 have Z:=aa X1
 clear Q Y X0 B0 X1
 obtain⟨F,hF⟩:∃F:Nat→Nat,F=fun p=>f (p/c) (p%c):=⟨_,rfl⟩
 rw[←hF]at O1
 have FV:=aa (show∀j k,k<c→F (j*c+k)=f j k from fun j k hk=>by rw[hF];show f ((j*c+k)/c) ((j*c+k)%c)=_;rw[gX hk,gY hk])
 have FM:=aa (show cG r c f=jK F (r*c)from by rw[hF];rfl)
 rw[uH FM]
 generalize ax:r*c=n at*
 have ae:=aa ax
 clear ax u hf hF
 go_enter Tryz.func181,Tryz.ntmps181
 go_wp2_with fail
 clear a6
 go_loopw[7,15] (fun v i wr=>∃j:Nat,j≤r∧i=.int .i64 j∧Hid (br (w.heap.size+1) wr v (jK F (j*c)))∧Hid (aw wr w.heap.size (.int .i64 0) (.int .i64 0) (.slice none 0 0))∧Hid (Below w.heap.size w wr)) (fun _ i _=>r-(intOf i).toNat)
 case atStart=>exact⟨0,Nat.zero_le _,rfl,O1,Z,B1⟩
 case round=>
  clear O1 Z B1
  obtain⟨j,hj,rfl,l,d,G⟩:=hrel
  by_cases X:j<r
  ·have ba:(j:Int)<(r:Int):=by omega
   have H:=aa (show br (w.heap.size+1) wr _ (jK F (j*c+0))from uH l)
   clear l
   go_wp2_with fail
   go_loopw[7,19] (fun v i wr=>∃k:Nat,k≤c∧i=.int .i64 k∧Hid (br (w.heap.size+1) wr v (jK F (j*c+k)))∧Hid (aw wr w.heap.size (.int .i64 0) (.int .i64 0) (.slice none 0 0))∧Hid (Below w.heap.size w wr)) (fun _ i _=>c-(intOf i).toNat)
   case atStart=>exact⟨0,Nat.zero_le _,rfl,H,d,G⟩
   case round=>
    clear H d G
    obtain⟨k,hk,rfl,l,d,G⟩:=hrel
    by_cases J:k<c
    ·have bb:(k:Int)<(c:Int):=by omega
     have C:=aa (fun w' h=>uH HS w' j k h X J)
     have ho:=aa (uH HF j k X J)
     have eo:=aa (uH FV j k J)
     have N:=aa (show(jK F (j*c+k)).length≤1000000 from by
      rw[eO]
      have:=bW X J
      rw[uH ae]at this
      omega)
     generalize f j k=o at*
     go_wp2_with fail
     refine(uH C _ G.out).mono ?_
     rintro e w2 ⟨rfl,K⟩
     have O:=(uH l).below K
     have z:=(uH d).all K
     have B2:=G.out.trans (K.mono G.out.size)
     obtain⟨v3,w3,U,V,D,_,_⟩:=O.push o (uH ho) (uH N) (by have:=z.lt;omega) 23
     have am:=aa U
     have O3:=aa (show br (w.heap.size+1) w3 v3 (jK F (j*c+(k+1)))from by
      rw[←Nat.add_assoc,kz,uH eo];exact V)
     have X3:=aa (z.below D (by omega))
     have B3:=aa (B2.trans (D.mono (by omega)))
     clear K C l d G O z B2 U V D ho eo N
     go_wp2_with(at_builtin;refine aS _ rfl _ _ 23 rfl _ _ _ _ rfl rfl (uH am) ?_;clear am)
     go_round
     case rel=>exact⟨k+1,by omega,by go_num,O3,X3,B3⟩
     case measure=>simp[intOf];omega
    ·have a0:k=c:=by omega
     subst a0
     have H:=aa (show br (w.heap.size+1) _ _ (jK F ((j+1)*k))from by rw[Nat.add_mul,Nat.one_mul];exact uH l)
     clear l
     go_wp2_with fail
     go_round
     case rel=>exact⟨j+1,by omega,by go_num,H,d,G⟩
     case measure=>simp[intOf];omega
  ·have a1:j=r:=by omega
   subst a1
   rw[uH ae]at l
   obtain⟨b1,d1,e1,q1⟩:=(uH l).bits
   have ao:=(uH l).1
   rw[eO]at e1
   subst e1
   have ap:=aa ((uH l).newB.least (Nat.le_succ w.heap.size))
   have s0:=(uH d).c0;have s1:=(uH d).c1;have s2:=(uH d).c2
   have f0:=(uH d).free 0;have f1:=(uH d).free 1;have f2:=(uH d).free 2
   have XP:=(uH d).put (.int .i64 j) (.int .i64 c) (.slice b1 n d1)
   have z0:=XP.c0;have z1:=XP.c1;have z2:=XP.c2
   have QP:=aa (q1.putM (uH d) (.int .i64 j) (.int .i64 c) (.slice b1 n d1))
   have BP:=aa (aq (uH G) (Nat.le_refl _) (.int .i64 j) (.int .i64 c) (.slice b1 n d1))
   clear q1 ao l d G XP
   go_wp2
   exact bodyPost_ret (v:=.agg #[.int .i64 j,.int .i64 c,.slice b1 n d1]) (by simp[results,Tryz.results181,go_sem,z0,z1,z2]) rfl ⟨_,rfl,⟨b1,d1,by rw[eO],uH ap,uH QP⟩,uH BP⟩
end Go.Proofs.YtdhmglmccafbnaaGreatDoor
namespace Go.Proofs.YtdhmglmccafbnaaGreatDoor
open Go.RowKit
def fm(T:Nat)(w:World)(b:Nat)(x y z:Value):Prop:=w.heap[b]? =some (.cells #[x,y,z] T (0,0))
theorem fm.c0{T:Nat}{w:World}{b:Nat}{x y z:Value}(h:fm T w b x y z):w.cell? ⟨b,0,none⟩=some x:=by rw[cell_of_row w b 0 _ _ _ h];rfl
theorem fm.c1{T:Nat}{w:World}{b:Nat}{x y z:Value}(h:fm T w b x y z):w.cell? ⟨b,1,none⟩=some y:=by rw[cell_of_row w b 1 _ _ _ h];rfl
theorem fm.c2{T:Nat}{w:World}{b:Nat}{x y z:Value}(h:fm T w b x y z):w.cell? ⟨b,2,none⟩=some z:=by rw[cell_of_row w b 2 _ _ _ h];rfl
theorem fm.lt{T:Nat}{w:World}{b:Nat}{x y z:Value}(h:fm T w b x y z):b<w.heap.size:=(Array.getElem?_eq_some_iff.1 h).1
theorem fm.below{T:Nat}{w w':World}{b:Nat}{x y z:Value}(h:fm T w b x y z){B:Nat}(f:Below B w w')(d:b<B):fm T w' b x y z:=(f.block b d).trans h
theorem fm.new(T:Nat)(w:World)(x y z:Value):fm T (w.alloc (.cells #[x,y,z] T)) w.heap.size x y z:=heap_alloc_new w _
theorem fm.all{T:Nat}{w w':World}{b:Nat}{x y z:Value}(h:fm T w b x y z)(d:Below w.heap.size w w'):fm T w' b x y z:=h.below d h.lt
theorem fm.other{T:Nat}{w:World}{b:Nat}{x y z:Value}(h:fm T w b x y z){p:Addr}(d:b≠p.block)(u:Value):fm T (w.setCell p u) b x y z:=(Below.heap_setCell w p u b d).trans h
attribute [local go_sem ↓] Go.wp_at_zero Go.wp_at_succ
def GO(w:World)(g k:Nat)(R C:Nat→Int)(A:Nat→Option Addr)(N P:Nat→Nat):Prop:=
 ∀i,i<k→w.cell? ⟨g,i*3,none⟩=some (.int .i64 (R i))∧w.cell? ⟨g,i*3+1,none⟩=some (.int .i64 (C i))∧w.cell? ⟨g,i*3+2,none⟩=some (.slice (A i) (N i) (P i))
theorem Bl(k g:Nat)(R C:Nat→Int)(A:Nat→Option Addr)(N P:Nat→Nat)(w:World)(hk:k≤2)(J:∀i,i<k→N i≤35184372088830)(K:GO w g k R C A N P):
  Calls Tryz.prog 179 #[.slice (some ⟨g,0,none⟩) k k] w fun e w'=>∃b,e=.returned (.bool b)∧(b=true↔∀i,i<k→kK (R i) (C i) (N i)=true)∧Below w.heap.size w w':=by
 have X:=aa K;have Y:=aa J
 clear K J
 go_enter Tryz.func179,Tryz.ntmps179
 go_wp2_with fail
 go_loopw[7] (fun i wr=>∃j:Nat,j≤k∧i=.int .i64 j∧Hid (Below w.heap.size w wr)∧Hid (∀t,t<j→kK (R t) (C t) (N t)=true)) (fun i _=>k-(intOf i).toNat)
 case atStart=>exact⟨0,Nat.zero_le _,rfl,Below.refl _ _,fun t h=>by omega⟩
 case round=>
  obtain⟨j,hj,rfl,l,Q⟩:=hrel
  by_cases f:j<k
  ·have Z:(j:Int)<(k:Int):=by omega
   obtain⟨H,U,V⟩:=uH X j f
   have L:=uH Y j f
   have M:=aa (fun w'=>gd (R j) (C j) (A j) (N j) (P j) w' L)
   have d:=World.block_lt_of_cell? w _ H
   have z:=aa (l.out.mono (Nat.le_refl _))
   have d0:wr.cell? ⟨g,j*3,none⟩=some (.int .i64 (R j)):=by rw[l.out.cell (p:=⟨g,j*3,none⟩) d];exact H
   have d1:wr.cell? ⟨g,j*3+1,none⟩=some (.int .i64 (C j)):=by rw[l.out.cell (p:=⟨g,j*3+1,none⟩) d];exact U
   have d2:wr.cell? ⟨g,j*3+2,none⟩=some (.slice (A j) (N j) (P j)):=by rw[l.out.cell (p:=⟨g,j*3+2,none⟩) d];exact V
   have D:=aa ((uH z).alloc (uH z).size (.cells #[.int .i64 (R j),.int .i64 (C j),.slice (A j) (N j) (P j)] 25))
   clear H U V L l z d
   go_wp2_with fail
   refine(uH M _).mono ?_
   rintro e w2 ⟨rfl,u⟩
   have O:Hid (Below w.heap.size w w2):=(uH D).trans (u.mono (uH D).size)
   clear M u d0 d1 d2 D
   cases ho:kK (R j) (C j) (N j)
   ·have F:=aa ho
    clear ho
    rw[if_neg (by decide)]
    go_wp2
    go_ret
    refine⟨false,rfl,⟨(fun h=>nomatch h),fun h=>?_⟩,uH O⟩
    have:=h j f
    rw[uH F]at this
    cases this
   ·have F:=aa ho
    clear ho
    rw[if_pos rfl]
    go_wp2
    go_round
    case rel=>
     refine⟨j+1,by omega,by go_num,O,aa fun t ht=>?_⟩
     by_cases e:t=j
     ·subst e;exact uH F
     ·exact Q.out t (by omega)
    case measure=>simp[intOf];omega
  ·have G:j=k:=by omega
   subst G
   go_wp2
   go_ret
   exact⟨true,rfl,⟨fun _=>Q.out,fun _=>rfl⟩,l.out⟩
theorem oj(r c:Int)(f:Option Addr)(n d:Nat)(w:World)(u:n≤35184372088830):
  Calls Tryz.prog 179 #[.slice (some ⟨w.heap.size,0,none⟩) 1 1] (w.alloc (.cells #[.int .i64 r,.int .i64 c,.slice f n d] 25)) fun e w'=>e=.returned (.bool (kK r c n))∧Below w.heap.size w w':=by
 have X:=aw.new w (.int .i64 r) (.int .i64 c) (.slice f n d)
 have B:=ac w (.cells #[.int .i64 r,.int .i64 c,.slice f n d] 25)
 refine(Bl 1 w.heap.size (fun _=>r) (fun _=>c) (fun _=>f) (fun _=>n) (fun _=>d) _ (by omega) (fun _ _=>u) ?_).mono ?_
 ·intro i D
  obtain rfl:i=0:=by omega
  exact⟨X.c0,X.c1,X.c2⟩
 ·rintro e w' ⟨b,rfl,l,z⟩
  refine⟨?_,B.trans (z.mono B.size)⟩
  have:b=kK r c n:=by
   cases h:kK r c n
   ·cases b
    ·rfl
    ·have:=l.1 rfl 0 (by omega);rw[h]at this;cases this
   ·exact l.2 (fun _ _=>h)
  rw[this]
theorem tg(f p e:Int)(w:World)(l:-9223372036854775808≤f∧f≤9223372036854775807)(u:0≤e∧e≤6):
  Calls Tryz.prog 180 #[.int .i64 f,.int .i64 p,.int .i64 e] w fun x w'=>x=.returned (.bool (decide (0≤f∧0≤p∧p≤e-f)))∧w=w':=by
 rcases(show f<0∨(0≤f∧p<0)∨(0≤f∧0≤p) by omega)with d|⟨d,h⟩|⟨d,h⟩
 ·rw[decide_eq_false (by omega)]
  go_enter Tryz.func180,Tryz.ntmps180
  go_wp2
  go_ret
  exact⟨rfl,rfl⟩
 ·rw[decide_eq_false (by omega)]
  go_enter Tryz.func180,Tryz.ntmps180
  go_wp2
  go_ret
  exact⟨rfl,rfl⟩
 ·rw[show decide (0≤f∧0≤p∧p≤e-f)=decide (p≤e-f)from decide_eq_decide.2 (by omega)]
  go_enter Tryz.func180,Tryz.ntmps180
  go_wp2
  go_ret
  exact⟨rfl,rfl⟩
end Go.Proofs.YtdhmglmccafbnaaGreatDoor
