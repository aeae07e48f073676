/- Part 30 of the texts. -/
import Derived.Test.YtlnphkioddknfaaGreatDoorParty29
set_option maxHeartbeats 4000000
set_option maxRecDepth 20000
namespace Go.Proofs.YtlnphkioddknfaaGreatDoor
open Go.RowKit
attribute [local go_sem ↓] Go.wp_at_zero Go.wp_at_succ
def cn(I:List Int):List Nat:=I.map Int.toNat
theorem gz(I:List Int):(cn I).length=I.length:=by simp[cn]
theorem pZ{w:World}{ao:Option Addr}{c:Nat}{I:List Int}(h:ac w ao c I):(cn I).map (fun x:Nat=>(x:Int))=I:=by
 unfold cn
 rw[List.map_map]
 refine(List.map_congr_left fun x d=>?_).trans (List.map_id I)
 have:=h.2.1 x d
 simp
 omega
theorem FI{w:World}{ao:Option Addr}{c:Nat}{I:List Int}(h:ac w ao c I):∀x∈cn I,x<18446744073709551616:=by
 intro x f
 obtain⟨y,d,rfl⟩:=List.mem_map.1 f
 have:=h.2.1 y d
 omega
theorem append_nil(w:World)(d:TypeId)(g c:Nat):
  (Builtin.append_ #[22,22] d #[.slice (some ⟨g,0,none⟩) 0 0,.slice none 0 c]).run Tryz.prog w=.ok (.slice (some ⟨g,0,none⟩) 0 0) w:=by
 simp[Builtin.append_,go_sem]
theorem p4(w:World)(d:Nat)(G:TypeId)(ao:Option Addr)(c:Nat)(I:List Int)(g:Nat)(h:ac w ao c I)(Z:I.length≤17592186043904)(f:w.ownsRow d 37 1 (.slice (some ⟨g,0,none⟩) 0 0) 0 [])(l:d≤w.heap.size):
  ∃A D z,(Builtin.append_ #[22,22] G #[.slice (some ⟨g,0,none⟩) 0 0,.slice ao I.length c]).run Tryz.prog w=.ok (.slice A I.length D) z∧bD d z (.slice A I.length D) (cn I)∧w.grownBy z (some g):=by
 obtain⟨V,X,K,L,M⟩:=info_parts jp
 cases ao with
 |none=>
  have U:I= []:=by
   rcases h.2.2 with e|⟨b,t,e,_⟩
   ·exact e
   ·cases e
  subst U
  refine⟨some ⟨g,0,none⟩,0,w,append_nil w G g c,⟨f,by simp[cn]⟩,?_⟩
  exact⟨rfl,rfl,rfl,Nat.le_refl _,fun k _ _=>rfl⟩
 |some a=>
  have m:∀j u,((cn I).map ip)[j]? =some u→w.cell? (a.add j)=some u:=by
   intro j u y
   rw[List.getElem?_map]at y
   have O:j<I.length:=by
    rcases Nat.lt_or_ge j I.length with e|e
    ·exact e
    ·rw[List.getElem?_eq_none (by rw[gz];exact e)]at y;cases y
   obtain⟨b,t,F,Q,N⟩:=h.ne (by omega)
   cases F
   rw[show(⟨b,t,none⟩:Addr).add j=⟨b,t+j,none⟩ by simp[Addr.add],N j O]
   rw[←y]
   simp[cn,O,ip,aM]
  obtain⟨Y,z,F,Q,N,e4,e5⟩:=run_append_own_at (P:=Tryz.prog) w d 22 G 37 V (.int .u64 0) 1 8 Tryz.underlying22 X K L M rfl (by decide) _ 0 [] f a I.length c ((cn I).map ip) (by simp[cn]) m (fun u y=>by
   obtain⟨x,_,rfl⟩:=List.mem_map.1 y
   rfl) (by unfold maxLen;omega) (by omega) l
  have H:bD d z Y (cn I):=⟨by
   rw[gz]
   simpa using Q,FI h⟩
  obtain⟨A,D,rfl,_⟩:=H.bits
  rw[gz]at F H
  exact⟨A,D,z,F,H,N⟩
def mr(w:World)(g n:Nat):Prop:=∃cur:Array Value,w.heap[g]? =some (.cells cur 37 (0,0))∧n≤cur.size∧∀j,j<n→∃z:Int,cur[j]? =some (.int .u64 z)
theorem mr.cell{w:World}{g n:Nat}(h:mr w g n){j:Nat}(d:j<n):∃z:Int,w.cell? ⟨g,j,none⟩=some (.int .u64 z):=by
 obtain⟨f,l,y,m⟩:=h
 obtain⟨z,t⟩:=m j d
 exact⟨z,by rw[cell_of_row w g j _ _ _ l];exact t⟩
theorem mr.free{w:World}{g n:Nat}(h:mr w g n)(j:Nat):w.frozen? ⟨g,j,none⟩=false:=by
 obtain⟨d,f,_⟩:=h
 exact frozen_of_row w g j _ _ f
theorem mr.set{w:World}{g n:Nat}(h:mr w g n)(b j:Nat)(z:Int):mr (w.setCell ⟨b,j,none⟩ (.int .u64 z)) g n:=by
 obtain⟨d,l,m,t⟩:=h
 by_cases e:g=b
 ·subst e
  refine⟨d.setIfInBounds j (.int .u64 z),heap_setCell_same w g j _ _ _ l,by simpa using m,fun i y=>?_⟩
  rw[Array.getElem?_setIfInBounds]
  by_cases f:j=i
  ·subst f
   rw[if_pos rfl,if_pos (by omega)]
   exact⟨z,rfl⟩
  ·rw[if_neg f]
   exact t i y
 ·exact⟨d,(Below.heap_setCell w ⟨b,j,none⟩ (.int .u64 z) g e).trans l,m,t⟩
theorem mr.below{w f:World}{g n:Nat}(h:mr w g n)(m:Below w.heap.size w f):mr f g n:=by
 obtain⟨d,l,t⟩:=h
 exact⟨d,(m.block g (Array.getElem?_eq_some_iff.1 l).1).trans l,t⟩
theorem bD.rowU{d:Nat}{w:World}{S:List Nat}{l:Option Addr}{n y:Nat}(h:bD d w (.slice l n y) S)(F:0<S.length):∃g,l=some ⟨g,0,none⟩∧d≤g∧g<w.heap.size∧mr w g S.length:=by
 rcases h.1.2 with⟨_,G⟩|⟨g,cap,f,m,A,t,H,I,K,D⟩
 ·omega
 ·simp only[Value.slice.injEq]at m
  refine⟨g,m.1,A,(Array.getElem?_eq_some_iff.1 t).1,f,t,by omega,fun j z=>?_⟩
  have q:(S.map ip)[j]? =some (.int .u64 ((S[j]:Nat):Int)):=by
   rw[List.getElem?_map,List.getElem?_eq_getElem z];rfl
  rw[←D,List.getElem?_take,if_pos (by omega)]at q
  exact⟨_,by simpa using q⟩
theorem ac.other{w:World}{ao:Option Addr}{c:Nat}{I:List Int}(h:ac w ao c I){p:Addr}(t:I= []∨∃b d,ao=some ⟨b,d,none⟩∧b≠p.block)(u:Value):ac (w.setCell p u) ao c I:=by
 refine⟨h.1,h.2.1,?_⟩
 rcases h.2.2 with e|⟨b,d,l,z,A⟩
 ·exact .inl e
 rcases t with e|⟨F,m,f,D⟩
 ·exact .inl e
 rw[l]at f
 simp only[Option.some.injEq,Addr.mk.injEq]at f
 obtain⟨rfl,rfl,_⟩:=f
 refine .inr ⟨b,d,l,by simpa[World.setCell]using z,fun i y=>?_⟩
 rw[ap _ _ _ _ D]
 exact A i y
theorem tr(ao F:Option Addr)(c d:Nat)(I:List Int)(w:World)(G:ac w ao c I)(H:ac w F d I)(K:I.length≤35184372088830):
  Calls Tryz.prog 73 #[.slice ao I.length c,.slice F I.length d] w fun e L=>e=.returned (.bool true)∧Below w.heap.size w L:=by
 have M:=aa G;have N:=aa H
 obtain⟨n,f⟩:∃n,I.length=n:=⟨_,rfl⟩
 rw[f]at K⊢
 have t:=aa f
 clear G H f
 go_enter Tryz.func73,Tryz.ntmps73
 go_wp2_with fail
 go_loopw[5] (fun i wr=>∃k:Nat,k≤n∧i=.int .i64 k∧Hid (Below w.heap.size w wr)) (fun i _=>n-(intOf i).toNat)
 case atStart=>exact⟨0,Nat.zero_le _,rfl,Below.refl _ _⟩
 case round=>
  obtain⟨k,Y,rfl,y⟩:=hrel
  by_cases h:k<n
  ·have O:(k:Int)<(n:Int):=by omega
   obtain⟨Z,o1,A,Q,l⟩:=((uH M).below y.out).ne (by rw[uH t];omega)
   obtain⟨b2,o2,D,U,m⟩:=((uH N).below y.out).ne (by rw[uH t];omega)
   have V:=l k (by rw[uH t];exact h)
   have X:=m k (by rw[uH t];exact h)
   subst A
   subst D
   clear l m
   generalize aM I k=x at*
   go_wp2_with fail
   go_quiet (fail)
   go_wp2_with fail
   go_round
   case rel=>exact⟨k+1,by omega,by go_num,aa (below_drewN y.out _)⟩
   case measure=>simp[intOf];omega
  ·have z:k=n:=by omega
   subst z
   go_wp2_with fail
   exact bodyPost_ret (v:=.bool true) (by simp[results,Tryz.results73,go_sem]) rfl ⟨rfl,y.out⟩
def bH(H:Nat)(ao:Option Addr)(I:List Int):Prop:=I= []∨∃b off,ao=some ⟨b,off,none⟩∧H≤b
def ft(base H:Nat)(w:World)(po:Option Addr)(n:Nat):Prop:=n=0∨∃g,po=some ⟨g,0,none⟩∧base≤g∧g<H∧mr w g n
theorem ft.below{d H:Nat}{w f:World}{l:Option Addr}{n:Nat}(h:ft d H w l n)(m:Below w.heap.size w f):ft d H f l n:=by
 rcases h with h|⟨g,t,y,z,A⟩
 ·exact .inl h
 ·exact .inr ⟨g,t,y,z,A.below m⟩
theorem ft.set{d H:Nat}{w:World}{f:Option Addr}{n:Nat}(h:ft d H w f n)(b j:Nat)(z:Int):ft d H (w.setCell ⟨b,j,none⟩ (.int .u64 z)) f n:=by
 rcases h with h|⟨g,l,m,t,y⟩
 ·exact .inl h
 ·exact .inr ⟨g,l,m,t,y.set b j z⟩
theorem ft.upto{d H H':Nat}{w:World}{f:Option Addr}{n:Nat}(h:ft d H w f n)(y:H≤H'):ft d H' w f n:=by
 rcases h with h|⟨g,l,m,z,t⟩
 ·exact .inl h
 ·exact .inr ⟨g,l,m,by omega,t⟩
theorem ft.base{f d H:Nat}{w:World}{l:Option Addr}{n:Nat}(h:ft f H w l n)(z:d≤f):ft d H w l n:=by
 rcases h with h|⟨g,m,A,t,y⟩
 ·exact .inl h
 ·exact .inr ⟨g,m,by omega,t,y⟩
theorem bD.copy{d:Nat}{w:World}{I:List Int}{f:Option Addr}{m:Nat}(h:bD d w (.slice f I.length m) (cn I)):ft d w.heap.size w f I.length:=by
 rcases Nat.eq_zero_or_pos I.length with e|e
 ·exact .inl e
 ·obtain⟨g,t,y,z,l⟩:=h.rowU (by rw[gz];exact e)
  rw[gz]at l
  exact .inr ⟨g,t,y,z,l⟩
theorem ac.far{H:Nat}{w:World}{ao:Option Addr}{c:Nat}{I:List Int}(h:ac w ao c I)(l:bH H ao I){b:Nat}(t:b<H)(j:Nat)(u:Value):ac (w.setCell ⟨b,j,none⟩ u) ao c I:=by
 refine h.other ?_ u
 rcases l with e|⟨f,d,m,y⟩
 ·exact .inl e
 ·exact .inr ⟨f,d,m,by show f≠b;omega⟩
theorem bD.same{d:Nat}{w y:World}{I:List Int}{f ao:Option Addr}{l c:Nat}(h:bD d w (.slice f I.length l) (cn I))(z:ac y ao c I):ac w f l I:=by
 obtain⟨A,m,e,t⟩:=h.bits
 simp only[Value.slice.injEq]at e
 obtain⟨rfl,_,rfl⟩:=e
 rw[pZ z]at t
 exact t
def aq(w:World)(b:Nat)(x y z:Value):Prop:=w.heap[b]? =some (.cells #[x,y,z] 24 (0,0))
theorem aq.c0{w:World}{b:Nat}{x y z:Value}(h:aq w b x y z):w.cell? ⟨b,0,none⟩=some x:=by rw[cell_of_row w b 0 _ _ _ h];rfl
theorem aq.c1{w:World}{b:Nat}{x y z:Value}(h:aq w b x y z):w.cell? ⟨b,1,none⟩=some y:=by rw[cell_of_row w b 1 _ _ _ h];rfl
theorem aq.c2{w:World}{b:Nat}{x y z:Value}(h:aq w b x y z):w.cell? ⟨b,2,none⟩=some z:=by rw[cell_of_row w b 2 _ _ _ h];rfl
theorem aq.free{w:World}{b:Nat}{x y z:Value}(h:aq w b x y z)(j:Nat):w.frozen? ⟨b,j,none⟩=false:=frozen_of_row w b j _ _ h
theorem aq.lt{w:World}{b:Nat}{x y z:Value}(h:aq w b x y z):b<w.heap.size:=(Array.getElem?_eq_some_iff.1 h).1
theorem aq.below{w f:World}{b:Nat}{x y z:Value}(h:aq w b x y z){B:Nat}(l:Below B w f)(d:b<B):aq f b x y z:=(l.block b d).trans h
theorem aq.new(w:World)(x y z:Value):aq (w.alloc (.cells #[x,y,z] 24)) w.heap.size x y z:=heap_alloc_new w _
theorem aq.all{w d:World}{b:Nat}{x y z:Value}(h:aq w b x y z)(f:Below w.heap.size w d):aq d b x y z:=h.below f h.lt
theorem aq.other{w:World}{b:Nat}{x y z:Value}(h:aq w b x y z){p:Addr}(d:b≠p.block)(u:Value):aq (w.setCell p u) b x y z:=(Below.heap_setCell w p u b d).trans h
theorem aq.put{w:World}{b:Nat}{x y z:Value}(h:aq w b x y z)(u u' u'':Value):aq (((w.setCell ⟨b,0,none⟩ u).setCell ⟨b,1,none⟩ u').setCell ⟨b,2,none⟩ u'') b u u' u'':=by
 have d:=heap_setCell_same w b 0 _ _ u h
 have f:=heap_setCell_same (w.setCell ⟨b,0,none⟩ u) b 1 _ _ u' d
 have l:=heap_setCell_same ((w.setCell ⟨b,0,none⟩ u).setCell ⟨b,1,none⟩ u') b 2 _ _ u'' f
 unfold aq
 rw[l]
 simp
theorem ai{w f:World}{B b:Nat}(h:Below B w f)(d:B≤b)(u u' u'':Value):Below B w (((f.setCell ⟨b,0,none⟩ u).setCell ⟨b,1,none⟩ u').setCell ⟨b,2,none⟩ u''):=
 ((h.setCell d _).setCell d _).setCell d _
theorem aq.grown{w d:World}{b:Nat}{x y z:Value}(h:aq w b x y z){o:Option Nat}(f:w.grownBy d o)(l:o≠some b):aq d b x y z:=
 (f.block b h.lt l.symm).trans h
def zR(r c:Int):Bool:=decide (0≤r∧r≤6∧0≤c∧c≤6)
def i9(r c:Int)(n:Nat):Bool:=decide ((0≤r∧r≤6∧0≤c∧c≤6)∧(n:Int)=r*c)
theorem gN(r c:Int)(w:World):
  Calls Tryz.prog 168 #[.int .i64 r,.int .i64 c] w fun e d=>e=.returned (.bool (zR r c))∧w=d:=by
 rcases(show(r<0∧zR r c=false)∨(0≤r∧6<r∧zR r c=false)∨(0≤r∧r≤6∧c<0∧zR r c=false)∨(0≤r∧r≤6∧0≤c∧6<c∧zR r c=false)∨(0≤r∧r≤6∧0≤c∧c≤6∧zR r c=true) by
  unfold zR
  by_cases h:0≤r∧r≤6∧0≤c∧c≤6
  ·rw[decide_eq_true h];simp;omega
  ·rw[decide_eq_false h];simp;omega)with⟨h1,e⟩|⟨h1,h2,e⟩|⟨h1,h2,h3,e⟩|⟨h1,h2,h3,h4,e⟩|⟨h1,h2,h3,h4,e⟩
 all_goals
  rw[e]
  clear e
  go_enter Tryz.func168,Tryz.ntmps168
  go_wp2
  go_ret
  refine⟨?_,rfl⟩
  first|rfl|(simp;omega)
theorem kh(r c:Int)(ao:Option Addr)(n cap:Nat)(w:World)(I:n≤35184372088830):
  Calls Tryz.prog 110 #[.agg #[.int .i64 r,.int .i64 c,.slice ao n cap]] w fun e z=>e=.returned (.int .i64 (if i9 r c n=true then 0 else 1))∧Below w.heap.size w z:=by
 have f:=aa (fun z=>gN r c z)
 have t:=aa (ab w (.cells #[.int .i64 r,.int .i64 c,.slice ao n cap] 24))
 by_cases d:0≤r∧r≤6∧0≤c∧c≤6
 ·have y:zR r c=true:=decide_eq_true d
  rw[y]at f
  have A:∃m:Nat,r*c=(m:Int)∧m≤36:=by
   obtain⟨a,rfl⟩:=Int.eq_ofNat_of_zero_le d.1
   obtain⟨b,rfl⟩:=Int.eq_ofNat_of_zero_le d.2.2.1
   refine⟨a*b,by simp,?_⟩
   have:a*b≤6*6:=Nat.mul_le_mul (by omega) (by omega)
   omega
  obtain⟨m,A,H⟩:=A
  by_cases D:n=m
  ·have l:i9 r c n=true:=decide_eq_true ⟨d,by rw[A,D]⟩
   rw[if_pos l]
   subst D
   clear y l d
   go_enter Tryz.func110,Tryz.ntmps110
   go_wp2_with fail
   refine(uH f _).mono ?_
   rintro e F ⟨rfl,rfl⟩
   clear f
   go_wp2
   go_ret
   exact⟨rfl,uH t⟩
  ·have l:i9 r c n=false:=decide_eq_false (fun h=>D (by have:=h.2;omega))
   rw[if_neg (by rw[l];decide)]
   have G:decide ((n:Int)=(m:Int))=false:=decide_eq_false (by omega)
   clear y l d
   go_enter Tryz.func110,Tryz.ntmps110
   go_wp2_with fail
   refine(uH f _).mono ?_
   rintro e F ⟨rfl,rfl⟩
   clear f
   go_wp2
   go_ret
   exact⟨rfl,uH t⟩
 ·have y:zR r c=false:=decide_eq_false d
  rw[y]at f
  have l:i9 r c n=false:=decide_eq_false (fun h=>d h.1)
  rw[if_neg (by rw[l];decide)]
  clear y l d
  go_enter Tryz.func110,Tryz.ntmps110
  go_wp2_with fail
  refine(uH f _).mono ?_
  rintro e F ⟨rfl,rfl⟩
  clear f
  go_wp2
  go_ret
  exact⟨rfl,uH t⟩
end Go.Proofs.YtlnphkioddknfaaGreatDoor
namespace Go.Proofs.YtlnphkioddknfaaGreatDoor
open Go.RowKit
def ar(S:List Nat):List Int:=S.map (fun x:Nat=>(x:Int))
theorem al(S:List Nat):(ar S).length=S.length:=by simp[ar]
theorem di(S:List Nat)(j:Nat):aM (ar S) j=S.getD j 0:=by
 unfold ar aM
 rw[List.getElem?_map,List.getD_eq_getElem?_getD]
 cases S[j]? <;>simp
theorem tt{w:World}{ao:Option Addr}{c:Nat}{I:List Int}(h:ac w ao c I):ar (cn I)=I:=pZ h
theorem Cu(S:List Nat):cn (ar S)=S:=by
 unfold cn ar
 rw[List.map_map]
 refine(List.map_congr_left fun x _=>?_).trans (List.map_id S)
 simp
theorem ac.nat{w:World}{ao:Option Addr}{c:Nat}{S:List Nat}(h:ac w ao c (ar S)):∀x∈S,x<18446744073709551616:=by
 intro x d
 have:=h.2.1 (x:Int) (List.mem_map.2 ⟨x,d,rfl⟩)
 omega
theorem ac.none(w:World)(c:Nat):ac w .none c (ar []):=⟨by simp[ar],by simp[ar],.inl rfl⟩
theorem ac.nilAt(w:World)(ao:Option Addr)(c:Nat):ac w ao c (ar []):=⟨by simp[ar],by simp[ar],.inl rfl⟩
theorem ac.putM{w:World}{ao:Option Addr}{c:Nat}{I:List Int}(h:ac w ao c I){g:Nat}{x y:Int}{a:Option Addr}{n d:Nat}(A:aq w g (.int .i64 x) (.int .i64 y) (.slice a n d))(u u' u'':Value):
  ac (((w.setCell ⟨g,0,.none⟩ u).setCell ⟨g,1,.none⟩ u').setCell ⟨g,2,.none⟩ u'') ao c I:=by
 refine⟨h.1,h.2.1,?_⟩
 rcases h.2.2 with G|⟨b,f,H,K,z⟩
 ·exact .inl G
 ·by_cases t:I= []
  ·exact .inl t
  ·have F:0<I.length:=List.length_pos_iff.2 t
   have l:b≠g:=by
    rintro rfl
    have m:=z 0 F
    rw[cell_of_row w b (f+0) _ _ _ A]at m
    rcases(show f=0∨f=1∨f=2∨3≤f by omega)with e|e|e|e
    ·subst e;simp at m
    ·subst e;simp at m
    ·subst e;simp at m
    ·rw[Array.getElem?_eq_none (by simp;omega)]at m;simp at m
   refine .inr ⟨b,f,H,by simpa[World.setCell]using K,fun i D=>?_⟩
   rw[ap _ _ _ _ (by simpa using l),ap _ _ _ _ (by simpa using l),ap _ _ _ _ (by simpa using l)]
   exact z i D
def Mx(w:World)(ao:Option Addr)(cap r c:Nat)(S:List Nat):Prop:=ac w ao cap (ar S)∧S.length=r*c∧r≤6∧c≤6
theorem Mx.below{w d:World}{ao:Option Addr}{cap r c:Nat}{S:List Nat}(h:Mx w ao cap r c S)(f:Below w.heap.size w d):Mx d ao cap r c S:=⟨h.1.below f,h.2⟩
theorem Mx.small{w:World}{ao:Option Addr}{cap r c:Nat}{S:List Nat}(h:Mx w ao cap r c S):S.length≤36:=by
 rw[h.2.1]
 exact Nat.mul_le_mul h.2.2.1 h.2.2.2
theorem Mx.el_lt{w:World}{ao:Option Addr}{cap r c:Nat}{S:List Nat}(h:Mx w ao cap r c S)(i k:Nat):bB c S i k<18446744073709551616:=by
 unfold bB
 rw[List.getD_eq_getElem?_getD]
 by_cases g:i*c+k<S.length
 ·rw[List.getElem?_eq_getElem g];exact h.1.nat _ (List.getElem_mem g)
 ·rw[List.getElem?_eq_none (by omega)];decide
theorem Mx.cells{w:World}{ao:Option Addr}{cap r c:Nat}{S:List Nat}(h:Mx w ao cap r c S){i k:Nat}(l:i<r)(m:k<c):∃b d,ao=some ⟨b,d,.none⟩∧b<w.heap.size∧w.cell? ⟨b,d+(i*c+k),.none⟩=some (.int .u64 (bB c S i k:Nat))∧i*c+k<S.length:=by
 have f:i*c+k<S.length:=by rw[h.2.1];exact cV l m
 obtain⟨b,d,t,y,z⟩:=h.1.ne (by rw[al];omega)
 refine⟨b,d,t,y,?_,f⟩
 rw[z _ (by rw[al];exact f),di]
 rfl
theorem kT{w:World}{ao:Option Addr}{cap r c:Nat}{S:List Nat}(h:Mx w ao cap r c S):i9 (r:Int) (c:Int) S.length=true:=by
 refine decide_eq_true ⟨⟨by omega,?_,by omega,?_⟩,?_⟩
 ·have:=h.2.2.1;omega
 ·have:=h.2.2.2;omega
 ·rw[h.2.1];simp
theorem Mx.of{w:World}{ao:Option Addr}{cap:Nat}{I:List Int}{r c:Int}(h:ac w ao cap I)(d:i9 r c I.length=true):∃p q:Nat,r=(p:Int)∧c=(q:Int)∧Mx w ao cap p q (cn I)∧ar (cn I)=I:=by
 obtain⟨⟨f,m,l,t⟩,y⟩:=of_decide_eq_true d
 obtain⟨p,rfl⟩:=Int.eq_ofNat_of_zero_le f
 obtain⟨q,rfl⟩:=Int.eq_ofNat_of_zero_le l
 refine⟨p,q,rfl,rfl,⟨by rw[tt h];exact h,?_,by omega,by omega⟩,tt h⟩
 rw[gz]
 have:((p*q:Nat):Int)=(p:Int)*(q:Int):=by simp
 omega
def aS(H:Nat)(w':World)(r c:Nat)(S:List Nat)(v:Value):Prop:=∃ao cap,v=.agg #[.int .i64 r,.int .i64 c,.slice ao S.length cap]∧bH H ao (ar S)∧ac w' ao cap (ar S)
theorem aS.zero(H:Nat)(w:World):aS H w 0 0 [] (.agg #[.int .i64 0,.int .i64 0,.slice .none 0 0]):=⟨.none,0,rfl,.inl rfl,ac.none w 0⟩
theorem aS.least{H H':Nat}{w:World}{r c:Nat}{S:List Nat}{v:Value}(h:aS H w r c S v)(f:H'≤H):aS H' w r c S v:=by
 obtain⟨ao,cap,l,m,t⟩:=h
 refine⟨ao,cap,l,?_,t⟩
 rcases m with e|⟨b,d,y,z⟩
 ·exact .inl e
 ·exact .inr ⟨b,d,y,Nat.le_trans f z⟩
attribute [local go_sem ↓] Go.wp_at_zero Go.wp_at_succ
theorem Ik(r c n cap b d i k q x:Nat)(w:World)(y:(i:Int)*(c:Int)=(q:Int))(l:q+k<n)(z:n≤36)
  (h:w.cell? ⟨b,d+(q+k),none⟩=some (.int .u64 (x:Nat))):
  Calls Tryz.prog 180 #[.agg #[.int .i64 r,.int .i64 c,.slice (some ⟨b,d,none⟩) n cap],.int .i64 i,.int .i64 k] w fun e m=>e=.returned (.int .u64 (x:Nat))∧Below w.heap.size w m:=by
 have f:=aa (ab w (.cells #[.int .i64 r,.int .i64 c,.slice (some ⟨b,d,none⟩) n cap] 24))
 have A:=ah h (uH f)
 clear h
 have t:(q:Int)+(k:Int)<(n:Int):=by omega
 go_enter Tryz.func180,Tryz.ntmps180
 go_wp2
 go_ret
 exact⟨rfl,uH f⟩
theorem bd(i c:Nat):(i:Int)*(c:Int)=((i*c:Nat):Int):=by simp
theorem xk(r c cap i k:Nat)(ao:Option Addr)(S:List Nat)(w:World)(h:Mx w ao cap r c S)(f:i<r)(l:k<c):
  Calls Tryz.prog 180 #[.agg #[.int .i64 r,.int .i64 c,.slice ao S.length cap],.int .i64 i,.int .i64 k] w fun e m=>e=.returned (.int .u64 (bB c S i k:Nat))∧Below w.heap.size w m:=by
 obtain⟨b,d,rfl,z,t,y⟩:=h.cells f l
 exact Ik r c S.length cap b d i k (i*c) _ w (bd i c) y h.small t
def p5(c:Nat)(S:List Nat)(i:Nat):List Nat:=(List.range c).map (fun k=>bB c S i k)
theorem iS(c:Nat)(S:List Nat)(i:Nat):(p5 c S i).length=c:=by simp[p5]
theorem vB(c:Nat)(S:List Nat)(i k:Nat)(h:k<c):(p5 c S i).getD k 0=bB c S i k:=by simp[p5,List.getD_eq_getElem?_getD,h]
theorem Il(r c n cap i q p:Nat)(ao:Option Addr)(w:World)(y:(i:Int)*(c:Int)=(q:Int))(z:((i:Int)+1)*(c:Int)=(p:Int))(f:q≤p)(l:p≤n)(m:n≤cap)(A:n≤36)(D:i≤6):
  Calls Tryz.prog 184 #[.agg #[.int .i64 r,.int .i64 c,.slice ao n cap],.int .i64 i] w fun e t=>e=.returned (.slice (if cap=q then ao else ao.map (·.add (q*1))) (p-q) (cap-q))∧Below w.heap.size w t:=by
 have d:=aa (ab w (.cells #[.int .i64 r,.int .i64 c,.slice ao n cap] 24))
 by_cases h:cap=q
 ·subst h
  rw[if_pos rfl]
  go_enter Tryz.func184,Tryz.ntmps184
  go_wp2
  go_ret
  exact⟨by simp,uH d⟩
 ·rw[if_neg h]
  go_enter Tryz.func184,Tryz.ntmps184
  go_wp2
  go_ret
  exact⟨by simp,uH d⟩
theorem tu{w t:World}{ao:Option Addr}{cap r c:Nat}{S:List Nat}(h:Mx w ao cap r c S)(z:Below w.heap.size w t){i:Nat}(f:i<r):ac t (if cap=i*c then ao else ao.map (·.add (i*c*1))) (cap-i*c) (ar (p5 c S i)):=by
 have G:(i+1)*c≤S.length:=by rw[h.2.1];exact Nat.mul_le_mul_right c f
 rw[Nat.add_mul,Nat.one_mul]at G
 have H:=h.1.1
 rw[al]at H
 refine⟨by rw[al,iS];omega,?_,?_⟩
 ·intro x M
  obtain⟨y,I,rfl⟩:=List.mem_map.1 M
  obtain⟨k,_,rfl⟩:=List.mem_map.1 I
  have:=h.el_lt i k
  omega
 ·rcases Nat.eq_zero_or_pos c with e|e
  ·subst e;exact .inl rfl
  ·obtain⟨b,l,A,K,N,O⟩:=(h.below z).cells f e
   refine .inr ⟨b,l+i*c,?_,K,fun k F=>?_⟩
   ·rw[if_neg (by omega),A]
    simp[Addr.add]
   ·have d:k<c:=by rwa[al,iS]at F
    obtain⟨Q,D,m,U,L,V⟩:=(h.below z).cells f d
    rw[A]at m
    simp only[Option.some.injEq,Addr.mk.injEq]at m
    obtain⟨rfl,rfl,_⟩:=m
    rw[Nat.add_assoc,L]
    simp[ar,p5,d]
theorem xl(r c cap i:Nat)(ao:Option Addr)(S:List Nat)(w:World)(h:Mx w ao cap r c S)(l:i<r):
  Calls Tryz.prog 184 #[.agg #[.int .i64 r,.int .i64 c,.slice ao S.length cap],.int .i64 i] w fun e f=>∃m d,e=.returned (.slice m c d)∧ac f m d (ar (p5 c S i))∧Below w.heap.size w f:=by
 have z:(i+1)*c≤S.length:=by rw[h.2.1];exact Nat.mul_le_mul_right c l
 have A:i*c≤(i+1)*c:=Nat.mul_le_mul_right c (by omega)
 have t:=h.1.1
 rw[al]at t
 have D:=h.2.2.1
 refine(Il r c S.length cap i (i*c) ((i+1)*c) ao w (bd i c) (by simp) A z t h.small (by omega)).mono ?_
 rintro e f ⟨rfl,y⟩
 rw[show(i+1)*c-i*c=c by rw[Nat.add_mul,Nat.one_mul];omega]
 exact⟨_,_,rfl,tu h y l,y⟩
theorem bH.least{H H':Nat}{ao:Option Addr}{I:List Int}(h:bH H ao I)(f:H'≤H):bH H' ao I:=by
 rcases h with e|⟨b,d,l,m⟩
 ·exact .inl e
 ·exact .inr ⟨b,d,l,Nat.le_trans f m⟩
theorem bD.newB{d:Nat}{w:World}{ao:Option Addr}{n cap:Nat}{S:List Nat}(h:bD d w (.slice ao n cap) S):bH d ao (ar S):=by
 rcases h.1.2 with⟨_,m⟩|⟨g,f,t,l,y,_⟩
 ·exact .inl (by rw[List.length_eq_zero_iff.1 m];rfl)
 ·simp only[Value.slice.injEq]at l
  exact .inr ⟨g,0,l.1,y⟩
theorem jK(fn:Nat)(I:Array Value)(r c:Nat)(f:Nat→Nat→Nat)(w:World)
  (a5:∀K w,(callFunc fn K).run Tryz.prog w=.ok (.enter fn K) w) (hr:r≤6) (hc:c≤6) (hf:∀i k,i<r→k<c→f i k<18446744073709551616)
  (m:∀A i k,Below w.heap.size w A→i<r→k<c→Calls Tryz.prog fn (#[.int .i64 (i:Nat),.int .i64 (k:Nat)]++I) A fun e am=>e=.returned (.int .u64 (f i k:Nat))∧Below A.heap.size A am):
  Calls Tryz.prog 178 #[.int .i64 r,.int .i64 c,.func (.func fn) #[] I] w fun e A=>∃v,e=.returned v∧aS w.heap.size A r c (bW r c f) v∧Below w.heap.size w A:=by
 obtain⟨i0,a0,a1,a2,a3⟩:=info_parts jp
 have HS:=aa m;have HF:=aa hf
 have hm:(r:Int)*(c:Int)=((r*c:Nat):Int):=bd r c
 have a6:r*c≤36:=Nat.mul_le_mul hr hc
 have X0:=aa (aq.new w (.int .i64 0) (.int .i64 0) (.slice none 0 0))
 have B0:=aa (ab w (.cells #[.int .i64 0,.int .i64 0,.slice none 0 0] 24))
 obtain⟨w1,a4,N,V⟩:=run_make_own (P:=Tryz.prog) (w.alloc (.cells #[.int .i64 0,.int .i64 0,.slice none 0 0] 24)) (w.heap.size+1) 22 37 i0 (.int .u64 0) 1 Tryz.underlying22 a0 a1 a2 .i64 .i64 (r*c) (by rw[a3];omega) (by unfold maxLen;omega) (by simp)
 have B1:=aa ((uH B0).grown V (by simp) (fun g hg=>by cases hg))
 have X1:aq w1 w.heap.size (.int .i64 0) (.int .i64 0) (.slice none 0 0):=(uH X0).grown V (by simp)
 have O1:=aa (show bD (w.heap.size+1) w1 (.slice (some ⟨w.heap.size+1,0,none⟩) 0 (r*c)) (gY (fun p=>f (p/c) (p%c)) (0*c))from⟨by rw[Nat.zero_mul];simpa[gY]using N,by rw[Nat.zero_mul];intro x hx;cases hx⟩)
 have X:=aa X1
 clear N V X0 B0 X1
 obtain⟨F,hF⟩:∃F:Nat→Nat,F=fun p=>f (p/c) (p%c):=⟨_,rfl⟩
 rw[←hF]at O1
 have FV:=aa (show∀j k,k<c→F (j*c+k)=f j k from fun j k hk=>by rw[hF];show f ((j*c+k)/c) ((j*c+k)%c)=_;rw[ir hk,iw hk])
 have FM:=aa (show bW r c f=gY F (r*c)from by rw[hF];rfl)
 rw[uH FM]
 generalize ak:r*c=n at*
 have Y:=aa ak
 clear ak m hf hF
 go_enter Tryz.func178,Tryz.ntmps178
 go_wp2_with fail
 clear a4
 go_loopw[7,15] (fun v i wr=>∃j:Nat,j≤r∧i=.int .i64 j∧Hid (bD (w.heap.size+1) wr v (gY F (j*c)))∧Hid (aq wr w.heap.size (.int .i64 0) (.int .i64 0) (.slice none 0 0))∧Hid (Below w.heap.size w wr)) (fun _ i _=>r-(intOf i).toNat)
 case atStart=>exact⟨0,Nat.zero_le _,rfl,O1,X,B1⟩
 case round=>
  clear O1 X B1
  obtain⟨j,hj,rfl,l,d,z⟩:=hrel
  by_cases U:j<r
  ·have a7:(j:Int)<(r:Int):=by omega
   have D:=aa (show bD (w.heap.size+1) wr _ (gY F (j*c+0))from uH l)
   clear l
   go_wp2_with fail
   go_loopw[7,19] (fun v i wr=>∃k:Nat,k≤c∧i=.int .i64 k∧Hid (bD (w.heap.size+1) wr v (gY F (j*c+k)))∧Hid (aq wr w.heap.size (.int .i64 0) (.int .i64 0) (.slice none 0 0))∧Hid (Below w.heap.size w wr)) (fun _ i _=>c-(intOf i).toNat)
   case atStart=>exact⟨0,Nat.zero_le _,rfl,D,d,z⟩
   case round=>
    clear D d z
    obtain⟨k,hk,rfl,l,d,z⟩:=hrel
    by_cases G:k<c
    ·have a9:(k:Int)<(c:Int):=by omega
     have C:=aa (fun A h=>uH HS A j k h U G)
     have ho:=aa (uH HF j k U G)
     have eo:=aa (uH FV j k G)
     have L:=aa (show(gY F (j*c+k)).length≤1000000 from by
      rw[dw]
      have:=cV U G
      rw[uH Y]at this
      omega)
     generalize f j k=o at*
     go_wp2_with fail
     refine(uH C _ z.out).mono ?_
     rintro e w2 ⟨rfl,H⟩
     have M:=(uH l).below H
     have t:=(uH d).all H
     have B2:=z.out.trans (H.mono z.out.size)
     obtain⟨v3,w3,O,Q,y,_,_⟩:=M.push o (uH ho) (uH L) (by have:=t.lt;omega) 22
     have Z:=aa O
     have O3:=aa (show bD (w.heap.size+1) w3 v3 (gY F (j*c+(k+1)))from by
      rw[←Nat.add_assoc,iq,uH eo];exact Q)
     have X3:=aa (t.below y (by omega))
     have B3:=aa (B2.trans (y.mono (by omega)))
     clear H C l d z M t B2 O Q y ho eo L
     go_wp2_with(at_builtin;refine aT _ rfl _ _ 22 rfl _ _ _ _ rfl rfl (uH Z) ?_;clear Z)
     go_round
     case rel=>exact⟨k+1,by omega,by go_num,O3,X3,B3⟩
     case measure=>simp[intOf];omega
    ·have ax:k=c:=by omega
     subst ax
     have D:=aa (show bD (w.heap.size+1) _ _ (gY F ((j+1)*k))from by rw[Nat.add_mul,Nat.one_mul];exact uH l)
     clear l
     go_wp2_with fail
     go_round
     case rel=>exact⟨j+1,by omega,by go_num,D,d,z⟩
     case measure=>simp[intOf];omega
  ·have aI:j=r:=by omega
   subst aI
   rw[uH Y]at l
   obtain⟨b1,d1,e1,q1⟩:=(uH l).bits
   have ae:=(uH l).1
   rw[dw]at e1
   subst e1
   have aj:=aa ((uH l).newB.least (Nat.le_succ w.heap.size))
   have s0:=(uH d).c0;have s1:=(uH d).c1;have s2:=(uH d).c2
   have f0:=(uH d).free 0;have f1:=(uH d).free 1;have f2:=(uH d).free 2
   have XP:=(uH d).put (.int .i64 j) (.int .i64 c) (.slice b1 n d1)
   have z0:=XP.c0;have z1:=XP.c1;have z2:=XP.c2
   have QP:=aa (q1.putM (uH d) (.int .i64 j) (.int .i64 c) (.slice b1 n d1))
   have BP:=aa (ai (uH z) (Nat.le_refl _) (.int .i64 j) (.int .i64 c) (.slice b1 n d1))
   clear q1 ae l d z XP
   go_wp2
   exact bodyPost_ret (v:=.agg #[.int .i64 j,.int .i64 c,.slice b1 n d1]) (by simp[results,Tryz.results178,go_sem,z0,z1,z2]) rfl ⟨_,rfl,⟨b1,d1,by rw[dw],uH aj,uH QP⟩,uH BP⟩
end Go.Proofs.YtlnphkioddknfaaGreatDoor
