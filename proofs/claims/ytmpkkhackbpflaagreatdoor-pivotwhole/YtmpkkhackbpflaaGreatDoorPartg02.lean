/- Part 2 of the texts. -/
import Derived.Test.YtmpkkhackbpflaaGreatDoorPartg01
import Derived.Deep.RegionHeld3
import Derived.Deep.DrawnRows
set_option maxHeartbeats 400000
namespace Go.Proofs.YtmpkkhackbpflaaGreatDoor
open Go.RowKit
def d6(x:Nat):Value:=.int .u32 (x:Int)
def cH(w:World)(g:Nat)(S:List Nat):Prop:=w.heap[g]? =some (.cells (S.map d6).toArray 147 (0,0))
theorem cH.cell{w:World}{g:Nat}{S:List Nat}(h:cH w g S)(j:Nat)(d:j<S.length):w.cell? ⟨g,j,none⟩=some (.int .u32 ((S[j]?.getD 0:Nat):Int)):=by
 rw[cell_of_row w g j _ _ _ h]
 simp[d6,d]
theorem cH.free{w:World}{g:Nat}{S:List Nat}(h:cH w g S)(j:Nat):w.frozen? ⟨g,j,none⟩=false:=frozen_of_row w g j _ _ h
theorem cH.set{w:World}{g:Nat}{S:List Nat}(h:cH w g S)(j x:Nat):cH (w.setCell ⟨g,j,none⟩ (.int .u32 (x:Int))) g (S.set j x):=by
 unfold cH
 rw[heap_setCell_same w g j _ _ _ h]
 simp[List.map_set,d6]
theorem cH.lt{w:World}{g:Nat}{S:List Nat}(h:cH w g S):g<w.heap.size:=(Array.getElem?_eq_some_iff.1 h).1
theorem cH.limbs{w:World}{g:Nat}{S:List Nat}(h:cH w g S)(l:bM S)(d:Nat)(t:S.length≤d):af w (some ⟨g,0,none⟩) d S:=
 ⟨t,l,.inr ⟨g,0,rfl,h.lt,fun i z=>by rw[Nat.zero_add];exact h.cell i z⟩⟩
theorem cH.drewN{w:World}{g:Nat}{S:List Nat}(h:cH w g S)(n:Nat):cH (w.drewN n) g S:=h
theorem cH.made{w:World}{l g n:Nat}(h:w.ownsRow l 147 1 (.slice (some ⟨g,0,none⟩) n n) n (madeCells (Value.int .u32 0).cells (n*1)).toList):cH w g (List.replicate n 0):=by
 rcases h.2 with⟨t,_⟩|⟨g',D,z,t,_,F,_,_,G,d⟩
 ·simp at t
 ·simp only[Value.slice.injEq,Option.some.injEq,Addr.mk.injEq,and_true,true_and]at t
  obtain⟨rfl,rfl⟩:=t
  unfold cH
  rw[F]
  rw[List.take_of_length_le (by simp[G])]at d
  have:z=((List.replicate n 0).map d6).toArray:=by
   apply Array.toList_inj.1
   rw[d]
   refine List.ext_getElem (by simp[madeCells]) fun i H I=>?_
   simp[madeCells,Value.cells,d6,Nat.mod_one]
  rw[this]
def aj(neg:Bool)(L:List Nat):Int:=if neg then-(val L:Int)else(val L:Int)
def ar(B:Nat)(w:World)(v:Value)(x:Int):Prop:=
 ∃neg ao cap L,v=.agg #[.bool neg,.slice ao L.length cap]∧af w ao cap L∧bB B ao L∧bZ L∧neg=decide (x<0)∧val L=x.natAbs∧L.length≤35184372088832
def sA:Nat:=512
def eN:Nat:=4294967296^sA
def bO(x:Int):Int:=if x.natAbs<eN then 0 else 2
def eI(x:Int):Int:=if x.natAbs<eN then x else 0
theorem bB.mono{B l:Nat}{t:Option Addr}{L:List Nat}(h:bB B t L)(z:l≤B):bB l t L:=by
 rcases h with h|⟨b,d,D,F⟩
 ·exact .inl h
 ·exact .inr ⟨b,d,D,Nat.le_trans z F⟩
theorem bB.zero{w:World}{t:Option Addr}{d:Nat}{L:List Nat}(h:af w t d L):bB 0 t L:=by
 rcases h.2.2 with h|⟨b,l,z,_⟩
 ·exact .inl h
 ·exact .inr ⟨b,l,z,Nat.zero_le _⟩
theorem ar.below{B:Nat}{w l:World}{v:Value}{x:Int}(h:ar B w v x)(t:Below w.heap.size w l):ar B l v x:=by
 obtain⟨neg,z,d,L,D,F,G⟩:=h
 exact⟨neg,z,d,L,D,F.below t,G⟩
theorem ar.mono{B l:Nat}{w:World}{v:Value}{x:Int}(h:ar B w v x)(t:l≤B):ar l w v x:=by
 obtain⟨neg,z,d,L,D,F,G,H⟩:=h
 exact⟨neg,z,d,L,D,F,G.mono t,H⟩
theorem ar.zero(B:Nat)(w:World)(h:Option Addr)(d:Nat):ar B w (.agg #[.bool false,.slice h 0 d]) 0:=
 ⟨false,h,d,[],rfl,af.nil _ _ _,.inl rfl,.inl rfl,rfl,rfl,by simp⟩
theorem bh(neg:Bool)(L:List Nat):(aj neg L).natAbs=val L:=by
 unfold aj;cases neg<;>simp
theorem ar.mk{B:Nat}{w:World}{neg:Bool}{l:Option Addr}{d:Nat}{L:List Nat}(h:af w l d L)(t:bB B l L)(c:bZ L)(z:L≠ [])(D:L.length≤35184372088832):ar B w (.agg #[.bool neg,.slice l L.length d]) (aj neg L):=by
 refine⟨neg,l,d,L,rfl,h,t,c,?_,(bh neg L).symm,D⟩
 have F:val L≠0:=fun e=>z ((aS L c).1 e)
 unfold aj;cases neg<;>simp<;>omega
theorem oU{neg:Bool}{L d:List Nat}(h:val L=val d):aj neg L=aj neg d:=by unfold aj;rw[h]
theorem iN(neg:Bool):aj neg []=0:=by unfold aj;cases neg<;>simp[val]
theorem gj(L:List Nat)(h:bM L)(c:bZ L):val L<eN↔L.length≤512:=(iH L h c sA).symm
theorem j8(B:Nat)(neg:Bool)(I:Option Addr)(z:Nat)(L:List Nat)(w:World)(h:af w I z L)(T:bB B I L)(hl:L.length≤35184372088832):
  Calls Tryz.prog 248 #[.bool neg,.slice I L.length z] w fun e N=>∃v,e=.returned (.tuple #[v,.int .i64 (bO (aj neg L))])∧ar B N v (eI (aj neg L))∧Below w.heap.size w N:=by
 have J:∀d:List Nat,bZ d→bM d→val d=val L→(d= []→bO (aj neg L)=0∧eI (aj neg L)=0)∧(512<d.length→bO (aj neg L)=2∧eI (aj neg L)=0)∧(d.length≤512→bO (aj neg L)=0∧eI (aj neg L)=aj neg d):=by
  intro d c f M
  have U:=gj d f c
  refine⟨?_,?_,?_⟩
  ·rintro rfl
   have:val L=0:=by rw[←M];rfl
   have J:0<eN:=Nat.pow_pos (by decide)
   have e:aj neg L=0:=by unfold aj;cases neg<;>simp[this]
   simp[bO,eI,e,J]
  ·intro D
   have:¬val d<eN:=fun h=>by have:=U.1 h;omega
   simp[bO,eI,bh,←M,this]
  ·intro D
   have:=U.2 D
   rw[oU (neg:=neg) M]
   simp[bO,eI,bh,←M,this]
 generalize bO (aj neg L)=er at*
 generalize eI (aj neg L)=nu at*
 have V:=ac J
 clear J
 have X:=ac T
 clear T
 go_enter Tryz.func248,Tryz.ntmps248
 go_wp2_with fail
 refine(oT I z L _ (h.below ?_) hl).mono ?_
 ·exact(Below.refl _ _).alloc (Nat.le_refl _) _
 rintro e N ⟨v,rfl,⟨G,t,d,rfl,Q,Y,h4,D,Z⟩,rfl⟩
 have O:=D w h
 have H:=ac (uH V d Q O.2.1 Y)
 have HA:=ac (Z B (uH X))
 have H1:=ac O
 have H2:=ac Q
 clear V Y D Z O Q h X
 by_cases F:d= []
 ·have l:=ac ((uH H).1 F)
  have hz:d.length=0:=by rw[F];rfl
  clear F
  go_wp2
  refine bodyPost_ret (v:=.tuple #[.agg #[.bool false,.slice none 0 0],.int .i64 0]) (by simp[results,Tryz.results248,go_sem]) rfl ⟨.agg #[.bool false,.slice none 0 0],?_,?_,(Below.refl _ _).alloc (Nat.le_refl _) _⟩
  ·rw[(uH l).1]
  ·rw[(uH l).2];exact ar.zero _ _ _ _
 ·have hp:0<d.length:=List.length_pos_iff.2 F
  have aa:((d.length:Int)==0)=false:=by simp;exact F
  by_cases D:d.length≤512
  ·have l:=ac ((uH H).2.2 D)
   go_wp2
   refine bodyPost_ret (v:=.tuple #[.agg #[.bool neg,.slice G d.length t],.int .i64 0]) (by simp[results,Tryz.results248,go_sem]) rfl ⟨.agg #[.bool neg,.slice G d.length t],?_,?_,?_⟩
   ·rw[(uH l).1]
   ·rw[(uH l).2]
    exact ar.mk ((uH H1).below ((Below.refl _ _).alloc (Nat.le_refl _) _)) (uH HA) (uH H2) F (by omega)
   ·exact(Below.refl _ _).alloc (Nat.le_refl _) _
  ·have l:=ac ((uH H).2.1 (by omega))
   go_wp2
   refine bodyPost_ret (v:=.tuple #[.agg #[.bool false,.slice none 0 0],.int .i64 2]) (by simp[results,Tryz.results248,go_sem]) rfl ⟨.agg #[.bool false,.slice none 0 0],?_,?_,(Below.refl _ _).alloc (Nat.le_refl _) _⟩
   ·rw[(uH l).1]
   ·rw[(uH l).2];exact ar.zero _ _ _ _
theorem aG{P:Program}{c:Code}{Q:Exit→Act→World→Prop}{a:Act}{w:World}(F:World→Prop)(h:F w)(k:∀W,F W→Code.wp P c Q a W):Code.wp P c Q a w:=k w h
def aC(w:World)(b:Nat)(x y:Value):Prop:=w.heap[b]? =some (.cells #[x,y] 55 (0,0))
theorem aC.c0{w:World}{b:Nat}{x y:Value}(h:aC w b x y):w.cell? ⟨b,0,none⟩=some x:=by rw[cell_of_row w b 0 _ _ _ h];rfl
theorem aC.c1{w:World}{b:Nat}{x y:Value}(h:aC w b x y):w.cell? ⟨b,1,none⟩=some y:=by rw[cell_of_row w b 1 _ _ _ h];rfl
theorem aC.free{w:World}{b:Nat}{x y:Value}(h:aC w b x y)(j:Nat):w.frozen? ⟨b,j,none⟩=false:=frozen_of_row w b j _ _ h
theorem aC.lt{w:World}{b:Nat}{x y:Value}(h:aC w b x y):b<w.heap.size:=(Array.getElem?_eq_some_iff.1 h).1
theorem aC.below{w l:World}{b:Nat}{x y:Value}(h:aC w b x y){B:Nat}(t:Below B w l)(d:b<B):aC l b x y:=(t.block b d).trans h
theorem aC.new(w:World)(x y:Value):aC (w.alloc (.cells #[x,y] 55)) w.heap.size x y:=heap_alloc_new w _
theorem aC.old{w:World}{b:Nat}{x y:Value}(h:aC w b x y)(o:Obj):aC (w.alloc o) b x y:=by
 unfold aC;rw[Below.heap_alloc w o b h.lt];exact h
theorem aC.drew{w:World}{b:Nat}{x y:Value}(h:aC w b x y):aC w.drew b x y:=h
theorem aC.drewN{w:World}{b:Nat}{x y:Value}(h:aC w b x y)(n:Nat):aC (w.drewN n) b x y:=h
theorem an(w:World)(a p:Addr)(u:Value)(h:a.block≠p.block):(w.setCell p u).cell? a=w.cell? a:=
 World.cell?_of_block (Below.heap_setCell w p u a.block h)
theorem af.store{w:World}{t:Option Addr}{l B:Nat}{L:List Nat}(h:af w t l L)(H:bB B t L){p:Addr}(O:p.block<B)(u:Value):af (w.setCell p u) t l L:=by
 refine⟨h.1,h.2.1,?_⟩
 rcases h.2.2 with z|⟨b,D,F,J,M⟩
 ·exact .inl z
 ·rcases H with z|⟨Q,G,d,N⟩
  ·exact .inl z
  ·rw[F]at d
   simp only[Option.some.injEq,Addr.mk.injEq]at d
   obtain⟨rfl,rfl,_⟩:=d
   refine .inr ⟨b,D,F,by simpa[World.setCell]using J,fun i I=>?_⟩
   rw[an w _ p u (by simp;omega)]
   exact M i I
theorem ar.stored{B t:Nat}{w:World}{n:Bool}{l:Option Addr}{d:Nat}{L:List Nat}{x:Int}(h:af w l d L∧bB B l L∧bZ L∧n=decide (x<0)∧val L=x.natAbs∧L.length≤35184372088832){p q:Addr}(z:p.block<B)(D:q.block<B)(F:t≤B)(u u':Value):
  ar t ((w.setCell p u).setCell q u') (.agg #[.bool n,.slice l L.length d]) x:=
 ⟨n,l,d,L,rfl,(h.1.store h.2.1 z u).store h.2.1 D u',h.2.1.mono F,h.2.2⟩
end Go.Proofs.YtmpkkhackbpflaaGreatDoor
