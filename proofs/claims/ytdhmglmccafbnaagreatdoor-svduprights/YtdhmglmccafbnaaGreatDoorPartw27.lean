/- Part 27 of the texts. -/
import Derived.Deep.CutRange
import Derived.Test.YtdhmglmccafbnaaGreatDoorPartw26
set_option maxHeartbeats 4000000
set_option maxRecDepth 20000
namespace Go.Proofs.YtdhmglmccafbnaaGreatDoor
open Go.RowKit
attribute [local go_sem ↓] Go.wp_at_zero Go.wp_at_succ
def nilAt(N:List Rw)(i c:Nat):Prop:=(IQ (IW N i).R c).L.length=0
end Go.Proofs.YtdhmglmccafbnaaGreatDoor
namespace Go.Proofs.YtdhmglmccafbnaaGreatDoor
open Go.RowKit
def KK:Nat→Nat
 |0=>2098
 |c+1=>2*KK c+1
attribute [local go_sem ↓] Go.wp_at_zero Go.wp_at_succ
theorem qW(r c:Int)(z:Option Addr)(l:Nat)(I:List Int)(w:World)(H:af w z l I)(J:I.length≤35184372088830):
  Calls Tryz.prog 19 #[.agg #[.int .i64 r,.int .i64 c,.slice z I.length l]] w fun e w'=>e=.returned (.int .i64 (oo r c I))∧Below w.heap.size w w':=by
 have D:=aa (fun w'=>uV r c z I.length l w')
 have G:=aa (fun w' (h:af w' z l I)=>es z l I w' h J)
 have u:=aa (ac w (.cells #[.int .i64 r,.int .i64 c,.slice z I.length l] 25))
 have F:=aa (aw.new w (.int .i64 r) (.int .i64 c) (.slice z I.length l))
 have K:=aa H
 unfold oo
 generalize kK r c I.length=b at*
 generalize iD I I.length=f at*
 generalize I.length=n at*
 clear H
 cases b
 ·clear G
  go_enter Tryz.func19,Tryz.ntmps19
  go_wp2_with fail
  refine(uH D _).mono ?_
  rintro e N ⟨rfl,d⟩
  have L:=aa ((uH u).trans (d.mono (uH u).size))
  clear d D F
  go_wp2
  go_ret
  exact⟨rfl,uH L⟩
 ·cases f
  all_goals
   go_enter Tryz.func19,Tryz.ntmps19
   go_wp2_with fail
   refine(uH D _).mono ?_
   rintro e N ⟨rfl,d⟩
   replace u:=aa ((uH u).trans (d.mono (uH u).size));replace F:=aa ((uH F).all d)
   clear d D
   have M:=(uH F).c2
   go_wp2_with fail
   refine(uH G _ ((uH K).below (uH u))).mono ?_
   rintro e O ⟨rfl,d⟩
   replace u:=aa ((uH u).trans (d.mono (uH u).size))
   clear d G M
   go_wp2
   go_ret
   exact⟨rfl,uH u⟩
theorem GU(S:List Nat):∀k,IM (aL S) k=IP (fun p=>fZ (S.getD p 0)*fZ (S.getD p 0)) k
 |0=>rfl
 |k+1=>by
  show IM (aL S) k+fZ (cd (aL S) k)*fZ (cd (aL S) k)=IP _ k+_
  rw[GU S k,eI]
theorem qX{I:List Int}:∀n,iD I n=true↔∀k,k<n→aA (cd I k)=true
 |0=>⟨fun _ k d=>by omega,fun _=>rfl⟩
 |n+1=>by
  show(iD I n&&aA (cd I n))=true↔_
  rw[Bool.and_eq_true,qX n]
  constructor
  ·rintro⟨f,l⟩ k d
   by_cases e:k=n
   ·subst e;exact l
   ·exact f k (by omega)
  ·exact fun h=>⟨fun k d=>h k (by omega),h n (by omega)⟩
theorem EU{S:List Nat}(h:iD (aL S) S.length=true):∀x∈S,aA x=true:=fun x f=>by
 obtain⟨i,d,rfl⟩:=List.getElem_of_mem f
 have:=(qX _).1 h i d
 rw[eI]at this
 rwa[List.getD_eq_getElem?_getD,List.getElem?_eq_getElem d]at this
theorem BC{r c:Int}{I:List Int}(h:oo r c I=0):kK r c I.length=true∧iD I I.length=true:=by
 unfold oo at h
 by_cases d:kK r c I.length=true
 ·rw[if_pos d]at h
  refine⟨d,?_⟩
  by_cases f:iD I I.length=true
  ·exact f
  ·rw[if_neg f]at h;omega
 ·rw[if_neg d]at h;omega
theorem Mx.asked{w:World}{f:Option Addr}{d:Nat}{I:List Int}{r c:Int}(h:af w f d I)(u:oo r c I=0):∃p q:Nat,r=(p:Int)∧c=(q:Int)∧Mx w f d p q (a8 I)∧aL (a8 I)=I∧(∀x∈a8 I,aA x=true):=by
 obtain⟨z,D⟩:=BC u
 obtain⟨p,q,F,G,H,l⟩:=Mx.of h z
 refine⟨p,q,F,G,H,l,EU ?_⟩
 rw[l,dE]
 exact D
end Go.Proofs.YtdhmglmccafbnaaGreatDoor
namespace Go.Proofs.YtdhmglmccafbnaaGreatDoor
open Go.RowKit
theorem BG(d:List Nat):dq d=true↔∀k,k<d.length→aA (d.getD k 0)=true:=by
 unfold dq
 rw[qX]
 exact⟨fun h k f=>by have:=h k f;rwa[eI]at this,fun h k f=>by rw[eI];exact h k f⟩
def eJ(a b:Nat):Bool:=decide (cO a b<0)
end Go.Proofs.YtdhmglmccafbnaaGreatDoor
namespace Go.Proofs.YtdhmglmccafbnaaGreatDoor
def eP(r c:Nat)(S:List Nat)(L:List Nat):List Nat:=cG r L.length (fun i k=>bJ c S i (L.getD k 0))
theorem cN(r c:Nat)(S L:List Nat):(eP r c S L).length=r*L.length:=bH _ _ _
theorem Iq(r c:Nat)(S L:List Nat){p q:Nat}(d:p<r)(f:q<L.length):bJ L.length (eP r c S L) p q=bJ c S p (L.getD q 0):=og r L.length _ d f
open Go.RowKit
attribute [local go_sem ↓] Go.wp_at_zero Go.wp_at_succ
def dr(base:Nat)(w:World)(v:Value)(L:List Nat):Prop:=w.ownsRow base 3 1 v L.length ((aL L).map pe)
theorem dr.at{d:Nat}{w:World}{u:Option Addr}{n f:Nat}{S:List Nat}(h:dr d w (.slice u n f) S){j:Nat}(D:j<S.length):
  ∃g,u=some ⟨g,0,none⟩∧d≤g∧g<w.heap.size∧w.cell? ⟨g,j,none⟩=some (.int .i64 (S.getD j 0:Nat))∧w.frozen? ⟨g,j,none⟩=false∧
   ∀x:Nat,dr d (w.setCell ⟨g,j,none⟩ (.int .i64 (x:Nat))) (.slice u n f) (S.set j x):=by
 obtain⟨O,K⟩:=h
 rcases K with⟨_,Q⟩|⟨g,F,z,G,H,l,L,M,N,J⟩
 ·omega
 ·simp only[Value.slice.injEq]at G
  obtain⟨rfl,rfl,rfl⟩:=G
  have q:((aL S).map pe)[j]? =some (.int .i64 ((S[j]:Nat):Int)):=by
   rw[List.getElem?_map,show(aL S)[j]? =some ((S[j]:Nat):Int)from by unfold aL;rw[List.getElem?_map,List.getElem?_eq_getElem D];rfl];rfl
  rw[←J,List.getElem?_take,if_pos (by omega)]at q
  refine⟨g,rfl,H,(Array.getElem?_eq_some_iff.1 l).1,?_,frozen_of_row w g j _ _ l,fun x=>⟨by simp[aL],.inr ⟨g,f,z.setIfInBounds j (.int .i64 (x:Nat)),?_,H,heap_setCell_same w g j _ _ _ l,by simpa using L,M,by simpa using N,?_⟩⟩⟩
  ·rw[cell_of_row w g j _ _ _ l]
   have e:S.getD j 0=S[j]:=by rw[List.getD_eq_getElem?_getD,List.getElem?_eq_getElem D];rfl
   rw[e]
   simpa using q
  ·simp
  ·rw[Array.toList_setIfInBounds,List.take_set,List.length_set,J]
   unfold aL
   rw[List.map_set,List.map_set]
   rfl
end Go.Proofs.YtdhmglmccafbnaaGreatDoor
