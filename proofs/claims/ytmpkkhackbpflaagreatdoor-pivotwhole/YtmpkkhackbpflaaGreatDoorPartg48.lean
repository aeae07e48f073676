/- Part 48 of the texts. -/
import Derived.Test.YtmpkkhackbpflaaGreatDoorPartg46
import Derived.Deep.CutRange
set_option maxHeartbeats 4000000
set_option maxRecDepth 20000
namespace Go.Proofs.YtmpkkhackbpflaaGreatDoor
open Go.RowKit
theorem ql{S:List Nat}(h:∀x∈S,x<18446744073709551616)(c p q:Nat):cj c S p q<18446744073709551616:=by
 unfold cj
 rw[List.getD_eq_getElem?_getD]
 cases e:S[p*c+q]? with
 |none=>decide
 |some x=>exact h x (List.mem_of_getElem? e)
theorem Ac{S:List Nat}(h:∀x∈S,x<18446744073709551616)(c i n q:Nat):∀x∈bf c S i n q,x<18446744073709551616:=by
 intro x d
 obtain⟨j,_,rfl⟩:=List.mem_map.1 d
 exact ql h c _ _
theorem Md{r c:Nat}{S:List Nat}(h:∀x∈S,x<18446744073709551616)(i k:Nat)(l:List Nat)(d:Nat):∀x∈qE r c S i k l d,x<18446744073709551616:=by
 intro x t
 unfold qE mW at t
 obtain⟨p,_,rfl⟩:=List.mem_map.1 t
 show(if _ then _ else _)<_
 split
 ·exact E6 c S i _ l d (by omega) (fun p q=>ql h c p q)
 ·exact ql h c _ _
theorem Me{r c:Nat}{S:List Nat}(h:∀x∈S,x<18446744073709551616)(j b:Nat)(l:b<18446744073709551616):∀x∈Jv r c S j b,x<18446744073709551616:=by
 intro x d
 unfold Jv FQ mW at d
 obtain⟨p,_,rfl⟩:=List.mem_map.1 d
 show(if _ then(if _ then _ else _)else _)<_
 split
 ·split
  ·exact l
  ·decide
 ·exact ql h c _ _
theorem Mf{r c:Nat}{S:List Nat}(h:∀x∈S,x<18446744073709551616)(L:List Nat):∀x∈Nk r c S L,x<18446744073709551616:=by
 intro x d
 unfold Nk mW at d
 obtain⟨p,_,rfl⟩:=List.mem_map.1 d
 exact ql h c _ _
theorem Fg{r c:Nat}{S:List Nat}(d:∀x∈S,x<18446744073709551616)(j:Nat):∀x∈eP r c S j,x<18446744073709551616:=Mf d _
theorem yB{r c:Nat}{S:List Nat}(d:∀x∈S,x<18446744073709551616):∀j,∀x∈dN r c S j,x<18446744073709551616
 |0=>d
 |j+1=>by
  have h:=Fg (r:=r) (c:=c) (yB (r:=r) (c:=c) d j) j
  show∀x∈mX r c (dN r c S j) j,x<18446744073709551616
  unfold mX
  split
  ·exact Me (Md h _ _ _ _) _ _ (yh _ (Ac h _ _ _ _))
  ·exact h
theorem sd(r c:Nat)(S:List Nat){j:Nat}(d:j≤c):∀x∈Iw r c S j,x<c:=fun _ h=>List.mem_range.1 ((v4 r c S j d).mem_iff.1 h)
attribute [local go_sem ↓] Go.wp_at_zero Go.wp_at_succ
theorem Mg(S:List Nat):∀k,NE (bs S) k=NF (fun p=>fZ (S.getD p 0)*fZ (S.getD p 0)) k
 |0=>rfl
 |k+1=>by
  show NE (bs S) k+fZ (bN (bs S) k)*fZ (bN (bs S) k)=NF _ k+_
  rw[Mg S k,jz]
theorem oS{I:List Int}:∀n,je I n=true↔∀k,k<n→ah (bN I k)=true
 |0=>⟨fun _ k d=>by omega,fun _=>rfl⟩
 |n+1=>by
  show(je I n&&ah (bN I n))=true↔_
  rw[Bool.and_eq_true,oS n]
  constructor
  ·rintro⟨l,t⟩ k d
   by_cases e:k=n
   ·subst e;exact t
   ·exact l k (by omega)
  ·exact fun h=>⟨fun k d=>h k (by omega),h n (by omega)⟩
theorem ww(w:World)(a b:Nat)(l:a<18446744073709551616)(t:b<18446744073709551616):ak (w.alloc (.cells #[.int .u64 (a:Nat),.int .u64 (b:Nat)] 28)) (some ⟨w.heap.size,0,none⟩) 2 [(a:Int),(b:Int)]:=by
 have h:bI (w.alloc (.cells #[.int .u64 (a:Nat),.int .u64 (b:Nat)] 28)) w.heap.size [a,b]:=heap_alloc_new w _
 exact h.bits (fun x d=>by simp at d;rcases d with rfl|rfl;exact l;exact t)
theorem yC(w:World)
  (Q:∀h T,Below w.heap.size w h→ak h T 2 [((4607182418800017408:Nat):Int),((4613937818241073152:Nat):Int)]→Calls Tryz.prog 11 #[.agg #[.int .i64 1,.int .i64 2,.slice T 2 2]] h fun e d=>∃(D F:Int) (G:Option Addr) (nq H:Nat) (L:Option Addr) (I:Nat) (M:Option Addr) (N:Nat),e=.returned (.tuple #[.agg #[.int .i64 D,.int .i64 F,.slice G nq H],.agg #[.int .i64 1,.int .i64 2,.slice L 2 I],.slice M 2 N,.int .i64 0])∧ak d L I (bs [4613937818241073152,4607182418800017408])∧iI d M N (bs [1,0])∧Below h.heap.size h d):
  Calls Tryz.prog 15 #[] w fun e h=>e=.returned (.bool true)∧Below w.heap.size w h:=by
 have U:=ac Q
 have V:=ac (ww w 4607182418800017408 4613937818241073152 (by decide) (by decide))
 have l:=ac (ag w (.cells #[.int .u64 ((4607182418800017408:Nat):Int),.int .u64 ((4613937818241073152:Nat):Int)] 28))
 clear Q
 go_enter Tryz.func15,Tryz.ntmps15
 go_wp2_with fail
 refine(uH U _ _ (uH l) (uH V)).mono ?_
 rintro e J ⟨D,F,G,nq,H,L,I,M,N,rfl,bv,bp,hb⟩
 obtain⟨b,t,rfl,_,Y⟩:=bv.ne (by decide)
 obtain⟨b2,z,rfl,_,Z⟩:=bp.ne (by decide)
 have c0:J.cell? ⟨b,t+0,none⟩=some (.int .u64 4613937818241073152):=Y 0 (by decide)
 have d0:J.cell? ⟨b2,z+0,none⟩=some (.int .i64 1):=Z 0 (by decide)
 rw[Nat.add_zero]at c0 d0
 replace l:=ac ((uH l).trans (hb.mono (uH l).size))
 clear hb U V bv bp Y Z
 have O:=ag J (.cells #[.int .i64 D,.int .i64 F,.slice G nq H] 25)
 have X:=ag (J.alloc (.cells #[.int .i64 D,.int .i64 F,.slice G nq H] 25)) (.cells #[.int .i64 1,.int .i64 2,.slice (some ⟨b,t,none⟩) 2 I] 25)
 have BC:=ac ((uH l).trans ((O.trans (X.mono O.size)).mono (uH l).size))
 clear O X l
 go_wp2
 go_ret
 exact⟨rfl,uH BC⟩
end Go.Proofs.YtmpkkhackbpflaaGreatDoor
