/- Part 44 of the texts. -/
import Derived.Deep.CutRange
import Derived.Test.YtnnfjeieennffaaGreatDoorPartc43
set_option maxHeartbeats 4000000
set_option maxRecDepth 20000
namespace Go.Proofs.YtnnfjeieennffaaGreatDoor
open Go.RowKit
attribute [local go_sem ↓] Go.wp_at_zero Go.wp_at_succ
theorem rz(r c:Int)(t:Option Addr)(l:Nat)(I:List Int)(w:World)(F:ad w t l I)(G:I.length≤35184372088830):
  Calls Tryz.prog 10 #[.agg #[.int .i64 r,.int .i64 c,.slice t I.length l]] w fun e w'=>e=.returned (.int .i64 (mP r c I))∧Below w.heap.size w w':=by
 have z:=aa (fun w'=>vD r c t I.length l w')
 have D:=aa (fun w' (h:ad w' t l I)=>kL t l I w' h G)
 have m:=aa (ac w (.cells #[.int .i64 r,.int .i64 c,.slice t I.length l] 24))
 have A:=aa (aw.new w (.int .i64 r) (.int .i64 c) (.slice t I.length l))
 have H:=aa F
 unfold mP
 generalize lH r c I.length=b at*
 generalize gA I I.length=f at*
 generalize I.length=n at*
 clear F
 cases b
 ·clear D
  go_enter Tryz.func10,Tryz.ntmps10
  go_wp2_with fail
  refine(uH z _).mono ?_
  rintro e M ⟨rfl,d⟩
  have K:=aa ((uH m).trans (d.mono (uH m).size))
  clear d z A
  go_wp2
  go_ret
  exact⟨rfl,uH K⟩
 ·cases f
  all_goals
   go_enter Tryz.func10,Tryz.ntmps10
   go_wp2_with fail
   refine(uH z _).mono ?_
   rintro e M ⟨rfl,d⟩
   replace m:=aa ((uH m).trans (d.mono (uH m).size));replace A:=aa ((uH A).all d)
   clear d z
   have L:=(uH A).c2
   go_wp2_with fail
   refine(uH D _ ((uH H).below (uH m))).mono ?_
   rintro e N ⟨rfl,d⟩
   replace m:=aa ((uH m).trans (d.mono (uH m).size))
   clear d D L
   go_wp2
   go_ret
   exact⟨rfl,uH m⟩
theorem IC(S:List Nat):∀k,JM (az S) k=JN (fun p=>fZ (S.getD p 0)*fZ (S.getD p 0)) k
 |0=>rfl
 |k+1=>by
  show JM (az S) k+fZ (aL (az S) k)*fZ (aL (az S) k)=JN _ k+_
  rw[IC S k,fG]
theorem mW{I:List Int}:∀n,gA I n=true↔∀k,k<n→ap (aL I k)=true
 |0=>⟨fun _ k d=>by omega,fun _=>rfl⟩
 |n+1=>by
  show(gA I n&&ap (aL I n))=true↔_
  rw[Bool.and_eq_true,mW n]
  constructor
  ·rintro⟨f,l⟩ k d
   by_cases e:k=n
   ·subst e;exact l
   ·exact f k (by omega)
  ·exact fun h=>⟨fun k d=>h k (by omega),h n (by omega)⟩
theorem De{r c:Int}{I:List Int}(h:mP r c I=0):lH r c I.length=true∧gA I I.length=true:=by
 unfold mP at h
 by_cases d:lH r c I.length=true
 ·rw[if_pos d]at h
  refine⟨d,?_⟩
  by_cases f:gA I I.length=true
  ·exact f
  ·rw[if_neg f]at h;omega
 ·rw[if_neg d]at h;omega
theorem t8(w:World)(a b:Nat)(f:a<18446744073709551616)(l:b<18446744073709551616):ad (w.alloc (.cells #[.int .u64 (a:Nat),.int .u64 (b:Nat)] 31)) (some ⟨w.heap.size,0,none⟩) 2 [(a:Int),(b:Int)]:=by
 have h:bg (w.alloc (.cells #[.int .u64 (a:Nat),.int .u64 (b:Nat)] 31)) w.heap.size [a,b]:=heap_alloc_new w _
 exact h.bits (fun x d=>by simp at d;rcases d with rfl|rfl;exact f;exact l)
theorem rA(A D:Option Addr)(F G:Nat)(I:List Int)(w:World)(H:bH w A F I)(K:bH w D G I)(hl:I.length≤1000000):
  Calls Tryz.prog 13 #[.slice A I.length F,.slice D I.length G] w fun e w'=>e=.returned (.bool true)∧Below w.heap.size w w':=by
 have HI:=aa H;have HJ:=aa K
 have L:=aa (Below.refl w.heap.size w)
 generalize hn:I.length=n at*
 have l:=aa hn
 clear H K hn
 go_enter Tryz.func13,Tryz.ntmps13
 go_wp2_with fail
 go_loopw[5] (fun a wr=>∃k:Nat,k≤n∧a=.int .i64 k∧Hid (Below w.heap.size w wr)) (fun a _=>n-(intOf a).toNat)
 case atStart=>exact⟨0,Nat.zero_le _,rfl,L⟩
 case round=>
  clear L
  obtain⟨k,hk,rfl,d⟩:=hrel
  by_cases f:k<n
  ·have ae:(k:Int)<(n:Int):=by omega
   obtain⟨Q,U,e1,_,V⟩:=((uH HI).below (uH d)).ne (by rw[uH l];omega)
   obtain⟨X,Y,e2,_,Z⟩:=((uH HJ).below (uH d)).ne (by rw[uH l];omega)
   have M:=V k (by rw[uH l];exact f)
   have N:=Z k (by rw[uH l];exact f)
   subst e1
   subst e2
   generalize I[k]?.getD 0=z at*
   clear V Z
   have O:=aa (fun w' (h:Below wr.heap.size wr w')=>(show Below wr.heap.size wr w'∧w'.cell? ⟨Q,U+k,none⟩=some (.int .i64 z)∧w'.cell? ⟨X,Y+k,none⟩=some (.int .i64 z)from⟨h,ai M h,ai N h⟩))
   clear M N
   go_wp2_with fail
   go_region_held3(fun w'=>Below wr.heap.size wr w'∧w'.cell? ⟨Q,U+k,none⟩=some (.int .i64 z)∧w'.cell? ⟨X,Y+k,none⟩=some (.int .i64 z))
    (first|exact uH O _ (Below.refl _ _).drew|exact uH O _ (by assumption)|fail "KK")
    (fail "NO ARM")
   have m:=aa ((uH d).trans ((And.left (show Below wr.heap.size wr _∧_ from by assumption)).mono (uH d).size))
   clear d
   go_wp2_with fail
   go_round
   case rel=>exact⟨k+1,by omega,by go_num,m⟩
   case measure=>simp[intOf];omega
  ·have t:n=k:=by omega
   subst t
   go_wp2_with fail
   go_ret
   exact⟨rfl,uH d⟩
theorem vV(w:World)
  (M:∀w' N,Below w.heap.size w w'→ad w' N 2 [((4607182418800017408:Nat):Int),((4613937818241073152:Nat):Int)]→Calls Tryz.prog 9 #[.agg #[.int .i64 1,.int .i64 2,.slice N 2 2]] w' fun e d=>∃(m t:Int) (z:Option Addr) (nq A:Nat) (G:Option Addr) (D:Nat) (H:Option Addr) (K:Nat),e=.returned (.tuple #[.agg #[.int .i64 m,.int .i64 t,.slice z nq A],.agg #[.int .i64 1,.int .i64 2,.slice G 2 D],.slice H 2 K,.int .i64 0])∧ad d G D (az [4613937818241073152,4607182418800017408])∧bH d H K (az [1,0])∧Below w'.heap.size w' d):
  Calls Tryz.prog 14 #[] w fun e w'=>e=.returned (.bool true)∧Below w.heap.size w w':=by
 have O:=aa M
 have Q:=aa (t8 w 4607182418800017408 4613937818241073152 (by decide) (by decide))
 have f:=aa (ac w (.cells #[.int .u64 ((4607182418800017408:Nat):Int),.int .u64 ((4613937818241073152:Nat):Int)] 31))
 clear M
 go_enter Tryz.func14,Tryz.ntmps14
 go_wp2_with fail
 refine(uH O _ _ (uH f) (uH Q)).mono ?_
 rintro e F ⟨m,t,z,nq,A,G,D,H,K,rfl,Y,Z,hb⟩
 obtain⟨b,h,rfl,_,V⟩:=Y.ne (by decide)
 obtain⟨b2,l,rfl,_,X⟩:=Z.ne (by decide)
 have c0:F.cell? ⟨b,h+0,none⟩=some (.int .u64 4613937818241073152):=V 0 (by decide)
 have d0:F.cell? ⟨b2,l+0,none⟩=some (.int .i64 1):=X 0 (by decide)
 rw[Nat.add_zero]at c0 d0
 replace f:=aa ((uH f).trans (hb.mono (uH f).size))
 clear hb O Q Y Z V X
 have L:=ac F (.cells #[.int .i64 m,.int .i64 t,.slice z nq A] 24)
 have U:=ac (F.alloc (.cells #[.int .i64 m,.int .i64 t,.slice z nq A] 24)) (.cells #[.int .i64 1,.int .i64 2,.slice (some ⟨b,h,none⟩) 2 D] 24)
 have BC:=aa ((uH f).trans ((L.trans (U.mono L.size)).mono (uH f).size))
 clear L U f
 go_wp2
 go_ret
 exact⟨rfl,uH BC⟩
structure ms (wr:World) (H g:Nat) (p q:Nat) (so:Option Addr) (sd:Nat) (S:List Nat):Prop where
 box:aw wr g (.int .i64 p) (.int .i64 q) (.slice so S.length sd)
 bits:ad wr so sd (az S)
 new:bD H so (az S)
theorem ms.all{wr w':World}{H g p q:Nat}{d:Option Addr}{f:Nat}{S:List Nat}(h:ms wr H g p q d f S)(l:Below wr.heap.size wr w'):ms w' H g p q d f S:=⟨h.box.all l,h.bits.below l,h.new⟩
theorem ms.put{wr:World}{H g p q:Nat}{d:Option Addr}{f:Nat}{S:List Nat}(h:ms wr H g p q d f S){b k:Nat}{l:Int}(m:wr.cell? ⟨b,k,none⟩=some (.int .u64 l))(t:b<H)(z:Int):ms (wr.setCell ⟨b,k,none⟩ (.int .u64 z)) H g p q d f S:=
 ⟨h.box.other (p:=⟨b,k,none⟩) (h.box.away m) _,h.bits.far h.new t k _,h.new⟩
theorem Mx.from{w:World}{f:Option Addr}{d p q:Nat}{I:List Int}(h:ad w f d I)(l:lH (p:Int) (q:Int) I.length=true):Mx w f d p q (df I):=by
 obtain⟨m,t,A,D,z,_⟩:=Mx.of h l
 obtain rfl:p=m:=by omega
 obtain rfl:q=t:=by omega
 exact z
structure vW (w wr:World) (H go ga gb:Nat) (r c:Int) (ao:Option Addr) (n cap:Nat) (po:Option Addr) (pc p1 p2:Nat) (so:Option Addr) (sd:Nat) (S:List Nat) (p3 p4:Nat) (to':Option Addr) (td:Nat) (T:List Nat):Prop where
 bel:Below w.heap.size w wr
 m:aw wr w.heap.size (.int .i64 r) (.int .i64 c) (.slice ao n cap)
 own:aw wr go (.int .i64 r) (.int .i64 c) (.slice po n pc)
 copy:ja (w.heap.size+1) H wr po n
 s:ms wr H ga p1 p2 so sd S
 t:ms wr H gb p3 p4 to' td T
theorem vW.all{w wr:World}{H z A D:Nat}{r c:Int}{F:Option Addr}{n f:Nat}{G:Option Addr}{K L p2:Nat}{M:Option Addr}{N:Nat}{S:List Nat}{O Q:Nat}{l:Option Addr}{U:Nat}{T:List Nat}{w':World}(h:vW w wr H z A D r c F n f G K L p2 M N S O Q l U T)(d:Below wr.heap.size wr w'):vW w w' H z A D r c F n f G K L p2 M N S O Q l U T:=
 ⟨h.bel.trans (d.mono h.bel.size),h.m.all d,h.own.all d,h.copy.below d,h.s.all d,h.t.all d⟩
theorem vW.put{w wr:World}{H F G K:Nat}{r c:Int}{L:Option Addr}{n d:Nat}{A:Option Addr}{M N p2:Nat}{O:Option Addr}{Q:Nat}{S:List Nat}{U V:Nat}{f:Option Addr}{X:Nat}{T:List Nat}(h:vW w wr H F G K r c L n d A M N p2 O Q S U V f X T){j:Nat}(hj:j<n):∃g D,A=some ⟨g,0,none⟩∧wr.cell? ⟨g,j,none⟩=some (.int .u64 D)∧wr.frozen? ⟨g,j,none⟩=false∧∀z,vW w (wr.setCell ⟨g,j,none⟩ (.int .u64 z)) H F G K r c L n d A M N p2 O Q S U V f X T:=by
 obtain⟨g,e1,e2,Y,Z⟩:=h.copy.resolve_left (by omega)
 obtain⟨D,l⟩:=Z.cell hj
 exact⟨g,D,e1,l,Z.free j,fun z=>⟨h.bel.setCell (p:=⟨g,j,none⟩) (by show w.heap.size≤g;omega) _,h.m.other (p:=⟨g,j,none⟩) (h.m.away l) _,h.own.other (p:=⟨g,j,none⟩) (h.own.away l) _,h.copy.set g j z,h.s.put l Y z,h.t.put l Y z⟩⟩
end Go.Proofs.YtnnfjeieennffaaGreatDoor
