/- Part 25 of the texts. -/
import Derived.Test.YtcbcmlaogehimaaGreatDoorPartt24
set_option maxHeartbeats 4000000
set_option maxRecDepth 20000
namespace Go.Proofs.YtcbcmlaogehimaaGreatDoor
open Go.RowKit
attribute [local go_sem ↓] Go.wp_at_zero Go.wp_at_succ
theorem o9(r c:Int)(A:Option Addr)(n u:Nat)(w:World):
  Calls Tryz.prog 47 #[.agg #[.int .i64 r,.int .i64 c,.slice A n u]] w fun e F=>e=.returned (.bool (j5 r c n))∧Below w.heap.size w F:=by
 have d:=ac (ad w (.cells #[.int .i64 r,.int .i64 c,.slice A n u] 24))
 rcases(show(r<0∧j5 r c n=false)∨(0≤r∧6<r∧j5 r c n=false)∨(0≤r∧r≤6∧c<0∧j5 r c n=false)∨(0≤r∧r≤6∧0≤c∧6<c∧j5 r c n=false)∨(0≤r∧r≤6∧0≤c∧c≤6) by
  unfold j5
  by_cases h:0≤r∧r≤6∧0≤c∧c≤6
  ·omega
  ·rw[decide_eq_false (fun g=>h g.1)];simp;omega)with⟨h1,e⟩|⟨h1,h2,e⟩|⟨h1,h2,h3,e⟩|⟨h1,h2,h3,h4,e⟩|⟨h1,h2,h3,h4⟩
 ·rw[e]
  clear e
  go_enter Tryz.func47,Tryz.ntmps47
  go_wp2
  go_ret
  exact⟨rfl,uH d⟩
 ·rw[e]
  clear e
  go_enter Tryz.func47,Tryz.ntmps47
  go_wp2
  go_ret
  exact⟨rfl,uH d⟩
 ·rw[e]
  clear e
  go_enter Tryz.func47,Tryz.ntmps47
  go_wp2
  go_ret
  exact⟨rfl,uH d⟩
 ·rw[e]
  clear e
  go_enter Tryz.func47,Tryz.ntmps47
  go_wp2
  go_ret
  exact⟨rfl,uH d⟩
 ·have z:∃m:Nat,r*c=(m:Int)∧m≤36:=by
   obtain⟨a,rfl⟩:=Int.eq_ofNat_of_zero_le h1
   obtain⟨b,rfl⟩:=Int.eq_ofNat_of_zero_le h3
   refine⟨a*b,by simp,?_⟩
   have:a*b≤6*6:=Nat.mul_le_mul (by omega) (by omega)
   omega
  obtain⟨m,z,G⟩:=z
  have D:j5 r c n=decide ((n:Int)=(m:Int)):=decide_eq_decide.2 (by rw[z];exact⟨fun h=>h.2,fun h=>⟨⟨h1,h2,h3,h4⟩,h⟩⟩)
  rw[D]
  clear D
  go_enter Tryz.func47,Tryz.ntmps47
  go_wp2
  go_ret
  refine⟨?_,uH d⟩
  first|rfl|simp
theorem JW(r c n h b d i k q x:Nat)(w:World)(G:(i:Int)*(c:Int)=(q:Int))(A:q+k<n)(H:n≤36)
  (z:w.cell? ⟨b,d+(q+k),none⟩=some (.int .u64 (x:Nat))):
  Calls Tryz.prog 61 #[.agg #[.int .i64 r,.int .i64 c,.slice (some ⟨b,d,none⟩) n h],.int .i64 i,.int .i64 k] w fun e D=>e=.returned (.int .u64 (x:Nat))∧Below w.heap.size w D:=by
 have u:=ac (ad w (.cells #[.int .i64 r,.int .i64 c,.slice (some ⟨b,d,none⟩) n h] 24))
 have I:=aG z (uH u)
 clear z
 have F:(q:Int)+(k:Int)<(n:Int):=by omega
 go_enter Tryz.func61,Tryz.ntmps61
 go_wp2
 go_ret
 exact⟨rfl,uH u⟩
theorem yu(r c d i k:Nat)(z:Option Addr)(S:List Nat)(w:World)(h:Mx w z d r c S)(A:i<r)(D:k<c):
  Calls Tryz.prog 61 #[.agg #[.int .i64 r,.int .i64 c,.slice z S.length d],.int .i64 i,.int .i64 k] w fun e F=>e=.returned (.int .u64 (aQ c S i k:Nat))∧Below w.heap.size w F:=by
 obtain⟨b,u,rfl,I,G,H⟩:=h.cells A D
 exact JW r c S.length d b u i k (i*c) _ w (cD i c) H h.small G
theorem GK(r c n d i q p:Nat)(z:Option Addr)(w:World)(H:(i:Int)*(c:Int)=(q:Int))(I:((i:Int)+1)*(c:Int)=(p:Int))(A:q≤p)(D:p≤n)(F:n≤d)(J:n≤36)(K:i≤6):
  Calls Tryz.prog 59 #[.agg #[.int .i64 r,.int .i64 c,.slice z n d],.int .i64 i] w fun e G=>e=.returned (.slice (if d=q then z else z.map (·.add (q*1))) (p-q) (d-q))∧Below w.heap.size w G:=by
 have u:=ac (ad w (.cells #[.int .i64 r,.int .i64 c,.slice z n d] 24))
 by_cases h:d=q
 ·subst h
  rw[if_pos rfl]
  go_enter Tryz.func59,Tryz.ntmps59
  go_wp2
  go_ret
  exact⟨by simp,uH u⟩
 ·rw[if_neg h]
  go_enter Tryz.func59,Tryz.ntmps59
  go_wp2
  go_ret
  exact⟨by simp,uH u⟩
theorem DK(r c u i:Nat)(z:Option Addr)(S:List Nat)(w:World)(h:Mx w z u r c S)(D:i<r):
  Calls Tryz.prog 59 #[.agg #[.int .i64 r,.int .i64 c,.slice z S.length u],.int .i64 i] w fun e A=>∃F d,e=.returned (.slice F c d)∧al A F d (bF (GG c S i))∧Below w.heap.size w A:=by
 have I:(i+1)*c≤S.length:=by rw[h.2.1];exact Nat.mul_le_mul_right c D
 have J:i*c≤(i+1)*c:=Nat.mul_le_mul_right c (by omega)
 have G:=h.1.1
 rw[aH]at G
 have K:=h.2.2.1
 refine(GK r c S.length u i (i*c) ((i+1)*c) z w (cD i c) (by simp) J I G h.small (by omega)).mono ?_
 rintro e A ⟨rfl,H⟩
 rw[show(i+1)*c-i*c=c by rw[Nat.add_mul,Nat.one_mul];omega]
 exact⟨_,_,rfl,DC h H D,H⟩
def fo(w:World)(g:Nat)(lo s:Int):Prop:=∃n a l c X,ak w g (.bool n) (.slice a l c) (.int .i64 X)∧aT w (.agg #[.bool n,.slice a l c,.int .i64 X]) lo s
theorem fo.all{w d:World}{g:Nat}{lo s:Int}(h:fo w g lo s)(u:Below w.heap.size w d):fo d g lo s:=by
 obtain⟨n,a,l,c,X,z,A⟩:=h
 exact⟨n,a,l,c,X,z.all u,A.below u⟩
theorem fo.lt{w:World}{g:Nat}{lo s:Int}(h:fo w g lo s):g<w.heap.size:=by
 obtain⟨n,a,l,c,X,d,u⟩:=h
 exact d.lt
theorem fo.new(w:World)(lo:Int):fo (w.alloc (.cells #[.bool false,.slice none 0 0,.int .i64 0] 35)) w.heap.size lo 0:=
 ⟨false,none,0,0,0,ak.new w _ _ _,aT.zero _ _⟩
end Go.Proofs.YtcbcmlaogehimaaGreatDoor
namespace Go.Proofs.YtcbcmlaogehimaaGreatDoor
open Go.RowKit
def elems(s:Nat):List Nat:=(List.range 6).filter (fun c=>s.testBit c)
def top(s:Nat):Nat:=(elems s).getLast?.getD 0
def jc(w:World)(ao:Option Addr)(cap:Nat)(I:List Int):Prop:=
 I.length≤cap∧(∀x∈I,-9223372036854775808≤x∧x≤9223372036854775807)∧(I= []∨∃b off,ao=some ⟨b,off,none⟩∧b<w.heap.size∧∀i,i<I.length→w.cell? ⟨b,off+i,none⟩=some (.int .i64 (I[i]?.getD 0)))
theorem jc.below{w z:World}{A:Option Addr}{d:Nat}{I:List Int}(h:jc w A d I)(D:Below w.heap.size w z):jc z A d I:=by
 refine⟨h.1,h.2.1,?_⟩
 rcases h.2.2 with h|⟨b,u,H,F,J⟩
 ·exact .inl h
 ·refine .inr ⟨b,u,H,Nat.lt_of_lt_of_le F D.size,fun i G=>?_⟩
  rw[D.cell (p:=⟨b,u+i,none⟩) F]
  exact J i G
theorem jc.ne{w:World}{z:Option Addr}{u:Nat}{I:List Int}(h:jc w z u I)(A:0<I.length):∃b d,z=some ⟨b,d,none⟩∧b<w.heap.size∧∀i,i<I.length→w.cell? ⟨b,d+i,none⟩=some (.int .i64 (I[i]?.getD 0)):=by
 rcases h.2.2 with e|e
 ·rw[e]at A;simp at A
 ·exact e
def jX(I:List Int)(j:Nat):Int:=I[j]?.getD 0
theorem jc.wf{w:World}{z:Option Addr}{d:Nat}{I:List Int}(h:jc w z d I)(j:Nat):-9223372036854775808≤jX I j∧jX I j≤9223372036854775807:=by
 unfold jX
 by_cases u:j<I.length
 ·rw[List.getElem?_eq_getElem u];exact h.2.1 _ (List.getElem_mem u)
 ·rw[List.getElem?_eq_none (by omega)];simp
attribute [local go_sem ↓] Go.wp_at_zero Go.wp_at_succ
theorem GL{K:Act→World→Prop}{Q:Exit→Act→World→Prop}{a:Act}{w:World}(F:World→Prop)(h:F w)(k:∀W,F W→Exit.then K Q .normal a W):Exit.then K Q .normal a w:=k w h
def sO(r c:Int)(I:List Int):Int:=if j5 r c I.length=true then(if ja I I.length=true then 0 else 4)else 1
theorem pa(r c:Int)(K:Option Addr)(d:Nat)(I:List Int)(w:World)(hI:al w K d I)(hn:I.length≤35184372088830):
  Calls Tryz.prog 63 #[.agg #[.int .i64 r,.int .i64 c,.slice K I.length d]] w fun e L=>e=.returned (.int .i64 (sO r c I))∧Below w.heap.size w L:=by
 have A:=ac (fun L=>gP r c K I.length d L hn)
 have b0:=ad w (.cells #[.int .i64 r,.int .i64 c,.slice K I.length d] 24)
 have G:=ac b0;have X0:=ac (aK.new w (.int .i64 r) (.int .i64 c) (.slice K I.length d));have HI:=ac hI
 clear b0 hI
 cases ho:j5 r c I.length
 ·rw[ho]at A
  have e:sO r c I=1:=by unfold sO;rw[ho];rfl
  rw[e]
  rw[if_neg (by decide)]at A
  clear e ho
  go_enter Tryz.func63,Tryz.ntmps63
  go_wp2_with fail
  refine(uH A _).mono ?_
  rintro e w1 ⟨rfl,u⟩
  clear A
  go_wp2
  go_ret
  exact⟨rfl,(uH G).trans (u.mono (uH G).size)⟩
 ·rw[ho]at A
  rw[if_pos rfl]at A
  have e:sO r c I=if ja I I.length=true then 0 else 4:=by unfold sO;rw[ho];rfl
  rw[e]
  clear e ho
  obtain⟨X,D⟩:∃X:Int,(if ja I I.length=true then 0 else 4)=X:=⟨_,rfl⟩
  rw[D]
  obtain⟨n,F⟩:∃n,I.length=n:=⟨_,rfl⟩
  have HN:=ac F
  rw[F]at A G X0 hn D⊢
  have FE:=ac D
  clear F D
  go_enter Tryz.func63,Tryz.ntmps63
  go_wp2_with fail
  refine(uH A _).mono ?_
  rintro e w1 ⟨rfl,u⟩
  have Y:=ac ((uH G).trans (u.mono (uH G).size));have X1:=ac ((uH X0).all u)
  clear A G X0 u
  have Z:=(uH X1).c2
  go_wp2_with fail
  go_loopw[13] (fun i wr=>∃k:Nat,k≤n∧i=.int .i64 k∧Hid (Below w1.heap.size w1 wr)∧Hid (ja I k=true)) (fun i _=>n-(intOf i).toNat)
  case atStart=>exact⟨0,Nat.zero_le _,rfl,Below.refl _ _,rfl⟩
  case round=>
   clear Z
   obtain⟨k,hk,rfl,U,hF⟩:=hrel
   have Z:=((uH X1).all (uH U)).c2
   by_cases aa:k<n
   ·have am:(k:Int)<(n:Int):=by omega
    have BW:=ac ((uH Y).trans ((uH U).mono (uH Y).size))
    obtain⟨b,an,ah,hb,hc⟩:=((uH HI).below (uH BW)).ne (by rw[uH HN];omega)
    have N:=hc k (by rw[uH HN];exact aa)
    have O:=(uH HI).lt k
    have H:=ac (fun L=>gW (bH I k) L O)
    have J:=ac (show ja I (k+1)=(ja I k&&aj (bH I k))from rfl)
    subst ah
    clear hc O hb
    cases hf:aj (bH I k)
    ·rw[hf]at H J
     have e:ja I n=false:=by
      cases h:ja I n
      ·rfl
      ·have:=li I n (k+1) (by omega) h
       rw[uH J,Bool.and_false]at this
       cases this
     have E4:=ac (show(4:Int)=X from by rw[←uH FE,if_neg (by rw[e];decide)])
     clear e J hf
     generalize bH I k=x at*
     go_wp2_with fail
     refine(uH H _).mono ?_
     rintro e w3 ⟨rfl,z⟩
     have Q:=ac ((uH BW).trans (z.mono (uH BW).size))
     clear H z N Z
     go_wp2
     go_ret
     exact⟨aW (uH E4),uH Q⟩
    ·rw[hf]at H J
     rw[uH hF,Bool.true_and]at J
     clear hf
     generalize bH I k=x at*
     go_wp2_with fail
     refine(uH H _).mono ?_
     rintro e w3 ⟨rfl,z⟩
     have Q:=ac ((uH U).trans (z.mono (uH U).size))
     clear H z N Z
     go_wp2
     go_round
     case rel=>exact⟨k+1,by omega,by go_num,Q,J⟩
     case measure=>simp[intOf];omega
   ·have ae:k=n:=by omega
    subst ae
    have E0:=ac (show(0:Int)=X from by rw[←uH FE,if_pos (uH hF)])
    have Q:=ac ((uH Y).trans ((uH U).mono (uH Y).size))
    go_wp2
    go_ret
    exact⟨aW (uH E0),uH Q⟩
def DL(x:Int):Value:=.int .i64 x
end Go.Proofs.YtcbcmlaogehimaaGreatDoor
