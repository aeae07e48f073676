/- Part 39 of the texts. -/
import Derived.Test.YtmpkkhackbpflaaGreatDoorPartg38
set_option maxHeartbeats 4000000
set_option maxRecDepth 20000
namespace Go.Proofs.YtmpkkhackbpflaaGreatDoor
open Go.RowKit
def eZ(w:World)(x:Nm)(z:Int):Prop:=af w x.ao x.cap x.L∧bZ x.L∧x.neg=decide (z<0)∧val x.L=z.natAbs∧x.L.length≤35184372088832
theorem eZ.num{w:World}{x:Nm}{z:Int}(h:eZ w x z):ar 0 w x.v z:=by
 refine⟨x.neg,x.ao,x.cap,x.L,rfl,h.1,?_,h.2.1,h.2.2.1,h.2.2.2.1,h.2.2.2.2⟩
 rcases h.1.2.2 with e|⟨b,d,e,_⟩
 ·exact .inl e
 ·exact .inr ⟨b,d,e,Nat.zero_le _⟩
theorem ar.nm{B:Nat}{w:World}{v:Value}{z:Int}(h:ar B w v z):∃x:Nm,v=.agg #[.bool x.neg,.slice x.ao x.L.length x.cap]∧eZ w x z:=by
 obtain⟨neg,l,d,L,rfl,t,_,D,F,G,H⟩:=h
 exact⟨⟨neg,l,d,L⟩,rfl,t,D,F,G,H⟩
theorem eZ.below{w d:World}{x:Nm}{z:Int}(h:eZ w x z)(l:Below w.heap.size w d):eZ d x z:=⟨h.1.below l,h.2⟩
theorem LI:(Tryz.prog.info? 55).map (fun i=>(i.zero,i.size,i.bytes))=some (some (.agg #[.bool false,.slice none 0 0]),2,32):=by kernel_rfl
attribute [local go_sem ↓] Go.wp_at_zero Go.wp_at_succ
def Ig(r c:Int)(I:List Int):Int:=if ya r c I.length=true then(if je I I.length=true then 0 else 4)else 1
theorem qg(r c:Int)(L:Option Addr)(d:Nat)(I:List Int)(w:World)(hI:ak w L d I)(hn:I.length≤35184372088830):
  Calls Tryz.prog 41 #[.agg #[.int .i64 r,.int .i64 c,.slice L I.length d]] w fun e M=>e=.returned (.int .i64 (Ig r c I))∧Below w.heap.size w M:=by
 have z:=ac (fun M=>lk r c L I.length d M hn)
 have b0:=ag w (.cells #[.int .i64 r,.int .i64 c,.slice L I.length d] 25)
 have G:=ac b0;have Y:=ac (aT.new w (.int .i64 r) (.int .i64 c) (.slice L I.length d));have HI:=ac hI
 clear b0 hI
 cases ho:ya r c I.length
 ·rw[ho]at z
  have e:Ig r c I=1:=by unfold Ig;rw[ho];rfl
  rw[e]
  rw[if_neg (by decide)]at z
  clear e ho
  go_enter Tryz.func41,Tryz.ntmps41
  go_wp2_with fail
  refine(uH z _).mono ?_
  rintro e w1 ⟨rfl,l⟩
  clear z
  go_wp2
  go_ret
  exact⟨rfl,(uH G).trans (l.mono (uH G).size)⟩
 ·rw[ho]at z
  rw[if_pos rfl]at z
  have e:Ig r c I=if je I I.length=true then 0 else 4:=by unfold Ig;rw[ho];rfl
  rw[e]
  clear e ho
  obtain⟨U,D⟩:∃U:Int,(if je I I.length=true then 0 else 4)=U:=⟨_,rfl⟩
  rw[D]
  obtain⟨n,F⟩:∃n,I.length=n:=⟨_,rfl⟩
  have HN:=ac F
  rw[F]at z G Y hn D⊢
  have FE:=ac D
  clear F D
  go_enter Tryz.func41,Tryz.ntmps41
  go_wp2_with fail
  refine(uH z _).mono ?_
  rintro e w1 ⟨rfl,l⟩
  have V:=ac ((uH G).trans (l.mono (uH G).size));have X1:=ac ((uH Y).all l)
  clear z G Y l
  have X:=(uH X1).c2
  go_wp2_with fail
  go_loopw[13] (fun i wr=>∃k:Nat,k≤n∧i=.int .i64 k∧Hid (Below w1.heap.size w1 wr)∧Hid (je I k=true)) (fun i _=>n-(intOf i).toNat)
  case atStart=>exact⟨0,Nat.zero_le _,rfl,Below.refl _ _,rfl⟩
  case round=>
   clear X
   obtain⟨k,hk,rfl,T,hF⟩:=hrel
   have X:=((uH X1).all (uH T)).c2
   by_cases Z:k<n
   ·have ae:(k:Int)<(n:Int):=by omega
    have BW:=ac ((uH V).trans ((uH T).mono (uH V).size))
    obtain⟨b,ai,ad,hb,hc⟩:=((uH HI).below (uH BW)).ne (by rw[uH HN];omega)
    have N:=hc k (by rw[uH HN];exact Z)
    have O:=(uH HI).lt k
    have H:=ac (fun M=>fi (bN I k) M O)
    have J:=ac (show je I (k+1)=(je I k&&ah (bN I k))from rfl)
    subst ad
    clear hc O hb
    cases hf:ah (bN I k)
    ·rw[hf]at H J
     have e:je I n=false:=by
      cases h:je I n
      ·rfl
      ·have:=vT I n (k+1) (by omega) h
       rw[uH J,Bool.and_false]at this
       cases this
     have E4:=ac (show(4:Int)=U from by rw[←uH FE,if_neg (by rw[e];decide)])
     clear e J hf
     generalize bN I k=x at*
     go_wp2_with fail
     refine(uH H _).mono ?_
     rintro e w3 ⟨rfl,t⟩
     have Q:=ac ((uH BW).trans (t.mono (uH BW).size))
     clear H t N X
     go_wp2
     go_ret
     exact⟨bj (uH E4),uH Q⟩
    ·rw[hf]at H J
     rw[uH hF,Bool.true_and]at J
     clear hf
     generalize bN I k=x at*
     go_wp2_with fail
     refine(uH H _).mono ?_
     rintro e w3 ⟨rfl,t⟩
     have Q:=ac ((uH T).trans (t.mono (uH T).size))
     clear H t N X
     go_wp2
     go_round
     case rel=>exact⟨k+1,by omega,by go_num,Q,J⟩
     case measure=>simp[intOf];omega
   ·have aa:k=n:=by omega
    subst aa
    have E0:=ac (show(0:Int)=U from by rw[←uH FE,if_pos (uH hF)])
    have Q:=ac ((uH V).trans ((uH T).mono (uH V).size))
    go_wp2
    go_ret
    exact⟨bj (uH E0),uH Q⟩
theorem Bs(R:List Nm)(x:Nm)(j:Nat):bT (R++[x]) j=if j<R.length then bT R j else if j=R.length then x else Nm.nil:=by
 unfold bT
 by_cases h:j<R.length
 ·rw[if_pos h,List.getElem?_append_left h]
 ·rw[if_neg h]
  by_cases e:j=R.length
  ·subst e;simp
  ·rw[if_neg e,List.getElem?_eq_none (by simp;omega)];rfl
theorem Bt(M:List Rw)(x:Rw)(j:Nat):aY (M++[x]) j=if j<M.length then aY M j else if j=M.length then x else Rw.nil:=by
 unfold aY
 by_cases h:j<M.length
 ·rw[if_pos h,List.getElem?_append_left h]
 ·rw[if_neg h]
  by_cases e:j=M.length
  ·subst e;simp
  ·rw[if_neg e,List.getElem?_eq_none (by simp;omega)];rfl
theorem Bu:(Tryz.prog.info? 55).map (fun i=>(i.zero,i.size,i.bytes))=some (some (.agg #[.bool false,.slice none 0 0]),2,32):=by kernel_rfl
theorem Ih:(Tryz.prog.info? 75).map (fun i=>(i.zero,i.size,i.bytes))=some (some (.slice none 0 0),1,24):=by kernel_rfl
theorem mG(z:Option Addr)(d:Nat)(M:List Rw)(w:World)(h:gV w z d M)(D:oY M):
  Calls Tryz.prog 116 #[.slice z M.length d] w fun e H=>e=.returned (.int .i64 (iA M))∧w=H:=by
 by_cases l:M= []
 ·subst l
  go_enter Tryz.func116,Tryz.ntmps116
  go_wp2
  go_ret
  exact⟨rfl,rfl⟩
 ·have F:0<M.length:=List.length_pos_iff.2 l
  obtain⟨b,L,rfl,O,G⟩:=h.ne F
  have t:=G 0 F
  rw[Nat.add_zero]at t
  have I:((M.length:Int)==0)=false:=by simp;exact l
  have N:=D.row 0
  clear h G D l
  unfold iA
  generalize (aY M 0).R.length=n at*
  generalize (aY M 0).ao=Q at*
  generalize (aY M 0).cap=T at*
  generalize M.length=m at*
  have J:(0:Int)<(m:Int):=by omega
  go_enter Tryz.func116,Tryz.ntmps116
  go_wp2
  go_ret
  exact⟨rfl,rfl⟩
end Go.Proofs.YtmpkkhackbpflaaGreatDoor
