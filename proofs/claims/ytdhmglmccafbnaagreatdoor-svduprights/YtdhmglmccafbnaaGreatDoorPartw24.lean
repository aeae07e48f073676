/- Part 24 of the texts. -/
import Derived.Test.YtdhmglmccafbnaaGreatDoorPartw23
import Derived.DeepKeys4
set_option maxHeartbeats 4000000
set_option maxRecDepth 20000
namespace Go.Proofs.YtdhmglmccafbnaaGreatDoor
open Go.RowKit
structure Nm where
 neg:Bool
 ao:Option Addr
 cap:Nat
 L:List Nat
structure Rw where
 ao:Option Addr
 cap:Nat
 R:List Nm
def Nm.nil:Nm:=⟨false,none,0,[]⟩
def Rw.nil:Rw:=⟨none,0,[]⟩
def IQ(R:List Nm)(k:Nat):Nm:=R[k]?.getD Nm.nil
def IW(M:List Rw)(i:Nat):Rw:=M[i]?.getD Rw.nil
def fo(w:World)(ao:Option Addr)(cap:Nat)(I:List Int):Prop:=
 I.length≤cap∧(∀x∈I,-9223372036854775808≤x∧x≤9223372036854775807)∧(I= []∨∃b off,ao=some ⟨b,off,none⟩∧b<w.heap.size∧∀i,i<I.length→w.cell? ⟨b,off+i,none⟩=some (.int .i64 (I[i]?.getD 0)))
theorem fo.below{w w':World}{l:Option Addr}{d:Nat}{I:List Int}(h:fo w l d I)(u:Below w.heap.size w w'):fo w' l d I:=by
 refine⟨h.1,h.2.1,?_⟩
 rcases h.2.2 with h|⟨b,f,F,z,G⟩
 ·exact .inl h
 ·refine .inr ⟨b,f,F,Nat.lt_of_lt_of_le z u.size,fun i D=>?_⟩
  rw[u.cell (p:=⟨b,f+i,none⟩) z]
  exact G i D
theorem fo.ne{w:World}{l:Option Addr}{f:Nat}{I:List Int}(h:fo w l f I)(u:0<I.length):∃b d,l=some ⟨b,d,none⟩∧b<w.heap.size∧∀i,i<I.length→w.cell? ⟨b,d+i,none⟩=some (.int .i64 (I[i]?.getD 0)):=by
 rcases h.2.2 with e|e
 ·rw[e]at u;simp at u
 ·exact e
def jk(I:List Int)(j:Nat):Int:=I[j]?.getD 0
theorem fo.wf{w:World}{l:Option Addr}{d:Nat}{I:List Int}(h:fo w l d I)(j:Nat):-9223372036854775808≤jk I j∧jk I j≤9223372036854775807:=by
 unfold jk
 by_cases f:j<I.length
 ·rw[List.getElem?_eq_getElem f];exact h.2.1 _ (List.getElem_mem f)
 ·rw[List.getElem?_eq_none (by omega)];simp
attribute [local go_sem ↓] Go.wp_at_zero Go.wp_at_succ
theorem EK{K:Act→World→Prop}{Q:Exit→Act→World→Prop}{a:Act}{w:World}(F:World→Prop)(h:F w)(k:∀W,F W→Exit.then K Q .normal a W):Exit.then K Q .normal a w:=k w h
def oo(r c:Int)(I:List Int):Int:=if kK r c I.length=true then(if iD I I.length=true then 0 else 4)else 1
theorem oq(r c:Int)(J:Option Addr)(d:Nat)(I:List Int)(w:World)(hI:af w J d I)(hn:I.length≤35184372088830):
  Calls Tryz.prog 88 #[.agg #[.int .i64 r,.int .i64 c,.slice J I.length d]] w fun e w'=>e=.returned (.int .i64 (oo r c I))∧Below w.heap.size w w':=by
 have u:=aa (fun w'=>gd r c J I.length d w' hn)
 have b0:=ac w (.cells #[.int .i64 r,.int .i64 c,.slice J I.length d] 25)
 have F:=aa b0;have V:=aa (aw.new w (.int .i64 r) (.int .i64 c) (.slice J I.length d));have HI:=aa hI
 clear b0 hI
 cases ho:kK r c I.length
 ·rw[ho]at u
  have e:oo r c I=1:=by unfold oo;rw[ho];rfl
  rw[e]
  rw[if_neg (by decide)]at u
  clear e ho
  go_enter Tryz.func88,Tryz.ntmps88
  go_wp2_with fail
  refine(uH u _).mono ?_
  rintro e w1 ⟨rfl,f⟩
  clear u
  go_wp2
  go_ret
  exact⟨rfl,(uH F).trans (f.mono (uH F).size)⟩
 ·rw[ho]at u
  rw[if_pos rfl]at u
  have e:oo r c I=if iD I I.length=true then 0 else 4:=by unfold oo;rw[ho];rfl
  rw[e]
  clear e ho
  obtain⟨O,z⟩:∃O:Int,(if iD I I.length=true then 0 else 4)=O:=⟨_,rfl⟩
  rw[z]
  obtain⟨n,D⟩:∃n,I.length=n:=⟨_,rfl⟩
  have HN:=aa D
  rw[D]at u F V hn z⊢
  have FE:=aa z
  clear D z
  go_enter Tryz.func88,Tryz.ntmps88
  go_wp2_with fail
  refine(uH u _).mono ?_
  rintro e w1 ⟨rfl,f⟩
  have Q:=aa ((uH F).trans (f.mono (uH F).size));have X1:=aa ((uH V).all f)
  clear u F V f
  have U:=(uH X1).c2
  go_wp2_with fail
  go_loopw[13] (fun i wr=>∃k:Nat,k≤n∧i=.int .i64 k∧Hid (Below w1.heap.size w1 wr)∧Hid (iD I k=true)) (fun i _=>n-(intOf i).toNat)
  case atStart=>exact⟨0,Nat.zero_le _,rfl,Below.refl _ _,rfl⟩
  case round=>
   clear U
   obtain⟨k,hk,rfl,N,hF⟩:=hrel
   have U:=((uH X1).all (uH N)).c2
   by_cases X:k<n
   ·have am:(k:Int)<(n:Int):=by omega
    have Y:=aa ((uH Q).trans ((uH N).mono (uH Q).size))
    obtain⟨b,ap,ae,hb,hc⟩:=((uH HI).below (uH Y)).ne (by rw[uH HN];omega)
    have K:=hc k (by rw[uH HN];exact X)
    have L:=(uH HI).lt k
    have G:=aa (fun w'=>gg (cd I k) w' L)
    have H:=aa (show iD I (k+1)=(iD I k&&aA (cd I k))from rfl)
    subst ae
    clear hc L hb
    cases hf:aA (cd I k)
    ·rw[hf]at G H
     have e:iD I n=false:=by
      cases h:iD I n
      ·rfl
      ·have:=s8 I n (k+1) (by omega) h
       rw[uH H,Bool.and_false]at this
       cases this
     have E4:=aa (show(4:Int)=O from by rw[←uH FE,if_neg (by rw[e];decide)])
     clear e H hf
     generalize cd I k=x at*
     go_wp2_with fail
     refine(uH G _).mono ?_
     rintro e w3 ⟨rfl,l⟩
     have M:=aa ((uH Y).trans (l.mono (uH Y).size))
     clear G l K U
     go_wp2
     go_ret
     exact⟨aH (uH E4),uH M⟩
    ·rw[hf]at G H
     rw[uH hF,Bool.true_and]at H
     clear hf
     generalize cd I k=x at*
     go_wp2_with fail
     refine(uH G _).mono ?_
     rintro e w3 ⟨rfl,l⟩
     have M:=aa ((uH N).trans (l.mono (uH N).size))
     clear G l K U
     go_wp2
     go_round
     case rel=>exact⟨k+1,by omega,by go_num,M,H⟩
     case measure=>simp[intOf];omega
   ·have Z:k=n:=by omega
    subst Z
    have E0:=aa (show(0:Int)=O from by rw[←uH FE,if_pos (uH hF)])
    have M:=aa ((uH Q).trans ((uH N).mono (uH Q).size))
    go_wp2
    go_ret
    exact⟨aH (uH E0),uH M⟩
def pe(x:Int):Value:=.int .i64 x
theorem EM:(Tryz.prog.info? 3).map (fun i=>(i.zero,i.size,i.bytes))=some (some (.int .i64 0),1,8):=by kernel_rfl
theorem Bs{w:World}{f n:Nat}{v:Value}{I:List Int}(h:w.ownsRow f 3 1 v n (I.map pe))(D:∀x∈I,-9223372036854775808≤x∧x≤9223372036854775807):∃u d,v=.slice u I.length d∧fo w u d I:=by
 have G:I.length=n:=by have:=h.1;simpa using this
 rcases h.2 with⟨l,K⟩|⟨g,d,H,l,L,z,M,N,O,J⟩
 ·have:I= []:=List.length_eq_zero_iff.1 (by omega)
  subst this
  exact⟨none,0,l,⟨by simp,by simp,.inl rfl⟩⟩
 ·refine⟨some ⟨g,0,none⟩,d,by rw[G];exact l,⟨by omega,D,.inr ⟨g,0,rfl,(Array.getElem?_eq_some_iff.1 z).1,fun i F=>?_⟩⟩⟩
  have q:(I.map pe)[i]? =some (.int .i64 (I[i]?.getD 0)):=by
   rw[List.getElem?_map,List.getElem?_eq_getElem F];rfl
  rw[←J,List.getElem?_take,if_pos (by omega)]at q
  rw[cell_of_row w g _ _ _ _ z,Nat.zero_add]
  simpa using q
end Go.Proofs.YtdhmglmccafbnaaGreatDoor
namespace Go.Proofs.YtdhmglmccafbnaaGreatDoor
def tW(r c:Nat)(S:List Nat)(i k C s:Nat):List Nat:=cG r c (fun p q=>if p=i then aV (mV C (bJ c S i q)) (mV s (bJ c S k q))else if p=k then aV (mV C (bJ c S k q)) (fN (mV s (bJ c S i q)))else bJ c S p q)
theorem EN(r c:Nat)(S:List Nat)(i k C s:Nat):(tW r c S i k C s).length=r*c:=bH _ _ _
theorem Io(r c:Nat)(S:List Nat)(i k C s:Nat){p q:Nat}(d:p<r)(f:q<c):bJ c (tW r c S i k C s) p q=if p=i then aV (mV C (bJ c S i q)) (mV s (bJ c S k q))else if p=k then aV (mV C (bJ c S k q)) (fN (mV s (bJ c S i q)))else bJ c S p q:=og r c _ d f
theorem EO(d:List Nat):yi (aL d)=d:=by
 unfold yi aL
 rw[List.map_map]
 exact List.map_id'' (fun x=>by simp) d
end Go.Proofs.YtdhmglmccafbnaaGreatDoor
